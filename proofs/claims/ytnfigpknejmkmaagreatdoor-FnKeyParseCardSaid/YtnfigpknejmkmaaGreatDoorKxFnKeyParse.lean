/-
  The closed facts that the card of FnKeyParse asks for, each by itself: in one declaration the kernel runs out of memory. No condition.
-/
import Derived.Test.YtnfigpknejmkmaaGreatDoorRows
import Derived.Test.YtnfigpknejmkmaaGreatDoorCards
import Derived.Test.YtnfigpknejmkmaaGreatDoorTie
import Derived.SevenTiedAt
import Derived.ProofKit
namespace Go.Proofs.YtnfigpknejmkmaaGreatDoor
theorem c_goes_FnKeyParse : false = Rows.fnKeyParseRow.goesBy Tryz.pinned.checked.prog := by kernel_rfl
theorem c_wf_FnKeyParse : Rows.fnKeyParseRow.wfByText (OpenSpec.ofChange Rows.fnKeyParseSpec) = true := by kernel_rfl
theorem c_main_FnKeyParse : Tryz.pinned.checked.prog.mainIs = some (Rows.fnKeyParseCard.stood.harness.1, Rows.fnKeyParseCard.stood.harness.2.toList) := by kernel_rfl
theorem c_looks_FnKeyParse : true = Tryz.pinned.checked.prog.looks [] := by kernel_rfl
end Go.Proofs.YtnfigpknejmkmaaGreatDoor
