/-
  The closed facts that the card of FnExactKeyParse asks for, each by itself: in one declaration the kernel runs out of memory. No condition.
-/
import Derived.Test.YtnfigpknejmkmaaGreatDoorRows
import Derived.Test.YtnfigpknejmkmaaGreatDoorCards
import Derived.Test.YtnfigpknejmkmaaGreatDoorTie
import Derived.SevenTiedAt
import Derived.ProofKit
namespace Go.Proofs.YtnfigpknejmkmaaGreatDoor
theorem c_goes_FnExactKeyParse : false = Rows.fnExactKeyParseRow.goesBy Tryz.pinned.checked.prog := by kernel_rfl
theorem c_wf_FnExactKeyParse : Rows.fnExactKeyParseRow.wfByText (OpenSpec.ofChange Rows.fnExactKeyParseSpec) = true := by kernel_rfl
theorem c_main_FnExactKeyParse : Tryz.pinned.checked.prog.mainIs = some (Rows.fnExactKeyParseCard.stood.harness.1, Rows.fnExactKeyParseCard.stood.harness.2.toList) := by kernel_rfl
theorem c_looks_FnExactKeyParse : true = Tryz.pinned.checked.prog.looks [] := by kernel_rfl
end Go.Proofs.YtnfigpknejmkmaaGreatDoor
