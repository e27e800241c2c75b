/-
  The closed facts that the card of FnKeyBlank asks for, each by itself: in one declaration the kernel runs out of memory. No condition.
-/
import Derived.Test.YtnfigpknejmkmaaGreatDoorRows
import Derived.Test.YtnfigpknejmkmaaGreatDoorCards
import Derived.Test.YtnfigpknejmkmaaGreatDoorTie
import Derived.SevenTiedAt
import Derived.ProofKit
namespace Go.Proofs.YtnfigpknejmkmaaGreatDoor
theorem c_goes_FnKeyBlank : false = Rows.fnKeyBlankRow.goesBy Tryz.pinned.checked.prog := by kernel_rfl
theorem c_wf_FnKeyBlank : Rows.fnKeyBlankRow.wfByText (OpenSpec.ofChange Rows.fnKeyBlankSpec) = true := by kernel_rfl
theorem c_main_FnKeyBlank : Tryz.pinned.checked.prog.mainIs = some (Rows.fnKeyBlankCard.stood.harness.1, Rows.fnKeyBlankCard.stood.harness.2.toList) := by kernel_rfl
theorem c_looks_FnKeyBlank : true = Tryz.pinned.checked.prog.looks [] := by kernel_rfl
end Go.Proofs.YtnfigpknejmkmaaGreatDoor
