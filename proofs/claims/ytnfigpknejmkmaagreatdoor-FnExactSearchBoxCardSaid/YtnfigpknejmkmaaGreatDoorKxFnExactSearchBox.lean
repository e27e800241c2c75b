/-
  The closed facts that the card of FnExactSearchBox asks for, each by itself: in one declaration the kernel runs out of memory. No condition.
-/
import Derived.Test.YtnfigpknejmkmaaGreatDoorRows
import Derived.Test.YtnfigpknejmkmaaGreatDoorCards
import Derived.Test.YtnfigpknejmkmaaGreatDoorTie
import Derived.SevenTiedAt
import Derived.ProofKit
namespace Go.Proofs.YtnfigpknejmkmaaGreatDoor
theorem c_goes_FnExactSearchBox : false = Rows.fnExactSearchBoxRow.goesBy Tryz.pinned.checked.prog := by kernel_rfl
theorem c_wf_FnExactSearchBox : Rows.fnExactSearchBoxRow.wfByText (OpenSpec.ofChange Rows.fnExactSearchBoxSpec) = true := by kernel_rfl
theorem c_main_FnExactSearchBox : Tryz.pinned.checked.prog.mainIs = some (Rows.fnExactSearchBoxCard.stood.harness.1, Rows.fnExactSearchBoxCard.stood.harness.2.toList) := by kernel_rfl
theorem c_looks_FnExactSearchBox : true = Tryz.pinned.checked.prog.looks [] := by kernel_rfl
end Go.Proofs.YtnfigpknejmkmaaGreatDoor
