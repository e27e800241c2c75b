/-
  The closed facts that the card of FnExactKeyValid asks for, each by itself: in one declaration the kernel runs out of memory. No condition.
-/
import Derived.Test.YtodafbfhcgphpaaDoorRows
import Derived.Test.YtodafbfhcgphpaaDoorCards
import Derived.Test.YtodafbfhcgphpaaDoorTie
import Derived.SevenTiedAt
import Derived.ProofKit
namespace Go.Proofs.YtodafbfhcgphpaaDoor
theorem c_goes_FnExactKeyValid : false = Rows.fnExactKeyValidRow.goesBy Tryd.pinned.checked.prog := by kernel_rfl
theorem c_wf_FnExactKeyValid : Rows.fnExactKeyValidRow.wfByText (OpenSpec.ofChange Rows.fnExactKeyValidSpec) = true := by kernel_rfl
theorem c_main_FnExactKeyValid : Tryd.pinned.checked.prog.mainIs = some (Rows.fnExactKeyValidCard.stood.harness.1, Rows.fnExactKeyValidCard.stood.harness.2.toList) := by kernel_rfl
theorem c_looks_FnExactKeyValid : false = Tryd.pinned.checked.prog.looks [] := by kernel_rfl
end Go.Proofs.YtodafbfhcgphpaaDoor
