/-
  The closed facts that the card of FnKeyFormat asks for, each by itself: in one declaration the kernel runs out of memory. No condition.
-/
import Derived.Test.YtodafbfhcgphpaaDoorRows
import Derived.Test.YtodafbfhcgphpaaDoorCards
import Derived.Test.YtodafbfhcgphpaaDoorTie
import Derived.SevenTiedAt
import Derived.ProofKit
namespace Go.Proofs.YtodafbfhcgphpaaDoor
theorem c_goes_FnKeyFormat : false = Rows.fnKeyFormatRow.goesBy Tryd.pinned.checked.prog := by kernel_rfl
theorem c_wf_FnKeyFormat : Rows.fnKeyFormatRow.wfByText (OpenSpec.ofChange Rows.fnKeyFormatSpec) = true := by kernel_rfl
theorem c_main_FnKeyFormat : Tryd.pinned.checked.prog.mainIs = some (Rows.fnKeyFormatCard.stood.harness.1, Rows.fnKeyFormatCard.stood.harness.2.toList) := by kernel_rfl
theorem c_looks_FnKeyFormat : false = Tryd.pinned.checked.prog.looks [] := by kernel_rfl
end Go.Proofs.YtodafbfhcgphpaaDoor
