/-
  The closed facts that the card of FnExactKeyFormat asks for, each by itself: in one declaration the kernel runs out of memory. No condition.
-/
import Derived.Test.YtodafbfhcgphpaaDoorRows
import Derived.Test.YtodafbfhcgphpaaDoorCards
import Derived.Test.YtodafbfhcgphpaaDoorTie
import Derived.SevenTiedAt
import Derived.ProofKit
namespace Go.Proofs.YtodafbfhcgphpaaDoor
theorem c_goes_FnExactKeyFormat : false = Rows.fnExactKeyFormatRow.goesBy Tryd.pinned.checked.prog := by kernel_rfl
theorem c_wf_FnExactKeyFormat : Rows.fnExactKeyFormatRow.wfByText (OpenSpec.ofChange Rows.fnExactKeyFormatSpec) = true := by kernel_rfl
theorem c_main_FnExactKeyFormat : Tryd.pinned.checked.prog.mainIs = some (Rows.fnExactKeyFormatCard.stood.harness.1, Rows.fnExactKeyFormatCard.stood.harness.2.toList) := by kernel_rfl
theorem c_looks_FnExactKeyFormat : false = Tryd.pinned.checked.prog.looks [] := by kernel_rfl
end Go.Proofs.YtodafbfhcgphpaaDoor
