/-
  The closed facts that the card of FnKeyParts asks for, each by itself: in one declaration the kernel runs out of memory. No condition.
-/
import Derived.Test.YtpihibconbejlaaDoorRows
import Derived.Test.YtpihibconbejlaaDoorCards
import Derived.Test.YtpihibconbejlaaDoorTie
import Derived.SevenTiedAt
import Derived.ProofKit
namespace Go.Proofs.YtpihibconbejlaaDoor
theorem c_goes : false = Rows.fnKeyPartsRow.goesBy Tryd.pinned.checked.prog := by kernel_rfl
theorem c_main : Tryd.pinned.checked.prog.mainIs = some (Rows.fnKeyPartsCard.stood.harness.1, Rows.fnKeyPartsCard.stood.harness.2.toList) := by kernel_rfl
theorem c_want : Tryd.prog.wantsStandIn 22 = false := by kernel_rfl
theorem c_looks : true = Tryd.pinned.checked.prog.looks [] := by kernel_rfl
theorem c_wf : Rows.fnKeyPartsRow.wfByText (OpenSpec.ofChange Rows.fnKeyPartsSpec) = true := by kernel_rfl
end Go.Proofs.YtpihibconbejlaaDoor
