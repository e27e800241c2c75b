/-
  The closed facts that the card of FnKeyFields asks for, each by itself: in one declaration the kernel runs out of memory. No condition.
-/
import Derived.Test.YtpihibconbejlaaDoorRows
import Derived.Test.YtpihibconbejlaaDoorCards
import Derived.Test.YtpihibconbejlaaDoorTie
import Derived.SevenTiedAt
import Derived.ProofKit
namespace Go.Proofs.YtpihibconbejlaaDoor
theorem c_goes_FnKeyFields : false = Rows.fnKeyFieldsRow.goesBy Tryd.pinned.checked.prog := by kernel_rfl
theorem c_wf_FnKeyFields : Rows.fnKeyFieldsRow.wfByText (OpenSpec.ofChange Rows.fnKeyFieldsSpec) = true := by kernel_rfl
end Go.Proofs.YtpihibconbejlaaDoor
