/-
  The closed facts that the card of FnDotLine asks for, each by itself: in one declaration the kernel runs out of memory. No condition.
-/
import Derived.Test.YtichajalinkcdaaGreatDoorRows
import Derived.Test.YtichajalinkcdaaGreatDoorCards
import Derived.Test.YtichajalinkcdaaGreatDoorTie
import Derived.SevenTiedAt
import Derived.ProofKit
namespace Go.Proofs.YtichajalinkcdaaGreatDoor
theorem c_goes_FnDotLine : false = Rows.fnDotLineRow.goesBy Tryz.pinned.checked.prog := by kernel_rfl
theorem c_wf_FnDotLine : Rows.fnDotLineRow.wfByText (OpenSpec.ofChange Rows.fnDotLineSpec) = true := by kernel_rfl
end Go.Proofs.YtichajalinkcdaaGreatDoor
