/-
  The closed facts that the card of FnData asks for, each by itself: in one declaration the kernel runs out of memory. No condition.
-/
import Derived.Test.YtichajalinkcdaaGreatDoorRows
import Derived.Test.YtichajalinkcdaaGreatDoorCards
import Derived.Test.YtichajalinkcdaaGreatDoorTie
import Derived.SevenTiedAt
import Derived.ProofKit
namespace Go.Proofs.YtichajalinkcdaaGreatDoor
theorem c_goes_FnData : false = Rows.fnDataRow.goesBy Tryz.pinned.checked.prog := by kernel_rfl
theorem c_wf_FnData : Rows.fnDataRow.wfByText (OpenSpec.ofChange Rows.fnDataSpec) = true := by kernel_rfl
end Go.Proofs.YtichajalinkcdaaGreatDoor
