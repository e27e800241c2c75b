/-
  The closed facts that the card of FnRcpt asks for, each by itself: in one declaration the kernel runs out of memory. No condition.
-/
import Derived.Test.YtichajalinkcdaaGreatDoorRows
import Derived.Test.YtichajalinkcdaaGreatDoorCards
import Derived.Test.YtichajalinkcdaaGreatDoorTie
import Derived.SevenTiedAt
import Derived.ProofKit
namespace Go.Proofs.YtichajalinkcdaaGreatDoor
theorem c_goes_FnRcpt : false = Rows.fnRcptRow.goesBy Tryz.pinned.checked.prog := by kernel_rfl
theorem c_wf_FnRcpt : Rows.fnRcptRow.wfByText (OpenSpec.ofChange Rows.fnRcptSpec) = true := by kernel_rfl
end Go.Proofs.YtichajalinkcdaaGreatDoor
