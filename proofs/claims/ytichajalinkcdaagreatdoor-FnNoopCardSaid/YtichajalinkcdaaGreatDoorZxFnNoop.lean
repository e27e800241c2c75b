/-
  The closed facts that the card of FnNoop asks for, each by itself: in one declaration the kernel runs out of memory. No condition.
-/
import Derived.Test.YtichajalinkcdaaGreatDoorRows
import Derived.Test.YtichajalinkcdaaGreatDoorCards
import Derived.Test.YtichajalinkcdaaGreatDoorTie
import Derived.SevenTiedAt
import Derived.ProofKit
namespace Go.Proofs.YtichajalinkcdaaGreatDoor
theorem c_goes_FnNoop : false = Rows.fnNoopRow.goesBy Tryz.pinned.checked.prog := by kernel_rfl
theorem c_wf_FnNoop : Rows.fnNoopRow.wfByText (OpenSpec.ofChange Rows.fnNoopSpec) = true := by kernel_rfl
end Go.Proofs.YtichajalinkcdaaGreatDoor
