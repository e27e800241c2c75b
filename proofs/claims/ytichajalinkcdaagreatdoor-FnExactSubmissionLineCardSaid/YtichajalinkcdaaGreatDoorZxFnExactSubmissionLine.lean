/-
  The closed facts that the card of FnExactSubmissionLine asks for, each by itself: in one declaration the kernel runs out of memory. No condition.
-/
import Derived.Test.YtichajalinkcdaaGreatDoorRows
import Derived.Test.YtichajalinkcdaaGreatDoorCards
import Derived.Test.YtichajalinkcdaaGreatDoorTie
import Derived.SevenTiedAt
import Derived.ProofKit
namespace Go.Proofs.YtichajalinkcdaaGreatDoor
theorem c_goes_FnExactSubmissionLine : false = Rows.fnExactSubmissionLineRow.goesBy Tryz.pinned.checked.prog := by kernel_rfl
theorem c_wf_FnExactSubmissionLine : Rows.fnExactSubmissionLineRow.wfByText (OpenSpec.ofChange Rows.fnExactSubmissionLineSpec) = true := by kernel_rfl
end Go.Proofs.YtichajalinkcdaaGreatDoor
