/-
  The contracts of the exported functions of chapter 1, in the terms of the specification. No condition beyond a bound on the text's length.
-/
import Derived.Test.YtnfigpknejmkmaaGreatDoorEq
import Derived.Test.YtnfigpknejmkmaaGreatDoorDraws
namespace Go.Proofs.YtnfigpknejmkmaaGreatDoor
open Go.RowKit
set_option linter.unusedVariables false

theorem impl_name (s : ByteArray) (w : World) (hs : s.size ≤ 16777216) :
    Calls Tryz.prog 95 #[.string s] w fun e w' => e = .returned (.bool (nameB s.data.toList)) ∧ Below w.heap.size w w' := by
  have h := impl_name_ s w hs
  have e := name_eq s.data.toList
  have hl : s.data.toList.length = s.size := by simp
  rw [hl] at e
  rw [e] at h
  exact h
end Go.Proofs.YtnfigpknejmkmaaGreatDoor
