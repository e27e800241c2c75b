/-
  The contracts of the exported functions of chapter 1, in the terms of the specification. No condition beyond a bound on the text's length.
-/
import Derived.Test.YtjengfefedbhpaaEq
import Derived.Test.YtjengfefedbhpaaDraws
namespace Go.Proofs.Ytjengfefedbhpaa
open Go.RowKit
set_option linter.unusedVariables false

theorem impl_name (s : ByteArray) (w : World) (hs : s.size ≤ 16777216) :
    Calls Try.prog 75 #[.string s] w fun e w' => e = .returned (.bool (nameB s.data.toList)) ∧ Below w.heap.size w w' := by
  have h := impl_name_ s w hs
  have e := name_eq s.data.toList
  have hl : s.data.toList.length = s.size := by simp
  rw [hl] at e
  rw [e] at h
  exact h
end Go.Proofs.Ytjengfefedbhpaa
