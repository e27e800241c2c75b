/-
  The contracts of the exported functions of chapter 1, in the terms of the specification. No condition beyond a bound on the text's length.
-/
import Derived.Test.YtkhfflbgnojcfaaEq
import Derived.Test.YtkhfflbgnojcfaaDraws
namespace Go.Proofs.Ytkhfflbgnojcfaa
open Go.RowKit
set_option linter.unusedVariables false

theorem impl_name (s : ByteArray) (w : World) (hs : s.size ≤ 16777216) :
    Calls Try.prog 58 #[.string s] w fun e w' => e = .returned (.bool (nameB s.data.toList)) ∧ Below w.heap.size w w' := by
  have h := impl_name_ s w hs
  have e := name_eq s.data.toList
  have hl : s.data.toList.length = s.size := by simp
  rw [hl] at e
  rw [e] at h
  exact h
theorem impl_domain (s : ByteArray) (w : World) (hs : s.size ≤ 16777216) :
    Calls Try.prog 16 #[.string s] w fun e w' => e = .returned (.bool (domB s.data.toList)) ∧ Below w.heap.size w w' := by
  have h := impl_domain_ s w hs
  have e := dom_eq0 s.data.toList
  have hl : s.data.toList.length = s.size := by simp
  rw [hl] at e
  rw [e] at h
  exact h
end Go.Proofs.Ytkhfflbgnojcfaa
