/-
  The contract of the laws' upTo, and what the laws that use it ask of the plain mathematics. No condition but a bound on the number.
-/
import Derived.Test.YtllhcogmcfgnoaaLm
namespace Go.Proofs.Ytllhcogmcfgnoaa
open Go.RowKit
set_option linter.unusedVariables false
section
variable {n m n2 : Int} {L M L2 : List ML} {P G : List Int}
theorem expunge_kept (h : bOk n L = true) : ∃ X, bxFl n L (upL L.length) (-1) 8 = (n, X, true) ∧ X.length = L.length ∧ bxEI n X = (n, X, []) := by
  have hall : ∀ m ∈ L, mOk m = true := fun m hm => ((bOk_iff.1 h).1 m hm).1
  have h2 : bOk n (flM (upL L.length) (-1) 8 1 L) = true := flM_ok h (by decide) (by decide)
  obtain ⟨e1, e2⟩ := gnM_none (k := 0) (flM_all hall)
  refine ⟨_, bxFl_of h (upL_plc _) (by decide) (by decide), flM_len _ _ _ _ _, ?_⟩
  rw [bxEI_of h2, e2]
  unfold gnI
  rw [e1]
  rfl
theorem udI_all {U : List Int} (h : ∀ m ∈ L, m.1 ∈ U) : udI U L = upL L.length := by
  unfold udI upL
  rw [udM_all h, List.map_map]
  refine List.map_congr_left fun j _ => ?_
  simp
  omega
theorem bxUI_all (h : bOk n L = true) : bxUI n L ((L.map (·.1)).reverse) = upL L.length := by
  rw [bxUI_of h]
  exact udI_all fun m hm => by rw [List.mem_reverse, List.mem_map]; exact ⟨m, hm, rfl⟩
/-- The numbers from the last one on, backwards. -/
def rvL (L : List ML) (q : Nat) : List Int := ((L.drop q).map (·.1)).reverse
theorem rvL_top (L : List ML) : rvL L L.length = [] := by unfold rvL; rw [List.drop_length]; rfl
theorem rvL_all (L : List ML) : rvL L 0 = (L.map (·.1)).reverse := by unfold rvL; rw [List.drop_zero]
theorem rvL_step {L : List ML} {k : Nat} {x : ML} (h : L[k]? = some x) : rvL L k = rvL L (k + 1) ++ [x.1] := by
  obtain ⟨hk, rfl⟩ := List.getElem?_eq_some_iff.1 h
  unfold rvL
  rw [List.drop_eq_getElem_cons hk, List.map_cons, List.reverse_cons]
end
end Go.Proofs.Ytllhcogmcfgnoaa
