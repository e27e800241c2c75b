/-
  What the laws of mailboxes ask of the plain mathematics. Plain lemmas; no condition.
-/
import Derived.Test.YtllhcogmcfgnoaaGd
namespace Go.Proofs.Ytllhcogmcfgnoaa
open Go.RowKit
set_option linter.unusedVariables false
section
variable {n m n2 : Int} {L M L2 : List ML} {f h : Int} {t : List UInt8} {v : ByteArray} {ok : Bool} {P G : List Int}
theorem bxFl_out (hr : bxFl n L P h f = (n2, L2, true)) : bOk n L = true ∧ plc L.length 0 P = true ∧ howB h = true ∧ isF f = true ∧ n2 = n ∧ L2 = flM P h f 1 L := by
  unfold bxFl at hr
  split at hr
  · rename_i hc
    simp only [Bool.and_eq_true] at hc
    cases hr
    exact ⟨hc.1.1.1, hc.1.1.2, hc.1.2, hc.2, rfl, rfl⟩
  · cases hr
theorem bxFl_of (h1 : bOk n L = true) (h2 : plc L.length 0 P = true) (h3 : howB h = true) (h4 : isF f = true) : bxFl n L P h f = (n, flM P h f 1 L, true) := by
  unfold bxFl
  rw [if_pos (by rw [h1, h2, h3, h4]; rfl)]
theorem bxFl_twice (hr : bxFl n L P h f = (n2, L2, true)) : bxFl n2 L2 P h f = (n2, L2, true) := by
  obtain ⟨h1, h2, h3, h4, rfl, rfl⟩ := bxFl_out hr
  rw [bxFl_of (flM_ok h1 h3 h4) (by rw [flM_len]; exact h2) h3 h4, flM_twice P h3 h4 1 fun m hm => ((bOk_iff.1 h1).1 m hm).1]
theorem bxEI_of (h : bOk n L = true) : bxEI n L = (n, kpM L, gnI L) := by unfold bxEI; rw [if_pos h]
theorem bxEI_again (hr : bxEI n L = (n2, L2, G)) (h : bOk n L = true) : bOk n2 L2 = true ∧ bxEI n2 L2 = (n2, L2, []) := by
  rw [bxEI_of h] at hr
  cases hr
  have h2 := kpM_ok h
  refine ⟨h2, ?_⟩
  rw [bxEI_of h2, kpM_twice]
  unfold gnI
  rw [gnM_kept]
  rfl
theorem bxSz_of (h : bOk n L = true) : bxSz n L = (szM L : Int) := by unfold bxSz; rw [if_pos h]
theorem bxSz_app (hr : bxAp n L f t = (n2, L2, true)) : bxSz n2 L2 = bxSz n L + (t.length : Int) ∧ 0 ≤ bxSz n L ∧ bxSz n L ≤ 1000 := by
  obtain ⟨hbv, hf, htl, hl9, hn99, he⟩ := bxAp_yes (n := n) (L := L) (f := f) (t := t) (by rw [hr])
  rw [hr] at he
  cases he
  have h2 := app_ok hbv hf htl hl9 hn99
  have h3 := szM_le (L := L) fun m hm => (mOk_iff.1 ((bOk_iff.1 hbv).1 m hm).1).2.2
  have h4 := (bOk_iff.1 hbv).2.2.2.2
  rw [bxSz_of hbv, bxSz_of h2, szM_app]
  unfold szM at *
  simp
  omega
theorem bxAp_full (hr : bxAp n L f t = (n2, L2, false)) (h1 : bOk n L = true) (h2 : isF f = true) (h3 : t.length ≤ 20) : n2 = n ∧ L2 = L ∧ (L.length = 10 ∨ 99 < n) := by
  have h4 := (bOk_iff.1 h1).2.2.2.2
  unfold bxAp at hr
  rw [if_pos (by rw [h1, h2, decide_eq_true h3]; rfl)] at hr
  unfold bxAdd at hr
  split at hr
  · cases hr
    exact ⟨rfl, rfl, by omega⟩
  · cases hr
theorem flags_text {f : Int} (hf : isF f = true) : ∃ T : List UInt8, ftI f = T ∧ (sB T).toList.isEmpty = false ∧ ¬ (sB T).toList = [] := by
  obtain ⟨a, ha, rfl⟩ := isF_nat hf
  refine ⟨_, rfl, ?_⟩
  rw [ftI_yes ha]
  obtain ⟨x, r, e⟩ : ∃ x r, textF a = x :: r := by
    cases h : textF a with
    | nil => have := (textF_shape ha).1; rw [h] at this; simp at this
    | cons x r => exact ⟨x, r, rfl⟩
  have h2 : (sB (textF a)).toList = textF a := by rw [ByteArray.toList_eq, sB_list]
  rw [h2, e]
  exact ⟨rfl, fun h => by cases h⟩
theorem bxCp_out (hr : bxCp n L P m M = (n2, L2, true)) : bOk n L = true ∧ bOk m M = true ∧ plc L.length 0 P = true ∧ n2 = m + P.length ∧ L2 = M ++ nbM m (atM L P) := by
  unfold bxCp at hr
  split at hr
  · rename_i hc
    simp only [Bool.and_eq_true] at hc
    split at hr
    · rename_i r hx
      cases hr
      obtain ⟨e1, e2⟩ := cpA_some (n' := r.1) (M' := r.2) hx
      rw [atM_len] at e1
      exact ⟨hc.1.1, hc.1.2, hc.2, e1, e2⟩
    · cases hr
  · cases hr
theorem bxCp_full (hr : bxCp n L P m M = (n2, L2, false)) (h1 : bOk n L = true) (h2 : bOk m M = true) : (n2 = 0 ∧ L2 = []) ∨ (n2 = m ∧ L2 = M ∧ (10 < M.length + P.length ∨ 100 < m + P.length)) := by
  unfold bxCp at hr
  split at hr
  · split at hr
    · cases hr
    · rename_i hx
      cases hr
      have := cpA_none hx
      rw [atM_len] at this
      exact .inr ⟨rfl, rfl, this⟩
  · cases hr
    exact .inl ⟨rfl, rfl⟩
theorem bxUI_of {U : List Int} (h : bOk n L = true) : bxUI n L U = udI U L := by unfold bxUI; rw [if_pos h]
theorem bxUI_le {U : List Int} (hG : bxUI n L U = G) : G.length ≤ L.length := by
  subst hG
  unfold bxUI
  split
  · exact udI_le U L
  · exact Nat.zero_le _
theorem udI_app (U : List Int) (X Y : List ML) : ∃ R, udI U (X ++ Y) = udI U X ++ R := by
  unfold udI
  rw [udM_app, List.map_append]
  exact ⟨_, rfl⟩
theorem udI_get {U : List Int} {i : Nat} {x : ML} (hx : L[i]? = some x) (h : hasI U x.1 = true) : (udI U L)[(udI U (L.take i)).length]? = some ((i + 1 : Nat) : Int) := by
  obtain ⟨R, hR⟩ := udI_app U (L.take (i + 1)) (L.drop (i + 1))
  rw [List.take_append_drop, udI_yes hx h] at hR
  rw [hR, List.getElem?_append_left (by simp), List.getElem?_append_right (Nat.le_refl _), Nat.sub_self]
  rfl
theorem bxCp_nil (h1 : bOk n L = true) (h2 : bOk m M = true) : bxCp n L [] m M = (m, M, true) := by
  unfold bxCp
  rw [if_pos (by rw [h1, h2]; rfl)]
  rfl
end
end Go.Proofs.Ytllhcogmcfgnoaa
