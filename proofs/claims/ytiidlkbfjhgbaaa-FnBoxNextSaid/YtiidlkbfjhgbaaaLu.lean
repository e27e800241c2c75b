/-
  The contract of the laws' upTo, and what the laws that use it ask of the plain mathematics. No condition but a bound on the number.
-/
import Derived.Test.YtiidlkbfjhgbaaaLm
namespace Go.Proofs.Ytiidlkbfjhgbaaa
open Go.RowKit
set_option linter.unusedVariables false
set_option maxRecDepth 20000 in
set_option maxHeartbeats 2000000 in
theorem up_to (k : Nat) (w : World) (hk : k ≤ 100) : Calls Try.prog 50 #[.int .i64 (k : Int)] w (GivesN w (upL k)) := by
  obtain ⟨j0, hj, hp0, hp1, hp2⟩ := info_parts Try.infoNum
  obtain ⟨B, hB⟩ : ∃ B, w.heap.size = B := ⟨_, rfl⟩
  have HO0 := Lib.hid (ROwn.lit (R := intR) (B := B) w B (by omega) hB)
  have HB0 := Lib.hid (hB ▸ below_new w (.cells #[] 3) : Below B w (w.alloc (.cells #[] 3)))
  have hz0 : B ≤ (w.alloc (.cells #[] 3)).heap.size := by simp; omega
  go_enter Try.func50, Try.ntmps50
  go_wp2
  go_loopw [3, 4] (fun v i wr => ∃ (p : Nat) (A3 : Option Addr) (N3 cap3 : Nat), N3 ≤ k ∧ p = N3 + 1 ∧ v = .slice A3 N3 cap3 ∧ i = .int .i64 (p : Int) ∧ B ≤ wr.heap.size ∧ Hid (ROwn intR wr B (.slice A3 N3 cap3) (upL N3)) ∧ Hid (Below B w wr)) (fun _ i _ => k + 1 - (intOf i).toNat)
  case atStart => exact ⟨1, _, _, _, Nat.zero_le _, rfl, rfl, by go_num, hz0, HO0, HB0⟩
  case round =>
    obtain ⟨p, A3, N3, cap3, hN3, hp, rfl, rfl, hzr, HO, HB⟩ := hrel
    by_cases hlt : p ≤ k
    · have h5 : (p : Int) ≤ (k : Int) := by omega
      have hnew : RAt intR (wr.alloc (.cells #[.int .i64 (p : Int)] 3)) (some ⟨wr.heap.size, 0, none⟩) [(p : Int)] := RAt.made intR wr [(p : Int)] _ rfl
      have hown := HO.out.alloc (.cells #[.int .i64 (p : Int)] 3)
      have HP := Lib.hid hp
      have hp100 : p ≤ 101 := by omega
      have hml : N3 + 1 ≤ maxLen := by unfold maxLen; omega
      have hby : (N3 + 1) * 8 ≤ 140737488355328 := by omega
      clear hp
      go_wp2_with (at_builtin; refine wpList_append_rows rfl (.tmp 11) (.tmp 13) 39 rfl intR B j0 _ 8 Try.underlying39 hj hp0 hp1 hp2 rfl (by decide) _ (upL N3) [(p : Int)] N3 (upL_len N3) rfl hown _ 1 1 rfl rfl hnew (fun e => by cases e) (fun q e => by cases e; rfl) hml hby (by simp; omega) ?_)
      intro v' w6 hown6 hgrow hnn
      obtain ⟨A6, N6, cap6, rfl⟩ := hown6.val
      have HO6 := Lib.hid hown6
      have HB6 := Lib.hid ((HB.out.alloc hzr (.cells #[.int .i64 (p : Int)] 3)).grown hgrow (by simp; omega) (fun z hz => (World.ownsRow.lt hown z hz).1))
      have hz6 : B ≤ w6.heap.size := by have := hgrow.size; simp at this; omega
      have hn6 : N6 = N3 + 1 := by
        have h1 := HO6.out.len.1
        rw [List.length_append, List.length_singleton, upL_len] at h1
        exact h1
      clear hown6 hgrow hown hnew hnn hml hby
      subst hn6
      go_wp2
      go_roundw
      case rel => exact ⟨p + 1, A6, N3 + 1, cap6, by have := HP.out; omega, by have := HP.out; omega, rfl, by go_num, hz6, (by show ROwn intR _ B _ _; rw [show upL (N3 + 1) = upL N3 ++ [(p : Int)] by rw [upL_succ, HP.out]]; exact HO6.out), HB6⟩
      case measure => simp [intOf]; omega
    · have h5 : ¬ (p : Int) ≤ (k : Int) := by omega
      have HN : Hid (N3 = k) := by show _ = _; omega
      clear hp
      go_wp2
      go_ret
      refine ⟨A3, N3, cap3, rfl, ?_, ?_⟩
      · rw [hB]
        have := HO.out
        rw [HN.out] at this ⊢
        exact this
      · rw [hB]
        exact HB.out
/-- upTo, at a length. -/
theorem up_to_at {G : List Int} {k : Nat} (hG : upL k = G) (w : World) (hk : k ≤ 100) : Calls Try.prog 50 #[.int .i64 (k : Int)] w (GivesN w G) := by
  subst hG
  exact up_to k w hk
section
variable {n m n2 : Int} {L M L2 : List ML} {P G : List Int}
theorem expunge_kept (h : bOk n L = true) : ∃ X, bxFl n L (upL L.length) (-1) 8 = (n, X, true) ∧ X.length = L.length ∧ bxEI n X = (n, X, []) := by
  have hall : ∀ m ∈ L, mOk m = true := fun m hm => ((bOk_iff.1 h).1 m hm).1
  have h2 : bOk n (flM (upL L.length) (-1) 8 1 L) = true := flM_ok h (by decide) (by decide)
  obtain ⟨e1, e2⟩ := gnM_none (k := 0) (flM_all hall)
  refine ⟨_, bxFl_of h (upL_plc _) (by decide) (by decide), flM_len _ _ _ _ _, ?_⟩
  rw [bxEI_of h2, e2]
  unfold gnI
  rw [e1]
  rfl
theorem udI_all {U : List Int} (h : ∀ m ∈ L, m.1 ∈ U) : udI U L = upL L.length := by
  unfold udI upL
  rw [udM_all h, List.map_map]
  refine List.map_congr_left fun j _ => ?_
  simp
  omega
theorem bxUI_all (h : bOk n L = true) : bxUI n L ((L.map (·.1)).reverse) = upL L.length := by
  rw [bxUI_of h]
  exact udI_all fun m hm => by rw [List.mem_reverse, List.mem_map]; exact ⟨m, hm, rfl⟩
/-- The numbers from the last one on, backwards. -/
def rvL (L : List ML) (q : Nat) : List Int := ((L.drop q).map (·.1)).reverse
theorem rvL_top (L : List ML) : rvL L L.length = [] := by unfold rvL; rw [List.drop_length]; rfl
theorem rvL_all (L : List ML) : rvL L 0 = (L.map (·.1)).reverse := by unfold rvL; rw [List.drop_zero]
theorem rvL_step {L : List ML} {k : Nat} {x : ML} (h : L[k]? = some x) : rvL L k = rvL L (k + 1) ++ [x.1] := by
  obtain ⟨hk, rfl⟩ := List.getElem?_eq_some_iff.1 h
  unfold rvL
  rw [List.drop_eq_getElem_cons hk, List.map_cons, List.reverse_cons]
end
end Go.Proofs.Ytiidlkbfjhgbaaa
