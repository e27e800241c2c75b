/-
  The exact laws' own helpers, third part: lists of numbers; mailboxes. Condition: the list can be read (marking: it is the call's own).
-/
import Derived.Test.YtmljdbbbfpmbcaaEy
namespace Go.Proofs.Ytmljdbbbfpmbcaa
open Go.RowKit
set_option linter.unusedVariables false

set_option maxHeartbeats 2000000 in
theorem to_ints (A : Option Addr) (n cap : Nat) (P : List Int) (w : World) (hn : P.length = n) (h : RAt intR w A P) (hl : n ≤ 1048576) :
    Calls Try.prog 37 #[.slice A n cap] w fun e w' => ∃ g, e = .returned (.slice (some ⟨g, 0, none⟩) n n) ∧ ROwn intR w' w.heap.size (.slice (some ⟨g, 0, none⟩) n n) P ∧ Below w.heap.size w w' := by
  obtain ⟨i0, hi, hq0, hq1, hq2⟩ := info_parts Try.infoNum
  have HN := Lib.hid hn
  have H := Lib.hid h
  clear hn h
  have hb2 : i0.bytes * n ≤ 281474976710656 := by rw [hq2]; omega
  have hb3 : n ≤ maxLen := by unfold maxLen; omega
  go_enter Try.func37, Try.ntmps37
  go_wp2_with (at_make; refine wpList_make_full _ rfl _ _ 32 rfl w.heap.size 3 i0 (.int .i64 0) 1 Try.underlying32 hi hq0 hq1 .i64 .i64 (n : Int) (n : Int) n rfl rfl rfl rfl hb2 hb3 (Nat.le_refl _) ?_)
  intro w1 hown hgrow
  obtain ⟨N, hN⟩ : ∃ N, w.heap.size = N := ⟨_, rfl⟩
  have HNN := Lib.hid hN
  have HB1 : Hid (Below N w w1) := hN ▸ (Below.refl _ _).grown hgrow (Nat.le_refl _) (fun z hz => by cases hz)
  have hN1 : N ≤ w1.heap.size := hN ▸ hgrow.size
  have ho1 : ROwn intR w1 N (.slice (some ⟨N, 0, none⟩) n n) (List.replicate n (0 : Int)) := by
    unfold ROwn
    rw [List.length_replicate, ← made_rows intR (.int .i64 0) 0 rfl (by decide), show n * intR.sz = n from Nat.mul_one n, ← hN]
    exact hown
  have HO1 := Lib.hid ho1
  rw [hN]
  clear hown hgrow ho1 hN
  go_wp2
  go_loopw [4] (fun i wr => ∃ k : Nat, k ≤ n ∧ i = .int .i64 (k : Int) ∧ N ≤ wr.heap.size ∧ Hid (Below N w wr) ∧ Hid (ROwn intR wr N (.slice (some ⟨N, 0, none⟩) n n) (P.take k ++ List.replicate (n - k) (0 : Int)))) (fun i _ => n - (intOf i).toNat)
  case atStart => exact ⟨0, Nat.zero_le _, by go_num, hN1, HB1, by rw [List.take_zero, List.nil_append, Nat.sub_zero]; exact HO1⟩
  case round =>
    obtain ⟨k, hk, rfl, hNr, HB, HO⟩ := hrel
    by_cases hlt : k < n
    · have h0 : (0 : Int) ≤ (k : Int) := by omega
      have h5 : (k : Int) < (n : Int) := by omega
      obtain ⟨x, hx⟩ : ∃ x, P[k]? = some x := ⟨_, List.getElem?_eq_getElem (by rw [HN.out]; omega)⟩
      obtain ⟨b, o, rfl, hbz, c0⟩ := int_at (H.out.below HB.out (Nat.le_of_eq HNN.out)) hx
      obtain ⟨y, hy⟩ : ∃ y, (P.take k ++ List.replicate (n - k) (0 : Int))[k]? = some y := ⟨_, List.getElem?_eq_getElem (by rw [List.length_append, List.length_take, List.length_replicate, HN.out]; omega)⟩
      have d0 := HO.out.cell hy (j := 0) rfl
      have f0 := HO.out.free k
      have h1 := HO.out.stored (y := x) (j := 0) (u := .int .i64 x) hy (by decide) rfl
      simp only [intR, Nat.mul_one, Nat.add_zero] at d0 h1
      have HST := Lib.hid h1
      have HX := Lib.hid hx
      clear hx hy h1
      go_wp2
      go_roundw
      case rel =>
        refine ⟨k + 1, by omega, by go_num, by simpa using hNr, HB.out.setCell (Nat.le_refl _) _, ?_⟩
        rw [← set_next HN.out HX.out]
        exact HST.out.1
      case measure => simp [intOf]; omega
    · have h5 : ¬ (k : Int) < (n : Int) := by omega
      have hkn : k = n := by omega
      have ho := HO.out
      rw [hkn, List.take_of_length_le (by rw [HN.out]; exact Nat.le_refl _), Nat.sub_self, List.replicate_zero, List.append_nil] at ho
      have HOE := Lib.hid ho
      clear ho hkn
      go_wp2
      go_ret
      exact ⟨N, rfl, HNN.out ▸ HOE.out, HNN.out ▸ HB.out⟩
set_option maxHeartbeats 2000000 in
theorem eq_nums (A A2 : Option Addr) (n cap cap2 : Nat) (P : List Int) (w : World) (h : IIn w A n cap P) (h2 : IIn w A2 n cap2 P) :
    Calls Try.prog 38 #[.slice A n cap, .slice A2 n cap2] w fun e w' => e = .returned (.bool true) ∧ Below w.heap.size w w' := by
  have H := Lib.hid h
  have H2 := Lib.hid h2
  have hl := h.2.1
  clear h h2
  have hlb : ((n : Int) != (n : Int)) = false := by simp
  go_enter Try.func38, Try.ntmps38
  go_wp2
  go_loopw [5] (fun i wr => ∃ k : Nat, k ≤ n ∧ i = .int .i64 (k : Int) ∧ Hid (Below w.heap.size w wr)) (fun i _ => n - (intOf i).toNat)
  case atStart => exact ⟨0, Nat.zero_le _, by go_num, Below.refl _ _⟩
  case round =>
    obtain ⟨k, hk, rfl, HB⟩ := hrel
    by_cases hlt : k < n
    · have h0 : (0 : Int) ≤ (k : Int) := by omega
      have h5 : (k : Int) < (n : Int) := by omega
      obtain ⟨x, hx⟩ : ∃ x, P[k]? = some x := ⟨_, List.getElem?_eq_getElem (by rw [H.out.1]; exact hlt)⟩
      obtain ⟨b, o, rfl, hb, c0⟩ := int_at (H.out.2.2.1.below HB.out (Nat.le_refl _)) hx
      obtain ⟨b', o', rfl, hb', d0⟩ := int_at (H2.out.2.2.1.below HB.out (Nat.le_refl _)) hx
      have n1 : (x != x) = false := by simp
      clear hx
      go_wp2
      go_quiet (fail)
      go_wp2
      go_roundw
      case rel => exact ⟨k + 1, by omega, by go_num, below_drewN' HB.out _⟩
      case measure => simp [intOf]; omega
    · have h5 : ¬ (k : Int) < (n : Int) := by omega
      go_wp2
      go_ret
      exact ⟨rfl, HB.out⟩
/-- The marks on numbers, from a number on. -/
def mki (s n : Nat) : List Int := (List.range n).map fun i => ((s + i : Nat) : Int)
theorem mki_len (s n : Nat) : (mki s n).length = n := by unfold mki; simp
theorem mki_succ (s n : Nat) : mki s (n + 1) = mki s n ++ [((s + n : Nat) : Int)] := by unfold mki; rw [List.range_succ, List.map_append]; rfl
theorem mki_at {s n i : Nat} (h : i < n) : (mki s n)[i]? = some ((s + i : Nat) : Int) := by unfold mki; simp [h]
set_option maxHeartbeats 2000000 in
theorem mark_nums (s r : Nat) (A : Option Addr) (cap n B : Nat) (P : List Int) (w : World) (hn : P.length = n) (h : ROwn intR w B (.slice A n cap) P) (hl : n ≤ 4000000) (hs2 : s ≤ 100000000) (hr : s + n = r) :
    Calls Try.prog 39 #[.slice A n cap, .int .i64 (s : Int)] w fun e w' => e = .returned (.int .i64 (r : Int)) ∧ ROwn intR w' B (.slice A n cap) (mki s n) ∧ w.grownBy w' (Value.slice A n cap).ownBlock := by
  have HN := Lib.hid hn
  have HO := Lib.hid h
  have HR := Lib.hid hr
  clear h hn hr
  go_enter Try.func39, Try.ntmps39
  go_wp2
  go_loopw [1, 5] (fun m i wr => ∃ k z : Nat, k ≤ n ∧ z = s + k ∧ m = .int .i64 (z : Int) ∧ i = .int .i64 (k : Int) ∧ Hid (w.grownBy wr (Value.slice A n cap).ownBlock) ∧ Hid (ROwn intR wr B (.slice A n cap) (mki s k ++ P.drop k))) (fun _ i _ => n - (intOf i).toNat)
  case atStart => exact ⟨0, s, Nat.zero_le _, rfl, by go_num, by go_num, gr_refl _ _, HO.out⟩
  case round =>
    obtain ⟨k, z, hk, hz, rfl, rfl, HG, HW⟩ := hrel
    have HZ := Lib.hid hz
    by_cases hlt : k < n
    · have h0 : (0 : Int) ≤ (k : Int) := by omega
      have h5 : (k : Int) < (n : Int) := by omega
      have z1 : z ≤ 200000000 := by omega
      obtain ⟨g, rfl⟩ := own_block HW.out (by omega)
      have hkl : k < P.length := by rw [HN.out]; exact hlt
      obtain ⟨y, hy⟩ : ∃ y, (mki s k ++ P.drop k)[k]? = some y := ⟨_, front_some (mki_len s k) hkl⟩
      have d0 := HW.out.cell hy (j := 0) rfl
      have f0 := HW.out.free k
      have h1 := HW.out.stored (y := (z : Int)) (j := 0) (u := .int .i64 (z : Int)) hy (by decide) rfl
      rw [set_front _ (mki_len s k) hkl, show mki s k ++ [(z : Int)] = mki s (k + 1) by rw [mki_succ, hz]] at h1
      simp only [intR, Nat.mul_one, Nat.add_zero] at d0 h1
      have HST := Lib.hid h1
      clear hy hz h1
      go_wp2
      go_roundw
      case rel => exact ⟨k + 1, z + 1, by omega, by have := HZ.out; omega, by go_num, by go_num, gr_trans HG.out HST.out.2, HST.out.1⟩
      case measure => simp [intOf]; omega
    · have h5 : ¬ (k : Int) < (n : Int) := by omega
      have hkn : k = n := by omega
      have ho := HW.out
      rw [hkn, List.drop_of_length_le (by rw [HN.out]; exact Nat.le_refl _), List.append_nil] at ho
      have HOE := Lib.hid ho
      have HZ2 := Lib.hid (show r = z by have := HR.out; omega)
      clear ho hkn hz
      go_wp2
      go_ret
      refine ⟨?_, HOE.out, HG.out⟩
      rw [HZ2.out]
      rfl
set_option maxHeartbeats 2000000 in
theorem held_nums (s r : Nat) (A : Option Addr) (cap n : Nat) (w : World) (h : RAt intR w A (mki s n)) (hl : n ≤ 4000000) (hs2 : s ≤ 100000000) (hr : s + n = r) :
    Calls Try.prog 40 #[.slice A n cap, .int .i64 (s : Int)] w fun e w' => e = .returned (.int .i64 (r : Int)) ∧ w = w' := by
  have H := Lib.hid h
  have HR := Lib.hid hr
  clear h hr
  go_enter Try.func40, Try.ntmps40
  go_wp2
  go_loop [1, 5] (fun m i => ∃ k z : Nat, k ≤ n ∧ z = s + k ∧ m = .int .i64 (z : Int) ∧ i = .int .i64 (k : Int)) (fun _ i => n - (intOf i).toNat)
  case atStart => exact ⟨0, s, Nat.zero_le _, rfl, by go_num, by go_num⟩
  case round =>
    obtain ⟨k, z, hk, hz, rfl, rfl⟩ := hrel
    have HZ := Lib.hid hz
    by_cases hlt : k < n
    · have h0 : (0 : Int) ≤ (k : Int) := by omega
      have h5 : (k : Int) < (n : Int) := by omega
      have z1 : z ≤ 200000000 := by omega
      have hx := mki_at (s := s) hlt
      rw [← hz] at hx
      obtain ⟨b, o, rfl, hbz, c1⟩ := int_at H.out hx
      have hne : ((z : Int) != (z : Int)) = false := by simp
      clear hx hz
      go_wp2
      go_round
      case rel => exact ⟨k + 1, z + 1, by omega, by have := HZ.out; omega, by go_num, by go_num⟩
      case measure => simp [intOf]; omega
    · have h5 : ¬ (k : Int) < (n : Int) := by omega
      have HZ2 := Lib.hid (show r = z by have := HR.out; omega)
      clear hz
      go_wp2
      go_ret
      refine ⟨?_, rfl⟩
      rw [HZ2.out]
      rfl

/-- A mailbox that was handed in. -/
def BoxA (w : World) (A : Option Addr) (n cap : Nat) (L : List ML) : Prop := L.length = n ∧ n ≤ cap ∧ cap ≤ maxLen ∧ RAt mailR w A L ∧ Txt L
theorem BoxA.below {w w' : World} {A : Option Addr} {n cap B : Nat} {L : List ML} (h : BoxA w A n cap L) (hb : Below B w w') (hB : w.heap.size ≤ B) : BoxA w' A n cap L := ⟨h.1, h.2.1, h.2.2.1, h.2.2.2.1.below hb hB, h.2.2.2.2⟩
theorem BoxA.keep {w : World} {A : Option Addr} {n cap : Nat} {L : List ML} (h : BoxA w A n cap L) : Kp w fun w' => BoxA w' A n cap L := fun w2 h2 => h.below h2 (Nat.le_refl _)
/-- What szBox tells of a mailbox of n messages. -/
def szB (n : Nat) (L : List ML) (left : Int) : Int := if left < (n : Int) then -1 else szL L (left - (n : Int))
theorem szB_le {n : Nat} {L : List ML} {left : Int} (h : 0 ≤ szB n L left) : (n : Int) ≤ left ∧ szB n L left ≤ left := by
  unfold szB at h ⊢
  by_cases h2 : left < (n : Int)
  · rw [if_pos h2] at h; omega
  · rw [if_neg h2] at h ⊢
    have := szL_le (L := L) (z := left - (n : Int)) (by omega)
    exact ⟨by omega, by omega⟩
theorem szL_neg : ∀ {L : List ML} {z : Int}, 0 ≤ z → szL L z < 0 → szL L z = -1
  | [], z, h, h2 => by unfold szL at h2; omega
  | m :: L, z, h, h2 => by
    by_cases h3 : z - (m.2.2.length : Int) < 0
    · exact szL_no h3
    · rw [szL_yes h3] at h2 ⊢
      exact szL_neg (by omega) h2
theorem szB_neg {n : Nat} {L : List ML} {left : Int} (h : szB n L left < 0) : szB n L left = -1 := by
  unfold szB at h ⊢
  by_cases h2 : left < (n : Int)
  · rw [if_pos h2]
  · rw [if_neg h2] at h ⊢
    exact szL_neg (by omega) h
set_option maxHeartbeats 1000000 in
theorem sz_box (n0 : Int) (A : Option Addr) (n cap : Nat) (left r : Int) (L : List ML) (w : World) (h : BoxA w A n cap L) (hl : 0 ≤ left) (hl2 : left ≤ 1048576) (hr : szB n L left = r) :
    Calls Try.prog 30 #[.agg #[.int .i64 n0, .slice A n cap], .int .i64 left] w fun e w' => e = .returned (.int .i64 r) ∧ Below w.heap.size w w' := by
  have H := Lib.hid h
  have hm : n ≤ maxLen := Nat.le_trans h.2.1 h.2.2.1
  have HM := Lib.hid hm
  clear hm h
  obtain ⟨S, hS⟩ : ∃ S, w.heap.size = S := ⟨_, rfl⟩
  have HBA := Lib.hid ((Below.refl w.heap.size w).alloc (Nat.le_refl _) (.cells #[.int .i64 n0, .slice A n cap] 45))
  by_cases hle : left < (n : Int)
  · have hr1 : r = -1 := by rw [← hr]; unfold szB; rw [if_pos hle]
    subst hr1
    clear hr
    go_enter Try.func30, Try.ntmps30
    go_wp2_with fail
    refine (sz_mails_no A n cap left _ hl hl2 hle HM.out).mono ?_
    rintro e w2 ⟨rfl, hb⟩
    have HB2 := Lib.hid (HBA.out.trans (hb.mono (by simp)))
    clear hb
    go_wp2
    go_ret
    exact ⟨rfl, hS ▸ HB2.out⟩
  · have hr0 : szL L (left - (n : Int)) = r := by rw [← hr]; unfold szB; rw [if_neg hle]
    have HR := Lib.hid hr0
    have hle2 : (n : Int) ≤ left := by omega
    have hrc : r = -1 ∨ 0 ≤ r := by
      by_cases h2 : r < 0
      · exact .inl (by rw [← hr0]; exact szL_neg (by omega) (by rw [hr0]; exact h2))
      · exact .inr (by omega)
    clear hr hle hr0
    rcases hrc with rfl | hrp
    · go_enter Try.func30, Try.ntmps30
      go_wp2_with fail
      refine (sz_mails A n cap left (-1) L _ H.out.1 (H.out.2.2.2.1.below HBA.out (Nat.le_refl _)) H.out.2.2.2.2 hl hl2 hle2 HR.out).mono ?_
      rintro e w2 ⟨rfl, hb⟩
      have HB2 := Lib.hid (HBA.out.trans (hb.mono (by simp)))
      clear hb
      go_wp2
      go_ret
      exact ⟨rfl, hS ▸ HB2.out⟩
    · have hrf : ¬ r < 0 := by omega
      go_enter Try.func30, Try.ntmps30
      go_wp2_with fail
      refine (sz_mails A n cap left r L _ H.out.1 (H.out.2.2.2.1.below HBA.out (Nat.le_refl _)) H.out.2.2.2.2 hl hl2 hle2 HR.out).mono ?_
      rintro e w2 ⟨rfl, hb⟩
      have HB2 := Lib.hid (HBA.out.trans (hb.mono (by simp)))
      clear hb
      go_wp2
      go_ret
      exact ⟨rfl, hS ▸ HB2.out⟩
set_option maxHeartbeats 2000000 in
theorem to_box (n0 : Int) (A : Option Addr) (n cap : Nat) (L : List ML) (w : World) (h : BoxA w A n cap L) (hl : n ≤ 1048576) :
    Calls Try.prog 31 #[.agg #[.int .i64 n0, .slice A n cap]] w fun e w' => ∃ g, e = .returned (.agg #[.int .i64 n0, .slice (some ⟨g, 0, none⟩) n n]) ∧ ROwn mailR w' w.heap.size (.slice (some ⟨g, 0, none⟩) n n) L ∧ Below w.heap.size w w' := by
  have H := Lib.hid h
  clear h
  obtain ⟨S, hS⟩ : ∃ S, w.heap.size = S := ⟨_, rfl⟩
  have HS := Lib.hid hS
  obtain ⟨wq, hwq⟩ : ∃ wq, (((w.alloc (.cells #[.int .i64 n0, .slice A n cap] 45)).alloc (.cells #[.int .i64 0, .slice none 0 0] 25)).alloc (.cells #[.int .i64 n0, .slice none 0 0] 25)) = wq := ⟨_, rfl⟩
  have HBA : Hid (Below S w wq) := by rw [← hwq, ← hS]; exact (((Below.refl _ _).alloc (Nat.le_refl _) _).alloc (by simp) _).alloc (by simp; omega) _
  have HW0 : Hid (Whole wq S 45 #[.int .i64 n0, .slice A n cap]) := by
    rw [← hwq, ← hS]
    exact ((Whole.made w 45 #[.int .i64 n0, .slice A n cap]).alloc _).alloc _
  have HW1 : Hid (Whole wq (S + 1) 25 #[.int .i64 0, .slice none 0 0]) := by
    rw [← hwq, ← hS]
    have h2 := Whole.made (w.alloc (.cells #[.int .i64 n0, .slice A n cap] 45)) 25 #[.int .i64 0, .slice none 0 0]
    rw [show (w.alloc (.cells #[.int .i64 n0, .slice A n cap] 45)).heap.size = w.heap.size + 1 by simp] at h2
    exact h2.alloc _
  have HW2 : Hid (Whole wq (S + 1 + 1) 25 #[.int .i64 n0, .slice none 0 0]) := by
    rw [← hwq, ← hS]
    have h2 := Whole.made ((w.alloc (.cells #[.int .i64 n0, .slice A n cap] 45)).alloc (.cells #[.int .i64 0, .slice none 0 0] 25)) 25 #[.int .i64 n0, .slice none 0 0]
    rw [show ((w.alloc (.cells #[.int .i64 n0, .slice A n cap] 45)).alloc (.cells #[.int .i64 0, .slice none 0 0] 25)).heap.size = w.heap.size + 1 + 1 by simp] at h2
    exact h2
  have hzq : S + 1 + 1 < wq.heap.size := HW2.out.lt
  have a1 := HW0.out.cell 1
  simp at a1
  go_enter Try.func31, Try.ntmps31
  go_wp2_with fail
  refine (to_mails A n cap L _ H.out.1 (H.out.2.2.2.1.below HBA.out (Nat.le_of_eq HS.out)) hl).mono ?_
  rintro e w2 ⟨g, rfl, hown, hb⟩
  have hzS : S ≤ wq.heap.size := by omega
  have HO2 := Lib.hid (hown.from hzS)
  have HB2 := Lib.hid (HBA.out.trans (hb.mono hzS))
  have HV1 := Lib.hid (HW1.out.below hb HW1.out.lt)
  have HV2 := Lib.hid (HW2.out.below hb HW2.out.lt)
  clear hb hown a1
  have b0 := HV1.out.cell 0
  have b1 := HV1.out.cell 1
  have b2 := HV2.out.cell 0
  have b3 := HV2.out.cell 1
  simp at b0 b1 b2 b3
  have e0 := HV1.out.free 0
  have e1 := HV1.out.free 1
  have e2 := HV2.out.free 0
  have e3 := HV2.out.free 1
  go_wp2
  refine bodyPost_ret (v := .agg #[.int .i64 n0, .slice (some ⟨g, 0, none⟩) n n]) (by simp [results, Try.results31, go_sem, *]) rfl ?_
  refine ⟨g, rfl, ?_, ?_⟩
  · rw [HS.out]
    refine ROwn.store (ROwn.store (ROwn.store HO2.out ?_ _) ?_ _) ?_ _ <;> first | exact HO2.out.whole HV2.out (by decide) | exact HO2.out.whole HV1.out (by decide)
  · rw [HS.out]
    refine ((HB2.out.setCell ?_ _).setCell ?_ _).setCell ?_ _ <;> (simp <;> try omega)
set_option maxHeartbeats 1000000 in
theorem eq_box (n0 : Int) (A A2 : Option Addr) (n cap cap2 : Nat) (L : List ML) (w : World) (h : MIn w A n cap L) (h2 : MIn w A2 n cap2 L) :
    Calls Try.prog 32 #[.agg #[.int .i64 n0, .slice A n cap], .agg #[.int .i64 n0, .slice A2 n cap2]] w fun e w' => e = .returned (.bool true) ∧ Below w.heap.size w w' := by
  have HBA := Lib.hid (((Below.refl w.heap.size w).alloc (Nat.le_refl _) (.cells #[.int .i64 n0, .slice A n cap] 25)).alloc (by simp) (.cells #[.int .i64 n0, .slice A2 n cap2] 25))
  have H := Lib.hid (h.below HBA.out (Nat.le_refl _))
  have H2 := Lib.hid (h2.below HBA.out (Nat.le_refl _))
  have n1 : (n0 != n0) = false := by simp
  clear h h2
  go_enter Try.func32, Try.ntmps32
  go_wp2_with fail
  refine (eq_mails A A2 n cap cap2 L _ H.out H2.out).mono ?_
  rintro e w2 ⟨rfl, hb⟩
  have HB2 := Lib.hid (HBA.out.trans (hb.mono (by simp; omega)))
  clear hb
  go_wp2
  go_ret
  exact ⟨rfl, HB2.out⟩
set_option maxHeartbeats 1000000 in
theorem mark_box (s r : Nat) (n0 : Int) (A : Option Addr) (cap n B : Nat) (L : List ML) (w : World) (hn : L.length = n) (h : ROwn mailR w B (.slice A n cap) L) (hl : n ≤ 4000000) (hs : 0 < s) (hs2 : s ≤ 100000000) (hr : s + 3 * n = r) :
    Calls Try.prog 35 #[.agg #[.int .i64 n0, .slice A n cap], .int .i64 (s : Int)] w fun e w' => e = .returned (.int .i64 (r : Int)) ∧ ROwn mailR w' B (.slice A n cap) (mkm s n) ∧ w.grownBy w' (Value.slice A n cap).ownBlock := by
  have HO := Lib.hid (h.alloc (.cells #[.int .i64 n0, .slice A n cap] 25))
  have HG := Lib.hid (gr_belowE (row := (Value.slice A n cap).ownBlock) (below_new w (.cells #[.int .i64 n0, .slice A n cap] 25)))
  clear h
  go_enter Try.func35, Try.ntmps35
  go_wp2_with fail
  refine (mark_mails s r A cap n B L _ hn HO.out hl hs hs2 hr).mono ?_
  rintro e w2 ⟨rfl, hown, hg⟩
  have HO2 := Lib.hid hown
  have HG2 := Lib.hid (gr_trans HG.out hg)
  clear hown hg
  go_wp2
  go_ret
  exact ⟨rfl, HO2.out, HG2.out⟩
set_option maxHeartbeats 1000000 in
theorem held_box (s r : Nat) (n0 : Int) (A : Option Addr) (cap n : Nat) (w : World) (h : RAt mailR w A (mkm s n)) (hl : n ≤ 4000000) (hs : 0 < s) (hs2 : s ≤ 100000000) (hr : s + 3 * n = r) :
    Calls Try.prog 36 #[.agg #[.int .i64 n0, .slice A n cap], .int .i64 (s : Int)] w fun e w' => e = .returned (.int .i64 (r : Int)) ∧ Below w.heap.size w w' := by
  have HBA := Lib.hid (below_new w (.cells #[.int .i64 n0, .slice A n cap] 25))
  have H := Lib.hid (h.below HBA.out (Nat.le_refl _))
  have hrf : ¬ (r : Int) < 0 := by omega
  clear h
  go_enter Try.func36, Try.ntmps36
  go_wp2_with fail
  refine (held_mails s r A cap n _ H.out hl hs hs2 hr).mono ?_
  rintro e w2 ⟨rfl, hb⟩
  have HB2 := Lib.hid (HBA.out.trans (hb.mono (by simp)))
  clear hb
  go_wp2
  go_ret
  exact ⟨rfl, HB2.out⟩

theorem kp_own {α : Type} {R : RowT α} {w : World} {B : Nat} {v : Value} {L : List α} (h : ROwn R w B v L) : Kp w fun w' => ROwn R w' B v L := fun w2 h2 => h.kept h2
theorem kp_tri {w : World} {D : Nat} {t : TypeId} {cs : Array Value} (h : Whole w D t cs) : Kp w fun w' => True ∧ Whole w' D t cs ∧ True := fun w2 h2 => ⟨trivial, h.below h2 h.lt, trivial⟩
/-- A list of numbers that was handed in. -/
def NumA (w : World) (A : Option Addr) (n cap : Nat) (P : List Int) : Prop := P.length = n ∧ n ≤ cap ∧ cap ≤ maxLen ∧ RAt intR w A P
theorem NumA.below {w w' : World} {A : Option Addr} {n cap B : Nat} {P : List Int} (h : NumA w A n cap P) (hb : Below B w w') (hB : w.heap.size ≤ B) : NumA w' A n cap P := ⟨h.1, h.2.1, h.2.2.1, h.2.2.2.below hb hB⟩
theorem NumA.keep {w : World} {A : Option Addr} {n cap : Nat} {P : List Int} (h : NumA w A n cap P) : Kp w fun w' => NumA w' A n cap P := fun w2 h2 => h.below h2 (Nat.le_refl _)
def BoxArg (w : World) (A : Option Addr) (n cap : Nat) : Prop := ∃ L, BoxA w A n cap L
def NumArg (w : World) (A : Option Addr) (n cap : Nat) : Prop := ∃ P, NumA w A n cap P
theorem below_mark {α : Type} {R : RowT α} {a w w' : World} {B S : Nat} {v : Value} {L : List α} (h : Below S a w) (hS : a.heap.size = S) (ho : ROwn R w B v L) (hg : w.grownBy w' v.ownBlock) (hB : S ≤ B) : Below S a w' :=
  h.grown hg (hS ▸ h.size) (fun k hk => Nat.le_trans hB (World.ownsRow.lt ho k hk).1)
end Go.Proofs.Ytmljdbbbfpmbcaa
