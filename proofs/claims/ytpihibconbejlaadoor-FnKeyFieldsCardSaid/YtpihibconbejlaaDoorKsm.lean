/-
  The walk of the law FnKeyFields. Conditions: the code can be read; the tables hold what the program lays there.
-/
import Derived.Test.YtpihibconbejlaaDoorKst
import Derived.Deep.RegionHeld3
namespace Go.Proofs.YtpihibconbejlaaDoor
open Go.RowKit
set_option linter.unusedVariables false

theorem kv_parts {w : World} {kd f : Int} {t : ByteArray} {S : List (Int × Int)} {ks : List KT} {a0 a1 : Int} {a2 : ByteArray} {a3 : Option Addr} {a4 a5 : Nat} {a6 : Option Addr} {a7 a8 : Nat} (h : KV w (.mk kd f t S ks) (kval (a0, a1, a2, (a3, a4, a5), (a6, a7, a8)))) :
    kd = a0 ∧ f = a1 ∧ t = a2 ∧ S.length = a4 ∧ a4 ≤ 33554432 ∧ t.size ≤ 16777216 ∧ SpA w a3 S ∧ ∃ rs, KRs (KV w) ks rs ∧ RAt keyR w a6 rs ∧ rs.length = a7 := by
  rw [KV] at h
  obtain ⟨AS, nS, cS, AK, nK, cK, he, h2, h3, h4, h5, h6, h7⟩ := h
  simp at he
  obtain ⟨rfl, rfl, rfl, ⟨rfl, rfl, rfl⟩, rfl, rfl, rfl⟩ := he
  obtain ⟨rs, h8, h9⟩ := kvs_at h7
  exact ⟨rfl, rfl, rfl, h2, h3, h4, h5, rs, h8, h9, by rw [← h8.len]; exact h6⟩
theorem kv_put {w : World} {kd f : Int} {t : ByteArray} {S : List (Int × Int)} {ks : List KT} {a0 a1 : Int} {a2 : ByteArray} {s a : Option Addr × Nat × Nat} (h : KV w (.mk kd f t S ks) (kval (a0, a1, a2, s, a))) (b0 b1 : Int) (b2 : ByteArray) (hb : b2.size ≤ 16777216) : KV w (.mk b0 b1 b2 S ks) (kval (b0, b1, b2, s, a)) := by
  rw [KV] at h ⊢
  obtain ⟨AS, nS, cS, AK, nK, cK, he, h2, h3, h4, h5, h6, h7⟩ := h
  refine ⟨AS, nS, cS, AK, nK, cK, ?_, h2, h3, hb, h5, h6, h7⟩
  simp at he ⊢
  exact he.2.2.2
theorem key_split {kd f : Int} {t : ByteArray} {S : List (Int × Int)} {ks : List KT} (h : keyB (.mk kd f t S ks) = true) : allL ks = true ∧ nodeB kd f t S ks.length = true ∧ nodesT (.mk kd f t S ks) ≤ 9 := by
  unfold keyB at h
  rw [Bool.and_eq_true, decide_eq_true_eq, allT, Bool.and_eq_true] at h
  exact ⟨h.1.1, h.1.2, h.2⟩
theorem key_node {kd f : Int} {t : ByteArray} {S : List (Int × Int)} {ks : List KT} {z : Bool} (h1 : allL ks = true) (h2 : nodeB kd f t S ks.length = z) (h3 : nodesT (.mk kd f t S ks) ≤ 9) : keyB (.mk kd f t S ks) = z := by
  unfold keyB
  rw [allT, h1, h2, decide_eq_true h3]
  simp
theorem key_bad {kd f : Int} {t : ByteArray} {S : List (Int × Int)} {ks : List KT} (h2 : nodeB kd f t S ks.length = false) : keyB (.mk kd f t S ks) = false := by
  unfold keyB
  rw [allT, h2]
  simp
theorem fld_flag {kd f : Int} {t : ByteArray} {S : List (Int × Int)} {n : Nat} (h : nodeB kd f t S n = true) : nodeB kd 1 t S n = (kd == 1) := by
  by_cases k1 : kd = 1
  · subst k1
    unfold nodeB at h ⊢
    have hf : flag1 1 = true := rfl
    simp [hf] at h ⊢
    exact ⟨⟨h.1.1.2, h.1.2⟩, h.2⟩
  rw [beq_eq_false_iff_ne.2 k1]
  unfold nodeB
  have h10 : ((1 : Int) == 0) = false := by decide
  rw [if_neg k1, h10]
  try (split <;> simp)
  try (split <;> simp)
  try (split <;> simp)
  try (split <;> simp)
theorem fld_text {kd f : Int} {t : ByteArray} {S : List (Int × Int)} {n : Nat} (h : nodeB kd f t S n = true) : nodeB kd f ⟨#[120]⟩ S n = (kd == 2) := by
  have hx : (ByteArray.size ⟨#[120]⟩ == 0) = false := by decide
  have hnm : nameB (ByteArray.data ⟨#[120]⟩).toList = true := by decide
  by_cases k2 : kd = 2
  · subst k2
    unfold nodeB at h ⊢
    rw [hnm]
    simp at h ⊢
    exact ⟨⟨h.1.1.1, h.1.2⟩, h.2⟩
  rw [beq_eq_false_iff_ne.2 k2]
  unfold nodeB
  rw [if_neg k2, hx]
  try (split <;> simp)
  try (split <;> simp)
  try (split <;> simp)
  try (split <;> simp)
theorem fld_keys {kd f : Int} {t : ByteArray} {S : List (Int × Int)} {n : Nat} (h : nodeB kd f t S n = true) : nodeB kd f t S (n + 1) = false := by
  have e0 : (n + 1 == 0) = false := by simp
  by_cases k0 : kd = 0
  · subst k0
    simp [nodeB]
  by_cases k1 : kd = 1
  · subst k1
    simp [nodeB]
  by_cases k2 : kd = 2
  · subst k2
    simp [nodeB]
  by_cases k34 : kd = 3 ∨ kd = 4
  · unfold nodeB
    rw [if_neg k0, if_neg k1, if_neg k2, if_pos k34, e0, Bool.and_false]
  by_cases k5 : kd = 5
  · subst k5
    unfold nodeB at h ⊢
    simp at h ⊢
    omega
  by_cases k67 : kd = 6 ∨ kd = 7
  · unfold nodeB at h ⊢
    rw [if_neg k0, if_neg k1, if_neg k2, if_neg k34, if_neg k5, if_pos k67] at h ⊢
    simp at h ⊢
    omega
  · unfold nodeB
    rw [if_neg k0, if_neg k1, if_neg k2, if_neg k34, if_neg k5, if_neg k67]
theorem key_flag1 {kd f : Int} {t : ByteArray} {S : List (Int × Int)} {ks : List KT} (h : keyB (.mk kd f t S ks) = true) : keyB (.mk kd 1 t S ks) = (kd == 1) := by
  obtain ⟨h1, h2, h3⟩ := key_split h
  exact key_node h1 (fld_flag h2) (by rw [nodesT] at h3 ⊢; exact h3)
theorem key_textx {kd f : Int} {t : ByteArray} {S : List (Int × Int)} {ks : List KT} (h : keyB (.mk kd f t S ks) = true) : keyB (.mk kd f ⟨#[120]⟩ S ks) = (kd == 2) := by
  obtain ⟨h1, h2, h3⟩ := key_split h
  exact key_node h1 (fld_text h2) (by rw [nodesT] at h3 ⊢; exact h3)
theorem key_more {kd f : Int} {t : ByteArray} {S : List (Int × Int)} {ks : List KT} (h : keyB (.mk kd f t S ks) = true) (k : KT) : keyB (.mk kd f t S (ks ++ [k])) = false := by
  obtain ⟨h1, h2, h3⟩ := key_split h
  refine key_bad ?_
  rw [List.length_append]
  exact fld_keys h2
set_option maxRecDepth 20000 in
set_option maxHeartbeats 8000000 in
theorem law_FnKeyFields (A : Option Addr) (len cap : Nat) (w : World) (h : Coded w A len cap) (hSh : Shp w) (hLs : Lst w) (hMx : MxL w) : Calls Tryd.prog 5 #[.slice A len cap] w (Holds1 w) := by
  have HC := Lib.hid h
  have HSH := Lib.hid hSh
  have HLS := Lib.hid hLs
  clear h hSh hLs hMx
  by_cases hl : len ≤ 1048576
  · have hl' : (len : Int) ≤ 1048576 := by omega
    go_enter Tryd.func5, Tryd.ntmps5
    go_wp2_with fail
    refine (draw_key kd3 A len cap w HC.out).mono ?_
    rintro e w1 ⟨k, ⟨a0, a1, a2, ⟨a3, a4, a5⟩, ⟨a6, a7, a8⟩⟩, rfl, hk, hni, hn, hb0⟩
    obtain ⟨kd, f, t, S, ks⟩ := k
    have HN := Lib.hid hn
    have HK1 := Lib.hid hk
    have HNI := Lib.hid hni
    have HB1 := Lib.hid hb0
    obtain ⟨D, hD⟩ : ∃ D, w1.heap.size = D := ⟨_, rfl⟩
    have HDD := Lib.hid hD
    obtain ⟨w2, hw2⟩ : ∃ w2, w1.alloc (.cells #[.int .i64 a0, .int .i64 a1, .string a2, .slice a3 a4 a5, .slice a6 a7 a8] 26) = w2 := ⟨_, rfl⟩
    have HW2 := Lib.hid hw2
    have hbk : Below w1.heap.size w1 w2 := by rw [← hw2]; exact below_newK w1 _
    have HX2 : Hid (Whole w2 D 26 #[.int .i64 a0, .int .i64 a1, .string a2, .slice a3 a4 a5, .slice a6 a7 a8]) := Lib.hid (by rw [← hw2, ← hD]; exact Whole.made w1 _ _)
    have HB2 := Lib.hid (HB1.out.trans (hbk.mono HB1.out.size))
    have HK2 := Lib.hid (KV.below hbk (Nat.le_refl _) _ _ hk)
    clear hk hni hn hb0 hD hw2 hbk
    have z0 := HX2.out.cell 0
    have z1 := HX2.out.cell 1
    have z2 := HX2.out.cell 2
    have z3 := HX2.out.cell 3
    have z4 := HX2.out.cell 4
    simp at z0 z1 z2 z3 z4
    obtain ⟨o, ho⟩ : ∃ o, keyB (.mk kd f t S ks) = o := ⟨_, rfl⟩
    have HO := Lib.hid ho
    clear ho
    have HC2 := Lib.hid (impl_key HO.out w2 (HSH.out.below HB2.out (Nat.le_refl _)) (HLS.out.below HB2.out (Nat.le_refl _)) HK2.out)
    go_wp2_with fail
    rw [HW2.out, HDD.out]
    refine HC2.out.mono ?_
    rintro e w3 ⟨rfl, hb⟩
    have HX3 := Lib.hid (HX2.out.below hb HX2.out.lt)
    have HB3 := Lib.hid (HB2.out.trans (hb.mono HB2.out.size))
    have HK3 := Lib.hid (KV.below hb (Nat.le_refl _) _ _ HK2.out)
    clear hb z0 z1 z2 z3 z4
    have z0 := HX3.out.cell 0
    have z1 := HX3.out.cell 1
    have z2 := HX3.out.cell 2
    have z3 := HX3.out.cell 3
    have z4 := HX3.out.cell 4
    simp at z0 z1 z2 z3 z4
    have HC3 := Lib.hid (spec_key HK3.out (by have := HN.out; omega) HO.out)
    go_wp2_with fail
    refine HC3.out.mono ?_
    rintro e w4 ⟨rfl, hb⟩
    have HX4 := Lib.hid (HX3.out.below hb HX3.out.lt)
    have HB4 := Lib.hid (HB3.out.trans (hb.mono HB3.out.size))
    have HK4 := Lib.hid (KV.below hb (Nat.le_refl _) _ _ HK3.out)
    clear hb z0 z1 z2 z3 z4
    cases o with
    | false =>
      go_wp2
      go_ret
      exact ⟨rfl, HB4.out⟩
    | true =>
      have HKA := Lib.hid HO.out
      obtain ⟨rfl, rfl, rfl, hsl, hs33, ht16, hsp, rs, hrs, hat, hrl⟩ := kv_parts HK4.out
      obtain ⟨hn1, hn2, hn9⟩ := key_split HO.out
      have hksl := nodesL_len ks
      have hrl2 := hrs.len
      have ha7 : a7 ≤ 9 := by rw [nodesT] at hn9; omega
      have HRL := Lib.hid hrl
      have HRS := Lib.hid hrs
      have HAT := Lib.hid hat
      have HSL := Lib.hid hsl
      have HS33 := Lib.hid hs33
      have HT16 := Lib.hid ht16
      have HSP := Lib.hid hsp
      clear hsl hs33 ht16 hsp hrs hat hrl hn1 hn2 hn9 hksl hrl2
      have z0 : w4.cell? ⟨D, 0, none⟩ = some (.int .i64 kd) := HX4.out.cell 0
      have z1 : w4.cell? ⟨D, 1, none⟩ = some (.int .i64 f) := HX4.out.cell 1
      have z2 : w4.cell? ⟨D, 2, none⟩ = some (.string t) := HX4.out.cell 2
      have z3 : w4.cell? ⟨D, 3, none⟩ = some (.slice a3 a4 a5) := HX4.out.cell 3
      have z4 : w4.cell? ⟨D, 4, none⟩ = some (.slice a6 a7 a8) := HX4.out.cell 4
      obtain ⟨X, hX⟩ : ∃ P, w4.heap.size = P := ⟨_, rfl⟩
      obtain ⟨w5, hw5⟩ : ∃ wa, w4.alloc (.cells #[.int .i64 kd, .int .i64 1, .string t, .slice a3 a4 a5, .slice a6 a7 a8] 26) = wa := ⟨_, rfl⟩
      have hs5 : w5.heap.size = X + 1 := by rw [← hw5]; simp [hX]
      obtain ⟨w6, hw6⟩ : ∃ wa, w5.alloc (.cells #[.int .i64 kd, .int .i64 f, .string ⟨#[120]⟩, .slice a3 a4 a5, .slice a6 a7 a8] 26) = wa := ⟨_, rfl⟩
      have hs6 : w6.heap.size = X + 1 + 1 := by rw [← hw6]; simp [hs5]
      obtain ⟨w7, hw7⟩ : ∃ wa, w6.alloc (.cells #[.int .i64 kd, .int .i64 f, .string t, .slice a3 a4 a5, .slice a6 a7 a8] 26) = wa := ⟨_, rfl⟩
      have hs7 : w7.heap.size = X + 1 + 1 + 1 := by rw [← hw7]; simp [hs6]
      have hb5 : Below X w4 w5 := by rw [← hw5]; exact (Below.refl _ _).alloc (by omega) _
      have hb6 : Below X w4 w6 := by rw [← hw6]; exact hb5.alloc (by omega) _
      have hb7 : Below X w4 w7 := by rw [← hw7]; exact hb6.alloc (by omega) _
      have hDX : D < X := by rw [← hX]; exact HX4.out.lt
      have HCX := Lib.hid (show Whole w7 X 26 #[.int .i64 kd, .int .i64 1, .string t, .slice a3 a4 a5, .slice a6 a7 a8] by rw [← hw7, ← hw6, ← hw5]; exact ((whole_made1 hX).alloc _).alloc _)
      have HCY := Lib.hid (show Whole w7 (X + 1) 26 #[.int .i64 kd, .int .i64 f, .string ⟨#[120]⟩, .slice a3 a4 a5, .slice a6 a7 a8] by rw [← hw7, ← hw6]; exact (whole_made1 hs5).alloc _)
      have HCZ := Lib.hid (show Whole w7 (X + 1 + 1) 26 #[.int .i64 kd, .int .i64 f, .string t, .slice a3 a4 a5, .slice a6 a7 a8] by rw [← hw7]; exact whole_made1 hs6)
      have HQ7 := Lib.hid hb7
      have HD5 := Lib.hid (HX4.out.below hb5 hDX)
      have HD6 := Lib.hid (HX4.out.below hb6 hDX)
      have HD7 := Lib.hid (HX4.out.below hb7 hDX)
      have HW5 := Lib.hid hw5
      have HW6 := Lib.hid hw6
      have HW7 := Lib.hid hw7
      have HXX := Lib.hid hX
      have HS7 := Lib.hid hs7
      clear hb5 hb6 hb7 hw5 hw6 hw7 hX hs5 hs6
      have x0 : (w4.alloc (.cells #[.int .i64 kd, .int .i64 1, .string t, .slice a3 a4 a5, .slice a6 a7 a8] 26)).cell? ⟨D, 0, none⟩ = some (.int .i64 kd) := by rw [HW5.out]; exact HD5.out.cell 0
      have x1 : (w4.alloc (.cells #[.int .i64 kd, .int .i64 1, .string t, .slice a3 a4 a5, .slice a6 a7 a8] 26)).cell? ⟨D, 1, none⟩ = some (.int .i64 f) := by rw [HW5.out]; exact HD5.out.cell 1
      have x2 : (w4.alloc (.cells #[.int .i64 kd, .int .i64 1, .string t, .slice a3 a4 a5, .slice a6 a7 a8] 26)).cell? ⟨D, 2, none⟩ = some (.string t) := by rw [HW5.out]; exact HD5.out.cell 2
      have x3 : (w4.alloc (.cells #[.int .i64 kd, .int .i64 1, .string t, .slice a3 a4 a5, .slice a6 a7 a8] 26)).cell? ⟨D, 3, none⟩ = some (.slice a3 a4 a5) := by rw [HW5.out]; exact HD5.out.cell 3
      have x4 : (w4.alloc (.cells #[.int .i64 kd, .int .i64 1, .string t, .slice a3 a4 a5, .slice a6 a7 a8] 26)).cell? ⟨D, 4, none⟩ = some (.slice a6 a7 a8) := by rw [HW5.out]; exact HD5.out.cell 4
      have y0 : ((w4.alloc (.cells #[.int .i64 kd, .int .i64 1, .string t, .slice a3 a4 a5, .slice a6 a7 a8] 26)).alloc (.cells #[.int .i64 kd, .int .i64 f, .string ⟨#[120]⟩, .slice a3 a4 a5, .slice a6 a7 a8] 26)).cell? ⟨D, 0, none⟩ = some (.int .i64 kd) := by rw [HW5.out, HW6.out]; exact HD6.out.cell 0
      have y1 : ((w4.alloc (.cells #[.int .i64 kd, .int .i64 1, .string t, .slice a3 a4 a5, .slice a6 a7 a8] 26)).alloc (.cells #[.int .i64 kd, .int .i64 f, .string ⟨#[120]⟩, .slice a3 a4 a5, .slice a6 a7 a8] 26)).cell? ⟨D, 1, none⟩ = some (.int .i64 f) := by rw [HW5.out, HW6.out]; exact HD6.out.cell 1
      have y2 : ((w4.alloc (.cells #[.int .i64 kd, .int .i64 1, .string t, .slice a3 a4 a5, .slice a6 a7 a8] 26)).alloc (.cells #[.int .i64 kd, .int .i64 f, .string ⟨#[120]⟩, .slice a3 a4 a5, .slice a6 a7 a8] 26)).cell? ⟨D, 2, none⟩ = some (.string t) := by rw [HW5.out, HW6.out]; exact HD6.out.cell 2
      have y3 : ((w4.alloc (.cells #[.int .i64 kd, .int .i64 1, .string t, .slice a3 a4 a5, .slice a6 a7 a8] 26)).alloc (.cells #[.int .i64 kd, .int .i64 f, .string ⟨#[120]⟩, .slice a3 a4 a5, .slice a6 a7 a8] 26)).cell? ⟨D, 3, none⟩ = some (.slice a3 a4 a5) := by rw [HW5.out, HW6.out]; exact HD6.out.cell 3
      have y4 : ((w4.alloc (.cells #[.int .i64 kd, .int .i64 1, .string t, .slice a3 a4 a5, .slice a6 a7 a8] 26)).alloc (.cells #[.int .i64 kd, .int .i64 f, .string ⟨#[120]⟩, .slice a3 a4 a5, .slice a6 a7 a8] 26)).cell? ⟨D, 4, none⟩ = some (.slice a6 a7 a8) := by rw [HW5.out, HW6.out]; exact HD6.out.cell 4
      have u0 : (((w4.alloc (.cells #[.int .i64 kd, .int .i64 1, .string t, .slice a3 a4 a5, .slice a6 a7 a8] 26)).alloc (.cells #[.int .i64 kd, .int .i64 f, .string ⟨#[120]⟩, .slice a3 a4 a5, .slice a6 a7 a8] 26)).alloc (.cells #[.int .i64 kd, .int .i64 f, .string t, .slice a3 a4 a5, .slice a6 a7 a8] 26)).cell? ⟨D, 0, none⟩ = some (.int .i64 kd) := by rw [HW5.out, HW6.out, HW7.out]; exact HD7.out.cell 0
      have u1 : (((w4.alloc (.cells #[.int .i64 kd, .int .i64 1, .string t, .slice a3 a4 a5, .slice a6 a7 a8] 26)).alloc (.cells #[.int .i64 kd, .int .i64 f, .string ⟨#[120]⟩, .slice a3 a4 a5, .slice a6 a7 a8] 26)).alloc (.cells #[.int .i64 kd, .int .i64 f, .string t, .slice a3 a4 a5, .slice a6 a7 a8] 26)).cell? ⟨D, 1, none⟩ = some (.int .i64 f) := by rw [HW5.out, HW6.out, HW7.out]; exact HD7.out.cell 1
      have u2 : (((w4.alloc (.cells #[.int .i64 kd, .int .i64 1, .string t, .slice a3 a4 a5, .slice a6 a7 a8] 26)).alloc (.cells #[.int .i64 kd, .int .i64 f, .string ⟨#[120]⟩, .slice a3 a4 a5, .slice a6 a7 a8] 26)).alloc (.cells #[.int .i64 kd, .int .i64 f, .string t, .slice a3 a4 a5, .slice a6 a7 a8] 26)).cell? ⟨D, 2, none⟩ = some (.string t) := by rw [HW5.out, HW6.out, HW7.out]; exact HD7.out.cell 2
      have u3 : (((w4.alloc (.cells #[.int .i64 kd, .int .i64 1, .string t, .slice a3 a4 a5, .slice a6 a7 a8] 26)).alloc (.cells #[.int .i64 kd, .int .i64 f, .string ⟨#[120]⟩, .slice a3 a4 a5, .slice a6 a7 a8] 26)).alloc (.cells #[.int .i64 kd, .int .i64 f, .string t, .slice a3 a4 a5, .slice a6 a7 a8] 26)).cell? ⟨D, 3, none⟩ = some (.slice a3 a4 a5) := by rw [HW5.out, HW6.out, HW7.out]; exact HD7.out.cell 3
      have u4 : (((w4.alloc (.cells #[.int .i64 kd, .int .i64 1, .string t, .slice a3 a4 a5, .slice a6 a7 a8] 26)).alloc (.cells #[.int .i64 kd, .int .i64 f, .string ⟨#[120]⟩, .slice a3 a4 a5, .slice a6 a7 a8] 26)).alloc (.cells #[.int .i64 kd, .int .i64 f, .string t, .slice a3 a4 a5, .slice a6 a7 a8] 26)).cell? ⟨D, 4, none⟩ = some (.slice a6 a7 a8) := by rw [HW5.out, HW6.out, HW7.out]; exact HD7.out.cell 4
      have v4 : ((((w4.alloc (.cells #[.int .i64 kd, .int .i64 1, .string t, .slice a3 a4 a5, .slice a6 a7 a8] 26)).alloc (.cells #[.int .i64 kd, .int .i64 f, .string ⟨#[120]⟩, .slice a3 a4 a5, .slice a6 a7 a8] 26)).alloc (.cells #[.int .i64 kd, .int .i64 f, .string t, .slice a3 a4 a5, .slice a6 a7 a8] 26)).alloc (.cells #[] 26)).cell? ⟨D, 4, none⟩ = some (.slice a6 a7 a8) := by rw [HW5.out, HW6.out, HW7.out]; exact (HD7.out.alloc _).cell 4
      obtain ⟨i0, hi, hq0, hq1, hq2'⟩ := info_parts Tryd.infoKey
      have hml : 0 + a7 ≤ maxLen := by unfold maxLen; omega
      have hby : (0 + a7) * 80 ≤ 140737488355328 := by omega
      have hml2 : a7 + 1 ≤ maxLen := by unfold maxLen; omega
      have hby2 : (a7 + 1) * 80 ≤ 140737488355328 := by omega
      have hat4 : RAt keyR (w7.alloc (.cells #[] 26)) a6 rs := HAT.out.below (HQ7.out.alloc (by rw [HS7.out]; omega) _) (Nat.le_of_eq HXX.out)
      go_wp2_with (at_builtin; rw [HW5.out, HW6.out, HW7.out, HXX.out]; refine wpList_append_rows rfl (.tmp 33) (.tmp 35) 24 rfl keyR (X + 1 + 1 + 1) i0 _ 80 Tryd.underlying24 hi hq0 hq1 hq2' rfl (by decide) _ [] rs 0 rfl rfl (ROwn.lit w7 (X + 1 + 1 + 1) (Nat.le_of_eq hs7.symm) hs7) a6 a7 a8 rfl HRL.out hat4 HNI.out.1 HNI.out.2 hml hby (by simp [hs7]) ?_)
      intro v' w8 hown hgrow hnn
      obtain ⟨A8, N8, c8, rfl⟩ := hown.val
      have hN8 : N8 = a7 := hown.len.1.trans HRL.out
      subst hN8
      obtain ⟨g8, hg8⟩ : ∃ g, (Value.slice A8 N8 c8).ownBlock = some g := by cases h : (Value.slice A8 N8 c8).ownBlock with | none => exact absurd h (hnn (by simp [Value.ownBlock])) | some g => exact ⟨g, rfl⟩
      have hg8l : X + 1 + 1 + 1 ≤ g8 := (World.ownsRow.lt hown g8 hg8).1
      have hb8 : Below (X + 1 + 1 + 1) w7 w8 := below_gr ((Below.refl _ _).alloc (Nat.le_of_eq hs7.symm) _) hgrow (by simp [hs7]) (Nat.le_refl _)
      have HO8 := Lib.hid hown
      have HR8 := Lib.hid hb8
      have HG8 := Lib.hid hg8
      have hs8 : X + 1 + 1 + 1 ≤ w8.heap.size := by have := hb8.size; omega
      clear hown hgrow hnn hb8 hg8 hat4
      have hown9 := HO8.out.alloc (.cells #[.int .i64 0, .int .i64 0, .string ⟨#[]⟩, .slice none 0 0, .slice none 0 0] 26)
      have hnew9 := RAt.made keyR w8 [((0 : Int), (0 : Int), (⟨#[]⟩ : ByteArray), ((none : Option Addr), 0, 0), ((none : Option Addr), 0, 0))] w8.heap.size rfl
      have hsz9 : X + 1 + 1 + 1 ≤ (w8.alloc (.cells #[.int .i64 0, .int .i64 0, .string ⟨#[]⟩, .slice none 0 0, .slice none 0 0] 26)).heap.size := by simp; omega
      have HSZ9 := Lib.hid hsz9
      clear hsz9
      go_wp2_with (at_builtin; refine wpList_append_rows rfl (.tmp 36) (.tmp 38) 24 rfl keyR (X + 1 + 1 + 1) i0 _ 80 Tryd.underlying24 hi hq0 hq1 hq2' rfl (by decide) _ rs [((0 : Int), (0 : Int), (⟨#[]⟩ : ByteArray), ((none : Option Addr), 0, 0), ((none : Option Addr), 0, 0))] N8 HRL.out rfl hown9 (some ⟨w8.heap.size, 0, none⟩) 1 1 rfl rfl hnew9 (fun e => by cases e) (fun q e => by cases e; rfl) hml2 hby2 HSZ9.out ?_)
      intro v' w9 hown hgrow hnn
      obtain ⟨A9, N9, c9, rfl⟩ := hown.val
      have hN9 : N9 = N8 + 1 := by
        have := hown.len.1
        rw [List.length_append, HRL.out] at this
        exact this
      subst hN9
      rw [HG8.out] at hgrow
      have hb9 : Below (X + 1 + 1 + 1) w7 w9 := below_gr (HR8.out.alloc hs8 _) hgrow HSZ9.out hg8l
      have HO9 := Lib.hid hown
      have HR9 := Lib.hid hb9
      clear hown hgrow hnn hown9 hnew9 hb9
      have HZ9 := Lib.hid (HCZ.out.below HR9.out (by omega))
      have t0 : w9.cell? ⟨X + 1 + 1, 0, none⟩ = some (.int .i64 kd) := HZ9.out.cell 0
      have t1 : w9.cell? ⟨X + 1 + 1, 1, none⟩ = some (.int .i64 f) := HZ9.out.cell 1
      have t2 : w9.cell? ⟨X + 1 + 1, 2, none⟩ = some (.string t) := HZ9.out.cell 2
      have t3 : w9.cell? ⟨X + 1 + 1, 3, none⟩ = some (.slice a3 a4 a5) := HZ9.out.cell 3
      have t4 : w9.cell? ⟨X + 1 + 1, 4, none⟩ = some (.slice a6 N8 a8) := HZ9.out.cell 4
      have k0 := HZ9.out.free 0
      have k1 := HZ9.out.free 1
      have k2 := HZ9.out.free 2
      have k3 := HZ9.out.free 3
      have k4 := HZ9.out.free 4
      obtain ⟨w10, hw10⟩ : ∃ wa, w9.setCell ⟨X + 1 + 1, 4, none⟩ (.slice A9 (N8 + 1) c9) = wa := ⟨_, rfl⟩
      have hb10 : Below (X + 1 + 1) w7 w10 := by rw [← hw10]; exact (HR9.out.mono (Nat.le_succ (X + 1 + 1))).setCell (p := ⟨X + 1 + 1, 4, none⟩) (Nat.le_refl _) _
      have HZ10 := Lib.hid (show Whole w10 (X + 1 + 1) 26 #[.int .i64 kd, .int .i64 f, .string t, .slice a3 a4 a5, .slice A9 (N8 + 1) c9] by rw [← hw10]; exact HZ9.out.store 4 _)
      have HO10 := Lib.hid (show ROwn keyR w10 (X + 1 + 1 + 1) (.slice A9 (N8 + 1) c9) (rs ++ [((0 : Int), (0 : Int), (⟨#[]⟩ : ByteArray), ((none : Option Addr), 0, 0), ((none : Option Addr), 0, 0))]) by rw [← hw10]; exact HO9.out.store (fun e => by have := (World.ownsRow.lt HO9.out (X + 1 + 1) e).1; omega) _)
      have HX10 := Lib.hid (HCX.out.below hb10 (by omega))
      have HY10 := Lib.hid (HCY.out.below hb10 (by omega))
      have hq10 : Below X w4 w10 := HQ7.out.trans (hb10.mono (by omega))
      have HD10 := Lib.hid (HX4.out.below hq10 hDX)
      have HB10 := Lib.hid (HB4.out.trans (hq10.mono (by rw [← HXX.out]; exact HB4.out.size)))
      have HK10 := Lib.hid (KV.below hq10 (Nat.le_of_eq HXX.out) _ _ HK4.out)
      have HKX := Lib.hid (kv_put HK10.out kd 1 t HT16.out)
      have HKY := Lib.hid (kv_put HK10.out kd f ⟨#[120]⟩ (by decide))
      have hks : KRs (KV w10) (ks ++ [.mk 0 0 ⟨#[]⟩ [] []]) (rs ++ [((0 : Int), (0 : Int), (⟨#[]⟩ : ByteArray), ((none : Option Addr), 0, 0), ((none : Option Addr), 0, 0))]) := KRs.push (KRs.imp (fun k v h => KV.below hq10 (Nat.le_of_eq HXX.out) _ _ h) HRS.out) (kv_leaf 0 0 (by decide))
      have HKZ := Lib.hid (show KV w10 (.mk kd f t S (ks ++ [.mk 0 0 ⟨#[]⟩ [] []])) (kval (kd, f, t, (a3, a4, a5), (A9, N8 + 1, c9))) by
        rw [KV]
        exact ⟨a3, a4, a5, A9, N8 + 1, c9, rfl, HSL.out, HS33.out, HT16.out, HSP.out.below hq10 (Nat.le_of_eq HXX.out), by rw [hks.len]; exact HO10.out.len.1.symm, RAt.kvs (i := 0) HO10.out.at (fun j r h => by rw [Nat.zero_add]; exact h) hks⟩)
      have HSH10 := Lib.hid (HSH.out.below HB10.out (Nat.le_refl _))
      have HLS10 := Lib.hid (HLS.out.below HB10.out (Nat.le_refl _))
      have HW10 := Lib.hid hw10
      clear hb10 hq10 hks hw10
      have HVX := Lib.hid (key_flag1 HO.out)
      have HVY := Lib.hid (key_textx HO.out)
      have HVZ := Lib.hid (key_more HO.out (.mk 0 0 ⟨#[]⟩ [] []))
      have cd0 : w10.cell? ⟨D, 0, none⟩ = some (.int .i64 kd) := HD10.out.cell 0
      have cx0 : w10.cell? ⟨X, 0, none⟩ = some (.int .i64 kd) := HX10.out.cell 0
      have cx1 : w10.cell? ⟨X, 1, none⟩ = some (.int .i64 1) := HX10.out.cell 1
      have cx2 : w10.cell? ⟨X, 2, none⟩ = some (.string t) := HX10.out.cell 2
      have cx3 : w10.cell? ⟨X, 3, none⟩ = some (.slice a3 a4 a5) := HX10.out.cell 3
      have cx4 : w10.cell? ⟨X, 4, none⟩ = some (.slice a6 N8 a8) := HX10.out.cell 4
      have cy0 : w10.cell? ⟨X + 1, 0, none⟩ = some (.int .i64 kd) := HY10.out.cell 0
      have cy1 : w10.cell? ⟨X + 1, 1, none⟩ = some (.int .i64 f) := HY10.out.cell 1
      have cy2 : w10.cell? ⟨X + 1, 2, none⟩ = some (.string ⟨#[120]⟩) := HY10.out.cell 2
      have cy3 : w10.cell? ⟨X + 1, 3, none⟩ = some (.slice a3 a4 a5) := HY10.out.cell 3
      have cy4 : w10.cell? ⟨X + 1, 4, none⟩ = some (.slice a6 N8 a8) := HY10.out.cell 4
      have cz0 : w10.cell? ⟨X + 1 + 1, 0, none⟩ = some (.int .i64 kd) := HZ10.out.cell 0
      have cz1 : w10.cell? ⟨X + 1 + 1, 1, none⟩ = some (.int .i64 f) := HZ10.out.cell 1
      have cz2 : w10.cell? ⟨X + 1 + 1, 2, none⟩ = some (.string t) := HZ10.out.cell 2
      have cz3 : w10.cell? ⟨X + 1 + 1, 3, none⟩ = some (.slice a3 a4 a5) := HZ10.out.cell 3
      have cz4 : w10.cell? ⟨X + 1 + 1, 4, none⟩ = some (.slice A9 (N8 + 1) c9) := HZ10.out.cell 4
      go_wp2
      rw [HW10.out]
      have hzx : ((kd == 1) == (kd == 1)) = true := by simp
      have hzy : ((kd == 2) == (kd == 2)) = true := by simp
      have HSHD := Lib.hid (HSH10.out.below (below_drew1 w10) (Nat.le_refl _))
      have HLSD := Lib.hid (HLS10.out.below (below_drew1 w10) (Nat.le_refl _))
      have HKXD := Lib.hid (KV.below (below_drew1 w10) (Nat.le_refl _) _ _ HKX.out)
      go_region_held3 (fun w' => w'.cell? ⟨D, 0, none⟩ = some (.int .i64 kd) ∧ w'.cell? ⟨X, 0, none⟩ = some (.int .i64 kd) ∧ w'.cell? ⟨X, 1, none⟩ = some (.int .i64 1) ∧ w'.cell? ⟨X, 2, none⟩ = some (.string t) ∧ w'.cell? ⟨X, 3, none⟩ = some (.slice a3 a4 a5) ∧ w'.cell? ⟨X, 4, none⟩ = some (.slice a6 N8 a8) ∧ w'.cell? ⟨X + 1, 0, none⟩ = some (.int .i64 kd) ∧ w'.cell? ⟨X + 1, 1, none⟩ = some (.int .i64 f) ∧ w'.cell? ⟨X + 1, 2, none⟩ = some (.string ⟨#[120]⟩) ∧ w'.cell? ⟨X + 1, 3, none⟩ = some (.slice a3 a4 a5) ∧ w'.cell? ⟨X + 1, 4, none⟩ = some (.slice a6 N8 a8) ∧ w'.cell? ⟨X + 1 + 1, 0, none⟩ = some (.int .i64 kd) ∧ w'.cell? ⟨X + 1 + 1, 1, none⟩ = some (.int .i64 f) ∧ w'.cell? ⟨X + 1 + 1, 2, none⟩ = some (.string t) ∧ w'.cell? ⟨X + 1 + 1, 3, none⟩ = some (.slice a3 a4 a5) ∧ w'.cell? ⟨X + 1 + 1, 4, none⟩ = some (.slice A9 (N8 + 1) c9)) (go_keep) (first
        | (have hq := HB12
           clear hq
           go_at_call 25
           refine (impl_key HVZ.out w12 HSH12.out HLS12.out HKZ12.out).mono ?_
           rintro e w13 ⟨rfl, hb⟩
           have HD13 := Lib.hid (HD12.out.below hb HD12.out.lt)
           have HX13 := Lib.hid (HX12.out.below hb HX12.out.lt)
           have HY13 := Lib.hid (HY12.out.below hb HY12.out.lt)
           have HZ13 := Lib.hid (HZ12.out.below hb HZ12.out.lt)
           have HB13 := Lib.hid (HB12.out.trans (hb.mono HB12.out.size))
           have HSH13 := Lib.hid (HSH12.out.below hb (Nat.le_refl _))
           have HLS13 := Lib.hid (HLS12.out.below hb (Nat.le_refl _))
           have gd0 : w13.cell? ⟨D, 0, none⟩ = some (.int .i64 kd) := HD13.out.cell 0
           have gx0 : w13.cell? ⟨X, 0, none⟩ = some (.int .i64 kd) := HX13.out.cell 0
           have gx1 : w13.cell? ⟨X, 1, none⟩ = some (.int .i64 1) := HX13.out.cell 1
           have gx2 : w13.cell? ⟨X, 2, none⟩ = some (.string t) := HX13.out.cell 2
           have gx3 : w13.cell? ⟨X, 3, none⟩ = some (.slice a3 a4 a5) := HX13.out.cell 3
           have gx4 : w13.cell? ⟨X, 4, none⟩ = some (.slice a6 N8 a8) := HX13.out.cell 4
           have gy0 : w13.cell? ⟨X + 1, 0, none⟩ = some (.int .i64 kd) := HY13.out.cell 0
           have gy1 : w13.cell? ⟨X + 1, 1, none⟩ = some (.int .i64 f) := HY13.out.cell 1
           have gy2 : w13.cell? ⟨X + 1, 2, none⟩ = some (.string ⟨#[120]⟩) := HY13.out.cell 2
           have gy3 : w13.cell? ⟨X + 1, 3, none⟩ = some (.slice a3 a4 a5) := HY13.out.cell 3
           have gy4 : w13.cell? ⟨X + 1, 4, none⟩ = some (.slice a6 N8 a8) := HY13.out.cell 4
           have gz0 : w13.cell? ⟨X + 1 + 1, 0, none⟩ = some (.int .i64 kd) := HZ13.out.cell 0
           have gz1 : w13.cell? ⟨X + 1 + 1, 1, none⟩ = some (.int .i64 f) := HZ13.out.cell 1
           have gz2 : w13.cell? ⟨X + 1 + 1, 2, none⟩ = some (.string t) := HZ13.out.cell 2
           have gz3 : w13.cell? ⟨X + 1 + 1, 3, none⟩ = some (.slice a3 a4 a5) := HZ13.out.cell 3
           have gz4 : w13.cell? ⟨X + 1 + 1, 4, none⟩ = some (.slice A9 (N8 + 1) c9) := HZ13.out.cell 4
           clear hb)
        | (have hq := HB11
           clear hq
           go_at_call 25
           refine (impl_key HVY.out w11 HSH11.out HLS11.out HKY11.out).mono ?_
           rintro e w12 ⟨rfl, hb⟩
           have HD12 := Lib.hid (HD11.out.below hb HD11.out.lt)
           have HX12 := Lib.hid (HX11.out.below hb HX11.out.lt)
           have HY12 := Lib.hid (HY11.out.below hb HY11.out.lt)
           have HZ12 := Lib.hid (HZ11.out.below hb HZ11.out.lt)
           have HB12 := Lib.hid (HB11.out.trans (hb.mono HB11.out.size))
           have HSH12 := Lib.hid (HSH11.out.below hb (Nat.le_refl _))
           have HLS12 := Lib.hid (HLS11.out.below hb (Nat.le_refl _))
           have HKZ12 := Lib.hid (KV.below hb (Nat.le_refl _) _ _ HKZ11.out)
           have ed0 : w12.cell? ⟨D, 0, none⟩ = some (.int .i64 kd) := HD12.out.cell 0
           have ex0 : w12.cell? ⟨X, 0, none⟩ = some (.int .i64 kd) := HX12.out.cell 0
           have ex1 : w12.cell? ⟨X, 1, none⟩ = some (.int .i64 1) := HX12.out.cell 1
           have ex2 : w12.cell? ⟨X, 2, none⟩ = some (.string t) := HX12.out.cell 2
           have ex3 : w12.cell? ⟨X, 3, none⟩ = some (.slice a3 a4 a5) := HX12.out.cell 3
           have ex4 : w12.cell? ⟨X, 4, none⟩ = some (.slice a6 N8 a8) := HX12.out.cell 4
           have ey0 : w12.cell? ⟨X + 1, 0, none⟩ = some (.int .i64 kd) := HY12.out.cell 0
           have ey1 : w12.cell? ⟨X + 1, 1, none⟩ = some (.int .i64 f) := HY12.out.cell 1
           have ey2 : w12.cell? ⟨X + 1, 2, none⟩ = some (.string ⟨#[120]⟩) := HY12.out.cell 2
           have ey3 : w12.cell? ⟨X + 1, 3, none⟩ = some (.slice a3 a4 a5) := HY12.out.cell 3
           have ey4 : w12.cell? ⟨X + 1, 4, none⟩ = some (.slice a6 N8 a8) := HY12.out.cell 4
           have ez0 : w12.cell? ⟨X + 1 + 1, 0, none⟩ = some (.int .i64 kd) := HZ12.out.cell 0
           have ez1 : w12.cell? ⟨X + 1 + 1, 1, none⟩ = some (.int .i64 f) := HZ12.out.cell 1
           have ez2 : w12.cell? ⟨X + 1 + 1, 2, none⟩ = some (.string t) := HZ12.out.cell 2
           have ez3 : w12.cell? ⟨X + 1 + 1, 3, none⟩ = some (.slice a3 a4 a5) := HZ12.out.cell 3
           have ez4 : w12.cell? ⟨X + 1 + 1, 4, none⟩ = some (.slice A9 (N8 + 1) c9) := HZ12.out.cell 4
           clear hb)
        | (go_at_call 25
           refine (impl_key HVX.out w10.drew HSHD.out HLSD.out HKXD.out).mono ?_
           rintro e w11 ⟨rfl, hb⟩
           have hb0 : Below w10.heap.size w10 w11 := (below_drew1 w10).trans hb
           have HD11 := Lib.hid (HD10.out.below hb0 HD10.out.lt)
           have HX11 := Lib.hid (HX10.out.below hb0 HX10.out.lt)
           have HY11 := Lib.hid (HY10.out.below hb0 HY10.out.lt)
           have HZ11 := Lib.hid (HZ10.out.below hb0 HZ10.out.lt)
           have HB11 := Lib.hid (HB10.out.trans (hb0.mono HB10.out.size))
           have HSH11 := Lib.hid (HSH10.out.below hb0 (Nat.le_refl _))
           have HLS11 := Lib.hid (HLS10.out.below hb0 (Nat.le_refl _))
           have HKY11 := Lib.hid (KV.below hb0 (Nat.le_refl _) _ _ HKY.out)
           have HKZ11 := Lib.hid (KV.below hb0 (Nat.le_refl _) _ _ HKZ.out)
           have dd0 : w11.cell? ⟨D, 0, none⟩ = some (.int .i64 kd) := HD11.out.cell 0
           have dx0 : w11.cell? ⟨X, 0, none⟩ = some (.int .i64 kd) := HX11.out.cell 0
           have dx1 : w11.cell? ⟨X, 1, none⟩ = some (.int .i64 1) := HX11.out.cell 1
           have dx2 : w11.cell? ⟨X, 2, none⟩ = some (.string t) := HX11.out.cell 2
           have dx3 : w11.cell? ⟨X, 3, none⟩ = some (.slice a3 a4 a5) := HX11.out.cell 3
           have dx4 : w11.cell? ⟨X, 4, none⟩ = some (.slice a6 N8 a8) := HX11.out.cell 4
           have dy0 : w11.cell? ⟨X + 1, 0, none⟩ = some (.int .i64 kd) := HY11.out.cell 0
           have dy1 : w11.cell? ⟨X + 1, 1, none⟩ = some (.int .i64 f) := HY11.out.cell 1
           have dy2 : w11.cell? ⟨X + 1, 2, none⟩ = some (.string ⟨#[120]⟩) := HY11.out.cell 2
           have dy3 : w11.cell? ⟨X + 1, 3, none⟩ = some (.slice a3 a4 a5) := HY11.out.cell 3
           have dy4 : w11.cell? ⟨X + 1, 4, none⟩ = some (.slice a6 N8 a8) := HY11.out.cell 4
           have dz0 : w11.cell? ⟨X + 1 + 1, 0, none⟩ = some (.int .i64 kd) := HZ11.out.cell 0
           have dz1 : w11.cell? ⟨X + 1 + 1, 1, none⟩ = some (.int .i64 f) := HZ11.out.cell 1
           have dz2 : w11.cell? ⟨X + 1 + 1, 2, none⟩ = some (.string t) := HZ11.out.cell 2
           have dz3 : w11.cell? ⟨X + 1 + 1, 3, none⟩ = some (.slice a3 a4 a5) := HZ11.out.cell 3
           have dz4 : w11.cell? ⟨X + 1 + 1, 4, none⟩ = some (.slice A9 (N8 + 1) c9) := HZ11.out.cell 4
           clear hb hb0))
      go_wp2
      go_ret
      exact ⟨rfl, HB13.out⟩
  · have hl' : (1048576 : Int) < (len : Int) := by omega
    go_enter Tryd.func5, Tryd.ntmps5
    go_wp2
    go_ret
    exact ⟨rfl, Below.refl _ _⟩
end Go.Proofs.YtpihibconbejlaaDoor
