/-
  The walks of the laws FnAuth. Condition: the code can be read.
-/
import Derived.Test.YtichajalinkcdaaGreatDoorQk
namespace Go.Proofs.YtichajalinkcdaaGreatDoor
open Go.RowKit
set_option linter.unusedVariables false

set_option maxRecDepth 20000 in
set_option maxHeartbeats 8000000 in
theorem law_FnAuth (A0 : Option Addr) (len cap0 : Nat) (A1 : Option Addr) (len1 cap1 : Nat) (w : World) (h : Coded w A0 len cap0) (h1 : Coded w A1 len1 cap1) (hm : MxS w) : Calls Tryz.prog 8 #[.slice A0 len cap0, .slice A1 len1 cap1] w (Holds1 w) := by
  have HC := Lib.hid h
  have HM := Lib.hid hm
  clear h hm
  clear h1
  by_cases hlen : 1048576 < len
  ·
    have hlenI : (1048576 : Int) < (len : Int) := by omega
    go_enter Tryz.func8, Tryz.ntmps8
    go_wp2
    go_ret
    exact ⟨rfl, Below.refl _ _⟩
  have hlenJ : ¬ (1048576 : Int) < (len : Int) := by omega
  by_cases hlen1 : 1048576 < len1
  ·
    have hlenI1 : (1048576 : Int) < (len1 : Int) := by omega
    go_enter Tryz.func8, Tryz.ntmps8
    go_wp2
    go_ret
    exact ⟨rfl, Below.refl _ _⟩
  have hlenJ1 : ¬ (1048576 : Int) < (len1 : Int) := by omega
  go_enter Tryz.func8, Tryz.ntmps8
  go_wp2_with fail
  refine (draw_subline A0 len cap0 w HC.out).mono ?_
  rintro e w1 ⟨st, us, tx, d, l, A, AU, N, cap, NU, cU, T, L, rfl, hus, htx, hl, hT, ho, hu, hd, hll⟩
  obtain ⟨D, hD⟩ : ∃ D, w1.heap.size = D := ⟨_, rfl⟩
  obtain ⟨w2, hw2⟩ : ∃ w2, w1.alloc (.cells #[.int .i64 st, .string us, .slice A N cap, .string tx] 25) = w2 := ⟨_, rfl⟩
  have hs1 : SIn w1 A N cap T := SIn.made ho (by omega) (fun g hg => by have := hT g hg; omega)
  have hb2 : Below w1.heap.size w1 w2 := by rw [← hw2]; exact below_new _ _
  have K2 := Lib.hid (((UV.made hu.2.2.2.2 hu.uin HM.out).move hb2).and (SV.made (s := ⟨st, us, T, tx⟩) hs1 hD hw2))
  have HUS : Hid (us.size ≤ 30) := Lib.hid hus
  have HDS : Hid (d.size ≤ 30) := Lib.hid hd
  have HLS : Hid (l.size ≤ 200) := Lib.hid hll
  have HNU : Hid (1 ≤ NU ∧ NU ≤ 5) := Lib.hid ⟨hu.1, hu.2.1⟩
  have HUL : Hid (∀ g ∈ L, g.1.size ≤ 30 ∧ g.2.1.size ≤ 30) := Lib.hid hu.2.2.1
  have HTX : Hid (tx.size ≤ 30) := Lib.hid htx
  clear hus htx hl hT ho hu hd hll hs1 hb2
  obtain ⟨⟨⟨st1, us1, T1, tx1⟩, n1⟩, hr, hrv⟩ := lineIs_any ⟨st, us, T, tx⟩ L d l
  have HR := Lib.hid hr
  have HRV := Lib.hid hrv
  clear hr hrv
  have zs0 := K2.out.here.2.1.cell 0
  have zs1 := K2.out.here.2.1.cell 1
  have zs2 := K2.out.here.2.1.cell 2
  have zs3 := K2.out.here.2.1.cell 3
  simp only [List.getElem?_toArray, List.getElem?_cons_zero, List.getElem?_cons_succ] at zs0 zs1 zs2 zs3
  go_wp2_with fail
  refine (line_at HR.out _ K2.out.here.2.2 K2.out.here.1.2.1 K2.out.here.1.2.2 HUS.out HDS.out (by have := HLS.out; omega)).mono ?_
  rintro e w21 ⟨A21, N21, c21, rfl, hs, hb⟩
  obtain ⟨D21, hD⟩ : ∃ D, w21.heap.size = D := ⟨_, rfl⟩
  obtain ⟨v21, hw21⟩ : ∃ v, w21.alloc (.cells #[.int .i64 st1, .string us1, .slice A21 N21 c21, .string tx1] 25) = v := ⟨_, rfl⟩
  have hb2 : Below w21.heap.size w21 v21 := by rw [← hw21]; exact below_new _ _
  have K21 := Lib.hid (((K2.out.move hb).move hb2).and (SV.made (s := ⟨st1, us1, T1, tx1⟩) hs hD hw21))
  clear hb hb2 hs
  clear zs0 zs1 zs2 zs3
  have zs0 := K21.out.here.1.2.1.cell 0
  have zs1 := K21.out.here.1.2.1.cell 1
  have zs2 := K21.out.here.1.2.1.cell 2
  have zs3 := K21.out.here.1.2.1.cell 3
  simp only [List.getElem?_toArray, List.getElem?_cons_zero, List.getElem?_cons_succ] at zs0 zs1 zs2 zs3
  go_wp2_with fail
  refine (sline_at HR.out _ K21.out.here.1.2.2 K21.out.here.1.1.2.1 HUS.out HDS.out (by have := HLS.out; omega)).mono ?_
  rintro e w22 ⟨A22, N22, c22, rfl, hs, hb⟩
  obtain ⟨D22, hD⟩ : ∃ D, w22.heap.size = D := ⟨_, rfl⟩
  obtain ⟨v22, hw22⟩ : ∃ v, w22.alloc (.cells #[.int .i64 st1, .string us1, .slice A22 N22 c22, .string tx1] 25) = v := ⟨_, rfl⟩
  have hb2 : Below w22.heap.size w22 v22 := by rw [← hw22]; exact below_new _ _
  have K22 := Lib.hid (((K21.out.move hb).move hb2).and (SV.made (s := ⟨st1, us1, T1, tx1⟩) hs hD hw22))
  clear hb hb2 hs
  clear zs0 zs1 zs2 zs3
  have zo0 := K22.out.here.1.2.1.cell 0
  have zo1 := K22.out.here.1.2.1.cell 1
  have zo2 := K22.out.here.1.2.1.cell 2
  have zo3 := K22.out.here.1.2.1.cell 3
  have zt0 := K22.out.here.2.1.cell 0
  have zt1 := K22.out.here.2.1.cell 1
  have zt2 := K22.out.here.2.1.cell 2
  have zt3 := K22.out.here.2.1.cell 3
  simp only [List.getElem?_toArray, List.getElem?_cons_zero, List.getElem?_cons_succ] at zo0 zo1 zo2 zo3 zt0 zt1 zt2 zt3
  go_wp2_with fail
  refine (same_sub _ K22.out.here.1.2.2 K22.out.here.2.2).mono ?_
  rintro e x2w ⟨rfl, hb⟩
  have K23 := Lib.hid (K22.out.move hb)
  clear hb
  clear zo0 zo1 zo2 zo3 zt0 zt1 zt2 zt3
  cases hz : (sbV ⟨st, us, T, tx⟩ && (vU L && domB (kb d))) with
  | false =>
    have e0 : n1 = -1 := congrArg Prod.snd (HR.out.off hz)
    subst e0
    clear hz
    have zo0 := K23.out.here.1.2.1.cell 0
    have zo1 := K23.out.here.1.2.1.cell 1
    have zo2 := K23.out.here.1.2.1.cell 2
    have zo3 := K23.out.here.1.2.1.cell 3
    have zt0 := K23.out.here.2.1.cell 0
    have zt1 := K23.out.here.2.1.cell 1
    have zt2 := K23.out.here.2.1.cell 2
    have zt3 := K23.out.here.2.1.cell 3
    simp only [List.getElem?_toArray, List.getElem?_cons_zero, List.getElem?_cons_succ] at zo0 zo1 zo2 zo3 zt0 zt1 zt2 zt3
    go_wp2_with fail
    refine (same_sub _ K23.out.here.1.2.2 K23.out.here.2.2).mono ?_
    rintro e x3w ⟨rfl, hb⟩
    have K24 := Lib.hid (K23.out.move hb)
    clear hb
    clear zo0 zo1 zo2 zo3 zt0 zt1 zt2 zt3
    go_wp2
    go_ret
    exact ⟨rfl, K24.out.here.1.1.1.1⟩
  | true =>
    have h0 : ¬ n1 < 0 := by have h := HR.out.on hz; simp only at h; omega
    have HZ := Lib.hid hz
    clear hz
    by_cases h56 : st = 5 ∨ st = 6
    ·
      have zs0 := K23.out.here.1.1.2.1.cell 0
      have zs1 := K23.out.here.1.1.2.1.cell 1
      have zs2 := K23.out.here.1.1.2.1.cell 2
      have zs3 := K23.out.here.1.1.2.1.cell 3
      simp only [List.getElem?_toArray, List.getElem?_cons_zero, List.getElem?_cons_succ] at zs0 zs1 zs2 zs3
      go_wp2_with fail
      refine (open_at false (by rcases h56 with h | h <;> (rw [h]; rfl)) _).mono ?_
      rintro e x4w ⟨rfl, hb⟩
      have K25 := Lib.hid (K23.out.move hb)
      clear hb
      clear zs0 zs1 zs2 zs3
      have zo0 := K25.out.here.1.2.1.cell 0
      have zo1 := K25.out.here.1.2.1.cell 1
      have zo2 := K25.out.here.1.2.1.cell 2
      have zo3 := K25.out.here.1.2.1.cell 3
      have zt0 := K25.out.here.2.1.cell 0
      have zt1 := K25.out.here.2.1.cell 1
      have zt2 := K25.out.here.2.1.cell 2
      have zt3 := K25.out.here.2.1.cell 3
      simp only [List.getElem?_toArray, List.getElem?_cons_zero, List.getElem?_cons_succ] at zo0 zo1 zo2 zo3 zt0 zt1 zt2 zt3
      go_wp2_with fail
      refine (same_sub _ K25.out.here.1.2.2 K25.out.here.2.2).mono ?_
      rintro e x5w ⟨rfl, hb⟩
      have K26 := Lib.hid (K25.out.move hb)
      clear hb
      clear zo0 zo1 zo2 zo3 zt0 zt1 zt2 zt3
      go_wp2
      go_ret
      exact ⟨rfl, K26.out.here.1.1.1.1⟩
    have H5 : Hid (st ≠ 5) := Lib.hid (fun e => h56 (.inl e))
    have H6 : Hid (st ≠ 6) := Lib.hid (fun e => h56 (.inr e))
    have zs0 := K23.out.here.1.1.2.1.cell 0
    have zs1 := K23.out.here.1.1.2.1.cell 1
    have zs2 := K23.out.here.1.1.2.1.cell 2
    have zs3 := K23.out.here.1.1.2.1.cell 3
    simp only [List.getElem?_toArray, List.getElem?_cons_zero, List.getElem?_cons_succ] at zs0 zs1 zs2 zs3
    go_wp2_with fail
    refine (open_at true (by rw [bne_iff_ne.2 H5.out, bne_iff_ne.2 H6.out]; rfl) _).mono ?_
    rintro e x6w ⟨rfl, hb⟩
    have K27 := Lib.hid (K23.out.move hb)
    clear hb h56
    clear zs0 zs1 zs2 zs3
    obtain ⟨kk, hkk⟩ : ∃ k, len1 % NU = k := ⟨_, rfl⟩
    have hkN : kk < NU := hkk ▸ Nat.mod_lt _ (by have := HNU.out.1; omega)
    have hNU := HNU.out
    have R1 : (len1 : Int).tmod (NU : Int) = (kk : Int) := by rw [Int.tmod_eq_emod_of_nonneg (by omega), ← hkk]; omega
    have R2 : (len1 : Int) % (NU : Int) = (kk : Int) := by rw [← hkk]; omega
    have WR : IntKind.i64.wrap (kk : Int) = (kk : Int) := IntWalk.i64_in _ (by omega)
    have hN1 : ((NU : Int) == 0) = false := beq_eq_false_iff_ne.2 (by omega)
    have hNz : ¬ (NU : Int) = 0 := by omega
    have hk0 : (0 : Int) ≤ (kk : Int) := by omega
    have hkI : (kk : Int) < (NU : Int) := by omega
    obtain ⟨⟨un, up, uq⟩, hx⟩ : ∃ u, L[kk]? = some u := ⟨_, List.getElem?_eq_getElem (by have h := K27.out.here.1.1.1.2.1.1; omega)⟩
    obtain ⟨bu, ou, hAU⟩ := user_some K27.out.here.1.1.1.2.1 hx
    subst hAU
    have HXU := Lib.hid hx
    obtain ⟨q1, q2, q3⟩ := hz_v HZ.out
    obtain ⟨m1, m2, m3, m4, m5, m6, m7⟩ := user_mem q2 hx
    have hun : un.size ≤ 30 := by omega
    have hup : up.size ≤ 30 := by omega
    have hds : d.size ≤ 30 := HDS.out
    obtain ⟨mk0, hmk⟩ : ∃ m, mkB un up = m := ⟨_, rfl⟩
    have HMK := Lib.hid hmk
    have hmks : mk0.size ≤ 30 := by rw [← hmk]; have := mkB_le un up; omega
    have HNS : Hid (un.size ≤ 16777216) := Lib.hid (show _ ≤ _ by omega)
    have HPS : Hid (up.size ≤ 16777216) := Lib.hid (show _ ≤ _ by omega)
    obtain ⟨ln0, hln0⟩ : ∃ x, (⟨#[65, 85, 84, 72, 32, 80, 76, 65, 73, 78, 32]⟩ ++ mk0 : ByteArray) = x := ⟨_, rfl⟩
    have hln0s : ln0.size ≤ 50 := by rw [← hln0]; exact sz_app (show (⟨#[65, 85, 84, 72, 32, 80, 76, 65, 73, 78, 32]⟩ : ByteArray).size ≤ 20 by decide) hmks (by decide)
    have hln0c : ¬ 9223372036854775807 < 11 + mk0.size := by have := (show 0 ≤ 0 by decide); have := hmks; omega
    have hln0d : ¬ 9223372036854775807 < (⟨#[65, 85, 84, 72, 32, 80, 76, 65, 73, 78, 32]⟩ : ByteArray).size + mk0.size := hln0c
    have lne : (⟨#[65, 85, 84, 72, 32, 80, 76, 65, 73, 78, 32]⟩ ++ mk0 : ByteArray) = ln0 := by rw [hln0]
    have HLN : Hid (ln0.size ≤ 2000) := Lib.hid (show _ ≤ _ by omega)
    have HLI : LineIs ⟨st, us, T, tx⟩ L d ln0 (if st ≠ 1 then (⟨st, us, T, tx⟩, 503) else if prU L un up = true then (⟨2, un, [], eB⟩, 235) else (⟨st, us, T, tx⟩, 535)) := by rw [← lne, ← hmk]; exact li_plain HZ.out H5.out H6.out un up
    by_cases h1 : st = 1
    ·
      have HA : Hid (LineIs ⟨st, us, T, tx⟩ L d ln0 (⟨2, un, [], eB⟩, 235)) := Lib.hid (by have h := HLI; rw [if_neg (by simpa using h1), if_pos m4] at h; exact h)
      have h1' : (st != 1) = false := by rw [h1]; rfl
      clear h1 HLI m1 m2 m3 m4 m5 m6 m7 q1 q2 q3 hx lne hmk
      have zs0 := K27.out.here.1.1.2.1.cell 0
      have zs1 := K27.out.here.1.1.2.1.cell 1
      have zs2 := K27.out.here.1.1.2.1.cell 2
      have zs3 := K27.out.here.1.1.2.1.cell 3
      simp only [List.getElem?_toArray, List.getElem?_cons_zero, List.getElem?_cons_succ] at zs0 zs1 zs2 zs3
      obtain ⟨DU, hDU⟩ : ∃ D, x6w.heap.size = D := ⟨_, rfl⟩
      obtain ⟨wu, hwu⟩ : ∃ v, x6w.alloc (.cells #[.string un, .string up, .int .i64 uq] 35) = v := ⟨_, rfl⟩
      have hb2 : Below x6w.heap.size x6w wu := by rw [← hwu]; exact below_new _ _
      have hWU : Whole wu DU 35 #[.string un, .string up, .int .i64 uq] := by rw [← hwu, ← hDU]; exact Whole.made _ _ _
      obtain ⟨uc0, uc1, uc2⟩ := user_cells K27.out.here.1.1.1.2.1 HXU.out
      have K28 := Lib.hid ((K27.out.move hb2).and (kp_whole hWU))
      clear hb2 hWU
      have hgo : True := trivial
      have ys0 := K28.out.here.1.1.1.2.1.cell 0
      have ys1 := K28.out.here.1.1.1.2.1.cell 1
      have ys2 := K28.out.here.1.1.1.2.1.cell 2
      have ys3 := K28.out.here.1.1.1.2.1.cell 3
      simp only [List.getElem?_toArray, List.getElem?_cons_zero, List.getElem?_cons_succ] at ys0 ys1 ys2 ys3
      go_upto_region 9 with fail
      clear zs0 zs1 zs2 zs3 ys0 ys1 ys2 ys3
      go_cut [14, 15] (fun sx sy wx => ∃ (X N' c' : Nat) (A' : Option Addr), sx = .pointer (some ⟨X, 0, none⟩) ∧ sy = .int .i64 235 ∧ Hid (Below wu.heap.size wu wx) ∧ Hid (SV wx X ⟨2, un, [], eB⟩ A' N' c'))
      case first =>
        have HBd := Lib.hid (below_drew1 wu)
        have Kd := Lib.hid (K28.out.move HBd.out)
        obtain ⟨X, hX⟩ : ∃ X, wu.heap.size = X := ⟨_, rfl⟩
        obtain ⟨wy, hwy⟩ : ∃ wy, wu.alloc (.cells #[.int .i64 0, .string ⟨#[]⟩, .slice none 0 0, .string ⟨#[]⟩] 25) = wy := ⟨_, rfl⟩
        have HBy : Hid (Below wu.heap.size wu wy) := Lib.hid (by rw [← hwy]; exact below_new _ _)
        have Ky := Lib.hid (K28.out.move HBy.out)
        have HBe : Hid (Below wu.heap.size wu wy.drew) := Lib.hid (HBy.out.trans ((below_drew1 wy).mono HBy.out.size))
        have Ke := Lib.hid (K28.out.move HBe.out)
        have HXy : Hid (Whole wy.drew X 25 #[.int .i64 0, .string ⟨#[]⟩, .slice none 0 0, .string ⟨#[]⟩]) := Lib.hid (by rw [← hwy, ← hX]; exact (Whole.made wu 25 #[.int .i64 0, .string ⟨#[]⟩, .slice none 0 0, .string ⟨#[]⟩]).drew)
        have HXz : Hid (wu.heap.size ≤ X) := Lib.hid (by omega)
        have zs0 := K28.out.here.1.1.1.2.1.cell 0
        have zs1 := K28.out.here.1.1.1.2.1.cell 1
        have zs2 := K28.out.here.1.1.1.2.1.cell 2
        have zs3 := K28.out.here.1.1.1.2.1.cell 3
        simp only [List.getElem?_toArray, List.getElem?_cons_zero, List.getElem?_cons_succ] at zs0 zs1 zs2 zs3
        have xe0 := (K28.out.here.2).cell 0
        have xe1 := (K28.out.here.2).cell 1
        go_region_held3 (fun w' => w'.cell? ⟨D, 0, none⟩ = some (.int .i64 st) ∧ w'.cell? ⟨D, 1, none⟩ = some (.string us) ∧ w'.cell? ⟨D, 2, none⟩ = some (.slice A N cap) ∧ w'.cell? ⟨D, 3, none⟩ = some (.string tx) ∧ w'.cell? ⟨DU, 0, none⟩ = some (.string un) ∧ w'.cell? ⟨DU, 1, none⟩ = some (.string up)) (first | exact ⟨(KWwb.out.here.1.1.1.2).1.cell 0, (KWwb.out.here.1.1.1.2).1.cell 1, (KWwb.out.here.1.1.1.2).1.cell 2, (KWwb.out.here.1.1.1.2).1.cell 3, (KWwb.out.here.2).cell 0, (KWwb.out.here.2).cell 1⟩ | exact ⟨((Kp.move K28.out HBwb.out).here.1.1.1.2).1.cell 0, ((Kp.move K28.out HBwb.out).here.1.1.1.2).1.cell 1, ((Kp.move K28.out HBwb.out).here.1.1.1.2).1.cell 2, ((Kp.move K28.out HBwb.out).here.1.1.1.2).1.cell 3, ((Kp.move K28.out HBwb.out).here.2).cell 0, ((Kp.move K28.out HBwb.out).here.2).cell 1⟩ | exact ⟨(KWwd.out.here.1.1.1.2).1.cell 0, (KWwd.out.here.1.1.1.2).1.cell 1, (KWwd.out.here.1.1.1.2).1.cell 2, (KWwd.out.here.1.1.1.2).1.cell 3, (KWwd.out.here.2).cell 0, (KWwd.out.here.2).cell 1⟩ | exact ⟨((Kp.move K28.out HBwd.out).here.1.1.1.2).1.cell 0, ((Kp.move K28.out HBwd.out).here.1.1.1.2).1.cell 1, ((Kp.move K28.out HBwd.out).here.1.1.1.2).1.cell 2, ((Kp.move K28.out HBwd.out).here.1.1.1.2).1.cell 3, ((Kp.move K28.out HBwd.out).here.2).cell 0, ((Kp.move K28.out HBwd.out).here.2).cell 1⟩ | exact ⟨((Kwa.out.alloc _).here.1.1.1.2).1.cell 0, ((Kwa.out.alloc _).here.1.1.1.2).1.cell 1, ((Kwa.out.alloc _).here.1.1.1.2).1.cell 2, ((Kwa.out.alloc _).here.1.1.1.2).1.cell 3, ((Kwa.out.alloc _).here.2).cell 0, ((Kwa.out.alloc _).here.2).cell 1⟩ | exact ⟨(Kwa.out.here.1.1.1.2).1.cell 0, (Kwa.out.here.1.1.1.2).1.cell 1, (Kwa.out.here.1.1.1.2).1.cell 2, (Kwa.out.here.1.1.1.2).1.cell 3, (Kwa.out.here.2).cell 0, (Kwa.out.here.2).cell 1⟩ | exact ⟨(Kpa.out.here.1.1.1.2).1.cell 0, (Kpa.out.here.1.1.1.2).1.cell 1, (Kpa.out.here.1.1.1.2).1.cell 2, (Kpa.out.here.1.1.1.2).1.cell 3, (Kpa.out.here.2).cell 0, (Kpa.out.here.2).cell 1⟩ | exact ⟨(Kwp.out.here.1.1.1.2).1.cell 0, (Kwp.out.here.1.1.1.2).1.cell 1, (Kwp.out.here.1.1.1.2).1.cell 2, (Kwp.out.here.1.1.1.2).1.cell 3, (Kwp.out.here.2).cell 0, (Kwp.out.here.2).cell 1⟩ | exact ⟨(Kwq.out.here.1.1.1.2).1.cell 0, (Kwq.out.here.1.1.1.2).1.cell 1, (Kwq.out.here.1.1.1.2).1.cell 2, (Kwq.out.here.1.1.1.2).1.cell 3, (Kwq.out.here.2).cell 0, (Kwq.out.here.2).cell 1⟩ | exact ⟨(Ke.out.here.1.1.1.2).1.cell 0, (Ke.out.here.1.1.1.2).1.cell 1, (Ke.out.here.1.1.1.2).1.cell 2, (Ke.out.here.1.1.1.2).1.cell 3, (Ke.out.here.2).cell 0, (Ke.out.here.2).cell 1⟩ | exact ⟨(Ky.out.here.1.1.1.2).1.cell 0, (Ky.out.here.1.1.1.2).1.cell 1, (Ky.out.here.1.1.1.2).1.cell 2, (Ky.out.here.1.1.1.2).1.cell 3, (Ky.out.here.2).cell 0, (Ky.out.here.2).cell 1⟩ | exact ⟨(Kd.out.here.1.1.1.2).1.cell 0, (Kd.out.here.1.1.1.2).1.cell 1, (Kd.out.here.1.1.1.2).1.cell 2, (Kd.out.here.1.1.1.2).1.cell 3, (Kd.out.here.2).cell 0, (Kd.out.here.2).cell 1⟩ | go_keep) (first
          | (have hq := HXpa; clear hq; go_at_call 22; refine (line_new HA.out wpa (Kpa.out.here.1.1.1.2).2 (Kpa.out.here.1.1.1.1).2.1 (Kpa.out.here.1.1.1.1).2.2 HUS.out HDS.out HLN.out).mono ?_; rintro e wb ⟨A', N', c', rfl, hs, hb⟩; have HSwb := Lib.hid hs; have HBwb : Hid (Below wu.heap.size wu wb) := Lib.hid (HBpa.out.trans (hb.mono (by first | exact HBpa.out.size | exact Nat.le_refl _))); have HXwb := Lib.hid (HXpa.out.below hb HXpa.out.lt); have HLwb : Hid (X2 < wpa.heap.size) := Lib.hid HXpa.out.lt; have hx := HXwb.out; have y0 := hx.cell 0; have y1 := hx.cell 1; have y2 := hx.cell 2; have y3 := hx.cell 3; simp only [List.getElem?_toArray, List.getElem?_cons_zero, List.getElem?_cons_succ] at y0 y1 y2 y3; have f0 := hx.free 0; have f1 := hx.free 1; have f2 := hx.free 2; have f3 := hx.free 3; have KWwb : Hid (Kp ((((wb.setCell ⟨X2, 0, none⟩ (.int .i64 2)).setCell ⟨X2, 1, none⟩ (.string un)).setCell ⟨X2, 2, none⟩ (.slice A' N' c')).setCell ⟨X2, 3, none⟩ (.string eB)) _) := Lib.hid (K28.out.move (below_set4 HBwb.out HX2z.out _ _ _ _)); clear hs hb hx)
          | (have hq := HXq; clear hq; go_at_call 22; refine (line_new HA.out wq (Kwq.out.here.1.1.1.2).2 (Kwq.out.here.1.1.1.1).2.1 (Kwq.out.here.1.1.1.1).2.2 HUS.out HDS.out HLN.out).mono ?_; rintro e wd ⟨A', N', c', rfl, hs, hb⟩; have HSwd := Lib.hid hs; have HBwd : Hid (Below wu.heap.size wu wd) := Lib.hid (HBwq.out.trans (hb.mono (by first | exact HBwq.out.size | exact Nat.le_refl _))); have HXwd := Lib.hid (HXq.out.below hb HXq.out.lt); have HLwd : Hid (X < wq.heap.size) := Lib.hid HXq.out.lt; have hx := HXwd.out; have y0 := hx.cell 0; have y1 := hx.cell 1; have y2 := hx.cell 2; have y3 := hx.cell 3; simp only [List.getElem?_toArray, List.getElem?_cons_zero, List.getElem?_cons_succ] at y0 y1 y2 y3; have f0 := hx.free 0; have f1 := hx.free 1; have f2 := hx.free 2; have f3 := hx.free 3; have KWwd : Hid (Kp ((((wd.setCell ⟨X, 0, none⟩ (.int .i64 2)).setCell ⟨X, 1, none⟩ (.string un)).setCell ⟨X, 2, none⟩ (.slice A' N' c')).setCell ⟨X, 3, none⟩ (.string eB)) _) := Lib.hid (K28.out.move (below_set4 HBwd.out HXz.out _ _ _ _)); clear hs hb hx)
          | (have hq := HXpa; clear hq; go_at_call 22; refine (line_new HA.out wp (Kwp.out.here.1.1.1.2).2 (Kwp.out.here.1.1.1.1).2.1 (Kwp.out.here.1.1.1.1).2.2 HUS.out HDS.out HLN.out).mono ?_; rintro e wa ⟨A', N', c', rfl, hs, hb⟩; have HSwa := Lib.hid hs; have HBwa : Hid (Below wu.heap.size wu wa) := Lib.hid (HBwp.out.trans (hb.mono (by first | exact HBwp.out.size | exact Nat.le_refl _))); have Kwa := Lib.hid (K28.out.move HBwa.out); clear hs hb)
          | (go_at_call 26; refine (imk_at HMK.out wy.drew HNS.out HPS.out).mono ?_; rintro e wq ⟨rfl, hb⟩; have HBwq : Hid (Below wu.heap.size wu wq) := Lib.hid (HBe.out.trans (hb.mono (by first | exact HBe.out.size | exact Nat.le_refl _))); have Kwq := Lib.hid (K28.out.move HBwq.out); have HXq := Lib.hid (HXy.out.below hb HXy.out.lt); clear hb)
          | (go_at_call 26; refine (imk_at HMK.out wu.drew HNS.out HPS.out).mono ?_; rintro e wp ⟨rfl, hb⟩; have HBwp : Hid (Below wu.heap.size wu wp) := Lib.hid (HBd.out.trans (hb.mono (by first | exact HBd.out.size | exact Nat.le_refl _))); have Kwp := Lib.hid (K28.out.move HBwp.out); obtain ⟨X2, hX2⟩ : ∃ X2, wp.heap.size = X2 := ⟨_, rfl⟩; obtain ⟨wpa, hwpa⟩ : ∃ x, wp.alloc (.cells #[.int .i64 0, .string ⟨#[]⟩, .slice none 0 0, .string ⟨#[]⟩] 25) = x := ⟨_, rfl⟩; have HBpa : Hid (Below wu.heap.size wu wpa) := Lib.hid (by rw [← hwpa]; exact HBwp.out.trans ((below_new wp _).mono HBwp.out.size)); have Kpa := Lib.hid (K28.out.move HBpa.out); have HXpa : Hid (Whole wpa X2 25 #[.int .i64 0, .string ⟨#[]⟩, .slice none 0 0, .string ⟨#[]⟩]) := Lib.hid (by rw [← hwpa, ← hX2]; exact Whole.made _ _ _); have HX2z : Hid (wu.heap.size ≤ X2) := Lib.hid (by rw [← hX2]; exact HBwp.out.size); clear hb))
        all_goals go_wp2_with fail
        all_goals go_meet
        all_goals first
          | exact ⟨X2, N', c', A', rfl, rfl, Lib.hid (below_set4 HBwb.out HX2z.out _ _ _ _), Lib.hid (SV.put (s := ⟨2, un, [], eB⟩) HSwb.out.1 HXwb.out (fun q e => by have h1 := HSwb.out.2 q e; have h2 := HLwb.out; omega))⟩
          | exact ⟨X, N', c', A', rfl, rfl, Lib.hid (below_set4 HBwd.out HXz.out _ _ _ _), Lib.hid (SV.put (s := ⟨2, un, [], eB⟩) HSwd.out.1 HXwd.out (fun q e => by have h1 := HSwd.out.2 q e; have h2 := HLwd.out; omega))⟩
          | exact ⟨wa.heap.size, N', c', A', rfl, rfl, Lib.hid (HBwa.out.trans ((below_new _ _).mono HBwa.out.size)), Lib.hid (SV.new (s := ⟨2, un, [], eB⟩) HSwa.out.1 rfl)⟩
      case rest =>
        obtain ⟨D29, N29, c29, A29, rfl, rfl, hb, hs⟩ := hcut
        have K29 := Lib.hid ((K28.out.move hb.out).and (SV.keep hs.out))
        clear hb hs
        have zu0 : wc.cell? ⟨DU, 0, none⟩ = some (.string un) := (K29.out.here.1.2).cell 0
        have zx0 := K29.out.here.2.1.cell 0
        have zx1 := K29.out.here.2.1.cell 1
        have zx2 := K29.out.here.2.1.cell 2
        have zx3 := K29.out.here.2.1.cell 3
        have zs0 := K29.out.here.1.1.1.1.2.1.cell 0
        have zs1 := K29.out.here.1.1.1.1.2.1.cell 1
        have zs2 := K29.out.here.1.1.1.1.2.1.cell 2
        have zs3 := K29.out.here.1.1.1.1.2.1.cell 3
        simp only [List.getElem?_toArray, List.getElem?_cons_zero, List.getElem?_cons_succ] at zx0 zx1 zx2 zx3 zs0 zs1 zs2 zs3
        go_wp2_with fail
        refine (same_sub _ K29.out.here.2.2 (SIn.nil _)).mono ?_
        rintro e x9w ⟨rfl, hb⟩
        have K30 := Lib.hid (K29.out.move hb)
        clear hb
        clear zx0 zx1 zx2 zx3 zs0 zs1 zs2 zs3
        go_wp2
        go_ret
        exact ⟨rfl, K30.out.here.1.1.1.1.1.1⟩
    have HA : Hid (LineIs ⟨st, us, T, tx⟩ L d ln0 (⟨st, us, T, tx⟩, 503)) := Lib.hid (by have h := HLI; rw [if_pos h1] at h; exact h)
    have h1' : (st != 1) = true := bne_iff_ne.2 h1
    clear h1 HLI m1 m2 m3 m4 m5 m6 m7 q1 q2 q3 hx lne hmk
    have zs0 := K27.out.here.1.1.2.1.cell 0
    have zs1 := K27.out.here.1.1.2.1.cell 1
    have zs2 := K27.out.here.1.1.2.1.cell 2
    have zs3 := K27.out.here.1.1.2.1.cell 3
    simp only [List.getElem?_toArray, List.getElem?_cons_zero, List.getElem?_cons_succ] at zs0 zs1 zs2 zs3
    obtain ⟨DU, hDU⟩ : ∃ D, x6w.heap.size = D := ⟨_, rfl⟩
    obtain ⟨wu, hwu⟩ : ∃ v, x6w.alloc (.cells #[.string un, .string up, .int .i64 uq] 35) = v := ⟨_, rfl⟩
    have hb2 : Below x6w.heap.size x6w wu := by rw [← hwu]; exact below_new _ _
    have hWU : Whole wu DU 35 #[.string un, .string up, .int .i64 uq] := by rw [← hwu, ← hDU]; exact Whole.made _ _ _
    obtain ⟨uc0, uc1, uc2⟩ := user_cells K27.out.here.1.1.1.2.1 HXU.out
    have K31 := Lib.hid ((K27.out.move hb2).and (kp_whole hWU))
    clear hb2 hWU
    have hgo : True := trivial
    have ys0 := K31.out.here.1.1.1.2.1.cell 0
    have ys1 := K31.out.here.1.1.1.2.1.cell 1
    have ys2 := K31.out.here.1.1.1.2.1.cell 2
    have ys3 := K31.out.here.1.1.1.2.1.cell 3
    simp only [List.getElem?_toArray, List.getElem?_cons_zero, List.getElem?_cons_succ] at ys0 ys1 ys2 ys3
    go_upto_region 9 with fail
    clear zs0 zs1 zs2 zs3 ys0 ys1 ys2 ys3
    go_cut [14, 15] (fun sx sy wx => ∃ (X N' c' : Nat) (A' : Option Addr), sx = .pointer (some ⟨X, 0, none⟩) ∧ sy = .int .i64 503 ∧ Hid (Below wu.heap.size wu wx) ∧ Hid (SV wx X ⟨st, us, T, tx⟩ A' N' c'))
    case first =>
      have HBd := Lib.hid (below_drew1 wu)
      have Kd := Lib.hid (K31.out.move HBd.out)
      obtain ⟨X, hX⟩ : ∃ X, wu.heap.size = X := ⟨_, rfl⟩
      obtain ⟨wy, hwy⟩ : ∃ wy, wu.alloc (.cells #[.int .i64 0, .string ⟨#[]⟩, .slice none 0 0, .string ⟨#[]⟩] 25) = wy := ⟨_, rfl⟩
      have HBy : Hid (Below wu.heap.size wu wy) := Lib.hid (by rw [← hwy]; exact below_new _ _)
      have Ky := Lib.hid (K31.out.move HBy.out)
      have HBe : Hid (Below wu.heap.size wu wy.drew) := Lib.hid (HBy.out.trans ((below_drew1 wy).mono HBy.out.size))
      have Ke := Lib.hid (K31.out.move HBe.out)
      have HXy : Hid (Whole wy.drew X 25 #[.int .i64 0, .string ⟨#[]⟩, .slice none 0 0, .string ⟨#[]⟩]) := Lib.hid (by rw [← hwy, ← hX]; exact (Whole.made wu 25 #[.int .i64 0, .string ⟨#[]⟩, .slice none 0 0, .string ⟨#[]⟩]).drew)
      have HXz : Hid (wu.heap.size ≤ X) := Lib.hid (by omega)
      have zs0 := K31.out.here.1.1.1.2.1.cell 0
      have zs1 := K31.out.here.1.1.1.2.1.cell 1
      have zs2 := K31.out.here.1.1.1.2.1.cell 2
      have zs3 := K31.out.here.1.1.1.2.1.cell 3
      simp only [List.getElem?_toArray, List.getElem?_cons_zero, List.getElem?_cons_succ] at zs0 zs1 zs2 zs3
      have xe0 := (K31.out.here.2).cell 0
      have xe1 := (K31.out.here.2).cell 1
      go_region_held3 (fun w' => w'.cell? ⟨D, 0, none⟩ = some (.int .i64 st) ∧ w'.cell? ⟨D, 1, none⟩ = some (.string us) ∧ w'.cell? ⟨D, 2, none⟩ = some (.slice A N cap) ∧ w'.cell? ⟨D, 3, none⟩ = some (.string tx) ∧ w'.cell? ⟨DU, 0, none⟩ = some (.string un) ∧ w'.cell? ⟨DU, 1, none⟩ = some (.string up)) (first | exact ⟨(KWwb.out.here.1.1.1.2).1.cell 0, (KWwb.out.here.1.1.1.2).1.cell 1, (KWwb.out.here.1.1.1.2).1.cell 2, (KWwb.out.here.1.1.1.2).1.cell 3, (KWwb.out.here.2).cell 0, (KWwb.out.here.2).cell 1⟩ | exact ⟨((Kp.move K31.out HBwb.out).here.1.1.1.2).1.cell 0, ((Kp.move K31.out HBwb.out).here.1.1.1.2).1.cell 1, ((Kp.move K31.out HBwb.out).here.1.1.1.2).1.cell 2, ((Kp.move K31.out HBwb.out).here.1.1.1.2).1.cell 3, ((Kp.move K31.out HBwb.out).here.2).cell 0, ((Kp.move K31.out HBwb.out).here.2).cell 1⟩ | exact ⟨(KWwd.out.here.1.1.1.2).1.cell 0, (KWwd.out.here.1.1.1.2).1.cell 1, (KWwd.out.here.1.1.1.2).1.cell 2, (KWwd.out.here.1.1.1.2).1.cell 3, (KWwd.out.here.2).cell 0, (KWwd.out.here.2).cell 1⟩ | exact ⟨((Kp.move K31.out HBwd.out).here.1.1.1.2).1.cell 0, ((Kp.move K31.out HBwd.out).here.1.1.1.2).1.cell 1, ((Kp.move K31.out HBwd.out).here.1.1.1.2).1.cell 2, ((Kp.move K31.out HBwd.out).here.1.1.1.2).1.cell 3, ((Kp.move K31.out HBwd.out).here.2).cell 0, ((Kp.move K31.out HBwd.out).here.2).cell 1⟩ | exact ⟨((Kwa.out.alloc _).here.1.1.1.2).1.cell 0, ((Kwa.out.alloc _).here.1.1.1.2).1.cell 1, ((Kwa.out.alloc _).here.1.1.1.2).1.cell 2, ((Kwa.out.alloc _).here.1.1.1.2).1.cell 3, ((Kwa.out.alloc _).here.2).cell 0, ((Kwa.out.alloc _).here.2).cell 1⟩ | exact ⟨(Kwa.out.here.1.1.1.2).1.cell 0, (Kwa.out.here.1.1.1.2).1.cell 1, (Kwa.out.here.1.1.1.2).1.cell 2, (Kwa.out.here.1.1.1.2).1.cell 3, (Kwa.out.here.2).cell 0, (Kwa.out.here.2).cell 1⟩ | exact ⟨(Kpa.out.here.1.1.1.2).1.cell 0, (Kpa.out.here.1.1.1.2).1.cell 1, (Kpa.out.here.1.1.1.2).1.cell 2, (Kpa.out.here.1.1.1.2).1.cell 3, (Kpa.out.here.2).cell 0, (Kpa.out.here.2).cell 1⟩ | exact ⟨(Kwp.out.here.1.1.1.2).1.cell 0, (Kwp.out.here.1.1.1.2).1.cell 1, (Kwp.out.here.1.1.1.2).1.cell 2, (Kwp.out.here.1.1.1.2).1.cell 3, (Kwp.out.here.2).cell 0, (Kwp.out.here.2).cell 1⟩ | exact ⟨(Kwq.out.here.1.1.1.2).1.cell 0, (Kwq.out.here.1.1.1.2).1.cell 1, (Kwq.out.here.1.1.1.2).1.cell 2, (Kwq.out.here.1.1.1.2).1.cell 3, (Kwq.out.here.2).cell 0, (Kwq.out.here.2).cell 1⟩ | exact ⟨(Ke.out.here.1.1.1.2).1.cell 0, (Ke.out.here.1.1.1.2).1.cell 1, (Ke.out.here.1.1.1.2).1.cell 2, (Ke.out.here.1.1.1.2).1.cell 3, (Ke.out.here.2).cell 0, (Ke.out.here.2).cell 1⟩ | exact ⟨(Ky.out.here.1.1.1.2).1.cell 0, (Ky.out.here.1.1.1.2).1.cell 1, (Ky.out.here.1.1.1.2).1.cell 2, (Ky.out.here.1.1.1.2).1.cell 3, (Ky.out.here.2).cell 0, (Ky.out.here.2).cell 1⟩ | exact ⟨(Kd.out.here.1.1.1.2).1.cell 0, (Kd.out.here.1.1.1.2).1.cell 1, (Kd.out.here.1.1.1.2).1.cell 2, (Kd.out.here.1.1.1.2).1.cell 3, (Kd.out.here.2).cell 0, (Kd.out.here.2).cell 1⟩ | go_keep) (first
        | (have hq := HXpa; clear hq; go_at_call 22; refine (line_new HA.out wpa (Kpa.out.here.1.1.1.2).2 (Kpa.out.here.1.1.1.1).2.1 (Kpa.out.here.1.1.1.1).2.2 HUS.out HDS.out HLN.out).mono ?_; rintro e wb ⟨A', N', c', rfl, hs, hb⟩; have HSwb := Lib.hid hs; have HBwb : Hid (Below wu.heap.size wu wb) := Lib.hid (HBpa.out.trans (hb.mono (by first | exact HBpa.out.size | exact Nat.le_refl _))); have HXwb := Lib.hid (HXpa.out.below hb HXpa.out.lt); have HLwb : Hid (X2 < wpa.heap.size) := Lib.hid HXpa.out.lt; have hx := HXwb.out; have y0 := hx.cell 0; have y1 := hx.cell 1; have y2 := hx.cell 2; have y3 := hx.cell 3; simp only [List.getElem?_toArray, List.getElem?_cons_zero, List.getElem?_cons_succ] at y0 y1 y2 y3; have f0 := hx.free 0; have f1 := hx.free 1; have f2 := hx.free 2; have f3 := hx.free 3; have KWwb : Hid (Kp ((((wb.setCell ⟨X2, 0, none⟩ (.int .i64 st)).setCell ⟨X2, 1, none⟩ (.string us)).setCell ⟨X2, 2, none⟩ (.slice A' N' c')).setCell ⟨X2, 3, none⟩ (.string tx)) _) := Lib.hid (K31.out.move (below_set4 HBwb.out HX2z.out _ _ _ _)); clear hs hb hx)
        | (have hq := HXq; clear hq; go_at_call 22; refine (line_new HA.out wq (Kwq.out.here.1.1.1.2).2 (Kwq.out.here.1.1.1.1).2.1 (Kwq.out.here.1.1.1.1).2.2 HUS.out HDS.out HLN.out).mono ?_; rintro e wd ⟨A', N', c', rfl, hs, hb⟩; have HSwd := Lib.hid hs; have HBwd : Hid (Below wu.heap.size wu wd) := Lib.hid (HBwq.out.trans (hb.mono (by first | exact HBwq.out.size | exact Nat.le_refl _))); have HXwd := Lib.hid (HXq.out.below hb HXq.out.lt); have HLwd : Hid (X < wq.heap.size) := Lib.hid HXq.out.lt; have hx := HXwd.out; have y0 := hx.cell 0; have y1 := hx.cell 1; have y2 := hx.cell 2; have y3 := hx.cell 3; simp only [List.getElem?_toArray, List.getElem?_cons_zero, List.getElem?_cons_succ] at y0 y1 y2 y3; have f0 := hx.free 0; have f1 := hx.free 1; have f2 := hx.free 2; have f3 := hx.free 3; have KWwd : Hid (Kp ((((wd.setCell ⟨X, 0, none⟩ (.int .i64 st)).setCell ⟨X, 1, none⟩ (.string us)).setCell ⟨X, 2, none⟩ (.slice A' N' c')).setCell ⟨X, 3, none⟩ (.string tx)) _) := Lib.hid (K31.out.move (below_set4 HBwd.out HXz.out _ _ _ _)); clear hs hb hx)
        | (have hq := HXpa; clear hq; go_at_call 22; refine (line_new HA.out wp (Kwp.out.here.1.1.1.2).2 (Kwp.out.here.1.1.1.1).2.1 (Kwp.out.here.1.1.1.1).2.2 HUS.out HDS.out HLN.out).mono ?_; rintro e wa ⟨A', N', c', rfl, hs, hb⟩; have HSwa := Lib.hid hs; have HBwa : Hid (Below wu.heap.size wu wa) := Lib.hid (HBwp.out.trans (hb.mono (by first | exact HBwp.out.size | exact Nat.le_refl _))); have Kwa := Lib.hid (K31.out.move HBwa.out); clear hs hb)
        | (go_at_call 26; refine (imk_at HMK.out wy.drew HNS.out HPS.out).mono ?_; rintro e wq ⟨rfl, hb⟩; have HBwq : Hid (Below wu.heap.size wu wq) := Lib.hid (HBe.out.trans (hb.mono (by first | exact HBe.out.size | exact Nat.le_refl _))); have Kwq := Lib.hid (K31.out.move HBwq.out); have HXq := Lib.hid (HXy.out.below hb HXy.out.lt); clear hb)
        | (go_at_call 26; refine (imk_at HMK.out wu.drew HNS.out HPS.out).mono ?_; rintro e wp ⟨rfl, hb⟩; have HBwp : Hid (Below wu.heap.size wu wp) := Lib.hid (HBd.out.trans (hb.mono (by first | exact HBd.out.size | exact Nat.le_refl _))); have Kwp := Lib.hid (K31.out.move HBwp.out); obtain ⟨X2, hX2⟩ : ∃ X2, wp.heap.size = X2 := ⟨_, rfl⟩; obtain ⟨wpa, hwpa⟩ : ∃ x, wp.alloc (.cells #[.int .i64 0, .string ⟨#[]⟩, .slice none 0 0, .string ⟨#[]⟩] 25) = x := ⟨_, rfl⟩; have HBpa : Hid (Below wu.heap.size wu wpa) := Lib.hid (by rw [← hwpa]; exact HBwp.out.trans ((below_new wp _).mono HBwp.out.size)); have Kpa := Lib.hid (K31.out.move HBpa.out); have HXpa : Hid (Whole wpa X2 25 #[.int .i64 0, .string ⟨#[]⟩, .slice none 0 0, .string ⟨#[]⟩]) := Lib.hid (by rw [← hwpa, ← hX2]; exact Whole.made _ _ _); have HX2z : Hid (wu.heap.size ≤ X2) := Lib.hid (by rw [← hX2]; exact HBwp.out.size); clear hb))
      all_goals go_wp2_with fail
      all_goals go_meet
      all_goals first
        | exact ⟨X2, N', c', A', rfl, rfl, Lib.hid (below_set4 HBwb.out HX2z.out _ _ _ _), Lib.hid (SV.put (s := ⟨st, us, T, tx⟩) HSwb.out.1 HXwb.out (fun q e => by have h1 := HSwb.out.2 q e; have h2 := HLwb.out; omega))⟩
        | exact ⟨X, N', c', A', rfl, rfl, Lib.hid (below_set4 HBwd.out HXz.out _ _ _ _), Lib.hid (SV.put (s := ⟨st, us, T, tx⟩) HSwd.out.1 HXwd.out (fun q e => by have h1 := HSwd.out.2 q e; have h2 := HLwd.out; omega))⟩
        | exact ⟨wa.heap.size, N', c', A', rfl, rfl, Lib.hid (HBwa.out.trans ((below_new _ _).mono HBwa.out.size)), Lib.hid (SV.new (s := ⟨st, us, T, tx⟩) HSwa.out.1 rfl)⟩
    case rest =>
      obtain ⟨D32, N32, c32, A32, rfl, rfl, hb, hs⟩ := hcut
      have K32 := Lib.hid ((K31.out.move hb.out).and (SV.keep hs.out))
      clear hb hs
      have zx0 := K32.out.here.2.1.cell 0
      have zx1 := K32.out.here.2.1.cell 1
      have zx2 := K32.out.here.2.1.cell 2
      have zx3 := K32.out.here.2.1.cell 3
      have zs0 := K32.out.here.1.1.1.1.2.1.cell 0
      have zs1 := K32.out.here.1.1.1.1.2.1.cell 1
      have zs2 := K32.out.here.1.1.1.1.2.1.cell 2
      have zs3 := K32.out.here.1.1.1.1.2.1.cell 3
      simp only [List.getElem?_toArray, List.getElem?_cons_zero, List.getElem?_cons_succ] at zx0 zx1 zx2 zx3 zs0 zs1 zs2 zs3
      go_wp2_with fail
      refine (same_sub _ K32.out.here.2.2 K32.out.here.1.1.1.1.2.2).mono ?_
      rintro e x12w ⟨rfl, hb⟩
      have K33 := Lib.hid (K32.out.move hb)
      clear hb
      clear zx0 zx1 zx2 zx3 zs0 zs1 zs2 zs3
      go_wp2
      go_ret
      exact ⟨rfl, K33.out.here.1.1.1.1.1.1⟩
end Go.Proofs.YtichajalinkcdaaGreatDoor
