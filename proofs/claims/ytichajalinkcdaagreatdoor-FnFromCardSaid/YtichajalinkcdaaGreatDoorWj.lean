/-
  The walks of the laws FnFrom. Condition: the code can be read.
-/
import Derived.Test.YtichajalinkcdaaGreatDoorQk
namespace Go.Proofs.YtichajalinkcdaaGreatDoor
open Go.RowKit
set_option linter.unusedVariables false

set_option maxRecDepth 20000 in
set_option maxHeartbeats 8000000 in
theorem law_FnFrom (A0 : Option Addr) (len cap0 : Nat) (w : World) (h : Coded w A0 len cap0) (hm : MxS w) : Calls Tryz.prog 10 #[.slice A0 len cap0] w (Holds1 w) := by
  have HC := Lib.hid h
  have HM := Lib.hid hm
  clear h hm
  by_cases hlen : 1048576 < len
  ·
    have hlenI : (1048576 : Int) < (len : Int) := by omega
    go_enter Tryz.func10, Tryz.ntmps10
    go_wp2
    go_ret
    exact ⟨rfl, Below.refl _ _⟩
  have hlenJ : ¬ (1048576 : Int) < (len : Int) := by omega
  go_enter Tryz.func10, Tryz.ntmps10
  go_wp2_with fail
  refine (draw_subline A0 len cap0 w HC.out).mono ?_
  rintro e w1 ⟨st, us, tx, d, l, A, AU, N, cap, NU, cU, T, L, rfl, hus, htx, hl, hT, ho, hu, hd, hll⟩
  obtain ⟨D, hD⟩ : ∃ D, w1.heap.size = D := ⟨_, rfl⟩
  obtain ⟨w2, hw2⟩ : ∃ w2, w1.alloc (.cells #[.int .i64 st, .string us, .slice A N cap, .string tx] 25) = w2 := ⟨_, rfl⟩
  have hs1 : SIn w1 A N cap T := SIn.made ho (by omega) (fun g hg => by have := hT g hg; omega)
  have hb2 : Below w1.heap.size w1 w2 := by rw [← hw2]; exact below_new _ _
  have K2 := Lib.hid (((UV.made hu.2.2.2.2 hu.uin HM.out).move hb2).and (SV.made (s := ⟨st, us, T, tx⟩) hs1 hD hw2))
  have HUS : Hid (us.size ≤ 30) := Lib.hid hus
  have HDS : Hid (d.size ≤ 30) := Lib.hid hd
  have HLS : Hid (l.size ≤ 200) := Lib.hid hll
  have HNU : Hid (1 ≤ NU ∧ NU ≤ 5) := Lib.hid ⟨hu.1, hu.2.1⟩
  have HUL : Hid (∀ g ∈ L, g.1.size ≤ 30 ∧ g.2.1.size ≤ 30) := Lib.hid hu.2.2.1
  have HTX : Hid (tx.size ≤ 30) := Lib.hid htx
  clear hus htx hl hT ho hu hd hll hs1 hb2
  obtain ⟨⟨⟨st1, us1, T1, tx1⟩, n1⟩, hr, hrv⟩ := lineIs_any ⟨st, us, T, tx⟩ L d l
  have HR := Lib.hid hr
  have HRV := Lib.hid hrv
  clear hr hrv
  have zs0 := K2.out.here.2.1.cell 0
  have zs1 := K2.out.here.2.1.cell 1
  have zs2 := K2.out.here.2.1.cell 2
  have zs3 := K2.out.here.2.1.cell 3
  simp only [List.getElem?_toArray, List.getElem?_cons_zero, List.getElem?_cons_succ] at zs0 zs1 zs2 zs3
  go_wp2_with fail
  refine (line_at HR.out _ K2.out.here.2.2 K2.out.here.1.2.1 K2.out.here.1.2.2 HUS.out HDS.out (by have := HLS.out; omega)).mono ?_
  rintro e w21 ⟨A21, N21, c21, rfl, hs, hb⟩
  obtain ⟨D21, hD⟩ : ∃ D, w21.heap.size = D := ⟨_, rfl⟩
  obtain ⟨v21, hw21⟩ : ∃ v, w21.alloc (.cells #[.int .i64 st1, .string us1, .slice A21 N21 c21, .string tx1] 25) = v := ⟨_, rfl⟩
  have hb2 : Below w21.heap.size w21 v21 := by rw [← hw21]; exact below_new _ _
  have K21 := Lib.hid (((K2.out.move hb).move hb2).and (SV.made (s := ⟨st1, us1, T1, tx1⟩) hs hD hw21))
  clear hb hb2 hs
  clear zs0 zs1 zs2 zs3
  have zs0 := K21.out.here.1.2.1.cell 0
  have zs1 := K21.out.here.1.2.1.cell 1
  have zs2 := K21.out.here.1.2.1.cell 2
  have zs3 := K21.out.here.1.2.1.cell 3
  simp only [List.getElem?_toArray, List.getElem?_cons_zero, List.getElem?_cons_succ] at zs0 zs1 zs2 zs3
  go_wp2_with fail
  refine (sline_at HR.out _ K21.out.here.1.2.2 K21.out.here.1.1.2.1 HUS.out HDS.out (by have := HLS.out; omega)).mono ?_
  rintro e w22 ⟨A22, N22, c22, rfl, hs, hb⟩
  obtain ⟨D22, hD⟩ : ∃ D, w22.heap.size = D := ⟨_, rfl⟩
  obtain ⟨v22, hw22⟩ : ∃ v, w22.alloc (.cells #[.int .i64 st1, .string us1, .slice A22 N22 c22, .string tx1] 25) = v := ⟨_, rfl⟩
  have hb2 : Below w22.heap.size w22 v22 := by rw [← hw22]; exact below_new _ _
  have K22 := Lib.hid (((K21.out.move hb).move hb2).and (SV.made (s := ⟨st1, us1, T1, tx1⟩) hs hD hw22))
  clear hb hb2 hs
  clear zs0 zs1 zs2 zs3
  have zo0 := K22.out.here.1.2.1.cell 0
  have zo1 := K22.out.here.1.2.1.cell 1
  have zo2 := K22.out.here.1.2.1.cell 2
  have zo3 := K22.out.here.1.2.1.cell 3
  have zt0 := K22.out.here.2.1.cell 0
  have zt1 := K22.out.here.2.1.cell 1
  have zt2 := K22.out.here.2.1.cell 2
  have zt3 := K22.out.here.2.1.cell 3
  simp only [List.getElem?_toArray, List.getElem?_cons_zero, List.getElem?_cons_succ] at zo0 zo1 zo2 zo3 zt0 zt1 zt2 zt3
  go_wp2_with fail
  refine (same_sub _ K22.out.here.1.2.2 K22.out.here.2.2).mono ?_
  rintro e x2w ⟨rfl, hb⟩
  have K23 := Lib.hid (K22.out.move hb)
  clear hb
  clear zo0 zo1 zo2 zo3 zt0 zt1 zt2 zt3
  cases hz : (sbV ⟨st, us, T, tx⟩ && (vU L && domB (kb d))) with
  | false =>
    have e0 : n1 = -1 := congrArg Prod.snd (HR.out.off hz)
    subst e0
    clear hz
    have zo0 := K23.out.here.1.2.1.cell 0
    have zo1 := K23.out.here.1.2.1.cell 1
    have zo2 := K23.out.here.1.2.1.cell 2
    have zo3 := K23.out.here.1.2.1.cell 3
    have zt0 := K23.out.here.2.1.cell 0
    have zt1 := K23.out.here.2.1.cell 1
    have zt2 := K23.out.here.2.1.cell 2
    have zt3 := K23.out.here.2.1.cell 3
    simp only [List.getElem?_toArray, List.getElem?_cons_zero, List.getElem?_cons_succ] at zo0 zo1 zo2 zo3 zt0 zt1 zt2 zt3
    go_wp2_with fail
    refine (same_sub _ K23.out.here.1.2.2 K23.out.here.2.2).mono ?_
    rintro e x3w ⟨rfl, hb⟩
    have K24 := Lib.hid (K23.out.move hb)
    clear hb
    clear zo0 zo1 zo2 zo3 zt0 zt1 zt2 zt3
    go_wp2
    go_ret
    exact ⟨rfl, K24.out.here.1.1.1.1⟩
  | true =>
    have h0 : ¬ n1 < 0 := by have h := HR.out.on hz; simp only at h; omega
    have HZ := Lib.hid hz
    clear hz
    by_cases hst : st ≠ 2
    ·
      have hst' : (st != 2) = true := bne_iff_ne.2 hst
      clear hst
      have zs0 := K23.out.here.1.1.2.1.cell 0
      have zs1 := K23.out.here.1.1.2.1.cell 1
      have zs2 := K23.out.here.1.1.2.1.cell 2
      have zs3 := K23.out.here.1.1.2.1.cell 3
      simp only [List.getElem?_toArray, List.getElem?_cons_zero, List.getElem?_cons_succ] at zs0 zs1 zs2 zs3
      have yo0 := K23.out.here.1.2.1.cell 0
      have yo1 := K23.out.here.1.2.1.cell 1
      have yo2 := K23.out.here.1.2.1.cell 2
      have yo3 := K23.out.here.1.2.1.cell 3
      have yt0 := K23.out.here.2.1.cell 0
      have yt1 := K23.out.here.2.1.cell 1
      have yt2 := K23.out.here.2.1.cell 2
      have yt3 := K23.out.here.2.1.cell 3
      simp only [List.getElem?_toArray, List.getElem?_cons_zero, List.getElem?_cons_succ] at yo0 yo1 yo2 yo3 yt0 yt1 yt2 yt3
      go_wp2_with fail
      refine (same_sub _ K23.out.here.1.2.2 K23.out.here.2.2).mono ?_
      rintro e x4w ⟨rfl, hb⟩
      have K25 := Lib.hid (K23.out.move hb)
      clear hb
      go_wp2
      go_ret
      exact ⟨rfl, K25.out.here.1.1.1.1⟩
    obtain rfl : st = 2 := by omega
    clear hst
    by_cases hzu : us = ⟨#[122, 101, 100]⟩
    ·
      have hlit : us.toList = [122, 101, 100] := by rw [hzu, ByteArray.toList_eq]
      clear hzu
      have zs0 := K23.out.here.1.1.2.1.cell 0
      have zs1 := K23.out.here.1.1.2.1.cell 1
      have zs2 := K23.out.here.1.1.2.1.cell 2
      have zs3 := K23.out.here.1.1.2.1.cell 3
      simp only [List.getElem?_toArray, List.getElem?_cons_zero, List.getElem?_cons_succ] at zs0 zs1 zs2 zs3
      have yo0 := K23.out.here.1.2.1.cell 0
      have yo1 := K23.out.here.1.2.1.cell 1
      have yo2 := K23.out.here.1.2.1.cell 2
      have yo3 := K23.out.here.1.2.1.cell 3
      have yt0 := K23.out.here.2.1.cell 0
      have yt1 := K23.out.here.2.1.cell 1
      have yt2 := K23.out.here.2.1.cell 2
      have yt3 := K23.out.here.2.1.cell 3
      simp only [List.getElem?_toArray, List.getElem?_cons_zero, List.getElem?_cons_succ] at yo0 yo1 yo2 yo3 yt0 yt1 yt2 yt3
      go_wp2_with fail
      refine (same_sub _ K23.out.here.1.2.2 K23.out.here.2.2).mono ?_
      rintro e x5w ⟨rfl, hb⟩
      have K26 := Lib.hid (K23.out.move hb)
      clear hb
      go_wp2
      go_ret
      exact ⟨rfl, K26.out.here.1.1.1.1⟩
    obtain ⟨u1, u2, u3⟩ := lit_walk (xs := [122, 101, 100]) rfl hzu
    by_cases hzd : d = ⟨#[122, 101, 100]⟩
    ·
      have hlit : d.toList = [122, 101, 100] := by rw [hzd, ByteArray.toList_eq]
      clear hzd
      have zs0 := K23.out.here.1.1.2.1.cell 0
      have zs1 := K23.out.here.1.1.2.1.cell 1
      have zs2 := K23.out.here.1.1.2.1.cell 2
      have zs3 := K23.out.here.1.1.2.1.cell 3
      simp only [List.getElem?_toArray, List.getElem?_cons_zero, List.getElem?_cons_succ] at zs0 zs1 zs2 zs3
      have yo0 := K23.out.here.1.2.1.cell 0
      have yo1 := K23.out.here.1.2.1.cell 1
      have yo2 := K23.out.here.1.2.1.cell 2
      have yo3 := K23.out.here.1.2.1.cell 3
      have yt0 := K23.out.here.2.1.cell 0
      have yt1 := K23.out.here.2.1.cell 1
      have yt2 := K23.out.here.2.1.cell 2
      have yt3 := K23.out.here.2.1.cell 3
      simp only [List.getElem?_toArray, List.getElem?_cons_zero, List.getElem?_cons_succ] at yo0 yo1 yo2 yo3 yt0 yt1 yt2 yt3
      go_wp2_with fail
      refine (same_sub _ K23.out.here.1.2.2 K23.out.here.2.2).mono ?_
      rintro e x6w ⟨rfl, hb⟩
      have K27 := Lib.hid (K23.out.move hb)
      clear hb
      go_wp2
      go_ret
      exact ⟨rfl, K27.out.here.1.1.1.1⟩
    obtain ⟨d1, d2, d3⟩ := lit_walk (xs := [122, 101, 100]) rfl hzd
    obtain ⟨q1, q2, q3⟩ := hz_v HZ.out
    have hn : nameB (kb us) = true := (sbV_has q1).2.2.2.2.2.2.2.1 (by simp)
    have hnil : T = [] ∧ tx = eB := by have h := q1; rw [sbV_mid (.inl rfl)] at h; simp at h; exact h.2
    obtain ⟨rfl, rfl⟩ := hnil
    have EA : ((⟨#[77, 65, 73, 76, 32, 70, 82, 79, 77, 58, 60]⟩ ++ us ++ ⟨#[64]⟩ ++ d ++ ⟨#[62]⟩ : ByteArray)) = pathT bMAIL us d := kb_inj (by rw [kb_path]; simp only [kb_cat]; simp [kb, bMAIL])
    have EB : ((⟨#[77, 65, 73, 76, 32, 70, 82, 79, 77, 58, 60, 122, 101, 100, 64]⟩ ++ d ++ ⟨#[62]⟩ : ByteArray)) = pathT bMAIL ⟨#[122, 101, 100]⟩ d := kb_inj (by rw [kb_path]; simp only [kb_cat]; simp [kb, bMAIL])
    have EX : ((⟨#[77, 65, 73, 76, 32, 70, 82, 79, 77, 58, 60]⟩ ++ us ++ ⟨#[64, 122, 101, 100, 62]⟩ : ByteArray)) = pathT bMAIL us ⟨#[122, 101, 100]⟩ := kb_inj (by rw [kb_path]; simp only [kb_cat]; simp [kb, bMAIL])
    have HA : Hid (LineIs ⟨2, us, [], eB⟩ L d (⟨#[77, 65, 73, 76, 32, 70, 82, 79, 77, 58, 60]⟩ ++ us ++ ⟨#[64]⟩ ++ d ++ ⟨#[62]⟩) (⟨3, us, [], eB⟩, 250)) := Lib.hid (by rw [EA]; have h := li_from HZ.out (by simp) (by simp) hn q3; rw [if_neg (by simp), if_neg (by simp), if_pos ⟨rfl, rfl⟩] at h; exact h)
    have HB : Hid (LineIs ⟨2, us, [], eB⟩ L d (⟨#[77, 65, 73, 76, 32, 70, 82, 79, 77, 58, 60, 122, 101, 100, 64]⟩ ++ d ++ ⟨#[62]⟩) (⟨2, us, [], eB⟩, 550)) := Lib.hid (by rw [EB]; have h := li_from HZ.out (by simp) (by simp) (u := ⟨#[122, 101, 100]⟩) (by decide +kernel) q3; rw [if_neg (by simp), if_neg (by simp), if_neg (fun e => hzu e.1.symm)] at h; exact h)
    have HX : Hid (LineIs ⟨2, us, [], eB⟩ L d (⟨#[77, 65, 73, 76, 32, 70, 82, 79, 77, 58, 60]⟩ ++ us ++ ⟨#[64, 122, 101, 100, 62]⟩) (⟨2, us, [], eB⟩, 550)) := Lib.hid (by rw [EX]; have h := li_from HZ.out (by simp) (by simp) (v := ⟨#[122, 101, 100]⟩) hn (by decide +kernel); rw [if_neg (by simp), if_neg (by simp), if_neg (fun e => hzd e.2.symm)] at h; exact h)
    have HY : Hid (LineIs ⟨2, us, [], eB⟩ L d ⟨#[77, 65, 73, 76, 32, 70, 82, 79, 77, 58, 60, 62]⟩ (⟨2, us, [], eB⟩, 501)) := Lib.hid (li_from0 HZ.out rfl)
    have hus30 : us.size ≤ 30 := HUS.out
    have hds30 : d.size ≤ 30 := HDS.out
    clear hzu hzd q1 q2 q3 hn EA EB EX
    have zs0 := K23.out.here.1.1.2.1.cell 0
    have zs1 := K23.out.here.1.1.2.1.cell 1
    have zs2 := K23.out.here.1.1.2.1.cell 2
    have zs3 := K23.out.here.1.1.2.1.cell 3
    simp only [List.getElem?_toArray, List.getElem?_cons_zero, List.getElem?_cons_succ] at zs0 zs1 zs2 zs3
    go_wp2_with fail
    refine (line_at HA.out _ K23.out.here.1.1.2.2 K23.out.here.1.1.1.2.1 K23.out.here.1.1.1.2.2 HUS.out HDS.out (sz_app (k := 2000) (sz_app (k := 85) (sz_app (k := 55) (sz_app (n := 20) (m := 30) (k := 50) (by decide) HUS.out (by decide)) (m := 5) (by decide) (by decide)) HDS.out (by decide)) (m := 5) (by decide) (by decide))).mono ?_
    rintro e w28 ⟨A28, N28, c28, rfl, hs, hb⟩
    obtain ⟨D28, hD⟩ : ∃ D, w28.heap.size = D := ⟨_, rfl⟩
    obtain ⟨v28, hw28⟩ : ∃ v, w28.alloc (.cells #[.int .i64 3, .string us, .slice A28 N28 c28, .string eB] 25) = v := ⟨_, rfl⟩
    have hb2 : Below w28.heap.size w28 v28 := by rw [← hw28]; exact below_new _ _
    have K28 := Lib.hid (((K23.out.move hb).move hb2).and (SV.made (s := ⟨3, us, [], eB⟩) hs hD hw28))
    clear hb hb2 hs
    clear zs0 zs1 zs2 zs3
    have zs0 := K28.out.here.1.1.1.2.1.cell 0
    have zs1 := K28.out.here.1.1.1.2.1.cell 1
    have zs2 := K28.out.here.1.1.1.2.1.cell 2
    have zs3 := K28.out.here.1.1.1.2.1.cell 3
    simp only [List.getElem?_toArray, List.getElem?_cons_zero, List.getElem?_cons_succ] at zs0 zs1 zs2 zs3
    go_wp2_with fail
    refine (line_at HB.out _ K28.out.here.1.1.1.2.2 K28.out.here.1.1.1.1.2.1 K28.out.here.1.1.1.1.2.2 HUS.out HDS.out (sz_app (k := 2000) (sz_app (n := 20) (m := 30) (k := 50) (by decide) HDS.out (by decide)) (m := 5) (by decide) (by decide))).mono ?_
    rintro e w29 ⟨A29, N29, c29, rfl, hs, hb⟩
    obtain ⟨D29, hD⟩ : ∃ D, w29.heap.size = D := ⟨_, rfl⟩
    obtain ⟨v29, hw29⟩ : ∃ v, w29.alloc (.cells #[.int .i64 2, .string us, .slice A29 N29 c29, .string eB] 25) = v := ⟨_, rfl⟩
    have hb2 : Below w29.heap.size w29 v29 := by rw [← hw29]; exact below_new _ _
    have K29 := Lib.hid (((K28.out.move hb).move hb2).and (SV.made (s := ⟨2, us, [], eB⟩) hs hD hw29))
    clear hb hb2 hs
    clear zs0 zs1 zs2 zs3
    have zs0 := K29.out.here.1.1.1.1.2.1.cell 0
    have zs1 := K29.out.here.1.1.1.1.2.1.cell 1
    have zs2 := K29.out.here.1.1.1.1.2.1.cell 2
    have zs3 := K29.out.here.1.1.1.1.2.1.cell 3
    simp only [List.getElem?_toArray, List.getElem?_cons_zero, List.getElem?_cons_succ] at zs0 zs1 zs2 zs3
    go_wp2_with fail
    refine (line_at HX.out _ K29.out.here.1.1.1.1.2.2 K29.out.here.1.1.1.1.1.2.1 K29.out.here.1.1.1.1.1.2.2 HUS.out HDS.out (sz_app (k := 2000) (sz_app (n := 20) (m := 30) (k := 50) (by decide) HUS.out (by decide)) (m := 5) (by decide) (by decide))).mono ?_
    rintro e w30 ⟨A30, N30, c30, rfl, hs, hb⟩
    obtain ⟨D30, hD⟩ : ∃ D, w30.heap.size = D := ⟨_, rfl⟩
    obtain ⟨v30, hw30⟩ : ∃ v, w30.alloc (.cells #[.int .i64 2, .string us, .slice A30 N30 c30, .string eB] 25) = v := ⟨_, rfl⟩
    have hb2 : Below w30.heap.size w30 v30 := by rw [← hw30]; exact below_new _ _
    have K30 := Lib.hid (((K29.out.move hb).move hb2).and (SV.made (s := ⟨2, us, [], eB⟩) hs hD hw30))
    clear hb hb2 hs
    clear zs0 zs1 zs2 zs3
    have zs0 := K30.out.here.1.1.1.1.1.2.1.cell 0
    have zs1 := K30.out.here.1.1.1.1.1.2.1.cell 1
    have zs2 := K30.out.here.1.1.1.1.1.2.1.cell 2
    have zs3 := K30.out.here.1.1.1.1.1.2.1.cell 3
    simp only [List.getElem?_toArray, List.getElem?_cons_zero, List.getElem?_cons_succ] at zs0 zs1 zs2 zs3
    go_wp2_with fail
    refine (line_at HY.out _ K30.out.here.1.1.1.1.1.2.2 K30.out.here.1.1.1.1.1.1.2.1 K30.out.here.1.1.1.1.1.1.2.2 HUS.out HDS.out (by decide)).mono ?_
    rintro e w31 ⟨A31, N31, c31, rfl, hs, hb⟩
    obtain ⟨D31, hD⟩ : ∃ D, w31.heap.size = D := ⟨_, rfl⟩
    obtain ⟨v31, hw31⟩ : ∃ v, w31.alloc (.cells #[.int .i64 2, .string us, .slice A31 N31 c31, .string eB] 25) = v := ⟨_, rfl⟩
    have hb2 : Below w31.heap.size w31 v31 := by rw [← hw31]; exact below_new _ _
    have K31 := Lib.hid (((K30.out.move hb).move hb2).and (SV.made (s := ⟨2, us, [], eB⟩) hs hD hw31))
    clear hb hb2 hs
    clear zs0 zs1 zs2 zs3
    have zy0 := K31.out.here.1.1.2.1.cell 0
    have zy1 := K31.out.here.1.1.2.1.cell 1
    have zy2 := K31.out.here.1.1.2.1.cell 2
    have zy3 := K31.out.here.1.1.2.1.cell 3
    have zs0 := K31.out.here.1.1.1.1.1.1.2.1.cell 0
    have zs1 := K31.out.here.1.1.1.1.1.1.2.1.cell 1
    have zs2 := K31.out.here.1.1.1.1.1.1.2.1.cell 2
    have zs3 := K31.out.here.1.1.1.1.1.1.2.1.cell 3
    simp only [List.getElem?_toArray, List.getElem?_cons_zero, List.getElem?_cons_succ] at zy0 zy1 zy2 zy3 zs0 zs1 zs2 zs3
    go_wp2_with fail
    refine (same_sub _ K31.out.here.1.1.2.2 K31.out.here.1.1.1.1.1.1.2.2).mono ?_
    rintro e x11w ⟨rfl, hb⟩
    have K32 := Lib.hid (K31.out.move hb)
    clear hb
    clear zy0 zy1 zy2 zy3 zs0 zs1 zs2 zs3
    have zx0 := K32.out.here.1.1.1.2.1.cell 0
    have zx1 := K32.out.here.1.1.1.2.1.cell 1
    have zx2 := K32.out.here.1.1.1.2.1.cell 2
    have zx3 := K32.out.here.1.1.1.2.1.cell 3
    have zs0 := K32.out.here.1.1.1.1.1.1.2.1.cell 0
    have zs1 := K32.out.here.1.1.1.1.1.1.2.1.cell 1
    have zs2 := K32.out.here.1.1.1.1.1.1.2.1.cell 2
    have zs3 := K32.out.here.1.1.1.1.1.1.2.1.cell 3
    simp only [List.getElem?_toArray, List.getElem?_cons_zero, List.getElem?_cons_succ] at zx0 zx1 zx2 zx3 zs0 zs1 zs2 zs3
    go_wp2_with fail
    refine (same_sub _ K32.out.here.1.1.1.2.2 (SIn.nil _)).mono ?_
    rintro e x12w ⟨rfl, hb⟩
    have K33 := Lib.hid (K32.out.move hb)
    clear hb
    clear zx0 zx1 zx2 zx3 zs0 zs1 zs2 zs3
    go_wp2
    go_ret
    exact ⟨rfl, K33.out.here.1.1.1.1.1.1.1.1⟩
end Go.Proofs.YtichajalinkcdaaGreatDoor
