/-
  The walks of the laws FnDotLine. Condition: the code can be read.
-/
import Derived.Test.YtichajalinkcdaaGreatDoorQk
namespace Go.Proofs.YtichajalinkcdaaGreatDoor
open Go.RowKit
set_option linter.unusedVariables false

set_option maxRecDepth 20000 in
set_option maxHeartbeats 8000000 in
theorem law_FnDotLine (A0 : Option Addr) (len cap0 : Nat) (w : World) (h : Coded w A0 len cap0) (hm : MxS w) : Calls Tryz.prog 18 #[.slice A0 len cap0] w (Holds1 w) := by
  have HC := Lib.hid h
  have HM := Lib.hid hm
  clear h hm
  by_cases hlen : 1048576 < len
  ·
    have hlenI : (1048576 : Int) < (len : Int) := by omega
    go_enter Tryz.func18, Tryz.ntmps18
    go_wp2
    go_ret
    exact ⟨rfl, Below.refl _ _⟩
  have hlenJ : ¬ (1048576 : Int) < (len : Int) := by omega
  go_enter Tryz.func18, Tryz.ntmps18
  go_wp2_with fail
  refine (draw_subline A0 len cap0 w HC.out).mono ?_
  rintro e w1 ⟨st, us, tx, d, l, A, AU, N, cap, NU, cU, T, L, rfl, hus, htx, hl, hT, ho, hu, hd, hll⟩
  obtain ⟨D, hD⟩ : ∃ D, w1.heap.size = D := ⟨_, rfl⟩
  obtain ⟨w2, hw2⟩ : ∃ w2, w1.alloc (.cells #[.int .i64 st, .string us, .slice A N cap, .string tx] 25) = w2 := ⟨_, rfl⟩
  have hs1 : SIn w1 A N cap T := SIn.made ho (by omega) (fun g hg => by have := hT g hg; omega)
  have hb2 : Below w1.heap.size w1 w2 := by rw [← hw2]; exact below_new _ _
  have K2 := Lib.hid (((UV.made hu.2.2.2.2 hu.uin HM.out).move hb2).and (SV.made (s := ⟨st, us, T, tx⟩) hs1 hD hw2))
  have HUS : Hid (us.size ≤ 30) := Lib.hid hus
  have HDS : Hid (d.size ≤ 30) := Lib.hid hd
  have HLS : Hid (l.size ≤ 200) := Lib.hid hll
  have HNU : Hid (1 ≤ NU ∧ NU ≤ 5) := Lib.hid ⟨hu.1, hu.2.1⟩
  have HUL : Hid (∀ g ∈ L, g.1.size ≤ 30 ∧ g.2.1.size ≤ 30) := Lib.hid hu.2.2.1
  have HTX : Hid (tx.size ≤ 30) := Lib.hid htx
  clear hus htx hl hT ho hu hd hll hs1 hb2
  obtain ⟨⟨⟨st1, us1, T1, tx1⟩, n1⟩, hr, hrv⟩ := lineIs_any ⟨st, us, T, tx⟩ L d l
  have HR := Lib.hid hr
  have HRV := Lib.hid hrv
  clear hr hrv
  have zs0 := K2.out.here.2.1.cell 0
  have zs1 := K2.out.here.2.1.cell 1
  have zs2 := K2.out.here.2.1.cell 2
  have zs3 := K2.out.here.2.1.cell 3
  simp only [List.getElem?_toArray, List.getElem?_cons_zero, List.getElem?_cons_succ] at zs0 zs1 zs2 zs3
  go_wp2_with fail
  refine (line_at HR.out _ K2.out.here.2.2 K2.out.here.1.2.1 K2.out.here.1.2.2 HUS.out HDS.out (by have := HLS.out; omega)).mono ?_
  rintro e w21 ⟨A21, N21, c21, rfl, hs, hb⟩
  obtain ⟨D21, hD⟩ : ∃ D, w21.heap.size = D := ⟨_, rfl⟩
  obtain ⟨v21, hw21⟩ : ∃ v, w21.alloc (.cells #[.int .i64 st1, .string us1, .slice A21 N21 c21, .string tx1] 25) = v := ⟨_, rfl⟩
  have hb2 : Below w21.heap.size w21 v21 := by rw [← hw21]; exact below_new _ _
  have K21 := Lib.hid (((K2.out.move hb).move hb2).and (SV.made (s := ⟨st1, us1, T1, tx1⟩) hs hD hw21))
  clear hb hb2 hs
  clear zs0 zs1 zs2 zs3
  have zs0 := K21.out.here.1.2.1.cell 0
  have zs1 := K21.out.here.1.2.1.cell 1
  have zs2 := K21.out.here.1.2.1.cell 2
  have zs3 := K21.out.here.1.2.1.cell 3
  simp only [List.getElem?_toArray, List.getElem?_cons_zero, List.getElem?_cons_succ] at zs0 zs1 zs2 zs3
  go_wp2_with fail
  refine (sline_at HR.out _ K21.out.here.1.2.2 K21.out.here.1.1.2.1 HUS.out HDS.out (by have := HLS.out; omega)).mono ?_
  rintro e w22 ⟨A22, N22, c22, rfl, hs, hb⟩
  obtain ⟨D22, hD⟩ : ∃ D, w22.heap.size = D := ⟨_, rfl⟩
  obtain ⟨v22, hw22⟩ : ∃ v, w22.alloc (.cells #[.int .i64 st1, .string us1, .slice A22 N22 c22, .string tx1] 25) = v := ⟨_, rfl⟩
  have hb2 : Below w22.heap.size w22 v22 := by rw [← hw22]; exact below_new _ _
  have K22 := Lib.hid (((K21.out.move hb).move hb2).and (SV.made (s := ⟨st1, us1, T1, tx1⟩) hs hD hw22))
  clear hb hb2 hs
  clear zs0 zs1 zs2 zs3
  have zo0 := K22.out.here.1.2.1.cell 0
  have zo1 := K22.out.here.1.2.1.cell 1
  have zo2 := K22.out.here.1.2.1.cell 2
  have zo3 := K22.out.here.1.2.1.cell 3
  have zt0 := K22.out.here.2.1.cell 0
  have zt1 := K22.out.here.2.1.cell 1
  have zt2 := K22.out.here.2.1.cell 2
  have zt3 := K22.out.here.2.1.cell 3
  simp only [List.getElem?_toArray, List.getElem?_cons_zero, List.getElem?_cons_succ] at zo0 zo1 zo2 zo3 zt0 zt1 zt2 zt3
  go_wp2_with fail
  refine (same_sub _ K22.out.here.1.2.2 K22.out.here.2.2).mono ?_
  rintro e x2w ⟨rfl, hb⟩
  have K23 := Lib.hid (K22.out.move hb)
  clear hb
  clear zo0 zo1 zo2 zo3 zt0 zt1 zt2 zt3
  cases hz : (sbV ⟨st, us, T, tx⟩ && (vU L && domB (kb d))) with
  | false =>
    have e0 : n1 = -1 := congrArg Prod.snd (HR.out.off hz)
    subst e0
    clear hz
    have zo0 := K23.out.here.1.2.1.cell 0
    have zo1 := K23.out.here.1.2.1.cell 1
    have zo2 := K23.out.here.1.2.1.cell 2
    have zo3 := K23.out.here.1.2.1.cell 3
    have zt0 := K23.out.here.2.1.cell 0
    have zt1 := K23.out.here.2.1.cell 1
    have zt2 := K23.out.here.2.1.cell 2
    have zt3 := K23.out.here.2.1.cell 3
    simp only [List.getElem?_toArray, List.getElem?_cons_zero, List.getElem?_cons_succ] at zo0 zo1 zo2 zo3 zt0 zt1 zt2 zt3
    go_wp2_with fail
    refine (same_sub _ K23.out.here.1.2.2 K23.out.here.2.2).mono ?_
    rintro e x3w ⟨rfl, hb⟩
    have K24 := Lib.hid (K23.out.move hb)
    clear hb
    clear zo0 zo1 zo2 zo3 zt0 zt1 zt2 zt3
    go_wp2
    go_ret
    exact ⟨rfl, K24.out.here.1.1.1.1⟩
  | true =>
    have h0 : ¬ n1 < 0 := by have h := HR.out.on hz; simp only at h; omega
    have HZ := Lib.hid hz
    clear hz
    by_cases hst : st ≠ 5
    ·
      have hst' : (st != 5) = true := bne_iff_ne.2 hst
      clear hst
      have zs0 := K23.out.here.1.1.2.1.cell 0
      have zs1 := K23.out.here.1.1.2.1.cell 1
      have zs2 := K23.out.here.1.1.2.1.cell 2
      have zs3 := K23.out.here.1.1.2.1.cell 3
      simp only [List.getElem?_toArray, List.getElem?_cons_zero, List.getElem?_cons_succ] at zs0 zs1 zs2 zs3
      have yo0 := K23.out.here.1.2.1.cell 0
      have yo1 := K23.out.here.1.2.1.cell 1
      have yo2 := K23.out.here.1.2.1.cell 2
      have yo3 := K23.out.here.1.2.1.cell 3
      have yt0 := K23.out.here.2.1.cell 0
      have yt1 := K23.out.here.2.1.cell 1
      have yt2 := K23.out.here.2.1.cell 2
      have yt3 := K23.out.here.2.1.cell 3
      simp only [List.getElem?_toArray, List.getElem?_cons_zero, List.getElem?_cons_succ] at yo0 yo1 yo2 yo3 yt0 yt1 yt2 yt3
      go_wp2_with fail
      refine (same_sub _ K23.out.here.1.2.2 K23.out.here.2.2).mono ?_
      rintro e x4w ⟨rfl, hb⟩
      have K25 := Lib.hid (K23.out.move hb)
      clear hb
      go_wp2
      go_ret
      exact ⟨rfl, K25.out.here.1.1.1.1⟩
    obtain rfl : st = 5 := by omega
    clear hst
    obtain ⟨t1, ht1⟩ : ∃ t, addF tx ⟨#[120]⟩ = t := ⟨_, rfl⟩
    obtain ⟨t2, ht2⟩ : ∃ t, addF tx ⟨#[46, 46]⟩ = t := ⟨_, rfl⟩
    have HA : Hid (LineIs ⟨5, us, T, tx⟩ L d ⟨#[46, 120]⟩ (⟨5, us, T, t1⟩, 0)) := Lib.hid (by have h := li_5 (l := ⟨#[46, 120]⟩) HZ.out rfl; unfold dataF at h; rw [if_neg (by decide)] at h; rw [← ht1, show addF tx ⟨#[120]⟩ = addF tx ⟨#[46, 120]⟩ from rfl]; exact h)
    have HB : Hid (LineIs ⟨5, us, T, tx⟩ L d ⟨#[120]⟩ (⟨5, us, T, t1⟩, 0)) := Lib.hid (by have h := li_5 (l := ⟨#[120]⟩) HZ.out rfl; unfold dataF at h; rw [if_neg (by decide)] at h; rw [← ht1]; exact h)
    have HX : Hid (LineIs ⟨5, us, T, tx⟩ L d ⟨#[46, 46]⟩ (⟨5, us, T, t2⟩, 0)) := Lib.hid (by have h := li_5 (l := ⟨#[46, 46]⟩) HZ.out rfl; unfold dataF at h; rw [if_neg (by decide)] at h; rw [← ht2]; exact h)
    have HT2 : Hid (t2 = (tx ++ ⟨#[46, 10]⟩).extract 0 21) := Lib.hid (by rw [← ht2]; unfold addF; rw [if_pos (show (⟨#[46, 46]⟩ : ByteArray).data.toList.head? = some 46 from rfl)]; congr 1; refine kb_inj ?_; simp only [kb_cat]; rw [List.append_assoc]; rfl)
    clear ht1 ht2
    have zs0 := K23.out.here.1.1.2.1.cell 0
    have zs1 := K23.out.here.1.1.2.1.cell 1
    have zs2 := K23.out.here.1.1.2.1.cell 2
    have zs3 := K23.out.here.1.1.2.1.cell 3
    simp only [List.getElem?_toArray, List.getElem?_cons_zero, List.getElem?_cons_succ] at zs0 zs1 zs2 zs3
    go_wp2_with fail
    refine (line_at HA.out _ K23.out.here.1.1.2.2 K23.out.here.1.1.1.2.1 K23.out.here.1.1.1.2.2 HUS.out HDS.out (by decide)).mono ?_
    rintro e w26 ⟨A26, N26, c26, rfl, hs, hb⟩
    obtain ⟨D26, hD⟩ : ∃ D, w26.heap.size = D := ⟨_, rfl⟩
    obtain ⟨v26, hw26⟩ : ∃ v, w26.alloc (.cells #[.int .i64 5, .string us, .slice A26 N26 c26, .string t1] 25) = v := ⟨_, rfl⟩
    have hb2 : Below w26.heap.size w26 v26 := by rw [← hw26]; exact below_new _ _
    have K26 := Lib.hid (((K23.out.move hb).move hb2).and (SV.made (s := ⟨5, us, T, t1⟩) hs hD hw26))
    clear hb hb2 hs
    clear zs0 zs1 zs2 zs3
    have zs0 := K26.out.here.1.1.1.2.1.cell 0
    have zs1 := K26.out.here.1.1.1.2.1.cell 1
    have zs2 := K26.out.here.1.1.1.2.1.cell 2
    have zs3 := K26.out.here.1.1.1.2.1.cell 3
    simp only [List.getElem?_toArray, List.getElem?_cons_zero, List.getElem?_cons_succ] at zs0 zs1 zs2 zs3
    go_wp2_with fail
    refine (line_at HB.out _ K26.out.here.1.1.1.2.2 K26.out.here.1.1.1.1.2.1 K26.out.here.1.1.1.1.2.2 HUS.out HDS.out (by decide)).mono ?_
    rintro e w27 ⟨A27, N27, c27, rfl, hs, hb⟩
    obtain ⟨D27, hD⟩ : ∃ D, w27.heap.size = D := ⟨_, rfl⟩
    obtain ⟨v27, hw27⟩ : ∃ v, w27.alloc (.cells #[.int .i64 5, .string us, .slice A27 N27 c27, .string t1] 25) = v := ⟨_, rfl⟩
    have hb2 : Below w27.heap.size w27 v27 := by rw [← hw27]; exact below_new _ _
    have K27 := Lib.hid (((K26.out.move hb).move hb2).and (SV.made (s := ⟨5, us, T, t1⟩) hs hD hw27))
    clear hb hb2 hs
    clear zs0 zs1 zs2 zs3
    have zs0 := K27.out.here.1.1.1.1.2.1.cell 0
    have zs1 := K27.out.here.1.1.1.1.2.1.cell 1
    have zs2 := K27.out.here.1.1.1.1.2.1.cell 2
    have zs3 := K27.out.here.1.1.1.1.2.1.cell 3
    simp only [List.getElem?_toArray, List.getElem?_cons_zero, List.getElem?_cons_succ] at zs0 zs1 zs2 zs3
    go_wp2_with fail
    refine (line_at HX.out _ K27.out.here.1.1.1.1.2.2 K27.out.here.1.1.1.1.1.2.1 K27.out.here.1.1.1.1.1.2.2 HUS.out HDS.out (by decide)).mono ?_
    rintro e w28 ⟨A28, N28, c28, rfl, hs, hb⟩
    obtain ⟨D28, hD⟩ : ∃ D, w28.heap.size = D := ⟨_, rfl⟩
    obtain ⟨v28, hw28⟩ : ∃ v, w28.alloc (.cells #[.int .i64 5, .string us, .slice A28 N28 c28, .string t2] 25) = v := ⟨_, rfl⟩
    have hb2 : Below w28.heap.size w28 v28 := by rw [← hw28]; exact below_new _ _
    have K28 := Lib.hid (((K27.out.move hb).move hb2).and (SV.made (s := ⟨5, us, T, t2⟩) hs hD hw28))
    clear hb hb2 hs
    clear zs0 zs1 zs2 zs3
    have hsz : (tx ++ (⟨#[46, 10]⟩ : ByteArray)).size = tx.size + 2 := by rw [ByteArray.size_append]; rfl
    have htx := HTX.out
    by_cases h21 : tx.size + 2 ≤ 21
    ·
      have e2 : tx ++ (⟨#[46, 10]⟩ : ByteArray) = t2 := by rw [HT2.out]; exact (ext_full (by rw [hsz]; omega)).symm
      have h21' : ¬ (21 : Int) < (t2.size : Int) := by rw [← e2, hsz]; omega
      clear h21
      clear hsz
      have zs0 := K28.out.here.1.1.1.1.1.2.1.cell 0
      have zs1 := K28.out.here.1.1.1.1.1.2.1.cell 1
      have zs2 := K28.out.here.1.1.1.1.1.2.1.cell 2
      have zs3 := K28.out.here.1.1.1.1.1.2.1.cell 3
      simp only [List.getElem?_toArray, List.getElem?_cons_zero, List.getElem?_cons_succ] at zs0 zs1 zs2 zs3
      obtain ⟨D29, hD⟩ : ∃ D, v28.heap.size = D := ⟨_, rfl⟩
      obtain ⟨v29, hw29⟩ : ∃ v, v28.alloc (.cells #[.int .i64 5, .string us, .slice A N cap, .string (t2)] 25) = v := ⟨_, rfl⟩
      have hb2 : Below v28.heap.size v28 v29 := by rw [← hw29]; exact below_new _ _
      have K29 := Lib.hid ((K28.out.move hb2).and (SV.made (s := ⟨5, us, T, (t2)⟩) K28.out.here.1.1.1.1.1.2.2 hD hw29))
      clear hb2
      have zq29 := (K28.out.here.1.1.1.1.1.2.1.alloc (.cells #[.int .i64 5, .string us, .slice A N cap, .string tx] 25)).cell 3
      simp only [List.getElem?_toArray, List.getElem?_cons_zero, List.getElem?_cons_succ] at zq29
      have yx0 := K29.out.here.1.1.1.2.1.cell 0
      have yx1 := K29.out.here.1.1.1.2.1.cell 1
      have yx2 := K29.out.here.1.1.1.2.1.cell 2
      have yx3 := K29.out.here.1.1.1.2.1.cell 3
      have yy0 := K29.out.here.1.1.2.1.cell 0
      have yy1 := K29.out.here.1.1.2.1.cell 1
      have yy2 := K29.out.here.1.1.2.1.cell 2
      have yy3 := K29.out.here.1.1.2.1.cell 3
      have yq0 := K29.out.here.2.1.cell 0
      have yq1 := K29.out.here.2.1.cell 1
      have yq2 := K29.out.here.2.1.cell 2
      have yq3 := K29.out.here.2.1.cell 3
      simp only [List.getElem?_toArray, List.getElem?_cons_zero, List.getElem?_cons_succ] at yx0 yx1 yx2 yx3 yy0 yy1 yy2 yy3 yq0 yq1 yq2 yq3
      go_wp2_with fail
      refine (same_sub _ K29.out.here.1.1.1.2.2 K29.out.here.1.1.2.2).mono ?_
      rintro e x9w ⟨rfl, hb⟩
      have K30 := Lib.hid (K29.out.move hb)
      clear hb
      clear zs0 zs1 zs2 zs3 zq29 yx0 yx1 yx2 yx3 yy0 yy1 yy2 yy3 yq0 yq1 yq2 yq3
      have zp0 := K30.out.here.1.2.1.cell 0
      have zp1 := K30.out.here.1.2.1.cell 1
      have zp2 := K30.out.here.1.2.1.cell 2
      have zp3 := K30.out.here.1.2.1.cell 3
      have zq0 := K30.out.here.2.1.cell 0
      have zq1 := K30.out.here.2.1.cell 1
      have zq2 := K30.out.here.2.1.cell 2
      have zq3 := K30.out.here.2.1.cell 3
      simp only [List.getElem?_toArray, List.getElem?_cons_zero, List.getElem?_cons_succ] at zp0 zp1 zp2 zp3 zq0 zq1 zq2 zq3
      go_wp2_with fail
      refine (same_sub _ K30.out.here.1.2.2 K30.out.here.2.2).mono ?_
      rintro e x10w ⟨rfl, hb⟩
      have K31 := Lib.hid (K30.out.move hb)
      clear hb
      clear zp0 zp1 zp2 zp3 zq0 zq1 zq2 zq3
      go_wp2
      go_ret
      exact ⟨rfl, K31.out.here.1.1.1.1.1.1.1.1⟩
    have e2 := HT2.out.symm
    obtain ⟨fu, hfu⟩ : ∃ f, tx ++ (⟨#[46, 10]⟩ : ByteArray) = f := ⟨_, rfl⟩
    rw [hfu] at e2 hsz
    have h21' : (21 : Int) < (fu.size : Int) := by omega
    have h21n : (21 : Int) ≤ (fu.size : Int) := by omega
    clear h21
    clear hsz
    have zs0 := K28.out.here.1.1.1.1.1.2.1.cell 0
    have zs1 := K28.out.here.1.1.1.1.1.2.1.cell 1
    have zs2 := K28.out.here.1.1.1.1.1.2.1.cell 2
    have zs3 := K28.out.here.1.1.1.1.1.2.1.cell 3
    simp only [List.getElem?_toArray, List.getElem?_cons_zero, List.getElem?_cons_succ] at zs0 zs1 zs2 zs3
    obtain ⟨D32, hD⟩ : ∃ D, v28.heap.size = D := ⟨_, rfl⟩
    obtain ⟨v32, hw32⟩ : ∃ v, v28.alloc (.cells #[.int .i64 5, .string us, .slice A N cap, .string (t2)] 25) = v := ⟨_, rfl⟩
    have hb2 : Below v28.heap.size v28 v32 := by rw [← hw32]; exact below_new _ _
    have K32 := Lib.hid ((K28.out.move hb2).and (SV.made (s := ⟨5, us, T, (t2)⟩) K28.out.here.1.1.1.1.1.2.2 hD hw32))
    clear hb2
    have zq32 := (K28.out.here.1.1.1.1.1.2.1.alloc (.cells #[.int .i64 5, .string us, .slice A N cap, .string tx] 25)).cell 3
    simp only [List.getElem?_toArray, List.getElem?_cons_zero, List.getElem?_cons_succ] at zq32
    have yx0 := K32.out.here.1.1.1.2.1.cell 0
    have yx1 := K32.out.here.1.1.1.2.1.cell 1
    have yx2 := K32.out.here.1.1.1.2.1.cell 2
    have yx3 := K32.out.here.1.1.1.2.1.cell 3
    have yy0 := K32.out.here.1.1.2.1.cell 0
    have yy1 := K32.out.here.1.1.2.1.cell 1
    have yy2 := K32.out.here.1.1.2.1.cell 2
    have yy3 := K32.out.here.1.1.2.1.cell 3
    have yq0 := K32.out.here.2.1.cell 0
    have yq1 := K32.out.here.2.1.cell 1
    have yq2 := K32.out.here.2.1.cell 2
    have yq3 := K32.out.here.2.1.cell 3
    simp only [List.getElem?_toArray, List.getElem?_cons_zero, List.getElem?_cons_succ] at yx0 yx1 yx2 yx3 yy0 yy1 yy2 yy3 yq0 yq1 yq2 yq3
    go_wp2_with fail
    refine (same_sub _ K32.out.here.1.1.1.2.2 K32.out.here.1.1.2.2).mono ?_
    rintro e x12w ⟨rfl, hb⟩
    have K33 := Lib.hid (K32.out.move hb)
    clear hb
    clear zs0 zs1 zs2 zs3 zq32 yx0 yx1 yx2 yx3 yy0 yy1 yy2 yy3 yq0 yq1 yq2 yq3
    have zp0 := K33.out.here.1.2.1.cell 0
    have zp1 := K33.out.here.1.2.1.cell 1
    have zp2 := K33.out.here.1.2.1.cell 2
    have zp3 := K33.out.here.1.2.1.cell 3
    have zq0 := K33.out.here.2.1.cell 0
    have zq1 := K33.out.here.2.1.cell 1
    have zq2 := K33.out.here.2.1.cell 2
    have zq3 := K33.out.here.2.1.cell 3
    simp only [List.getElem?_toArray, List.getElem?_cons_zero, List.getElem?_cons_succ] at zp0 zp1 zp2 zp3 zq0 zq1 zq2 zq3
    go_wp2_with fail
    refine (same_sub _ K33.out.here.1.2.2 K33.out.here.2.2).mono ?_
    rintro e x13w ⟨rfl, hb⟩
    have K34 := Lib.hid (K33.out.move hb)
    clear hb
    clear zp0 zp1 zp2 zp3 zq0 zq1 zq2 zq3
    go_wp2
    go_ret
    exact ⟨rfl, K34.out.here.1.1.1.1.1.1.1.1⟩
end Go.Proofs.YtichajalinkcdaaGreatDoor
