/-
  The walks of the laws FnRcptEarly. Condition: the code can be read.
-/
import Derived.Test.YtichajalinkcdaaGreatDoorQk
namespace Go.Proofs.YtichajalinkcdaaGreatDoor
open Go.RowKit
set_option linter.unusedVariables false

set_option maxRecDepth 20000 in
set_option maxHeartbeats 8000000 in
theorem law_FnRcptEarly (A0 : Option Addr) (len cap0 : Nat) (w : World) (h : Coded w A0 len cap0) (hm : MxS w) : Calls Tryz.prog 14 #[.slice A0 len cap0] w (Holds1 w) := by
  have HC := Lib.hid h
  have HM := Lib.hid hm
  clear h hm
  by_cases hlen : 1048576 < len
  ·
    have hlenI : (1048576 : Int) < (len : Int) := by omega
    go_enter Tryz.func14, Tryz.ntmps14
    go_wp2
    go_ret
    exact ⟨rfl, Below.refl _ _⟩
  have hlenJ : ¬ (1048576 : Int) < (len : Int) := by omega
  go_enter Tryz.func14, Tryz.ntmps14
  go_wp2_with fail
  refine (draw_subline A0 len cap0 w HC.out).mono ?_
  rintro e w1 ⟨st, us, tx, d, l, A, AU, N, cap, NU, cU, T, L, rfl, hus, htx, hl, hT, ho, hu, hd, hll⟩
  obtain ⟨D, hD⟩ : ∃ D, w1.heap.size = D := ⟨_, rfl⟩
  obtain ⟨w2, hw2⟩ : ∃ w2, w1.alloc (.cells #[.int .i64 st, .string us, .slice A N cap, .string tx] 25) = w2 := ⟨_, rfl⟩
  have hs1 : SIn w1 A N cap T := SIn.made ho (by omega) (fun g hg => by have := hT g hg; omega)
  have hb2 : Below w1.heap.size w1 w2 := by rw [← hw2]; exact below_new _ _
  have K2 := Lib.hid (((UV.made hu.2.2.2.2 hu.uin HM.out).move hb2).and (SV.made (s := ⟨st, us, T, tx⟩) hs1 hD hw2))
  have HUS : Hid (us.size ≤ 30) := Lib.hid hus
  have HDS : Hid (d.size ≤ 30) := Lib.hid hd
  have HLS : Hid (l.size ≤ 200) := Lib.hid hll
  have HNU : Hid (1 ≤ NU ∧ NU ≤ 5) := Lib.hid ⟨hu.1, hu.2.1⟩
  have HUL : Hid (∀ g ∈ L, g.1.size ≤ 30 ∧ g.2.1.size ≤ 30) := Lib.hid hu.2.2.1
  have HTX : Hid (tx.size ≤ 30) := Lib.hid htx
  clear hus htx hl hT ho hu hd hll hs1 hb2
  obtain ⟨⟨⟨st1, us1, T1, tx1⟩, n1⟩, hr, hrv⟩ := lineIs_any ⟨st, us, T, tx⟩ L d l
  have HR := Lib.hid hr
  have HRV := Lib.hid hrv
  clear hr hrv
  have zs0 := K2.out.here.2.1.cell 0
  have zs1 := K2.out.here.2.1.cell 1
  have zs2 := K2.out.here.2.1.cell 2
  have zs3 := K2.out.here.2.1.cell 3
  simp only [List.getElem?_toArray, List.getElem?_cons_zero, List.getElem?_cons_succ] at zs0 zs1 zs2 zs3
  go_wp2_with fail
  refine (line_at HR.out _ K2.out.here.2.2 K2.out.here.1.2.1 K2.out.here.1.2.2 HUS.out HDS.out (by have := HLS.out; omega)).mono ?_
  rintro e w21 ⟨A21, N21, c21, rfl, hs, hb⟩
  obtain ⟨D21, hD⟩ : ∃ D, w21.heap.size = D := ⟨_, rfl⟩
  obtain ⟨v21, hw21⟩ : ∃ v, w21.alloc (.cells #[.int .i64 st1, .string us1, .slice A21 N21 c21, .string tx1] 25) = v := ⟨_, rfl⟩
  have hb2 : Below w21.heap.size w21 v21 := by rw [← hw21]; exact below_new _ _
  have K21 := Lib.hid (((K2.out.move hb).move hb2).and (SV.made (s := ⟨st1, us1, T1, tx1⟩) hs hD hw21))
  clear hb hb2 hs
  clear zs0 zs1 zs2 zs3
  have zs0 := K21.out.here.1.2.1.cell 0
  have zs1 := K21.out.here.1.2.1.cell 1
  have zs2 := K21.out.here.1.2.1.cell 2
  have zs3 := K21.out.here.1.2.1.cell 3
  simp only [List.getElem?_toArray, List.getElem?_cons_zero, List.getElem?_cons_succ] at zs0 zs1 zs2 zs3
  go_wp2_with fail
  refine (sline_at HR.out _ K21.out.here.1.2.2 K21.out.here.1.1.2.1 HUS.out HDS.out (by have := HLS.out; omega)).mono ?_
  rintro e w22 ⟨A22, N22, c22, rfl, hs, hb⟩
  obtain ⟨D22, hD⟩ : ∃ D, w22.heap.size = D := ⟨_, rfl⟩
  obtain ⟨v22, hw22⟩ : ∃ v, w22.alloc (.cells #[.int .i64 st1, .string us1, .slice A22 N22 c22, .string tx1] 25) = v := ⟨_, rfl⟩
  have hb2 : Below w22.heap.size w22 v22 := by rw [← hw22]; exact below_new _ _
  have K22 := Lib.hid (((K21.out.move hb).move hb2).and (SV.made (s := ⟨st1, us1, T1, tx1⟩) hs hD hw22))
  clear hb hb2 hs
  clear zs0 zs1 zs2 zs3
  have zo0 := K22.out.here.1.2.1.cell 0
  have zo1 := K22.out.here.1.2.1.cell 1
  have zo2 := K22.out.here.1.2.1.cell 2
  have zo3 := K22.out.here.1.2.1.cell 3
  have zt0 := K22.out.here.2.1.cell 0
  have zt1 := K22.out.here.2.1.cell 1
  have zt2 := K22.out.here.2.1.cell 2
  have zt3 := K22.out.here.2.1.cell 3
  simp only [List.getElem?_toArray, List.getElem?_cons_zero, List.getElem?_cons_succ] at zo0 zo1 zo2 zo3 zt0 zt1 zt2 zt3
  go_wp2_with fail
  refine (same_sub _ K22.out.here.1.2.2 K22.out.here.2.2).mono ?_
  rintro e x2w ⟨rfl, hb⟩
  have K23 := Lib.hid (K22.out.move hb)
  clear hb
  clear zo0 zo1 zo2 zo3 zt0 zt1 zt2 zt3
  cases hz : (sbV ⟨st, us, T, tx⟩ && (vU L && domB (kb d))) with
  | false =>
    have e0 : n1 = -1 := congrArg Prod.snd (HR.out.off hz)
    subst e0
    clear hz
    have zo0 := K23.out.here.1.2.1.cell 0
    have zo1 := K23.out.here.1.2.1.cell 1
    have zo2 := K23.out.here.1.2.1.cell 2
    have zo3 := K23.out.here.1.2.1.cell 3
    have zt0 := K23.out.here.2.1.cell 0
    have zt1 := K23.out.here.2.1.cell 1
    have zt2 := K23.out.here.2.1.cell 2
    have zt3 := K23.out.here.2.1.cell 3
    simp only [List.getElem?_toArray, List.getElem?_cons_zero, List.getElem?_cons_succ] at zo0 zo1 zo2 zo3 zt0 zt1 zt2 zt3
    go_wp2_with fail
    refine (same_sub _ K23.out.here.1.2.2 K23.out.here.2.2).mono ?_
    rintro e x3w ⟨rfl, hb⟩
    have K24 := Lib.hid (K23.out.move hb)
    clear hb
    clear zo0 zo1 zo2 zo3 zt0 zt1 zt2 zt3
    go_wp2
    go_ret
    exact ⟨rfl, K24.out.here.1.1.1.1⟩
  | true =>
    have h0 : ¬ n1 < 0 := by have h := HR.out.on hz; simp only at h; omega
    have HZ := Lib.hid hz
    clear hz
    by_cases hst : 2 < st
    ·
      have hst' : decide (2 < st) = true := decide_eq_true hst
      have zs0 := K23.out.here.1.1.2.1.cell 0
      have zs1 := K23.out.here.1.1.2.1.cell 1
      have zs2 := K23.out.here.1.1.2.1.cell 2
      have zs3 := K23.out.here.1.1.2.1.cell 3
      simp only [List.getElem?_toArray, List.getElem?_cons_zero, List.getElem?_cons_succ] at zs0 zs1 zs2 zs3
      have yo0 := K23.out.here.1.2.1.cell 0
      have yo1 := K23.out.here.1.2.1.cell 1
      have yo2 := K23.out.here.1.2.1.cell 2
      have yo3 := K23.out.here.1.2.1.cell 3
      have yt0 := K23.out.here.2.1.cell 0
      have yt1 := K23.out.here.2.1.cell 1
      have yt2 := K23.out.here.2.1.cell 2
      have yt3 := K23.out.here.2.1.cell 3
      simp only [List.getElem?_toArray, List.getElem?_cons_zero, List.getElem?_cons_succ] at yo0 yo1 yo2 yo3 yt0 yt1 yt2 yt3
      go_wp2_with fail
      refine (same_sub _ K23.out.here.1.2.2 K23.out.here.2.2).mono ?_
      rintro e x4w ⟨rfl, hb⟩
      have K25 := Lib.hid (K23.out.move hb)
      clear hb
      go_wp2
      go_ret
      exact ⟨rfl, K25.out.here.1.1.1.1⟩
    obtain ⟨⟨un, up, uq⟩, hx⟩ : ∃ u, L[0]? = some u := ⟨_, List.getElem?_eq_getElem (by have h := (vU_iff.1 (hz_v HZ.out).2.1).1.1; omega)⟩
    obtain ⟨bu, ou, hAU⟩ := user_some K23.out.here.1.1.1.2.1 hx
    subst hAU
    have HXU := Lib.hid hx
    obtain ⟨q1, q2, q3⟩ := hz_v HZ.out
    obtain ⟨m1, -, m3, -, m5, -, -⟩ := user_mem q2 hx
    have h0N : 0 < NU := HNU.out.1
    have hun : un.size ≤ 30 := by omega
    have hds : d.size ≤ 30 := HDS.out
    obtain ⟨ln0, hln0⟩ : ∃ x, (⟨#[82, 67, 80, 84, 32, 84, 79, 58, 60]⟩ ++ un : ByteArray) = x := ⟨_, rfl⟩
    have hln0s : ln0.size ≤ 50 := by rw [← hln0]; exact sz_app (show (⟨#[82, 67, 80, 84, 32, 84, 79, 58, 60]⟩ : ByteArray).size ≤ 20 by decide) hun (by decide)
    have hln0c : ¬ 9223372036854775807 < 9 + un.size := by have := (show 0 ≤ 0 by decide); have := hun; omega
    have hln0d : ¬ 9223372036854775807 < (⟨#[82, 67, 80, 84, 32, 84, 79, 58, 60]⟩ : ByteArray).size + un.size := hln0c
    obtain ⟨ln1, hln1⟩ : ∃ x, (ln0 ++ ⟨#[64]⟩ : ByteArray) = x := ⟨_, rfl⟩
    have hln1s : ln1.size ≤ 80 := by rw [← hln1]; exact sz_app hln0s (show (⟨#[64]⟩ : ByteArray).size ≤ 20 by decide) (by decide)
    have hln1c : ¬ 9223372036854775807 < ln0.size + 1 := by have := hln0s; have := (show 0 ≤ 0 by decide); omega
    have hln1d : ¬ 9223372036854775807 < ln0.size + (⟨#[64]⟩ : ByteArray).size := hln1c
    obtain ⟨ln2, hln2⟩ : ∃ x, (ln1 ++ d : ByteArray) = x := ⟨_, rfl⟩
    have hln2s : ln2.size ≤ 110 := by rw [← hln2]; exact sz_app hln1s hds (by decide)
    have hln2c : ¬ 9223372036854775807 < ln1.size + d.size := by have := hln1s; have := hds; omega
    obtain ⟨ln3, hln3⟩ : ∃ x, (ln2 ++ ⟨#[62]⟩ : ByteArray) = x := ⟨_, rfl⟩
    have hln3s : ln3.size ≤ 140 := by rw [← hln3]; exact sz_app hln2s (show (⟨#[62]⟩ : ByteArray).size ≤ 20 by decide) (by decide)
    have hln3c : ¬ 9223372036854775807 < ln2.size + 1 := by have := hln2s; have := (show 0 ≤ 0 by decide); omega
    have hln3d : ¬ 9223372036854775807 < ln2.size + (⟨#[62]⟩ : ByteArray).size := hln3c
    have lne : (⟨#[82, 67, 80, 84, 32, 84, 79, 58, 60]⟩ ++ un ++ ⟨#[64]⟩ ++ d ++ ⟨#[62]⟩ : ByteArray) = ln3 := by rw [hln0, hln1, hln2, hln3]
    have EA : ln3 = pathT bRCPT un d := by rw [← lne]; exact kb_inj (by rw [kb_path]; simp only [kb_cat]; simp [kb, bRCPT])
    have HA : Hid (LineIs ⟨st, us, T, tx⟩ L d ln3 (⟨st, us, T, tx⟩, 503)) := Lib.hid (by rw [EA]; have h := li_to HZ.out (show st ≠ 5 by omega) (show st ≠ 6 by omega) m1 q3; rw [if_pos (show st ≠ 3 ∧ st ≠ 4 by omega)] at h; exact h)
    have HLN : Hid (ln3.size ≤ 2000) := Lib.hid (show _ ≤ _ by omega)
    clear EA m1 m3 m5 q1 q2 q3 hx lne
    have ys0 := K23.out.here.1.1.2.1.cell 0
    have ys1 := K23.out.here.1.1.2.1.cell 1
    have ys2 := K23.out.here.1.1.2.1.cell 2
    have ys3 := K23.out.here.1.1.2.1.cell 3
    simp only [List.getElem?_toArray, List.getElem?_cons_zero, List.getElem?_cons_succ] at ys0 ys1 ys2 ys3
    go_upto_region 8 with fail
    clear ys0 ys1 ys2 ys3
    go_cut [11, 12] (fun sx sy wx => ∃ (X N' c' : Nat) (A' : Option Addr), sx = .pointer (some ⟨X, 0, none⟩) ∧ sy = .int .i64 503 ∧ Hid (Below x2w.heap.size x2w wx) ∧ Hid (SV wx X ⟨st, us, T, tx⟩ A' N' c'))
    case first =>
      have HBd := Lib.hid (below_drew1 x2w)
      have Kd := Lib.hid (K23.out.move HBd.out)
      obtain ⟨X, hX⟩ : ∃ X, x2w.heap.size = X := ⟨_, rfl⟩
      obtain ⟨wy, hwy⟩ : ∃ wy, x2w.alloc (.cells #[.int .i64 0, .string ⟨#[]⟩, .slice none 0 0, .string ⟨#[]⟩] 25) = wy := ⟨_, rfl⟩
      have HBy : Hid (Below x2w.heap.size x2w wy) := Lib.hid (by rw [← hwy]; exact below_new _ _)
      have Ky := Lib.hid (K23.out.move HBy.out)
      have HBe : Hid (Below x2w.heap.size x2w wy.drew) := Lib.hid (HBy.out.trans ((below_drew1 wy).mono HBy.out.size))
      have Ke := Lib.hid (K23.out.move HBe.out)
      have HXy : Hid (Whole wy.drew X 25 #[.int .i64 0, .string ⟨#[]⟩, .slice none 0 0, .string ⟨#[]⟩]) := Lib.hid (by rw [← hwy, ← hX]; exact (Whole.made x2w 25 #[.int .i64 0, .string ⟨#[]⟩, .slice none 0 0, .string ⟨#[]⟩]).drew)
      have HXz : Hid (x2w.heap.size ≤ X) := Lib.hid (by omega)
      have zs0 := K23.out.here.1.1.2.1.cell 0
      have zs1 := K23.out.here.1.1.2.1.cell 1
      have zs2 := K23.out.here.1.1.2.1.cell 2
      have zs3 := K23.out.here.1.1.2.1.cell 3
      simp only [List.getElem?_toArray, List.getElem?_cons_zero, List.getElem?_cons_succ] at zs0 zs1 zs2 zs3
      have xe0 := user_cell0 (K23.out.here.1.1.1).2.1 HXU.out
      go_region_held3 (fun w' => w'.cell? ⟨D, 0, none⟩ = some (.int .i64 st) ∧ w'.cell? ⟨D, 1, none⟩ = some (.string us) ∧ w'.cell? ⟨D, 2, none⟩ = some (.slice A N cap) ∧ w'.cell? ⟨D, 3, none⟩ = some (.string tx) ∧ w'.cell? ⟨bu, ou, none⟩ = some (.string un)) (first | exact ⟨(KWwb.out.here.1.1.2).1.cell 0, (KWwb.out.here.1.1.2).1.cell 1, (KWwb.out.here.1.1.2).1.cell 2, (KWwb.out.here.1.1.2).1.cell 3, user_cell0 (KWwb.out.here.1.1.1).2.1 HXU.out⟩ | exact ⟨((Kp.move K23.out HBwb.out).here.1.1.2).1.cell 0, ((Kp.move K23.out HBwb.out).here.1.1.2).1.cell 1, ((Kp.move K23.out HBwb.out).here.1.1.2).1.cell 2, ((Kp.move K23.out HBwb.out).here.1.1.2).1.cell 3, user_cell0 ((Kp.move K23.out HBwb.out).here.1.1.1).2.1 HXU.out⟩ | exact ⟨((Kwa.out.alloc _).here.1.1.2).1.cell 0, ((Kwa.out.alloc _).here.1.1.2).1.cell 1, ((Kwa.out.alloc _).here.1.1.2).1.cell 2, ((Kwa.out.alloc _).here.1.1.2).1.cell 3, user_cell0 ((Kwa.out.alloc _).here.1.1.1).2.1 HXU.out⟩ | exact ⟨(Kwa.out.here.1.1.2).1.cell 0, (Kwa.out.here.1.1.2).1.cell 1, (Kwa.out.here.1.1.2).1.cell 2, (Kwa.out.here.1.1.2).1.cell 3, user_cell0 (Kwa.out.here.1.1.1).2.1 HXU.out⟩ | exact ⟨(Ke.out.here.1.1.2).1.cell 0, (Ke.out.here.1.1.2).1.cell 1, (Ke.out.here.1.1.2).1.cell 2, (Ke.out.here.1.1.2).1.cell 3, user_cell0 (Ke.out.here.1.1.1).2.1 HXU.out⟩ | exact ⟨(Ky.out.here.1.1.2).1.cell 0, (Ky.out.here.1.1.2).1.cell 1, (Ky.out.here.1.1.2).1.cell 2, (Ky.out.here.1.1.2).1.cell 3, user_cell0 (Ky.out.here.1.1.1).2.1 HXU.out⟩ | exact ⟨(Kd.out.here.1.1.2).1.cell 0, (Kd.out.here.1.1.2).1.cell 1, (Kd.out.here.1.1.2).1.cell 2, (Kd.out.here.1.1.2).1.cell 3, user_cell0 (Kd.out.here.1.1.1).2.1 HXU.out⟩ | go_keep) (first
        | (go_at_call 22; refine (line_new HA.out wy.drew (Ke.out.here.1.1.2).2 (Ke.out.here.1.1.1).2.1 (Ke.out.here.1.1.1).2.2 HUS.out HDS.out HLN.out).mono ?_; rintro e wb ⟨A', N', c', rfl, hs, hb⟩; have HSwb := Lib.hid hs; have HBwb : Hid (Below x2w.heap.size x2w wb) := Lib.hid (HBe.out.trans (hb.mono (by first | exact HBe.out.size | exact Nat.le_refl _))); have HXwb := Lib.hid (HXy.out.below hb HXy.out.lt); have HLwb : Hid (X < wy.drew.heap.size) := Lib.hid HXy.out.lt; have hx := HXwb.out; have y0 := hx.cell 0; have y1 := hx.cell 1; have y2 := hx.cell 2; have y3 := hx.cell 3; simp only [List.getElem?_toArray, List.getElem?_cons_zero, List.getElem?_cons_succ] at y0 y1 y2 y3; have f0 := hx.free 0; have f1 := hx.free 1; have f2 := hx.free 2; have f3 := hx.free 3; have KWwb : Hid (Kp ((((wb.setCell ⟨X, 0, none⟩ (.int .i64 st)).setCell ⟨X, 1, none⟩ (.string us)).setCell ⟨X, 2, none⟩ (.slice A' N' c')).setCell ⟨X, 3, none⟩ (.string tx)) _) := Lib.hid (K23.out.move (below_set4 HBwb.out HXz.out _ _ _ _)); clear hs hb hx)
        | (go_at_call 22; refine (line_new HA.out x2w.drew (Kd.out.here.1.1.2).2 (Kd.out.here.1.1.1).2.1 (Kd.out.here.1.1.1).2.2 HUS.out HDS.out HLN.out).mono ?_; rintro e wa ⟨A', N', c', rfl, hs, hb⟩; have HSwa := Lib.hid hs; have HBwa : Hid (Below x2w.heap.size x2w wa) := Lib.hid (HBd.out.trans (hb.mono (by first | exact HBd.out.size | exact Nat.le_refl _))); have Kwa := Lib.hid (K23.out.move HBwa.out); clear hs hb))
      all_goals go_wp2_with fail
      all_goals go_meet
      all_goals first
        | exact ⟨X, N', c', A', rfl, rfl, Lib.hid (below_set4 HBwb.out HXz.out _ _ _ _), Lib.hid (SV.put (s := ⟨st, us, T, tx⟩) HSwb.out.1 HXwb.out (fun q e => by have h1 := HSwb.out.2 q e; have h2 := HLwb.out; omega))⟩
        | exact ⟨wa.heap.size, N', c', A', rfl, rfl, Lib.hid (HBwa.out.trans ((below_new _ _).mono HBwa.out.size)), Lib.hid (SV.new (s := ⟨st, us, T, tx⟩) HSwa.out.1 rfl)⟩
    case rest =>
      obtain ⟨D26, N26, c26, A26, rfl, rfl, hb, hs⟩ := hcut
      have K26 := Lib.hid ((K23.out.move hb.out).and (SV.keep hs.out))
      clear hb hs
      have zx0 := K26.out.here.2.1.cell 0
      have zx1 := K26.out.here.2.1.cell 1
      have zx2 := K26.out.here.2.1.cell 2
      have zx3 := K26.out.here.2.1.cell 3
      have zs0 := K26.out.here.1.1.1.2.1.cell 0
      have zs1 := K26.out.here.1.1.1.2.1.cell 1
      have zs2 := K26.out.here.1.1.1.2.1.cell 2
      have zs3 := K26.out.here.1.1.1.2.1.cell 3
      simp only [List.getElem?_toArray, List.getElem?_cons_zero, List.getElem?_cons_succ] at zx0 zx1 zx2 zx3 zs0 zs1 zs2 zs3
      go_wp2_with fail
      refine (same_sub _ K26.out.here.2.2 K26.out.here.1.1.1.2.2).mono ?_
      rintro e x6w ⟨rfl, hb⟩
      have K27 := Lib.hid (K26.out.move hb)
      clear hb
      clear zx0 zx1 zx2 zx3 zs0 zs1 zs2 zs3
      go_wp2
      go_ret
      exact ⟨rfl, K27.out.here.1.1.1.1.1⟩
end Go.Proofs.YtichajalinkcdaaGreatDoor
