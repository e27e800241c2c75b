/-
  The walks of the laws FnLineValid. Condition: the code can be read.
-/
import Derived.Test.YtichajalinkcdaaGreatDoorQk
namespace Go.Proofs.YtichajalinkcdaaGreatDoor
open Go.RowKit
set_option linter.unusedVariables false

set_option maxRecDepth 20000 in
set_option maxHeartbeats 8000000 in
theorem law_FnLineValid (A0 : Option Addr) (len cap0 : Nat) (w : World) (h : Coded w A0 len cap0) (hm : MxS w) : Calls Tryz.prog 19 #[.slice A0 len cap0] w (Holds1 w) := by
  have HC := Lib.hid h
  have HM := Lib.hid hm
  clear h hm
  by_cases hlen : 1048576 < len
  ·
    have hlenI : (1048576 : Int) < (len : Int) := by omega
    go_enter Tryz.func19, Tryz.ntmps19
    go_wp2
    go_ret
    exact ⟨rfl, Below.refl _ _⟩
  have hlenJ : ¬ (1048576 : Int) < (len : Int) := by omega
  go_enter Tryz.func19, Tryz.ntmps19
  go_wp2_with fail
  refine (draw_subline A0 len cap0 w HC.out).mono ?_
  rintro e w1 ⟨st, us, tx, d, l, A, AU, N, cap, NU, cU, T, L, rfl, hus, htx, hl, hT, ho, hu, hd, hll⟩
  obtain ⟨D, hD⟩ : ∃ D, w1.heap.size = D := ⟨_, rfl⟩
  obtain ⟨w2, hw2⟩ : ∃ w2, w1.alloc (.cells #[.int .i64 st, .string us, .slice A N cap, .string tx] 25) = w2 := ⟨_, rfl⟩
  have hs1 : SIn w1 A N cap T := SIn.made ho (by omega) (fun g hg => by have := hT g hg; omega)
  have hb2 : Below w1.heap.size w1 w2 := by rw [← hw2]; exact below_new _ _
  have K2 := Lib.hid (((UV.made hu.2.2.2.2 hu.uin HM.out).move hb2).and (SV.made (s := ⟨st, us, T, tx⟩) hs1 hD hw2))
  have HUS : Hid (us.size ≤ 30) := Lib.hid hus
  have HDS : Hid (d.size ≤ 30) := Lib.hid hd
  have HLS : Hid (l.size ≤ 200) := Lib.hid hll
  have HNU : Hid (1 ≤ NU ∧ NU ≤ 5) := Lib.hid ⟨hu.1, hu.2.1⟩
  have HUL : Hid (∀ g ∈ L, g.1.size ≤ 30 ∧ g.2.1.size ≤ 30) := Lib.hid hu.2.2.1
  have HTX : Hid (tx.size ≤ 30) := Lib.hid htx
  clear hus htx hl hT ho hu hd hll hs1 hb2
  obtain ⟨⟨⟨st1, us1, T1, tx1⟩, n1⟩, hr, hrv⟩ := lineIs_any ⟨st, us, T, tx⟩ L d l
  have HR := Lib.hid hr
  have HRV := Lib.hid hrv
  clear hr hrv
  have zs0 := K2.out.here.2.1.cell 0
  have zs1 := K2.out.here.2.1.cell 1
  have zs2 := K2.out.here.2.1.cell 2
  have zs3 := K2.out.here.2.1.cell 3
  simp only [List.getElem?_toArray, List.getElem?_cons_zero, List.getElem?_cons_succ] at zs0 zs1 zs2 zs3
  go_wp2_with fail
  refine (line_at HR.out _ K2.out.here.2.2 K2.out.here.1.2.1 K2.out.here.1.2.2 HUS.out HDS.out (by have := HLS.out; omega)).mono ?_
  rintro e w21 ⟨A21, N21, c21, rfl, hs, hb⟩
  obtain ⟨D21, hD⟩ : ∃ D, w21.heap.size = D := ⟨_, rfl⟩
  obtain ⟨v21, hw21⟩ : ∃ v, w21.alloc (.cells #[.int .i64 st1, .string us1, .slice A21 N21 c21, .string tx1] 25) = v := ⟨_, rfl⟩
  have hb2 : Below w21.heap.size w21 v21 := by rw [← hw21]; exact below_new _ _
  have K21 := Lib.hid (((K2.out.move hb).move hb2).and (SV.made (s := ⟨st1, us1, T1, tx1⟩) hs hD hw21))
  clear hb hb2 hs
  clear zs0 zs1 zs2 zs3
  have zs0 := K21.out.here.1.2.1.cell 0
  have zs1 := K21.out.here.1.2.1.cell 1
  have zs2 := K21.out.here.1.2.1.cell 2
  have zs3 := K21.out.here.1.2.1.cell 3
  simp only [List.getElem?_toArray, List.getElem?_cons_zero, List.getElem?_cons_succ] at zs0 zs1 zs2 zs3
  go_wp2_with fail
  refine (sline_at HR.out _ K21.out.here.1.2.2 K21.out.here.1.1.2.1 HUS.out HDS.out (by have := HLS.out; omega)).mono ?_
  rintro e w22 ⟨A22, N22, c22, rfl, hs, hb⟩
  obtain ⟨D22, hD⟩ : ∃ D, w22.heap.size = D := ⟨_, rfl⟩
  obtain ⟨v22, hw22⟩ : ∃ v, w22.alloc (.cells #[.int .i64 st1, .string us1, .slice A22 N22 c22, .string tx1] 25) = v := ⟨_, rfl⟩
  have hb2 : Below w22.heap.size w22 v22 := by rw [← hw22]; exact below_new _ _
  have K22 := Lib.hid (((K21.out.move hb).move hb2).and (SV.made (s := ⟨st1, us1, T1, tx1⟩) hs hD hw22))
  clear hb hb2 hs
  clear zs0 zs1 zs2 zs3
  have zo0 := K22.out.here.1.2.1.cell 0
  have zo1 := K22.out.here.1.2.1.cell 1
  have zo2 := K22.out.here.1.2.1.cell 2
  have zo3 := K22.out.here.1.2.1.cell 3
  have zt0 := K22.out.here.2.1.cell 0
  have zt1 := K22.out.here.2.1.cell 1
  have zt2 := K22.out.here.2.1.cell 2
  have zt3 := K22.out.here.2.1.cell 3
  simp only [List.getElem?_toArray, List.getElem?_cons_zero, List.getElem?_cons_succ] at zo0 zo1 zo2 zo3 zt0 zt1 zt2 zt3
  go_wp2_with fail
  refine (same_sub _ K22.out.here.1.2.2 K22.out.here.2.2).mono ?_
  rintro e x2w ⟨rfl, hb⟩
  have K23 := Lib.hid (K22.out.move hb)
  clear hb
  clear zo0 zo1 zo2 zo3 zt0 zt1 zt2 zt3
  cases hz : (sbV ⟨st, us, T, tx⟩ && (vU L && domB (kb d))) with
  | false =>
    have e0 : n1 = -1 := congrArg Prod.snd (HR.out.off hz)
    subst e0
    clear hz
    have zo0 := K23.out.here.1.2.1.cell 0
    have zo1 := K23.out.here.1.2.1.cell 1
    have zo2 := K23.out.here.1.2.1.cell 2
    have zo3 := K23.out.here.1.2.1.cell 3
    have zt0 := K23.out.here.2.1.cell 0
    have zt1 := K23.out.here.2.1.cell 1
    have zt2 := K23.out.here.2.1.cell 2
    have zt3 := K23.out.here.2.1.cell 3
    simp only [List.getElem?_toArray, List.getElem?_cons_zero, List.getElem?_cons_succ] at zo0 zo1 zo2 zo3 zt0 zt1 zt2 zt3
    go_wp2_with fail
    refine (same_sub _ K23.out.here.1.2.2 K23.out.here.2.2).mono ?_
    rintro e x3w ⟨rfl, hb⟩
    have K24 := Lib.hid (K23.out.move hb)
    clear hb
    clear zo0 zo1 zo2 zo3 zt0 zt1 zt2 zt3
    go_wp2
    go_ret
    exact ⟨rfl, K24.out.here.1.1.1.1⟩
  | true =>
    have h0 : ¬ n1 < 0 := by have h := HR.out.on hz; simp only at h; omega
    have HZ := Lib.hid hz
    clear hz
    by_cases h6 : st = 6
    ·
      subst h6
      have e := (li_6 (l := l) HZ.out rfl).one HR.out
      simp only [Prod.mk.injEq, Sb.mk.injEq] at e
      obtain ⟨⟨rfl, rfl, rfl, rfl⟩, rfl⟩ := e
      have HU1 : Hid (us.size ≤ 16777216) := Lib.hid (by have h := (sbV_has HRV.out).1; simp only at h; omega)
      have zo0 := K23.out.here.1.2.1.cell 0
      have zo1 := K23.out.here.1.2.1.cell 1
      have zo2 := K23.out.here.1.2.1.cell 2
      have zo3 := K23.out.here.1.2.1.cell 3
      have zs0 := K23.out.here.1.1.2.1.cell 0
      have zs1 := K23.out.here.1.1.2.1.cell 1
      have zs2 := K23.out.here.1.1.2.1.cell 2
      have zs3 := K23.out.here.1.1.2.1.cell 3
      simp only [List.getElem?_toArray, List.getElem?_cons_zero, List.getElem?_cons_succ] at zo0 zo1 zo2 zo3 zs0 zs1 zs2 zs3
      go_wp2_with fail
      refine (isub_at HRV.out _ K23.out.here.1.2.2 HU1.out).mono ?_
      rintro e x4w ⟨rfl, hb⟩
      have K25 := Lib.hid (K23.out.move hb)
      clear hb
      clear zo0 zo1 zo2 zo3 zs0 zs1 zs2 zs3
      have zo0 := K25.out.here.1.2.1.cell 0
      have zo1 := K25.out.here.1.2.1.cell 1
      have zo2 := K25.out.here.1.2.1.cell 2
      have zo3 := K25.out.here.1.2.1.cell 3
      have zs0 := K25.out.here.1.1.2.1.cell 0
      have zs1 := K25.out.here.1.1.2.1.cell 1
      have zs2 := K25.out.here.1.1.2.1.cell 2
      have zs3 := K25.out.here.1.1.2.1.cell 3
      simp only [List.getElem?_toArray, List.getElem?_cons_zero, List.getElem?_cons_succ] at zo0 zo1 zo2 zo3 zs0 zs1 zs2 zs3
      go_wp2
      go_ret
      exact ⟨rfl, K25.out.here.1.1.1.1⟩
    have h6' : (st != 6) = true := bne_iff_ne.2 h6
    clear h6
    have HU1 : Hid (us1.size ≤ 16777216) := Lib.hid (by have h := (sbV_has HRV.out).1; simp only at h; omega)
    have zo0 := K23.out.here.1.2.1.cell 0
    have zo1 := K23.out.here.1.2.1.cell 1
    have zo2 := K23.out.here.1.2.1.cell 2
    have zo3 := K23.out.here.1.2.1.cell 3
    have zs0 := K23.out.here.1.1.2.1.cell 0
    have zs1 := K23.out.here.1.1.2.1.cell 1
    have zs2 := K23.out.here.1.1.2.1.cell 2
    have zs3 := K23.out.here.1.1.2.1.cell 3
    simp only [List.getElem?_toArray, List.getElem?_cons_zero, List.getElem?_cons_succ] at zo0 zo1 zo2 zo3 zs0 zs1 zs2 zs3
    go_wp2_with fail
    refine (isub_at HRV.out _ K23.out.here.1.2.2 HU1.out).mono ?_
    rintro e x5w ⟨rfl, hb⟩
    have K26 := Lib.hid (K23.out.move hb)
    clear hb
    clear zo0 zo1 zo2 zo3 zs0 zs1 zs2 zs3
    have zo0 := K26.out.here.1.2.1.cell 0
    have zo1 := K26.out.here.1.2.1.cell 1
    have zo2 := K26.out.here.1.2.1.cell 2
    have zo3 := K26.out.here.1.2.1.cell 3
    have zs0 := K26.out.here.1.1.2.1.cell 0
    have zs1 := K26.out.here.1.1.2.1.cell 1
    have zs2 := K26.out.here.1.1.2.1.cell 2
    have zs3 := K26.out.here.1.1.2.1.cell 3
    simp only [List.getElem?_toArray, List.getElem?_cons_zero, List.getElem?_cons_succ] at zo0 zo1 zo2 zo3 zs0 zs1 zs2 zs3
    go_wp2
    go_ret
    exact ⟨rfl, K26.out.here.1.1.1.1⟩
end Go.Proofs.YtichajalinkcdaaGreatDoor
