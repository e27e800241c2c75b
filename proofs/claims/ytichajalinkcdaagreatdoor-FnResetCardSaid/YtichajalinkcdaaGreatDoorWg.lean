/-
  The walks of the laws FnHello, FnHelloBad, FnReset, FnNoop, FnQuit. Condition: the code can be read.
-/
import Derived.Test.YtichajalinkcdaaGreatDoorQk
namespace Go.Proofs.YtichajalinkcdaaGreatDoor
open Go.RowKit
set_option linter.unusedVariables false

set_option maxRecDepth 20000 in
set_option maxHeartbeats 8000000 in
theorem law_FnHello (A0 : Option Addr) (len cap0 : Nat) (w : World) (h : Coded w A0 len cap0) (hm : MxS w) : Calls Tryz.prog 3 #[.slice A0 len cap0] w (Holds1 w) := by
  have HC := Lib.hid h
  have HM := Lib.hid hm
  clear h hm
  by_cases hlen : 1048576 < len
  ·
    have hlenI : (1048576 : Int) < (len : Int) := by omega
    go_enter Tryz.func3, Tryz.ntmps3
    go_wp2
    go_ret
    exact ⟨rfl, Below.refl _ _⟩
  have hlenJ : ¬ (1048576 : Int) < (len : Int) := by omega
  go_enter Tryz.func3, Tryz.ntmps3
  go_wp2_with fail
  refine (draw_subline A0 len cap0 w HC.out).mono ?_
  rintro e w1 ⟨st, us, tx, d, l, A, AU, N, cap, NU, cU, T, L, rfl, hus, htx, hl, hT, ho, hu, hd, hll⟩
  obtain ⟨D, hD⟩ : ∃ D, w1.heap.size = D := ⟨_, rfl⟩
  obtain ⟨w2, hw2⟩ : ∃ w2, w1.alloc (.cells #[.int .i64 st, .string us, .slice A N cap, .string tx] 25) = w2 := ⟨_, rfl⟩
  have hs1 : SIn w1 A N cap T := SIn.made ho (by omega) (fun g hg => by have := hT g hg; omega)
  have hb2 : Below w1.heap.size w1 w2 := by rw [← hw2]; exact below_new _ _
  have K2 := Lib.hid (((UV.made hu.2.2.2.2 hu.uin HM.out).move hb2).and (SV.made (s := ⟨st, us, T, tx⟩) hs1 hD hw2))
  have HUS : Hid (us.size ≤ 30) := Lib.hid hus
  have HDS : Hid (d.size ≤ 30) := Lib.hid hd
  have HLS : Hid (l.size ≤ 200) := Lib.hid hll
  have HNU : Hid (1 ≤ NU ∧ NU ≤ 5) := Lib.hid ⟨hu.1, hu.2.1⟩
  have HUL : Hid (∀ g ∈ L, g.1.size ≤ 30 ∧ g.2.1.size ≤ 30) := Lib.hid hu.2.2.1
  have HTX : Hid (tx.size ≤ 30) := Lib.hid htx
  clear hus htx hl hT ho hu hd hll hs1 hb2
  obtain ⟨⟨⟨st1, us1, T1, tx1⟩, n1⟩, hr, hrv⟩ := lineIs_any ⟨st, us, T, tx⟩ L d l
  have HR := Lib.hid hr
  have HRV := Lib.hid hrv
  clear hr hrv
  have zs0 := K2.out.here.2.1.cell 0
  have zs1 := K2.out.here.2.1.cell 1
  have zs2 := K2.out.here.2.1.cell 2
  have zs3 := K2.out.here.2.1.cell 3
  simp only [List.getElem?_toArray, List.getElem?_cons_zero, List.getElem?_cons_succ] at zs0 zs1 zs2 zs3
  go_wp2_with fail
  refine (line_at HR.out _ K2.out.here.2.2 K2.out.here.1.2.1 K2.out.here.1.2.2 HUS.out HDS.out (by have := HLS.out; omega)).mono ?_
  rintro e w21 ⟨A21, N21, c21, rfl, hs, hb⟩
  obtain ⟨D21, hD⟩ : ∃ D, w21.heap.size = D := ⟨_, rfl⟩
  obtain ⟨v21, hw21⟩ : ∃ v, w21.alloc (.cells #[.int .i64 st1, .string us1, .slice A21 N21 c21, .string tx1] 25) = v := ⟨_, rfl⟩
  have hb2 : Below w21.heap.size w21 v21 := by rw [← hw21]; exact below_new _ _
  have K21 := Lib.hid (((K2.out.move hb).move hb2).and (SV.made (s := ⟨st1, us1, T1, tx1⟩) hs hD hw21))
  clear hb hb2 hs
  clear zs0 zs1 zs2 zs3
  have zs0 := K21.out.here.1.2.1.cell 0
  have zs1 := K21.out.here.1.2.1.cell 1
  have zs2 := K21.out.here.1.2.1.cell 2
  have zs3 := K21.out.here.1.2.1.cell 3
  simp only [List.getElem?_toArray, List.getElem?_cons_zero, List.getElem?_cons_succ] at zs0 zs1 zs2 zs3
  go_wp2_with fail
  refine (sline_at HR.out _ K21.out.here.1.2.2 K21.out.here.1.1.2.1 HUS.out HDS.out (by have := HLS.out; omega)).mono ?_
  rintro e w22 ⟨A22, N22, c22, rfl, hs, hb⟩
  obtain ⟨D22, hD⟩ : ∃ D, w22.heap.size = D := ⟨_, rfl⟩
  obtain ⟨v22, hw22⟩ : ∃ v, w22.alloc (.cells #[.int .i64 st1, .string us1, .slice A22 N22 c22, .string tx1] 25) = v := ⟨_, rfl⟩
  have hb2 : Below w22.heap.size w22 v22 := by rw [← hw22]; exact below_new _ _
  have K22 := Lib.hid (((K21.out.move hb).move hb2).and (SV.made (s := ⟨st1, us1, T1, tx1⟩) hs hD hw22))
  clear hb hb2 hs
  clear zs0 zs1 zs2 zs3
  have zo0 := K22.out.here.1.2.1.cell 0
  have zo1 := K22.out.here.1.2.1.cell 1
  have zo2 := K22.out.here.1.2.1.cell 2
  have zo3 := K22.out.here.1.2.1.cell 3
  have zt0 := K22.out.here.2.1.cell 0
  have zt1 := K22.out.here.2.1.cell 1
  have zt2 := K22.out.here.2.1.cell 2
  have zt3 := K22.out.here.2.1.cell 3
  simp only [List.getElem?_toArray, List.getElem?_cons_zero, List.getElem?_cons_succ] at zo0 zo1 zo2 zo3 zt0 zt1 zt2 zt3
  go_wp2_with fail
  refine (same_sub _ K22.out.here.1.2.2 K22.out.here.2.2).mono ?_
  rintro e x2w ⟨rfl, hb⟩
  have K23 := Lib.hid (K22.out.move hb)
  clear hb
  clear zo0 zo1 zo2 zo3 zt0 zt1 zt2 zt3
  cases hz : (sbV ⟨st, us, T, tx⟩ && (vU L && domB (kb d))) with
  | false =>
    have e0 : n1 = -1 := congrArg Prod.snd (HR.out.off hz)
    subst e0
    clear hz
    have zo0 := K23.out.here.1.2.1.cell 0
    have zo1 := K23.out.here.1.2.1.cell 1
    have zo2 := K23.out.here.1.2.1.cell 2
    have zo3 := K23.out.here.1.2.1.cell 3
    have zt0 := K23.out.here.2.1.cell 0
    have zt1 := K23.out.here.2.1.cell 1
    have zt2 := K23.out.here.2.1.cell 2
    have zt3 := K23.out.here.2.1.cell 3
    simp only [List.getElem?_toArray, List.getElem?_cons_zero, List.getElem?_cons_succ] at zo0 zo1 zo2 zo3 zt0 zt1 zt2 zt3
    go_wp2_with fail
    refine (same_sub _ K23.out.here.1.2.2 K23.out.here.2.2).mono ?_
    rintro e x3w ⟨rfl, hb⟩
    have K24 := Lib.hid (K23.out.move hb)
    clear hb
    clear zo0 zo1 zo2 zo3 zt0 zt1 zt2 zt3
    go_wp2
    go_ret
    exact ⟨rfl, K24.out.here.1.1.1.1⟩
  | true =>
    have h0 : ¬ n1 < 0 := by have h := HR.out.on hz; simp only at h; omega
    have HZ := Lib.hid hz
    clear hz
    by_cases h56 : st = 5 ∨ st = 6
    ·
      have zs0 := K23.out.here.1.1.2.1.cell 0
      have zs1 := K23.out.here.1.1.2.1.cell 1
      have zs2 := K23.out.here.1.1.2.1.cell 2
      have zs3 := K23.out.here.1.1.2.1.cell 3
      simp only [List.getElem?_toArray, List.getElem?_cons_zero, List.getElem?_cons_succ] at zs0 zs1 zs2 zs3
      go_wp2_with fail
      refine (open_at false (by rcases h56 with h | h <;> (rw [h]; rfl)) _).mono ?_
      rintro e x4w ⟨rfl, hb⟩
      have K25 := Lib.hid (K23.out.move hb)
      clear hb
      clear zs0 zs1 zs2 zs3
      have zo0 := K25.out.here.1.2.1.cell 0
      have zo1 := K25.out.here.1.2.1.cell 1
      have zo2 := K25.out.here.1.2.1.cell 2
      have zo3 := K25.out.here.1.2.1.cell 3
      have zt0 := K25.out.here.2.1.cell 0
      have zt1 := K25.out.here.2.1.cell 1
      have zt2 := K25.out.here.2.1.cell 2
      have zt3 := K25.out.here.2.1.cell 3
      simp only [List.getElem?_toArray, List.getElem?_cons_zero, List.getElem?_cons_succ] at zo0 zo1 zo2 zo3 zt0 zt1 zt2 zt3
      go_wp2_with fail
      refine (same_sub _ K25.out.here.1.2.2 K25.out.here.2.2).mono ?_
      rintro e x5w ⟨rfl, hb⟩
      have K26 := Lib.hid (K25.out.move hb)
      clear hb
      clear zo0 zo1 zo2 zo3 zt0 zt1 zt2 zt3
      go_wp2
      go_ret
      exact ⟨rfl, K26.out.here.1.1.1.1⟩
    have H5 : Hid (st ≠ 5) := Lib.hid (fun e => h56 (.inl e))
    have H6 : Hid (st ≠ 6) := Lib.hid (fun e => h56 (.inr e))
    have zs0 := K23.out.here.1.1.2.1.cell 0
    have zs1 := K23.out.here.1.1.2.1.cell 1
    have zs2 := K23.out.here.1.1.2.1.cell 2
    have zs3 := K23.out.here.1.1.2.1.cell 3
    simp only [List.getElem?_toArray, List.getElem?_cons_zero, List.getElem?_cons_succ] at zs0 zs1 zs2 zs3
    go_wp2_with fail
    refine (open_at true (by rw [bne_iff_ne.2 H5.out, bne_iff_ne.2 H6.out]; rfl) _).mono ?_
    rintro e x6w ⟨rfl, hb⟩
    have K27 := Lib.hid (K23.out.move hb)
    clear hb h56
    clear zs0 zs1 zs2 zs3
    have HA := Lib.hid (li_host HZ.out H5.out H6.out)
    have zs0 := K27.out.here.1.1.2.1.cell 0
    have zs1 := K27.out.here.1.1.2.1.cell 1
    have zs2 := K27.out.here.1.1.2.1.cell 2
    have zs3 := K27.out.here.1.1.2.1.cell 3
    simp only [List.getElem?_toArray, List.getElem?_cons_zero, List.getElem?_cons_succ] at zs0 zs1 zs2 zs3
    go_wp2_with fail
    refine (line_at HA.out _ K27.out.here.1.1.2.2 K27.out.here.1.1.1.2.1 K27.out.here.1.1.1.2.2 HUS.out HDS.out (by decide)).mono ?_
    rintro e w28 ⟨A28, N28, c28, rfl, hs, hb⟩
    obtain ⟨D28, hD⟩ : ∃ D, w28.heap.size = D := ⟨_, rfl⟩
    obtain ⟨v28, hw28⟩ : ∃ v, w28.alloc (.cells #[.int .i64 (min (max st 1) 2), .string us, .slice A28 N28 c28, .string eB] 25) = v := ⟨_, rfl⟩
    have hb2 : Below w28.heap.size w28 v28 := by rw [← hw28]; exact below_new _ _
    have K28 := Lib.hid (((K27.out.move hb).move hb2).and (SV.made (s := ⟨(min (max st 1) 2), us, [], eB⟩) hs hD hw28))
    clear hb hb2 hs
    clear zs0 zs1 zs2 zs3
    have zx0 := K28.out.here.2.1.cell 0
    have zx1 := K28.out.here.2.1.cell 1
    have zx2 := K28.out.here.2.1.cell 2
    have zx3 := K28.out.here.2.1.cell 3
    have zs0 := K28.out.here.1.1.1.2.1.cell 0
    have zs1 := K28.out.here.1.1.1.2.1.cell 1
    have zs2 := K28.out.here.1.1.1.2.1.cell 2
    have zs3 := K28.out.here.1.1.1.2.1.cell 3
    simp only [List.getElem?_toArray, List.getElem?_cons_zero, List.getElem?_cons_succ] at zx0 zx1 zx2 zx3 zs0 zs1 zs2 zs3
    go_wp2_with fail
    refine (same_sub _ K28.out.here.2.2 (SIn.nil _)).mono ?_
    rintro e x8w ⟨rfl, hb⟩
    have K29 := Lib.hid (K28.out.move hb)
    clear hb
    clear zx0 zx1 zx2 zx3 zs0 zs1 zs2 zs3
    go_wp2
    go_ret
    exact ⟨rfl, K29.out.here.1.1.1.1.1⟩
set_option maxRecDepth 20000 in
set_option maxHeartbeats 8000000 in
theorem law_FnHelloBad (A0 : Option Addr) (len cap0 : Nat) (w : World) (h : Coded w A0 len cap0) (hm : MxS w) : Calls Tryz.prog 4 #[.slice A0 len cap0] w (Holds1 w) := by
  have HC := Lib.hid h
  have HM := Lib.hid hm
  clear h hm
  by_cases hlen : 1048576 < len
  ·
    have hlenI : (1048576 : Int) < (len : Int) := by omega
    go_enter Tryz.func4, Tryz.ntmps4
    go_wp2
    go_ret
    exact ⟨rfl, Below.refl _ _⟩
  have hlenJ : ¬ (1048576 : Int) < (len : Int) := by omega
  go_enter Tryz.func4, Tryz.ntmps4
  go_wp2_with fail
  refine (draw_subline A0 len cap0 w HC.out).mono ?_
  rintro e w1 ⟨st, us, tx, d, l, A, AU, N, cap, NU, cU, T, L, rfl, hus, htx, hl, hT, ho, hu, hd, hll⟩
  obtain ⟨D, hD⟩ : ∃ D, w1.heap.size = D := ⟨_, rfl⟩
  obtain ⟨w2, hw2⟩ : ∃ w2, w1.alloc (.cells #[.int .i64 st, .string us, .slice A N cap, .string tx] 25) = w2 := ⟨_, rfl⟩
  have hs1 : SIn w1 A N cap T := SIn.made ho (by omega) (fun g hg => by have := hT g hg; omega)
  have hb2 : Below w1.heap.size w1 w2 := by rw [← hw2]; exact below_new _ _
  have K2 := Lib.hid (((UV.made hu.2.2.2.2 hu.uin HM.out).move hb2).and (SV.made (s := ⟨st, us, T, tx⟩) hs1 hD hw2))
  have HUS : Hid (us.size ≤ 30) := Lib.hid hus
  have HDS : Hid (d.size ≤ 30) := Lib.hid hd
  have HLS : Hid (l.size ≤ 200) := Lib.hid hll
  have HNU : Hid (1 ≤ NU ∧ NU ≤ 5) := Lib.hid ⟨hu.1, hu.2.1⟩
  have HUL : Hid (∀ g ∈ L, g.1.size ≤ 30 ∧ g.2.1.size ≤ 30) := Lib.hid hu.2.2.1
  have HTX : Hid (tx.size ≤ 30) := Lib.hid htx
  clear hus htx hl hT ho hu hd hll hs1 hb2
  obtain ⟨⟨⟨st1, us1, T1, tx1⟩, n1⟩, hr, hrv⟩ := lineIs_any ⟨st, us, T, tx⟩ L d l
  have HR := Lib.hid hr
  have HRV := Lib.hid hrv
  clear hr hrv
  have zs0 := K2.out.here.2.1.cell 0
  have zs1 := K2.out.here.2.1.cell 1
  have zs2 := K2.out.here.2.1.cell 2
  have zs3 := K2.out.here.2.1.cell 3
  simp only [List.getElem?_toArray, List.getElem?_cons_zero, List.getElem?_cons_succ] at zs0 zs1 zs2 zs3
  go_wp2_with fail
  refine (line_at HR.out _ K2.out.here.2.2 K2.out.here.1.2.1 K2.out.here.1.2.2 HUS.out HDS.out (by have := HLS.out; omega)).mono ?_
  rintro e w21 ⟨A21, N21, c21, rfl, hs, hb⟩
  obtain ⟨D21, hD⟩ : ∃ D, w21.heap.size = D := ⟨_, rfl⟩
  obtain ⟨v21, hw21⟩ : ∃ v, w21.alloc (.cells #[.int .i64 st1, .string us1, .slice A21 N21 c21, .string tx1] 25) = v := ⟨_, rfl⟩
  have hb2 : Below w21.heap.size w21 v21 := by rw [← hw21]; exact below_new _ _
  have K21 := Lib.hid (((K2.out.move hb).move hb2).and (SV.made (s := ⟨st1, us1, T1, tx1⟩) hs hD hw21))
  clear hb hb2 hs
  clear zs0 zs1 zs2 zs3
  have zs0 := K21.out.here.1.2.1.cell 0
  have zs1 := K21.out.here.1.2.1.cell 1
  have zs2 := K21.out.here.1.2.1.cell 2
  have zs3 := K21.out.here.1.2.1.cell 3
  simp only [List.getElem?_toArray, List.getElem?_cons_zero, List.getElem?_cons_succ] at zs0 zs1 zs2 zs3
  go_wp2_with fail
  refine (sline_at HR.out _ K21.out.here.1.2.2 K21.out.here.1.1.2.1 HUS.out HDS.out (by have := HLS.out; omega)).mono ?_
  rintro e w22 ⟨A22, N22, c22, rfl, hs, hb⟩
  obtain ⟨D22, hD⟩ : ∃ D, w22.heap.size = D := ⟨_, rfl⟩
  obtain ⟨v22, hw22⟩ : ∃ v, w22.alloc (.cells #[.int .i64 st1, .string us1, .slice A22 N22 c22, .string tx1] 25) = v := ⟨_, rfl⟩
  have hb2 : Below w22.heap.size w22 v22 := by rw [← hw22]; exact below_new _ _
  have K22 := Lib.hid (((K21.out.move hb).move hb2).and (SV.made (s := ⟨st1, us1, T1, tx1⟩) hs hD hw22))
  clear hb hb2 hs
  clear zs0 zs1 zs2 zs3
  have zo0 := K22.out.here.1.2.1.cell 0
  have zo1 := K22.out.here.1.2.1.cell 1
  have zo2 := K22.out.here.1.2.1.cell 2
  have zo3 := K22.out.here.1.2.1.cell 3
  have zt0 := K22.out.here.2.1.cell 0
  have zt1 := K22.out.here.2.1.cell 1
  have zt2 := K22.out.here.2.1.cell 2
  have zt3 := K22.out.here.2.1.cell 3
  simp only [List.getElem?_toArray, List.getElem?_cons_zero, List.getElem?_cons_succ] at zo0 zo1 zo2 zo3 zt0 zt1 zt2 zt3
  go_wp2_with fail
  refine (same_sub _ K22.out.here.1.2.2 K22.out.here.2.2).mono ?_
  rintro e x2w ⟨rfl, hb⟩
  have K23 := Lib.hid (K22.out.move hb)
  clear hb
  clear zo0 zo1 zo2 zo3 zt0 zt1 zt2 zt3
  cases hz : (sbV ⟨st, us, T, tx⟩ && (vU L && domB (kb d))) with
  | false =>
    have e0 : n1 = -1 := congrArg Prod.snd (HR.out.off hz)
    subst e0
    clear hz
    have zo0 := K23.out.here.1.2.1.cell 0
    have zo1 := K23.out.here.1.2.1.cell 1
    have zo2 := K23.out.here.1.2.1.cell 2
    have zo3 := K23.out.here.1.2.1.cell 3
    have zt0 := K23.out.here.2.1.cell 0
    have zt1 := K23.out.here.2.1.cell 1
    have zt2 := K23.out.here.2.1.cell 2
    have zt3 := K23.out.here.2.1.cell 3
    simp only [List.getElem?_toArray, List.getElem?_cons_zero, List.getElem?_cons_succ] at zo0 zo1 zo2 zo3 zt0 zt1 zt2 zt3
    go_wp2_with fail
    refine (same_sub _ K23.out.here.1.2.2 K23.out.here.2.2).mono ?_
    rintro e x3w ⟨rfl, hb⟩
    have K24 := Lib.hid (K23.out.move hb)
    clear hb
    clear zo0 zo1 zo2 zo3 zt0 zt1 zt2 zt3
    go_wp2
    go_ret
    exact ⟨rfl, K24.out.here.1.1.1.1⟩
  | true =>
    have h0 : ¬ n1 < 0 := by have h := HR.out.on hz; simp only at h; omega
    have HZ := Lib.hid hz
    clear hz
    by_cases h56 : st = 5 ∨ st = 6
    ·
      have zs0 := K23.out.here.1.1.2.1.cell 0
      have zs1 := K23.out.here.1.1.2.1.cell 1
      have zs2 := K23.out.here.1.1.2.1.cell 2
      have zs3 := K23.out.here.1.1.2.1.cell 3
      simp only [List.getElem?_toArray, List.getElem?_cons_zero, List.getElem?_cons_succ] at zs0 zs1 zs2 zs3
      go_wp2_with fail
      refine (open_at false (by rcases h56 with h | h <;> (rw [h]; rfl)) _).mono ?_
      rintro e x4w ⟨rfl, hb⟩
      have K25 := Lib.hid (K23.out.move hb)
      clear hb
      clear zs0 zs1 zs2 zs3
      have zo0 := K25.out.here.1.2.1.cell 0
      have zo1 := K25.out.here.1.2.1.cell 1
      have zo2 := K25.out.here.1.2.1.cell 2
      have zo3 := K25.out.here.1.2.1.cell 3
      have zt0 := K25.out.here.2.1.cell 0
      have zt1 := K25.out.here.2.1.cell 1
      have zt2 := K25.out.here.2.1.cell 2
      have zt3 := K25.out.here.2.1.cell 3
      simp only [List.getElem?_toArray, List.getElem?_cons_zero, List.getElem?_cons_succ] at zo0 zo1 zo2 zo3 zt0 zt1 zt2 zt3
      go_wp2_with fail
      refine (same_sub _ K25.out.here.1.2.2 K25.out.here.2.2).mono ?_
      rintro e x5w ⟨rfl, hb⟩
      have K26 := Lib.hid (K25.out.move hb)
      clear hb
      clear zo0 zo1 zo2 zo3 zt0 zt1 zt2 zt3
      go_wp2
      go_ret
      exact ⟨rfl, K26.out.here.1.1.1.1⟩
    have H5 : Hid (st ≠ 5) := Lib.hid (fun e => h56 (.inl e))
    have H6 : Hid (st ≠ 6) := Lib.hid (fun e => h56 (.inr e))
    have zs0 := K23.out.here.1.1.2.1.cell 0
    have zs1 := K23.out.here.1.1.2.1.cell 1
    have zs2 := K23.out.here.1.1.2.1.cell 2
    have zs3 := K23.out.here.1.1.2.1.cell 3
    simp only [List.getElem?_toArray, List.getElem?_cons_zero, List.getElem?_cons_succ] at zs0 zs1 zs2 zs3
    go_wp2_with fail
    refine (open_at true (by rw [bne_iff_ne.2 H5.out, bne_iff_ne.2 H6.out]; rfl) _).mono ?_
    rintro e x6w ⟨rfl, hb⟩
    have K27 := Lib.hid (K23.out.move hb)
    clear hb h56
    clear zs0 zs1 zs2 zs3
    have HA := Lib.hid (li_h1 HZ.out H5.out H6.out)
    have HB := Lib.hid (li_h2 HZ.out H5.out H6.out)
    have HX := Lib.hid (li_h3 HZ.out H5.out H6.out)
    have zs0 := K27.out.here.1.1.2.1.cell 0
    have zs1 := K27.out.here.1.1.2.1.cell 1
    have zs2 := K27.out.here.1.1.2.1.cell 2
    have zs3 := K27.out.here.1.1.2.1.cell 3
    simp only [List.getElem?_toArray, List.getElem?_cons_zero, List.getElem?_cons_succ] at zs0 zs1 zs2 zs3
    go_wp2_with fail
    refine (line_at HA.out _ K27.out.here.1.1.2.2 K27.out.here.1.1.1.2.1 K27.out.here.1.1.1.2.2 HUS.out HDS.out (by decide)).mono ?_
    rintro e w28 ⟨A28, N28, c28, rfl, hs, hb⟩
    obtain ⟨D28, hD⟩ : ∃ D, w28.heap.size = D := ⟨_, rfl⟩
    obtain ⟨v28, hw28⟩ : ∃ v, w28.alloc (.cells #[.int .i64 st, .string us, .slice A28 N28 c28, .string tx] 25) = v := ⟨_, rfl⟩
    have hb2 : Below w28.heap.size w28 v28 := by rw [← hw28]; exact below_new _ _
    have K28 := Lib.hid (((K27.out.move hb).move hb2).and (SV.made (s := ⟨st, us, T, tx⟩) hs hD hw28))
    clear hb hb2 hs
    clear zs0 zs1 zs2 zs3
    have zs0 := K28.out.here.1.1.1.2.1.cell 0
    have zs1 := K28.out.here.1.1.1.2.1.cell 1
    have zs2 := K28.out.here.1.1.1.2.1.cell 2
    have zs3 := K28.out.here.1.1.1.2.1.cell 3
    simp only [List.getElem?_toArray, List.getElem?_cons_zero, List.getElem?_cons_succ] at zs0 zs1 zs2 zs3
    go_wp2_with fail
    refine (line_at HB.out _ K28.out.here.1.1.1.2.2 K28.out.here.1.1.1.1.2.1 K28.out.here.1.1.1.1.2.2 HUS.out HDS.out (by decide)).mono ?_
    rintro e w29 ⟨A29, N29, c29, rfl, hs, hb⟩
    obtain ⟨D29, hD⟩ : ∃ D, w29.heap.size = D := ⟨_, rfl⟩
    obtain ⟨v29, hw29⟩ : ∃ v, w29.alloc (.cells #[.int .i64 st, .string us, .slice A29 N29 c29, .string tx] 25) = v := ⟨_, rfl⟩
    have hb2 : Below w29.heap.size w29 v29 := by rw [← hw29]; exact below_new _ _
    have K29 := Lib.hid (((K28.out.move hb).move hb2).and (SV.made (s := ⟨st, us, T, tx⟩) hs hD hw29))
    clear hb hb2 hs
    clear zs0 zs1 zs2 zs3
    have zs0 := K29.out.here.1.1.1.1.2.1.cell 0
    have zs1 := K29.out.here.1.1.1.1.2.1.cell 1
    have zs2 := K29.out.here.1.1.1.1.2.1.cell 2
    have zs3 := K29.out.here.1.1.1.1.2.1.cell 3
    simp only [List.getElem?_toArray, List.getElem?_cons_zero, List.getElem?_cons_succ] at zs0 zs1 zs2 zs3
    go_wp2_with fail
    refine (line_at HX.out _ K29.out.here.1.1.1.1.2.2 K29.out.here.1.1.1.1.1.2.1 K29.out.here.1.1.1.1.1.2.2 HUS.out HDS.out (by decide)).mono ?_
    rintro e w30 ⟨A30, N30, c30, rfl, hs, hb⟩
    obtain ⟨D30, hD⟩ : ∃ D, w30.heap.size = D := ⟨_, rfl⟩
    obtain ⟨v30, hw30⟩ : ∃ v, w30.alloc (.cells #[.int .i64 st, .string us, .slice A30 N30 c30, .string tx] 25) = v := ⟨_, rfl⟩
    have hb2 : Below w30.heap.size w30 v30 := by rw [← hw30]; exact below_new _ _
    have K30 := Lib.hid (((K29.out.move hb).move hb2).and (SV.made (s := ⟨st, us, T, tx⟩) hs hD hw30))
    clear hb hb2 hs
    clear zs0 zs1 zs2 zs3
    have zx0 := K30.out.here.1.1.2.1.cell 0
    have zx1 := K30.out.here.1.1.2.1.cell 1
    have zx2 := K30.out.here.1.1.2.1.cell 2
    have zx3 := K30.out.here.1.1.2.1.cell 3
    have zs0 := K30.out.here.1.1.1.1.1.2.1.cell 0
    have zs1 := K30.out.here.1.1.1.1.1.2.1.cell 1
    have zs2 := K30.out.here.1.1.1.1.1.2.1.cell 2
    have zs3 := K30.out.here.1.1.1.1.1.2.1.cell 3
    simp only [List.getElem?_toArray, List.getElem?_cons_zero, List.getElem?_cons_succ] at zx0 zx1 zx2 zx3 zs0 zs1 zs2 zs3
    go_wp2_with fail
    refine (same_sub _ K30.out.here.1.1.2.2 K30.out.here.1.1.1.1.1.2.2).mono ?_
    rintro e x10w ⟨rfl, hb⟩
    have K31 := Lib.hid (K30.out.move hb)
    clear hb
    clear zx0 zx1 zx2 zx3 zs0 zs1 zs2 zs3
    go_wp2
    go_ret
    exact ⟨rfl, K31.out.here.1.1.1.1.1.1.1⟩
set_option maxRecDepth 20000 in
set_option maxHeartbeats 8000000 in
theorem law_FnReset (A0 : Option Addr) (len cap0 : Nat) (w : World) (h : Coded w A0 len cap0) (hm : MxS w) : Calls Tryz.prog 5 #[.slice A0 len cap0] w (Holds1 w) := by
  have HC := Lib.hid h
  have HM := Lib.hid hm
  clear h hm
  by_cases hlen : 1048576 < len
  ·
    have hlenI : (1048576 : Int) < (len : Int) := by omega
    go_enter Tryz.func5, Tryz.ntmps5
    go_wp2
    go_ret
    exact ⟨rfl, Below.refl _ _⟩
  have hlenJ : ¬ (1048576 : Int) < (len : Int) := by omega
  go_enter Tryz.func5, Tryz.ntmps5
  go_wp2_with fail
  refine (draw_subline A0 len cap0 w HC.out).mono ?_
  rintro e w1 ⟨st, us, tx, d, l, A, AU, N, cap, NU, cU, T, L, rfl, hus, htx, hl, hT, ho, hu, hd, hll⟩
  obtain ⟨D, hD⟩ : ∃ D, w1.heap.size = D := ⟨_, rfl⟩
  obtain ⟨w2, hw2⟩ : ∃ w2, w1.alloc (.cells #[.int .i64 st, .string us, .slice A N cap, .string tx] 25) = w2 := ⟨_, rfl⟩
  have hs1 : SIn w1 A N cap T := SIn.made ho (by omega) (fun g hg => by have := hT g hg; omega)
  have hb2 : Below w1.heap.size w1 w2 := by rw [← hw2]; exact below_new _ _
  have K2 := Lib.hid (((UV.made hu.2.2.2.2 hu.uin HM.out).move hb2).and (SV.made (s := ⟨st, us, T, tx⟩) hs1 hD hw2))
  have HUS : Hid (us.size ≤ 30) := Lib.hid hus
  have HDS : Hid (d.size ≤ 30) := Lib.hid hd
  have HLS : Hid (l.size ≤ 200) := Lib.hid hll
  have HNU : Hid (1 ≤ NU ∧ NU ≤ 5) := Lib.hid ⟨hu.1, hu.2.1⟩
  have HUL : Hid (∀ g ∈ L, g.1.size ≤ 30 ∧ g.2.1.size ≤ 30) := Lib.hid hu.2.2.1
  have HTX : Hid (tx.size ≤ 30) := Lib.hid htx
  clear hus htx hl hT ho hu hd hll hs1 hb2
  obtain ⟨⟨⟨st1, us1, T1, tx1⟩, n1⟩, hr, hrv⟩ := lineIs_any ⟨st, us, T, tx⟩ L d l
  have HR := Lib.hid hr
  have HRV := Lib.hid hrv
  clear hr hrv
  have zs0 := K2.out.here.2.1.cell 0
  have zs1 := K2.out.here.2.1.cell 1
  have zs2 := K2.out.here.2.1.cell 2
  have zs3 := K2.out.here.2.1.cell 3
  simp only [List.getElem?_toArray, List.getElem?_cons_zero, List.getElem?_cons_succ] at zs0 zs1 zs2 zs3
  go_wp2_with fail
  refine (line_at HR.out _ K2.out.here.2.2 K2.out.here.1.2.1 K2.out.here.1.2.2 HUS.out HDS.out (by have := HLS.out; omega)).mono ?_
  rintro e w21 ⟨A21, N21, c21, rfl, hs, hb⟩
  obtain ⟨D21, hD⟩ : ∃ D, w21.heap.size = D := ⟨_, rfl⟩
  obtain ⟨v21, hw21⟩ : ∃ v, w21.alloc (.cells #[.int .i64 st1, .string us1, .slice A21 N21 c21, .string tx1] 25) = v := ⟨_, rfl⟩
  have hb2 : Below w21.heap.size w21 v21 := by rw [← hw21]; exact below_new _ _
  have K21 := Lib.hid (((K2.out.move hb).move hb2).and (SV.made (s := ⟨st1, us1, T1, tx1⟩) hs hD hw21))
  clear hb hb2 hs
  clear zs0 zs1 zs2 zs3
  have zs0 := K21.out.here.1.2.1.cell 0
  have zs1 := K21.out.here.1.2.1.cell 1
  have zs2 := K21.out.here.1.2.1.cell 2
  have zs3 := K21.out.here.1.2.1.cell 3
  simp only [List.getElem?_toArray, List.getElem?_cons_zero, List.getElem?_cons_succ] at zs0 zs1 zs2 zs3
  go_wp2_with fail
  refine (sline_at HR.out _ K21.out.here.1.2.2 K21.out.here.1.1.2.1 HUS.out HDS.out (by have := HLS.out; omega)).mono ?_
  rintro e w22 ⟨A22, N22, c22, rfl, hs, hb⟩
  obtain ⟨D22, hD⟩ : ∃ D, w22.heap.size = D := ⟨_, rfl⟩
  obtain ⟨v22, hw22⟩ : ∃ v, w22.alloc (.cells #[.int .i64 st1, .string us1, .slice A22 N22 c22, .string tx1] 25) = v := ⟨_, rfl⟩
  have hb2 : Below w22.heap.size w22 v22 := by rw [← hw22]; exact below_new _ _
  have K22 := Lib.hid (((K21.out.move hb).move hb2).and (SV.made (s := ⟨st1, us1, T1, tx1⟩) hs hD hw22))
  clear hb hb2 hs
  clear zs0 zs1 zs2 zs3
  have zo0 := K22.out.here.1.2.1.cell 0
  have zo1 := K22.out.here.1.2.1.cell 1
  have zo2 := K22.out.here.1.2.1.cell 2
  have zo3 := K22.out.here.1.2.1.cell 3
  have zt0 := K22.out.here.2.1.cell 0
  have zt1 := K22.out.here.2.1.cell 1
  have zt2 := K22.out.here.2.1.cell 2
  have zt3 := K22.out.here.2.1.cell 3
  simp only [List.getElem?_toArray, List.getElem?_cons_zero, List.getElem?_cons_succ] at zo0 zo1 zo2 zo3 zt0 zt1 zt2 zt3
  go_wp2_with fail
  refine (same_sub _ K22.out.here.1.2.2 K22.out.here.2.2).mono ?_
  rintro e x2w ⟨rfl, hb⟩
  have K23 := Lib.hid (K22.out.move hb)
  clear hb
  clear zo0 zo1 zo2 zo3 zt0 zt1 zt2 zt3
  cases hz : (sbV ⟨st, us, T, tx⟩ && (vU L && domB (kb d))) with
  | false =>
    have e0 : n1 = -1 := congrArg Prod.snd (HR.out.off hz)
    subst e0
    clear hz
    have zo0 := K23.out.here.1.2.1.cell 0
    have zo1 := K23.out.here.1.2.1.cell 1
    have zo2 := K23.out.here.1.2.1.cell 2
    have zo3 := K23.out.here.1.2.1.cell 3
    have zt0 := K23.out.here.2.1.cell 0
    have zt1 := K23.out.here.2.1.cell 1
    have zt2 := K23.out.here.2.1.cell 2
    have zt3 := K23.out.here.2.1.cell 3
    simp only [List.getElem?_toArray, List.getElem?_cons_zero, List.getElem?_cons_succ] at zo0 zo1 zo2 zo3 zt0 zt1 zt2 zt3
    go_wp2_with fail
    refine (same_sub _ K23.out.here.1.2.2 K23.out.here.2.2).mono ?_
    rintro e x3w ⟨rfl, hb⟩
    have K24 := Lib.hid (K23.out.move hb)
    clear hb
    clear zo0 zo1 zo2 zo3 zt0 zt1 zt2 zt3
    go_wp2
    go_ret
    exact ⟨rfl, K24.out.here.1.1.1.1⟩
  | true =>
    have h0 : ¬ n1 < 0 := by have h := HR.out.on hz; simp only at h; omega
    have HZ := Lib.hid hz
    clear hz
    by_cases h56 : st = 5 ∨ st = 6
    ·
      have zs0 := K23.out.here.1.1.2.1.cell 0
      have zs1 := K23.out.here.1.1.2.1.cell 1
      have zs2 := K23.out.here.1.1.2.1.cell 2
      have zs3 := K23.out.here.1.1.2.1.cell 3
      simp only [List.getElem?_toArray, List.getElem?_cons_zero, List.getElem?_cons_succ] at zs0 zs1 zs2 zs3
      go_wp2_with fail
      refine (open_at false (by rcases h56 with h | h <;> (rw [h]; rfl)) _).mono ?_
      rintro e x4w ⟨rfl, hb⟩
      have K25 := Lib.hid (K23.out.move hb)
      clear hb
      clear zs0 zs1 zs2 zs3
      have zo0 := K25.out.here.1.2.1.cell 0
      have zo1 := K25.out.here.1.2.1.cell 1
      have zo2 := K25.out.here.1.2.1.cell 2
      have zo3 := K25.out.here.1.2.1.cell 3
      have zt0 := K25.out.here.2.1.cell 0
      have zt1 := K25.out.here.2.1.cell 1
      have zt2 := K25.out.here.2.1.cell 2
      have zt3 := K25.out.here.2.1.cell 3
      simp only [List.getElem?_toArray, List.getElem?_cons_zero, List.getElem?_cons_succ] at zo0 zo1 zo2 zo3 zt0 zt1 zt2 zt3
      go_wp2_with fail
      refine (same_sub _ K25.out.here.1.2.2 K25.out.here.2.2).mono ?_
      rintro e x5w ⟨rfl, hb⟩
      have K26 := Lib.hid (K25.out.move hb)
      clear hb
      clear zo0 zo1 zo2 zo3 zt0 zt1 zt2 zt3
      go_wp2
      go_ret
      exact ⟨rfl, K26.out.here.1.1.1.1⟩
    have H5 : Hid (st ≠ 5) := Lib.hid (fun e => h56 (.inl e))
    have H6 : Hid (st ≠ 6) := Lib.hid (fun e => h56 (.inr e))
    have zs0 := K23.out.here.1.1.2.1.cell 0
    have zs1 := K23.out.here.1.1.2.1.cell 1
    have zs2 := K23.out.here.1.1.2.1.cell 2
    have zs3 := K23.out.here.1.1.2.1.cell 3
    simp only [List.getElem?_toArray, List.getElem?_cons_zero, List.getElem?_cons_succ] at zs0 zs1 zs2 zs3
    go_wp2_with fail
    refine (open_at true (by rw [bne_iff_ne.2 H5.out, bne_iff_ne.2 H6.out]; rfl) _).mono ?_
    rintro e x6w ⟨rfl, hb⟩
    have K27 := Lib.hid (K23.out.move hb)
    clear hb h56
    clear zs0 zs1 zs2 zs3
    have HA := Lib.hid (li_reset HZ.out H5.out H6.out)
    have zs0 := K27.out.here.1.1.2.1.cell 0
    have zs1 := K27.out.here.1.1.2.1.cell 1
    have zs2 := K27.out.here.1.1.2.1.cell 2
    have zs3 := K27.out.here.1.1.2.1.cell 3
    simp only [List.getElem?_toArray, List.getElem?_cons_zero, List.getElem?_cons_succ] at zs0 zs1 zs2 zs3
    go_wp2_with fail
    refine (line_at HA.out _ K27.out.here.1.1.2.2 K27.out.here.1.1.1.2.1 K27.out.here.1.1.1.2.2 HUS.out HDS.out (by decide)).mono ?_
    rintro e w28 ⟨A28, N28, c28, rfl, hs, hb⟩
    obtain ⟨D28, hD⟩ : ∃ D, w28.heap.size = D := ⟨_, rfl⟩
    obtain ⟨v28, hw28⟩ : ∃ v, w28.alloc (.cells #[.int .i64 (min st 2), .string us, .slice A28 N28 c28, .string eB] 25) = v := ⟨_, rfl⟩
    have hb2 : Below w28.heap.size w28 v28 := by rw [← hw28]; exact below_new _ _
    have K28 := Lib.hid (((K27.out.move hb).move hb2).and (SV.made (s := ⟨(min st 2), us, [], eB⟩) hs hD hw28))
    clear hb hb2 hs
    clear zs0 zs1 zs2 zs3
    have zx0 := K28.out.here.2.1.cell 0
    have zx1 := K28.out.here.2.1.cell 1
    have zx2 := K28.out.here.2.1.cell 2
    have zx3 := K28.out.here.2.1.cell 3
    have zs0 := K28.out.here.1.1.1.2.1.cell 0
    have zs1 := K28.out.here.1.1.1.2.1.cell 1
    have zs2 := K28.out.here.1.1.1.2.1.cell 2
    have zs3 := K28.out.here.1.1.1.2.1.cell 3
    simp only [List.getElem?_toArray, List.getElem?_cons_zero, List.getElem?_cons_succ] at zx0 zx1 zx2 zx3 zs0 zs1 zs2 zs3
    go_wp2_with fail
    refine (same_sub _ K28.out.here.2.2 (SIn.nil _)).mono ?_
    rintro e x8w ⟨rfl, hb⟩
    have K29 := Lib.hid (K28.out.move hb)
    clear hb
    clear zx0 zx1 zx2 zx3 zs0 zs1 zs2 zs3
    go_wp2
    go_ret
    exact ⟨rfl, K29.out.here.1.1.1.1.1⟩
set_option maxRecDepth 20000 in
set_option maxHeartbeats 8000000 in
theorem law_FnNoop (A0 : Option Addr) (len cap0 : Nat) (w : World) (h : Coded w A0 len cap0) (hm : MxS w) : Calls Tryz.prog 6 #[.slice A0 len cap0] w (Holds1 w) := by
  have HC := Lib.hid h
  have HM := Lib.hid hm
  clear h hm
  by_cases hlen : 1048576 < len
  ·
    have hlenI : (1048576 : Int) < (len : Int) := by omega
    go_enter Tryz.func6, Tryz.ntmps6
    go_wp2
    go_ret
    exact ⟨rfl, Below.refl _ _⟩
  have hlenJ : ¬ (1048576 : Int) < (len : Int) := by omega
  go_enter Tryz.func6, Tryz.ntmps6
  go_wp2_with fail
  refine (draw_subline A0 len cap0 w HC.out).mono ?_
  rintro e w1 ⟨st, us, tx, d, l, A, AU, N, cap, NU, cU, T, L, rfl, hus, htx, hl, hT, ho, hu, hd, hll⟩
  obtain ⟨D, hD⟩ : ∃ D, w1.heap.size = D := ⟨_, rfl⟩
  obtain ⟨w2, hw2⟩ : ∃ w2, w1.alloc (.cells #[.int .i64 st, .string us, .slice A N cap, .string tx] 25) = w2 := ⟨_, rfl⟩
  have hs1 : SIn w1 A N cap T := SIn.made ho (by omega) (fun g hg => by have := hT g hg; omega)
  have hb2 : Below w1.heap.size w1 w2 := by rw [← hw2]; exact below_new _ _
  have K2 := Lib.hid (((UV.made hu.2.2.2.2 hu.uin HM.out).move hb2).and (SV.made (s := ⟨st, us, T, tx⟩) hs1 hD hw2))
  have HUS : Hid (us.size ≤ 30) := Lib.hid hus
  have HDS : Hid (d.size ≤ 30) := Lib.hid hd
  have HLS : Hid (l.size ≤ 200) := Lib.hid hll
  have HNU : Hid (1 ≤ NU ∧ NU ≤ 5) := Lib.hid ⟨hu.1, hu.2.1⟩
  have HUL : Hid (∀ g ∈ L, g.1.size ≤ 30 ∧ g.2.1.size ≤ 30) := Lib.hid hu.2.2.1
  have HTX : Hid (tx.size ≤ 30) := Lib.hid htx
  clear hus htx hl hT ho hu hd hll hs1 hb2
  obtain ⟨⟨⟨st1, us1, T1, tx1⟩, n1⟩, hr, hrv⟩ := lineIs_any ⟨st, us, T, tx⟩ L d l
  have HR := Lib.hid hr
  have HRV := Lib.hid hrv
  clear hr hrv
  have zs0 := K2.out.here.2.1.cell 0
  have zs1 := K2.out.here.2.1.cell 1
  have zs2 := K2.out.here.2.1.cell 2
  have zs3 := K2.out.here.2.1.cell 3
  simp only [List.getElem?_toArray, List.getElem?_cons_zero, List.getElem?_cons_succ] at zs0 zs1 zs2 zs3
  go_wp2_with fail
  refine (line_at HR.out _ K2.out.here.2.2 K2.out.here.1.2.1 K2.out.here.1.2.2 HUS.out HDS.out (by have := HLS.out; omega)).mono ?_
  rintro e w21 ⟨A21, N21, c21, rfl, hs, hb⟩
  obtain ⟨D21, hD⟩ : ∃ D, w21.heap.size = D := ⟨_, rfl⟩
  obtain ⟨v21, hw21⟩ : ∃ v, w21.alloc (.cells #[.int .i64 st1, .string us1, .slice A21 N21 c21, .string tx1] 25) = v := ⟨_, rfl⟩
  have hb2 : Below w21.heap.size w21 v21 := by rw [← hw21]; exact below_new _ _
  have K21 := Lib.hid (((K2.out.move hb).move hb2).and (SV.made (s := ⟨st1, us1, T1, tx1⟩) hs hD hw21))
  clear hb hb2 hs
  clear zs0 zs1 zs2 zs3
  have zs0 := K21.out.here.1.2.1.cell 0
  have zs1 := K21.out.here.1.2.1.cell 1
  have zs2 := K21.out.here.1.2.1.cell 2
  have zs3 := K21.out.here.1.2.1.cell 3
  simp only [List.getElem?_toArray, List.getElem?_cons_zero, List.getElem?_cons_succ] at zs0 zs1 zs2 zs3
  go_wp2_with fail
  refine (sline_at HR.out _ K21.out.here.1.2.2 K21.out.here.1.1.2.1 HUS.out HDS.out (by have := HLS.out; omega)).mono ?_
  rintro e w22 ⟨A22, N22, c22, rfl, hs, hb⟩
  obtain ⟨D22, hD⟩ : ∃ D, w22.heap.size = D := ⟨_, rfl⟩
  obtain ⟨v22, hw22⟩ : ∃ v, w22.alloc (.cells #[.int .i64 st1, .string us1, .slice A22 N22 c22, .string tx1] 25) = v := ⟨_, rfl⟩
  have hb2 : Below w22.heap.size w22 v22 := by rw [← hw22]; exact below_new _ _
  have K22 := Lib.hid (((K21.out.move hb).move hb2).and (SV.made (s := ⟨st1, us1, T1, tx1⟩) hs hD hw22))
  clear hb hb2 hs
  clear zs0 zs1 zs2 zs3
  have zo0 := K22.out.here.1.2.1.cell 0
  have zo1 := K22.out.here.1.2.1.cell 1
  have zo2 := K22.out.here.1.2.1.cell 2
  have zo3 := K22.out.here.1.2.1.cell 3
  have zt0 := K22.out.here.2.1.cell 0
  have zt1 := K22.out.here.2.1.cell 1
  have zt2 := K22.out.here.2.1.cell 2
  have zt3 := K22.out.here.2.1.cell 3
  simp only [List.getElem?_toArray, List.getElem?_cons_zero, List.getElem?_cons_succ] at zo0 zo1 zo2 zo3 zt0 zt1 zt2 zt3
  go_wp2_with fail
  refine (same_sub _ K22.out.here.1.2.2 K22.out.here.2.2).mono ?_
  rintro e x2w ⟨rfl, hb⟩
  have K23 := Lib.hid (K22.out.move hb)
  clear hb
  clear zo0 zo1 zo2 zo3 zt0 zt1 zt2 zt3
  cases hz : (sbV ⟨st, us, T, tx⟩ && (vU L && domB (kb d))) with
  | false =>
    have e0 : n1 = -1 := congrArg Prod.snd (HR.out.off hz)
    subst e0
    clear hz
    have zo0 := K23.out.here.1.2.1.cell 0
    have zo1 := K23.out.here.1.2.1.cell 1
    have zo2 := K23.out.here.1.2.1.cell 2
    have zo3 := K23.out.here.1.2.1.cell 3
    have zt0 := K23.out.here.2.1.cell 0
    have zt1 := K23.out.here.2.1.cell 1
    have zt2 := K23.out.here.2.1.cell 2
    have zt3 := K23.out.here.2.1.cell 3
    simp only [List.getElem?_toArray, List.getElem?_cons_zero, List.getElem?_cons_succ] at zo0 zo1 zo2 zo3 zt0 zt1 zt2 zt3
    go_wp2_with fail
    refine (same_sub _ K23.out.here.1.2.2 K23.out.here.2.2).mono ?_
    rintro e x3w ⟨rfl, hb⟩
    have K24 := Lib.hid (K23.out.move hb)
    clear hb
    clear zo0 zo1 zo2 zo3 zt0 zt1 zt2 zt3
    go_wp2
    go_ret
    exact ⟨rfl, K24.out.here.1.1.1.1⟩
  | true =>
    have h0 : ¬ n1 < 0 := by have h := HR.out.on hz; simp only at h; omega
    have HZ := Lib.hid hz
    clear hz
    by_cases h56 : st = 5 ∨ st = 6
    ·
      have zs0 := K23.out.here.1.1.2.1.cell 0
      have zs1 := K23.out.here.1.1.2.1.cell 1
      have zs2 := K23.out.here.1.1.2.1.cell 2
      have zs3 := K23.out.here.1.1.2.1.cell 3
      simp only [List.getElem?_toArray, List.getElem?_cons_zero, List.getElem?_cons_succ] at zs0 zs1 zs2 zs3
      go_wp2_with fail
      refine (open_at false (by rcases h56 with h | h <;> (rw [h]; rfl)) _).mono ?_
      rintro e x4w ⟨rfl, hb⟩
      have K25 := Lib.hid (K23.out.move hb)
      clear hb
      clear zs0 zs1 zs2 zs3
      have zo0 := K25.out.here.1.2.1.cell 0
      have zo1 := K25.out.here.1.2.1.cell 1
      have zo2 := K25.out.here.1.2.1.cell 2
      have zo3 := K25.out.here.1.2.1.cell 3
      have zt0 := K25.out.here.2.1.cell 0
      have zt1 := K25.out.here.2.1.cell 1
      have zt2 := K25.out.here.2.1.cell 2
      have zt3 := K25.out.here.2.1.cell 3
      simp only [List.getElem?_toArray, List.getElem?_cons_zero, List.getElem?_cons_succ] at zo0 zo1 zo2 zo3 zt0 zt1 zt2 zt3
      go_wp2_with fail
      refine (same_sub _ K25.out.here.1.2.2 K25.out.here.2.2).mono ?_
      rintro e x5w ⟨rfl, hb⟩
      have K26 := Lib.hid (K25.out.move hb)
      clear hb
      clear zo0 zo1 zo2 zo3 zt0 zt1 zt2 zt3
      go_wp2
      go_ret
      exact ⟨rfl, K26.out.here.1.1.1.1⟩
    have H5 : Hid (st ≠ 5) := Lib.hid (fun e => h56 (.inl e))
    have H6 : Hid (st ≠ 6) := Lib.hid (fun e => h56 (.inr e))
    have zs0 := K23.out.here.1.1.2.1.cell 0
    have zs1 := K23.out.here.1.1.2.1.cell 1
    have zs2 := K23.out.here.1.1.2.1.cell 2
    have zs3 := K23.out.here.1.1.2.1.cell 3
    simp only [List.getElem?_toArray, List.getElem?_cons_zero, List.getElem?_cons_succ] at zs0 zs1 zs2 zs3
    go_wp2_with fail
    refine (open_at true (by rw [bne_iff_ne.2 H5.out, bne_iff_ne.2 H6.out]; rfl) _).mono ?_
    rintro e x6w ⟨rfl, hb⟩
    have K27 := Lib.hid (K23.out.move hb)
    clear hb h56
    clear zs0 zs1 zs2 zs3
    have HA := Lib.hid (li_noop HZ.out H5.out H6.out)
    have HB := Lib.hid (li_xyz HZ.out H5.out H6.out)
    have HX := Lib.hid (li_small HZ.out H5.out H6.out)
    have HY := Lib.hid (li_empty HZ.out H5.out H6.out)
    have zs0 := K27.out.here.1.1.2.1.cell 0
    have zs1 := K27.out.here.1.1.2.1.cell 1
    have zs2 := K27.out.here.1.1.2.1.cell 2
    have zs3 := K27.out.here.1.1.2.1.cell 3
    simp only [List.getElem?_toArray, List.getElem?_cons_zero, List.getElem?_cons_succ] at zs0 zs1 zs2 zs3
    go_wp2_with fail
    refine (line_at HA.out _ K27.out.here.1.1.2.2 K27.out.here.1.1.1.2.1 K27.out.here.1.1.1.2.2 HUS.out HDS.out (by decide)).mono ?_
    rintro e w28 ⟨A28, N28, c28, rfl, hs, hb⟩
    obtain ⟨D28, hD⟩ : ∃ D, w28.heap.size = D := ⟨_, rfl⟩
    obtain ⟨v28, hw28⟩ : ∃ v, w28.alloc (.cells #[.int .i64 st, .string us, .slice A28 N28 c28, .string tx] 25) = v := ⟨_, rfl⟩
    have hb2 : Below w28.heap.size w28 v28 := by rw [← hw28]; exact below_new _ _
    have K28 := Lib.hid (((K27.out.move hb).move hb2).and (SV.made (s := ⟨st, us, T, tx⟩) hs hD hw28))
    clear hb hb2 hs
    clear zs0 zs1 zs2 zs3
    have zs0 := K28.out.here.1.1.1.2.1.cell 0
    have zs1 := K28.out.here.1.1.1.2.1.cell 1
    have zs2 := K28.out.here.1.1.1.2.1.cell 2
    have zs3 := K28.out.here.1.1.1.2.1.cell 3
    simp only [List.getElem?_toArray, List.getElem?_cons_zero, List.getElem?_cons_succ] at zs0 zs1 zs2 zs3
    go_wp2_with fail
    refine (line_at HB.out _ K28.out.here.1.1.1.2.2 K28.out.here.1.1.1.1.2.1 K28.out.here.1.1.1.1.2.2 HUS.out HDS.out (by decide)).mono ?_
    rintro e w29 ⟨A29, N29, c29, rfl, hs, hb⟩
    obtain ⟨D29, hD⟩ : ∃ D, w29.heap.size = D := ⟨_, rfl⟩
    obtain ⟨v29, hw29⟩ : ∃ v, w29.alloc (.cells #[.int .i64 st, .string us, .slice A29 N29 c29, .string tx] 25) = v := ⟨_, rfl⟩
    have hb2 : Below w29.heap.size w29 v29 := by rw [← hw29]; exact below_new _ _
    have K29 := Lib.hid (((K28.out.move hb).move hb2).and (SV.made (s := ⟨st, us, T, tx⟩) hs hD hw29))
    clear hb hb2 hs
    clear zs0 zs1 zs2 zs3
    have zs0 := K29.out.here.1.1.1.1.2.1.cell 0
    have zs1 := K29.out.here.1.1.1.1.2.1.cell 1
    have zs2 := K29.out.here.1.1.1.1.2.1.cell 2
    have zs3 := K29.out.here.1.1.1.1.2.1.cell 3
    simp only [List.getElem?_toArray, List.getElem?_cons_zero, List.getElem?_cons_succ] at zs0 zs1 zs2 zs3
    go_wp2_with fail
    refine (line_at HX.out _ K29.out.here.1.1.1.1.2.2 K29.out.here.1.1.1.1.1.2.1 K29.out.here.1.1.1.1.1.2.2 HUS.out HDS.out (by decide)).mono ?_
    rintro e w30 ⟨A30, N30, c30, rfl, hs, hb⟩
    obtain ⟨D30, hD⟩ : ∃ D, w30.heap.size = D := ⟨_, rfl⟩
    obtain ⟨v30, hw30⟩ : ∃ v, w30.alloc (.cells #[.int .i64 st, .string us, .slice A30 N30 c30, .string tx] 25) = v := ⟨_, rfl⟩
    have hb2 : Below w30.heap.size w30 v30 := by rw [← hw30]; exact below_new _ _
    have K30 := Lib.hid (((K29.out.move hb).move hb2).and (SV.made (s := ⟨st, us, T, tx⟩) hs hD hw30))
    clear hb hb2 hs
    clear zs0 zs1 zs2 zs3
    have zs0 := K30.out.here.1.1.1.1.1.2.1.cell 0
    have zs1 := K30.out.here.1.1.1.1.1.2.1.cell 1
    have zs2 := K30.out.here.1.1.1.1.1.2.1.cell 2
    have zs3 := K30.out.here.1.1.1.1.1.2.1.cell 3
    simp only [List.getElem?_toArray, List.getElem?_cons_zero, List.getElem?_cons_succ] at zs0 zs1 zs2 zs3
    go_wp2_with fail
    refine (line_at HY.out _ K30.out.here.1.1.1.1.1.2.2 K30.out.here.1.1.1.1.1.1.2.1 K30.out.here.1.1.1.1.1.1.2.2 HUS.out HDS.out (by decide)).mono ?_
    rintro e w31 ⟨A31, N31, c31, rfl, hs, hb⟩
    obtain ⟨D31, hD⟩ : ∃ D, w31.heap.size = D := ⟨_, rfl⟩
    obtain ⟨v31, hw31⟩ : ∃ v, w31.alloc (.cells #[.int .i64 st, .string us, .slice A31 N31 c31, .string tx] 25) = v := ⟨_, rfl⟩
    have hb2 : Below w31.heap.size w31 v31 := by rw [← hw31]; exact below_new _ _
    have K31 := Lib.hid (((K30.out.move hb).move hb2).and (SV.made (s := ⟨st, us, T, tx⟩) hs hD hw31))
    clear hb hb2 hs
    clear zs0 zs1 zs2 zs3
    have zx0 := K31.out.here.1.1.1.2.1.cell 0
    have zx1 := K31.out.here.1.1.1.2.1.cell 1
    have zx2 := K31.out.here.1.1.1.2.1.cell 2
    have zx3 := K31.out.here.1.1.1.2.1.cell 3
    have zs0 := K31.out.here.1.1.1.1.1.1.2.1.cell 0
    have zs1 := K31.out.here.1.1.1.1.1.1.2.1.cell 1
    have zs2 := K31.out.here.1.1.1.1.1.1.2.1.cell 2
    have zs3 := K31.out.here.1.1.1.1.1.1.2.1.cell 3
    simp only [List.getElem?_toArray, List.getElem?_cons_zero, List.getElem?_cons_succ] at zx0 zx1 zx2 zx3 zs0 zs1 zs2 zs3
    go_wp2_with fail
    refine (same_sub _ K31.out.here.1.1.1.2.2 K31.out.here.1.1.1.1.1.1.2.2).mono ?_
    rintro e x11w ⟨rfl, hb⟩
    have K32 := Lib.hid (K31.out.move hb)
    clear hb
    clear zx0 zx1 zx2 zx3 zs0 zs1 zs2 zs3
    have zy0 := K32.out.here.1.1.2.1.cell 0
    have zy1 := K32.out.here.1.1.2.1.cell 1
    have zy2 := K32.out.here.1.1.2.1.cell 2
    have zy3 := K32.out.here.1.1.2.1.cell 3
    have zs0 := K32.out.here.1.1.1.1.1.1.2.1.cell 0
    have zs1 := K32.out.here.1.1.1.1.1.1.2.1.cell 1
    have zs2 := K32.out.here.1.1.1.1.1.1.2.1.cell 2
    have zs3 := K32.out.here.1.1.1.1.1.1.2.1.cell 3
    simp only [List.getElem?_toArray, List.getElem?_cons_zero, List.getElem?_cons_succ] at zy0 zy1 zy2 zy3 zs0 zs1 zs2 zs3
    go_wp2_with fail
    refine (same_sub _ K32.out.here.1.1.2.2 K32.out.here.1.1.1.1.1.1.2.2).mono ?_
    rintro e x12w ⟨rfl, hb⟩
    have K33 := Lib.hid (K32.out.move hb)
    clear hb
    clear zy0 zy1 zy2 zy3 zs0 zs1 zs2 zs3
    go_wp2
    go_ret
    exact ⟨rfl, K33.out.here.1.1.1.1.1.1.1.1⟩
set_option maxRecDepth 20000 in
set_option maxHeartbeats 8000000 in
theorem law_FnQuit (A0 : Option Addr) (len cap0 : Nat) (w : World) (h : Coded w A0 len cap0) (hm : MxS w) : Calls Tryz.prog 7 #[.slice A0 len cap0] w (Holds1 w) := by
  have HC := Lib.hid h
  have HM := Lib.hid hm
  clear h hm
  by_cases hlen : 1048576 < len
  ·
    have hlenI : (1048576 : Int) < (len : Int) := by omega
    go_enter Tryz.func7, Tryz.ntmps7
    go_wp2
    go_ret
    exact ⟨rfl, Below.refl _ _⟩
  have hlenJ : ¬ (1048576 : Int) < (len : Int) := by omega
  go_enter Tryz.func7, Tryz.ntmps7
  go_wp2_with fail
  refine (draw_subline A0 len cap0 w HC.out).mono ?_
  rintro e w1 ⟨st, us, tx, d, l, A, AU, N, cap, NU, cU, T, L, rfl, hus, htx, hl, hT, ho, hu, hd, hll⟩
  obtain ⟨D, hD⟩ : ∃ D, w1.heap.size = D := ⟨_, rfl⟩
  obtain ⟨w2, hw2⟩ : ∃ w2, w1.alloc (.cells #[.int .i64 st, .string us, .slice A N cap, .string tx] 25) = w2 := ⟨_, rfl⟩
  have hs1 : SIn w1 A N cap T := SIn.made ho (by omega) (fun g hg => by have := hT g hg; omega)
  have hb2 : Below w1.heap.size w1 w2 := by rw [← hw2]; exact below_new _ _
  have K2 := Lib.hid (((UV.made hu.2.2.2.2 hu.uin HM.out).move hb2).and (SV.made (s := ⟨st, us, T, tx⟩) hs1 hD hw2))
  have HUS : Hid (us.size ≤ 30) := Lib.hid hus
  have HDS : Hid (d.size ≤ 30) := Lib.hid hd
  have HLS : Hid (l.size ≤ 200) := Lib.hid hll
  have HNU : Hid (1 ≤ NU ∧ NU ≤ 5) := Lib.hid ⟨hu.1, hu.2.1⟩
  have HUL : Hid (∀ g ∈ L, g.1.size ≤ 30 ∧ g.2.1.size ≤ 30) := Lib.hid hu.2.2.1
  have HTX : Hid (tx.size ≤ 30) := Lib.hid htx
  clear hus htx hl hT ho hu hd hll hs1 hb2
  obtain ⟨⟨⟨st1, us1, T1, tx1⟩, n1⟩, hr, hrv⟩ := lineIs_any ⟨st, us, T, tx⟩ L d l
  have HR := Lib.hid hr
  have HRV := Lib.hid hrv
  clear hr hrv
  have zs0 := K2.out.here.2.1.cell 0
  have zs1 := K2.out.here.2.1.cell 1
  have zs2 := K2.out.here.2.1.cell 2
  have zs3 := K2.out.here.2.1.cell 3
  simp only [List.getElem?_toArray, List.getElem?_cons_zero, List.getElem?_cons_succ] at zs0 zs1 zs2 zs3
  go_wp2_with fail
  refine (line_at HR.out _ K2.out.here.2.2 K2.out.here.1.2.1 K2.out.here.1.2.2 HUS.out HDS.out (by have := HLS.out; omega)).mono ?_
  rintro e w21 ⟨A21, N21, c21, rfl, hs, hb⟩
  obtain ⟨D21, hD⟩ : ∃ D, w21.heap.size = D := ⟨_, rfl⟩
  obtain ⟨v21, hw21⟩ : ∃ v, w21.alloc (.cells #[.int .i64 st1, .string us1, .slice A21 N21 c21, .string tx1] 25) = v := ⟨_, rfl⟩
  have hb2 : Below w21.heap.size w21 v21 := by rw [← hw21]; exact below_new _ _
  have K21 := Lib.hid (((K2.out.move hb).move hb2).and (SV.made (s := ⟨st1, us1, T1, tx1⟩) hs hD hw21))
  clear hb hb2 hs
  clear zs0 zs1 zs2 zs3
  have zs0 := K21.out.here.1.2.1.cell 0
  have zs1 := K21.out.here.1.2.1.cell 1
  have zs2 := K21.out.here.1.2.1.cell 2
  have zs3 := K21.out.here.1.2.1.cell 3
  simp only [List.getElem?_toArray, List.getElem?_cons_zero, List.getElem?_cons_succ] at zs0 zs1 zs2 zs3
  go_wp2_with fail
  refine (sline_at HR.out _ K21.out.here.1.2.2 K21.out.here.1.1.2.1 HUS.out HDS.out (by have := HLS.out; omega)).mono ?_
  rintro e w22 ⟨A22, N22, c22, rfl, hs, hb⟩
  obtain ⟨D22, hD⟩ : ∃ D, w22.heap.size = D := ⟨_, rfl⟩
  obtain ⟨v22, hw22⟩ : ∃ v, w22.alloc (.cells #[.int .i64 st1, .string us1, .slice A22 N22 c22, .string tx1] 25) = v := ⟨_, rfl⟩
  have hb2 : Below w22.heap.size w22 v22 := by rw [← hw22]; exact below_new _ _
  have K22 := Lib.hid (((K21.out.move hb).move hb2).and (SV.made (s := ⟨st1, us1, T1, tx1⟩) hs hD hw22))
  clear hb hb2 hs
  clear zs0 zs1 zs2 zs3
  have zo0 := K22.out.here.1.2.1.cell 0
  have zo1 := K22.out.here.1.2.1.cell 1
  have zo2 := K22.out.here.1.2.1.cell 2
  have zo3 := K22.out.here.1.2.1.cell 3
  have zt0 := K22.out.here.2.1.cell 0
  have zt1 := K22.out.here.2.1.cell 1
  have zt2 := K22.out.here.2.1.cell 2
  have zt3 := K22.out.here.2.1.cell 3
  simp only [List.getElem?_toArray, List.getElem?_cons_zero, List.getElem?_cons_succ] at zo0 zo1 zo2 zo3 zt0 zt1 zt2 zt3
  go_wp2_with fail
  refine (same_sub _ K22.out.here.1.2.2 K22.out.here.2.2).mono ?_
  rintro e x2w ⟨rfl, hb⟩
  have K23 := Lib.hid (K22.out.move hb)
  clear hb
  clear zo0 zo1 zo2 zo3 zt0 zt1 zt2 zt3
  cases hz : (sbV ⟨st, us, T, tx⟩ && (vU L && domB (kb d))) with
  | false =>
    have e0 : n1 = -1 := congrArg Prod.snd (HR.out.off hz)
    subst e0
    clear hz
    have zo0 := K23.out.here.1.2.1.cell 0
    have zo1 := K23.out.here.1.2.1.cell 1
    have zo2 := K23.out.here.1.2.1.cell 2
    have zo3 := K23.out.here.1.2.1.cell 3
    have zt0 := K23.out.here.2.1.cell 0
    have zt1 := K23.out.here.2.1.cell 1
    have zt2 := K23.out.here.2.1.cell 2
    have zt3 := K23.out.here.2.1.cell 3
    simp only [List.getElem?_toArray, List.getElem?_cons_zero, List.getElem?_cons_succ] at zo0 zo1 zo2 zo3 zt0 zt1 zt2 zt3
    go_wp2_with fail
    refine (same_sub _ K23.out.here.1.2.2 K23.out.here.2.2).mono ?_
    rintro e x3w ⟨rfl, hb⟩
    have K24 := Lib.hid (K23.out.move hb)
    clear hb
    clear zo0 zo1 zo2 zo3 zt0 zt1 zt2 zt3
    go_wp2
    go_ret
    exact ⟨rfl, K24.out.here.1.1.1.1⟩
  | true =>
    have h0 : ¬ n1 < 0 := by have h := HR.out.on hz; simp only at h; omega
    have HZ := Lib.hid hz
    clear hz
    by_cases h56 : st = 5 ∨ st = 6
    ·
      have zs0 := K23.out.here.1.1.2.1.cell 0
      have zs1 := K23.out.here.1.1.2.1.cell 1
      have zs2 := K23.out.here.1.1.2.1.cell 2
      have zs3 := K23.out.here.1.1.2.1.cell 3
      simp only [List.getElem?_toArray, List.getElem?_cons_zero, List.getElem?_cons_succ] at zs0 zs1 zs2 zs3
      go_wp2_with fail
      refine (open_at false (by rcases h56 with h | h <;> (rw [h]; rfl)) _).mono ?_
      rintro e x4w ⟨rfl, hb⟩
      have K25 := Lib.hid (K23.out.move hb)
      clear hb
      clear zs0 zs1 zs2 zs3
      have zo0 := K25.out.here.1.2.1.cell 0
      have zo1 := K25.out.here.1.2.1.cell 1
      have zo2 := K25.out.here.1.2.1.cell 2
      have zo3 := K25.out.here.1.2.1.cell 3
      have zt0 := K25.out.here.2.1.cell 0
      have zt1 := K25.out.here.2.1.cell 1
      have zt2 := K25.out.here.2.1.cell 2
      have zt3 := K25.out.here.2.1.cell 3
      simp only [List.getElem?_toArray, List.getElem?_cons_zero, List.getElem?_cons_succ] at zo0 zo1 zo2 zo3 zt0 zt1 zt2 zt3
      go_wp2_with fail
      refine (same_sub _ K25.out.here.1.2.2 K25.out.here.2.2).mono ?_
      rintro e x5w ⟨rfl, hb⟩
      have K26 := Lib.hid (K25.out.move hb)
      clear hb
      clear zo0 zo1 zo2 zo3 zt0 zt1 zt2 zt3
      go_wp2
      go_ret
      exact ⟨rfl, K26.out.here.1.1.1.1⟩
    have H5 : Hid (st ≠ 5) := Lib.hid (fun e => h56 (.inl e))
    have H6 : Hid (st ≠ 6) := Lib.hid (fun e => h56 (.inr e))
    have zs0 := K23.out.here.1.1.2.1.cell 0
    have zs1 := K23.out.here.1.1.2.1.cell 1
    have zs2 := K23.out.here.1.1.2.1.cell 2
    have zs3 := K23.out.here.1.1.2.1.cell 3
    simp only [List.getElem?_toArray, List.getElem?_cons_zero, List.getElem?_cons_succ] at zs0 zs1 zs2 zs3
    go_wp2_with fail
    refine (open_at true (by rw [bne_iff_ne.2 H5.out, bne_iff_ne.2 H6.out]; rfl) _).mono ?_
    rintro e x6w ⟨rfl, hb⟩
    have K27 := Lib.hid (K23.out.move hb)
    clear hb h56
    clear zs0 zs1 zs2 zs3
    have HA := Lib.hid (li_quit HZ.out H5.out H6.out)
    have HB : Hid (LineIs ⟨6, eB, [], eB⟩ L d l (⟨6, eB, [], eB⟩, 503)) := Lib.hid (li_6 (by have h := hz_v HZ.out; rw [h.2.1, h.2.2]; rfl) rfl)
    have HUSx : Hid (eB.size ≤ 30) := Lib.hid (by decide)
    have zs0 := K27.out.here.1.1.2.1.cell 0
    have zs1 := K27.out.here.1.1.2.1.cell 1
    have zs2 := K27.out.here.1.1.2.1.cell 2
    have zs3 := K27.out.here.1.1.2.1.cell 3
    simp only [List.getElem?_toArray, List.getElem?_cons_zero, List.getElem?_cons_succ] at zs0 zs1 zs2 zs3
    go_wp2_with fail
    refine (line_at HA.out _ K27.out.here.1.1.2.2 K27.out.here.1.1.1.2.1 K27.out.here.1.1.1.2.2 HUS.out HDS.out (by decide)).mono ?_
    rintro e w28 ⟨A28, N28, c28, rfl, hs, hb⟩
    obtain ⟨D28, hD⟩ : ∃ D, w28.heap.size = D := ⟨_, rfl⟩
    obtain ⟨v28, hw28⟩ : ∃ v, w28.alloc (.cells #[.int .i64 6, .string eB, .slice A28 N28 c28, .string eB] 25) = v := ⟨_, rfl⟩
    have hb2 : Below w28.heap.size w28 v28 := by rw [← hw28]; exact below_new _ _
    have K28 := Lib.hid (((K27.out.move hb).move hb2).and (SV.made (s := ⟨6, eB, [], eB⟩) hs hD hw28))
    clear hb hb2 hs
    clear zs0 zs1 zs2 zs3
    have zx0 := K28.out.here.2.1.cell 0
    have zx1 := K28.out.here.2.1.cell 1
    have zx2 := K28.out.here.2.1.cell 2
    have zx3 := K28.out.here.2.1.cell 3
    simp only [List.getElem?_toArray, List.getElem?_cons_zero, List.getElem?_cons_succ] at zx0 zx1 zx2 zx3
    go_wp2_with fail
    refine (line_at HB.out _ K28.out.here.2.2 K28.out.here.1.1.1.1.2.1 K28.out.here.1.1.1.1.2.2 HUSx.out HDS.out (by have := HLS.out; omega)).mono ?_
    rintro e w29 ⟨A29, N29, c29, rfl, hs, hb⟩
    obtain ⟨D29, hD⟩ : ∃ D, w29.heap.size = D := ⟨_, rfl⟩
    obtain ⟨v29, hw29⟩ : ∃ v, w29.alloc (.cells #[.int .i64 6, .string eB, .slice A29 N29 c29, .string eB] 25) = v := ⟨_, rfl⟩
    have hb2 : Below w29.heap.size w29 v29 := by rw [← hw29]; exact below_new _ _
    have K29 := Lib.hid (((K28.out.move hb).move hb2).and (SV.made (s := ⟨6, eB, [], eB⟩) hs hD hw29))
    clear hb hb2 hs
    clear zx0 zx1 zx2 zx3
    have zx0 := K29.out.here.1.2.1.cell 0
    have zx1 := K29.out.here.1.2.1.cell 1
    have zx2 := K29.out.here.1.2.1.cell 2
    have zx3 := K29.out.here.1.2.1.cell 3
    simp only [List.getElem?_toArray, List.getElem?_cons_zero, List.getElem?_cons_succ] at zx0 zx1 zx2 zx3
    go_wp2_with fail
    refine (same_sub _ K29.out.here.1.2.2 (SIn.nil _)).mono ?_
    rintro e x9w ⟨rfl, hb⟩
    have K30 := Lib.hid (K29.out.move hb)
    clear hb
    clear zx0 zx1 zx2 zx3
    have zx0 := K30.out.here.1.2.1.cell 0
    have zx1 := K30.out.here.1.2.1.cell 1
    have zx2 := K30.out.here.1.2.1.cell 2
    have zx3 := K30.out.here.1.2.1.cell 3
    have zy0 := K30.out.here.2.1.cell 0
    have zy1 := K30.out.here.2.1.cell 1
    have zy2 := K30.out.here.2.1.cell 2
    have zy3 := K30.out.here.2.1.cell 3
    simp only [List.getElem?_toArray, List.getElem?_cons_zero, List.getElem?_cons_succ] at zx0 zx1 zx2 zx3 zy0 zy1 zy2 zy3
    go_wp2_with fail
    refine (same_sub _ K30.out.here.1.2.2 K30.out.here.2.2).mono ?_
    rintro e x10w ⟨rfl, hb⟩
    have K31 := Lib.hid (K30.out.move hb)
    clear hb
    clear zx0 zx1 zx2 zx3 zy0 zy1 zy2 zy3
    go_wp2
    go_ret
    exact ⟨rfl, K31.out.here.1.1.1.1.1.1⟩
end Go.Proofs.YtichajalinkcdaaGreatDoor
