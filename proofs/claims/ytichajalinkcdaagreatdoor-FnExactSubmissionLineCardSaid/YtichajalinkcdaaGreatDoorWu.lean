/-
  The walk of the law FnExactSubmissionLine. Condition: the arguments can be read.
-/
import Derived.Test.YtichajalinkcdaaGreatDoorZwt
import Derived.Deep.RegionHeld3
namespace Go.Proofs.YtichajalinkcdaaGreatDoor
open Go.RowKit
set_option linter.unusedVariables false

theorem szM_le {a c : ByteArray} {L : List ByteArray} {z : Int} (h : 0 ≤ z) : szM a L c z ≤ z := by
  unfold szM
  split
  · omega
  · have := (szL_le (L := L) (z := z - (a.size : Int)) (by omega)).1
    split
    · omega
    · split <;> omega
theorem uin_madeT {w : World} {B n cap : Nat} {A : Option Addr} {L : List Us} (h : ROwn usR w B (.slice A n cap) L) (hs : smallU L) : UIn w A n cap L := UIn.made h hs
set_option maxRecDepth 20000 in
set_option maxHeartbeats 16000000 in
theorem law_FnExactSubmissionLine (st : Int) (us : ByteArray) (A : Option Addr) (N cap : Nat) (tx : ByteArray) (AU : Option Addr) (NU cU : Nat) (d l : ByteArray) (w : World) (hus : us.size ≤ maxLen) (h : StrArg w A N cap) (htx : tx.size ≤ maxLen) (hU : UsArg w AU NU cU) (hdm : d.size ≤ maxLen) (hlm : l.size ≤ maxLen) (hm : MxS w) : Calls Tryz.prog 20 #[.agg #[.int .i64 st, .string us, .slice A N cap, .string tx], .slice AU NU cU, .string d, .string l] w (Holds1 w) := by
  obtain ⟨T, hA⟩ := h
  obtain ⟨L, hUn, hUc, hUm, hUa, hUt⟩ := hU
  have HA := Lib.hid hA
  have HN := Lib.hid hA.1
  have HUS := Lib.hid hus
  have HTX := Lib.hid htx
  have HUN := Lib.hid hUn
  have HUA := Lib.hid hUa
  have HUT := Lib.hid hUt
  have HUM : Hid (NU ≤ maxLen) := Lib.hid (by show _ ≤ _; omega)
  have HMX : Hid (Kp w fun w2 => MxS w2) := Lib.hid (fun w2 h2 => hm.below h2 (Nat.le_refl _))
  obtain ⟨r, hr⟩ : ∃ r, szM us T tx 1048576 = r := ⟨_, rfl⟩
  have HR := Lib.hid hr
  have hr1 : r ≤ 1048576 := by rw [← hr]; exact szM_le (by omega)
  obtain ⟨Da, hDa⟩ : ∃ D, w.heap.size = D := ⟨_, rfl⟩
  have K1 := Lib.hid ((((((kp_start w).and (stra_keepT HA.out)).and (rat_keepT HUA.out)).and HMX.out).alloc (.cells #[.int .i64 st, .string us, .slice A N cap, .string tx] 40)).and (kp_madeT w 40 #[.int .i64 st, .string us, .slice A N cap, .string tx] hDa))
  clear hA hus htx hUn hUc hUm hUa hUt hdm hlm hm
  by_cases hd : 1048576 < d.size
  ·
    have hdI : (1048576 : Int) < (d.size : Int) := by omega
    go_enter Tryz.func20, Tryz.ntmps20
    go_wp2
    go_ret
    exact ⟨rfl, K1.out.here.1.1.1.1⟩
  have hdJ : ¬ (1048576 : Int) < (d.size : Int) := by omega
  by_cases hl : 1048576 < l.size
  ·
    have hlI : (1048576 : Int) < (l.size : Int) := by omega
    go_enter Tryz.func20, Tryz.ntmps20
    go_wp2
    go_ret
    exact ⟨rfl, K1.out.here.1.1.1.1⟩
  have hlJ : ¬ (1048576 : Int) < (l.size : Int) := by omega
  by_cases hr0 : r < 0
  ·
    clear hr
    have a0 := K1.out.here.2.2.cell 0
    have a1 := K1.out.here.2.2.cell 1
    have a2 := K1.out.here.2.2.cell 2
    have a3 := K1.out.here.2.2.cell 3
    simp only [List.getElem?_toArray, List.getElem?_cons_zero, List.getElem?_cons_succ] at a0 a1 a2 a3
    go_enter Tryz.func20, Tryz.ntmps20
    go_wp2_with fail
    refine (sz_submission st us tx T A N cap 1048576 r _ K1.out.here.1.1.1.2 HUS.out HTX.out (by omega) (by omega) HR.out).mono ?_
    rintro e w1 ⟨rfl, hb⟩
    have K2 := Lib.hid (K1.out.move hb)
    clear hb
    clear a0 a1 a2 a3
    go_wp2
    go_ret
    exact ⟨rfl, K2.out.here.1.1.1.1⟩
  by_cases hnu : r < (NU : Int)
  ·
    clear hr
    have a0 := K1.out.here.2.2.cell 0
    have a1 := K1.out.here.2.2.cell 1
    have a2 := K1.out.here.2.2.cell 2
    have a3 := K1.out.here.2.2.cell 3
    simp only [List.getElem?_toArray, List.getElem?_cons_zero, List.getElem?_cons_succ] at a0 a1 a2 a3
    go_enter Tryz.func20, Tryz.ntmps20
    go_wp2_with fail
    refine (sz_submission st us tx T A N cap 1048576 r _ K1.out.here.1.1.1.2 HUS.out HTX.out (by omega) (by omega) HR.out).mono ?_
    rintro e w1 ⟨rfl, hb⟩
    have K2 := Lib.hid (K1.out.move hb)
    clear hb
    clear a0 a1 a2 a3
    go_wp2_with fail
    refine (sz_users_no AU NU cU r _ (by omega) hr1 hnu HUM.out).mono ?_
    rintro e w2 ⟨rfl, hb⟩
    have K3 := Lib.hid (K2.out.move hb)
    clear hb
    go_wp2
    go_ret
    exact ⟨rfl, K3.out.here.1.1.1.1⟩
  obtain ⟨z, hz⟩ : ∃ z, szU L (r - (NU : Int)) = z := ⟨_, rfl⟩
  have HZ := Lib.hid hz
  by_cases hz0 : z < 0
  ·
    clear hr hz
    have a0 := K1.out.here.2.2.cell 0
    have a1 := K1.out.here.2.2.cell 1
    have a2 := K1.out.here.2.2.cell 2
    have a3 := K1.out.here.2.2.cell 3
    simp only [List.getElem?_toArray, List.getElem?_cons_zero, List.getElem?_cons_succ] at a0 a1 a2 a3
    go_enter Tryz.func20, Tryz.ntmps20
    go_wp2_with fail
    refine (sz_submission st us tx T A N cap 1048576 r _ K1.out.here.1.1.1.2 HUS.out HTX.out (by omega) (by omega) HR.out).mono ?_
    rintro e w1 ⟨rfl, hb⟩
    have K2 := Lib.hid (K1.out.move hb)
    clear hb
    clear a0 a1 a2 a3
    go_wp2_with fail
    refine (sz_users AU NU cU r z L _ HUN.out K2.out.here.1.1.2 HUT.out (by omega) hr1 (by omega) HZ.out).mono ?_
    rintro e w2 ⟨rfl, hb⟩
    have K3 := Lib.hid (K2.out.move hb)
    clear hb
    go_wp2
    go_ret
    exact ⟨rfl, K3.out.here.1.1.1.1⟩
  have hsm := szM_ok (a := us) (L := T) (c := tx) (z := 1048576) (by omega) (by rw [hr]; omega)
  have hN : N ≤ 1048576 := by have := hsm.2.1; rw [HN.out] at this; omega
  have hNU : NU ≤ 1048576 := by omega
  have HUU : Hid (us.size ≤ 16777216) := Lib.hid (by have := hsm.1; omega)
  have HDD : Hid (d.size ≤ 16777216) := Lib.hid (by omega)
  have HLL : Hid (l.size ≤ 2097152) := Lib.hid (by omega)
  have HTL : Hid (T.length ≤ 4194304) := Lib.hid (by have := hsm.2.1; omega)
  have HTG : Hid (∀ g ∈ T, g.size ≤ 16777216) := Lib.hid (fun g hg => by have := hsm.2.2.2 g hg; omega)
  have HSM : Hid (smallU L) := Lib.hid ⟨by rw [HUN.out]; omega, fun g hg => by have := szU_le (L := L) (z := r - (NU : Int)) (by omega) (by rw [hz]; omega) g hg; omega⟩
  obtain ⟨u, ok, hup⟩ := isUp_any L ((wdsF l).getD 2 eB)
  obtain ⟨⟨⟨st1, us1, T1, tx1⟩, n1⟩, hrr⟩ : ∃ x, lineV ⟨st, us, T, tx⟩ L d l u ok = x := ⟨_, rfl⟩
  have hv1 : sbV ⟨st1, us1, T1, tx1⟩ = true := by have h := lineV_valid (s := ⟨st, us, T, tx⟩) (L := L) (d := d) (l := l) (u := u) (o := ok) (fun ho => by subst ho; exact isUp_name hup); rw [hrr] at h; exact h
  obtain ⟨_, v2, v3, _⟩ := sbV_has hv1
  have HL1 : Hid (T1.length ≤ 4194304) := Lib.hid (show _ ≤ _ by simp only at v2; omega)
  have HG1 : Hid (∀ g ∈ T1, g.size ≤ 16777216) := Lib.hid (fun g hg => by have := v3 g hg; omega)
  obtain ⟨m1, hm1⟩ : ∃ n, T1.length = n := ⟨_, rfl⟩
  have HM1 := Lib.hid hm1
  have hm3 : m1 ≤ 3 := by rw [← hm1]; exact v2
  have HUP := Lib.hid hup
  have HRR := Lib.hid hrr
  have HSL : Hid (∀ (wx : World) (AX : Option Addr) (NX cX : Nat) (AV : Option Addr) (NV cV : Nat), SIn wx AX NX cX T → UIn wx AV NV cV L → Calls Tryz.prog 23 #[.agg #[.int .i64 st, .string us, .slice AX NX cX, .string tx], .slice AV NV cV, .string d, .string l] wx (GiveL wx (⟨st1, us1, T1, tx1⟩, n1))) := Lib.hid (fun wx AX NX cX AV NV cV h1 h2 => by
    have h := spec_subline st us tx d l u ok T L AX AV NX cX NV cV wx h1 h2 HUU.out HDD.out HLL.out (fun _ => HUP.out)
    rw [HRR.out] at h
    exact h)
  have HIL : Hid (∀ (wx : World) (AX : Option Addr) (NX cX : Nat) (AV : Option Addr) (NV cV : Nat), SIn wx AX NX cX T → UIn wx AV NV cV L → MxS wx → Calls Tryz.prog 22 #[.agg #[.int .i64 st, .string us, .slice AX NX cX, .string tx], .slice AV NV cV, .string d, .string l] wx (GiveL wx (⟨st1, us1, T1, tx1⟩, n1))) := Lib.hid (fun wx AX NX cX AV NV cV h1 h2 h3 => by
    have h := impl_subline st us tx d l u ok T L AX AV NX cX NV cV wx h1 h2 HUU.out HDD.out HLL.out h3 (fun _ => HUP.out)
    rw [HRR.out] at h
    exact h)
  obtain ⟨q1, hq1⟩ : ∃ q, 1 + N = q := ⟨_, rfl⟩
  obtain ⟨q2, hq2⟩ : ∃ q, q1 + 3 * NU = q := ⟨_, rfl⟩
  obtain ⟨q3, hq3⟩ : ∃ q, 1 + m1 = q := ⟨_, rfl⟩
  have HQ1 := Lib.hid hq1
  have HQ2 := Lib.hid hq2
  have HQ3 := Lib.hid hq3
  have hq1b : 0 < q1 ∧ q1 ≤ 100000000 := by omega
  have p1 : ¬ (q2 : Int) < 0 := by omega
  have p1d : decide ((q2 : Int) < 0) = false := decide_eq_false p1
  have p2 : ¬ (q3 : Int) < 0 := by omega
  have p3 : ((q3 : Int) != (q3 : Int)) = false := by simp
  have p4 : (n1 != n1) = false := by simp
  clear hr hz hsm hup hrr hv1 v2 v3 hm1 hq1 hq2 hq3
  have a0 := K1.out.here.2.2.cell 0
  have a1 := K1.out.here.2.2.cell 1
  have a2 := K1.out.here.2.2.cell 2
  have a3 := K1.out.here.2.2.cell 3
  simp only [List.getElem?_toArray, List.getElem?_cons_zero, List.getElem?_cons_succ] at a0 a1 a2 a3
  go_enter Tryz.func20, Tryz.ntmps20
  go_wp2_with fail
  refine (sz_submission st us tx T A N cap 1048576 r _ K1.out.here.1.1.1.2 HUS.out HTX.out (by omega) (by omega) HR.out).mono ?_
  rintro e w1 ⟨rfl, hb⟩
  have K2 := Lib.hid (K1.out.move hb)
  clear hb
  clear a0 a1 a2 a3
  go_wp2_with fail
  refine (sz_users AU NU cU r z L _ HUN.out K2.out.here.1.1.2 HUT.out (by omega) hr1 (by omega) HZ.out).mono ?_
  rintro e w2 ⟨rfl, hb⟩
  have K3 := Lib.hid (K2.out.move hb)
  clear hb
  have a0 := K3.out.here.2.2.cell 0
  have a1 := K3.out.here.2.2.cell 1
  have a2 := K3.out.here.2.2.cell 2
  have a3 := K3.out.here.2.2.cell 3
  simp only [List.getElem?_toArray, List.getElem?_cons_zero, List.getElem?_cons_succ] at a0 a1 a2 a3
  go_wp2_with fail
  refine (to_submission st us tx T A N cap _ K3.out.here.1.1.1.2 hN).mono ?_
  rintro e w3 ⟨g1, rfl, hown, hb⟩
  have K3b := Lib.hid ((K3.out.move hb).and (sin_keepT (SIn.made hown HTL.out HTG.out)))
  clear hb hown
  clear a0 a1 a2 a3
  go_wp2_with fail
  refine (to_users AU NU cU L _ HUN.out K3b.out.here.1.1.1.2 hNU).mono ?_
  rintro e w4 ⟨g2, rfl, hown, hb⟩
  have K3c := Lib.hid (K3b.out.move hb)
  have HUI := Lib.hid (uin_madeT hown HSM.out)
  clear hb hown
  go_wp2_with fail
  refine (HSL.out _ _ _ _ _ _ _ K3c.out.here.2 HUI.out).mono ?_
  rintro e w5 ⟨A1, N1, c1, rfl, hown, hb⟩
  have hN1 : m1 = N1 := (hown.len.1.trans HM1.out).symm
  subst hN1
  obtain ⟨Dw, hDw⟩ : ∃ D, w5.heap.size = D := ⟨_, rfl⟩
  obtain ⟨wa, hwa⟩ : ∃ wa, w5.alloc (.cells #[.int .i64 st1, .string us1, .slice A1 m1 c1, .string tx1] 25) = wa := ⟨_, rfl⟩
  have k4 := (((K3c.out.l.move hb).and (sin_keepT (SIn.made hown HL1.out HG1.out))).alloc (.cells #[.int .i64 st1, .string us1, .slice A1 m1 c1, .string tx1] 25)).and (kp_madeT w5 25 #[.int .i64 st1, .string us1, .slice A1 m1 c1, .string tx1] hDw)
  rw [hwa] at k4
  have K4 := Lib.hid k4
  clear hb hown k4
  have a0 := K4.out.here.1.1.2.2.cell 0
  have a1 := K4.out.here.1.1.2.2.cell 1
  have a2 := K4.out.here.1.1.2.2.cell 2
  have a3 := K4.out.here.1.1.2.2.cell 3
  simp only [List.getElem?_toArray, List.getElem?_cons_zero, List.getElem?_cons_succ] at a0 a1 a2 a3
  go_wp2_with fail
  refine (to_submission st us tx T A N cap _ K4.out.here.1.1.1.1.1.2 hN).mono ?_
  rintro e w6 ⟨gx, rfl, hown, hb⟩
  obtain ⟨Dx, hDx⟩ : ∃ D, w6.heap.size = D := ⟨_, rfl⟩
  obtain ⟨wb, hwb⟩ : ∃ wb, w6.alloc (.cells #[.int .i64 st, .string us, .slice (some ⟨gx, 0, none⟩) N N, .string tx] 25) = wb := ⟨_, rfl⟩
  have HBb : Hid (Below wa.heap.size wa wb) := Lib.hid (by rw [← hwb]; exact hb.alloc hb.size _)
  have HX0 : Hid (Whole wb Dx 25 #[.int .i64 st, .string us, .slice (some ⟨gx, 0, none⟩) N N, .string tx]) := Lib.hid (by rw [← hwb, ← hDx]; exact Whole.made _ _ _)
  have HXO0 : Hid (ROwn stR wb wa.heap.size (.slice (some ⟨gx, 0, none⟩) N N) T) := Lib.hid (by rw [← hwb]; exact hown.alloc _)
  have HGX : Hid (∀ g, (Value.slice (some ⟨gx, 0, none⟩) N N).ownBlock = some g → wa.heap.size ≤ g ∧ g < Dx) := Lib.hid (fun g e => by have := rown_blkT hown g e; rw [hDx] at this; exact this)
  have HDX : Hid (Dx < wb.heap.size) := Lib.hid HX0.out.lt
  have Fb := Lib.hid (K4.out wb HBb.out)
  clear hb hown
  clear a0 a1 a2 a3
  go_wp2_with fail
  refine (to_users AU NU cU L _ HUN.out Fb.out.1.1.1.1.2 hNU).mono ?_
  rintro e w7 ⟨gu, rfl, hown, hb⟩
  have HB1 := Lib.hid (HBb.out.trans (hb.mono HBb.out.size))
  have F1 := Lib.hid (K4.out w7 HB1.out)
  have HX1 := Lib.hid (HX0.out.below hb HX0.out.lt)
  have HXO1 := Lib.hid (HXO0.out.kept hb)
  have HUO0 : Hid (ROwn usR w7 wb.heap.size (.slice (some ⟨gu, 0, none⟩) NU NU) L) := Lib.hid hown
  have HGU : Hid (∀ g, (Value.slice (some ⟨gu, 0, none⟩) NU NU).ownBlock = some g → wb.heap.size ≤ g ∧ g < w7.heap.size) := Lib.hid (rown_blkT hown)
  have HWB : Hid (wa.heap.size ≤ wb.heap.size) := Lib.hid HBb.out.size
  have HW7z : Hid (wb.heap.size ≤ w7.heap.size) := Lib.hid hb.size
  clear hb hown
  have xc0 := HX1.out.cell 0
  have xc1 := HX1.out.cell 1
  have xc2 := HX1.out.cell 2
  have xc3 := HX1.out.cell 3
  simp only [List.getElem?_toArray, List.getElem?_cons_zero, List.getElem?_cons_succ] at xc0 xc1 xc2 xc3
  go_wp2_with fail
  refine (HIL.out _ _ _ _ _ _ _ (SIn.made HXO1.out HTL.out HTG.out) (uin_madeT HUO0.out HSM.out) F1.out.1.1.1.2).mono ?_
  rintro e w8 ⟨A3, N3, c3, rfl, hown, hb⟩
  have hN3 : m1 = N3 := (hown.len.1.trans HM1.out).symm
  subst hN3
  obtain ⟨Dg, hDg⟩ : ∃ D, w8.heap.size = D := ⟨_, rfl⟩
  obtain ⟨wc, hwc⟩ : ∃ wc, w8.alloc (.cells #[.int .i64 st1, .string us1, .slice A3 m1 c3, .string tx1] 25) = wc := ⟨_, rfl⟩
  have hbc : Below w7.heap.size w7 wc := by rw [← hwc]; exact hb.alloc hb.size _
  have HB2 := Lib.hid (HB1.out.trans (hbc.mono HB1.out.size))
  have F2 := Lib.hid (K4.out wc HB2.out)
  have HX2 := Lib.hid (HX1.out.below hbc HX1.out.lt)
  have HXO2 := Lib.hid (HXO1.out.kept hbc)
  have HUO2 := Lib.hid (HUO0.out.kept hbc)
  have HG0 : Hid (Whole wc Dg 25 #[.int .i64 st1, .string us1, .slice A3 m1 c3, .string tx1]) := Lib.hid (by rw [← hwc, ← hDg]; exact Whole.made _ _ _)
  have HGO0 : Hid (ROwn stR wc w7.heap.size (.slice A3 m1 c3) T1) := Lib.hid (by rw [← hwc]; exact hown.alloc _)
  have HGG : Hid (∀ g, (Value.slice A3 m1 c3).ownBlock = some g → w7.heap.size ≤ g ∧ g < Dg) := Lib.hid (fun g e => by have := rown_blkT hown g e; rw [hDg] at this; exact this)
  have HDG : Hid (w7.heap.size ≤ Dg) := Lib.hid (by rw [← hDg]; exact hb.size)
  have HSZ7 : Hid (Dx < w7.heap.size) := Lib.hid HX1.out.lt
  clear hb hown hbc
  clear xc0 xc1 xc2 xc3
  have g0 := HG0.out.cell 0
  have g1 := HG0.out.cell 1
  have g2 := HG0.out.cell 2
  have g3 := HG0.out.cell 3
  have b0 := F2.out.2.2.cell 0
  have b1 := F2.out.2.2.cell 1
  have b2 := F2.out.2.2.cell 2
  have b3 := F2.out.2.2.cell 3
  simp only [List.getElem?_toArray, List.getElem?_cons_zero, List.getElem?_cons_succ] at g0 g1 g2 g3 b0 b1 b2 b3
  go_wp2_with fail
  refine (eq_submission st1 us1 tx1 T1 A3 A1 m1 c3 c1 _ (SIn.made HGO0.out HL1.out HG1.out) F2.out.1.2).mono ?_
  rintro e w10 ⟨rfl, hb⟩
  have HB3 := Lib.hid (HB2.out.trans (hb.mono HB2.out.size))
  have F3 := Lib.hid (K4.out w10 HB3.out)
  have HX3 := Lib.hid (HX2.out.below hb HX2.out.lt)
  have HXO3 := Lib.hid (HXO2.out.kept hb)
  have HUO3 := Lib.hid (HUO2.out.kept hb)
  have HG3 := Lib.hid (HG0.out.below hb HG0.out.lt)
  have HGO3 := Lib.hid (HGO0.out.kept hb)
  clear hb
  clear g0 g1 g2 g3 b0 b1 b2 b3
  have xc0 := HX3.out.cell 0
  have xc1 := HX3.out.cell 1
  have xc2 := HX3.out.cell 2
  have xc3 := HX3.out.cell 3
  have a0 := F3.out.1.1.2.2.cell 0
  have a1 := F3.out.1.1.2.2.cell 1
  have a2 := F3.out.1.1.2.2.cell 2
  have a3 := F3.out.1.1.2.2.cell 3
  simp only [List.getElem?_toArray, List.getElem?_cons_zero, List.getElem?_cons_succ] at xc0 xc1 xc2 xc3 a0 a1 a2 a3
  go_wp2_with fail
  have hbd := below_drew1 w10
  have HB4 := Lib.hid (HB3.out.trans (hbd.mono HB3.out.size))
  have F4 := Lib.hid (K4.out w10.drew HB4.out)
  have HX4 := Lib.hid (HX3.out.below hbd HX3.out.lt)
  have HXO4 := Lib.hid (HXO3.out.kept hbd)
  have HUO4 := Lib.hid (HUO3.out.kept hbd)
  have HG4 := Lib.hid (HG3.out.below hbd HG3.out.lt)
  have HGO4 := Lib.hid (HGO3.out.kept hbd)
  clear hbd
  have HXS := Lib.hid (SIn.made HXO4.out HTL.out HTG.out)
  clear xc0 xc1 xc2 xc3 a0 a1 a2 a3
  go_region_held3 (fun w' => w'.cell? ⟨Da, 0, none⟩ = some (.int .i64 st) ∧ w'.cell? ⟨Da, 1, none⟩ = some (.string us) ∧ w'.cell? ⟨Da, 2, none⟩ = some (.slice A N cap) ∧ w'.cell? ⟨Da, 3, none⟩ = some (.string tx) ∧ w'.cell? ⟨Dx, 0, none⟩ = some (.int .i64 st) ∧ w'.cell? ⟨Dx, 1, none⟩ = some (.string us) ∧ w'.cell? ⟨Dx, 2, none⟩ = some (.slice (some ⟨gx, 0, none⟩) N N) ∧ w'.cell? ⟨Dx, 3, none⟩ = some (.string tx)) (first | exact ⟨F6.out.1.1.2.2.cell 0, F6.out.1.1.2.2.cell 1, F6.out.1.1.2.2.cell 2, F6.out.1.1.2.2.cell 3, HX6.out.cell 0, HX6.out.cell 1, HX6.out.cell 2, HX6.out.cell 3⟩ | exact ⟨F5.out.1.1.2.2.cell 0, F5.out.1.1.2.2.cell 1, F5.out.1.1.2.2.cell 2, F5.out.1.1.2.2.cell 3, HX5.out.cell 0, HX5.out.cell 1, HX5.out.cell 2, HX5.out.cell 3⟩ | exact ⟨F4.out.1.1.2.2.cell 0, F4.out.1.1.2.2.cell 1, F4.out.1.1.2.2.cell 2, F4.out.1.1.2.2.cell 3, HX4.out.cell 0, HX4.out.cell 1, HX4.out.cell 2, HX4.out.cell 3⟩ | go_keep) (first
    | (go_at_call 32
       refine (to_submission st us tx T A N cap _ F4.out.1.1.1.1.1.2 hN).mono ?_
       rintro e w11 ⟨gy, rfl, hown, hb⟩
       have HB5 := Lib.hid (HB4.out.trans (hb.mono HB4.out.size))
       have F5 := Lib.hid (K4.out w11 HB5.out)
       have HX5 := Lib.hid (HX4.out.below hb HX4.out.lt)
       have HXO5 := Lib.hid (HXO4.out.kept hb)
       have HUO5 := Lib.hid (HUO4.out.kept hb)
       have HG5 := Lib.hid (HG4.out.below hb HG4.out.lt)
       have HGO5 := Lib.hid (HGO4.out.kept hb)
       have HXS2 := Lib.hid (HXS.out.below hb (Nat.le_refl _))
       have HYS := Lib.hid (SIn.made hown HTL.out HTG.out)
       clear hb hown)
    | (go_at_call 34
       refine (eq_submission st us tx T (some ⟨gx, 0, none⟩) (some ⟨gy, 0, none⟩) N N N _ HXS2.out HYS.out).mono ?_
       rintro e w12 ⟨rfl, hb⟩
       have HB6 := Lib.hid (HB5.out.trans (hb.mono HB5.out.size))
       have F6 := Lib.hid (K4.out w12 HB6.out)
       have HX6 := Lib.hid (HX5.out.below hb HX5.out.lt)
       have HXO6 := Lib.hid (HXO5.out.kept hb)
       have HUO6 := Lib.hid (HUO5.out.kept hb)
       have HG6 := Lib.hid (HG5.out.below hb HG5.out.lt)
       have HGO6 := Lib.hid (HGO5.out.kept hb)
       clear hb))
  all_goals
    go_wp2_with fail
    refine (to_users AU NU cU L _ HUN.out F6.out.1.1.1.1.2 hNU).mono ?_
    rintro e w13 ⟨gv, rfl, hown, hb⟩
    have HB7 := Lib.hid (HB6.out.trans (hb.mono HB6.out.size))
    have F7 := Lib.hid (K4.out w13 HB7.out)
    have HX7 := Lib.hid (HX6.out.below hb HX6.out.lt)
    have HXO7 := Lib.hid (HXO6.out.kept hb)
    have HUO7 := Lib.hid (HUO6.out.kept hb)
    have HG7 := Lib.hid (HG6.out.below hb HG6.out.lt)
    have HGO7 := Lib.hid (HGO6.out.kept hb)
    have HVI := Lib.hid (uin_madeT hown HSM.out)
    clear hb hown
    go_wp2_with fail
    refine (eq_users _ (uin_madeT HUO7.out HSM.out) HVI.out).mono ?_
    rintro e w14 ⟨rfl, hb⟩
    have HB8 := Lib.hid (HB7.out.trans (hb.mono HB7.out.size))
    have F8 := Lib.hid (K4.out w14 HB8.out)
    have HX8 := Lib.hid (HX7.out.below hb HX7.out.lt)
    have HXO8 := Lib.hid (HXO7.out.kept hb)
    have HUO8 := Lib.hid (HUO7.out.kept hb)
    have HG8 := Lib.hid (HG7.out.below hb HG7.out.lt)
    have HGO8 := Lib.hid (HGO7.out.kept hb)
    clear hb
    have xc0 := HX8.out.cell 0
    have xc1 := HX8.out.cell 1
    have xc2 := HX8.out.cell 2
    have xc3 := HX8.out.cell 3
    simp only [List.getElem?_toArray, List.getElem?_cons_zero, List.getElem?_cons_succ] at xc0 xc1 xc2 xc3
    go_wp2_with fail
    refine (mark_submission 1 q1 st us tx (some ⟨gx, 0, none⟩) N N wa.heap.size T _ HN.out HXO8.out (by omega) (by omega) (by omega) HQ1.out).mono ?_
    rintro e w15 ⟨rfl, _, hgr⟩
    have HB9 := Lib.hid (HB8.out.grown hgr HB8.out.size (fun g e => by have h1 := (HGX.out g e).1; have l1 := HDX.out; have l2 := HSZ7.out; have l3 := HDG.out; have l4 := HWB.out; have l5 := HW7z.out; omega))
    have F9 := Lib.hid (K4.out w15 HB9.out)
    have HX9 := Lib.hid (HX8.out.grown hgr (fun e => by have h1 := HGX.out Dx e.symm; have l1 := HDX.out; have l2 := HSZ7.out; have l3 := HDG.out; have l4 := HWB.out; have l5 := HW7z.out; omega))
    have HUO9 := Lib.hid (HUO8.out.apart hgr (own_apT HGU.out HGX.out (fun g a b => by have l1 := HDX.out; have l2 := HSZ7.out; have l3 := HDG.out; have l4 := HWB.out; have l5 := HW7z.out; omega)))
    have HG9 := Lib.hid (HG8.out.grown hgr (fun e => by have h1 := HGX.out Dg e.symm; have l1 := HDX.out; have l2 := HSZ7.out; have l3 := HDG.out; have l4 := HWB.out; have l5 := HW7z.out; omega))
    have HGO9 := Lib.hid (HGO8.out.apart hgr (own_apT HGG.out HGX.out (fun g a b => by have l1 := HDX.out; have l2 := HSZ7.out; have l3 := HDG.out; have l4 := HWB.out; have l5 := HW7z.out; omega)))
    clear hgr
    clear xc0 xc1 xc2 xc3
    go_wp2_with fail
    refine (mark_users q1 q2 (some ⟨gu, 0, none⟩) NU NU wb.heap.size L _ HUN.out HUO9.out (by omega) hq1b.1 hq1b.2 HQ2.out).mono ?_
    rintro e w16 ⟨rfl, hgr⟩
    have HB10 := Lib.hid (HB9.out.grown hgr HB9.out.size (fun g e => by have h1 := (HGU.out g e).1; have l1 := HDX.out; have l2 := HSZ7.out; have l3 := HDG.out; have l4 := HWB.out; have l5 := HW7z.out; omega))
    have F10 := Lib.hid (K4.out w16 HB10.out)
    have HG10 := Lib.hid (HG9.out.grown hgr (fun e => by have h1 := HGU.out Dg e.symm; have l1 := HDX.out; have l2 := HSZ7.out; have l3 := HDG.out; have l4 := HWB.out; have l5 := HW7z.out; omega))
    have HGO10 := Lib.hid (HGO9.out.apart hgr (own_apT HGG.out HGU.out (fun g a b => by have l1 := HDX.out; have l2 := HSZ7.out; have l3 := HDG.out; have l4 := HWB.out; have l5 := HW7z.out; omega)))
    clear hgr
    have g0 := HG10.out.cell 0
    have g1 := HG10.out.cell 1
    have g2 := HG10.out.cell 2
    have g3 := HG10.out.cell 3
    have b0 := F10.out.2.2.cell 0
    have b1 := F10.out.2.2.cell 1
    have b2 := F10.out.2.2.cell 2
    have b3 := F10.out.2.2.cell 3
    simp only [List.getElem?_toArray, List.getElem?_cons_zero, List.getElem?_cons_succ] at g0 g1 g2 g3 b0 b1 b2 b3
    go_wp2_with fail
    refine (eq_submission st1 us1 tx1 T1 A3 A1 m1 c3 c1 _ (SIn.made HGO10.out HL1.out HG1.out) F10.out.1.2).mono ?_
    rintro e w17 ⟨rfl, hb⟩
    have HB11 := Lib.hid (HB10.out.trans (hb.mono HB10.out.size))
    have F11 := Lib.hid (K4.out w17 HB11.out)
    have HG11 := Lib.hid (HG10.out.below hb HG10.out.lt)
    have HGO11 := Lib.hid (HGO10.out.kept hb)
    clear hb
    clear g0 g1 g2 g3 b0 b1 b2 b3
    have g0 := HG11.out.cell 0
    have g1 := HG11.out.cell 1
    have g2 := HG11.out.cell 2
    have g3 := HG11.out.cell 3
    simp only [List.getElem?_toArray, List.getElem?_cons_zero, List.getElem?_cons_succ] at g0 g1 g2 g3
    go_wp2_with fail
    refine (mark_submission 1 q3 st1 us1 tx1 A3 c3 m1 w7.heap.size T1 _ HM1.out HGO11.out (by omega) (by omega) (by omega) HQ3.out).mono ?_
    rintro e w18 ⟨rfl, hown, hgr⟩
    have HB12 := Lib.hid (HB11.out.grown hgr HB11.out.size (fun g e => by have h1 := (HGG.out g e).1; have l1 := HDX.out; have l2 := HSZ7.out; have l3 := HDG.out; have l4 := HWB.out; have l5 := HW7z.out; omega))
    have F12 := Lib.hid (K4.out w18 HB12.out)
    have HG12 := Lib.hid (HG11.out.grown hgr (fun e => by have h1 := HGG.out Dg e.symm; have l1 := HDX.out; have l2 := HSZ7.out; have l3 := HDG.out; have l4 := HWB.out; have l5 := HW7z.out; omega))
    have HMO : Hid (ROwn stR w18 w7.heap.size (.slice A3 m1 c3) (mks 1 m1)) := Lib.hid hown
    clear hgr hown
    clear g0 g1 g2 g3
    have g0 := HG12.out.cell 0
    have g1 := HG12.out.cell 1
    have g2 := HG12.out.cell 2
    have g3 := HG12.out.cell 3
    simp only [List.getElem?_toArray, List.getElem?_cons_zero, List.getElem?_cons_succ] at g0 g1 g2 g3
    go_wp2_with fail
    refine (held_submission 1 q3 st1 us1 tx1 A3 c3 m1 _ HMO.out.at (by omega) (by omega) (by omega) HQ3.out).mono ?_
    rintro e w19 ⟨rfl, hb⟩
    have HB13 := Lib.hid (HB12.out.trans (hb.mono HB12.out.size))
    have F13 := Lib.hid (K4.out w19 HB13.out)
    have HG13 := Lib.hid (HG12.out.below hb HG12.out.lt)
    have HMO13 := Lib.hid (HMO.out.kept hb)
    clear hb
    clear g0 g1 g2 g3
    have a0 := F13.out.1.1.2.2.cell 0
    have a1 := F13.out.1.1.2.2.cell 1
    have a2 := F13.out.1.1.2.2.cell 2
    have a3 := F13.out.1.1.2.2.cell 3
    simp only [List.getElem?_toArray, List.getElem?_cons_zero, List.getElem?_cons_succ] at a0 a1 a2 a3
    go_wp2_with fail
    refine (to_submission st us tx T A N cap _ F13.out.1.1.1.1.1.2 hN).mono ?_
    rintro e w20 ⟨gz, rfl, hown, hb⟩
    have HB14 := Lib.hid (HB13.out.trans (hb.mono HB13.out.size))
    have F14 := Lib.hid (K4.out w20 HB14.out)
    have HG14 := Lib.hid (HG13.out.below hb HG13.out.lt)
    have HMO14 := Lib.hid (HMO13.out.kept hb)
    have HZS := Lib.hid (SIn.made hown HTL.out HTG.out)
    clear hb hown
    clear a0 a1 a2 a3
    go_wp2_with fail
    refine (to_users AU NU cU L _ HUN.out F14.out.1.1.1.1.2 hNU).mono ?_
    rintro e w21 ⟨gt, rfl, hown, hb⟩
    have HB15 := Lib.hid (HB14.out.trans (hb.mono HB14.out.size))
    have F15 := Lib.hid (K4.out w21 HB15.out)
    have HG15 := Lib.hid (HG14.out.below hb HG14.out.lt)
    have HMO15 := Lib.hid (HMO14.out.kept hb)
    have HZS2 := Lib.hid (HZS.out.below hb (Nat.le_refl _))
    have HTI := Lib.hid (uin_madeT hown HSM.out)
    clear hb hown
    go_wp2_with fail
    refine (HIL.out _ _ _ _ _ _ _ HZS2.out HTI.out F15.out.1.1.1.2).mono ?_
    rintro e w22 ⟨A6, N6, c6, rfl, hown, hb⟩
    have hN6 : m1 = N6 := (hown.len.1.trans HM1.out).symm
    subst hN6
    obtain ⟨Dh, hDh⟩ : ∃ D, w22.heap.size = D := ⟨_, rfl⟩
    obtain ⟨wd, hwd⟩ : ∃ wd, w22.alloc (.cells #[.int .i64 st1, .string us1, .slice A6 m1 c6, .string tx1] 25) = wd := ⟨_, rfl⟩
    have hbd : Below w21.heap.size w21 wd := by rw [← hwd]; exact hb.alloc hb.size _
    have HB16 := Lib.hid (HB15.out.trans (hbd.mono HB15.out.size))
    have F16 := Lib.hid (K4.out wd HB16.out)
    have HG16 := Lib.hid (HG15.out.below hbd HG15.out.lt)
    have HMO16 := Lib.hid (HMO15.out.kept hbd)
    have HH : Hid (Whole wd Dh 25 #[.int .i64 st1, .string us1, .slice A6 m1 c6, .string tx1]) := Lib.hid (by rw [← hwd, ← hDh]; exact Whole.made _ _ _)
    have HHI : Hid (SIn wd A6 m1 c6 T1) := Lib.hid (SIn.made (by rw [← hwd]; exact hown.alloc _) HL1.out HG1.out)
    clear hb hown hbd
    have hh0 := HH.out.cell 0
    have hh1 := HH.out.cell 1
    have hh2 := HH.out.cell 2
    have hh3 := HH.out.cell 3
    have b0 := F16.out.2.2.cell 0
    have b1 := F16.out.2.2.cell 1
    have b2 := F16.out.2.2.cell 2
    have b3 := F16.out.2.2.cell 3
    simp only [List.getElem?_toArray, List.getElem?_cons_zero, List.getElem?_cons_succ] at hh0 hh1 hh2 hh3 b0 b1 b2 b3
    go_wp2_with fail
    refine (eq_submission st1 us1 tx1 T1 A6 A1 m1 c6 c1 _ HHI.out F16.out.1.2).mono ?_
    rintro e w23 ⟨rfl, hb⟩
    have HB17 := Lib.hid (HB16.out.trans (hb.mono HB16.out.size))
    have F17 := Lib.hid (K4.out w23 HB17.out)
    have HG17 := Lib.hid (HG16.out.below hb HG16.out.lt)
    have HMO17 := Lib.hid (HMO16.out.kept hb)
    clear hb
    clear hh0 hh1 hh2 hh3 b0 b1 b2 b3
    have g0 := HG17.out.cell 0
    have g1 := HG17.out.cell 1
    have g2 := HG17.out.cell 2
    have g3 := HG17.out.cell 3
    simp only [List.getElem?_toArray, List.getElem?_cons_zero, List.getElem?_cons_succ] at g0 g1 g2 g3
    go_wp2_with fail
    refine (held_submission 1 q3 st1 us1 tx1 A3 c3 m1 _ HMO17.out.at (by omega) (by omega) (by omega) HQ3.out).mono ?_
    rintro e w24 ⟨rfl, hb⟩
    have HB18 := Lib.hid (HB17.out.trans (hb.mono HB17.out.size))
    have F18 := Lib.hid (K4.out w24 HB18.out)
    have HG18 := Lib.hid (HG17.out.below hb HG17.out.lt)
    have HMO18 := Lib.hid (HMO17.out.kept hb)
    clear hb
    clear g0 g1 g2 g3
    go_wp2
    go_ret
    exact ⟨rfl, F18.out.1.1.1.1.1.1⟩
end Go.Proofs.YtichajalinkcdaaGreatDoor
