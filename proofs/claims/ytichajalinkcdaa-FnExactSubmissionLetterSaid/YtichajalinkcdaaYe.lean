/-
  The walk of the law FnExactSubmissionLetter. Condition: the argument can be read.
-/
import Derived.Test.YtichajalinkcdaaYb
import Derived.Test.YtichajalinkcdaaYc
import Derived.Test.YtichajalinkcdaaYd
namespace Go.Proofs.Ytichajalinkcdaa
open Go.RowKit
set_option linter.unusedVariables false

set_option maxRecDepth 20000 in
set_option maxHeartbeats 8000000 in
theorem law_FnExactSubmissionLetter (st : Int) (us : ByteArray) (A : Option Addr) (N cap : Nat) (tx : ByteArray) (w : World) (hus : us.size ≤ maxLen) (h : StrArg w A N cap) (htx : tx.size ≤ maxLen) : Calls Try.prog 8 #[.agg #[.int .i64 st, .string us, .slice A N cap, .string tx]] w (Holds1 w) := by
  obtain ⟨T, hA⟩ := h
  have HA := Lib.hid hA
  have HN := Lib.hid hA.1
  have HU := Lib.hid hus
  have HX := Lib.hid htx
  obtain ⟨r, hr⟩ : ∃ r, szM us T tx 1048576 = r := ⟨_, rfl⟩
  have HR := Lib.hid hr
  obtain ⟨Da, hDa⟩ : ∃ D, w.heap.size = D := ⟨_, rfl⟩
  have K1 := Lib.hid ((((kp_start w).and HA.out.keep).alloc (.cells #[.int .i64 st, .string us, .slice A N cap, .string tx] 41)).and (kp_made w 41 #[.int .i64 st, .string us, .slice A N cap, .string tx] hDa))
  clear hA hus htx
  by_cases hr0 : r < 0
  · clear hr
    have a0 := K1.out.here.2.2.cell 0
    have a1 := K1.out.here.2.2.cell 1
    have a2 := K1.out.here.2.2.cell 2
    have a3 := K1.out.here.2.2.cell 3
    simp at a0 a1 a2 a3
    go_enter Try.func8, Try.ntmps8
    go_wp2_with fail
    refine (sz_submission st us tx T A N cap 1048576 r _ K1.out.here.1.2 HU.out HX.out (by omega) (by omega) HR.out).mono ?_
    rintro e w1 ⟨rfl, hb⟩
    have K2 := Lib.hid (K1.out.move hb)
    clear hb
    clear a0 a1 a2 a3
    go_wp2
    go_ret
    exact ⟨rfl, K2.out.here.1.1⟩
  · have hsm := szM_ok (a := us) (L := T) (c := tx) (z := 1048576) (by omega) (by rw [hr]; omega)
    have hN : N ≤ 1048576 := by have := hsm.2.1; rw [HN.out] at this; omega
    have HUU : Hid (us.size ≤ 16777216) := Lib.hid (by have := hsm.1; omega)
    have HTL : Hid (T.length ≤ 4194304) := Lib.hid (by have := hsm.2.1; omega)
    have HTG : Hid (∀ g ∈ T, g.size ≤ 16777216) := Lib.hid (fun g hg => by have := hsm.2.2.2 g hg; omega)
    obtain ⟨z, u2, T2, x2, hg⟩ : ∃ z u2 T2 x2, (∀ w e w', (if okL ⟨st, us, T, tx⟩ then GiveLt w true us T tx else GiveLt w false eB [] eB) e w' → GiveLt w z u2 T2 x2 e w') ∧ T2.length ≤ 1048576 ∧ (∀ g ∈ T2, g.size ≤ 16777216) := by
      cases hok : okL ⟨st, us, T, tx⟩ with
      | true => exact ⟨true, us, T, tx, fun w e w' h => h, by have := hsm.2.1; omega, HTG.out⟩
      | false => exact ⟨false, eB, [], eB, fun w e w' h => by simpa using h, by simp, fun g hg => by cases hg⟩
    obtain ⟨n2, hn2⟩ : ∃ n, T2.length = n := ⟨_, rfl⟩
    have hn3 : n2 ≤ 1048576 := by rw [← hn2]; exact hg.2.1
    have HN2 := Lib.hid hn2
    have HG := Lib.hid hg.1
    have HL2 : Hid (T2.length ≤ 4194304) := Lib.hid (by have := hg.2.1; omega)
    have HG2 := Lib.hid hg.2.2
    have hzz : (z != z) = false := by simp
    obtain ⟨q1, hq1⟩ : ∃ q, 1 + N = q := ⟨_, rfl⟩
    obtain ⟨q2, hq2⟩ : ∃ q, 1 + n2 = q := ⟨_, rfl⟩
    have HQ1 := Lib.hid hq1
    have HQ2 := Lib.hid hq2
    have p1 : ¬ (q1 : Int) < 0 := by omega
    have p1d : decide ((q1 : Int) < 0) = false := decide_eq_false p1
    have p2 : ¬ (q2 : Int) < 0 := by omega
    have p2d : decide ((q2 : Int) < 0) = false := decide_eq_false p2
    have p3 : ((q2 : Int) != (q2 : Int)) = false := by simp
    clear hr hsm hg hn2 hq1 hq2
    have a0 := K1.out.here.2.2.cell 0
    have a1 := K1.out.here.2.2.cell 1
    have a2 := K1.out.here.2.2.cell 2
    have a3 := K1.out.here.2.2.cell 3
    simp at a0 a1 a2 a3
    go_enter Try.func8, Try.ntmps8
    go_wp2_with fail
    refine (sz_submission st us tx T A N cap 1048576 r _ K1.out.here.1.2 HU.out HX.out (by omega) (by omega) HR.out).mono ?_
    rintro e w1 ⟨rfl, hb⟩
    have K2 := Lib.hid (K1.out.move hb)
    clear hb
    clear a0 a1 a2 a3
    have a0 := K2.out.here.2.2.cell 0
    have a1 := K2.out.here.2.2.cell 1
    have a2 := K2.out.here.2.2.cell 2
    have a3 := K2.out.here.2.2.cell 3
    simp at a0 a1 a2 a3
    go_wp2_with fail
    refine (to_submission st us tx T A N cap _ K2.out.here.1.2 hN).mono ?_
    rintro e w2 ⟨g1, rfl, hown, hb⟩
    have K3 := Lib.hid ((K2.out.move hb).and (SIn.made hown HTL.out HTG.out).keep)
    clear hb hown
    clear a0 a1 a2 a3
    have a0 := K3.out.here.1.2.2.cell 0
    have a1 := K3.out.here.1.2.2.cell 1
    have a2 := K3.out.here.1.2.2.cell 2
    have a3 := K3.out.here.1.2.2.cell 3
    simp at a0 a1 a2 a3
    go_wp2_with fail
    refine (spec_letter st us tx T _ N N _ K3.out.here.2 HUU.out).mono ?_
    intro e w3 hgv
    obtain ⟨A1, N1, c1, rfl, hown, hb⟩ := HG.out _ _ _ hgv
    have hN1 : n2 = N1 := (hown.len.1.trans HN2.out).symm
    subst hN1
    obtain ⟨Dw, hDw⟩ : ∃ D, w3.heap.size = D := ⟨_, rfl⟩
    obtain ⟨wa, hwa⟩ : ∃ wa, w3.alloc (.cells #[.string u2, .slice A1 n2 c1, .string x2] 28) = wa := ⟨_, rfl⟩
    have k4 := (((K3.out.l.move hb).and (SIn.made hown HL2.out HG2.out).keep).alloc (.cells #[.string u2, .slice A1 n2 c1, .string x2] 28)).and (kp_made w3 28 #[.string u2, .slice A1 n2 c1, .string x2] hDw)
    rw [hwa] at k4
    have K4 := Lib.hid k4
    clear hb hown hgv k4
    clear a0 a1 a2 a3
    have a0 := K4.out.here.1.1.2.2.cell 0
    have a1 := K4.out.here.1.1.2.2.cell 1
    have a2 := K4.out.here.1.1.2.2.cell 2
    have a3 := K4.out.here.1.1.2.2.cell 3
    have b0 := K4.out.here.2.2.cell 0
    have b1 := K4.out.here.2.2.cell 1
    have b2 := K4.out.here.2.2.cell 2
    simp at a0 a1 a2 a3 b0 b1 b2
    go_wp2_with fail
    refine (to_submission st us tx T A N cap _ K4.out.here.1.1.1.2 hN).mono ?_
    rintro e w4 ⟨gx, rfl, hown, hb⟩
    obtain ⟨Dx, hDx⟩ : ∃ D, w4.heap.size = D := ⟨_, rfl⟩
    obtain ⟨wb, hwb⟩ : ∃ wb, w4.alloc (.cells #[.int .i64 st, .string us, .slice (some ⟨gx, 0, none⟩) N N, .string tx] 25) = wb := ⟨_, rfl⟩
    have hB5 : Below wa.heap.size wa wb := by rw [← hwb]; exact hb.alloc hb.size _
    have hW5 : Whole wb Dx 25 #[.int .i64 st, .string us, .slice (some ⟨gx, 0, none⟩) N N, .string tx] := by rw [← hwb, ← hDx]; exact Whole.made _ _ _
    have hO5 : ROwn stR wb wa.heap.size (.slice (some ⟨gx, 0, none⟩) N N) T := by rw [← hwb]; exact hown.alloc _
    have HGX : Hid (wa.heap.size ≤ gx ∧ gx < Dx) := Lib.hid (by have := rown_blk hown gx rfl; rw [hDx] at this; exact this)
    have HB5 := Lib.hid hB5
    have HW5 := Lib.hid hW5
    have HO5 := Lib.hid hO5
    have F5 := Lib.hid (K4.out wb hB5)
    have HDX : Hid (Dx < wb.heap.size) := Lib.hid hW5.lt
    clear hb hown hB5 hW5 hO5
    clear a0 a1 a2 a3 b0 b1 b2
    have a0 := F5.out.1.1.2.2.cell 0
    have a1 := F5.out.1.1.2.2.cell 1
    have a2 := F5.out.1.1.2.2.cell 2
    have a3 := F5.out.1.1.2.2.cell 3
    have b0 := F5.out.2.2.cell 0
    have b1 := F5.out.2.2.cell 1
    have b2 := F5.out.2.2.cell 2
    have xc0 := HW5.out.cell 0
    have xc1 := HW5.out.cell 1
    have xc2 := HW5.out.cell 2
    have xc3 := HW5.out.cell 3
    simp at a0 a1 a2 a3 b0 b1 b2 xc0 xc1 xc2 xc3
    go_wp2_with fail
    refine (impl_letter st us tx T _ N N _ (SIn.made HO5.out HTL.out HTG.out) HUU.out).mono ?_
    intro e w5 hgv
    obtain ⟨A3, N3, c3, rfl, hown, hb⟩ := HG.out _ _ _ hgv
    have hN3 : n2 = N3 := (hown.len.1.trans HN2.out).symm
    subst hN3
    obtain ⟨Dg, hDg⟩ : ∃ D, w5.heap.size = D := ⟨_, rfl⟩
    obtain ⟨wc, hwc⟩ : ∃ wc, w5.alloc (.cells #[.string u2, .slice A3 n2 c3, .string x2] 28) = wc := ⟨_, rfl⟩
    have hbc : Below wb.heap.size wb wc := by rw [← hwc]; exact hb.alloc hb.size _
    have HB6 := Lib.hid (HB5.out.trans (hbc.mono HB5.out.size))
    have HW6 := Lib.hid (HW5.out.below hbc HW5.out.lt)
    have HO6 := Lib.hid (HO5.out.kept hbc)
    have HV6 : Hid (Whole wc Dg 28 #[.string u2, .slice A3 n2 c3, .string x2]) := Lib.hid (by rw [← hwc, ← hDg]; exact Whole.made _ _ _)
    have HP6 : Hid (ROwn stR wc wb.heap.size (.slice A3 n2 c3) T2) := Lib.hid (by rw [← hwc]; exact hown.alloc _)
    have HGP : Hid (∀ g, (Value.slice A3 n2 c3).ownBlock = some g → wb.heap.size ≤ g ∧ g < Dg) := Lib.hid (fun g e => by have := rown_blk hown g e; rw [hDg] at this; exact this)
    have HDG : Hid (wb.heap.size ≤ Dg) := Lib.hid (by rw [← hDg]; exact hb.size)
    have F6 := Lib.hid (K4.out wc HB6.out)
    clear hb hown hgv hbc
    clear a0 a1 a2 a3 b0 b1 b2 xc0 xc1 xc2 xc3
    have b0 := F6.out.2.2.cell 0
    have b1 := F6.out.2.2.cell 1
    have b2 := F6.out.2.2.cell 2
    have xc0 := HW6.out.cell 0
    have xc1 := HW6.out.cell 1
    have xc2 := HW6.out.cell 2
    have xc3 := HW6.out.cell 3
    have gc0 := HV6.out.cell 0
    have gc1 := HV6.out.cell 1
    have gc2 := HV6.out.cell 2
    have a0 := F6.out.1.1.2.2.cell 0
    have a1 := F6.out.1.1.2.2.cell 1
    have a2 := F6.out.1.1.2.2.cell 2
    have a3 := F6.out.1.1.2.2.cell 3
    simp at b0 b1 b2 xc0 xc1 xc2 xc3 gc0 gc1 gc2 a0 a1 a2 a3
    go_wp2_with fail
    refine (eq_letter u2 x2 T2 A3 A1 n2 c3 c1 _ (SIn.made HP6.out HL2.out HG2.out) F6.out.1.2).mono ?_
    rintro e w6 ⟨rfl, hb⟩
    have HB7 := Lib.hid (HB6.out.trans (hb.mono HB6.out.size))
    have HW7 := Lib.hid (HW6.out.below hb HW6.out.lt)
    have HO7 := Lib.hid (HO6.out.kept hb)
    have HV7 := Lib.hid (HV6.out.below hb HV6.out.lt)
    have HP7 := Lib.hid (HP6.out.kept hb)
    have F7 := Lib.hid (K4.out w6 HB7.out)
    clear hb
    clear b0 b1 b2 xc0 xc1 xc2 xc3 gc0 gc1 gc2 a0 a1 a2 a3
    have xc0 := HW7.out.cell 0
    have xc1 := HW7.out.cell 1
    have xc2 := HW7.out.cell 2
    have xc3 := HW7.out.cell 3
    have a0 := F7.out.1.1.2.2.cell 0
    have a1 := F7.out.1.1.2.2.cell 1
    have a2 := F7.out.1.1.2.2.cell 2
    have a3 := F7.out.1.1.2.2.cell 3
    simp at xc0 xc1 xc2 xc3 a0 a1 a2 a3
    go_wp2_with fail
    have HB8 : Hid (Below wa.heap.size wa w6.drew) := Lib.hid (HB7.out.trans ((below_drew1 w6).mono HB7.out.size))
    have HW8 := Lib.hid HW7.out.drew
    have F8 := Lib.hid (K4.out w6.drew HB8.out)
    have HX8 : Hid (SIn w6.drew (some ⟨gx, 0, none⟩) N N T) := Lib.hid (SIn.made (HO7.out.kept (below_drew1 w6)) HTL.out HTG.out)
    have HO8 := Lib.hid (HO7.out.kept (below_drew1 w6))
    have HV8 := Lib.hid HV7.out.drew
    have HP8 := Lib.hid (HP7.out.kept (below_drew1 w6))
    clear xc0 xc1 xc2 xc3 a0 a1 a2 a3
    go_region_held3 (fun w' => w'.cell? ⟨Da, 0, none⟩ = some (.int .i64 st) ∧ w'.cell? ⟨Da, 1, none⟩ = some (.string us) ∧ w'.cell? ⟨Da, 2, none⟩ = some (.slice A N cap) ∧ w'.cell? ⟨Da, 3, none⟩ = some (.string tx) ∧ w'.cell? ⟨Dx, 0, none⟩ = some (.int .i64 st) ∧ w'.cell? ⟨Dx, 1, none⟩ = some (.string us) ∧ w'.cell? ⟨Dx, 2, none⟩ = some (.slice (some ⟨gx, 0, none⟩) N N) ∧ w'.cell? ⟨Dx, 3, none⟩ = some (.string tx)) (first | exact ⟨FC.out.1.1.2.2.cell 0, FC.out.1.1.2.2.cell 1, FC.out.1.1.2.2.cell 2, FC.out.1.1.2.2.cell 3, HWC.out.cell 0, HWC.out.cell 1, HWC.out.cell 2, HWC.out.cell 3⟩ | exact ⟨FB.out.1.1.2.2.cell 0, FB.out.1.1.2.2.cell 1, FB.out.1.1.2.2.cell 2, FB.out.1.1.2.2.cell 3, HWB.out.cell 0, HWB.out.cell 1, HWB.out.cell 2, HWB.out.cell 3⟩ | exact ⟨F8.out.1.1.2.2.cell 0, F8.out.1.1.2.2.cell 1, F8.out.1.1.2.2.cell 2, F8.out.1.1.2.2.cell 3, HW8.out.cell 0, HW8.out.cell 1, HW8.out.cell 2, HW8.out.cell 3⟩ | go_keep) (first
      | (go_at_call 22
         refine (to_submission st us tx T A N cap _ F8.out.1.1.1.2 hN).mono ?_
         rintro e w7 ⟨gy, rfl, hown, hb⟩
         have HBB := Lib.hid (HB8.out.trans (hb.mono HB8.out.size))
         have FB := Lib.hid (K4.out w7 HBB.out)
         have HWB := Lib.hid (HW8.out.below hb HW8.out.lt)
         have HXB := Lib.hid (HX8.out.below hb (Nat.le_refl _))
         have HOB := Lib.hid (HO8.out.kept hb)
         have HVB := Lib.hid (HV8.out.below hb HV8.out.lt)
         have HPB := Lib.hid (HP8.out.kept hb)
         have HYB := Lib.hid (SIn.made hown HTL.out HTG.out)
         clear hb hown)
      | (go_at_call 23
         refine (eq_submission st us tx T (some ⟨gx, 0, none⟩) (some ⟨gy, 0, none⟩) N N N _ HXB.out HYB.out).mono ?_
         rintro e w8 ⟨rfl, hb⟩
         have HBC := Lib.hid (HBB.out.trans (hb.mono HBB.out.size))
         have FC := Lib.hid (K4.out w8 HBC.out)
         have HWC := Lib.hid (HWB.out.below hb HWB.out.lt)
         have HOC := Lib.hid (HOB.out.kept hb)
         have HVC := Lib.hid (HVB.out.below hb HVB.out.lt)
         have HPC := Lib.hid (HPB.out.kept hb)
         clear hb))
    all_goals
      have xc0 := HWC.out.cell 0
      have xc1 := HWC.out.cell 1
      have xc2 := HWC.out.cell 2
      have xc3 := HWC.out.cell 3
      simp at xc0 xc1 xc2 xc3
      clear HBB FB HWB HXB HOB HVB HPB HYB F7 F6 F5 HB7 HW7 HO7 HV7 HP7
      go_wp2_with fail
      refine (mark_submission 1 q1 st us tx (some ⟨gx, 0, none⟩) N N wa.heap.size T _ HN.out HOC.out (by omega) (by omega) (by omega) HQ1.out).mono ?_
      rintro e w9 ⟨rfl, _, hgr⟩
      have HB9 : Hid (Below wa.heap.size wa w9) := Lib.hid (HBC.out.grown hgr HBC.out.size (fun k e => by have h1 := HGX.out.1; have h2 := Option.some.inj (show some gx = some k from e); omega))
      have HV9 := Lib.hid (HVC.out.grown hgr (fun e => by have h1 := HGX.out.2; have h3 := HDX.out; have h4 := HDG.out; have h2 := Option.some.inj (show some Dg = some gx from e); omega))
      have HP9 := Lib.hid (HPC.out.apart hgr (.inr (fun e => by have h1 := HGX.out.2; have h3 := HDX.out; have h4 := (HGP.out gx e).1; omega)))
      have F9 := Lib.hid (K4.out w9 HB9.out)
      clear hgr
      clear xc0 xc1 xc2 xc3
      have gc0 := HV9.out.cell 0
      have gc1 := HV9.out.cell 1
      have gc2 := HV9.out.cell 2
      have b0 := F9.out.2.2.cell 0
      have b1 := F9.out.2.2.cell 1
      have b2 := F9.out.2.2.cell 2
      simp at gc0 gc1 gc2 b0 b1 b2
      go_wp2_with fail
      refine (eq_letter u2 x2 T2 A3 A1 n2 c3 c1 _ (SIn.made HP9.out HL2.out HG2.out) F9.out.1.2).mono ?_
      rintro e w10 ⟨rfl, hb⟩
      have HB10 := Lib.hid (HB9.out.trans (hb.mono HB9.out.size))
      have HV10 := Lib.hid (HV9.out.below hb HV9.out.lt)
      have HP10 := Lib.hid (HP9.out.kept hb)
      clear hb
      clear gc0 gc1 gc2 b0 b1 b2
      have gc0 := HV10.out.cell 0
      have gc1 := HV10.out.cell 1
      have gc2 := HV10.out.cell 2
      simp at gc0 gc1 gc2
      go_wp2_with fail
      refine (mark_letter 1 q2 u2 x2 A3 c3 n2 wb.heap.size T2 _ HN2.out HP10.out (by omega) (by omega) (by omega) HQ2.out).mono ?_
      rintro e w11 ⟨rfl, hown, hgr⟩
      have HB11 : Hid (Below wa.heap.size wa w11) := Lib.hid (HB10.out.grown hgr HB10.out.size (fun k e => by have h1 := (HGP.out k e).1; have h2 := HB5.out.size; omega))
      have HV11 := Lib.hid (HV10.out.grown hgr (fun e => by have h1 := (HGP.out Dg e.symm).2; omega))
      have HP11 := Lib.hid hown
      clear hgr hown
      clear gc0 gc1 gc2
      have gc0 := HV11.out.cell 0
      have gc1 := HV11.out.cell 1
      have gc2 := HV11.out.cell 2
      simp at gc0 gc1 gc2
      go_wp2_with fail
      refine (held_letter 1 q2 u2 x2 A3 c3 n2 _ HP11.out.at (by omega) (by omega) (by omega) HQ2.out).mono ?_
      rintro e w12 ⟨rfl, hb⟩
      have HB12 := Lib.hid (HB11.out.trans (hb.mono HB11.out.size))
      have HV12 := Lib.hid (HV11.out.below hb HV11.out.lt)
      have HP12 := Lib.hid (HP11.out.kept hb)
      have F12 := Lib.hid (K4.out w12 HB12.out)
      clear hb
      clear gc0 gc1 gc2
      have a0 := F12.out.1.1.2.2.cell 0
      have a1 := F12.out.1.1.2.2.cell 1
      have a2 := F12.out.1.1.2.2.cell 2
      have a3 := F12.out.1.1.2.2.cell 3
      simp at a0 a1 a2 a3
      go_wp2_with fail
      refine (to_submission st us tx T A N cap _ F12.out.1.1.1.2 hN).mono ?_
      rintro e w13 ⟨gz, rfl, hown, hb⟩
      have HB13 := Lib.hid (HB12.out.trans (hb.mono HB12.out.size))
      have HV13 := Lib.hid (HV12.out.below hb HV12.out.lt)
      have HP13 := Lib.hid (HP12.out.kept hb)
      have HZ13 := Lib.hid (SIn.made hown HTL.out HTG.out)
      clear hb hown
      clear a0 a1 a2 a3
      go_wp2_with fail
      refine (impl_letter st us tx T _ N N _ HZ13.out HUU.out).mono ?_
      intro e w14 hgv
      obtain ⟨A6, N6, c6, rfl, hown, hb⟩ := HG.out _ _ _ hgv
      have hN6 : n2 = N6 := (hown.len.1.trans HN2.out).symm
      subst hN6
      obtain ⟨Dh, hDh⟩ : ∃ D, w14.heap.size = D := ⟨_, rfl⟩
      obtain ⟨wd, hwd⟩ : ∃ wd, w14.alloc (.cells #[.string u2, .slice A6 n2 c6, .string x2] 28) = wd := ⟨_, rfl⟩
      have hbd : Below w13.heap.size w13 wd := by rw [← hwd]; exact hb.alloc hb.size _
      have HB14 := Lib.hid (HB13.out.trans (hbd.mono HB13.out.size))
      have HV14 := Lib.hid (HV13.out.below hbd HV13.out.lt)
      have HP14 := Lib.hid (HP13.out.kept hbd)
      have HH14 : Hid (Whole wd Dh 28 #[.string u2, .slice A6 n2 c6, .string x2]) := Lib.hid (by rw [← hwd, ← hDh]; exact Whole.made _ _ _)
      have HQ14 : Hid (SIn wd A6 n2 c6 T2) := Lib.hid (SIn.made (by rw [← hwd]; exact hown.alloc _) HL2.out HG2.out)
      have F14 := Lib.hid (K4.out wd HB14.out)
      clear hb hown hgv hbd
      have hc0 := HH14.out.cell 0
      have hc1 := HH14.out.cell 1
      have hc2 := HH14.out.cell 2
      have b0 := F14.out.2.2.cell 0
      have b1 := F14.out.2.2.cell 1
      have b2 := F14.out.2.2.cell 2
      simp at hc0 hc1 hc2 b0 b1 b2
      go_wp2_with fail
      refine (eq_letter u2 x2 T2 A6 A1 n2 c6 c1 _ HQ14.out F14.out.1.2).mono ?_
      rintro e w15 ⟨rfl, hb⟩
      have HB15 := Lib.hid (HB14.out.trans (hb.mono HB14.out.size))
      have HV15 := Lib.hid (HV14.out.below hb HV14.out.lt)
      have HP15 := Lib.hid (HP14.out.kept hb)
      clear hb
      clear hc0 hc1 hc2 b0 b1 b2
      have gc0 := HV15.out.cell 0
      have gc1 := HV15.out.cell 1
      have gc2 := HV15.out.cell 2
      simp at gc0 gc1 gc2
      go_wp2_with fail
      refine (held_letter 1 q2 u2 x2 A3 c3 n2 _ HP15.out.at (by omega) (by omega) (by omega) HQ2.out).mono ?_
      rintro e w16 ⟨rfl, hb⟩
      have HB16 := Lib.hid (HB15.out.trans (hb.mono HB15.out.size))
      clear hb
      clear gc0 gc1 gc2
      go_wp2
      go_ret
      exact ⟨rfl, (K4.out w16 HB16.out).1.1.1.1⟩
end Go.Proofs.Ytichajalinkcdaa
