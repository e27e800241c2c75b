/-
  The walks of the laws FnExpungeKept. Condition: the code can be read.
-/
import Derived.Test.YtiidlkbfjhgbaaaLu
import Derived.Deep.RegionWith
import Derived.Deep.DeepCutAuto
import Derived.Outline
namespace Go.Proofs.Ytiidlkbfjhgbaaa
open Go.RowKit
set_option linter.unusedVariables false

theorem kp_wholeW {w : World} {D : Nat} {t : TypeId} {cs : Array Value} (h : Whole w D t cs) : Kp w fun w' => Whole w' D t cs := fun w2 h2 => h.below h2 h.lt

set_option maxRecDepth 20000 in
set_option maxHeartbeats 4000000 in
theorem law_FnExpungeKept (A : Option Addr) (len cap : Nat) (w : World) (h : Coded w A len cap) : Calls Try.prog 15 #[.slice A len cap] w (Holds1 w) := by
  have HC := Lib.hid h
  clear h
  by_cases hl : len ≤ 1048576
  · have hl' : (len : Int) ≤ 1048576 := by omega
    go_enter Try.func15, Try.ntmps15
    go_wp2_with fail
    refine (draw_bexpunge A len cap _ HC.out).mono ?_
    rintro e w1 ⟨n, A1, N1, cap1, L, rfl, hN1, hn1, hn2, hown, hb⟩
    obtain ⟨⟨n2, L2, G⟩, hr⟩ : ∃ r, bxEI n L = r := ⟨_, rfl⟩
    have hL2 : L2.length ≤ 14 ∧ G.length ≤ 14 := by have h1 := bxEI_len hr; have h2 := hown.len.1; omega
    have HR := Lib.hid hr
    have HNL := Lib.hid hown.len.1
    clear hr
    obtain ⟨D1, hD1⟩ : ∃ D, w1.heap.size = D := ⟨_, rfl⟩
    have K1 := Lib.hid (((((kp_start w).move hb).and (MIn.of hown (by omega)).keep).alloc (.cells #[.int .i64 n, .slice A1 N1 cap1] 25)).and (kp_one w1 25 #[.int .i64 n, .slice A1 N1 cap1] hD1))
    clear hb hown
    have zD10 := K1.out.here.2.2.1.cell 0
    have zD11 := K1.out.here.2.2.1.cell 1
    simp at zD10 zD11
    go_wp2_with fail
    refine (impl_expunge_at HR.out A1 N1 cap1 _ K1.out.here.1.2).mono ?_
    rintro e w2 ⟨A2, N2, cap2, AG, NG, capG, rfl, hown, hownI, hb⟩
    have hN2 : N2 ≤ 14 := by have := hown.len.1; omega
    have hNG : NG ≤ 14 := by have := hownI.len.1; omega
    have HNL2 := Lib.hid hown.len.1
    have HNG := Lib.hid hownI.len.1
    obtain ⟨D2, hD2⟩ : ∃ D, w2.heap.size = D := ⟨_, rfl⟩
    have K2 := Lib.hid (((((K1.out.move hb).and (MIn.of hown (by omega)).keep).and (IIn.of hownI (by omega)).keep).alloc (.cells #[.int .i64 n2, .slice A2 N2 cap2] 25)).and (kp_one w2 25 #[.int .i64 n2, .slice A2 N2 cap2] hD2))
    clear hb hown hownI
    clear zD10 zD11
    have zD10 := K2.out.here.1.1.1.2.2.1.cell 0
    have zD11 := K2.out.here.1.1.1.2.2.1.cell 1
    have zD20 := K2.out.here.2.2.1.cell 0
    have zD21 := K2.out.here.2.2.1.cell 1
    simp at zD10 zD11 zD20 zD21
    go_wp2_with fail
    refine (spec_expunge_at HR.out A1 N1 cap1 _ K2.out.here.1.1.1.1.2).mono ?_
    rintro e w3 ⟨A3, N3, cap3, AH, NH, capH, rfl, hown, hownI, hb⟩
    have hN3 : N3 ≤ 14 := by have := hown.len.1; omega
    have hNH : NH ≤ 14 := by have := hownI.len.1; omega
    obtain ⟨D3, hD3⟩ : ∃ D, w3.heap.size = D := ⟨_, rfl⟩
    have K3 := Lib.hid (((((K2.out.move hb).and (MIn.of hown (by omega)).keep).and (IIn.of hownI (by omega)).keep).alloc (.cells #[.int .i64 n2, .slice A3 N3 cap3] 25)).and (kp_one w3 25 #[.int .i64 n2, .slice A3 N3 cap3] hD3))
    clear hb hown hownI
    clear zD10 zD11 zD20 zD21
    have zD10 := K3.out.here.1.1.1.1.1.1.2.2.1.cell 0
    have zD11 := K3.out.here.1.1.1.1.1.1.2.2.1.cell 1
    have zD20 := K3.out.here.1.1.1.2.2.1.cell 0
    have zD21 := K3.out.here.1.1.1.2.2.1.cell 1
    have zD30 := K3.out.here.2.2.1.cell 0
    have zD31 := K3.out.here.2.2.1.cell 1
    simp at zD10 zD11 zD20 zD21 zD30 zD31
    go_wp2_with fail
    refine (same_box_at (o := true) n2 n2 _ K3.out.here.1.1.1.1.1.2 K3.out.here.1.1.2 (by simp)).mono ?_
    rintro e w4 ⟨rfl, hb⟩
    have K4 := Lib.hid (K3.out.move hb)
    clear hb
    clear zD10 zD11 zD20 zD21 zD30 zD31
    have zD10 := K4.out.here.1.1.1.1.1.1.2.2.1.cell 0
    have zD11 := K4.out.here.1.1.1.1.1.1.2.2.1.cell 1
    have zD20 := K4.out.here.1.1.1.2.2.1.cell 0
    have zD21 := K4.out.here.1.1.1.2.2.1.cell 1
    have zD30 := K4.out.here.2.2.1.cell 0
    have zD31 := K4.out.here.2.2.1.cell 1
    simp at zD10 zD11 zD20 zD21 zD30 zD31
    go_wp2_with fail
    refine (same_nums_at (o := true) _ K4.out.here.1.1.1.1.2 K4.out.here.1.2 (by simp)).mono ?_
    rintro e w5 ⟨rfl, hb⟩
    have K5 := Lib.hid (K4.out.move hb)
    clear hb
    clear zD10 zD11 zD20 zD21 zD30 zD31
    have zD10 := K5.out.here.1.1.1.1.1.1.2.2.1.cell 0
    have zD11 := K5.out.here.1.1.1.1.1.1.2.2.1.cell 1
    have zD20 := K5.out.here.1.1.1.2.2.1.cell 0
    have zD21 := K5.out.here.1.1.1.2.2.1.cell 1
    have zD30 := K5.out.here.2.2.1.cell 0
    have zD31 := K5.out.here.2.2.1.cell 1
    simp at zD10 zD11 zD20 zD21 zD30 zD31
    obtain ⟨bv, hbv⟩ : ∃ b, bOk n L = b := ⟨_, rfl⟩
    go_wp2_with fail
    refine (boxvalid_at hbv A1 N1 cap1 _ K5.out.here.1.1.1.1.1.1.1.2).mono ?_
    rintro e w6 ⟨rfl, hb⟩
    have K6 := Lib.hid (K5.out.move hb)
    clear hb
    clear zD10 zD11 zD20 zD21 zD30 zD31
    have zD10 := K6.out.here.1.1.1.1.1.1.2.2.1.cell 0
    have zD11 := K6.out.here.1.1.1.1.1.1.2.2.1.cell 1
    have zD20 := K6.out.here.1.1.1.2.2.1.cell 0
    have zD21 := K6.out.here.1.1.1.2.2.1.cell 1
    have zD30 := K6.out.here.2.2.1.cell 0
    have zD31 := K6.out.here.2.2.1.cell 1
    simp at zD10 zD11 zD20 zD21 zD30 zD31
    have HBV := Lib.hid hbv
    clear hbv
    cases bv with
    | false =>
      go_wp2_with fail
      refine (same_box_at (o := true) n2 n2 _ K6.out.here.1.1.1.1.1.2 K6.out.here.1.1.2 (by simp)).mono ?_
      rintro e w7 ⟨rfl, hb⟩
      have K7 := Lib.hid (K6.out.move hb)
      clear hb
      clear zD10 zD11 zD20 zD21 zD30 zD31
      have zD10 := K7.out.here.1.1.1.1.1.1.2.2.1.cell 0
      have zD11 := K7.out.here.1.1.1.1.1.1.2.2.1.cell 1
      have zD20 := K7.out.here.1.1.1.2.2.1.cell 0
      have zD21 := K7.out.here.1.1.1.2.2.1.cell 1
      have zD30 := K7.out.here.2.2.1.cell 0
      have zD31 := K7.out.here.2.2.1.cell 1
      simp at zD10 zD11 zD20 zD21 zD30 zD31
      go_wp2_with fail
      refine (same_nums_at (o := true) _ K7.out.here.1.1.1.1.2 K7.out.here.1.2 (by simp)).mono ?_
      rintro e w8 ⟨rfl, hb⟩
      have K8 := Lib.hid (K7.out.move hb)
      clear hb
      clear zD10 zD11 zD20 zD21 zD30 zD31
      have zD10 := K8.out.here.1.1.1.1.1.1.2.2.1.cell 0
      have zD11 := K8.out.here.1.1.1.1.1.1.2.2.1.cell 1
      have zD20 := K8.out.here.1.1.1.2.2.1.cell 0
      have zD21 := K8.out.here.1.1.1.2.2.1.cell 1
      have zD30 := K8.out.here.2.2.1.cell 0
      have zD31 := K8.out.here.2.2.1.cell 1
      simp at zD10 zD11 zD20 zD21 zD30 zD31
      go_wp2
      go_ret
      exact ⟨rfl, K8.out.here.1.1.1.1.1.1.1.1⟩
    | true =>
      obtain ⟨X, hX1, hX2, hX3⟩ := expunge_kept HBV.out
      have HX1 := Lib.hid hX1
      have HX3 := Lib.hid hX3
      have hX2' : X.length = N1 := by rw [hX2, HNL.out]
      have HX2 := Lib.hid hX2'
      have hN100 : N1 ≤ 100 := by omega
      have HUP : Hid (upL N1 = upL L.length) := by show _ = _; rw [HNL.out]
      clear hX1 hX2 hX3 hX2'
      obtain ⟨S, hS⟩ : ∃ S, w6.heap.size = S := ⟨_, rfl⟩
      go_upto_region 8 with fail
      go_cut [8, 9] (fun s8 s9 wx => ∃ (D4 : Nat) (A4 : Option Addr) (N4 cap4 : Nat), s8 = .pointer (some ⟨D4, 0, none⟩) ∧ s9 = .bool true ∧ N4 ≤ 14 ∧ Hid (Below S w6 wx) ∧ Hid (Whole wx D4 25 #[.int .i64 n, .slice A4 N4 cap4]) ∧ Hid (MIn wx A4 N4 cap4 X))
      case first =>
        have HBD : Hid (Below S w6 w6.drew) := by have h := Below.refl S w6; exact ⟨h.os, h.tape, h.output, h.size, h.block⟩
        have HBY : Hid (Below S w6 (w6.alloc (.cells #[.int .i64 0, .slice none 0 0] 25))) := (Below.refl S w6).alloc (by omega) _
        have HBZ : Hid (Below S w6 (w6.alloc (.cells #[.int .i64 0, .slice none 0 0] 25)).drew) := by have h := HBY.out; exact ⟨h.os, h.tape, h.output, h.size, h.block⟩
        have HFZ : Hid (Whole (w6.alloc (.cells #[.int .i64 0, .slice none 0 0] 25)).drew S 25 #[.int .i64 0, .slice none 0 0]) := hS ▸ (Whole.made w6 25 #[.int .i64 0, .slice none 0 0]).drew
        have KZ := Lib.hid (K6.out.move (hS ▸ HBY.out))
        have KD := Lib.hid (K6.out.move (hS ▸ HBD.out))
        have yz0 := KZ.out.here.1.1.1.1.1.1.2.2.1.cell 0
        have yz1 := KZ.out.here.1.1.1.1.1.1.2.2.1.cell 1
        have yd0 := KD.out.here.1.1.1.1.1.1.2.2.1.cell 0
        have yd1 := KD.out.here.1.1.1.1.1.1.2.2.1.cell 1
        simp at yz0 yz1 yd0 yd1
        have hzD : S ≤ w6.drew.heap.size := by show S ≤ w6.heap.size; omega
        have hzZ : S + 1 ≤ (w6.alloc (.cells #[.int .i64 0, .slice none 0 0] 25)).drew.heap.size := by have := HFZ.out.lt; omega
        have HZD := Lib.hid hzD
        have HZZ := Lib.hid hzZ
        clear hzD hzZ
        go_region_with (first
          | (go_at_call 50
             refine (up_to_at HUP.out _ hN100).mono ?_
             rintro e wA ⟨AU, NU, capU, rfl, hownI, hb⟩
             have hNU : NU ≤ 100 := by {have h1 := hownI.len.1; rw [upL_len] at h1; have := HNL.out; omega}
             have HBA : Hid (Below S w6 wA) := by first | exact HBD.out.trans (hb.mono HZD.out) | exact HBZ.out.trans (hb.mono (Nat.le_of_succ_le HZZ.out))
             first
               | (have HFA := Lib.hid (show Whole wA S 25 #[.int .i64 0, .slice none 0 0] from HFZ.out.below hb HFZ.out.lt))
               | skip
             have HIA := Lib.hid (IIn.of hownI (show NU ≤ 33554432 by omega))
             have HIZ := Lib.hid (IIn.of (hownI.alloc (.cells #[.int .i64 0, .slice none 0 0] 25)) (show NU ≤ 33554432 by omega))
             have KA := Lib.hid (K6.out.move (hS ▸ HBA.out))
             have hzA : S ≤ wA.heap.size := hS ▸ HBA.out.size
             have HBAZ := Lib.hid (HBA.out.alloc hzA (.cells #[.int .i64 0, .slice none 0 0] 25))
             have KAZ := Lib.hid (K6.out.move (hS ▸ HBAZ.out))
             have HZA := Lib.hid hzA
             have ya0 := KA.out.here.1.1.1.1.1.1.2.2.1.cell 0
             have ya1 := KA.out.here.1.1.1.1.1.1.2.2.1.cell 1
             have yb0 := KAZ.out.here.1.1.1.1.1.1.2.2.1.cell 0
             have yb1 := KAZ.out.here.1.1.1.1.1.1.2.2.1.cell 1
             simp at ya0 ya1 yb0 yb1
             clear hb hownI hzA)
          | (go_at_call 41
             refine (impl_flags_at HX1.out A1 N1 cap1 AU NU capU _ (by first | exact KA.out.here.1.1.1.1.1.1.1.2 | exact KAZ.out.here.1.1.1.1.1.1.1.2) (by first | exact HIA.out | exact HIZ.out)).mono ?_
             rintro e wB ⟨A4, N4, cap4, rfl, hown, hb⟩
             have hN4 : N4 ≤ 14 := by {have h1 := hown.len.1; have h2 := HX2.out; omega}
             have HBB : Hid (Below S w6 wB) := by first | exact HBA.out.trans (hb.mono HZA.out) | exact HBAZ.out.trans (hb.mono (by have := HZA.out; simp; omega))
             have HO4 : Hid (ROwn mailR wB S (.slice A4 N4 cap4) X) := hown.from (by first | exact HZA.out | (have := HZA.out; simp; omega))
             have hzB : S ≤ wB.heap.size := hS ▸ HBB.out.size
             have HZB := Lib.hid hzB
             first
               | (have HFB := Lib.hid (show Whole wB S 25 #[.int .i64 0, .slice none 0 0] from HFA.out.below hb HFA.out.lt)
                  have f60 := HFB.out.cell 0
                  have f61 := HFB.out.cell 1
                  simp at f60 f61
                  have f6f := HFB.out.free 0
                  have f6g := HFB.out.free 1)
               | (have HFB := Lib.hid (show Whole wB wA.heap.size 25 #[.int .i64 0, .slice none 0 0] from (Whole.made wA 25 #[.int .i64 0, .slice none 0 0]).below hb (by simp))
                  have f60 := HFB.out.cell 0
                  have f61 := HFB.out.cell 1
                  simp at f60 f61
                  have f6f := HFB.out.free 0
                  have f6g := HFB.out.free 1)
               | skip
             clear hb hown hzB))
        all_goals
          go_wp2_with fail
          go_meet
          case rel =>
            first
              | exact ⟨_, A4, N4, cap4, rfl, rfl, hN4, (HBB.out.setCell (Nat.le_refl _) _).setCell (Nat.le_refl _) _, (HFB.out.store 0 _).store 1 _, MIn.of ((HO4.out.store (HO4.out.whole HFB.out (by decide)) _).store (HO4.out.whole HFB.out (by decide)) _) (by omega)⟩
              | exact ⟨_, A4, N4, cap4, rfl, rfl, hN4, (HBB.out.setCell HZA.out _).setCell HZA.out _, (HFB.out.store 0 _).store 1 _, MIn.of ((HO4.out.store (HO4.out.whole HFB.out (by decide)) _).store (HO4.out.whole HFB.out (by decide)) _) (by omega)⟩
              | exact ⟨_, A4, N4, cap4, rfl, rfl, hN4, HBB.out.alloc HZB.out _, Whole.made _ _ _, MIn.of (HO4.out.alloc _) (by omega)⟩
      case rest =>
        obtain ⟨D4, A4, N4, cap4, rfl, rfl, hN4, HBX, HWX, HM4⟩ := hcut
        clear zD10 zD11 zD20 zD21 zD30 zD31
        have K7 := Lib.hid (((K6.out.move (hS ▸ HBX.out)).and HM4.out.keep).and (kp_wholeW HWX.out))
        have zD10 := K7.out.here.1.1.1.1.1.1.1.1.2.2.1.cell 0
        have zD11 := K7.out.here.1.1.1.1.1.1.1.1.2.2.1.cell 1
        have zD20 := K7.out.here.1.1.1.1.1.2.2.1.cell 0
        have zD21 := K7.out.here.1.1.1.1.1.2.2.1.cell 1
        have zD30 := K7.out.here.1.1.2.2.1.cell 0
        have zD31 := K7.out.here.1.1.2.2.1.cell 1
        simp at zD10 zD11 zD20 zD21 zD30 zD31
        have zx0 := K7.out.here.2.cell 0
        have zx1 := K7.out.here.2.cell 1
        simp at zx0 zx1
        go_wp2_with fail
        refine (impl_expunge_at HX3.out A4 N4 cap4 _ K7.out.here.1.2).mono ?_
        rintro e w7 ⟨A5, N5, cap5, AK, NK, capK, rfl, hown, hownI, hb⟩
        have hN5 : N5 ≤ 14 := by {have h1 := hown.len.1; have h2 := HX2.out; omega}
        obtain rfl : NK = 0 := hownI.len.1
        obtain ⟨D5, hD5⟩ : ∃ D, w7.heap.size = D := ⟨_, rfl⟩
        have K8 := Lib.hid ((((K7.out.move hb).and (MIn.of hown (by omega)).keep).alloc (.cells #[.int .i64 n, .slice A5 N5 cap5] 25)).and (kp_one w7 25 #[.int .i64 n, .slice A5 N5 cap5] hD5))
        clear hb hown hownI
        clear zD10 zD11 zD20 zD21 zD30 zD31 zx0 zx1
        have zD10 := K8.out.here.1.1.1.1.1.1.1.1.1.1.2.2.1.cell 0
        have zD11 := K8.out.here.1.1.1.1.1.1.1.1.1.1.2.2.1.cell 1
        have zD20 := K8.out.here.1.1.1.1.1.1.1.2.2.1.cell 0
        have zD21 := K8.out.here.1.1.1.1.1.1.1.2.2.1.cell 1
        have zD30 := K8.out.here.1.1.1.1.2.2.1.cell 0
        have zD31 := K8.out.here.1.1.1.1.2.2.1.cell 1
        have zD50 := K8.out.here.2.2.1.cell 0
        have zD51 := K8.out.here.2.2.1.cell 1
        simp at zD10 zD11 zD20 zD21 zD30 zD31 zD50 zD51
        have zx0 := K8.out.here.1.1.2.cell 0
        have zx1 := K8.out.here.1.1.2.cell 1
        simp at zx0 zx1
        go_wp2_with fail
        refine (same_box_at (o := true) n n _ K8.out.here.1.1.1.2 K8.out.here.1.2 (by simp)).mono ?_
        rintro e w8 ⟨rfl, hb⟩
        have K9 := Lib.hid (K8.out.move hb)
        clear hb
        clear zD10 zD11 zD20 zD21 zD30 zD31 zD50 zD51 zx0 zx1
        have zD10 := K9.out.here.1.1.1.1.1.1.1.1.1.1.2.2.1.cell 0
        have zD11 := K9.out.here.1.1.1.1.1.1.1.1.1.1.2.2.1.cell 1
        have zD20 := K9.out.here.1.1.1.1.1.1.1.2.2.1.cell 0
        have zD21 := K9.out.here.1.1.1.1.1.1.1.2.2.1.cell 1
        have zD30 := K9.out.here.1.1.1.1.2.2.1.cell 0
        have zD31 := K9.out.here.1.1.1.1.2.2.1.cell 1
        have zD50 := K9.out.here.2.2.1.cell 0
        have zD51 := K9.out.here.2.2.1.cell 1
        simp at zD10 zD11 zD20 zD21 zD30 zD31 zD50 zD51
        have zx0 := K9.out.here.1.1.2.cell 0
        have zx1 := K9.out.here.1.1.2.cell 1
        simp at zx0 zx1
        go_wp2
        go_ret
        exact ⟨rfl, K9.out.here.1.1.1.1.1.1.1.1.1.1.1.1⟩
  · have hl' : (1048576 : Int) < (len : Int) := by omega
    go_enter Try.func15, Try.ntmps15
    go_wp2
    go_ret
    exact ⟨rfl, Below.refl _ _⟩
end Go.Proofs.Ytiidlkbfjhgbaaa
