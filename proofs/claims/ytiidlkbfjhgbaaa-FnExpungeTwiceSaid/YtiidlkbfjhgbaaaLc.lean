/-
  The walks of the laws FnSize, FnBoxFlagsTwice, FnExpungeTwice. Condition: the code can be read.
-/
import Derived.Test.YtiidlkbfjhgbaaaLm
import Derived.Deep.RegionWith
import Derived.Outline
namespace Go.Proofs.Ytiidlkbfjhgbaaa
open Go.RowKit
set_option linter.unusedVariables false

set_option maxRecDepth 20000 in
set_option maxHeartbeats 4000000 in
theorem law_FnSize (A : Option Addr) (len cap : Nat) (w : World) (h : Coded w A len cap) : Calls Try.prog 22 #[.slice A len cap] w (Holds1 w) := by
  have HC := Lib.hid h
  clear h
  by_cases hl : len ≤ 1048576
  · have hl' : (len : Int) ≤ 1048576 := by omega
    go_enter Try.func22, Try.ntmps22
    go_wp2_with fail
    refine (draw_bappend A len cap _ HC.out).mono ?_
    rintro e w1 ⟨n, A1, N1, cap1, L, f, t, rfl, hN1, hn1, hn2, ht, hown, hb⟩
    obtain ⟨v, hv⟩ : ∃ v, sB t = v := ⟨_, rfl⟩
    have hvs : v.size ≤ 30 := by rw [← hv, sB_size]; exact ht
    have HV := Lib.hid hv
    rw [hv]
    obtain ⟨⟨n2, L2, ok⟩, hr⟩ : ∃ r, bxAp n L f t = r := ⟨_, rfl⟩
    have hL2 : L2.length ≤ 15 := by have h1 := bxAp_len hr; have h2 := hown.len.1; omega
    have HR := Lib.hid hr
    have HNL := Lib.hid hown.len.1
    clear hv hr
    obtain ⟨D1, hD1⟩ : ∃ D, w1.heap.size = D := ⟨_, rfl⟩
    have K1 := Lib.hid (((((kp_start w).move hb).and (MIn.of hown (by omega)).keep).alloc (.cells #[.int .i64 n, .slice A1 N1 cap1] 25)).and (kp_one w1 25 #[.int .i64 n, .slice A1 N1 cap1] hD1))
    clear hb hown
    have zD10 := K1.out.here.2.2.1.cell 0
    have zD11 := K1.out.here.2.2.1.cell 1
    simp at zD10 zD11
    go_wp2_with fail
    refine (impl_append_at HV.out HR.out A1 N1 cap1 _ K1.out.here.1.2).mono ?_
    rintro e w2 ⟨A2, N2, cap2, rfl, hown, hb⟩
    have hN2 : N2 ≤ 15 := by have := hown.len.1; omega
    have HNL2 := Lib.hid hown.len.1
    have hcap2 : N2 ≤ cap2 := hown.len.2.1
    obtain ⟨D2, hD2⟩ : ∃ D, w2.heap.size = D := ⟨_, rfl⟩
    have K2 := Lib.hid ((((K1.out.move hb).and (MIn.of hown (by omega)).keep).alloc (.cells #[.int .i64 n2, .slice A2 N2 cap2] 25)).and (kp_one w2 25 #[.int .i64 n2, .slice A2 N2 cap2] hD2))
    clear hb hown
    clear zD10 zD11
    have zD10 := K2.out.here.1.1.2.2.1.cell 0
    have zD11 := K2.out.here.1.1.2.2.1.cell 1
    have zD20 := K2.out.here.2.2.1.cell 0
    have zD21 := K2.out.here.2.2.1.cell 1
    simp at zD10 zD11 zD20 zD21
    go_wp2_with fail
    refine (spec_append_at HV.out HR.out A1 N1 cap1 _ K2.out.here.1.1.1.2).mono ?_
    rintro e w3 ⟨A3, N3, cap3, rfl, hown, hb⟩
    have hN3 : N3 ≤ 15 := by have := hown.len.1; omega
    obtain ⟨D3, hD3⟩ : ∃ D, w3.heap.size = D := ⟨_, rfl⟩
    have K3 := Lib.hid ((((K2.out.move hb).and (MIn.of hown (by omega)).keep).alloc (.cells #[.int .i64 n2, .slice A3 N3 cap3] 25)).and (kp_one w3 25 #[.int .i64 n2, .slice A3 N3 cap3] hD3))
    clear hb hown
    clear zD10 zD11 zD20 zD21
    have zD10 := K3.out.here.1.1.1.1.2.2.1.cell 0
    have zD11 := K3.out.here.1.1.1.1.2.2.1.cell 1
    have zD20 := K3.out.here.1.1.2.2.1.cell 0
    have zD21 := K3.out.here.1.1.2.2.1.cell 1
    have zD30 := K3.out.here.2.2.1.cell 0
    have zD31 := K3.out.here.2.2.1.cell 1
    simp at zD10 zD11 zD20 zD21 zD30 zD31
    cases ok with
    | false =>
      go_wp2_with fail
      refine (same_box_at (o := true) n2 n2 _ K3.out.here.1.1.1.2 K3.out.here.1.2 (by simp)).mono ?_
      rintro e w4 ⟨rfl, hb⟩
      have K4 := Lib.hid (K3.out.move hb)
      clear hb
      clear zD10 zD11 zD20 zD21 zD30 zD31
      have zD10 := K4.out.here.1.1.1.1.2.2.1.cell 0
      have zD11 := K4.out.here.1.1.1.1.2.2.1.cell 1
      have zD20 := K4.out.here.1.1.2.2.1.cell 0
      have zD21 := K4.out.here.1.1.2.2.1.cell 1
      have zD30 := K4.out.here.2.2.1.cell 0
      have zD31 := K4.out.here.2.2.1.cell 1
      simp at zD10 zD11 zD20 zD21 zD30 zD31
      go_wp2_with fail
      refine (same_box_at (o := true) n2 n2 _ K4.out.here.1.1.1.2 K4.out.here.1.2 (by simp)).mono ?_
      rintro e w5 ⟨rfl, hb⟩
      have K5 := Lib.hid (K4.out.move hb)
      clear hb
      clear zD10 zD11 zD20 zD21 zD30 zD31
      have zD10 := K5.out.here.1.1.1.1.2.2.1.cell 0
      have zD11 := K5.out.here.1.1.1.1.2.2.1.cell 1
      have zD20 := K5.out.here.1.1.2.2.1.cell 0
      have zD21 := K5.out.here.1.1.2.2.1.cell 1
      have zD30 := K5.out.here.2.2.1.cell 0
      have zD31 := K5.out.here.2.2.1.cell 1
      simp at zD10 zD11 zD20 zD21 zD30 zD31
      go_wp2
      go_ret
      exact ⟨rfl, K5.out.here.1.1.1.1.1.1⟩
    | true =>
      go_wp2_with fail
      refine (same_box_at (o := true) n2 n2 _ K3.out.here.1.1.1.2 K3.out.here.1.2 (by simp)).mono ?_
      rintro e w4 ⟨rfl, hb⟩
      have K4 := Lib.hid (K3.out.move hb)
      clear hb
      clear zD10 zD11 zD20 zD21 zD30 zD31
      have zD10 := K4.out.here.1.1.1.1.2.2.1.cell 0
      have zD11 := K4.out.here.1.1.1.1.2.2.1.cell 1
      have zD20 := K4.out.here.1.1.2.2.1.cell 0
      have zD21 := K4.out.here.1.1.2.2.1.cell 1
      have zD30 := K4.out.here.2.2.1.cell 0
      have zD31 := K4.out.here.2.2.1.cell 1
      simp at zD10 zD11 zD20 zD21 zD30 zD31
      obtain ⟨hz, hz0, hz1⟩ := bxSz_app HR.out
      obtain ⟨z, hzz⟩ : ∃ z, bxSz n L = z := ⟨_, rfl⟩
      obtain ⟨z2, hzz2⟩ : ∃ z, bxSz n2 L2 = z := ⟨_, rfl⟩
      rw [hzz, hzz2] at hz
      rw [hzz] at hz0 hz1
      have hvz : (v.size : Int) = (t.length : Int) := by rw [← HV.out, sB_size]
      have HZ := Lib.hid hzz
      have HZ2 := Lib.hid hzz2
      have E1 : z + (v.size : Int) = z2 := by omega
      have W1 : IntKind.i64.wrap (z + (v.size : Int)) = z2 := (IntWalk.i64_in _ (by omega)).trans E1
      have W4 : IntKind.i64.wrap z2 = z2 := IntWalk.i64_in _ (by omega)
      have q1 : (z2 == z2) = true := by simp
      clear hzz hzz2 hz hvz
      go_wp2
      have K5 := Lib.hid K4.out.drew
      go_region_with (first
        | (go_at_call_of 57 (A2); refine (implsize_at HZ2.out A2 N2 cap2 _ KB.out.here.1.1.1.2).mono ?_; rintro e wB ⟨rfl, hb⟩; have KC := Lib.hid (KB.out.move hb); clear hb)
        | (go_at_call_of 57 (A1); refine (implsize_at HZ.out A1 N1 cap1 _ KB.out.here.1.1.1.1.1.2).mono ?_; rintro e wB ⟨rfl, hb⟩; have KC := Lib.hid (KB.out.move hb); clear hb)
        | (go_at_call_of 57 (A2); refine (implsize_at HZ2.out A2 N2 cap2 _ K5.out.here.1.1.1.2).mono ?_; rintro e wA ⟨rfl, hb⟩; have KB := Lib.hid (K5.out.move hb); clear hb; have y10 := KB.out.here.1.1.1.1.2.2.1.cell 0; have y11 := KB.out.here.1.1.1.1.2.2.1.cell 1; have y20 := KB.out.here.1.1.2.2.1.cell 0; have y21 := KB.out.here.1.1.2.2.1.cell 1; simp at y10 y11 y20 y21)
        | (go_at_call_of 57 (A1); refine (implsize_at HZ.out A1 N1 cap1 _ K5.out.here.1.1.1.1.1.2).mono ?_; rintro e wA ⟨rfl, hb⟩; have KB := Lib.hid (K5.out.move hb); clear hb; have y10 := KB.out.here.1.1.1.1.2.2.1.cell 0; have y11 := KB.out.here.1.1.1.1.2.2.1.cell 1; have y20 := KB.out.here.1.1.2.2.1.cell 0; have y21 := KB.out.here.1.1.2.2.1.cell 1; simp at y10 y11 y20 y21))
      all_goals
        go_wp2
        go_ret
        exact ⟨rfl, KC.out.here.1.1.1.1.1.1⟩
  · have hl' : (1048576 : Int) < (len : Int) := by omega
    go_enter Try.func22, Try.ntmps22
    go_wp2
    go_ret
    exact ⟨rfl, Below.refl _ _⟩

set_option maxRecDepth 20000 in
set_option maxHeartbeats 4000000 in
theorem law_FnBoxFlagsTwice (A : Option Addr) (len cap : Nat) (w : World) (h : Coded w A len cap) : Calls Try.prog 10 #[.slice A len cap] w (Holds1 w) := by
  have HC := Lib.hid h
  clear h
  by_cases hl : len ≤ 1048576
  · have hl' : (len : Int) ≤ 1048576 := by omega
    go_enter Try.func10, Try.ntmps10
    go_wp2_with fail
    refine (draw_bflags A len cap _ HC.out).mono ?_
    rintro e w1 ⟨n, A1, N1, cap1, L, AP, NP, capP, P, h, f, rfl, hN1, hNP, hn1, hn2, hown, hownI, hb⟩
    obtain ⟨⟨n2, L2, ok⟩, hr⟩ : ∃ r, bxFl n L P h f = r := ⟨_, rfl⟩
    have hL2 : L2.length ≤ 14 := by have h1 := bxFl_len hr; have h2 := hown.len.1; omega
    have HR := Lib.hid hr
    have HNL := Lib.hid hown.len.1
    have HNP := Lib.hid hownI.len.1
    clear hr
    obtain ⟨D1, hD1⟩ : ∃ D, w1.heap.size = D := ⟨_, rfl⟩
    have K1 := Lib.hid ((((((kp_start w).move hb).and (MIn.of hown (by omega)).keep).and (IIn.of hownI (by omega)).keep).alloc (.cells #[.int .i64 n, .slice A1 N1 cap1] 25)).and (kp_one w1 25 #[.int .i64 n, .slice A1 N1 cap1] hD1))
    clear hb hown hownI
    have zD10 := K1.out.here.2.2.1.cell 0
    have zD11 := K1.out.here.2.2.1.cell 1
    simp at zD10 zD11
    go_wp2_with fail
    refine (impl_flags_at HR.out A1 N1 cap1 AP NP capP _ K1.out.here.1.1.2 K1.out.here.1.2).mono ?_
    rintro e w2 ⟨A2, N2, cap2, rfl, hown, hb⟩
    have hN2 : N2 ≤ 14 := by have := hown.len.1; omega
    have HNL2 := Lib.hid hown.len.1
    obtain ⟨D2, hD2⟩ : ∃ D, w2.heap.size = D := ⟨_, rfl⟩
    have K2 := Lib.hid ((((K1.out.move hb).and (MIn.of hown (by omega)).keep).alloc (.cells #[.int .i64 n2, .slice A2 N2 cap2] 25)).and (kp_one w2 25 #[.int .i64 n2, .slice A2 N2 cap2] hD2))
    clear hb hown
    clear zD10 zD11
    have zD10 := K2.out.here.1.1.2.2.1.cell 0
    have zD11 := K2.out.here.1.1.2.2.1.cell 1
    have zD20 := K2.out.here.2.2.1.cell 0
    have zD21 := K2.out.here.2.2.1.cell 1
    simp at zD10 zD11 zD20 zD21
    go_wp2_with fail
    refine (spec_flags_at HR.out A1 N1 cap1 AP NP capP _ K2.out.here.1.1.1.1.2 K2.out.here.1.1.1.2).mono ?_
    rintro e w3 ⟨A3, N3, cap3, rfl, hown, hb⟩
    have hN3 : N3 ≤ 14 := by have := hown.len.1; omega
    obtain ⟨D3, hD3⟩ : ∃ D, w3.heap.size = D := ⟨_, rfl⟩
    have K3 := Lib.hid ((((K2.out.move hb).and (MIn.of hown (by omega)).keep).alloc (.cells #[.int .i64 n2, .slice A3 N3 cap3] 25)).and (kp_one w3 25 #[.int .i64 n2, .slice A3 N3 cap3] hD3))
    clear hb hown
    clear zD10 zD11 zD20 zD21
    have zD10 := K3.out.here.1.1.1.1.2.2.1.cell 0
    have zD11 := K3.out.here.1.1.1.1.2.2.1.cell 1
    have zD20 := K3.out.here.1.1.2.2.1.cell 0
    have zD21 := K3.out.here.1.1.2.2.1.cell 1
    have zD30 := K3.out.here.2.2.1.cell 0
    have zD31 := K3.out.here.2.2.1.cell 1
    simp at zD10 zD11 zD20 zD21 zD30 zD31
    cases ok with
    | false =>
      go_wp2_with fail
      refine (same_box_at (o := true) n2 n2 _ K3.out.here.1.1.1.2 K3.out.here.1.2 (by simp)).mono ?_
      rintro e w4 ⟨rfl, hb⟩
      have K4 := Lib.hid (K3.out.move hb)
      clear hb
      clear zD10 zD11 zD20 zD21 zD30 zD31
      have zD10 := K4.out.here.1.1.1.1.2.2.1.cell 0
      have zD11 := K4.out.here.1.1.1.1.2.2.1.cell 1
      have zD20 := K4.out.here.1.1.2.2.1.cell 0
      have zD21 := K4.out.here.1.1.2.2.1.cell 1
      have zD30 := K4.out.here.2.2.1.cell 0
      have zD31 := K4.out.here.2.2.1.cell 1
      simp at zD10 zD11 zD20 zD21 zD30 zD31
      go_wp2_with fail
      refine (same_box_at (o := true) n2 n2 _ K4.out.here.1.1.1.2 K4.out.here.1.2 (by simp)).mono ?_
      rintro e w5 ⟨rfl, hb⟩
      have K5 := Lib.hid (K4.out.move hb)
      clear hb
      clear zD10 zD11 zD20 zD21 zD30 zD31
      have zD10 := K5.out.here.1.1.1.1.2.2.1.cell 0
      have zD11 := K5.out.here.1.1.1.1.2.2.1.cell 1
      have zD20 := K5.out.here.1.1.2.2.1.cell 0
      have zD21 := K5.out.here.1.1.2.2.1.cell 1
      have zD30 := K5.out.here.2.2.1.cell 0
      have zD31 := K5.out.here.2.2.1.cell 1
      simp at zD10 zD11 zD20 zD21 zD30 zD31
      go_wp2
      go_ret
      exact ⟨rfl, K5.out.here.1.1.1.1.1.1.1⟩
    | true =>
      go_wp2_with fail
      refine (same_box_at (o := true) n2 n2 _ K3.out.here.1.1.1.2 K3.out.here.1.2 (by simp)).mono ?_
      rintro e w4 ⟨rfl, hb⟩
      have K4 := Lib.hid (K3.out.move hb)
      clear hb
      clear zD10 zD11 zD20 zD21 zD30 zD31
      have zD10 := K4.out.here.1.1.1.1.2.2.1.cell 0
      have zD11 := K4.out.here.1.1.1.1.2.2.1.cell 1
      have zD20 := K4.out.here.1.1.2.2.1.cell 0
      have zD21 := K4.out.here.1.1.2.2.1.cell 1
      have zD30 := K4.out.here.2.2.1.cell 0
      have zD31 := K4.out.here.2.2.1.cell 1
      simp at zD10 zD11 zD20 zD21 zD30 zD31
      have HR2 := Lib.hid (bxFl_twice HR.out)
      go_wp2_with fail
      refine (impl_flags_at HR2.out A2 N2 cap2 AP NP capP _ K4.out.here.1.1.1.2 K4.out.here.1.1.1.1.1.2).mono ?_
      rintro e w5 ⟨A4, N4, cap4, rfl, hown, hb⟩
      have hN4 : N4 ≤ 14 := by have := hown.len.1; omega
      obtain ⟨D4, hD4⟩ : ∃ D, w5.heap.size = D := ⟨_, rfl⟩
      have K5 := Lib.hid ((((K4.out.move hb).and (MIn.of hown (by omega)).keep).alloc (.cells #[.int .i64 n2, .slice A4 N4 cap4] 25)).and (kp_one w5 25 #[.int .i64 n2, .slice A4 N4 cap4] hD4))
      clear hb hown
      clear zD10 zD11 zD20 zD21 zD30 zD31
      have zD10 := K5.out.here.1.1.1.1.1.1.2.2.1.cell 0
      have zD11 := K5.out.here.1.1.1.1.1.1.2.2.1.cell 1
      have zD20 := K5.out.here.1.1.1.1.2.2.1.cell 0
      have zD21 := K5.out.here.1.1.1.1.2.2.1.cell 1
      have zD30 := K5.out.here.1.1.2.2.1.cell 0
      have zD31 := K5.out.here.1.1.2.2.1.cell 1
      have zD40 := K5.out.here.2.2.1.cell 0
      have zD41 := K5.out.here.2.2.1.cell 1
      simp at zD10 zD11 zD20 zD21 zD30 zD31 zD40 zD41
      go_wp2_with fail
      refine (same_box_at (o := true) n2 n2 _ K5.out.here.1.2 K5.out.here.1.1.1.1.1.2 (by simp)).mono ?_
      rintro e w6 ⟨rfl, hb⟩
      have K6 := Lib.hid (K5.out.move hb)
      clear hb
      clear zD10 zD11 zD20 zD21 zD30 zD31 zD40 zD41
      have zD10 := K6.out.here.1.1.1.1.1.1.2.2.1.cell 0
      have zD11 := K6.out.here.1.1.1.1.1.1.2.2.1.cell 1
      have zD20 := K6.out.here.1.1.1.1.2.2.1.cell 0
      have zD21 := K6.out.here.1.1.1.1.2.2.1.cell 1
      have zD30 := K6.out.here.1.1.2.2.1.cell 0
      have zD31 := K6.out.here.1.1.2.2.1.cell 1
      have zD40 := K6.out.here.2.2.1.cell 0
      have zD41 := K6.out.here.2.2.1.cell 1
      simp at zD10 zD11 zD20 zD21 zD30 zD31 zD40 zD41
      go_wp2
      go_ret
      exact ⟨rfl, K6.out.here.1.1.1.1.1.1.1.1.1⟩
  · have hl' : (1048576 : Int) < (len : Int) := by omega
    go_enter Try.func10, Try.ntmps10
    go_wp2
    go_ret
    exact ⟨rfl, Below.refl _ _⟩

set_option maxRecDepth 20000 in
set_option maxHeartbeats 4000000 in
theorem law_FnExpungeTwice (A : Option Addr) (len cap : Nat) (w : World) (h : Coded w A len cap) : Calls Try.prog 14 #[.slice A len cap] w (Holds1 w) := by
  have HC := Lib.hid h
  clear h
  by_cases hl : len ≤ 1048576
  · have hl' : (len : Int) ≤ 1048576 := by omega
    go_enter Try.func14, Try.ntmps14
    go_wp2_with fail
    refine (draw_bexpunge A len cap _ HC.out).mono ?_
    rintro e w1 ⟨n, A1, N1, cap1, L, rfl, hN1, hn1, hn2, hown, hb⟩
    obtain ⟨⟨n2, L2, G⟩, hr⟩ : ∃ r, bxEI n L = r := ⟨_, rfl⟩
    have hL2 : L2.length ≤ 14 ∧ G.length ≤ 14 := by have h1 := bxEI_len hr; have h2 := hown.len.1; omega
    have HR := Lib.hid hr
    have HNL := Lib.hid hown.len.1
    clear hr
    obtain ⟨D1, hD1⟩ : ∃ D, w1.heap.size = D := ⟨_, rfl⟩
    have K1 := Lib.hid (((((kp_start w).move hb).and (MIn.of hown (by omega)).keep).alloc (.cells #[.int .i64 n, .slice A1 N1 cap1] 25)).and (kp_one w1 25 #[.int .i64 n, .slice A1 N1 cap1] hD1))
    clear hb hown
    have zD10 := K1.out.here.2.2.1.cell 0
    have zD11 := K1.out.here.2.2.1.cell 1
    simp at zD10 zD11
    go_wp2_with fail
    refine (impl_expunge_at HR.out A1 N1 cap1 _ K1.out.here.1.2).mono ?_
    rintro e w2 ⟨A2, N2, cap2, AG, NG, capG, rfl, hown, hownI, hb⟩
    have hN2 : N2 ≤ 14 := by have := hown.len.1; omega
    have hNG : NG ≤ 14 := by have := hownI.len.1; omega
    have HNL2 := Lib.hid hown.len.1
    have HNG := Lib.hid hownI.len.1
    obtain ⟨D2, hD2⟩ : ∃ D, w2.heap.size = D := ⟨_, rfl⟩
    have K2 := Lib.hid (((((K1.out.move hb).and (MIn.of hown (by omega)).keep).and (IIn.of hownI (by omega)).keep).alloc (.cells #[.int .i64 n2, .slice A2 N2 cap2] 25)).and (kp_one w2 25 #[.int .i64 n2, .slice A2 N2 cap2] hD2))
    clear hb hown hownI
    clear zD10 zD11
    have zD10 := K2.out.here.1.1.1.2.2.1.cell 0
    have zD11 := K2.out.here.1.1.1.2.2.1.cell 1
    have zD20 := K2.out.here.2.2.1.cell 0
    have zD21 := K2.out.here.2.2.1.cell 1
    simp at zD10 zD11 zD20 zD21
    go_wp2_with fail
    refine (spec_expunge_at HR.out A1 N1 cap1 _ K2.out.here.1.1.1.1.2).mono ?_
    rintro e w3 ⟨A3, N3, cap3, AH, NH, capH, rfl, hown, hownI, hb⟩
    have hN3 : N3 ≤ 14 := by have := hown.len.1; omega
    have hNH : NH ≤ 14 := by have := hownI.len.1; omega
    obtain ⟨D3, hD3⟩ : ∃ D, w3.heap.size = D := ⟨_, rfl⟩
    have K3 := Lib.hid (((((K2.out.move hb).and (MIn.of hown (by omega)).keep).and (IIn.of hownI (by omega)).keep).alloc (.cells #[.int .i64 n2, .slice A3 N3 cap3] 25)).and (kp_one w3 25 #[.int .i64 n2, .slice A3 N3 cap3] hD3))
    clear hb hown hownI
    clear zD10 zD11 zD20 zD21
    have zD10 := K3.out.here.1.1.1.1.1.1.2.2.1.cell 0
    have zD11 := K3.out.here.1.1.1.1.1.1.2.2.1.cell 1
    have zD20 := K3.out.here.1.1.1.2.2.1.cell 0
    have zD21 := K3.out.here.1.1.1.2.2.1.cell 1
    have zD30 := K3.out.here.2.2.1.cell 0
    have zD31 := K3.out.here.2.2.1.cell 1
    simp at zD10 zD11 zD20 zD21 zD30 zD31
    go_wp2_with fail
    refine (same_box_at (o := true) n2 n2 _ K3.out.here.1.1.1.1.1.2 K3.out.here.1.1.2 (by simp)).mono ?_
    rintro e w4 ⟨rfl, hb⟩
    have K4 := Lib.hid (K3.out.move hb)
    clear hb
    clear zD10 zD11 zD20 zD21 zD30 zD31
    have zD10 := K4.out.here.1.1.1.1.1.1.2.2.1.cell 0
    have zD11 := K4.out.here.1.1.1.1.1.1.2.2.1.cell 1
    have zD20 := K4.out.here.1.1.1.2.2.1.cell 0
    have zD21 := K4.out.here.1.1.1.2.2.1.cell 1
    have zD30 := K4.out.here.2.2.1.cell 0
    have zD31 := K4.out.here.2.2.1.cell 1
    simp at zD10 zD11 zD20 zD21 zD30 zD31
    go_wp2_with fail
    refine (same_nums_at (o := true) _ K4.out.here.1.1.1.1.2 K4.out.here.1.2 (by simp)).mono ?_
    rintro e w5 ⟨rfl, hb⟩
    have K5 := Lib.hid (K4.out.move hb)
    clear hb
    clear zD10 zD11 zD20 zD21 zD30 zD31
    have zD10 := K5.out.here.1.1.1.1.1.1.2.2.1.cell 0
    have zD11 := K5.out.here.1.1.1.1.1.1.2.2.1.cell 1
    have zD20 := K5.out.here.1.1.1.2.2.1.cell 0
    have zD21 := K5.out.here.1.1.1.2.2.1.cell 1
    have zD30 := K5.out.here.2.2.1.cell 0
    have zD31 := K5.out.here.2.2.1.cell 1
    simp at zD10 zD11 zD20 zD21 zD30 zD31
    obtain ⟨bv, hbv⟩ : ∃ b, bOk n L = b := ⟨_, rfl⟩
    go_wp2_with fail
    refine (boxvalid_at hbv A1 N1 cap1 _ K5.out.here.1.1.1.1.1.1.1.2).mono ?_
    rintro e w6 ⟨rfl, hb⟩
    have K6 := Lib.hid (K5.out.move hb)
    clear hb
    clear zD10 zD11 zD20 zD21 zD30 zD31
    have zD10 := K6.out.here.1.1.1.1.1.1.2.2.1.cell 0
    have zD11 := K6.out.here.1.1.1.1.1.1.2.2.1.cell 1
    have zD20 := K6.out.here.1.1.1.2.2.1.cell 0
    have zD21 := K6.out.here.1.1.1.2.2.1.cell 1
    have zD30 := K6.out.here.2.2.1.cell 0
    have zD31 := K6.out.here.2.2.1.cell 1
    simp at zD10 zD11 zD20 zD21 zD30 zD31
    have HBV := Lib.hid hbv
    clear hbv
    cases bv with
    | false =>
      go_wp2_with fail
      refine (same_box_at (o := true) n2 n2 _ K6.out.here.1.1.1.1.1.2 K6.out.here.1.1.2 (by simp)).mono ?_
      rintro e w7 ⟨rfl, hb⟩
      have K7 := Lib.hid (K6.out.move hb)
      clear hb
      clear zD10 zD11 zD20 zD21 zD30 zD31
      have zD10 := K7.out.here.1.1.1.1.1.1.2.2.1.cell 0
      have zD11 := K7.out.here.1.1.1.1.1.1.2.2.1.cell 1
      have zD20 := K7.out.here.1.1.1.2.2.1.cell 0
      have zD21 := K7.out.here.1.1.1.2.2.1.cell 1
      have zD30 := K7.out.here.2.2.1.cell 0
      have zD31 := K7.out.here.2.2.1.cell 1
      simp at zD10 zD11 zD20 zD21 zD30 zD31
      go_wp2_with fail
      refine (same_nums_at (o := true) _ K7.out.here.1.1.1.1.2 K7.out.here.1.2 (by simp)).mono ?_
      rintro e w8 ⟨rfl, hb⟩
      have K8 := Lib.hid (K7.out.move hb)
      clear hb
      clear zD10 zD11 zD20 zD21 zD30 zD31
      have zD10 := K8.out.here.1.1.1.1.1.1.2.2.1.cell 0
      have zD11 := K8.out.here.1.1.1.1.1.1.2.2.1.cell 1
      have zD20 := K8.out.here.1.1.1.2.2.1.cell 0
      have zD21 := K8.out.here.1.1.1.2.2.1.cell 1
      have zD30 := K8.out.here.2.2.1.cell 0
      have zD31 := K8.out.here.2.2.1.cell 1
      simp at zD10 zD11 zD20 zD21 zD30 zD31
      go_wp2
      go_ret
      exact ⟨rfl, K8.out.here.1.1.1.1.1.1.1.1⟩
    | true =>
      obtain ⟨hv2, hr2⟩ := bxEI_again HR.out HBV.out
      have HV2 := Lib.hid hv2
      have HR2 := Lib.hid hr2
      clear hv2 hr2
      go_wp2_with fail
      refine (impl_expunge_at HR2.out A2 N2 cap2 _ K6.out.here.1.1.1.1.1.2).mono ?_
      rintro e w7 ⟨A4, N4, cap4, AK, NK, capK, rfl, hown, hownI, hb⟩
      have hN4 : N4 ≤ 14 := by have := hown.len.1; omega
      obtain rfl : NK = 0 := hownI.len.1
      have hownI0 := hownI.len.1
      obtain ⟨D4, hD4⟩ : ∃ D, w7.heap.size = D := ⟨_, rfl⟩
      have K7 := Lib.hid ((((K6.out.move hb).and (MIn.of hown (by omega)).keep).alloc (.cells #[.int .i64 n2, .slice A4 N4 cap4] 25)).and (kp_one w7 25 #[.int .i64 n2, .slice A4 N4 cap4] hD4))
      clear hb hown hownI hownI0
      clear zD10 zD11 zD20 zD21 zD30 zD31
      have zD10 := K7.out.here.1.1.1.1.1.1.1.1.2.2.1.cell 0
      have zD11 := K7.out.here.1.1.1.1.1.1.1.1.2.2.1.cell 1
      have zD20 := K7.out.here.1.1.1.1.1.2.2.1.cell 0
      have zD21 := K7.out.here.1.1.1.1.1.2.2.1.cell 1
      have zD30 := K7.out.here.1.1.2.2.1.cell 0
      have zD31 := K7.out.here.1.1.2.2.1.cell 1
      have zD40 := K7.out.here.2.2.1.cell 0
      have zD41 := K7.out.here.2.2.1.cell 1
      simp at zD10 zD11 zD20 zD21 zD30 zD31 zD40 zD41
      go_wp2_with fail
      refine (same_box_at (o := true) n2 n2 _ K7.out.here.1.2 K7.out.here.1.1.1.1.1.1.1.2 (by simp)).mono ?_
      rintro e w8 ⟨rfl, hb⟩
      have K8 := Lib.hid (K7.out.move hb)
      clear hb
      clear zD10 zD11 zD20 zD21 zD30 zD31 zD40 zD41
      have zD10 := K8.out.here.1.1.1.1.1.1.1.1.2.2.1.cell 0
      have zD11 := K8.out.here.1.1.1.1.1.1.1.1.2.2.1.cell 1
      have zD20 := K8.out.here.1.1.1.1.1.2.2.1.cell 0
      have zD21 := K8.out.here.1.1.1.1.1.2.2.1.cell 1
      have zD30 := K8.out.here.1.1.2.2.1.cell 0
      have zD31 := K8.out.here.1.1.2.2.1.cell 1
      have zD40 := K8.out.here.2.2.1.cell 0
      have zD41 := K8.out.here.2.2.1.cell 1
      simp at zD10 zD11 zD20 zD21 zD30 zD31 zD40 zD41
      go_wp2_with fail
      refine (implvalid_at HV2.out A2 N2 cap2 _ K8.out.here.1.1.1.1.1.1.1.2).mono ?_
      rintro e w9 ⟨rfl, hb⟩
      have K9 := Lib.hid (K8.out.move hb)
      clear hb
      clear zD10 zD11 zD20 zD21 zD30 zD31 zD40 zD41
      have zD10 := K9.out.here.1.1.1.1.1.1.1.1.2.2.1.cell 0
      have zD11 := K9.out.here.1.1.1.1.1.1.1.1.2.2.1.cell 1
      have zD20 := K9.out.here.1.1.1.1.1.2.2.1.cell 0
      have zD21 := K9.out.here.1.1.1.1.1.2.2.1.cell 1
      have zD30 := K9.out.here.1.1.2.2.1.cell 0
      have zD31 := K9.out.here.1.1.2.2.1.cell 1
      have zD40 := K9.out.here.2.2.1.cell 0
      have zD41 := K9.out.here.2.2.1.cell 1
      simp at zD10 zD11 zD20 zD21 zD30 zD31 zD40 zD41
      go_wp2
      go_ret
      exact ⟨rfl, K9.out.here.1.1.1.1.1.1.1.1.1.1⟩
  · have hl' : (1048576 : Int) < (len : Int) := by omega
    go_enter Try.func14, Try.ntmps14
    go_wp2
    go_ret
    exact ⟨rfl, Below.refl _ _⟩
end Go.Proofs.Ytiidlkbfjhgbaaa
