/-
  The walks of the laws FnCopyFull. Condition: the code can be read.
-/
import Derived.Test.YtiidlkbfjhgbaaaLm
import Derived.Outline
namespace Go.Proofs.Ytiidlkbfjhgbaaa
open Go.RowKit
set_option linter.unusedVariables false

set_option maxRecDepth 20000 in
set_option maxHeartbeats 8000000 in
theorem law_FnCopyFull (A : Option Addr) (len cap : Nat) (w : World) (h : Coded w A len cap) : Calls Try.prog 18 #[.slice A len cap] w (Holds1 w) := by
  have HC := Lib.hid h
  clear h
  by_cases hl : len ≤ 1048576
  · have hl' : (len : Int) ≤ 1048576 := by omega
    go_enter Try.func18, Try.ntmps18
    go_wp2_with fail
    refine (draw_bcopy A len cap _ HC.out).mono ?_
    rintro e w1 ⟨n, A1, N1, cap1, L, AP, NP, capP, P, m, A9, N9, cap9, M, rfl, hN1, hNP, hN9, hn1, hn2, hm1, hm2, hown, hownI, hownM, hb⟩
    obtain ⟨⟨n2, L2, ok⟩, hr⟩ : ∃ r, bxCp n L P m M = r := ⟨_, rfl⟩
    have hL2 : L2.length ≤ 29 := by have h1 := bxCp_len hr; have h2 := hownM.len.1; have h3 := hownI.len.1; omega
    have HR := Lib.hid hr
    have HNL := Lib.hid hown.len.1
    have HNP := Lib.hid hownI.len.1
    have HNM := Lib.hid hownM.len.1
    clear hr
    obtain ⟨D1, hD1⟩ : ∃ D, w1.heap.size = D := ⟨_, rfl⟩
    have K1 := Lib.hid ((((((((kp_start w).move hb).and (MIn.of hown (by omega)).keep).and (IIn.of hownI (by omega)).keep).and (MIn.of hownM (by omega)).keep).alloc (.cells #[.int .i64 n, .slice A1 N1 cap1] 25)).alloc (.cells #[.int .i64 m, .slice A9 N9 cap9] 25)).and (kp_two w1 25 25 #[.int .i64 n, .slice A1 N1 cap1] #[.int .i64 m, .slice A9 N9 cap9] hD1))
    clear hb hown hownI hownM
    have zt0 := K1.out.here.2.2.1.cell 0
    simp at zt0
    have zt1 := K1.out.here.2.2.1.cell 1
    simp at zt1
    have zu0 := K1.out.here.2.2.2.1.cell 0
    simp at zu0
    have zu1 := K1.out.here.2.2.2.1.cell 1
    simp at zu1
    go_wp2_with fail
    refine (impl_copy_at HR.out A1 N1 cap1 AP NP capP A9 N9 cap9 _ K1.out.here.1.1.1.2 K1.out.here.1.1.2 K1.out.here.1.2).mono ?_
    rintro e w2 ⟨A2, N2, cap2, rfl, hown, hb⟩
    have hN2 : N2 ≤ 29 := by have := hown.len.1; omega
    have HNL2 := Lib.hid hown.len.1
    obtain ⟨D2, hD2⟩ : ∃ D, w2.heap.size = D := ⟨_, rfl⟩
    have K2 := Lib.hid ((((K1.out.move hb).and (MIn.of hown (by omega)).keep).alloc (.cells #[.int .i64 n2, .slice A2 N2 cap2] 25)).and (kp_one w2 25 #[.int .i64 n2, .slice A2 N2 cap2] hD2))
    clear hb hown
    clear zt0 zt1 zu0 zu1
    have zD20 := K2.out.here.2.2.1.cell 0
    have zD21 := K2.out.here.2.2.1.cell 1
    simp at zD20 zD21
    have zt0 := K2.out.here.1.1.2.2.1.cell 0
    simp at zt0
    have zt1 := K2.out.here.1.1.2.2.1.cell 1
    simp at zt1
    have zu0 := K2.out.here.1.1.2.2.2.1.cell 0
    simp at zu0
    have zu1 := K2.out.here.1.1.2.2.2.1.cell 1
    simp at zu1
    go_wp2_with fail
    refine (spec_copy_at HR.out A1 N1 cap1 AP NP capP A9 N9 cap9 _ K2.out.here.1.1.1.1.1.2 K2.out.here.1.1.1.1.2 K2.out.here.1.1.1.2).mono ?_
    rintro e w3 ⟨A3, N3, cap3, rfl, hown, hb⟩
    have hN3 : N3 ≤ 29 := by have := hown.len.1; omega
    obtain ⟨D3, hD3⟩ : ∃ D, w3.heap.size = D := ⟨_, rfl⟩
    have K3 := Lib.hid ((((K2.out.move hb).and (MIn.of hown (by omega)).keep).alloc (.cells #[.int .i64 n2, .slice A3 N3 cap3] 25)).and (kp_one w3 25 #[.int .i64 n2, .slice A3 N3 cap3] hD3))
    clear hb hown
    clear zD20 zD21 zt0 zt1 zu0 zu1
    have zD20 := K3.out.here.1.1.2.2.1.cell 0
    have zD21 := K3.out.here.1.1.2.2.1.cell 1
    have zD30 := K3.out.here.2.2.1.cell 0
    have zD31 := K3.out.here.2.2.1.cell 1
    simp at zD20 zD21 zD30 zD31
    have zt0 := K3.out.here.1.1.1.1.2.2.1.cell 0
    simp at zt0
    have zt1 := K3.out.here.1.1.1.1.2.2.1.cell 1
    simp at zt1
    have zu0 := K3.out.here.1.1.1.1.2.2.2.1.cell 0
    simp at zu0
    have zu1 := K3.out.here.1.1.1.1.2.2.2.1.cell 1
    simp at zu1
    cases ok with
    | false =>
      go_wp2_with fail
      refine (same_box_at (o := true) n2 n2 _ K3.out.here.1.1.1.2 K3.out.here.1.2 (by simp)).mono ?_
      rintro e w4 ⟨rfl, hb⟩
      have K4 := Lib.hid (K3.out.move hb)
      clear hb
      clear zD20 zD21 zD30 zD31 zt0 zt1 zu0 zu1
      have zD20 := K4.out.here.1.1.2.2.1.cell 0
      have zD21 := K4.out.here.1.1.2.2.1.cell 1
      have zD30 := K4.out.here.2.2.1.cell 0
      have zD31 := K4.out.here.2.2.1.cell 1
      simp at zD20 zD21 zD30 zD31
      have zt0 := K4.out.here.1.1.1.1.2.2.1.cell 0
      simp at zt0
      have zt1 := K4.out.here.1.1.1.1.2.2.1.cell 1
      simp at zt1
      have zu0 := K4.out.here.1.1.1.1.2.2.2.1.cell 0
      simp at zu0
      have zu1 := K4.out.here.1.1.1.1.2.2.2.1.cell 1
      simp at zu1
      obtain ⟨bv, hbv⟩ : ∃ b, bOk n L = b := ⟨_, rfl⟩
      go_wp2_with fail
      refine (boxvalid_at hbv A1 N1 cap1 _ K4.out.here.1.1.1.1.1.1.1.2).mono ?_
      rintro e w5 ⟨rfl, hb⟩
      have K5 := Lib.hid (K4.out.move hb)
      clear hb
      clear zD20 zD21 zD30 zD31 zt0 zt1 zu0 zu1
      have zD20 := K5.out.here.1.1.2.2.1.cell 0
      have zD21 := K5.out.here.1.1.2.2.1.cell 1
      have zD30 := K5.out.here.2.2.1.cell 0
      have zD31 := K5.out.here.2.2.1.cell 1
      simp at zD20 zD21 zD30 zD31
      have zt0 := K5.out.here.1.1.1.1.2.2.1.cell 0
      simp at zt0
      have zt1 := K5.out.here.1.1.1.1.2.2.1.cell 1
      simp at zt1
      have zu0 := K5.out.here.1.1.1.1.2.2.2.1.cell 0
      simp at zu0
      have zu1 := K5.out.here.1.1.1.1.2.2.2.1.cell 1
      simp at zu1
      have HBV := Lib.hid hbv
      clear hbv
      cases bv with
      | false =>
        go_wp2_with fail
        refine (same_box_at (o := true) n2 n2 _ K5.out.here.1.1.1.2 K5.out.here.1.2 (by simp)).mono ?_
        rintro e w6 ⟨rfl, hb⟩
        have K6 := Lib.hid (K5.out.move hb)
        clear hb
        clear zD20 zD21 zD30 zD31 zt0 zt1 zu0 zu1
        have zD20 := K6.out.here.1.1.2.2.1.cell 0
        have zD21 := K6.out.here.1.1.2.2.1.cell 1
        have zD30 := K6.out.here.2.2.1.cell 0
        have zD31 := K6.out.here.2.2.1.cell 1
        simp at zD20 zD21 zD30 zD31
        have zt0 := K6.out.here.1.1.1.1.2.2.1.cell 0
        simp at zt0
        have zt1 := K6.out.here.1.1.1.1.2.2.1.cell 1
        simp at zt1
        have zu0 := K6.out.here.1.1.1.1.2.2.2.1.cell 0
        simp at zu0
        have zu1 := K6.out.here.1.1.1.1.2.2.2.1.cell 1
        simp at zu1
        go_wp2
        go_ret
        exact ⟨rfl, K6.out.here.1.1.1.1.1.1.1.1⟩
      | true =>
        obtain ⟨bm, hbm⟩ : ∃ b, bOk m M = b := ⟨_, rfl⟩
        go_wp2_with fail
        refine (boxvalid_at hbm A9 N9 cap9 _ K5.out.here.1.1.1.1.1.2).mono ?_
        rintro e w6 ⟨rfl, hb⟩
        have K6 := Lib.hid (K5.out.move hb)
        clear hb
        clear zD20 zD21 zD30 zD31 zt0 zt1 zu0 zu1
        have zD20 := K6.out.here.1.1.2.2.1.cell 0
        have zD21 := K6.out.here.1.1.2.2.1.cell 1
        have zD30 := K6.out.here.2.2.1.cell 0
        have zD31 := K6.out.here.2.2.1.cell 1
        simp at zD20 zD21 zD30 zD31
        have zt0 := K6.out.here.1.1.1.1.2.2.1.cell 0
        simp at zt0
        have zt1 := K6.out.here.1.1.1.1.2.2.1.cell 1
        simp at zt1
        have zu0 := K6.out.here.1.1.1.1.2.2.2.1.cell 0
        simp at zu0
        have zu1 := K6.out.here.1.1.1.1.2.2.2.1.cell 1
        simp at zu1
        have HBM := Lib.hid hbm
        clear hbm
        cases bm with
        | false =>
          go_wp2_with fail
          refine (same_box_at (o := true) n2 n2 _ K6.out.here.1.1.1.2 K6.out.here.1.2 (by simp)).mono ?_
          rintro e w7 ⟨rfl, hb⟩
          have K7 := Lib.hid (K6.out.move hb)
          clear hb
          clear zD20 zD21 zD30 zD31 zt0 zt1 zu0 zu1
          have zD20 := K7.out.here.1.1.2.2.1.cell 0
          have zD21 := K7.out.here.1.1.2.2.1.cell 1
          have zD30 := K7.out.here.2.2.1.cell 0
          have zD31 := K7.out.here.2.2.1.cell 1
          simp at zD20 zD21 zD30 zD31
          have zt0 := K7.out.here.1.1.1.1.2.2.1.cell 0
          simp at zt0
          have zt1 := K7.out.here.1.1.1.1.2.2.1.cell 1
          simp at zt1
          have zu0 := K7.out.here.1.1.1.1.2.2.2.1.cell 0
          simp at zu0
          have zu1 := K7.out.here.1.1.1.1.2.2.2.1.cell 1
          simp at zu1
          go_wp2
          go_ret
          exact ⟨rfl, K7.out.here.1.1.1.1.1.1.1.1⟩
        | true =>
          rcases bxCp_full HR.out HBV.out HBM.out with ⟨e1, e2⟩ | ⟨e1, e2, e3⟩
          · subst e1
            subst e2
            obtain rfl : N2 = 0 := HNL2.out
            go_wp2
            go_ret
            exact ⟨rfl, K6.out.here.1.1.1.1.1.1.1.1⟩
          · have HE1 := Lib.hid e1
            have HE2 := Lib.hid e2
            have hm0 := (bOk_iff.1 HBM.out).2.2.1
            have hn20 : n2 ≠ 0 := by rw [e1]; omega
            have hn2f : (n2 == 0) = false := beq_eq_false_iff_ne.2 hn20
            have e4 : 10 < N9 + NP ∨ 100 < m + (NP : Int) := by rw [HNM.out, HNP.out]; exact e3
            obtain ⟨q, hq⟩ : ∃ q, N9 + NP = q := ⟨_, rfl⟩
            obtain ⟨y, hy⟩ : ∃ y, m + (NP : Int) = y := ⟨_, rfl⟩
            have E1 : (N9 : Int) + (NP : Int) = (q : Int) := by omega
            have W1 : IntKind.i64.wrap ((N9 : Int) + (NP : Int)) = (q : Int) := (IntWalk.i64_in _ (by omega)).trans E1
            have W2 : IntKind.i64.wrap (m + (NP : Int)) = y := (IntWalk.i64_in _ (by omega)).trans hy
            rw [hq, hy] at e4
            clear e1 e2 e3 hq
            by_cases hq10 : (10 : Int) < (q : Int)
            · have hq10' : 10 < q := by omega
              by_cases hN20 : N2 = 0
              · subst hN20
                go_wp2_with fail
                refine (same_box_at (o := true) n2 m _ K6.out.here.1.1.1.2 K6.out.here.1.1.1.1.1.2 (decide_eq_true ⟨HE1.out, HE2.out⟩)).mono ?_
                rintro e w7 ⟨rfl, hb⟩
                have K7 := Lib.hid (K6.out.move hb)
                clear hb
                clear zD20 zD21 zD30 zD31 zt0 zt1 zu0 zu1
                have zD20 := K7.out.here.1.1.2.2.1.cell 0
                have zD21 := K7.out.here.1.1.2.2.1.cell 1
                have zD30 := K7.out.here.2.2.1.cell 0
                have zD31 := K7.out.here.2.2.1.cell 1
                simp at zD20 zD21 zD30 zD31
                have zt0 := K7.out.here.1.1.1.1.2.2.1.cell 0
                simp at zt0
                have zt1 := K7.out.here.1.1.1.1.2.2.1.cell 1
                simp at zt1
                have zu0 := K7.out.here.1.1.1.1.2.2.2.1.cell 0
                simp at zu0
                have zu1 := K7.out.here.1.1.1.1.2.2.2.1.cell 1
                simp at zu1
                go_wp2
                go_ret
                exact ⟨rfl, K7.out.here.1.1.1.1.1.1.1.1⟩
              · have hN20' : ((N2 : Int) == 0) = false := beq_eq_false_iff_ne.2 (by omega)
                go_wp2_with fail
                refine (same_box_at (o := true) n2 m _ K6.out.here.1.1.1.2 K6.out.here.1.1.1.1.1.2 (decide_eq_true ⟨HE1.out, HE2.out⟩)).mono ?_
                rintro e w7 ⟨rfl, hb⟩
                have K7 := Lib.hid (K6.out.move hb)
                clear hb
                clear zD20 zD21 zD30 zD31 zt0 zt1 zu0 zu1
                have zD20 := K7.out.here.1.1.2.2.1.cell 0
                have zD21 := K7.out.here.1.1.2.2.1.cell 1
                have zD30 := K7.out.here.2.2.1.cell 0
                have zD31 := K7.out.here.2.2.1.cell 1
                simp at zD20 zD21 zD30 zD31
                have zt0 := K7.out.here.1.1.1.1.2.2.1.cell 0
                simp at zt0
                have zt1 := K7.out.here.1.1.1.1.2.2.1.cell 1
                simp at zt1
                have zu0 := K7.out.here.1.1.1.1.2.2.2.1.cell 0
                simp at zu0
                have zu1 := K7.out.here.1.1.1.1.2.2.2.1.cell 1
                simp at zu1
                go_wp2
                go_ret
                exact ⟨rfl, K7.out.here.1.1.1.1.1.1.1.1⟩
            · have hy100 : (100 : Int) < y := by omega
              have hq10' : ¬ 10 < q := by omega
              by_cases hN20 : N2 = 0
              · subst hN20
                go_wp2_with fail
                refine (same_box_at (o := true) n2 m _ K6.out.here.1.1.1.2 K6.out.here.1.1.1.1.1.2 (decide_eq_true ⟨HE1.out, HE2.out⟩)).mono ?_
                rintro e w7 ⟨rfl, hb⟩
                have K7 := Lib.hid (K6.out.move hb)
                clear hb
                clear zD20 zD21 zD30 zD31 zt0 zt1 zu0 zu1
                have zD20 := K7.out.here.1.1.2.2.1.cell 0
                have zD21 := K7.out.here.1.1.2.2.1.cell 1
                have zD30 := K7.out.here.2.2.1.cell 0
                have zD31 := K7.out.here.2.2.1.cell 1
                simp at zD20 zD21 zD30 zD31
                have zt0 := K7.out.here.1.1.1.1.2.2.1.cell 0
                simp at zt0
                have zt1 := K7.out.here.1.1.1.1.2.2.1.cell 1
                simp at zt1
                have zu0 := K7.out.here.1.1.1.1.2.2.2.1.cell 0
                simp at zu0
                have zu1 := K7.out.here.1.1.1.1.2.2.2.1.cell 1
                simp at zu1
                go_wp2
                go_ret
                exact ⟨rfl, K7.out.here.1.1.1.1.1.1.1.1⟩
              · have hN20' : ((N2 : Int) == 0) = false := beq_eq_false_iff_ne.2 (by omega)
                go_wp2_with fail
                refine (same_box_at (o := true) n2 m _ K6.out.here.1.1.1.2 K6.out.here.1.1.1.1.1.2 (decide_eq_true ⟨HE1.out, HE2.out⟩)).mono ?_
                rintro e w7 ⟨rfl, hb⟩
                have K7 := Lib.hid (K6.out.move hb)
                clear hb
                clear zD20 zD21 zD30 zD31 zt0 zt1 zu0 zu1
                have zD20 := K7.out.here.1.1.2.2.1.cell 0
                have zD21 := K7.out.here.1.1.2.2.1.cell 1
                have zD30 := K7.out.here.2.2.1.cell 0
                have zD31 := K7.out.here.2.2.1.cell 1
                simp at zD20 zD21 zD30 zD31
                have zt0 := K7.out.here.1.1.1.1.2.2.1.cell 0
                simp at zt0
                have zt1 := K7.out.here.1.1.1.1.2.2.1.cell 1
                simp at zt1
                have zu0 := K7.out.here.1.1.1.1.2.2.2.1.cell 0
                simp at zu0
                have zu1 := K7.out.here.1.1.1.1.2.2.2.1.cell 1
                simp at zu1
                go_wp2
                go_ret
                exact ⟨rfl, K7.out.here.1.1.1.1.1.1.1.1⟩
    | true =>
      go_wp2_with fail
      refine (same_box_at (o := true) n2 n2 _ K3.out.here.1.1.1.2 K3.out.here.1.2 (by simp)).mono ?_
      rintro e w4 ⟨rfl, hb⟩
      have K4 := Lib.hid (K3.out.move hb)
      clear hb
      clear zD20 zD21 zD30 zD31 zt0 zt1 zu0 zu1
      have zD20 := K4.out.here.1.1.2.2.1.cell 0
      have zD21 := K4.out.here.1.1.2.2.1.cell 1
      have zD30 := K4.out.here.2.2.1.cell 0
      have zD31 := K4.out.here.2.2.1.cell 1
      simp at zD20 zD21 zD30 zD31
      have zt0 := K4.out.here.1.1.1.1.2.2.1.cell 0
      simp at zt0
      have zt1 := K4.out.here.1.1.1.1.2.2.1.cell 1
      simp at zt1
      have zu0 := K4.out.here.1.1.1.1.2.2.2.1.cell 0
      simp at zu0
      have zu1 := K4.out.here.1.1.1.1.2.2.2.1.cell 1
      simp at zu1
      go_wp2_with fail
      refine (same_box_at (o := true) n2 n2 _ K4.out.here.1.1.1.2 K4.out.here.1.2 (by simp)).mono ?_
      rintro e w5 ⟨rfl, hb⟩
      have K5 := Lib.hid (K4.out.move hb)
      clear hb
      clear zD20 zD21 zD30 zD31 zt0 zt1 zu0 zu1
      have zD20 := K5.out.here.1.1.2.2.1.cell 0
      have zD21 := K5.out.here.1.1.2.2.1.cell 1
      have zD30 := K5.out.here.2.2.1.cell 0
      have zD31 := K5.out.here.2.2.1.cell 1
      simp at zD20 zD21 zD30 zD31
      have zt0 := K5.out.here.1.1.1.1.2.2.1.cell 0
      simp at zt0
      have zt1 := K5.out.here.1.1.1.1.2.2.1.cell 1
      simp at zt1
      have zu0 := K5.out.here.1.1.1.1.2.2.2.1.cell 0
      simp at zu0
      have zu1 := K5.out.here.1.1.1.1.2.2.2.1.cell 1
      simp at zu1
      go_wp2
      go_ret
      exact ⟨rfl, K5.out.here.1.1.1.1.1.1.1.1⟩
  · have hl' : (1048576 : Int) < (len : Int) := by omega
    go_enter Try.func18, Try.ntmps18
    go_wp2
    go_ret
    exact ⟨rfl, Below.refl _ _⟩
end Go.Proofs.Ytiidlkbfjhgbaaa
