/-
  The walks of the laws FnExpungeNext. Condition: the code can be read.
-/
import Derived.Test.YtiidlkbfjhgbaaaLu
import Derived.BigQuiet
import Derived.Outline
namespace Go.Proofs.Ytiidlkbfjhgbaaa
open Go.RowKit
set_option linter.unusedVariables false

set_option maxRecDepth 20000 in
set_option maxHeartbeats 3000000 in
theorem law_FnExpungeNext (A : Option Addr) (len cap : Nat) (w : World) (h : Coded w A len cap) : Calls Try.prog 16 #[.slice A len cap] w (Holds1 w) := by
  have HC := Lib.hid h
  clear h
  by_cases hl : len ≤ 1048576
  · have hl' : (len : Int) ≤ 1048576 := by omega
    go_enter Try.func16, Try.ntmps16
    go_wp2_with fail
    refine (draw_bexpunge A len cap _ HC.out).mono ?_
    rintro e w1 ⟨n, A1, N1, cap1, L, rfl, hN1, hn1, hn2, hown, hb⟩
    obtain ⟨⟨n2, L2, G⟩, hr⟩ : ∃ r, bxEI n L = r := ⟨_, rfl⟩
    have hL2 : L2.length ≤ 14 ∧ G.length ≤ 14 := by have h1 := bxEI_len hr; have h2 := hown.len.1; omega
    have HR := Lib.hid hr
    have HNL := Lib.hid hown.len.1
    clear hr
    obtain ⟨D1, hD1⟩ : ∃ D, w1.heap.size = D := ⟨_, rfl⟩
    have K1 := Lib.hid (((((kp_start w).move hb).and (MIn.of hown (by omega)).keep).alloc (.cells #[.int .i64 n, .slice A1 N1 cap1] 25)).and (kp_one w1 25 #[.int .i64 n, .slice A1 N1 cap1] hD1))
    clear hb hown
    have zD10 := K1.out.here.2.2.1.cell 0
    have zD11 := K1.out.here.2.2.1.cell 1
    simp at zD10 zD11
    go_wp2_with fail
    refine (impl_expunge_at HR.out A1 N1 cap1 _ K1.out.here.1.2).mono ?_
    rintro e w2 ⟨A2, N2, cap2, AG, NG, capG, rfl, hown, hownI, hb⟩
    have hN2 : N2 ≤ 14 := by have := hown.len.1; omega
    have hNG : NG ≤ 14 := by have := hownI.len.1; omega
    have HNL2 := Lib.hid hown.len.1
    have HNG := Lib.hid hownI.len.1
    obtain ⟨D2, hD2⟩ : ∃ D, w2.heap.size = D := ⟨_, rfl⟩
    have K2 := Lib.hid (((((K1.out.move hb).and (MIn.of hown (by omega)).keep).and (IIn.of hownI (by omega)).keep).alloc (.cells #[.int .i64 n2, .slice A2 N2 cap2] 25)).and (kp_one w2 25 #[.int .i64 n2, .slice A2 N2 cap2] hD2))
    clear hb hown hownI
    clear zD10 zD11
    have zD10 := K2.out.here.1.1.1.2.2.1.cell 0
    have zD11 := K2.out.here.1.1.1.2.2.1.cell 1
    have zD20 := K2.out.here.2.2.1.cell 0
    have zD21 := K2.out.here.2.2.1.cell 1
    simp at zD10 zD11 zD20 zD21
    go_wp2_with fail
    refine (spec_expunge_at HR.out A1 N1 cap1 _ K2.out.here.1.1.1.1.2).mono ?_
    rintro e w3 ⟨A3, N3, cap3, AH, NH, capH, rfl, hown, hownI, hb⟩
    have hN3 : N3 ≤ 14 := by have := hown.len.1; omega
    have hNH : NH ≤ 14 := by have := hownI.len.1; omega
    obtain ⟨D3, hD3⟩ : ∃ D, w3.heap.size = D := ⟨_, rfl⟩
    have K3 := Lib.hid (((((K2.out.move hb).and (MIn.of hown (by omega)).keep).and (IIn.of hownI (by omega)).keep).alloc (.cells #[.int .i64 n2, .slice A3 N3 cap3] 25)).and (kp_one w3 25 #[.int .i64 n2, .slice A3 N3 cap3] hD3))
    clear hb hown hownI
    clear zD10 zD11 zD20 zD21
    have zD10 := K3.out.here.1.1.1.1.1.1.2.2.1.cell 0
    have zD11 := K3.out.here.1.1.1.1.1.1.2.2.1.cell 1
    have zD20 := K3.out.here.1.1.1.2.2.1.cell 0
    have zD21 := K3.out.here.1.1.1.2.2.1.cell 1
    have zD30 := K3.out.here.2.2.1.cell 0
    have zD31 := K3.out.here.2.2.1.cell 1
    simp at zD10 zD11 zD20 zD21 zD30 zD31
    go_wp2_with fail
    refine (same_box_at (o := true) n2 n2 _ K3.out.here.1.1.1.1.1.2 K3.out.here.1.1.2 (by simp)).mono ?_
    rintro e w4 ⟨rfl, hb⟩
    have K4 := Lib.hid (K3.out.move hb)
    clear hb
    clear zD10 zD11 zD20 zD21 zD30 zD31
    have zD10 := K4.out.here.1.1.1.1.1.1.2.2.1.cell 0
    have zD11 := K4.out.here.1.1.1.1.1.1.2.2.1.cell 1
    have zD20 := K4.out.here.1.1.1.2.2.1.cell 0
    have zD21 := K4.out.here.1.1.1.2.2.1.cell 1
    have zD30 := K4.out.here.2.2.1.cell 0
    have zD31 := K4.out.here.2.2.1.cell 1
    simp at zD10 zD11 zD20 zD21 zD30 zD31
    go_wp2_with fail
    refine (same_nums_at (o := true) _ K4.out.here.1.1.1.1.2 K4.out.here.1.2 (by simp)).mono ?_
    rintro e w5 ⟨rfl, hb⟩
    have K5 := Lib.hid (K4.out.move hb)
    clear hb
    clear zD10 zD11 zD20 zD21 zD30 zD31
    have zD10 := K5.out.here.1.1.1.1.1.1.2.2.1.cell 0
    have zD11 := K5.out.here.1.1.1.1.1.1.2.2.1.cell 1
    have zD20 := K5.out.here.1.1.1.2.2.1.cell 0
    have zD21 := K5.out.here.1.1.1.2.2.1.cell 1
    have zD30 := K5.out.here.2.2.1.cell 0
    have zD31 := K5.out.here.2.2.1.cell 1
    simp at zD10 zD11 zD20 zD21 zD30 zD31
    obtain ⟨bv, hbv⟩ : ∃ b, bOk n L = b := ⟨_, rfl⟩
    go_wp2_with fail
    refine (boxvalid_at hbv A1 N1 cap1 _ K5.out.here.1.1.1.1.1.1.1.2).mono ?_
    rintro e w6 ⟨rfl, hb⟩
    have K6 := Lib.hid (K5.out.move hb)
    clear hb
    clear zD10 zD11 zD20 zD21 zD30 zD31
    have zD10 := K6.out.here.1.1.1.1.1.1.2.2.1.cell 0
    have zD11 := K6.out.here.1.1.1.1.1.1.2.2.1.cell 1
    have zD20 := K6.out.here.1.1.1.2.2.1.cell 0
    have zD21 := K6.out.here.1.1.1.2.2.1.cell 1
    have zD30 := K6.out.here.2.2.1.cell 0
    have zD31 := K6.out.here.2.2.1.cell 1
    simp at zD10 zD11 zD20 zD21 zD30 zD31
    have HBV := Lib.hid hbv
    clear hbv
    cases bv with
    | false =>
      go_wp2_with fail
      refine (same_box_at (o := true) n2 n2 _ K6.out.here.1.1.1.1.1.2 K6.out.here.1.1.2 (by simp)).mono ?_
      rintro e w7 ⟨rfl, hb⟩
      have K7 := Lib.hid (K6.out.move hb)
      clear hb
      clear zD10 zD11 zD20 zD21 zD30 zD31
      have zD10 := K7.out.here.1.1.1.1.1.1.2.2.1.cell 0
      have zD11 := K7.out.here.1.1.1.1.1.1.2.2.1.cell 1
      have zD20 := K7.out.here.1.1.1.2.2.1.cell 0
      have zD21 := K7.out.here.1.1.1.2.2.1.cell 1
      have zD30 := K7.out.here.2.2.1.cell 0
      have zD31 := K7.out.here.2.2.1.cell 1
      simp at zD10 zD11 zD20 zD21 zD30 zD31
      go_wp2_with fail
      refine (same_nums_at (o := true) _ K7.out.here.1.1.1.1.2 K7.out.here.1.2 (by simp)).mono ?_
      rintro e w8 ⟨rfl, hb⟩
      have K8 := Lib.hid (K7.out.move hb)
      clear hb
      clear zD10 zD11 zD20 zD21 zD30 zD31
      have zD10 := K8.out.here.1.1.1.1.1.1.2.2.1.cell 0
      have zD11 := K8.out.here.1.1.1.1.1.1.2.2.1.cell 1
      have zD20 := K8.out.here.1.1.1.2.2.1.cell 0
      have zD21 := K8.out.here.1.1.1.2.2.1.cell 1
      have zD30 := K8.out.here.2.2.1.cell 0
      have zD31 := K8.out.here.2.2.1.cell 1
      simp at zD10 zD11 zD20 zD21 zD30 zD31
      go_wp2
      go_ret
      exact ⟨rfl, K8.out.here.1.1.1.1.1.1.1.1⟩
    | true =>
      have hre : n2 = n ∧ L2 = kpM L := by have h := HR.out; rw [bxEI_of HBV.out] at h; cases h; exact ⟨rfl, rfl⟩
      have HE1 := Lib.hid hre.1
      have hv2 : bOk n2 L2 = true := by rw [hre.1, hre.2]; exact kpM_ok HBV.out
      have HV2 := Lib.hid hv2
      clear hre hv2
      obtain ⟨⟨n3, L3, okk⟩, hr3⟩ : ∃ r, bxAp n2 L2 0 [] = r := ⟨_, rfl⟩
      have hL3 : L3.length ≤ 15 := by have h1 := bxAp_len hr3; omega
      have HR3 := Lib.hid hr3
      clear hr3
      go_wp2_with fail
      refine (impl_append_at (t := []) (v := ⟨#[]⟩) rfl HR3.out A2 N2 cap2 _ K6.out.here.1.1.1.1.1.2).mono ?_
      rintro e w7 ⟨A4, N4, cap4, rfl, hown, hb⟩
      have hN4 : N4 ≤ 15 := by have := hown.len.1; omega
      have HNL4 := Lib.hid hown.len.1
      obtain ⟨D4, hD4⟩ : ∃ D, w7.heap.size = D := ⟨_, rfl⟩
      have K7 := Lib.hid ((((K6.out.move hb).and (MIn.of hown (by omega)).keep).alloc (.cells #[.int .i64 n3, .slice A4 N4 cap4] 25)).and (kp_one w7 25 #[.int .i64 n3, .slice A4 N4 cap4] hD4))
      clear hb hown
      clear zD10 zD11 zD20 zD21 zD30 zD31
      have zD10 := K7.out.here.1.1.1.1.1.1.1.1.2.2.1.cell 0
      have zD11 := K7.out.here.1.1.1.1.1.1.1.1.2.2.1.cell 1
      have zD20 := K7.out.here.1.1.1.1.1.2.2.1.cell 0
      have zD21 := K7.out.here.1.1.1.1.1.2.2.1.cell 1
      have zD30 := K7.out.here.1.1.2.2.1.cell 0
      have zD31 := K7.out.here.1.1.2.2.1.cell 1
      have zD40 := K7.out.here.2.2.1.cell 0
      have zD41 := K7.out.here.2.2.1.cell 1
      simp at zD10 zD11 zD20 zD21 zD30 zD31 zD40 zD41
      cases okk with
      | false =>
        obtain ⟨-, -, e3⟩ := bxAp_full HR3.out HV2.out rfl (by simp)
        have e4 : N2 = 10 ∨ 99 < n := by rw [HNL2.out, ← HE1.out]; exact e3
        by_cases h99 : 99 < n
        · go_wp2
          go_ret
          exact ⟨rfl, K7.out.here.1.1.1.1.1.1.1.1.1.1⟩
        · obtain rfl : N2 = 10 := by omega
          go_wp2
          go_ret
          exact ⟨rfl, K7.out.here.1.1.1.1.1.1.1.1.1.1⟩
      | true =>
        obtain ⟨-, -, -, -, -, e3⟩ := bxAp_yes (n := n2) (L := L2) (f := 0) (t := []) (by rw [HR3.out])
        rw [HR3.out] at e3
        have hl3 : L3 = L2 ++ [(n2, 0, [])] := by cases e3; rfl
        have hx4 : L3[N2]? = some (n2, 0, []) := by rw [hl3, HNL2.out, List.getElem?_append_right (Nat.le_refl _), Nat.sub_self]; rfl
        have hN24 : N2 < N4 := by rw [HNL4.out]; exact (List.getElem?_eq_some_iff.1 hx4).1
        have HX4 := Lib.hid hx4
        clear e3 hl3 hx4
        have HBS := Lib.hid (Below.refl (w7.alloc (.cells #[.int .i64 n3, .slice A4 N4 cap4] 25)).heap.size (w7.alloc (.cells #[.int .i64 n3, .slice A4 N4 cap4] 25)))
        go_wp2
        obtain ⟨w8, hw8⟩ : ∃ w8, w7.alloc (.cells #[.int .i64 n3, .slice A4 N4 cap4] 25) = w8 := ⟨_, rfl⟩
        rw [hw8] at K7 HBS ⊢
        clear hw8
        clear zD10 zD11 zD20 zD21 zD30 zD31 zD40 zD41
        go_loopw [10] (fun i wr => ∃ k : Nat, k ≤ N1 ∧ i = .int .i64 (k : Int) ∧ Hid (Below w8.heap.size w8 wr)) (fun i _ => N1 - (intOf i).toNat)
        case atStart => exact ⟨0, Nat.zero_le _, by go_num, HBS⟩
        case round =>
          obtain ⟨k, hk, rfl, HB⟩ := hrel
          have K8 := Lib.hid (K7.out.move HB.out)
          have zD10 := K8.out.here.1.1.1.1.1.1.1.1.2.2.1.cell 0
          have zD11 := K8.out.here.1.1.1.1.1.1.1.1.2.2.1.cell 1
          have zD20 := K8.out.here.1.1.1.1.1.2.2.1.cell 0
          have zD21 := K8.out.here.1.1.1.1.1.2.2.1.cell 1
          have zD30 := K8.out.here.1.1.2.2.1.cell 0
          have zD31 := K8.out.here.1.1.2.2.1.cell 1
          have zD40 := K8.out.here.2.2.1.cell 0
          have zD41 := K8.out.here.2.2.1.cell 1
          simp at zD10 zD11 zD20 zD21 zD30 zD31 zD40 zD41
          by_cases hlt : k < N1
          · have h0 : (0 : Int) ≤ (k : Int) := by omega
            have h5 : (k : Int) < (N1 : Int) := by omega
            have i0 : (0 : Int) ≤ (N2 : Int) := by omega
            have i1 : (N2 : Int) < (N4 : Int) := by omega
            obtain ⟨⟨u, f, t⟩, hx⟩ : ∃ x, L[k]? = some x := ⟨_, List.getElem?_eq_getElem (by rw [← HNL.out]; exact hlt)⟩
            obtain ⟨b, o, hAe, hbb, d0, -, -⟩ := mail_at K8.out.here.1.1.1.1.1.1.1.1.1.2.2.2.1 hx
            have hun : ¬ n2 ≤ u := by have h1 := (bOk_get HBV.out hx).2; have h2 := HE1.out; simp only at h1; omega
            obtain ⟨b4, o4, hA4, hbb4, e0, -, -⟩ := mail_at K8.out.here.1.2.2.2.1 HX4.out
            have HX := Lib.hid hx
            clear hx
            subst hAe
            subst hA4
            go_wp2
            go_quiet (fail)
            go_wp2
            go_roundw
            case rel => exact ⟨k + 1, by omega, by go_num, Lib.hid (below_drewN' HB.out _)⟩
            case measure => simp [intOf]; omega
          · have h5 : ¬ (k : Int) < (N1 : Int) := by omega
            go_wp2
            go_ret
            exact ⟨rfl, K8.out.here.1.1.1.1.1.1.1.1.1.1⟩
  · have hl' : (1048576 : Int) < (len : Int) := by omega
    go_enter Try.func16, Try.ntmps16
    go_wp2
    go_ret
    exact ⟨rfl, Below.refl _ _⟩
end Go.Proofs.Ytiidlkbfjhgbaaa
