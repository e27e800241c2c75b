/-
  The walks of the laws FnAppendFull. Condition: the code can be read.
-/
import Derived.Test.YtiidlkbfjhgbaaaLm
import Derived.Outline
namespace Go.Proofs.Ytiidlkbfjhgbaaa
open Go.RowKit
set_option linter.unusedVariables false

set_option maxRecDepth 20000 in
set_option maxHeartbeats 4000000 in
theorem law_FnAppendFull (A : Option Addr) (len cap : Nat) (w : World) (h : Coded w A len cap) : Calls Try.prog 5 #[.slice A len cap] w (Holds1 w) := by
  have HC := Lib.hid h
  clear h
  by_cases hl : len ≤ 1048576
  · have hl' : (len : Int) ≤ 1048576 := by omega
    go_enter Try.func5, Try.ntmps5
    go_wp2_with fail
    refine (draw_bappend A len cap _ HC.out).mono ?_
    rintro e w1 ⟨n, A1, N1, cap1, L, f, t, rfl, hN1, hn1, hn2, ht, hown, hb⟩
    obtain ⟨v, hv⟩ : ∃ v, sB t = v := ⟨_, rfl⟩
    have hvs : v.size ≤ 30 := by rw [← hv, sB_size]; exact ht
    have HV := Lib.hid hv
    rw [hv]
    obtain ⟨⟨n2, L2, ok⟩, hr⟩ : ∃ r, bxAp n L f t = r := ⟨_, rfl⟩
    have hL2 : L2.length ≤ 15 := by have h1 := bxAp_len hr; have h2 := hown.len.1; omega
    have HR := Lib.hid hr
    have HNL := Lib.hid hown.len.1
    clear hv hr
    obtain ⟨D1, hD1⟩ : ∃ D, w1.heap.size = D := ⟨_, rfl⟩
    have K1 := Lib.hid (((((kp_start w).move hb).and (MIn.of hown (by omega)).keep).alloc (.cells #[.int .i64 n, .slice A1 N1 cap1] 25)).and (kp_one w1 25 #[.int .i64 n, .slice A1 N1 cap1] hD1))
    clear hb hown
    have zD10 := K1.out.here.2.2.1.cell 0
    have zD11 := K1.out.here.2.2.1.cell 1
    simp at zD10 zD11
    go_wp2_with fail
    refine (impl_append_at HV.out HR.out A1 N1 cap1 _ K1.out.here.1.2).mono ?_
    rintro e w2 ⟨A2, N2, cap2, rfl, hown, hb⟩
    have hN2 : N2 ≤ 15 := by have := hown.len.1; omega
    have HNL2 := Lib.hid hown.len.1
    have hcap2 : N2 ≤ cap2 := hown.len.2.1
    obtain ⟨D2, hD2⟩ : ∃ D, w2.heap.size = D := ⟨_, rfl⟩
    have K2 := Lib.hid ((((K1.out.move hb).and (MIn.of hown (by omega)).keep).alloc (.cells #[.int .i64 n2, .slice A2 N2 cap2] 25)).and (kp_one w2 25 #[.int .i64 n2, .slice A2 N2 cap2] hD2))
    clear hb hown
    clear zD10 zD11
    have zD10 := K2.out.here.1.1.2.2.1.cell 0
    have zD11 := K2.out.here.1.1.2.2.1.cell 1
    have zD20 := K2.out.here.2.2.1.cell 0
    have zD21 := K2.out.here.2.2.1.cell 1
    simp at zD10 zD11 zD20 zD21
    go_wp2_with fail
    refine (spec_append_at HV.out HR.out A1 N1 cap1 _ K2.out.here.1.1.1.2).mono ?_
    rintro e w3 ⟨A3, N3, cap3, rfl, hown, hb⟩
    have hN3 : N3 ≤ 15 := by have := hown.len.1; omega
    obtain ⟨D3, hD3⟩ : ∃ D, w3.heap.size = D := ⟨_, rfl⟩
    have K3 := Lib.hid ((((K2.out.move hb).and (MIn.of hown (by omega)).keep).alloc (.cells #[.int .i64 n2, .slice A3 N3 cap3] 25)).and (kp_one w3 25 #[.int .i64 n2, .slice A3 N3 cap3] hD3))
    clear hb hown
    clear zD10 zD11 zD20 zD21
    have zD10 := K3.out.here.1.1.1.1.2.2.1.cell 0
    have zD11 := K3.out.here.1.1.1.1.2.2.1.cell 1
    have zD20 := K3.out.here.1.1.2.2.1.cell 0
    have zD21 := K3.out.here.1.1.2.2.1.cell 1
    have zD30 := K3.out.here.2.2.1.cell 0
    have zD31 := K3.out.here.2.2.1.cell 1
    simp at zD10 zD11 zD20 zD21 zD30 zD31
    cases ok with
    | false =>
      go_wp2_with fail
      refine (same_box_at (o := true) n2 n2 _ K3.out.here.1.1.1.2 K3.out.here.1.2 (by simp)).mono ?_
      rintro e w4 ⟨rfl, hb⟩
      have K4 := Lib.hid (K3.out.move hb)
      clear hb
      clear zD10 zD11 zD20 zD21 zD30 zD31
      have zD10 := K4.out.here.1.1.1.1.2.2.1.cell 0
      have zD11 := K4.out.here.1.1.1.1.2.2.1.cell 1
      have zD20 := K4.out.here.1.1.2.2.1.cell 0
      have zD21 := K4.out.here.1.1.2.2.1.cell 1
      have zD30 := K4.out.here.2.2.1.cell 0
      have zD31 := K4.out.here.2.2.1.cell 1
      simp at zD10 zD11 zD20 zD21 zD30 zD31
      obtain ⟨bv, hbv⟩ : ∃ b, bOk n L = b := ⟨_, rfl⟩
      go_wp2_with fail
      refine (boxvalid_at hbv A1 N1 cap1 _ K4.out.here.1.1.1.1.1.2).mono ?_
      rintro e w5 ⟨rfl, hb⟩
      have K5 := Lib.hid (K4.out.move hb)
      clear hb
      clear zD10 zD11 zD20 zD21 zD30 zD31
      have zD10 := K5.out.here.1.1.1.1.2.2.1.cell 0
      have zD11 := K5.out.here.1.1.1.1.2.2.1.cell 1
      have zD20 := K5.out.here.1.1.2.2.1.cell 0
      have zD21 := K5.out.here.1.1.2.2.1.cell 1
      have zD30 := K5.out.here.2.2.1.cell 0
      have zD31 := K5.out.here.2.2.1.cell 1
      simp at zD10 zD11 zD20 zD21 zD30 zD31
      have HBV := Lib.hid hbv
      clear hbv
      cases bv with
      | false =>
        go_wp2_with fail
        refine (same_box_at (o := true) n2 n2 _ K5.out.here.1.1.1.2 K5.out.here.1.2 (by simp)).mono ?_
        rintro e w6 ⟨rfl, hb⟩
        have K6 := Lib.hid (K5.out.move hb)
        clear hb
        clear zD10 zD11 zD20 zD21 zD30 zD31
        have zD10 := K6.out.here.1.1.1.1.2.2.1.cell 0
        have zD11 := K6.out.here.1.1.1.1.2.2.1.cell 1
        have zD20 := K6.out.here.1.1.2.2.1.cell 0
        have zD21 := K6.out.here.1.1.2.2.1.cell 1
        have zD30 := K6.out.here.2.2.1.cell 0
        have zD31 := K6.out.here.2.2.1.cell 1
        simp at zD10 zD11 zD20 zD21 zD30 zD31
        go_wp2
        go_ret
        exact ⟨rfl, K6.out.here.1.1.1.1.1.1⟩
      | true =>
        by_cases h20 : (v.size : Int) ≤ 20
        · have h20' : t.length ≤ 20 := by have := HV.out; have h3 := sB_size t; rw [this] at h3; omega
          have H20 := Lib.hid h20'
          clear h20'
          cases hf : isF f with
          | false =>
            have HF := Lib.hid hf
            clear hf
            go_wp2_with fail
            refine (spec_ftext_no f _ HF.out).mono ?_
            rintro e w6 ⟨rfl, hb⟩
            have K6 := Lib.hid (K5.out.move hb)
            clear hb
            rw [show sB [] = (⟨#[]⟩ : ByteArray) from rfl]
            clear zD10 zD11 zD20 zD21 zD30 zD31
            have zD10 := K6.out.here.1.1.1.1.2.2.1.cell 0
            have zD11 := K6.out.here.1.1.1.1.2.2.1.cell 1
            have zD20 := K6.out.here.1.1.2.2.1.cell 0
            have zD21 := K6.out.here.1.1.2.2.1.cell 1
            have zD30 := K6.out.here.2.2.1.cell 0
            have zD31 := K6.out.here.2.2.1.cell 1
            simp at zD10 zD11 zD20 zD21 zD30 zD31
            go_wp2_with fail
            refine (same_box_at (o := true) n2 n2 _ K6.out.here.1.1.1.2 K6.out.here.1.2 (by simp)).mono ?_
            rintro e w7 ⟨rfl, hb⟩
            have K7 := Lib.hid (K6.out.move hb)
            clear hb
            clear zD10 zD11 zD20 zD21 zD30 zD31
            have zD10 := K7.out.here.1.1.1.1.2.2.1.cell 0
            have zD11 := K7.out.here.1.1.1.1.2.2.1.cell 1
            have zD20 := K7.out.here.1.1.2.2.1.cell 0
            have zD21 := K7.out.here.1.1.2.2.1.cell 1
            have zD30 := K7.out.here.2.2.1.cell 0
            have zD31 := K7.out.here.2.2.1.cell 1
            simp at zD10 zD11 zD20 zD21 zD30 zD31
            go_wp2
            go_ret
            exact ⟨rfl, K7.out.here.1.1.1.1.1.1⟩
          | true =>
            obtain ⟨e1, e2, e3⟩ := bxAp_full HR.out HBV.out hf H20.out
            have HE1 := Lib.hid e1
            have HE2 := Lib.hid e2
            obtain ⟨T, hT, hT1, hT2⟩ := flags_text hf
            have HT := Lib.hid hT
            have e3' : N1 = 10 ∨ 99 < n := by rw [HNL.out]; exact e3
            clear e1 e2 e3 hT hf
            go_wp2_with fail
            refine (spec_ftext f _).mono ?_
            rintro e w6 ⟨rfl, hb⟩
            have K6 := Lib.hid (K5.out.move hb)
            clear hb
            rw [HT.out]
            clear zD10 zD11 zD20 zD21 zD30 zD31
            have zD10 := K6.out.here.1.1.1.1.2.2.1.cell 0
            have zD11 := K6.out.here.1.1.1.1.2.2.1.cell 1
            have zD20 := K6.out.here.1.1.2.2.1.cell 0
            have zD21 := K6.out.here.1.1.2.2.1.cell 1
            have zD30 := K6.out.here.2.2.1.cell 0
            have zD31 := K6.out.here.2.2.1.cell 1
            simp at zD10 zD11 zD20 zD21 zD30 zD31
            go_wp2_with fail
            refine (same_box_at (o := true) n2 n _ K6.out.here.1.1.1.2 K6.out.here.1.1.1.1.1.2 (decide_eq_true ⟨HE1.out, HE2.out⟩)).mono ?_
            rintro e w7 ⟨rfl, hb⟩
            have K7 := Lib.hid (K6.out.move hb)
            clear hb
            clear zD10 zD11 zD20 zD21 zD30 zD31
            have zD10 := K7.out.here.1.1.1.1.2.2.1.cell 0
            have zD11 := K7.out.here.1.1.1.1.2.2.1.cell 1
            have zD20 := K7.out.here.1.1.2.2.1.cell 0
            have zD21 := K7.out.here.1.1.2.2.1.cell 1
            have zD30 := K7.out.here.2.2.1.cell 0
            have zD31 := K7.out.here.2.2.1.cell 1
            simp at zD10 zD11 zD20 zD21 zD30 zD31
            rcases e3' with h10 | h99
            · subst h10
              go_wp2
              go_ret
              exact ⟨rfl, K7.out.here.1.1.1.1.1.1⟩
            · have h99' : ¬ n ≤ 99 := by omega
              by_cases h10 : N1 = 10
              · subst h10
                go_wp2
                go_ret
                exact ⟨rfl, K7.out.here.1.1.1.1.1.1⟩
              · have h10' : ((N1 : Int) == 10) = false := beq_eq_false_iff_ne.2 (by omega)
                go_wp2
                go_ret
                exact ⟨rfl, K7.out.here.1.1.1.1.1.1⟩
        · have h20' : (20 : Int) < (v.size : Int) := by omega
          go_wp2_with fail
          refine (same_box_at (o := true) n2 n2 _ K5.out.here.1.1.1.2 K5.out.here.1.2 (by simp)).mono ?_
          rintro e w6 ⟨rfl, hb⟩
          have K6 := Lib.hid (K5.out.move hb)
          clear hb
          clear zD10 zD11 zD20 zD21 zD30 zD31
          have zD10 := K6.out.here.1.1.1.1.2.2.1.cell 0
          have zD11 := K6.out.here.1.1.1.1.2.2.1.cell 1
          have zD20 := K6.out.here.1.1.2.2.1.cell 0
          have zD21 := K6.out.here.1.1.2.2.1.cell 1
          have zD30 := K6.out.here.2.2.1.cell 0
          have zD31 := K6.out.here.2.2.1.cell 1
          simp at zD10 zD11 zD20 zD21 zD30 zD31
          go_wp2
          go_ret
          exact ⟨rfl, K6.out.here.1.1.1.1.1.1⟩
    | true =>
      go_wp2_with fail
      refine (same_box_at (o := true) n2 n2 _ K3.out.here.1.1.1.2 K3.out.here.1.2 (by simp)).mono ?_
      rintro e w4 ⟨rfl, hb⟩
      have K4 := Lib.hid (K3.out.move hb)
      clear hb
      clear zD10 zD11 zD20 zD21 zD30 zD31
      have zD10 := K4.out.here.1.1.1.1.2.2.1.cell 0
      have zD11 := K4.out.here.1.1.1.1.2.2.1.cell 1
      have zD20 := K4.out.here.1.1.2.2.1.cell 0
      have zD21 := K4.out.here.1.1.2.2.1.cell 1
      have zD30 := K4.out.here.2.2.1.cell 0
      have zD31 := K4.out.here.2.2.1.cell 1
      simp at zD10 zD11 zD20 zD21 zD30 zD31
      go_wp2_with fail
      refine (same_box_at (o := true) n2 n2 _ K4.out.here.1.1.1.2 K4.out.here.1.2 (by simp)).mono ?_
      rintro e w5 ⟨rfl, hb⟩
      have K5 := Lib.hid (K4.out.move hb)
      clear hb
      clear zD10 zD11 zD20 zD21 zD30 zD31
      have zD10 := K5.out.here.1.1.1.1.2.2.1.cell 0
      have zD11 := K5.out.here.1.1.1.1.2.2.1.cell 1
      have zD20 := K5.out.here.1.1.2.2.1.cell 0
      have zD21 := K5.out.here.1.1.2.2.1.cell 1
      have zD30 := K5.out.here.2.2.1.cell 0
      have zD31 := K5.out.here.2.2.1.cell 1
      simp at zD10 zD11 zD20 zD21 zD30 zD31
      go_wp2
      go_ret
      exact ⟨rfl, K5.out.here.1.1.1.1.1.1⟩
  · have hl' : (1048576 : Int) < (len : Int) := by omega
    go_enter Try.func5, Try.ntmps5
    go_wp2
    go_ret
    exact ⟨rfl, Below.refl _ _⟩
end Go.Proofs.Ytiidlkbfjhgbaaa
