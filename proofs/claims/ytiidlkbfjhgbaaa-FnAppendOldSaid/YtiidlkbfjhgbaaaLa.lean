/-
  The walks of the laws FnAppend, FnAppendOld, FnAppendFull and FnSize. Condition: the code can be read.
-/
import Derived.Test.YtiidlkbfjhgbaaaGd
import Derived.StillTailTactics
import Derived.Outline
namespace Go.Proofs.Ytiidlkbfjhgbaaa
open Go.RowKit
set_option linter.unusedVariables false

set_option maxRecDepth 20000 in
set_option maxHeartbeats 4000000 in
theorem law_FnAppendOld (A : Option Addr) (len cap : Nat) (w : World) (h : Coded w A len cap) : Calls Try.prog 4 #[.slice A len cap] w (Holds1 w) := by
  have HC := Lib.hid h
  clear h
  by_cases hl : len ≤ 1048576
  · have hl' : (len : Int) ≤ 1048576 := by omega
    go_enter Try.func4, Try.ntmps4
    go_wp2_with fail
    refine (draw_bappend A len cap _ HC.out).mono ?_
    rintro e w1 ⟨n, A1, N1, cap1, L, f, t, rfl, hN1, hn1, hn2, ht, hown, hb⟩
    obtain ⟨v, hv⟩ : ∃ v, sB t = v := ⟨_, rfl⟩
    have hvs : v.size ≤ 30 := by rw [← hv, sB_size]; exact ht
    have HV := Lib.hid hv
    rw [hv]
    obtain ⟨⟨n2, L2, ok⟩, hr⟩ : ∃ r, bxAp n L f t = r := ⟨_, rfl⟩
    have hL2 : L2.length ≤ 15 := by have h1 := bxAp_len hr; have h2 := hown.len.1; omega
    have HR := Lib.hid hr
    have HNL := Lib.hid hown.len.1
    clear hv hr
    obtain ⟨D1, hD1⟩ : ∃ D, w1.heap.size = D := ⟨_, rfl⟩
    have K1 := Lib.hid (((((kp_start w).move hb).and (MIn.of hown (by omega)).keep).alloc (.cells #[.int .i64 n, .slice A1 N1 cap1] 25)).and (kp_one w1 25 #[.int .i64 n, .slice A1 N1 cap1] hD1))
    clear hb hown
    have zD10 := K1.out.here.2.2.1.cell 0
    have zD11 := K1.out.here.2.2.1.cell 1
    simp at zD10 zD11
    go_wp2_with fail
    refine (impl_append_at HV.out HR.out A1 N1 cap1 _ K1.out.here.1.2).mono ?_
    rintro e w2 ⟨A2, N2, cap2, rfl, hown, hb⟩
    have hN2 : N2 ≤ 15 := by have := hown.len.1; omega
    have HNL2 := Lib.hid hown.len.1
    have hcap2 : N2 ≤ cap2 := hown.len.2.1
    obtain ⟨D2, hD2⟩ : ∃ D, w2.heap.size = D := ⟨_, rfl⟩
    have K2 := Lib.hid ((((K1.out.move hb).and (MIn.of hown (by omega)).keep).alloc (.cells #[.int .i64 n2, .slice A2 N2 cap2] 25)).and (kp_one w2 25 #[.int .i64 n2, .slice A2 N2 cap2] hD2))
    clear hb hown
    clear zD10 zD11
    have zD10 := K2.out.here.1.1.2.2.1.cell 0
    have zD11 := K2.out.here.1.1.2.2.1.cell 1
    have zD20 := K2.out.here.2.2.1.cell 0
    have zD21 := K2.out.here.2.2.1.cell 1
    simp at zD10 zD11 zD20 zD21
    go_wp2_with fail
    refine (spec_append_at HV.out HR.out A1 N1 cap1 _ K2.out.here.1.1.1.2).mono ?_
    rintro e w3 ⟨A3, N3, cap3, rfl, hown, hb⟩
    have hN3 : N3 ≤ 15 := by have := hown.len.1; omega
    obtain ⟨D3, hD3⟩ : ∃ D, w3.heap.size = D := ⟨_, rfl⟩
    have K3 := Lib.hid ((((K2.out.move hb).and (MIn.of hown (by omega)).keep).alloc (.cells #[.int .i64 n2, .slice A3 N3 cap3] 25)).and (kp_one w3 25 #[.int .i64 n2, .slice A3 N3 cap3] hD3))
    clear hb hown
    clear zD10 zD11 zD20 zD21
    have zD10 := K3.out.here.1.1.1.1.2.2.1.cell 0
    have zD11 := K3.out.here.1.1.1.1.2.2.1.cell 1
    have zD20 := K3.out.here.1.1.2.2.1.cell 0
    have zD21 := K3.out.here.1.1.2.2.1.cell 1
    have zD30 := K3.out.here.2.2.1.cell 0
    have zD31 := K3.out.here.2.2.1.cell 1
    simp at zD10 zD11 zD20 zD21 zD30 zD31
    cases ok with
    | false =>
      go_wp2_with fail
      refine (same_box_at (o := true) n2 n2 _ K3.out.here.1.1.1.2 K3.out.here.1.2 (by simp)).mono ?_
      rintro e w4 ⟨rfl, hb⟩
      have K4 := Lib.hid (K3.out.move hb)
      clear hb
      clear zD10 zD11 zD20 zD21 zD30 zD31
      have zD10 := K4.out.here.1.1.1.1.2.2.1.cell 0
      have zD11 := K4.out.here.1.1.1.1.2.2.1.cell 1
      have zD20 := K4.out.here.1.1.2.2.1.cell 0
      have zD21 := K4.out.here.1.1.2.2.1.cell 1
      have zD30 := K4.out.here.2.2.1.cell 0
      have zD31 := K4.out.here.2.2.1.cell 1
      simp at zD10 zD11 zD20 zD21 zD30 zD31
      go_wp2_with fail
      refine (same_box_at (o := true) n2 n2 _ K4.out.here.1.1.1.2 K4.out.here.1.2 (by simp)).mono ?_
      rintro e w5 ⟨rfl, hb⟩
      have K5 := Lib.hid (K4.out.move hb)
      clear hb
      clear zD10 zD11 zD20 zD21 zD30 zD31
      have zD10 := K5.out.here.1.1.1.1.2.2.1.cell 0
      have zD11 := K5.out.here.1.1.1.1.2.2.1.cell 1
      have zD20 := K5.out.here.1.1.2.2.1.cell 0
      have zD21 := K5.out.here.1.1.2.2.1.cell 1
      have zD30 := K5.out.here.2.2.1.cell 0
      have zD31 := K5.out.here.2.2.1.cell 1
      simp at zD10 zD11 zD20 zD21 zD30 zD31
      go_wp2
      go_ret
      exact ⟨rfl, K5.out.here.1.1.1.1.1.1⟩
    | true =>
      go_wp2_with fail
      refine (same_box_at (o := true) n2 n2 _ K3.out.here.1.1.1.2 K3.out.here.1.2 (by simp)).mono ?_
      rintro e w4 ⟨rfl, hb⟩
      have K4 := Lib.hid (K3.out.move hb)
      clear hb
      clear zD10 zD11 zD20 zD21 zD30 zD31
      have zD10 := K4.out.here.1.1.1.1.2.2.1.cell 0
      have zD11 := K4.out.here.1.1.1.1.2.2.1.cell 1
      have zD20 := K4.out.here.1.1.2.2.1.cell 0
      have zD21 := K4.out.here.1.1.2.2.1.cell 1
      have zD30 := K4.out.here.2.2.1.cell 0
      have zD31 := K4.out.here.2.2.1.cell 1
      simp at zD10 zD11 zD20 zD21 zD30 zD31
      obtain ⟨hbv, hf, htl, hl9, hn99, he⟩ := bxAp_yes (n := n) (L := L) (f := f) (t := t) (by rw [HR.out])
      rw [HR.out] at he
      cases he
      have hN21 : N2 = N1 + 1 := by rw [HNL2.out, HNL.out]; simp
      have hle : N1 ≤ N2 := by omega
      have HT : Hid ((L ++ [(n, f, t)]).take N1 = L) := by rw [HNL.out]; exact List.take_left
      clear hbv hf htl hl9 hn99
      go_wp2
      have K5 := Lib.hid K4.out.drew
      go_region_with ((go_at_call 36; refine (same_mail_at (o := true) w4.drew (K5.out.here.1.1.1.2.take hle) K5.out.here.1.1.1.1.1.2 (decide_eq_true HT.out)).mono ?_; rintro e w5 ⟨rfl, hb⟩; have K9 := Lib.hid (K5.out.move hb); clear hb))
      all_goals
        go_wp2
        go_ret
        exact ⟨rfl, K9.out.here.1.1.1.1.1.1⟩
  · have hl' : (1048576 : Int) < (len : Int) := by omega
    go_enter Try.func4, Try.ntmps4
    go_wp2
    go_ret
    exact ⟨rfl, Below.refl _ _⟩
end Go.Proofs.Ytiidlkbfjhgbaaa
