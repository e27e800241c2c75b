/-
  The walks of the laws FnAppend, FnAppendOld, FnAppendFull and FnSize. Condition: the code can be read.
-/
import Derived.Test.YtiidlkbfjhgbaaaGd
import Derived.StillTailTactics
import Derived.Deep.RegionHeld3
import Derived.Outline
namespace Go.Proofs.Ytiidlkbfjhgbaaa
open Go.RowKit
set_option linter.unusedVariables false

set_option maxRecDepth 20000 in
set_option maxHeartbeats 3000000 in
theorem law_FnAppend (A : Option Addr) (len cap : Nat) (w : World) (h : Coded w A len cap) : Calls Try.prog 3 #[.slice A len cap] w (Holds1 w) := by
  have HC := Lib.hid h
  clear h
  by_cases hl : len ≤ 1048576
  · have hl' : (len : Int) ≤ 1048576 := by omega
    go_enter Try.func3, Try.ntmps3
    go_wp2_with fail
    refine (draw_bappend A len cap _ HC.out).mono ?_
    rintro e w1 ⟨n, A1, N1, cap1, L, f, t, rfl, hN1, hn1, hn2, ht, hown, hb⟩
    obtain ⟨v, hv⟩ : ∃ v, sB t = v := ⟨_, rfl⟩
    have hvs : v.size ≤ 30 := by rw [← hv, sB_size]; exact ht
    have HV := Lib.hid hv
    rw [hv]
    obtain ⟨⟨n2, L2, ok⟩, hr⟩ : ∃ r, bxAp n L f t = r := ⟨_, rfl⟩
    have hL2 : L2.length ≤ 15 := by have h1 := bxAp_len hr; have h2 := hown.len.1; omega
    have HR := Lib.hid hr
    have HNL := Lib.hid hown.len.1
    clear hv hr
    obtain ⟨D1, hD1⟩ : ∃ D, w1.heap.size = D := ⟨_, rfl⟩
    have K1 := Lib.hid (((((kp_start w).move hb).and (MIn.of hown (by omega)).keep).alloc (.cells #[.int .i64 n, .slice A1 N1 cap1] 25)).and (kp_one w1 25 #[.int .i64 n, .slice A1 N1 cap1] hD1))
    clear hb hown
    have zD10 := K1.out.here.2.2.1.cell 0
    have zD11 := K1.out.here.2.2.1.cell 1
    simp at zD10 zD11
    go_wp2_with fail
    refine (impl_append_at HV.out HR.out A1 N1 cap1 _ K1.out.here.1.2).mono ?_
    rintro e w2 ⟨A2, N2, cap2, rfl, hown, hb⟩
    have hN2 : N2 ≤ 15 := by have := hown.len.1; omega
    have HNL2 := Lib.hid hown.len.1
    have hcap2 : N2 ≤ cap2 := hown.len.2.1
    obtain ⟨D2, hD2⟩ : ∃ D, w2.heap.size = D := ⟨_, rfl⟩
    have K2 := Lib.hid ((((K1.out.move hb).and (MIn.of hown (by omega)).keep).alloc (.cells #[.int .i64 n2, .slice A2 N2 cap2] 25)).and (kp_one w2 25 #[.int .i64 n2, .slice A2 N2 cap2] hD2))
    clear hb hown
    clear zD10 zD11
    have zD10 := K2.out.here.1.1.2.2.1.cell 0
    have zD11 := K2.out.here.1.1.2.2.1.cell 1
    have zD20 := K2.out.here.2.2.1.cell 0
    have zD21 := K2.out.here.2.2.1.cell 1
    simp at zD10 zD11 zD20 zD21
    go_wp2_with fail
    refine (spec_append_at HV.out HR.out A1 N1 cap1 _ K2.out.here.1.1.1.2).mono ?_
    rintro e w3 ⟨A3, N3, cap3, rfl, hown, hb⟩
    have hN3 : N3 ≤ 15 := by have := hown.len.1; omega
    obtain ⟨D3, hD3⟩ : ∃ D, w3.heap.size = D := ⟨_, rfl⟩
    have K3 := Lib.hid ((((K2.out.move hb).and (MIn.of hown (by omega)).keep).alloc (.cells #[.int .i64 n2, .slice A3 N3 cap3] 25)).and (kp_one w3 25 #[.int .i64 n2, .slice A3 N3 cap3] hD3))
    clear hb hown
    clear zD10 zD11 zD20 zD21
    have zD10 := K3.out.here.1.1.1.1.2.2.1.cell 0
    have zD11 := K3.out.here.1.1.1.1.2.2.1.cell 1
    have zD20 := K3.out.here.1.1.2.2.1.cell 0
    have zD21 := K3.out.here.1.1.2.2.1.cell 1
    have zD30 := K3.out.here.2.2.1.cell 0
    have zD31 := K3.out.here.2.2.1.cell 1
    simp at zD10 zD11 zD20 zD21 zD30 zD31
    cases ok with
    | false =>
      go_wp2_with fail
      refine (same_box_at (o := true) n2 n2 _ K3.out.here.1.1.1.2 K3.out.here.1.2 (by simp)).mono ?_
      rintro e w4 ⟨rfl, hb⟩
      have K4 := Lib.hid (K3.out.move hb)
      clear hb
      clear zD10 zD11 zD20 zD21 zD30 zD31
      have zD10 := K4.out.here.1.1.1.1.2.2.1.cell 0
      have zD11 := K4.out.here.1.1.1.1.2.2.1.cell 1
      have zD20 := K4.out.here.1.1.2.2.1.cell 0
      have zD21 := K4.out.here.1.1.2.2.1.cell 1
      have zD30 := K4.out.here.2.2.1.cell 0
      have zD31 := K4.out.here.2.2.1.cell 1
      simp at zD10 zD11 zD20 zD21 zD30 zD31
      go_wp2_with fail
      refine (same_box_at (o := true) n2 n2 _ K4.out.here.1.1.1.2 K4.out.here.1.2 (by simp)).mono ?_
      rintro e w5 ⟨rfl, hb⟩
      have K5 := Lib.hid (K4.out.move hb)
      clear hb
      clear zD10 zD11 zD20 zD21 zD30 zD31
      have zD10 := K5.out.here.1.1.1.1.2.2.1.cell 0
      have zD11 := K5.out.here.1.1.1.1.2.2.1.cell 1
      have zD20 := K5.out.here.1.1.2.2.1.cell 0
      have zD21 := K5.out.here.1.1.2.2.1.cell 1
      have zD30 := K5.out.here.2.2.1.cell 0
      have zD31 := K5.out.here.2.2.1.cell 1
      simp at zD10 zD11 zD20 zD21 zD30 zD31
      go_wp2
      go_ret
      exact ⟨rfl, K5.out.here.1.1.1.1.1.1⟩
    | true =>
      go_wp2_with fail
      refine (same_box_at (o := true) n2 n2 _ K3.out.here.1.1.1.2 K3.out.here.1.2 (by simp)).mono ?_
      rintro e w4 ⟨rfl, hb⟩
      have K4 := Lib.hid (K3.out.move hb)
      clear hb
      clear zD10 zD11 zD20 zD21 zD30 zD31
      have zD10 := K4.out.here.1.1.1.1.2.2.1.cell 0
      have zD11 := K4.out.here.1.1.1.1.2.2.1.cell 1
      have zD20 := K4.out.here.1.1.2.2.1.cell 0
      have zD21 := K4.out.here.1.1.2.2.1.cell 1
      have zD30 := K4.out.here.2.2.1.cell 0
      have zD31 := K4.out.here.2.2.1.cell 1
      simp at zD10 zD11 zD20 zD21 zD30 zD31
      obtain ⟨hbv, hf, htl, hl9, hn99, he⟩ := bxAp_yes (n := n) (L := L) (f := f) (t := t) (by rw [HR.out])
      have HV2 : Hid (bOk (n + 1) (L ++ [(n, f, t)]) = true) := app_ok hbv hf htl hl9 hn99
      have hn0 := (bOk_iff.1 hbv).2.2.1
      rw [HR.out] at he
      cases he
      have hN21 : N2 = N1 + 1 := by rw [HNL2.out, HNL.out]; simp
      have HLX : Hid ((L ++ [(n, f, t)])[N1]? = some (n, f, t)) := by rw [HNL.out]; show (L ++ [(n, f, t)])[L.length]? = _; rw [List.getElem?_append_right (Nat.le_refl _), Nat.sub_self]; rfl
      clear hbv hf htl hl9
      obtain ⟨b2, o2, hAe, hbb, d0, d1, d2⟩ := mail_at K4.out.here.1.1.1.2.2.2.1 HLX.out
      rw [HV.out] at d2
      subst hAe
      have E1 : (N1 : Int) + 1 = (N2 : Int) := by omega
      have W1 : IntKind.i64.wrap ((N1 : Int) + 1) = (N2 : Int) := (IntWalk.i64_in _ (by omega)).trans E1
      have E2 : (N2 : Int) - 1 = (N1 : Int) := by omega
      have W2 : IntKind.i64.wrap ((N2 : Int) - 1) = (N1 : Int) := (IntWalk.i64_in _ (by omega)).trans E2
      have W3 : IntKind.i64.wrap (n + 1) = n + 1 := IntWalk.i64_in _ (by omega)
      have W4 : IntKind.i64.wrap (N2 : Int) = (N2 : Int) := IntWalk.i64_in _ (by omega)
      have W5 : IntKind.i64.wrap (N1 : Int) = (N1 : Int) := IntWalk.i64_in _ (by omega)
      have i0 : (0 : Int) ≤ (N1 : Int) := by omega
      have i1 : (N1 : Int) < (N2 : Int) := by omega
      have q1 : ((N2 : Int) == (N2 : Int)) = true := by simp
      have q2 : (n + 1 == n + 1) = true := by simp
      clear hN21
      go_wp2
      have K5 := Lib.hid K4.out.drew
      have hb2s : b2 < w4.drew.heap.size := hbb
      have HBB := Lib.hid hb2s
      clear hb2s hbb
      have HD0 := Lib.hid d0
      have HD1 := Lib.hid d1
      have HD2 := Lib.hid d2
      go_region_held3 (fun w' => w'.cell? ⟨D1, 0, none⟩ = some (.int .i64 n) ∧ w'.cell? ⟨D1, 1, none⟩ = some (.slice A1 N1 cap1) ∧ w'.cell? ⟨D2, 0, none⟩ = some (.int .i64 (n + 1)) ∧ w'.cell? ⟨D2, 1, none⟩ = some (.slice (some ⟨b2, o2, none⟩) N2 cap2) ∧ w'.cell? ⟨b2, o2 + N1 * 3, none⟩ = some (.int .i64 n) ∧ w'.cell? ⟨b2, o2 + N1 * 3 + 1, none⟩ = some (.int .i64 f) ∧ w'.cell? ⟨b2, o2 + N1 * 3 + 2, none⟩ = some (.string v)) (first | exact ⟨K9.out.here.1.1.1.1.2.2.1.cell 0, K9.out.here.1.1.1.1.2.2.1.cell 1, K9.out.here.1.1.2.2.1.cell 0, K9.out.here.1.1.2.2.1.cell 1, HE0.out, HE1.out, HE2.out⟩ | exact ⟨K5.out.here.1.1.1.1.2.2.1.cell 0, K5.out.here.1.1.1.1.2.2.1.cell 1, K5.out.here.1.1.2.2.1.cell 0, K5.out.here.1.1.2.2.1.cell 1, HD0.out, HD1.out, HD2.out⟩ | go_keep) (first | (go_at_call 35; refine (implvalid_at HV2.out (some ⟨b2, o2, none⟩) N2 cap2 w4.drew K5.out.here.1.1.1.2).mono ?_; rintro e w5 ⟨rfl, hb⟩; have HE0 := Lib.hid ((hb.cell HBB.out).trans HD0.out); have HE1 := Lib.hid ((hb.cell HBB.out).trans HD1.out); have HE2 := Lib.hid ((hb.cell HBB.out).trans HD2.out); have K9 := Lib.hid (K5.out.move hb); clear hb))
      all_goals
        go_wp2
        go_ret
        exact ⟨rfl, K9.out.here.1.1.1.1.1.1⟩
  · have hl' : (1048576 : Int) < (len : Int) := by omega
    go_enter Try.func3, Try.ntmps3
    go_wp2
    go_ret
    exact ⟨rfl, Below.refl _ _⟩
end Go.Proofs.Ytiidlkbfjhgbaaa
