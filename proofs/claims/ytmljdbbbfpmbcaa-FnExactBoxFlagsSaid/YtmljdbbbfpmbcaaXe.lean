/-
  The walks of the laws FnExactBoxFlags. Condition: the code can be read.
-/
import Derived.Test.YtmljdbbbfpmbcaaEz
import Derived.Test.YtmljdbbbfpmbcaaLu
import Derived.BigQuiet
import Derived.Deep.RegionHeld3
import Derived.Outline
namespace Go.Proofs.Ytmljdbbbfpmbcaa
open Go.RowKit
set_option linter.unusedVariables false

set_option maxRecDepth 20000 in
set_option maxHeartbeats 2000000 in
theorem law_FnExactBoxFlags (n0 : Int) (A : Option Addr) (len cap : Nat) (AP : Option Addr) (lenP capP : Nat) (hw f : Int) (w : World) (h : BoxArg w A len cap) (hp : NumArg w AP lenP capP) : Calls Try.prog 10 #[.agg #[.int .i64 n0, .slice A len cap], .slice AP lenP capP, .int .i64 hw, .int .i64 f] w (Holds1 w) := by
  by_cases hlenP : lenP ≤ 1048576
  · have hs' : (lenP : Int) ≤ 1048576 := by omega
    obtain ⟨L, hA⟩ := h
    have HA := Lib.hid hA
    have HN := Lib.hid hA.1
    obtain ⟨r, hr⟩ : ∃ r, szB len L 1048576 = r := ⟨_, rfl⟩
    have hrc : r = -1 ∨ (0 ≤ r ∧ r ≤ 1048576 ∧ (len : Int) ≤ 1048576) := by
      by_cases h0 : r < 0
      · exact .inl (by rw [← hr]; exact szB_neg (by rw [hr]; exact h0))
      · have h1 := szB_le (n := len) (L := L) (left := 1048576) (by rw [hr]; omega)
        rw [hr] at h1
        exact .inr ⟨by omega, h1.2, h1.1⟩
    have HR := Lib.hid hr
    clear hA hr
    obtain ⟨P, hP⟩ := hp
    have HP := Lib.hid hP
    have HNP := Lib.hid hP.1
    clear hP
    obtain ⟨⟨n2, L2, ok⟩, hr⟩ : ∃ r, bxFl n0 L P hw f = r := ⟨_, rfl⟩
    have hl2 := bxFl_len hr
    have HRR := Lib.hid hr
    have hoo : (ok != ok) = false := by simp
    clear hr
    rcases hrc with rfl | ⟨hr0, hr1, hlen0⟩
    · obtain ⟨Da, hDa⟩ : ∃ D, w.heap.size = D := ⟨_, rfl⟩
      have K1 := Lib.hid (((((kp_start w).and HA.out.keep).and HP.out.keep).alloc (.cells #[.int .i64 n0, .slice A len cap] 45)).and (kp_one w 45 #[.int .i64 n0, .slice A len cap] hDa))
      have zDa0 := K1.out.here.2.2.1.cell 0
      have zDa1 := K1.out.here.2.2.1.cell 1
      simp at zDa0 zDa1
      go_enter Try.func10, Try.ntmps10
      go_wp2_with fail
      refine (sz_box n0 A len cap 1048576 (-1) L _ K1.out.here.1.1.2 (by omega) (by omega) HR.out).mono ?_
      rintro e w1 ⟨rfl, hb⟩
      have K2 := Lib.hid (K1.out.move hb)
      clear hb
      clear zDa0 zDa1
      have zDa0 := K2.out.here.2.2.1.cell 0
      have zDa1 := K2.out.here.2.2.1.cell 1
      simp at zDa0 zDa1
      go_wp2
      go_ret
      exact ⟨rfl, K2.out.here.1.1.1⟩
    · have hlen : len ≤ 1048576 := by omega
      have hrf : ¬ r < 0 := by omega
      have hrd : decide (r < 0) = false := decide_eq_false hrf
      have HL2 : Hid (L2.length ≤ 1048577) := by show _ ≤ _; have := HN.out; omega
      clear hl2
      obtain ⟨r1, hr1⟩ : ∃ q, 1 + 3 * len = q := ⟨_, rfl⟩
      have hr1f : ¬ (r1 : Int) < 0 := by omega
      have hr1d : decide ((r1 : Int) < 0) = false := decide_eq_false hr1f
      have hr1e : ((r1 : Int) != (r1 : Int)) = false := by simp
      have Hr1 := Lib.hid hr1
      clear hr1
      obtain ⟨rp, hrp⟩ : ∃ q, r1 + lenP = q := ⟨_, rfl⟩
      have hrpf : ¬ (rp : Int) < 0 := by omega
      have hrpd : decide ((rp : Int) < 0) = false := decide_eq_false hrpf
      have hrpe : ((rp : Int) != (rp : Int)) = false := by simp
      have Hrp := Lib.hid hrp
      clear hrp
      have hr1b : r1 ≤ 4000000 := by have := Hr1.out; omega
      obtain ⟨Da, hDa⟩ : ∃ D, w.heap.size = D := ⟨_, rfl⟩
      have K1 := Lib.hid (((((kp_start w).and HA.out.keep).and HP.out.keep).alloc (.cells #[.int .i64 n0, .slice A len cap] 45)).and (kp_one w 45 #[.int .i64 n0, .slice A len cap] hDa))
      have zDa0 := K1.out.here.2.2.1.cell 0
      have zDa1 := K1.out.here.2.2.1.cell 1
      simp at zDa0 zDa1
      go_enter Try.func10, Try.ntmps10
      go_wp2_with fail
      refine (sz_box n0 A len cap 1048576 r L _ K1.out.here.1.1.2 (by omega) (by omega) HR.out).mono ?_
      rintro e w1 ⟨rfl, hb⟩
      have K2 := Lib.hid (K1.out.move hb)
      clear hb
      clear zDa0 zDa1
      have zDa0 := K2.out.here.2.2.1.cell 0
      have zDa1 := K2.out.here.2.2.1.cell 1
      simp at zDa0 zDa1
      go_wp2_with fail
      refine (to_box n0 A len cap L _ K2.out.here.1.1.2 hlen).mono ?_
      rintro e v1 ⟨g1, rfl, hown, hb⟩
      have K3 := Lib.hid ((K2.out.move hb).and (MIn.of hown (by omega)).keep)
      clear hb hown
      clear zDa0 zDa1
      have zDa0 := K3.out.here.1.2.2.1.cell 0
      have zDa1 := K3.out.here.1.2.2.1.cell 1
      simp at zDa0 zDa1
      go_wp2_with fail
      refine (to_ints AP lenP capP P _ HNP.out K3.out.here.1.1.2.2.2.2 hlenP).mono ?_
      rintro e v2 ⟨gp1, rfl, hown, hb⟩
      have K4 := Lib.hid ((K3.out.move hb).and (IIn.of hown (by omega)).keep)
      clear hb hown
      clear zDa0 zDa1
      have zDa0 := K4.out.here.1.1.2.2.1.cell 0
      have zDa1 := K4.out.here.1.1.2.2.1.cell 1
      simp at zDa0 zDa1
      go_wp2_with fail
      refine (spec_flags_at HRR.out (some ⟨g1, 0, none⟩) len len (some ⟨gp1, 0, none⟩) lenP lenP _ K4.out.here.1.2 K4.out.here.2).mono ?_
      rintro e w3 ⟨A3, N3, cap3, rfl, hown, hb⟩
      have hN3 := hown.len.1
      have HN3 := Lib.hid hN3
      have hN3b : N3 ≤ 1048577 := by have := HL2.out; omega
      obtain ⟨r2, hr2⟩ : ∃ q, 1 + 3 * N3 = q := ⟨_, rfl⟩
      have hr2f : ¬ (r2 : Int) < 0 := by omega
      have hr2d : decide ((r2 : Int) < 0) = false := decide_eq_false hr2f
      have hr2e : ((r2 : Int) != (r2 : Int)) = false := by simp
      have Hr2 := Lib.hid hr2
      clear hr2
      clear hN3
      have hr2b : r2 ≤ 4000000 := by have := Hr2.out; omega
      obtain ⟨D3, hD3⟩ : ∃ D, w3.heap.size = D := ⟨_, rfl⟩
      have K5 := Lib.hid ((((K4.out.move hb).and (MIn.of hown (by omega)).keep).alloc (.cells #[.int .i64 n2, .slice A3 N3 cap3] 25)).and (kp_one w3 25 #[.int .i64 n2, .slice A3 N3 cap3] hD3))
      clear hb hown
      clear zDa0 zDa1
      have zDa0 := K5.out.here.1.1.1.1.2.2.1.cell 0
      have zDa1 := K5.out.here.1.1.1.1.2.2.1.cell 1
      have zD30 := K5.out.here.2.2.1.cell 0
      have zD31 := K5.out.here.2.2.1.cell 1
      simp at zDa0 zDa1 zD30 zD31
      go_wp2_with fail
      clear zDa0 zDa1 zD30 zD31
      obtain ⟨wc, hq⟩ : ∃ q, w3.alloc (.cells #[.int .i64 n2, .slice A3 N3 cap3] 25) = q := ⟨_, rfl⟩
      rw [hq] at K5 ⊢
      clear hq
      have zDa0 := K5.out.here.1.1.1.1.2.2.1.cell 0
      have zDa1 := K5.out.here.1.1.1.1.2.2.1.cell 1
      have zD30 := K5.out.here.2.2.1.cell 0
      have zD31 := K5.out.here.2.2.1.cell 1
      simp at zDa0 zDa1 zD30 zD31
      refine (to_box n0 A len cap L _ K5.out.here.1.1.1.1.1.1.2 hlen).mono ?_
      rintro e w4 ⟨gx, rfl, hown, hb⟩
      obtain ⟨Dx, hDx⟩ : ∃ D, w4.heap.size = D := ⟨_, rfl⟩
      have hgx := World.ownsRow.lt hown gx rfl
      have HXB := Lib.hid (show wc.heap.size ≤ gx from hgx.1)
      have HX0 := Lib.hid (show gx < (w4.alloc (.cells #[.int .i64 n0, .slice (some ⟨gx, 0, none⟩) len len] 25)).heap.size by simp; omega)
      have K6 := Lib.hid (((((K5.out.and (kp_start wc)).move hb).and (kp_own hown)).alloc (.cells #[.int .i64 n0, .slice (some ⟨gx, 0, none⟩) len len] 25)).and (kp_one w4 25 #[.int .i64 n0, .slice (some ⟨gx, 0, none⟩) len len] hDx))
      clear hgx hb hown
      clear zDa0 zDa1 zD30 zD31
      have zDa0 := K6.out.here.1.1.1.1.1.1.1.2.2.1.cell 0
      have zDa1 := K6.out.here.1.1.1.1.1.1.1.2.2.1.cell 1
      have zD30 := K6.out.here.1.1.1.2.2.1.cell 0
      have zD31 := K6.out.here.1.1.1.2.2.1.cell 1
      have zDx0 := K6.out.here.2.2.1.cell 0
      have zDx1 := K6.out.here.2.2.1.cell 1
      simp at zDa0 zDa1 zD30 zD31 zDx0 zDx1
      have HCP := Lib.hid K6.out.here.1.1.2.size
      go_wp2_with fail
      refine (to_ints AP lenP capP P _ HNP.out K6.out.here.1.1.1.1.1.1.1.1.2.2.2.2 hlenP).mono ?_
      rintro e w5 ⟨gp, rfl, hown, hb⟩
      have hgp := World.ownsRow.lt hown gp rfl
      have HP0 := Lib.hid hgp.2
      have HX5 : Hid (gx < w5.heap.size) := Nat.lt_of_lt_of_le HX0.out hb.size
      clear hgp
      have K7 := Lib.hid ((K6.out.move hb).and (kp_own hown))
      clear hb hown
      clear zDa0 zDa1 zD30 zD31 zDx0 zDx1
      have zDa0 := K7.out.here.1.1.1.1.1.1.1.1.2.2.1.cell 0
      have zDa1 := K7.out.here.1.1.1.1.1.1.1.1.2.2.1.cell 1
      have zD30 := K7.out.here.1.1.1.1.2.2.1.cell 0
      have zD31 := K7.out.here.1.1.1.1.2.2.1.cell 1
      have zDx0 := K7.out.here.1.2.2.1.cell 0
      have zDx1 := K7.out.here.1.2.2.1.cell 1
      simp at zDa0 zDa1 zD30 zD31 zDx0 zDx1
      have HCB := Lib.hid K7.out.here.1.1.1.2.size
      go_wp2_with fail
      refine (impl_flags_at HRR.out (some ⟨gx, 0, none⟩) len len (some ⟨gp, 0, none⟩) lenP lenP _ (MIn.of K7.out.here.1.1.2 (by omega)) (IIn.of K7.out.here.2 (by omega))).mono ?_
      rintro e w6 ⟨A5, N5, cap5, rfl, hown, hb⟩
      obtain rfl : N5 = N3 := by rw [HN3.out]; exact hown.len.1
      obtain ⟨D5, hD5⟩ : ∃ D, w6.heap.size = D := ⟨_, rfl⟩
      have K8 := Lib.hid ((((K7.out.move hb).and (kp_own hown)).alloc (.cells #[.int .i64 n2, .slice A5 N5 cap5] 25)).and (kp_one w6 25 #[.int .i64 n2, .slice A5 N5 cap5] hD5))
      have HGD : Hid (gx < D5) := by show gx < D5; have := HX5.out; have := hb.size; omega
      have HPD : Hid (gp < D5) := by show gp < D5; have := HP0.out; have := hb.size; omega
      clear hb hown
      clear zDa0 zDa1 zD30 zD31 zDx0 zDx1
      have zDa0 := K8.out.here.1.1.1.1.1.1.1.1.1.1.2.2.1.cell 0
      have zDa1 := K8.out.here.1.1.1.1.1.1.1.1.1.1.2.2.1.cell 1
      have zD30 := K8.out.here.1.1.1.1.1.1.2.2.1.cell 0
      have zD31 := K8.out.here.1.1.1.1.1.1.2.2.1.cell 1
      have zDx0 := K8.out.here.1.1.1.2.2.1.cell 0
      have zDx1 := K8.out.here.1.1.1.2.2.1.cell 1
      have zD50 := K8.out.here.2.2.1.cell 0
      have zD51 := K8.out.here.2.2.1.cell 1
      simp at zDa0 zDa1 zD30 zD31 zDx0 zDx1 zD50 zD51
      go_wp2_with fail
      refine (eq_box n2 A5 A3 N5 cap5 cap3 L2 _ (MIn.of K8.out.here.1.2 (by omega)) K8.out.here.1.1.1.1.1.1.1.2).mono ?_
      rintro e v3 ⟨rfl, hb⟩
      have K9 := Lib.hid (K8.out.move hb)
      clear hb
      clear zDa0 zDa1 zD30 zD31 zDx0 zDx1 zD50 zD51
      have zDa0 := K9.out.here.1.1.1.1.1.1.1.1.1.1.2.2.1.cell 0
      have zDa1 := K9.out.here.1.1.1.1.1.1.1.1.1.1.2.2.1.cell 1
      have zD30 := K9.out.here.1.1.1.1.1.1.2.2.1.cell 0
      have zD31 := K9.out.here.1.1.1.1.1.1.2.2.1.cell 1
      have zDx0 := K9.out.here.1.1.1.2.2.1.cell 0
      have zDx1 := K9.out.here.1.1.1.2.2.1.cell 1
      have zD50 := K9.out.here.2.2.1.cell 0
      have zD51 := K9.out.here.2.2.1.cell 1
      simp at zDa0 zDa1 zD30 zD31 zDx0 zDx1 zD50 zD51
      go_wp2_with fail
      have K10 := Lib.hid K9.out.drew
      clear zDa0 zDa1 zD30 zD31 zDx0 zDx1 zD50 zD51
      go_region_held3 (fun w' => w'.cell? ⟨Da, 0, none⟩ = some (.int .i64 n0) ∧ w'.cell? ⟨Da, 1, none⟩ = some (.slice A len cap) ∧ w'.cell? ⟨Dx, 0, none⟩ = some (.int .i64 n0) ∧ w'.cell? ⟨Dx, 1, none⟩ = some (.slice (some ⟨gx, 0, none⟩) len len)) (first | exact ⟨KC.out.here.1.1.1.1.1.1.1.1.1.1.1.2.2.1.cell 0, KC.out.here.1.1.1.1.1.1.1.1.1.1.1.2.2.1.cell 1, KC.out.here.1.1.1.1.2.2.1.cell 0, KC.out.here.1.1.1.1.2.2.1.cell 1⟩ | exact ⟨KB.out.here.1.1.1.1.1.1.1.1.1.1.1.2.2.1.cell 0, KB.out.here.1.1.1.1.1.1.1.1.1.1.1.2.2.1.cell 1, KB.out.here.1.1.1.1.2.2.1.cell 0, KB.out.here.1.1.1.1.2.2.1.cell 1⟩ | exact ⟨K10.out.here.1.1.1.1.1.1.1.1.1.1.2.2.1.cell 0, K10.out.here.1.1.1.1.1.1.1.1.1.1.2.2.1.cell 1, K10.out.here.1.1.1.2.2.1.cell 0, K10.out.here.1.1.1.2.2.1.cell 1⟩ | go_keep) (first
        | (go_at_call 31; refine (to_box n0 A len cap L _ K10.out.here.1.1.1.1.1.1.1.1.1.1.1.1.2 hlen).mono ?_; rintro e w7 ⟨gy, rfl, hown, hb⟩; have KB := Lib.hid ((K10.out.move hb).and (MIn.of hown (by omega)).keep); clear hb hown)
        | (go_at_call 32; refine (eq_box n0 (some ⟨gx, 0, none⟩) (some ⟨gy, 0, none⟩) len len len L _ (MIn.of KB.out.here.1.1.1.1.1.2 (by omega)) KB.out.here.2).mono ?_; rintro e w8 ⟨rfl, hb⟩; have KC := Lib.hid (KB.out.move hb); clear hb))
      all_goals
        have K11 := Lib.hid KC.out.l
        have zDa0 := K11.out.here.1.1.1.1.1.1.1.1.1.1.2.2.1.cell 0
        have zDa1 := K11.out.here.1.1.1.1.1.1.1.1.1.1.2.2.1.cell 1
        have zD30 := K11.out.here.1.1.1.1.1.1.2.2.1.cell 0
        have zD31 := K11.out.here.1.1.1.1.1.1.2.2.1.cell 1
        have zDx0 := K11.out.here.1.1.1.2.2.1.cell 0
        have zDx1 := K11.out.here.1.1.1.2.2.1.cell 1
        have zD50 := K11.out.here.2.2.1.cell 0
        have zD51 := K11.out.here.2.2.1.cell 1
        simp at zDa0 zDa1 zD30 zD31 zDx0 zDx1 zD50 zD51
        go_wp2_with fail
        refine (to_ints AP lenP capP P _ HNP.out K11.out.here.1.1.1.1.1.1.1.1.1.1.1.2.2.2.2 hlenP).mono ?_
        rintro e v4 ⟨gy2, rfl, hown, hb⟩
        have K12 := Lib.hid ((K11.out.move hb).and (IIn.of hown (by omega)).keep)
        clear hb hown
        clear zDa0 zDa1 zD30 zD31 zDx0 zDx1 zD50 zD51
        have zDa0 := K12.out.here.1.1.1.1.1.1.1.1.1.1.1.2.2.1.cell 0
        have zDa1 := K12.out.here.1.1.1.1.1.1.1.1.1.1.1.2.2.1.cell 1
        have zD30 := K12.out.here.1.1.1.1.1.1.1.2.2.1.cell 0
        have zD31 := K12.out.here.1.1.1.1.1.1.1.2.2.1.cell 1
        have zDx0 := K12.out.here.1.1.1.1.2.2.1.cell 0
        have zDx1 := K12.out.here.1.1.1.1.2.2.1.cell 1
        have zD50 := K12.out.here.1.2.2.1.cell 0
        have zD51 := K12.out.here.1.2.2.1.cell 1
        simp at zDa0 zDa1 zD30 zD31 zDx0 zDx1 zD50 zD51
        go_wp2_with fail
        refine (eq_nums (some ⟨gp, 0, none⟩) (some ⟨gy2, 0, none⟩) lenP lenP lenP P _ (IIn.of K12.out.here.1.1.1.2 (by omega)) K12.out.here.2).mono ?_
        rintro e v5 ⟨rfl, hb⟩
        have K13 := Lib.hid (K12.out.move hb)
        clear hb
        clear zDa0 zDa1 zD30 zD31 zDx0 zDx1 zD50 zD51
        have zDa0 := K13.out.here.1.1.1.1.1.1.1.1.1.1.1.2.2.1.cell 0
        have zDa1 := K13.out.here.1.1.1.1.1.1.1.1.1.1.1.2.2.1.cell 1
        have zD30 := K13.out.here.1.1.1.1.1.1.1.2.2.1.cell 0
        have zD31 := K13.out.here.1.1.1.1.1.1.1.2.2.1.cell 1
        have zDx0 := K13.out.here.1.1.1.1.2.2.1.cell 0
        have zDx1 := K13.out.here.1.1.1.1.2.2.1.cell 1
        have zD50 := K13.out.here.1.2.2.1.cell 0
        have zD51 := K13.out.here.1.2.2.1.cell 1
        simp at zDa0 zDa1 zD30 zD31 zDx0 zDx1 zD50 zD51
        go_wp2_with fail
        refine (mark_box 1 r1 n0 (some ⟨gx, 0, none⟩) len len _ L _ HN.out K13.out.here.1.1.1.1.1.2 (by omega) (by omega) (by omega) Hr1.out).mono ?_
        rintro e v6 ⟨rfl, hownm, hg⟩
        have K14 := Lib.hid (((((K5.out.and (kp_start wc)).move (below_mark K13.out.here.1.1.1.1.1.1.2 rfl K13.out.here.1.1.1.1.1.2 hg (Nat.le_refl _))).and (kp_own (K13.out.here.1.1.1.2.grown hg HX0.out))).and (kp_own (K13.out.here.1.1.2.grown hg HX5.out))).and (kp_tri (Whole.grown K13.out.here.1.2.2.1 hg (by intro e; have h : D5 = gx := Option.some.inj e; have h2 : gx < D5 := HGD.out; omega))))
        clear hownm hg
        clear zDa0 zDa1 zD30 zD31 zDx0 zDx1 zD50 zD51
        have zDa0 := K14.out.here.1.1.1.1.1.1.1.1.2.2.1.cell 0
        have zDa1 := K14.out.here.1.1.1.1.1.1.1.1.2.2.1.cell 1
        have zD30 := K14.out.here.1.1.1.1.2.2.1.cell 0
        have zD31 := K14.out.here.1.1.1.1.2.2.1.cell 1
        have zD50 := K14.out.here.2.2.1.cell 0
        have zD51 := K14.out.here.2.2.1.cell 1
        simp at zDa0 zDa1 zD30 zD31 zD50 zD51
        go_wp2_with fail
        refine (mark_nums r1 rp (some ⟨gp, 0, none⟩) lenP lenP _ P _ HNP.out K14.out.here.1.1.2 (by omega) (by omega) Hrp.out).mono ?_
        rintro e v7 ⟨rfl, hownm, hg⟩
        have K15 := Lib.hid ((((K5.out.and (kp_start wc)).move (below_mark K14.out.here.1.1.1.2 rfl K14.out.here.1.1.2 hg HCP.out)).and (kp_own (K14.out.here.1.2.grown hg HP0.out))).and (kp_tri (Whole.grown K14.out.here.2.2.1 hg (by intro e; have h : D5 = gp := Option.some.inj e; have h2 : gp < D5 := HPD.out; omega))))
        clear hownm hg
        clear zDa0 zDa1 zD30 zD31 zD50 zD51
        have zDa0 := K15.out.here.1.1.1.1.1.1.1.2.2.1.cell 0
        have zDa1 := K15.out.here.1.1.1.1.1.1.1.2.2.1.cell 1
        have zD30 := K15.out.here.1.1.1.2.2.1.cell 0
        have zD31 := K15.out.here.1.1.1.2.2.1.cell 1
        have zD50 := K15.out.here.2.2.1.cell 0
        have zD51 := K15.out.here.2.2.1.cell 1
        simp at zDa0 zDa1 zD30 zD31 zD50 zD51
        go_wp2_with fail
        refine (eq_box n2 A5 A3 N5 cap5 cap3 L2 _ (MIn.of K15.out.here.1.2 (by omega)) K15.out.here.1.1.1.1.2).mono ?_
        rintro e v8 ⟨rfl, hb⟩
        have K16 := Lib.hid (K15.out.move hb)
        clear hb
        clear zDa0 zDa1 zD30 zD31 zD50 zD51
        have zDa0 := K16.out.here.1.1.1.1.1.1.1.2.2.1.cell 0
        have zDa1 := K16.out.here.1.1.1.1.1.1.1.2.2.1.cell 1
        have zD30 := K16.out.here.1.1.1.2.2.1.cell 0
        have zD31 := K16.out.here.1.1.1.2.2.1.cell 1
        have zD50 := K16.out.here.2.2.1.cell 0
        have zD51 := K16.out.here.2.2.1.cell 1
        simp at zDa0 zDa1 zD30 zD31 zD50 zD51
        go_wp2_with fail
        refine (mark_box 1 r2 n2 A5 cap5 N5 _ L2 _ HN3.out.symm K16.out.here.1.2 (by omega) (by omega) (by omega) Hr2.out).mono ?_
        rintro e v9 ⟨rfl, hownm, hg⟩
        have K17 := Lib.hid ((((K5.out.and (kp_start wc)).move (below_mark K16.out.here.1.1.2 rfl K16.out.here.1.2 hg HCB.out)).and (kp_tri (Whole.grown K16.out.here.2.2.1 hg (fun e => (ROwn.whole K16.out.here.1.2 K16.out.here.2.2.1 (by decide)) e.symm)))).and (kp_own hownm))
        clear hownm hg
        clear zDa0 zDa1 zD30 zD31 zD50 zD51
        have zDa0 := K17.out.here.1.1.1.1.1.1.1.2.2.1.cell 0
        have zDa1 := K17.out.here.1.1.1.1.1.1.1.2.2.1.cell 1
        have zD30 := K17.out.here.1.1.1.2.2.1.cell 0
        have zD31 := K17.out.here.1.1.1.2.2.1.cell 1
        have zD50 := K17.out.here.1.2.2.1.cell 0
        have zD51 := K17.out.here.1.2.2.1.cell 1
        simp at zDa0 zDa1 zD30 zD31 zD50 zD51
        go_wp2_with fail
        refine (held_box 1 r2 n2 A5 cap5 N5 _ K17.out.here.2.at (by omega) (by omega) (by omega) Hr2.out).mono ?_
        rintro e v10 ⟨rfl, hb⟩
        have K18 := Lib.hid (K17.out.move hb)
        clear hb
        clear zDa0 zDa1 zD30 zD31 zD50 zD51
        have zDa0 := K18.out.here.1.1.1.1.1.1.1.2.2.1.cell 0
        have zDa1 := K18.out.here.1.1.1.1.1.1.1.2.2.1.cell 1
        have zD30 := K18.out.here.1.1.1.2.2.1.cell 0
        have zD31 := K18.out.here.1.1.1.2.2.1.cell 1
        have zD50 := K18.out.here.1.2.2.1.cell 0
        have zD51 := K18.out.here.1.2.2.1.cell 1
        simp at zDa0 zDa1 zD30 zD31 zD50 zD51
        go_wp2_with fail
        refine (to_box n0 A len cap L _ K18.out.here.1.1.1.1.1.1.1.1.1.2 hlen).mono ?_
        rintro e v11 ⟨g2, rfl, hown, hb⟩
        have K19 := Lib.hid ((K18.out.move hb).and (MIn.of hown (by omega)).keep)
        clear hb hown
        clear zDa0 zDa1 zD30 zD31 zD50 zD51
        have zDa0 := K19.out.here.1.1.1.1.1.1.1.1.2.2.1.cell 0
        have zDa1 := K19.out.here.1.1.1.1.1.1.1.1.2.2.1.cell 1
        have zD30 := K19.out.here.1.1.1.1.2.2.1.cell 0
        have zD31 := K19.out.here.1.1.1.1.2.2.1.cell 1
        have zD50 := K19.out.here.1.1.2.2.1.cell 0
        have zD51 := K19.out.here.1.1.2.2.1.cell 1
        simp at zDa0 zDa1 zD30 zD31 zD50 zD51
        go_wp2_with fail
        refine (to_ints AP lenP capP P _ HNP.out K19.out.here.1.1.1.1.1.1.1.1.1.2.2.2.2 hlenP).mono ?_
        rintro e v12 ⟨gp2, rfl, hown, hb⟩
        have K20 := Lib.hid ((K19.out.move hb).and (IIn.of hown (by omega)).keep)
        clear hb hown
        clear zDa0 zDa1 zD30 zD31 zD50 zD51
        have zDa0 := K20.out.here.1.1.1.1.1.1.1.1.1.2.2.1.cell 0
        have zDa1 := K20.out.here.1.1.1.1.1.1.1.1.1.2.2.1.cell 1
        have zD30 := K20.out.here.1.1.1.1.1.2.2.1.cell 0
        have zD31 := K20.out.here.1.1.1.1.1.2.2.1.cell 1
        have zD50 := K20.out.here.1.1.1.2.2.1.cell 0
        have zD51 := K20.out.here.1.1.1.2.2.1.cell 1
        simp at zDa0 zDa1 zD30 zD31 zD50 zD51
        go_wp2_with fail
        refine (impl_flags_at HRR.out (some ⟨g2, 0, none⟩) len len (some ⟨gp2, 0, none⟩) lenP lenP _ K20.out.here.1.2 K20.out.here.2).mono ?_
        rintro e w14 ⟨A6, N6, cap6, rfl, hown, hb⟩
        have hN65 : N6 = N5 := by rw [HN3.out]; exact hown.len.1
        subst hN65
        obtain ⟨D6, hD6⟩ : ∃ D, w14.heap.size = D := ⟨_, rfl⟩
        have K21 := Lib.hid ((((K20.out.move hb).and (MIn.of hown (by omega)).keep).alloc (.cells #[.int .i64 n2, .slice A6 N6 cap6] 25)).and (kp_one w14 25 #[.int .i64 n2, .slice A6 N6 cap6] hD6))
        clear hb hown
        clear zDa0 zDa1 zD30 zD31 zD50 zD51
        have zDa0 := K21.out.here.1.1.1.1.1.1.1.1.1.1.1.2.2.1.cell 0
        have zDa1 := K21.out.here.1.1.1.1.1.1.1.1.1.1.1.2.2.1.cell 1
        have zD30 := K21.out.here.1.1.1.1.1.1.1.2.2.1.cell 0
        have zD31 := K21.out.here.1.1.1.1.1.1.1.2.2.1.cell 1
        have zD50 := K21.out.here.1.1.1.1.1.2.2.1.cell 0
        have zD51 := K21.out.here.1.1.1.1.1.2.2.1.cell 1
        have zD60 := K21.out.here.2.2.1.cell 0
        have zD61 := K21.out.here.2.2.1.cell 1
        simp at zDa0 zDa1 zD30 zD31 zD50 zD51 zD60 zD61
        go_wp2_with fail
        refine (eq_box n2 A6 A3 N6 cap6 cap3 L2 _ K21.out.here.1.2 K21.out.here.1.1.1.1.1.1.1.1.2).mono ?_
        rintro e v13 ⟨rfl, hb⟩
        have K22 := Lib.hid (K21.out.move hb)
        clear hb
        clear zDa0 zDa1 zD30 zD31 zD50 zD51 zD60 zD61
        have zDa0 := K22.out.here.1.1.1.1.1.1.1.1.1.1.1.2.2.1.cell 0
        have zDa1 := K22.out.here.1.1.1.1.1.1.1.1.1.1.1.2.2.1.cell 1
        have zD30 := K22.out.here.1.1.1.1.1.1.1.2.2.1.cell 0
        have zD31 := K22.out.here.1.1.1.1.1.1.1.2.2.1.cell 1
        have zD50 := K22.out.here.1.1.1.1.1.2.2.1.cell 0
        have zD51 := K22.out.here.1.1.1.1.1.2.2.1.cell 1
        have zD60 := K22.out.here.2.2.1.cell 0
        have zD61 := K22.out.here.2.2.1.cell 1
        simp at zDa0 zDa1 zD30 zD31 zD50 zD51 zD60 zD61
        go_wp2_with fail
        refine (held_box 1 r2 n2 A5 cap5 N6 _ K22.out.here.1.1.1.1.2.at (by omega) (by omega) (by omega) Hr2.out).mono ?_
        rintro e v14 ⟨rfl, hb⟩
        have K23 := Lib.hid (K22.out.move hb)
        clear hb
        clear zDa0 zDa1 zD30 zD31 zD50 zD51 zD60 zD61
        have zDa0 := K23.out.here.1.1.1.1.1.1.1.1.1.1.1.2.2.1.cell 0
        have zDa1 := K23.out.here.1.1.1.1.1.1.1.1.1.1.1.2.2.1.cell 1
        have zD30 := K23.out.here.1.1.1.1.1.1.1.2.2.1.cell 0
        have zD31 := K23.out.here.1.1.1.1.1.1.1.2.2.1.cell 1
        have zD50 := K23.out.here.1.1.1.1.1.2.2.1.cell 0
        have zD51 := K23.out.here.1.1.1.1.1.2.2.1.cell 1
        have zD60 := K23.out.here.2.2.1.cell 0
        have zD61 := K23.out.here.2.2.1.cell 1
        simp at zDa0 zDa1 zD30 zD31 zD50 zD51 zD60 zD61
        go_wp2
        go_ret
        exact ⟨rfl, K23.out.here.1.1.1.1.1.1.1.1.1.1.1.1.1.1⟩
  · have hs' : (1048576 : Int) < (lenP : Int) := by omega
    go_enter Try.func10, Try.ntmps10
    go_wp2
    go_ret
    exact ⟨rfl, (Below.refl _ _).alloc (Nat.le_refl _) _⟩
end Go.Proofs.Ytmljdbbbfpmbcaa
