/-
  The walks of the laws FnExactBoxUids. Condition: the code can be read.
-/
import Derived.Test.YtmljdbbbfpmbcaaEz
import Derived.Test.YtmljdbbbfpmbcaaLu
import Derived.BigQuiet
import Derived.Deep.RegionHeld3
import Derived.Outline
namespace Go.Proofs.Ytmljdbbbfpmbcaa
open Go.RowKit
set_option linter.unusedVariables false

set_option maxRecDepth 20000 in
set_option maxHeartbeats 2000000 in
theorem law_FnExactBoxUids (n0 : Int) (A : Option Addr) (len cap : Nat) (AP : Option Addr) (lenP capP : Nat) (w : World) (h : BoxArg w A len cap) (hp : NumArg w AP lenP capP) : Calls Try.prog 13 #[.agg #[.int .i64 n0, .slice A len cap], .slice AP lenP capP] w (Holds1 w) := by
  by_cases hlenP : lenP ≤ 1048576
  · have hs' : (lenP : Int) ≤ 1048576 := by omega
    obtain ⟨L, hA⟩ := h
    have HA := Lib.hid hA
    have HN := Lib.hid hA.1
    obtain ⟨r, hr⟩ : ∃ r, szB len L 1048576 = r := ⟨_, rfl⟩
    have hrc : r = -1 ∨ (0 ≤ r ∧ r ≤ 1048576 ∧ (len : Int) ≤ 1048576) := by
      by_cases h0 : r < 0
      · exact .inl (by rw [← hr]; exact szB_neg (by rw [hr]; exact h0))
      · have h1 := szB_le (n := len) (L := L) (left := 1048576) (by rw [hr]; omega)
        rw [hr] at h1
        exact .inr ⟨by omega, h1.2, h1.1⟩
    have HR := Lib.hid hr
    clear hA hr
    obtain ⟨P, hP⟩ := hp
    have HP := Lib.hid hP
    have HNP := Lib.hid hP.1
    clear hP
    obtain ⟨G, hr⟩ : ∃ r, bxUI n0 L P = r := ⟨_, rfl⟩
    have hl2 := bxUI_le hr
    have HRR := Lib.hid hr
    clear hr
    rcases hrc with rfl | ⟨hr0, hr1, hlen0⟩
    · obtain ⟨Da, hDa⟩ : ∃ D, w.heap.size = D := ⟨_, rfl⟩
      have K1 := Lib.hid (((((kp_start w).and HA.out.keep).and HP.out.keep).alloc (.cells #[.int .i64 n0, .slice A len cap] 45)).and (kp_one w 45 #[.int .i64 n0, .slice A len cap] hDa))
      have zDa0 := K1.out.here.2.2.1.cell 0
      have zDa1 := K1.out.here.2.2.1.cell 1
      simp at zDa0 zDa1
      go_enter Try.func13, Try.ntmps13
      go_wp2_with fail
      refine (sz_box n0 A len cap 1048576 (-1) L _ K1.out.here.1.1.2 (by omega) (by omega) HR.out).mono ?_
      rintro e w1 ⟨rfl, hb⟩
      have K2 := Lib.hid (K1.out.move hb)
      clear hb
      clear zDa0 zDa1
      have zDa0 := K2.out.here.2.2.1.cell 0
      have zDa1 := K2.out.here.2.2.1.cell 1
      simp at zDa0 zDa1
      go_wp2
      go_ret
      exact ⟨rfl, K2.out.here.1.1.1⟩
    · have hlen : len ≤ 1048576 := by omega
      have hrf : ¬ r < 0 := by omega
      have hrd : decide (r < 0) = false := decide_eq_false hrf
      have HLG : Hid (G.length ≤ 1048577) := by show _ ≤ _; have := HN.out; omega
      clear hl2
      obtain ⟨r1, hr1⟩ : ∃ q, 1 + 3 * len = q := ⟨_, rfl⟩
      have hr1f : ¬ (r1 : Int) < 0 := by omega
      have hr1d : decide ((r1 : Int) < 0) = false := decide_eq_false hr1f
      have hr1e : ((r1 : Int) != (r1 : Int)) = false := by simp
      have Hr1 := Lib.hid hr1
      clear hr1
      obtain ⟨rp, hrp⟩ : ∃ q, r1 + lenP = q := ⟨_, rfl⟩
      have hrpf : ¬ (rp : Int) < 0 := by omega
      have hrpd : decide ((rp : Int) < 0) = false := decide_eq_false hrpf
      have hrpe : ((rp : Int) != (rp : Int)) = false := by simp
      have Hrp := Lib.hid hrp
      clear hrp
      have hr1b : r1 ≤ 4000000 := by have := Hr1.out; omega
      obtain ⟨Da, hDa⟩ : ∃ D, w.heap.size = D := ⟨_, rfl⟩
      have K1 := Lib.hid (((((kp_start w).and HA.out.keep).and HP.out.keep).alloc (.cells #[.int .i64 n0, .slice A len cap] 45)).and (kp_one w 45 #[.int .i64 n0, .slice A len cap] hDa))
      have zDa0 := K1.out.here.2.2.1.cell 0
      have zDa1 := K1.out.here.2.2.1.cell 1
      simp at zDa0 zDa1
      go_enter Try.func13, Try.ntmps13
      go_wp2_with fail
      refine (sz_box n0 A len cap 1048576 r L _ K1.out.here.1.1.2 (by omega) (by omega) HR.out).mono ?_
      rintro e w1 ⟨rfl, hb⟩
      have K2 := Lib.hid (K1.out.move hb)
      clear hb
      clear zDa0 zDa1
      have zDa0 := K2.out.here.2.2.1.cell 0
      have zDa1 := K2.out.here.2.2.1.cell 1
      simp at zDa0 zDa1
      go_wp2_with fail
      refine (to_box n0 A len cap L _ K2.out.here.1.1.2 hlen).mono ?_
      rintro e v1 ⟨g1, rfl, hown, hb⟩
      have K3 := Lib.hid ((K2.out.move hb).and (MIn.of hown (by omega)).keep)
      clear hb hown
      clear zDa0 zDa1
      have zDa0 := K3.out.here.1.2.2.1.cell 0
      have zDa1 := K3.out.here.1.2.2.1.cell 1
      simp at zDa0 zDa1
      go_wp2_with fail
      refine (to_ints AP lenP capP P _ HNP.out K3.out.here.1.1.2.2.2.2 hlenP).mono ?_
      rintro e v2 ⟨gp1, rfl, hown, hb⟩
      have K4 := Lib.hid ((K3.out.move hb).and (IIn.of hown (by omega)).keep)
      clear hb hown
      clear zDa0 zDa1
      have zDa0 := K4.out.here.1.1.2.2.1.cell 0
      have zDa1 := K4.out.here.1.1.2.2.1.cell 1
      simp at zDa0 zDa1
      go_wp2_with fail
      refine (spec_uids_at HRR.out (some ⟨g1, 0, none⟩) len len (some ⟨gp1, 0, none⟩) lenP lenP _ K4.out.here.1.2 K4.out.here.2).mono ?_
      rintro e w3 ⟨AH, NH, capH, rfl, hownI, hb⟩
      have hNH := hownI.len.1
      have HNH := Lib.hid hNH
      have hNHb : NH ≤ 1048577 := by have := HLG.out; omega
      obtain ⟨r3, hr3⟩ : ∃ q, 1 + NH = q := ⟨_, rfl⟩
      have hr3f : ¬ (r3 : Int) < 0 := by omega
      have hr3d : decide ((r3 : Int) < 0) = false := decide_eq_false hr3f
      have hr3e : ((r3 : Int) != (r3 : Int)) = false := by simp
      have Hr3 := Lib.hid hr3
      clear hr3
      clear hNH
      have K5 := Lib.hid ((K4.out.move hb).and (IIn.of hownI (by omega)).keep)
      clear hb hownI
      clear zDa0 zDa1
      have zDa0 := K5.out.here.1.1.1.2.2.1.cell 0
      have zDa1 := K5.out.here.1.1.1.2.2.1.cell 1
      simp at zDa0 zDa1
      go_wp2_with fail
      clear zDa0 zDa1
      obtain ⟨wc, hq⟩ : ∃ q, w3 = q := ⟨_, rfl⟩
      rw [hq] at K5 ⊢
      clear hq
      have zDa0 := K5.out.here.1.1.1.2.2.1.cell 0
      have zDa1 := K5.out.here.1.1.1.2.2.1.cell 1
      simp at zDa0 zDa1
      refine (to_box n0 A len cap L _ K5.out.here.1.1.1.1.1.2 hlen).mono ?_
      rintro e w4 ⟨gx, rfl, hown, hb⟩
      obtain ⟨Dx, hDx⟩ : ∃ D, w4.heap.size = D := ⟨_, rfl⟩
      have hgx := World.ownsRow.lt hown gx rfl
      have HXB := Lib.hid (show wc.heap.size ≤ gx from hgx.1)
      have HX0 := Lib.hid (show gx < (w4.alloc (.cells #[.int .i64 n0, .slice (some ⟨gx, 0, none⟩) len len] 25)).heap.size by simp; omega)
      have K6 := Lib.hid (((((K5.out.and (kp_start wc)).move hb).and (kp_own hown)).alloc (.cells #[.int .i64 n0, .slice (some ⟨gx, 0, none⟩) len len] 25)).and (kp_one w4 25 #[.int .i64 n0, .slice (some ⟨gx, 0, none⟩) len len] hDx))
      clear hgx hb hown
      clear zDa0 zDa1
      have zDa0 := K6.out.here.1.1.1.1.1.1.2.2.1.cell 0
      have zDa1 := K6.out.here.1.1.1.1.1.1.2.2.1.cell 1
      have zDx0 := K6.out.here.2.2.1.cell 0
      have zDx1 := K6.out.here.2.2.1.cell 1
      simp at zDa0 zDa1 zDx0 zDx1
      have HCP := Lib.hid K6.out.here.1.1.2.size
      go_wp2_with fail
      refine (to_ints AP lenP capP P _ HNP.out K6.out.here.1.1.1.1.1.1.1.2.2.2.2 hlenP).mono ?_
      rintro e w5 ⟨gp, rfl, hown, hb⟩
      have hgp := World.ownsRow.lt hown gp rfl
      have HP0 := Lib.hid hgp.2
      have HX5 : Hid (gx < w5.heap.size) := Nat.lt_of_lt_of_le HX0.out hb.size
      clear hgp
      have K7 := Lib.hid ((K6.out.move hb).and (kp_own hown))
      clear hb hown
      clear zDa0 zDa1 zDx0 zDx1
      have zDa0 := K7.out.here.1.1.1.1.1.1.1.2.2.1.cell 0
      have zDa1 := K7.out.here.1.1.1.1.1.1.1.2.2.1.cell 1
      have zDx0 := K7.out.here.1.2.2.1.cell 0
      have zDx1 := K7.out.here.1.2.2.1.cell 1
      simp at zDa0 zDa1 zDx0 zDx1
      have HCB := Lib.hid K7.out.here.1.1.1.2.size
      go_wp2_with fail
      refine (impl_uids_at HRR.out (some ⟨gx, 0, none⟩) len len (some ⟨gp, 0, none⟩) lenP lenP _ (MIn.of K7.out.here.1.1.2 (by omega)) (IIn.of K7.out.here.2 (by omega))).mono ?_
      rintro e w6 ⟨AG, NG, capG, rfl, hownI, hb⟩
      obtain rfl : NG = NH := by rw [HNH.out]; exact hownI.len.1
      have K8 := Lib.hid ((K7.out.move hb).and (kp_own hownI))
      clear hb hownI
      clear zDa0 zDa1 zDx0 zDx1
      have zDa0 := K8.out.here.1.1.1.1.1.1.1.1.2.2.1.cell 0
      have zDa1 := K8.out.here.1.1.1.1.1.1.1.1.2.2.1.cell 1
      have zDx0 := K8.out.here.1.1.2.2.1.cell 0
      have zDx1 := K8.out.here.1.1.2.2.1.cell 1
      simp at zDa0 zDa1 zDx0 zDx1
      go_wp2_with fail
      refine (eq_nums AG AH NG capG capH G _ (IIn.of K8.out.here.2 (by omega)) K8.out.here.1.1.1.1.1.2).mono ?_
      rintro e v3 ⟨rfl, hb⟩
      have K9 := Lib.hid (K8.out.move hb)
      clear hb
      clear zDa0 zDa1 zDx0 zDx1
      have zDa0 := K9.out.here.1.1.1.1.1.1.1.1.2.2.1.cell 0
      have zDa1 := K9.out.here.1.1.1.1.1.1.1.1.2.2.1.cell 1
      have zDx0 := K9.out.here.1.1.2.2.1.cell 0
      have zDx1 := K9.out.here.1.1.2.2.1.cell 1
      simp at zDa0 zDa1 zDx0 zDx1
      go_wp2_with fail
      have K10 := Lib.hid K9.out.drew
      clear zDa0 zDa1 zDx0 zDx1
      go_region_held3 (fun w' => w'.cell? ⟨Da, 0, none⟩ = some (.int .i64 n0) ∧ w'.cell? ⟨Da, 1, none⟩ = some (.slice A len cap) ∧ w'.cell? ⟨Dx, 0, none⟩ = some (.int .i64 n0) ∧ w'.cell? ⟨Dx, 1, none⟩ = some (.slice (some ⟨gx, 0, none⟩) len len)) (first | exact ⟨KC.out.here.1.1.1.1.1.1.1.1.1.2.2.1.cell 0, KC.out.here.1.1.1.1.1.1.1.1.1.2.2.1.cell 1, KC.out.here.1.1.1.2.2.1.cell 0, KC.out.here.1.1.1.2.2.1.cell 1⟩ | exact ⟨KB.out.here.1.1.1.1.1.1.1.1.1.2.2.1.cell 0, KB.out.here.1.1.1.1.1.1.1.1.1.2.2.1.cell 1, KB.out.here.1.1.1.2.2.1.cell 0, KB.out.here.1.1.1.2.2.1.cell 1⟩ | exact ⟨K10.out.here.1.1.1.1.1.1.1.1.2.2.1.cell 0, K10.out.here.1.1.1.1.1.1.1.1.2.2.1.cell 1, K10.out.here.1.1.2.2.1.cell 0, K10.out.here.1.1.2.2.1.cell 1⟩ | go_keep) (first
        | (go_at_call 31; refine (to_box n0 A len cap L _ K10.out.here.1.1.1.1.1.1.1.1.1.1.2 hlen).mono ?_; rintro e w7 ⟨gy, rfl, hown, hb⟩; have KB := Lib.hid ((K10.out.move hb).and (MIn.of hown (by omega)).keep); clear hb hown)
        | (go_at_call 32; refine (eq_box n0 (some ⟨gx, 0, none⟩) (some ⟨gy, 0, none⟩) len len len L _ (MIn.of KB.out.here.1.1.1.1.2 (by omega)) KB.out.here.2).mono ?_; rintro e w8 ⟨rfl, hb⟩; have KC := Lib.hid (KB.out.move hb); clear hb))
      all_goals
        have K11 := Lib.hid KC.out.l
        have zDa0 := K11.out.here.1.1.1.1.1.1.1.1.2.2.1.cell 0
        have zDa1 := K11.out.here.1.1.1.1.1.1.1.1.2.2.1.cell 1
        have zDx0 := K11.out.here.1.1.2.2.1.cell 0
        have zDx1 := K11.out.here.1.1.2.2.1.cell 1
        simp at zDa0 zDa1 zDx0 zDx1
        go_wp2_with fail
        refine (to_ints AP lenP capP P _ HNP.out K11.out.here.1.1.1.1.1.1.1.1.1.2.2.2.2 hlenP).mono ?_
        rintro e v4 ⟨gy2, rfl, hown, hb⟩
        have K12 := Lib.hid ((K11.out.move hb).and (IIn.of hown (by omega)).keep)
        clear hb hown
        clear zDa0 zDa1 zDx0 zDx1
        have zDa0 := K12.out.here.1.1.1.1.1.1.1.1.1.2.2.1.cell 0
        have zDa1 := K12.out.here.1.1.1.1.1.1.1.1.1.2.2.1.cell 1
        have zDx0 := K12.out.here.1.1.1.2.2.1.cell 0
        have zDx1 := K12.out.here.1.1.1.2.2.1.cell 1
        simp at zDa0 zDa1 zDx0 zDx1
        go_wp2_with fail
        refine (eq_nums (some ⟨gp, 0, none⟩) (some ⟨gy2, 0, none⟩) lenP lenP lenP P _ (IIn.of K12.out.here.1.1.2 (by omega)) K12.out.here.2).mono ?_
        rintro e v5 ⟨rfl, hb⟩
        have K13 := Lib.hid (K12.out.move hb)
        clear hb
        clear zDa0 zDa1 zDx0 zDx1
        have zDa0 := K13.out.here.1.1.1.1.1.1.1.1.1.2.2.1.cell 0
        have zDa1 := K13.out.here.1.1.1.1.1.1.1.1.1.2.2.1.cell 1
        have zDx0 := K13.out.here.1.1.1.2.2.1.cell 0
        have zDx1 := K13.out.here.1.1.1.2.2.1.cell 1
        simp at zDa0 zDa1 zDx0 zDx1
        go_wp2_with fail
        refine (mark_box 1 r1 n0 (some ⟨gx, 0, none⟩) len len _ L _ HN.out K13.out.here.1.1.1.1.2 (by omega) (by omega) (by omega) Hr1.out).mono ?_
        rintro e v6 ⟨rfl, hownm, hg⟩
        have K14 := Lib.hid ((((K5.out.and (kp_start wc)).move (below_mark K13.out.here.1.1.1.1.1.2 rfl K13.out.here.1.1.1.1.2 hg (Nat.le_refl _))).and (kp_own (K13.out.here.1.1.2.grown hg HX0.out))).and (kp_own (K13.out.here.1.2.grown hg HX5.out)))
        clear hownm hg
        clear zDa0 zDa1 zDx0 zDx1
        have zDa0 := K14.out.here.1.1.1.1.1.1.2.2.1.cell 0
        have zDa1 := K14.out.here.1.1.1.1.1.1.2.2.1.cell 1
        simp at zDa0 zDa1
        go_wp2_with fail
        refine (mark_nums r1 rp (some ⟨gp, 0, none⟩) lenP lenP _ P _ HNP.out K14.out.here.1.2 (by omega) (by omega) Hrp.out).mono ?_
        rintro e v7 ⟨rfl, hownm, hg⟩
        have K15 := Lib.hid (((K5.out.and (kp_start wc)).move (below_mark K14.out.here.1.1.2 rfl K14.out.here.1.2 hg HCP.out)).and (kp_own (K14.out.here.2.grown hg HP0.out)))
        clear hownm hg
        clear zDa0 zDa1
        have zDa0 := K15.out.here.1.1.1.1.1.2.2.1.cell 0
        have zDa1 := K15.out.here.1.1.1.1.1.2.2.1.cell 1
        simp at zDa0 zDa1
        go_wp2_with fail
        refine (eq_nums AG AH NG capG capH G _ (IIn.of K15.out.here.2 (by omega)) K15.out.here.1.1.2).mono ?_
        rintro e v8 ⟨rfl, hb⟩
        have K16 := Lib.hid (K15.out.move hb)
        clear hb
        clear zDa0 zDa1
        have zDa0 := K16.out.here.1.1.1.1.1.2.2.1.cell 0
        have zDa1 := K16.out.here.1.1.1.1.1.2.2.1.cell 1
        simp at zDa0 zDa1
        go_wp2_with fail
        refine (mark_nums 1 r3 AG capG NG _ G _ HNH.out.symm K16.out.here.2 (by omega) (by omega) Hr3.out).mono ?_
        rintro e v9 ⟨rfl, hownm, hg⟩
        have K17 := Lib.hid (((K5.out.and (kp_start wc)).move (below_mark K16.out.here.1.2 rfl K16.out.here.2 hg HCB.out)).and (kp_own hownm))
        clear hownm hg
        clear zDa0 zDa1
        have zDa0 := K17.out.here.1.1.1.1.1.2.2.1.cell 0
        have zDa1 := K17.out.here.1.1.1.1.1.2.2.1.cell 1
        simp at zDa0 zDa1
        go_wp2_with fail
        refine (held_nums 1 r3 AG capG NG _ K17.out.here.2.at (by omega) (by omega) Hr3.out).mono ?_
        rintro e v10 ⟨rfl, rfl⟩
        go_wp2_with fail
        refine (to_box n0 A len cap L _ K17.out.here.1.1.1.1.1.1.1.2 hlen).mono ?_
        rintro e v11 ⟨g2, rfl, hown, hb⟩
        have K18 := Lib.hid ((K17.out.move hb).and (MIn.of hown (by omega)).keep)
        clear hb hown
        clear zDa0 zDa1
        have zDa0 := K18.out.here.1.1.1.1.1.1.2.2.1.cell 0
        have zDa1 := K18.out.here.1.1.1.1.1.1.2.2.1.cell 1
        simp at zDa0 zDa1
        go_wp2_with fail
        refine (to_ints AP lenP capP P _ HNP.out K18.out.here.1.1.1.1.1.1.1.2.2.2.2 hlenP).mono ?_
        rintro e v12 ⟨gp2, rfl, hown, hb⟩
        have K19 := Lib.hid ((K18.out.move hb).and (IIn.of hown (by omega)).keep)
        clear hb hown
        clear zDa0 zDa1
        have zDa0 := K19.out.here.1.1.1.1.1.1.1.2.2.1.cell 0
        have zDa1 := K19.out.here.1.1.1.1.1.1.1.2.2.1.cell 1
        simp at zDa0 zDa1
        go_wp2_with fail
        refine (impl_uids_at HRR.out (some ⟨g2, 0, none⟩) len len (some ⟨gp2, 0, none⟩) lenP lenP _ K19.out.here.1.2 K19.out.here.2).mono ?_
        rintro e w14 ⟨AJ, NJ, capJ, rfl, hownI, hb⟩
        have hNJG : NJ = NG := by rw [HNH.out]; exact hownI.len.1
        subst hNJG
        have K20 := Lib.hid ((K19.out.move hb).and (IIn.of hownI (by omega)).keep)
        clear hb hownI
        clear zDa0 zDa1
        have zDa0 := K20.out.here.1.1.1.1.1.1.1.1.2.2.1.cell 0
        have zDa1 := K20.out.here.1.1.1.1.1.1.1.1.2.2.1.cell 1
        simp at zDa0 zDa1
        go_wp2_with fail
        refine (eq_nums AJ AH NJ capJ capH G _ K20.out.here.2 K20.out.here.1.1.1.1.1.2).mono ?_
        rintro e v13 ⟨rfl, hb⟩
        have K21 := Lib.hid (K20.out.move hb)
        clear hb
        clear zDa0 zDa1
        have zDa0 := K21.out.here.1.1.1.1.1.1.1.1.2.2.1.cell 0
        have zDa1 := K21.out.here.1.1.1.1.1.1.1.1.2.2.1.cell 1
        simp at zDa0 zDa1
        go_wp2_with fail
        refine (held_nums 1 r3 AG capG NJ _ K21.out.here.1.1.1.2.at (by omega) (by omega) Hr3.out).mono ?_
        rintro e v14 ⟨rfl, rfl⟩
        go_wp2
        go_ret
        exact ⟨rfl, K21.out.here.1.1.1.1.1.1.1.1.1.1.1⟩
  · have hs' : (1048576 : Int) < (lenP : Int) := by omega
    go_enter Try.func13, Try.ntmps13
    go_wp2
    go_ret
    exact ⟨rfl, (Below.refl _ _).alloc (Nat.le_refl _) _⟩
end Go.Proofs.Ytmljdbbbfpmbcaa
