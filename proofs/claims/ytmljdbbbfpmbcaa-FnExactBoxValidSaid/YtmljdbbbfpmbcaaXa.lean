/-
  The walks of the laws FnExactBoxValid, FnExactBoxSize. Condition: the code can be read.
-/
import Derived.Test.YtmljdbbbfpmbcaaEz
import Derived.Test.YtmljdbbbfpmbcaaLu
import Derived.BigQuiet
import Derived.Deep.RegionHeld3
import Derived.Outline
namespace Go.Proofs.Ytmljdbbbfpmbcaa
open Go.RowKit
set_option linter.unusedVariables false

set_option maxRecDepth 20000 in
set_option maxHeartbeats 2000000 in
theorem law_FnExactBoxValid (n0 : Int) (A : Option Addr) (len cap : Nat) (w : World) (h : BoxArg w A len cap) : Calls Try.prog 8 #[.agg #[.int .i64 n0, .slice A len cap]] w (Holds1 w) := by
  obtain ⟨L, hA⟩ := h
  have HA := Lib.hid hA
  have HN := Lib.hid hA.1
  obtain ⟨r, hr⟩ : ∃ r, szB len L 1048576 = r := ⟨_, rfl⟩
  have hrc : r = -1 ∨ (0 ≤ r ∧ r ≤ 1048576 ∧ (len : Int) ≤ 1048576) := by
    by_cases h0 : r < 0
    · exact .inl (by rw [← hr]; exact szB_neg (by rw [hr]; exact h0))
    · have h1 := szB_le (n := len) (L := L) (left := 1048576) (by rw [hr]; omega)
      rw [hr] at h1
      exact .inr ⟨by omega, h1.2, h1.1⟩
  have HR := Lib.hid hr
  clear hA hr
  obtain ⟨v, hv⟩ : ∃ v, bOk n0 L = v := ⟨_, rfl⟩
  have HV := Lib.hid hv
  have hvv : (v != v) = false := by simp
  clear hv
  rcases hrc with rfl | ⟨hr0, hr1, hlen0⟩
  · obtain ⟨Da, hDa⟩ : ∃ D, w.heap.size = D := ⟨_, rfl⟩
    have K1 := Lib.hid ((((kp_start w).and HA.out.keep).alloc (.cells #[.int .i64 n0, .slice A len cap] 45)).and (kp_one w 45 #[.int .i64 n0, .slice A len cap] hDa))
    have zDa0 := K1.out.here.2.2.1.cell 0
    have zDa1 := K1.out.here.2.2.1.cell 1
    simp at zDa0 zDa1
    go_enter Try.func8, Try.ntmps8
    go_wp2_with fail
    refine (sz_box n0 A len cap 1048576 (-1) L _ K1.out.here.1.2 (by omega) (by omega) HR.out).mono ?_
    rintro e w1 ⟨rfl, hb⟩
    have K2 := Lib.hid (K1.out.move hb)
    clear hb
    clear zDa0 zDa1
    have zDa0 := K2.out.here.2.2.1.cell 0
    have zDa1 := K2.out.here.2.2.1.cell 1
    simp at zDa0 zDa1
    go_wp2
    go_ret
    exact ⟨rfl, K2.out.here.1.1⟩
  · have hlen : len ≤ 1048576 := by omega
    have hrf : ¬ r < 0 := by omega
    have hrd : decide (r < 0) = false := decide_eq_false hrf
    obtain ⟨Da, hDa⟩ : ∃ D, w.heap.size = D := ⟨_, rfl⟩
    have K1 := Lib.hid ((((kp_start w).and HA.out.keep).alloc (.cells #[.int .i64 n0, .slice A len cap] 45)).and (kp_one w 45 #[.int .i64 n0, .slice A len cap] hDa))
    have zDa0 := K1.out.here.2.2.1.cell 0
    have zDa1 := K1.out.here.2.2.1.cell 1
    simp at zDa0 zDa1
    go_enter Try.func8, Try.ntmps8
    go_wp2_with fail
    refine (sz_box n0 A len cap 1048576 r L _ K1.out.here.1.2 (by omega) (by omega) HR.out).mono ?_
    rintro e w1 ⟨rfl, hb⟩
    have K2 := Lib.hid (K1.out.move hb)
    clear hb
    clear zDa0 zDa1
    have zDa0 := K2.out.here.2.2.1.cell 0
    have zDa1 := K2.out.here.2.2.1.cell 1
    simp at zDa0 zDa1
    go_wp2_with fail
    refine (to_box n0 A len cap L _ K2.out.here.1.2 hlen).mono ?_
    rintro e w2 ⟨g1, rfl, hown, hb⟩
    have K3 := Lib.hid ((K2.out.move hb).and (MIn.of hown (by omega)).keep)
    clear hb hown
    clear zDa0 zDa1
    have zDa0 := K3.out.here.1.2.2.1.cell 0
    have zDa1 := K3.out.here.1.2.2.1.cell 1
    simp at zDa0 zDa1
    go_wp2_with fail
    refine (boxvalid_at HV.out (some ⟨g1, 0, none⟩) len len _ K3.out.here.2).mono ?_
    rintro e w3 ⟨rfl, hb⟩
    have K4 := Lib.hid (K3.out.move hb)
    clear hb
    clear zDa0 zDa1
    have zDa0 := K4.out.here.1.2.2.1.cell 0
    have zDa1 := K4.out.here.1.2.2.1.cell 1
    simp at zDa0 zDa1
    go_wp2_with fail
    refine (to_box n0 A len cap L _ K4.out.here.1.1.2 hlen).mono ?_
    rintro e w4 ⟨gx, rfl, hown, hb⟩
    obtain ⟨Dx, hDx⟩ : ∃ D, w4.heap.size = D := ⟨_, rfl⟩
    have K5 := Lib.hid ((((K4.out.move hb).and (kp_own hown)).alloc (.cells #[.int .i64 n0, .slice (some ⟨gx, 0, none⟩) len len] 25)).and (kp_one w4 25 #[.int .i64 n0, .slice (some ⟨gx, 0, none⟩) len len] hDx))
    clear hb hown
    clear zDa0 zDa1
    have zDa0 := K5.out.here.1.1.1.2.2.1.cell 0
    have zDa1 := K5.out.here.1.1.1.2.2.1.cell 1
    have zDx0 := K5.out.here.2.2.1.cell 0
    have zDx1 := K5.out.here.2.2.1.cell 1
    simp at zDa0 zDa1 zDx0 zDx1
    go_wp2_with fail
    refine (implvalid_at HV.out (some ⟨gx, 0, none⟩) len len _ (MIn.of K5.out.here.1.2 (by omega))).mono ?_
    rintro e w5 ⟨rfl, hb⟩
    have K6 := Lib.hid (K5.out.move hb)
    clear hb
    clear zDa0 zDa1 zDx0 zDx1
    have zDa0 := K6.out.here.1.1.1.2.2.1.cell 0
    have zDa1 := K6.out.here.1.1.1.2.2.1.cell 1
    have zDx0 := K6.out.here.2.2.1.cell 0
    have zDx1 := K6.out.here.2.2.1.cell 1
    simp at zDa0 zDa1 zDx0 zDx1
    go_wp2_with fail
    have K7 := Lib.hid K6.out.drew
    clear zDa0 zDa1 zDx0 zDx1
    go_region_held3 (fun w' => w'.cell? ⟨Da, 0, none⟩ = some (.int .i64 n0) ∧ w'.cell? ⟨Da, 1, none⟩ = some (.slice A len cap) ∧ w'.cell? ⟨Dx, 0, none⟩ = some (.int .i64 n0) ∧ w'.cell? ⟨Dx, 1, none⟩ = some (.slice (some ⟨gx, 0, none⟩) len len)) (first | exact ⟨KC.out.here.1.1.1.1.2.2.1.cell 0, KC.out.here.1.1.1.1.2.2.1.cell 1, KC.out.here.1.2.2.1.cell 0, KC.out.here.1.2.2.1.cell 1⟩ | exact ⟨KB.out.here.1.1.1.1.2.2.1.cell 0, KB.out.here.1.1.1.1.2.2.1.cell 1, KB.out.here.1.2.2.1.cell 0, KB.out.here.1.2.2.1.cell 1⟩ | exact ⟨K7.out.here.1.1.1.2.2.1.cell 0, K7.out.here.1.1.1.2.2.1.cell 1, K7.out.here.2.2.1.cell 0, K7.out.here.2.2.1.cell 1⟩ | go_keep) (first
      | (go_at_call 31; refine (to_box n0 A len cap L _ K7.out.here.1.1.1.1.2 hlen).mono ?_; rintro e w6 ⟨gy, rfl, hown, hb⟩; have KB := Lib.hid ((K7.out.move hb).and (MIn.of hown (by omega)).keep); clear hb hown)
      | (go_at_call 32; refine (eq_box n0 (some ⟨gx, 0, none⟩) (some ⟨gy, 0, none⟩) len len len L _ (MIn.of KB.out.here.1.1.2 (by omega)) KB.out.here.2).mono ?_; rintro e w7 ⟨rfl, hb⟩; have KC := Lib.hid (KB.out.move hb); clear hb))
    all_goals
      have K8 := Lib.hid KC.out.l
      have zDa0 := K8.out.here.1.1.1.2.2.1.cell 0
      have zDa1 := K8.out.here.1.1.1.2.2.1.cell 1
      have zDx0 := K8.out.here.2.2.1.cell 0
      have zDx1 := K8.out.here.2.2.1.cell 1
      simp at zDa0 zDa1 zDx0 zDx1
      go_wp2
      go_ret
      exact ⟨rfl, K8.out.here.1.1.1.1.1⟩

set_option maxRecDepth 20000 in
set_option maxHeartbeats 2000000 in
theorem law_FnExactBoxSize (n0 : Int) (A : Option Addr) (len cap : Nat) (w : World) (h : BoxArg w A len cap) : Calls Try.prog 14 #[.agg #[.int .i64 n0, .slice A len cap]] w (Holds1 w) := by
  obtain ⟨L, hA⟩ := h
  have HA := Lib.hid hA
  have HN := Lib.hid hA.1
  obtain ⟨r, hr⟩ : ∃ r, szB len L 1048576 = r := ⟨_, rfl⟩
  have hrc : r = -1 ∨ (0 ≤ r ∧ r ≤ 1048576 ∧ (len : Int) ≤ 1048576) := by
    by_cases h0 : r < 0
    · exact .inl (by rw [← hr]; exact szB_neg (by rw [hr]; exact h0))
    · have h1 := szB_le (n := len) (L := L) (left := 1048576) (by rw [hr]; omega)
      rw [hr] at h1
      exact .inr ⟨by omega, h1.2, h1.1⟩
  have HR := Lib.hid hr
  clear hA hr
  obtain ⟨v, hv⟩ : ∃ v, bxSz n0 L = v := ⟨_, rfl⟩
  have HV := Lib.hid hv
  have hvv : (v != v) = false := by simp
  clear hv
  rcases hrc with rfl | ⟨hr0, hr1, hlen0⟩
  · obtain ⟨Da, hDa⟩ : ∃ D, w.heap.size = D := ⟨_, rfl⟩
    have K1 := Lib.hid ((((kp_start w).and HA.out.keep).alloc (.cells #[.int .i64 n0, .slice A len cap] 45)).and (kp_one w 45 #[.int .i64 n0, .slice A len cap] hDa))
    have zDa0 := K1.out.here.2.2.1.cell 0
    have zDa1 := K1.out.here.2.2.1.cell 1
    simp at zDa0 zDa1
    go_enter Try.func14, Try.ntmps14
    go_wp2_with fail
    refine (sz_box n0 A len cap 1048576 (-1) L _ K1.out.here.1.2 (by omega) (by omega) HR.out).mono ?_
    rintro e w1 ⟨rfl, hb⟩
    have K2 := Lib.hid (K1.out.move hb)
    clear hb
    clear zDa0 zDa1
    have zDa0 := K2.out.here.2.2.1.cell 0
    have zDa1 := K2.out.here.2.2.1.cell 1
    simp at zDa0 zDa1
    go_wp2
    go_ret
    exact ⟨rfl, K2.out.here.1.1⟩
  · have hlen : len ≤ 1048576 := by omega
    have hrf : ¬ r < 0 := by omega
    have hrd : decide (r < 0) = false := decide_eq_false hrf
    obtain ⟨Da, hDa⟩ : ∃ D, w.heap.size = D := ⟨_, rfl⟩
    have K1 := Lib.hid ((((kp_start w).and HA.out.keep).alloc (.cells #[.int .i64 n0, .slice A len cap] 45)).and (kp_one w 45 #[.int .i64 n0, .slice A len cap] hDa))
    have zDa0 := K1.out.here.2.2.1.cell 0
    have zDa1 := K1.out.here.2.2.1.cell 1
    simp at zDa0 zDa1
    go_enter Try.func14, Try.ntmps14
    go_wp2_with fail
    refine (sz_box n0 A len cap 1048576 r L _ K1.out.here.1.2 (by omega) (by omega) HR.out).mono ?_
    rintro e w1 ⟨rfl, hb⟩
    have K2 := Lib.hid (K1.out.move hb)
    clear hb
    clear zDa0 zDa1
    have zDa0 := K2.out.here.2.2.1.cell 0
    have zDa1 := K2.out.here.2.2.1.cell 1
    simp at zDa0 zDa1
    go_wp2_with fail
    refine (to_box n0 A len cap L _ K2.out.here.1.2 hlen).mono ?_
    rintro e w2 ⟨g1, rfl, hown, hb⟩
    have K3 := Lib.hid ((K2.out.move hb).and (MIn.of hown (by omega)).keep)
    clear hb hown
    clear zDa0 zDa1
    have zDa0 := K3.out.here.1.2.2.1.cell 0
    have zDa1 := K3.out.here.1.2.2.1.cell 1
    simp at zDa0 zDa1
    go_wp2_with fail
    refine (specsize_at HV.out (some ⟨g1, 0, none⟩) len len _ K3.out.here.2).mono ?_
    rintro e w3 ⟨rfl, hb⟩
    have K4 := Lib.hid (K3.out.move hb)
    clear hb
    clear zDa0 zDa1
    have zDa0 := K4.out.here.1.2.2.1.cell 0
    have zDa1 := K4.out.here.1.2.2.1.cell 1
    simp at zDa0 zDa1
    go_wp2_with fail
    refine (to_box n0 A len cap L _ K4.out.here.1.1.2 hlen).mono ?_
    rintro e w4 ⟨gx, rfl, hown, hb⟩
    obtain ⟨Dx, hDx⟩ : ∃ D, w4.heap.size = D := ⟨_, rfl⟩
    have K5 := Lib.hid ((((K4.out.move hb).and (kp_own hown)).alloc (.cells #[.int .i64 n0, .slice (some ⟨gx, 0, none⟩) len len] 25)).and (kp_one w4 25 #[.int .i64 n0, .slice (some ⟨gx, 0, none⟩) len len] hDx))
    clear hb hown
    clear zDa0 zDa1
    have zDa0 := K5.out.here.1.1.1.2.2.1.cell 0
    have zDa1 := K5.out.here.1.1.1.2.2.1.cell 1
    have zDx0 := K5.out.here.2.2.1.cell 0
    have zDx1 := K5.out.here.2.2.1.cell 1
    simp at zDa0 zDa1 zDx0 zDx1
    go_wp2_with fail
    refine (implsize_at HV.out (some ⟨gx, 0, none⟩) len len _ (MIn.of K5.out.here.1.2 (by omega))).mono ?_
    rintro e w5 ⟨rfl, hb⟩
    have K6 := Lib.hid (K5.out.move hb)
    clear hb
    clear zDa0 zDa1 zDx0 zDx1
    have zDa0 := K6.out.here.1.1.1.2.2.1.cell 0
    have zDa1 := K6.out.here.1.1.1.2.2.1.cell 1
    have zDx0 := K6.out.here.2.2.1.cell 0
    have zDx1 := K6.out.here.2.2.1.cell 1
    simp at zDa0 zDa1 zDx0 zDx1
    go_wp2_with fail
    have K7 := Lib.hid K6.out.drew
    clear zDa0 zDa1 zDx0 zDx1
    go_region_held3 (fun w' => w'.cell? ⟨Da, 0, none⟩ = some (.int .i64 n0) ∧ w'.cell? ⟨Da, 1, none⟩ = some (.slice A len cap) ∧ w'.cell? ⟨Dx, 0, none⟩ = some (.int .i64 n0) ∧ w'.cell? ⟨Dx, 1, none⟩ = some (.slice (some ⟨gx, 0, none⟩) len len)) (first | exact ⟨KC.out.here.1.1.1.1.2.2.1.cell 0, KC.out.here.1.1.1.1.2.2.1.cell 1, KC.out.here.1.2.2.1.cell 0, KC.out.here.1.2.2.1.cell 1⟩ | exact ⟨KB.out.here.1.1.1.1.2.2.1.cell 0, KB.out.here.1.1.1.1.2.2.1.cell 1, KB.out.here.1.2.2.1.cell 0, KB.out.here.1.2.2.1.cell 1⟩ | exact ⟨K7.out.here.1.1.1.2.2.1.cell 0, K7.out.here.1.1.1.2.2.1.cell 1, K7.out.here.2.2.1.cell 0, K7.out.here.2.2.1.cell 1⟩ | go_keep) (first
      | (go_at_call 31; refine (to_box n0 A len cap L _ K7.out.here.1.1.1.1.2 hlen).mono ?_; rintro e w6 ⟨gy, rfl, hown, hb⟩; have KB := Lib.hid ((K7.out.move hb).and (MIn.of hown (by omega)).keep); clear hb hown)
      | (go_at_call 32; refine (eq_box n0 (some ⟨gx, 0, none⟩) (some ⟨gy, 0, none⟩) len len len L _ (MIn.of KB.out.here.1.1.2 (by omega)) KB.out.here.2).mono ?_; rintro e w7 ⟨rfl, hb⟩; have KC := Lib.hid (KB.out.move hb); clear hb))
    all_goals
      have K8 := Lib.hid KC.out.l
      have zDa0 := K8.out.here.1.1.1.2.2.1.cell 0
      have zDa1 := K8.out.here.1.1.1.2.2.1.cell 1
      have zDx0 := K8.out.here.2.2.1.cell 0
      have zDx1 := K8.out.here.2.2.1.cell 1
      simp at zDa0 zDa1 zDx0 zDx1
      go_wp2
      go_ret
      exact ⟨rfl, K8.out.here.1.1.1.1.1⟩
end Go.Proofs.Ytmljdbbbfpmbcaa
