/-
  The walks of the laws FnBoxOrder. Condition: the code can be read.
-/
import Derived.Test.YtmljdbbbfpmbcaaLu
import Derived.BigQuiet
import Derived.Deep.RegionHeld3
import Derived.Outline
namespace Go.Proofs.Ytmljdbbbfpmbcaa
open Go.RowKit
set_option linter.unusedVariables false

set_option maxRecDepth 20000 in
set_option maxHeartbeats 1000000 in
theorem law_FnBoxOrder (A : Option Addr) (len cap : Nat) (w : World) (h : Coded w A len cap) : Calls Try.prog 4 #[.slice A len cap] w (Holds1 w) := by
  have HC := Lib.hid h
  clear h
  by_cases hl : len ≤ 1048576
  · have hl' : (len : Int) ≤ 1048576 := by omega
    go_enter Try.func4, Try.ntmps4
    go_wp2_with fail
    refine (draw_bvalid A len cap _ HC.out).mono ?_
    rintro e w1 ⟨n, A1, N1, cap1, L, rfl, hN1, hn1, hn2, hown, hb⟩
    have HNL := Lib.hid hown.len.1
    obtain ⟨D1, hD1⟩ : ∃ D, w1.heap.size = D := ⟨_, rfl⟩
    have K1 := Lib.hid (((((kp_start w).move hb).and (MIn.of hown (by omega)).keep).alloc (.cells #[.int .i64 n, .slice A1 N1 cap1] 25)).and (kp_one w1 25 #[.int .i64 n, .slice A1 N1 cap1] hD1))
    clear hb hown
    have zD10 := K1.out.here.2.2.1.cell 0
    have zD11 := K1.out.here.2.2.1.cell 1
    simp at zD10 zD11
    obtain ⟨bv, hbv⟩ : ∃ b, bOk n L = b := ⟨_, rfl⟩
    go_wp2_with fail
    refine (implvalid_at hbv A1 N1 cap1 _ K1.out.here.1.2).mono ?_
    rintro e w2 ⟨rfl, hb⟩
    have K2 := Lib.hid (K1.out.move hb)
    clear hb
    clear zD10 zD11
    have zD10 := K2.out.here.2.2.1.cell 0
    have zD11 := K2.out.here.2.2.1.cell 1
    simp at zD10 zD11
    go_wp2_with fail
    refine (boxvalid_at hbv A1 N1 cap1 _ K2.out.here.1.2).mono ?_
    rintro e w3 ⟨rfl, hb⟩
    have K3 := Lib.hid (K2.out.move hb)
    clear hb
    clear zD10 zD11
    have zD10 := K3.out.here.2.2.1.cell 0
    have zD11 := K3.out.here.2.2.1.cell 1
    simp at zD10 zD11
    have HBV := Lib.hid hbv
    clear hbv
    cases bv with
    | false =>
      go_wp2
      go_ret
      exact ⟨rfl, K3.out.here.1.1⟩
    | true =>
      have hbi := bOk_iff.1 HBV.out
      have hN10 : (N1 : Int) ≤ 10 := by have h1 := hbi.2.2.2.2; have h2 := HNL.out; omega
      have HASC := Lib.hid hbi.2.1
      clear hbi
      have HBS := Lib.hid (Below.refl w3.heap.size w3)
      go_wp2
      go_loopw [6] (fun i wr => ∃ k : Nat, k ≤ N1 ∧ i = .int .i64 (k : Int) ∧ Hid (Below w3.heap.size w3 wr)) (fun i _ => N1 - (intOf i).toNat)
      case atStart => exact ⟨0, Nat.zero_le _, by go_num, HBS⟩
      case round =>
        obtain ⟨k, hk, hi, HB⟩ := hrel
        clear zD10 zD11
        have K4 := Lib.hid (K3.out.move HB.out)
        have zD10 := K4.out.here.2.2.1.cell 0
        have zD11 := K4.out.here.2.2.1.cell 1
        simp at zD10 zD11
        by_cases hk0 : k = 0
        · subst hk0
          rw [show ((0 : Nat) : Int) = 0 from rfl] at hi
          subst hi
          by_cases hlt : 0 < N1
          · have h5 : (0 : Int) < (N1 : Int) := by omega
            have h0 : (0 : Int) ≤ 0 := by omega
            obtain ⟨⟨u, f, t⟩, hx⟩ : ∃ x, L[0]? = some x := ⟨_, List.getElem?_eq_getElem (by rw [← HNL.out]; exact hlt)⟩
            obtain ⟨b, o, hAe, hbb, d0, -, -⟩ := mail_at K4.out.here.1.2.2.2.1 hx
            have hun : ¬ n ≤ u := by have h1 := (bOk_get HBV.out hx).2; simp only at h1; omega
            simp only [Nat.zero_mul, Nat.add_zero] at d0
            clear hx
            subst hAe
            have HBD : Hid (Below w3.heap.size w3 wr.drew) := ⟨HB.out.os, HB.out.tape, HB.out.output, HB.out.size, HB.out.block⟩
            have HD0 := Lib.hid d0
            have g0 : decide (n ≤ u) = false := decide_eq_false hun
            go_wp2
            go_big_quiet (fail)
            go_wp2
            go_roundw
            case rel => exact ⟨1, by omega, by go_num, Lib.hid (below_drewN' HB.out _)⟩
            case measure => simp [intOf]; omega
          · have h5 : ¬ (0 : Int) < (N1 : Int) := by omega
            go_wp2
            go_ret
            exact ⟨rfl, K4.out.here.1.1⟩
        · subst hi
          by_cases hlt : k < N1
          · have h0 : (0 : Int) ≤ (k : Int) := by omega
            have h5 : (k : Int) < (N1 : Int) := by omega
            obtain ⟨⟨u, f, t⟩, hx⟩ : ∃ x, L[k]? = some x := ⟨_, List.getElem?_eq_getElem (by rw [← HNL.out]; exact hlt)⟩
            obtain ⟨b, o, hAe, hbb, d0, -, -⟩ := mail_at K4.out.here.1.2.2.2.1 hx
            have hun : ¬ n ≤ u := by have h1 := (bOk_get HBV.out hx).2; simp only at h1; omega
            have HX := Lib.hid hx
            clear hx
            subst hAe
            obtain ⟨k1, hk1⟩ : ∃ q, k = q + 1 := ⟨k - 1, by omega⟩
            obtain ⟨⟨u1, f1, t1⟩, hx⟩ : ∃ x, L[k1]? = some x := ⟨_, List.getElem?_eq_getElem (by rw [← HNL.out]; omega)⟩
            obtain ⟨b', o', hA2, hbb2, e0, -, -⟩ := mail_at K4.out.here.1.2.2.2.1 hx
            obtain ⟨rfl, rfl⟩ : b' = b ∧ o' = o := by cases hA2; exact ⟨rfl, rfl⟩
            have huu : ¬ u ≤ u1 := by
              obtain ⟨l1, e1⟩ := List.getElem?_eq_some_iff.1 hx
              obtain ⟨l2, e2⟩ := List.getElem?_eq_some_iff.1 HX.out
              have h1 := List.pairwise_iff_getElem.1 HASC.out k1 k l1 l2 (by omega)
              rw [e1, e2] at h1
              simp only at h1
              omega
            clear hx hA2
            have E1 : (k : Int) - 1 = (k1 : Int) := by omega
            have W1 : IntKind.i64.wrap ((k : Int) - 1) = (k1 : Int) := (IntWalk.i64_in _ (by omega)).trans E1
            have W2 : IntKind.i64.wrap (k1 : Int) = (k1 : Int) := IntWalk.i64_in _ (by omega)
            have i0 : (0 : Int) ≤ (k1 : Int) := by omega
            have i1 : (k1 : Int) < (N1 : Int) := by omega
            have g1 : decide (0 < k) = true := decide_eq_true (by omega)
            have g2 : 0 < k := by omega
            have HK1 := Lib.hid hk1
            clear hk1 hk0
            go_wp2
            go_quiet (fail)
            go_wp2
            go_roundw
            case rel => exact ⟨k + 1, by omega, by go_num, Lib.hid (below_drewN' HB.out _)⟩
            case measure => simp [intOf]; omega
          · have h5 : ¬ (k : Int) < (N1 : Int) := by omega
            go_wp2
            go_ret
            exact ⟨rfl, K4.out.here.1.1⟩
  · have hl' : (1048576 : Int) < (len : Int) := by omega
    go_enter Try.func4, Try.ntmps4
    go_wp2
    go_ret
    exact ⟨rfl, Below.refl _ _⟩
end Go.Proofs.Ytmljdbbbfpmbcaa
