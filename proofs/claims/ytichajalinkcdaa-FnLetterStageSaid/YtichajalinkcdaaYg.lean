/-
  sameNames and sameLetter; the walks of the laws FnLetter and FnLetterStage. Condition: the code can be read.
-/
import Derived.Test.YtichajalinkcdaaYb
import Derived.Test.YtichajalinkcdaaYf
namespace Go.Proofs.Ytichajalinkcdaa
open Go.RowKit
set_option linter.unusedVariables false

set_option maxHeartbeats 2000000 in
theorem same_names (A A2 : Option Addr) (n cap cap2 : Nat) (P : List ByteArray) (w : World) (h : SIn w A n cap P) (h2 : SIn w A2 n cap2 P) :
    Calls Try.prog 31 #[.slice A n cap, .slice A2 n cap2] w fun e w' => e = .returned (.bool true) ∧ Below w.heap.size w w' := by
  have H := Lib.hid h
  have H2 := Lib.hid h2
  have hl := h.2.1
  clear h h2
  have hlb : ((n : Int) != (n : Int)) = false := by simp
  go_enter Try.func31, Try.ntmps31
  go_wp2
  go_loopw [5] (fun i wr => ∃ k : Nat, k ≤ n ∧ i = .int .i64 (k : Int) ∧ Hid (Below w.heap.size w wr)) (fun i _ => n - (intOf i).toNat)
  case atStart => exact ⟨0, Nat.zero_le _, by go_num, Below.refl _ _⟩
  case round =>
    obtain ⟨k, hk, rfl, HB⟩ := hrel
    by_cases hlt : k < n
    · have h0 : (0 : Int) ≤ (k : Int) := by omega
      have h5 : (k : Int) < (n : Int) := by omega
      obtain ⟨x, hx⟩ : ∃ x, P[k]? = some x := ⟨_, List.getElem?_eq_getElem (by rw [H.out.1]; exact hlt)⟩
      obtain ⟨b, o, rfl, hb, c0⟩ := str_at (H.out.2.2.1.below HB.out (Nat.le_refl _)) hx
      obtain ⟨b', o', rfl, hb', d0⟩ := str_at (H2.out.2.2.1.below HB.out (Nat.le_refl _)) hx
      clear hx
      go_wp2
      go_quiet (fail)
      go_wp2
      go_roundw
      case rel => exact ⟨k + 1, by omega, by go_num, below_drewN' HB.out _⟩
      case measure => simp [intOf]; omega
    · have h5 : ¬ (k : Int) < (n : Int) := by omega
      go_wp2
      go_ret
      exact ⟨rfl, HB.out⟩
set_option maxHeartbeats 1000000 in
theorem same_letter (us tx : ByteArray) (T : List ByteArray) (A A2 : Option Addr) (N cap cap2 : Nat) (w : World) (h : SIn w A N cap T) (h2 : SIn w A2 N cap2 T) :
    Calls Try.prog 12 #[.agg #[.string us, .slice A N cap, .string tx], .agg #[.string us, .slice A2 N cap2, .string tx]] w fun e w' => e = .returned (.bool true) ∧ Below w.heap.size w w' := by
  obtain ⟨wq, hwq⟩ : ∃ wq, ((w.alloc (.cells #[.string us, .slice A N cap, .string tx] 28)).alloc (.cells #[.string us, .slice A2 N cap2, .string tx] 28)) = wq := ⟨_, rfl⟩
  have HBA : Hid (Below w.heap.size w wq) := by rw [← hwq]; exact ((Below.refl w.heap.size w).alloc (Nat.le_refl _) _).alloc (by simp) _
  have HW0 : Hid (Whole wq w.heap.size 28 #[.string us, .slice A N cap, .string tx]) := by
    rw [← hwq]
    exact (Whole.made w 28 #[.string us, .slice A N cap, .string tx]).alloc _
  have HW1 : Hid (Whole wq (w.heap.size + 1) 28 #[.string us, .slice A2 N cap2, .string tx]) := by
    rw [← hwq]
    have h3 := Whole.made (w.alloc (.cells #[.string us, .slice A N cap, .string tx] 28)) 28 #[.string us, .slice A2 N cap2, .string tx]
    rw [show (w.alloc (.cells #[.string us, .slice A N cap, .string tx] 28)).heap.size = w.heap.size + 1 by simp] at h3
    exact h3
  have H := Lib.hid (h.below HBA.out (Nat.le_refl _))
  have H2 := Lib.hid (h2.below HBA.out (Nat.le_refl _))
  clear h h2
  have x0 := HW0.out.cell 0
  have y0 := HW1.out.cell 0
  have x1 := HW0.out.cell 1
  have y1 := HW1.out.cell 1
  have x2 := HW0.out.cell 2
  have y2 := HW1.out.cell 2
  simp at x0 y0 x1 y1 x2 y2
  go_enter Try.func12, Try.ntmps12
  go_wp2_with fail
  refine (same_names A A2 N cap cap2 T _ H.out H2.out).mono ?_
  rintro e w2 ⟨rfl, hb⟩
  have HB2 := Lib.hid (HBA.out.trans (hb.mono HBA.out.size))
  clear hb
  go_wp2
  go_ret
  exact ⟨rfl, HB2.out⟩
theorem okL_let {st : Int} {us tx : ByteArray} {T : List ByteArray} (h : okL ⟨st, us, T, tx⟩ = true) : letB us T tx = true := by
  unfold okL at h
  simp at h
  obtain ⟨h1, rfl, h3⟩ := h
  unfold sbV at h1
  simp at h1
  unfold letB
  simp [h1.1, h1.2.1, h3]
set_option maxRecDepth 20000 in
set_option maxHeartbeats 4000000 in
theorem law_FnLetterStage (A0 : Option Addr) (len cap0 : Nat) (w : World) (h : Coded w A0 len cap0) : Calls Try.prog 4 #[.slice A0 len cap0] w (Holds1 w) := by
  have HC := Lib.hid h
  clear h
  by_cases hlen : len ≤ 1048576
  · have hlenI : (len : Int) ≤ 1048576 := by omega
    have hlenJ : ¬ (1048576 : Int) < (len : Int) := by omega
    go_enter Try.func4, Try.ntmps4
    go_wp2_with fail
    refine (draw_subletter A0 len cap0 w HC.out).mono ?_
    rintro e w1 ⟨st, us, tx, A, N, cap, T, rfl, hus, htx, hl, hT, ho, hb⟩
    obtain ⟨D, hD⟩ : ∃ D, w1.heap.size = D := ⟨_, rfl⟩
    obtain ⟨w2, hw2⟩ : ∃ w2, w1.alloc (.cells #[.int .i64 st, .string us, .slice A N cap, .string tx] 25) = w2 := ⟨_, rfl⟩
    have HU : Hid (us.size ≤ 16777216) := Lib.hid (by show _ ≤ _; omega)
    have HX : Hid (tx.size ≤ 30) := Lib.hid htx
    have HTL : Hid (T.length ≤ 4194304) := Lib.hid (by show _ ≤ _; omega)
    have HTG : Hid (∀ g ∈ T, g.size ≤ 16777216) := Lib.hid (fun g hg => by have := hT g hg; omega)
    have k2 := ((((below_keep hb hb.size).and (SIn.made ho HTL.out HTG.out).keep).alloc (.cells #[.int .i64 st, .string us, .slice A N cap, .string tx] 25)).and (kp_made w1 25 #[.int .i64 st, .string us, .slice A N cap, .string tx] hD))
    rw [hw2] at k2
    have K2 := Lib.hid k2
    clear hus htx hl hT ho hb k2
    cases hv : sbV ⟨st, us, T, tx⟩ with
    | false =>
      have HV := Lib.hid hv
      have HOK : Hid (okL ⟨st, us, T, tx⟩ = false) := Lib.hid (by unfold okL; rw [hv]; rfl)
      clear hv
      have sc0 := K2.out.here.2.2.cell 0
      have sc1 := K2.out.here.2.2.cell 1
      have sc2 := K2.out.here.2.2.cell 2
      have sc3 := K2.out.here.2.2.cell 3
      simp at sc0 sc1 sc2 sc3
      go_wp2_with fail
      refine (impl_letter st us tx T A N cap _ K2.out.here.1.2 HU.out).mono ?_
      rw [HOK.out]
      rintro e w3 ⟨A3, N3, c3, rfl, hown, hb⟩
      obtain ⟨D3, hD3⟩ : ∃ D, w3.heap.size = D := ⟨_, rfl⟩
      obtain ⟨w4, hw4⟩ : ∃ w4, w3.alloc (.cells #[.string eB, .slice A3 N3 c3, .string eB] 28) = w4 := ⟨_, rfl⟩
      have HN3 : Hid (N3 = List.length ([] : List ByteArray)) := Lib.hid hown.len.1
      have k4 := ((((K2.out.move hb).and (SIn.made hown (by simp) (fun g hg => by cases hg)).keep).alloc (.cells #[.string eB, .slice A3 N3 c3, .string eB] 28)).and (kp_made w3 28 #[.string eB, .slice A3 N3 c3, .string eB] hD3))
      rw [hw4] at k4
      have K4 := Lib.hid k4
      clear hb hown k4
      clear sc0 sc1 sc2 sc3
      have sc0 := K4.out.here.1.1.2.2.cell 0
      have sc1 := K4.out.here.1.1.2.2.cell 1
      have sc2 := K4.out.here.1.1.2.2.cell 2
      have sc3 := K4.out.here.1.1.2.2.cell 3
      simp at sc0 sc1 sc2 sc3
      go_wp2_with fail
      refine (spec_letter st us tx T A N cap _ K4.out.here.1.1.1.2 HU.out).mono ?_
      rw [HOK.out]
      rintro e w5 ⟨A5, N5, c5, rfl, hown, hb⟩
      have hN5 : N3 = N5 := (HN3.out.trans hown.len.1.symm)
      subst hN5
      obtain ⟨D5, hD5⟩ : ∃ D, w5.heap.size = D := ⟨_, rfl⟩
      obtain ⟨w6, hw6⟩ : ∃ w6, w5.alloc (.cells #[.string eB, .slice A5 N3 c5, .string eB] 28) = w6 := ⟨_, rfl⟩
      have k6 := ((((K4.out.move hb).and (SIn.made hown (by simp) (fun g hg => by cases hg)).keep).alloc (.cells #[.string eB, .slice A5 N3 c5, .string eB] 28)).and (kp_made w5 28 #[.string eB, .slice A5 N3 c5, .string eB] hD5))
      rw [hw6] at k6
      have K6 := Lib.hid k6
      clear hb hown k6
      clear sc0 sc1 sc2 sc3
      have g0 := K6.out.here.1.1.2.2.cell 0
      have g1 := K6.out.here.1.1.2.2.cell 1
      have g2 := K6.out.here.1.1.2.2.cell 2
      simp at g0 g1 g2
      have p0 := K6.out.here.2.2.cell 0
      have p1 := K6.out.here.2.2.cell 1
      have p2 := K6.out.here.2.2.cell 2
      simp at p0 p1 p2
      go_wp2_with fail
      refine (same_letter eB eB [] A3 A5 N3 c3 c5 _ K6.out.here.1.1.1.2 K6.out.here.1.2).mono ?_
      rintro e w7 ⟨rfl, hb⟩
      have K7 := Lib.hid (K6.out.move hb)
      clear hb
      clear g0 g1 g2 p0 p1 p2
      have sc0 := K7.out.here.1.1.1.1.2.2.cell 0
      have sc1 := K7.out.here.1.1.1.1.2.2.cell 1
      have sc2 := K7.out.here.1.1.1.1.2.2.cell 2
      have sc3 := K7.out.here.1.1.1.1.2.2.cell 3
      simp at sc0 sc1 sc2 sc3
      go_wp2_with fail
      refine (isub_at HV.out _ K7.out.here.1.1.1.1.1.2 HU.out).mono ?_
      rintro e w8 ⟨rfl, hb⟩
      have K8 := Lib.hid (K7.out.move hb)
      clear hb
      clear sc0 sc1 sc2 sc3
      have sc0 := K8.out.here.1.1.1.1.2.2.cell 0
      have sc1 := K8.out.here.1.1.1.1.2.2.cell 1
      have sc2 := K8.out.here.1.1.1.1.2.2.cell 2
      have sc3 := K8.out.here.1.1.1.1.2.2.cell 3
      simp at sc0 sc1 sc2 sc3
      go_wp2
      go_ret
      first
        | exact ⟨rfl, K8.out.here.1.1.1.1.1.1⟩
        | exact ⟨ret_bl (a := !decide ((tx.size : Int) ≤ 20)) (b := true) (by rw [decide_eq_false (p := ((tx.size : Int) ≤ 20)) (by omega)]; rfl), K8.out.here.1.1.1.1.1.1⟩
    | true =>
      by_cases h5 : st = 5
      · subst h5
        by_cases ht : tx.size ≤ 20
        · have ht2 : (tx.size : Int) ≤ 20 := by omega
          have HV := Lib.hid hv
          have HOK : Hid (okL ⟨5, us, T, tx⟩ = true) := Lib.hid (by unfold okL; rw [hv]; simp [ht])
          clear hv
          have sc0 := K2.out.here.2.2.cell 0
          have sc1 := K2.out.here.2.2.cell 1
          have sc2 := K2.out.here.2.2.cell 2
          have sc3 := K2.out.here.2.2.cell 3
          simp at sc0 sc1 sc2 sc3
          go_wp2_with fail
          refine (impl_letter 5 us tx T A N cap _ K2.out.here.1.2 HU.out).mono ?_
          rw [HOK.out]
          rintro e w3 ⟨A3, N3, c3, rfl, hown, hb⟩
          obtain ⟨D3, hD3⟩ : ∃ D, w3.heap.size = D := ⟨_, rfl⟩
          obtain ⟨w4, hw4⟩ : ∃ w4, w3.alloc (.cells #[.string us, .slice A3 N3 c3, .string tx] 28) = w4 := ⟨_, rfl⟩
          have HN3 : Hid (N3 = List.length (T : List ByteArray)) := Lib.hid hown.len.1
          have k4 := ((((K2.out.move hb).and (SIn.made hown HTL.out HTG.out).keep).alloc (.cells #[.string us, .slice A3 N3 c3, .string tx] 28)).and (kp_made w3 28 #[.string us, .slice A3 N3 c3, .string tx] hD3))
          rw [hw4] at k4
          have K4 := Lib.hid k4
          clear hb hown k4
          clear sc0 sc1 sc2 sc3
          have sc0 := K4.out.here.1.1.2.2.cell 0
          have sc1 := K4.out.here.1.1.2.2.cell 1
          have sc2 := K4.out.here.1.1.2.2.cell 2
          have sc3 := K4.out.here.1.1.2.2.cell 3
          simp at sc0 sc1 sc2 sc3
          go_wp2_with fail
          refine (spec_letter 5 us tx T A N cap _ K4.out.here.1.1.1.2 HU.out).mono ?_
          rw [HOK.out]
          rintro e w5 ⟨A5, N5, c5, rfl, hown, hb⟩
          have hN5 : N3 = N5 := (HN3.out.trans hown.len.1.symm)
          subst hN5
          obtain ⟨D5, hD5⟩ : ∃ D, w5.heap.size = D := ⟨_, rfl⟩
          obtain ⟨w6, hw6⟩ : ∃ w6, w5.alloc (.cells #[.string us, .slice A5 N3 c5, .string tx] 28) = w6 := ⟨_, rfl⟩
          have k6 := ((((K4.out.move hb).and (SIn.made hown HTL.out HTG.out).keep).alloc (.cells #[.string us, .slice A5 N3 c5, .string tx] 28)).and (kp_made w5 28 #[.string us, .slice A5 N3 c5, .string tx] hD5))
          rw [hw6] at k6
          have K6 := Lib.hid k6
          clear hb hown k6
          clear sc0 sc1 sc2 sc3
          have g0 := K6.out.here.1.1.2.2.cell 0
          have g1 := K6.out.here.1.1.2.2.cell 1
          have g2 := K6.out.here.1.1.2.2.cell 2
          simp at g0 g1 g2
          have p0 := K6.out.here.2.2.cell 0
          have p1 := K6.out.here.2.2.cell 1
          have p2 := K6.out.here.2.2.cell 2
          simp at p0 p1 p2
          go_wp2_with fail
          refine (same_letter us tx T A3 A5 N3 c3 c5 _ K6.out.here.1.1.1.2 K6.out.here.1.2).mono ?_
          rintro e w7 ⟨rfl, hb⟩
          have K7 := Lib.hid (K6.out.move hb)
          clear hb
          clear g0 g1 g2 p0 p1 p2
          have sc0 := K7.out.here.1.1.1.1.2.2.cell 0
          have sc1 := K7.out.here.1.1.1.1.2.2.cell 1
          have sc2 := K7.out.here.1.1.1.1.2.2.cell 2
          have sc3 := K7.out.here.1.1.1.1.2.2.cell 3
          simp at sc0 sc1 sc2 sc3
          go_wp2_with fail
          refine (isub_at HV.out _ K7.out.here.1.1.1.1.1.2 HU.out).mono ?_
          rintro e w8 ⟨rfl, hb⟩
          have K8 := Lib.hid (K7.out.move hb)
          clear hb
          clear sc0 sc1 sc2 sc3
          have sc0 := K8.out.here.1.1.1.1.2.2.cell 0
          have sc1 := K8.out.here.1.1.1.1.2.2.cell 1
          have sc2 := K8.out.here.1.1.1.1.2.2.cell 2
          have sc3 := K8.out.here.1.1.1.1.2.2.cell 3
          simp at sc0 sc1 sc2 sc3
          go_wp2
          go_ret
          first
            | exact ⟨rfl, K8.out.here.1.1.1.1.1.1⟩
            | exact ⟨ret_bl (a := !decide ((tx.size : Int) ≤ 20)) (b := true) (by rw [decide_eq_false (p := ((tx.size : Int) ≤ 20)) (by omega)]; rfl), K8.out.here.1.1.1.1.1.1⟩
        · have ht2 : ¬ (tx.size : Int) ≤ 20 := by omega
          have HV := Lib.hid hv
          have HOK : Hid (okL ⟨5, us, T, tx⟩ = false) := Lib.hid (by unfold okL; rw [hv]; simp [ht])
          clear hv
          have sc0 := K2.out.here.2.2.cell 0
          have sc1 := K2.out.here.2.2.cell 1
          have sc2 := K2.out.here.2.2.cell 2
          have sc3 := K2.out.here.2.2.cell 3
          simp at sc0 sc1 sc2 sc3
          go_wp2_with fail
          refine (impl_letter 5 us tx T A N cap _ K2.out.here.1.2 HU.out).mono ?_
          rw [HOK.out]
          rintro e w3 ⟨A3, N3, c3, rfl, hown, hb⟩
          obtain ⟨D3, hD3⟩ : ∃ D, w3.heap.size = D := ⟨_, rfl⟩
          obtain ⟨w4, hw4⟩ : ∃ w4, w3.alloc (.cells #[.string eB, .slice A3 N3 c3, .string eB] 28) = w4 := ⟨_, rfl⟩
          have HN3 : Hid (N3 = List.length ([] : List ByteArray)) := Lib.hid hown.len.1
          have k4 := ((((K2.out.move hb).and (SIn.made hown (by simp) (fun g hg => by cases hg)).keep).alloc (.cells #[.string eB, .slice A3 N3 c3, .string eB] 28)).and (kp_made w3 28 #[.string eB, .slice A3 N3 c3, .string eB] hD3))
          rw [hw4] at k4
          have K4 := Lib.hid k4
          clear hb hown k4
          clear sc0 sc1 sc2 sc3
          have sc0 := K4.out.here.1.1.2.2.cell 0
          have sc1 := K4.out.here.1.1.2.2.cell 1
          have sc2 := K4.out.here.1.1.2.2.cell 2
          have sc3 := K4.out.here.1.1.2.2.cell 3
          simp at sc0 sc1 sc2 sc3
          go_wp2_with fail
          refine (spec_letter 5 us tx T A N cap _ K4.out.here.1.1.1.2 HU.out).mono ?_
          rw [HOK.out]
          rintro e w5 ⟨A5, N5, c5, rfl, hown, hb⟩
          have hN5 : N3 = N5 := (HN3.out.trans hown.len.1.symm)
          subst hN5
          obtain ⟨D5, hD5⟩ : ∃ D, w5.heap.size = D := ⟨_, rfl⟩
          obtain ⟨w6, hw6⟩ : ∃ w6, w5.alloc (.cells #[.string eB, .slice A5 N3 c5, .string eB] 28) = w6 := ⟨_, rfl⟩
          have k6 := ((((K4.out.move hb).and (SIn.made hown (by simp) (fun g hg => by cases hg)).keep).alloc (.cells #[.string eB, .slice A5 N3 c5, .string eB] 28)).and (kp_made w5 28 #[.string eB, .slice A5 N3 c5, .string eB] hD5))
          rw [hw6] at k6
          have K6 := Lib.hid k6
          clear hb hown k6
          clear sc0 sc1 sc2 sc3
          have g0 := K6.out.here.1.1.2.2.cell 0
          have g1 := K6.out.here.1.1.2.2.cell 1
          have g2 := K6.out.here.1.1.2.2.cell 2
          simp at g0 g1 g2
          have p0 := K6.out.here.2.2.cell 0
          have p1 := K6.out.here.2.2.cell 1
          have p2 := K6.out.here.2.2.cell 2
          simp at p0 p1 p2
          go_wp2_with fail
          refine (same_letter eB eB [] A3 A5 N3 c3 c5 _ K6.out.here.1.1.1.2 K6.out.here.1.2).mono ?_
          rintro e w7 ⟨rfl, hb⟩
          have K7 := Lib.hid (K6.out.move hb)
          clear hb
          clear g0 g1 g2 p0 p1 p2
          have sc0 := K7.out.here.1.1.1.1.2.2.cell 0
          have sc1 := K7.out.here.1.1.1.1.2.2.cell 1
          have sc2 := K7.out.here.1.1.1.1.2.2.cell 2
          have sc3 := K7.out.here.1.1.1.1.2.2.cell 3
          simp at sc0 sc1 sc2 sc3
          go_wp2_with fail
          refine (isub_at HV.out _ K7.out.here.1.1.1.1.1.2 HU.out).mono ?_
          rintro e w8 ⟨rfl, hb⟩
          have K8 := Lib.hid (K7.out.move hb)
          clear hb
          clear sc0 sc1 sc2 sc3
          have sc0 := K8.out.here.1.1.1.1.2.2.cell 0
          have sc1 := K8.out.here.1.1.1.1.2.2.cell 1
          have sc2 := K8.out.here.1.1.1.1.2.2.cell 2
          have sc3 := K8.out.here.1.1.1.1.2.2.cell 3
          simp at sc0 sc1 sc2 sc3
          go_wp2
          go_ret
          first
            | exact ⟨rfl, K8.out.here.1.1.1.1.1.1⟩
            | exact ⟨ret_bl (a := !decide ((tx.size : Int) ≤ 20)) (b := true) (by rw [decide_eq_false (p := ((tx.size : Int) ≤ 20)) (by omega)]; rfl), K8.out.here.1.1.1.1.1.1⟩
      · have hs5 : (st == 5) = false := beq_eq_false_iff_ne.2 h5
        have HV := Lib.hid hv
        have HOK : Hid (okL ⟨st, us, T, tx⟩ = false) := Lib.hid (by unfold okL; rw [hv]; simp [h5])
        clear hv
        have sc0 := K2.out.here.2.2.cell 0
        have sc1 := K2.out.here.2.2.cell 1
        have sc2 := K2.out.here.2.2.cell 2
        have sc3 := K2.out.here.2.2.cell 3
        simp at sc0 sc1 sc2 sc3
        go_wp2_with fail
        refine (impl_letter st us tx T A N cap _ K2.out.here.1.2 HU.out).mono ?_
        rw [HOK.out]
        rintro e w3 ⟨A3, N3, c3, rfl, hown, hb⟩
        obtain ⟨D3, hD3⟩ : ∃ D, w3.heap.size = D := ⟨_, rfl⟩
        obtain ⟨w4, hw4⟩ : ∃ w4, w3.alloc (.cells #[.string eB, .slice A3 N3 c3, .string eB] 28) = w4 := ⟨_, rfl⟩
        have HN3 : Hid (N3 = List.length ([] : List ByteArray)) := Lib.hid hown.len.1
        have k4 := ((((K2.out.move hb).and (SIn.made hown (by simp) (fun g hg => by cases hg)).keep).alloc (.cells #[.string eB, .slice A3 N3 c3, .string eB] 28)).and (kp_made w3 28 #[.string eB, .slice A3 N3 c3, .string eB] hD3))
        rw [hw4] at k4
        have K4 := Lib.hid k4
        clear hb hown k4
        clear sc0 sc1 sc2 sc3
        have sc0 := K4.out.here.1.1.2.2.cell 0
        have sc1 := K4.out.here.1.1.2.2.cell 1
        have sc2 := K4.out.here.1.1.2.2.cell 2
        have sc3 := K4.out.here.1.1.2.2.cell 3
        simp at sc0 sc1 sc2 sc3
        go_wp2_with fail
        refine (spec_letter st us tx T A N cap _ K4.out.here.1.1.1.2 HU.out).mono ?_
        rw [HOK.out]
        rintro e w5 ⟨A5, N5, c5, rfl, hown, hb⟩
        have hN5 : N3 = N5 := (HN3.out.trans hown.len.1.symm)
        subst hN5
        obtain ⟨D5, hD5⟩ : ∃ D, w5.heap.size = D := ⟨_, rfl⟩
        obtain ⟨w6, hw6⟩ : ∃ w6, w5.alloc (.cells #[.string eB, .slice A5 N3 c5, .string eB] 28) = w6 := ⟨_, rfl⟩
        have k6 := ((((K4.out.move hb).and (SIn.made hown (by simp) (fun g hg => by cases hg)).keep).alloc (.cells #[.string eB, .slice A5 N3 c5, .string eB] 28)).and (kp_made w5 28 #[.string eB, .slice A5 N3 c5, .string eB] hD5))
        rw [hw6] at k6
        have K6 := Lib.hid k6
        clear hb hown k6
        clear sc0 sc1 sc2 sc3
        have g0 := K6.out.here.1.1.2.2.cell 0
        have g1 := K6.out.here.1.1.2.2.cell 1
        have g2 := K6.out.here.1.1.2.2.cell 2
        simp at g0 g1 g2
        have p0 := K6.out.here.2.2.cell 0
        have p1 := K6.out.here.2.2.cell 1
        have p2 := K6.out.here.2.2.cell 2
        simp at p0 p1 p2
        go_wp2_with fail
        refine (same_letter eB eB [] A3 A5 N3 c3 c5 _ K6.out.here.1.1.1.2 K6.out.here.1.2).mono ?_
        rintro e w7 ⟨rfl, hb⟩
        have K7 := Lib.hid (K6.out.move hb)
        clear hb
        clear g0 g1 g2 p0 p1 p2
        have sc0 := K7.out.here.1.1.1.1.2.2.cell 0
        have sc1 := K7.out.here.1.1.1.1.2.2.cell 1
        have sc2 := K7.out.here.1.1.1.1.2.2.cell 2
        have sc3 := K7.out.here.1.1.1.1.2.2.cell 3
        simp at sc0 sc1 sc2 sc3
        go_wp2_with fail
        refine (isub_at HV.out _ K7.out.here.1.1.1.1.1.2 HU.out).mono ?_
        rintro e w8 ⟨rfl, hb⟩
        have K8 := Lib.hid (K7.out.move hb)
        clear hb
        clear sc0 sc1 sc2 sc3
        have sc0 := K8.out.here.1.1.1.1.2.2.cell 0
        have sc1 := K8.out.here.1.1.1.1.2.2.cell 1
        have sc2 := K8.out.here.1.1.1.1.2.2.cell 2
        have sc3 := K8.out.here.1.1.1.1.2.2.cell 3
        simp at sc0 sc1 sc2 sc3
        go_wp2
        go_ret
        first
          | exact ⟨rfl, K8.out.here.1.1.1.1.1.1⟩
          | exact ⟨ret_bl (a := !decide ((tx.size : Int) ≤ 20)) (b := true) (by rw [decide_eq_false (p := ((tx.size : Int) ≤ 20)) (by omega)]; rfl), K8.out.here.1.1.1.1.1.1⟩
  · have hlenI : (1048576 : Int) < (len : Int) := by omega
    go_enter Try.func4, Try.ntmps4
    go_wp2
    go_ret
    exact ⟨rfl, Below.refl _ _⟩
set_option maxRecDepth 20000 in
set_option maxHeartbeats 4000000 in
theorem law_FnLetter (A0 : Option Addr) (len cap0 : Nat) (w : World) (h : Coded w A0 len cap0) : Calls Try.prog 3 #[.slice A0 len cap0] w (Holds1 w) := by
  have HC := Lib.hid h
  clear h
  by_cases hlen : len ≤ 1048576
  · have hlenI : (len : Int) ≤ 1048576 := by omega
    have hlenJ : ¬ (1048576 : Int) < (len : Int) := by omega
    go_enter Try.func3, Try.ntmps3
    go_wp2_with fail
    refine (draw_subletter A0 len cap0 w HC.out).mono ?_
    rintro e w1 ⟨st, us, tx, A, N, cap, T, rfl, hus, htx, hl, hT, ho, hb⟩
    obtain ⟨D, hD⟩ : ∃ D, w1.heap.size = D := ⟨_, rfl⟩
    obtain ⟨w2, hw2⟩ : ∃ w2, w1.alloc (.cells #[.int .i64 st, .string us, .slice A N cap, .string tx] 25) = w2 := ⟨_, rfl⟩
    have HU : Hid (us.size ≤ 16777216) := Lib.hid (by show _ ≤ _; omega)
    have HX : Hid (tx.size ≤ 30) := Lib.hid htx
    have HTL : Hid (T.length ≤ 4194304) := Lib.hid (by show _ ≤ _; omega)
    have HTG : Hid (∀ g ∈ T, g.size ≤ 16777216) := Lib.hid (fun g hg => by have := hT g hg; omega)
    have k2 := ((((below_keep hb hb.size).and (SIn.made ho HTL.out HTG.out).keep).alloc (.cells #[.int .i64 st, .string us, .slice A N cap, .string tx] 25)).and (kp_made w1 25 #[.int .i64 st, .string us, .slice A N cap, .string tx] hD))
    rw [hw2] at k2
    have K2 := Lib.hid k2
    clear hus htx hl hT ho hb k2
    cases hok : okL ⟨st, us, T, tx⟩ with
    | false =>
      have HOK := Lib.hid hok
      clear hok
      have sc0 := K2.out.here.2.2.cell 0
      have sc1 := K2.out.here.2.2.cell 1
      have sc2 := K2.out.here.2.2.cell 2
      have sc3 := K2.out.here.2.2.cell 3
      simp at sc0 sc1 sc2 sc3
      go_wp2_with fail
      refine (impl_letter st us tx T A N cap _ K2.out.here.1.2 HU.out).mono ?_
      rw [HOK.out]
      rintro e w3 ⟨A3, N3, c3, rfl, hown, hb⟩
      obtain ⟨D3, hD3⟩ : ∃ D, w3.heap.size = D := ⟨_, rfl⟩
      obtain ⟨w4, hw4⟩ : ∃ w4, w3.alloc (.cells #[.string eB, .slice A3 N3 c3, .string eB] 28) = w4 := ⟨_, rfl⟩
      have HN3 : Hid (N3 = List.length ([] : List ByteArray)) := Lib.hid hown.len.1
      have k4 := ((((K2.out.move hb).and (SIn.made hown (by simp) (fun g hg => by cases hg)).keep).alloc (.cells #[.string eB, .slice A3 N3 c3, .string eB] 28)).and (kp_made w3 28 #[.string eB, .slice A3 N3 c3, .string eB] hD3))
      rw [hw4] at k4
      have K4 := Lib.hid k4
      clear hb hown k4
      clear sc0 sc1 sc2 sc3
      have sc0 := K4.out.here.1.1.2.2.cell 0
      have sc1 := K4.out.here.1.1.2.2.cell 1
      have sc2 := K4.out.here.1.1.2.2.cell 2
      have sc3 := K4.out.here.1.1.2.2.cell 3
      simp at sc0 sc1 sc2 sc3
      go_wp2_with fail
      refine (spec_letter st us tx T A N cap _ K4.out.here.1.1.1.2 HU.out).mono ?_
      rw [HOK.out]
      rintro e w5 ⟨A5, N5, c5, rfl, hown, hb⟩
      have hN5 : N3 = N5 := (HN3.out.trans hown.len.1.symm)
      subst hN5
      obtain ⟨D5, hD5⟩ : ∃ D, w5.heap.size = D := ⟨_, rfl⟩
      obtain ⟨w6, hw6⟩ : ∃ w6, w5.alloc (.cells #[.string eB, .slice A5 N3 c5, .string eB] 28) = w6 := ⟨_, rfl⟩
      have k6 := ((((K4.out.move hb).and (SIn.made hown (by simp) (fun g hg => by cases hg)).keep).alloc (.cells #[.string eB, .slice A5 N3 c5, .string eB] 28)).and (kp_made w5 28 #[.string eB, .slice A5 N3 c5, .string eB] hD5))
      rw [hw6] at k6
      have K6 := Lib.hid k6
      clear hb hown k6
      clear sc0 sc1 sc2 sc3
      have g0 := K6.out.here.1.1.2.2.cell 0
      have g1 := K6.out.here.1.1.2.2.cell 1
      have g2 := K6.out.here.1.1.2.2.cell 2
      simp at g0 g1 g2
      have p0 := K6.out.here.2.2.cell 0
      have p1 := K6.out.here.2.2.cell 1
      have p2 := K6.out.here.2.2.cell 2
      simp at p0 p1 p2
      go_wp2_with fail
      refine (same_letter eB eB [] A3 A5 N3 c3 c5 _ K6.out.here.1.1.1.2 K6.out.here.1.2).mono ?_
      rintro e w7 ⟨rfl, hb⟩
      have K7 := Lib.hid (K6.out.move hb)
      clear hb
      clear g0 g1 g2 p0 p1 p2
      have g0 := K7.out.here.1.1.2.2.cell 0
      have g1 := K7.out.here.1.1.2.2.cell 1
      have g2 := K7.out.here.1.1.2.2.cell 2
      simp at g0 g1 g2
      have p0 := K7.out.here.2.2.cell 0
      have p1 := K7.out.here.2.2.cell 1
      have p2 := K7.out.here.2.2.cell 2
      simp at p0 p1 p2
      go_wp2_with fail
      refine (same_letter eB eB [] A3 A5 N3 c3 c5 _ K7.out.here.1.1.1.2 K7.out.here.1.2).mono ?_
      rintro e w8 ⟨rfl, hb⟩
      have K8 := Lib.hid (K7.out.move hb)
      clear hb
      clear g0 g1 g2 p0 p1 p2
      go_wp2
      go_ret
      exact ⟨rfl, K8.out.here.1.1.1.1.1.1⟩
    | true =>
      have HLB := Lib.hid (okL_let hok)
      have HOK := Lib.hid hok
      clear hok
      have sc0 := K2.out.here.2.2.cell 0
      have sc1 := K2.out.here.2.2.cell 1
      have sc2 := K2.out.here.2.2.cell 2
      have sc3 := K2.out.here.2.2.cell 3
      simp at sc0 sc1 sc2 sc3
      go_wp2_with fail
      refine (impl_letter st us tx T A N cap _ K2.out.here.1.2 HU.out).mono ?_
      rw [HOK.out]
      rintro e w3 ⟨A3, N3, c3, rfl, hown, hb⟩
      obtain ⟨D3, hD3⟩ : ∃ D, w3.heap.size = D := ⟨_, rfl⟩
      obtain ⟨w4, hw4⟩ : ∃ w4, w3.alloc (.cells #[.string us, .slice A3 N3 c3, .string tx] 28) = w4 := ⟨_, rfl⟩
      have HN3 : Hid (N3 = List.length (T : List ByteArray)) := Lib.hid hown.len.1
      have k4 := ((((K2.out.move hb).and (SIn.made hown HTL.out HTG.out).keep).alloc (.cells #[.string us, .slice A3 N3 c3, .string tx] 28)).and (kp_made w3 28 #[.string us, .slice A3 N3 c3, .string tx] hD3))
      rw [hw4] at k4
      have K4 := Lib.hid k4
      clear hb hown k4
      clear sc0 sc1 sc2 sc3
      have sc0 := K4.out.here.1.1.2.2.cell 0
      have sc1 := K4.out.here.1.1.2.2.cell 1
      have sc2 := K4.out.here.1.1.2.2.cell 2
      have sc3 := K4.out.here.1.1.2.2.cell 3
      simp at sc0 sc1 sc2 sc3
      go_wp2_with fail
      refine (spec_letter st us tx T A N cap _ K4.out.here.1.1.1.2 HU.out).mono ?_
      rw [HOK.out]
      rintro e w5 ⟨A5, N5, c5, rfl, hown, hb⟩
      have hN5 : N3 = N5 := (HN3.out.trans hown.len.1.symm)
      subst hN5
      obtain ⟨D5, hD5⟩ : ∃ D, w5.heap.size = D := ⟨_, rfl⟩
      obtain ⟨w6, hw6⟩ : ∃ w6, w5.alloc (.cells #[.string us, .slice A5 N3 c5, .string tx] 28) = w6 := ⟨_, rfl⟩
      have k6 := ((((K4.out.move hb).and (SIn.made hown HTL.out HTG.out).keep).alloc (.cells #[.string us, .slice A5 N3 c5, .string tx] 28)).and (kp_made w5 28 #[.string us, .slice A5 N3 c5, .string tx] hD5))
      rw [hw6] at k6
      have K6 := Lib.hid k6
      clear hb hown k6
      clear sc0 sc1 sc2 sc3
      have g0 := K6.out.here.1.1.2.2.cell 0
      have g1 := K6.out.here.1.1.2.2.cell 1
      have g2 := K6.out.here.1.1.2.2.cell 2
      simp at g0 g1 g2
      have p0 := K6.out.here.2.2.cell 0
      have p1 := K6.out.here.2.2.cell 1
      have p2 := K6.out.here.2.2.cell 2
      simp at p0 p1 p2
      go_wp2_with fail
      refine (same_letter us tx T A3 A5 N3 c3 c5 _ K6.out.here.1.1.1.2 K6.out.here.1.2).mono ?_
      rintro e w7 ⟨rfl, hb⟩
      have K7 := Lib.hid (K6.out.move hb)
      clear hb
      clear g0 g1 g2 p0 p1 p2
      have g0 := K7.out.here.1.1.2.2.cell 0
      have g1 := K7.out.here.1.1.2.2.cell 1
      have g2 := K7.out.here.1.1.2.2.cell 2
      simp at g0 g1 g2
      go_wp2_with fail
      refine (ilet_at HLB.out _ K7.out.here.1.1.1.2 HU.out).mono ?_
      rintro e w8 ⟨rfl, hb⟩
      have K8 := Lib.hid (K7.out.move hb)
      clear hb
      have hNN : N3 = N := by have h1 := HN3.out; have h2 := K8.out.here.1.1.1.1.1.2.1; omega
      subst hNN
      clear g0 g1 g2
      have g0 := K8.out.here.1.1.2.2.cell 0
      have g1 := K8.out.here.1.1.2.2.cell 1
      have g2 := K8.out.here.1.1.2.2.cell 2
      simp at g0 g1 g2
      have sc0 := K8.out.here.1.1.1.1.2.2.cell 0
      have sc1 := K8.out.here.1.1.1.1.2.2.cell 1
      have sc2 := K8.out.here.1.1.1.1.2.2.cell 2
      have sc3 := K8.out.here.1.1.1.1.2.2.cell 3
      simp at sc0 sc1 sc2 sc3
      go_wp2_with fail
      refine (same_letter us tx T A3 A N3 c3 cap _ K8.out.here.1.1.1.2 K8.out.here.1.1.1.1.1.2).mono ?_
      rintro e w9 ⟨rfl, hb⟩
      have K9 := Lib.hid (K8.out.move hb)
      clear hb
      clear g0 g1 g2 sc0 sc1 sc2 sc3
      go_wp2
      go_ret
      exact ⟨rfl, K9.out.here.1.1.1.1.1.1⟩
  · have hlenI : (1048576 : Int) < (len : Int) := by omega
    go_enter Try.func3, Try.ntmps3
    go_wp2
    go_ret
    exact ⟨rfl, Below.refl _ _⟩
end Go.Proofs.Ytichajalinkcdaa
