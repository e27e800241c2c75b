/-
  The contracts of LetterValid, of both; the walks of the laws FnExactSubmissionValid and FnExactLetterValid. Condition: the argument can be read.
-/
import Derived.Test.YtichajalinkcdaaQe
import Derived.Deep.RegionHeld3
import Derived.Outline
namespace Go.Proofs.Ytichajalinkcdaa
open Go.RowKit
set_option linter.unusedVariables false

theorem kp_made (w : World) (t : TypeId) (cs : Array Value) {B : Nat} (hB : w.heap.size = B) : Kp (w.alloc (.cells cs t)) fun w' => Below B w w' ∧ Whole w' B t cs := fun w2 h2 => by
  subst hB
  exact ⟨(below_new w _).trans (h2.mono (by simp)), (Whole.made w t cs).below h2 (by simp)⟩
theorem kp_rows {α : Type} {R : RowT α} {w : World} {B : Nat} {v : Value} {L : List α} (h : ROwn R w B v L) : Kp w fun w' => ROwn R w' B v L := fun w2 h2 => h.kept h2
theorem StrA.keep {w : World} {A : Option Addr} {n cap : Nat} {L : List ByteArray} (h : StrA w A n cap L) : Kp w fun w' => StrA w' A n cap L := fun w2 h2 => h.below h2 (Nat.le_refl _)
theorem SIn.keep {w : World} {A : Option Addr} {n cap : Nat} {L : List ByteArray} (h : SIn w A n cap L) : Kp w fun w' => SIn w' A n cap L := fun w2 h2 => h.below h2 (Nat.le_refl _)
set_option maxHeartbeats 2000000 in
theorem impl_letval (us tx : ByteArray) (T : List ByteArray) (A : Option Addr) (N cap : Nat) (w : World) (h : SIn w A N cap T) (hu : us.size ≤ 16777216) : Calls Try.prog 13 #[.agg #[.string us, .slice A N cap, .string tx]] w (SayB w (letB us T tx)) := by
  have hW := Whole.made w 28 #[.string us, .slice A N cap, .string tx]
  have HW := Lib.hid hW
  have HB := Lib.hid ((Below.refl w.heap.size w).alloc (Nat.le_refl _) (.cells #[.string us, .slice A N cap, .string tx] 28))
  have HS := Lib.hid (h.below HB.out (Nat.le_refl _))
  have HL := Lib.hid h.1
  clear h hW
  cases hn : nameB (kb us) with
  | false =>
    have HN := Lib.hid hn
    have HE : Hid (letB us T tx = false) := Lib.hid (by unfold letB; rw [hn]; rfl)
    clear hn
    go_enter Try.func13, Try.ntmps13
    go_wp2_with fail
    refine (iname_at HN.out hu _).mono ?_
    rintro e w1 ⟨rfl, hb⟩
    have HW1 := Lib.hid (HW.out.below hb HW.out.lt)
    have HB1 := Lib.hid (HB.out.trans (hb.mono HB.out.size))
    have HS1 := Lib.hid (HS.out.below hb (Nat.le_refl _))
    have c1 := HW1.out.cell 1
    have c2 := HW1.out.cell 2
    simp at c1 c2
    clear hb
    go_wp2
    go_ret
    first | exact says_b HE.out HB1.out | exact says_b (HE.out.trans (decide_eq_false (by omega)).symm) HB1.out
  | true =>
    have HN := Lib.hid hn
    cases hr : recB T with
    | false =>
      have HR := Lib.hid hr
      have HE : Hid (letB us T tx = false) := Lib.hid (by unfold letB; rw [hr]; simp)
      clear hn hr
      go_enter Try.func13, Try.ntmps13
      go_wp2_with fail
      refine (iname_at HN.out hu _).mono ?_
      rintro e w1 ⟨rfl, hb⟩
      have HW1 := Lib.hid (HW.out.below hb HW.out.lt)
      have HB1 := Lib.hid (HB.out.trans (hb.mono HB.out.size))
      have HS1 := Lib.hid (HS.out.below hb (Nat.le_refl _))
      have c1 := HW1.out.cell 1
      have c2 := HW1.out.cell 2
      simp at c1 c2
      clear hb
      go_wp2_with fail
      refine (receivers_at HR.out _ HS1.out).mono ?_
      rintro e w2 ⟨rfl, hb⟩
      have HB2 := Lib.hid (HB1.out.trans (hb.mono HB1.out.size))
      have HW2 := Lib.hid (HW1.out.below hb HW1.out.lt)
      have d1 := HW2.out.cell 1
      have d2 := HW2.out.cell 2
      simp at d1 d2
      clear hb c1 c2
      go_wp2
      go_ret
      first | exact says_b HE.out HB2.out | exact says_b (HE.out.trans (decide_eq_false (by omega)).symm) HB2.out
    | true =>
      have HR := Lib.hid hr
      by_cases ht : tx.size ≤ 20
      · have ht2 : (tx.size : Int) ≤ 20 := by omega
        have HE : Hid (letB us T tx = true) := Lib.hid (by unfold letB; rw [hn, hr]; simp [ht])
        clear hn hr
        go_enter Try.func13, Try.ntmps13
        go_wp2_with fail
        refine (iname_at HN.out hu _).mono ?_
        rintro e w1 ⟨rfl, hb⟩
        have HW1 := Lib.hid (HW.out.below hb HW.out.lt)
        have HB1 := Lib.hid (HB.out.trans (hb.mono HB.out.size))
        have HS1 := Lib.hid (HS.out.below hb (Nat.le_refl _))
        have c1 := HW1.out.cell 1
        have c2 := HW1.out.cell 2
        simp at c1 c2
        clear hb
        go_wp2_with fail
        refine (receivers_at HR.out _ HS1.out).mono ?_
        rintro e w2 ⟨rfl, hb⟩
        have HB2 := Lib.hid (HB1.out.trans (hb.mono HB1.out.size))
        have HW2 := Lib.hid (HW1.out.below hb HW1.out.lt)
        have d1 := HW2.out.cell 1
        have d2 := HW2.out.cell 2
        simp at d1 d2
        clear hb c1 c2
        go_wp2
        go_ret
        first | exact says_b HE.out HB2.out | exact says_b (HE.out.trans (decide_eq_false (by omega)).symm) HB2.out
      · have ht2 : ¬ (tx.size : Int) ≤ 20 := by omega
        have HE : Hid (letB us T tx = false) := Lib.hid (by unfold letB; rw [hn, hr]; simp [ht])
        clear hn hr
        go_enter Try.func13, Try.ntmps13
        go_wp2_with fail
        refine (iname_at HN.out hu _).mono ?_
        rintro e w1 ⟨rfl, hb⟩
        have HW1 := Lib.hid (HW.out.below hb HW.out.lt)
        have HB1 := Lib.hid (HB.out.trans (hb.mono HB.out.size))
        have HS1 := Lib.hid (HS.out.below hb (Nat.le_refl _))
        have c1 := HW1.out.cell 1
        have c2 := HW1.out.cell 2
        simp at c1 c2
        clear hb
        go_wp2_with fail
        refine (receivers_at HR.out _ HS1.out).mono ?_
        rintro e w2 ⟨rfl, hb⟩
        have HB2 := Lib.hid (HB1.out.trans (hb.mono HB1.out.size))
        have HW2 := Lib.hid (HW1.out.below hb HW1.out.lt)
        have d1 := HW2.out.cell 1
        have d2 := HW2.out.cell 2
        simp at d1 d2
        clear hb c1 c2
        go_wp2
        go_ret
        first | exact says_b HE.out HB2.out | exact says_b (HE.out.trans (decide_eq_false (by omega)).symm) HB2.out
theorem ilet_at {us tx : ByteArray} {T : List ByteArray} {A : Option Addr} {N cap : Nat} {z : Bool} (hz : letB us T tx = z) (w : World) (h : SIn w A N cap T) (hu : us.size ≤ 16777216) : Calls Try.prog 13 #[.agg #[.string us, .slice A N cap, .string tx]] w (SayB w z) := by
  subst hz
  exact impl_letval us tx T A N cap w h hu
set_option maxHeartbeats 2000000 in
theorem spec_letval (us tx : ByteArray) (T : List ByteArray) (A : Option Addr) (N cap : Nat) (w : World) (h : SIn w A N cap T) (hu : us.size ≤ 16777216) : Calls Try.prog 16 #[.agg #[.string us, .slice A N cap, .string tx]] w (SayB w (letB us T tx)) := by
  have hW := Whole.made w 28 #[.string us, .slice A N cap, .string tx]
  have HW := Lib.hid hW
  have HB := Lib.hid ((Below.refl w.heap.size w).alloc (Nat.le_refl _) (.cells #[.string us, .slice A N cap, .string tx] 28))
  have HS := Lib.hid (h.below HB.out (Nat.le_refl _))
  have HL := Lib.hid h.1
  clear h hW
  cases hn : nameB (kb us) with
  | false =>
    have HN := Lib.hid hn
    have HE : Hid (letB us T tx = false) := Lib.hid (by unfold letB; rw [hn]; rfl)
    clear hn
    go_enter Try.func16, Try.ntmps16
    go_wp2_with fail
    refine (sname_at HN.out hu _).mono ?_
    rintro e w1 ⟨rfl, rfl⟩
    have HW1 := HW
    have HB1 := HB
    have HS1 := HS
    have c1 := HW1.out.cell 1
    have c2 := HW1.out.cell 2
    simp at c1 c2
    go_wp2
    go_ret
    first | exact says_b HE.out HB1.out | exact says_b (HE.out.trans (decide_eq_false (by omega)).symm) HB1.out
  | true =>
    have HN := Lib.hid hn
    cases hr : n21 T with
    | false =>
      have HR := Lib.hid hr
      have HE : Hid (letB us T tx = false) := Lib.hid (by unfold letB recB; rw [hr]; simp)
      clear hn hr
      go_enter Try.func16, Try.ntmps16
      go_wp2_with fail
      refine (sname_at HN.out hu _).mono ?_
      rintro e w1 ⟨rfl, rfl⟩
      have HW1 := HW
      have HB1 := HB
      have HS1 := HS
      have c1 := HW1.out.cell 1
      have c2 := HW1.out.cell 2
      simp at c1 c2
      go_wp2_with fail
      refine (names_at HR.out _ HS1.out).mono ?_
      rintro e w2 ⟨rfl, hb⟩
      have HB2 := Lib.hid (HB1.out.trans (hb.mono HB1.out.size))
      have HW2 := Lib.hid (HW1.out.below hb HW1.out.lt)
      have d1 := HW2.out.cell 1
      have d2 := HW2.out.cell 2
      simp at d1 d2
      clear hb c1 c2
      go_wp2
      go_ret
      first | exact says_b HE.out HB2.out | exact says_b (HE.out.trans (decide_eq_false (by omega)).symm) HB2.out
    | true =>
      have HR := Lib.hid hr
      by_cases hN : 1 ≤ N
      · have hN2 : (0 : Int) < (N : Int) := by omega
        by_cases ht : tx.size ≤ 20
        · have ht2 : (tx.size : Int) ≤ 20 := by omega
          have HE : Hid (letB us T tx = true) := Lib.hid (by unfold letB recB; rw [hn, hr]; simp only [HL.out]; simp [ht, hN])
          clear hn hr
          go_enter Try.func16, Try.ntmps16
          go_wp2_with fail
          refine (sname_at HN.out hu _).mono ?_
          rintro e w1 ⟨rfl, rfl⟩
          have HW1 := HW
          have HB1 := HB
          have HS1 := HS
          have c1 := HW1.out.cell 1
          have c2 := HW1.out.cell 2
          simp at c1 c2
          go_wp2_with fail
          refine (names_at HR.out _ HS1.out).mono ?_
          rintro e w2 ⟨rfl, hb⟩
          have HB2 := Lib.hid (HB1.out.trans (hb.mono HB1.out.size))
          have HW2 := Lib.hid (HW1.out.below hb HW1.out.lt)
          have d1 := HW2.out.cell 1
          have d2 := HW2.out.cell 2
          simp at d1 d2
          clear hb c1 c2
          go_wp2
          go_ret
          first | exact says_b HE.out HB2.out | exact says_b (HE.out.trans (decide_eq_false (by omega)).symm) HB2.out
        · have ht2 : ¬ (tx.size : Int) ≤ 20 := by omega
          have HE : Hid (letB us T tx = false) := Lib.hid (by unfold letB recB; rw [hn, hr]; simp only [HL.out]; simp [ht])
          clear hn hr
          go_enter Try.func16, Try.ntmps16
          go_wp2_with fail
          refine (sname_at HN.out hu _).mono ?_
          rintro e w1 ⟨rfl, rfl⟩
          have HW1 := HW
          have HB1 := HB
          have HS1 := HS
          have c1 := HW1.out.cell 1
          have c2 := HW1.out.cell 2
          simp at c1 c2
          go_wp2_with fail
          refine (names_at HR.out _ HS1.out).mono ?_
          rintro e w2 ⟨rfl, hb⟩
          have HB2 := Lib.hid (HB1.out.trans (hb.mono HB1.out.size))
          have HW2 := Lib.hid (HW1.out.below hb HW1.out.lt)
          have d1 := HW2.out.cell 1
          have d2 := HW2.out.cell 2
          simp at d1 d2
          clear hb c1 c2
          go_wp2
          go_ret
          first | exact says_b HE.out HB2.out | exact says_b (HE.out.trans (decide_eq_false (by omega)).symm) HB2.out
      · have hN2 : ¬ (0 : Int) < (N : Int) := by omega
        have HE : Hid (letB us T tx = false) := Lib.hid (by unfold letB recB; rw [hn, hr]; simp only [HL.out]; simp [hN])
        clear hn hr
        go_enter Try.func16, Try.ntmps16
        go_wp2_with fail
        refine (sname_at HN.out hu _).mono ?_
        rintro e w1 ⟨rfl, rfl⟩
        have HW1 := HW
        have HB1 := HB
        have HS1 := HS
        have c1 := HW1.out.cell 1
        have c2 := HW1.out.cell 2
        simp at c1 c2
        go_wp2_with fail
        refine (names_at HR.out _ HS1.out).mono ?_
        rintro e w2 ⟨rfl, hb⟩
        have HB2 := Lib.hid (HB1.out.trans (hb.mono HB1.out.size))
        have HW2 := Lib.hid (HW1.out.below hb HW1.out.lt)
        have d1 := HW2.out.cell 1
        have d2 := HW2.out.cell 2
        simp at d1 d2
        clear hb c1 c2
        go_wp2
        go_ret
        first | exact says_b HE.out HB2.out | exact says_b (HE.out.trans (decide_eq_false (by omega)).symm) HB2.out
theorem slet_at {us tx : ByteArray} {T : List ByteArray} {A : Option Addr} {N cap : Nat} {z : Bool} (hz : letB us T tx = z) (w : World) (h : SIn w A N cap T) (hu : us.size ≤ 16777216) : Calls Try.prog 16 #[.agg #[.string us, .slice A N cap, .string tx]] w (SayB w z) := by
  subst hz
  exact spec_letval us tx T A N cap w h hu
set_option maxRecDepth 20000 in
set_option maxHeartbeats 4000000 in
theorem law_FnExactSubmissionValid (st : Int) (us : ByteArray) (A : Option Addr) (N cap : Nat) (tx : ByteArray) (w : World) (hus : us.size ≤ maxLen) (h : StrArg w A N cap) (htx : tx.size ≤ maxLen) : Calls Try.prog 7 #[.agg #[.int .i64 st, .string us, .slice A N cap, .string tx]] w (Holds1 w) := by
  obtain ⟨T, hA⟩ := h
  have HA := Lib.hid hA
  have HN := Lib.hid hA.1
  have HU := Lib.hid hus
  have HX := Lib.hid htx
  obtain ⟨r, hr⟩ : ∃ r, szM us T tx 1048576 = r := ⟨_, rfl⟩
  have HR := Lib.hid hr
  obtain ⟨v, hv⟩ : ∃ v, sbV ⟨st, us, T, tx⟩ = v := ⟨_, rfl⟩
  have HV := Lib.hid hv
  have hvv : (v != v) = false := by simp
  obtain ⟨Da, hDa⟩ : ∃ D, w.heap.size = D := ⟨_, rfl⟩
  have K1 := Lib.hid ((((kp_start w).and HA.out.keep).alloc (.cells #[.int .i64 st, .string us, .slice A N cap, .string tx] 41)).and (kp_made w 41 #[.int .i64 st, .string us, .slice A N cap, .string tx] hDa))
  clear hA hv hus htx
  by_cases hr0 : r < 0
  · clear hr
    have a0 := K1.out.here.2.2.cell 0
    have a1 := K1.out.here.2.2.cell 1
    have a2 := K1.out.here.2.2.cell 2
    have a3 := K1.out.here.2.2.cell 3
    simp at a0 a1 a2 a3
    go_enter Try.func7, Try.ntmps7
    go_wp2_with fail
    refine (sz_submission st us tx T A N cap 1048576 r _ K1.out.here.1.2 HU.out HX.out (by omega) (by omega) HR.out).mono ?_
    rintro e w1 ⟨rfl, hb⟩
    have K2 := Lib.hid (K1.out.move hb)
    clear hb
    clear a0 a1 a2 a3
    go_wp2
    go_ret
    exact ⟨rfl, K2.out.here.1.1⟩
  · have hsm := szM_ok (a := us) (L := T) (c := tx) (z := 1048576) (by omega) (by rw [hr]; omega)
    have HSM := Lib.hid hsm
    have hN : N ≤ 1048576 := by have := hsm.2.1; rw [HN.out] at this; omega
    have HUU : Hid (us.size ≤ 16777216) := Lib.hid (by have := hsm.1; omega)
    have HTL : Hid (T.length ≤ 4194304) := Lib.hid (by have := hsm.2.1; omega)
    have HTG : Hid (∀ g ∈ T, g.size ≤ 16777216) := Lib.hid (fun g hg => by have := hsm.2.2.2 g hg; omega)
    clear hr hsm
    have a0 := K1.out.here.2.2.cell 0
    have a1 := K1.out.here.2.2.cell 1
    have a2 := K1.out.here.2.2.cell 2
    have a3 := K1.out.here.2.2.cell 3
    simp at a0 a1 a2 a3
    go_enter Try.func7, Try.ntmps7
    go_wp2_with fail
    refine (sz_submission st us tx T A N cap 1048576 r _ K1.out.here.1.2 HU.out HX.out (by omega) (by omega) HR.out).mono ?_
    rintro e w1 ⟨rfl, hb⟩
    have K2 := Lib.hid (K1.out.move hb)
    clear hb
    clear a0 a1 a2 a3
    have a0 := K2.out.here.2.2.cell 0
    have a1 := K2.out.here.2.2.cell 1
    have a2 := K2.out.here.2.2.cell 2
    have a3 := K2.out.here.2.2.cell 3
    simp at a0 a1 a2 a3
    go_wp2_with fail
    refine (to_submission st us tx T A N cap _ K2.out.here.1.2 hN).mono ?_
    rintro e w2 ⟨g1, rfl, hown, hb⟩
    have K3 := Lib.hid ((K2.out.move hb).and (SIn.made hown HTL.out HTG.out).keep)
    clear hb hown
    clear a0 a1 a2 a3
    have a0 := K3.out.here.1.2.2.cell 0
    have a1 := K3.out.here.1.2.2.cell 1
    have a2 := K3.out.here.1.2.2.cell 2
    have a3 := K3.out.here.1.2.2.cell 3
    simp at a0 a1 a2 a3
    go_wp2_with fail
    refine (ssub_at HV.out _ K3.out.here.2 HUU.out).mono ?_
    rintro e w3 ⟨rfl, hb⟩
    have K4 := Lib.hid (K3.out.move hb)
    clear hb
    clear a0 a1 a2 a3
    have a0 := K4.out.here.1.2.2.cell 0
    have a1 := K4.out.here.1.2.2.cell 1
    have a2 := K4.out.here.1.2.2.cell 2
    have a3 := K4.out.here.1.2.2.cell 3
    simp at a0 a1 a2 a3
    go_wp2_with fail
    refine (to_submission st us tx T A N cap _ K4.out.here.1.1.2 hN).mono ?_
    rintro e w4 ⟨gx, rfl, hown, hb⟩
    obtain ⟨Dx, hDx⟩ : ∃ D, w4.heap.size = D := ⟨_, rfl⟩
    have K5 := Lib.hid ((((K4.out.move hb).and (SIn.made hown HTL.out HTG.out).keep).alloc (.cells #[.int .i64 st, .string us, .slice (some ⟨gx, 0, none⟩) N N, .string tx] 25)).and (kp_made w4 25 #[.int .i64 st, .string us, .slice (some ⟨gx, 0, none⟩) N N, .string tx] hDx))
    clear hb hown
    clear a0 a1 a2 a3
    have a0 := K5.out.here.1.1.1.2.2.cell 0
    have a1 := K5.out.here.1.1.1.2.2.cell 1
    have a2 := K5.out.here.1.1.1.2.2.cell 2
    have a3 := K5.out.here.1.1.1.2.2.cell 3
    have x0 := K5.out.here.2.2.cell 0
    have x1 := K5.out.here.2.2.cell 1
    have x2 := K5.out.here.2.2.cell 2
    have x3 := K5.out.here.2.2.cell 3
    simp at a0 a1 a2 a3 x0 x1 x2 x3
    go_wp2_with fail
    refine (isub_at HV.out _ K5.out.here.1.2 HUU.out).mono ?_
    rintro e w5 ⟨rfl, hb⟩
    have K6 := Lib.hid (K5.out.move hb)
    clear hb
    clear a0 a1 a2 a3 x0 x1 x2 x3
    have a0 := K6.out.here.1.1.1.2.2.cell 0
    have a1 := K6.out.here.1.1.1.2.2.cell 1
    have a2 := K6.out.here.1.1.1.2.2.cell 2
    have a3 := K6.out.here.1.1.1.2.2.cell 3
    have x0 := K6.out.here.2.2.cell 0
    have x1 := K6.out.here.2.2.cell 1
    have x2 := K6.out.here.2.2.cell 2
    have x3 := K6.out.here.2.2.cell 3
    simp at a0 a1 a2 a3 x0 x1 x2 x3
    go_wp2_with fail
    have K7 := Lib.hid K6.out.drew
    clear a0 a1 a2 a3 x0 x1 x2 x3
    go_region_held3 (fun w' => w'.cell? ⟨Da, 0, none⟩ = some (.int .i64 st) ∧ w'.cell? ⟨Da, 1, none⟩ = some (.string us) ∧ w'.cell? ⟨Da, 2, none⟩ = some (.slice A N cap) ∧ w'.cell? ⟨Da, 3, none⟩ = some (.string tx) ∧ w'.cell? ⟨Dx, 0, none⟩ = some (.int .i64 st) ∧ w'.cell? ⟨Dx, 1, none⟩ = some (.string us) ∧ w'.cell? ⟨Dx, 2, none⟩ = some (.slice (some ⟨gx, 0, none⟩) N N) ∧ w'.cell? ⟨Dx, 3, none⟩ = some (.string tx)) (first | exact ⟨KC.out.here.1.1.1.1.2.2.cell 0, KC.out.here.1.1.1.1.2.2.cell 1, KC.out.here.1.1.1.1.2.2.cell 2, KC.out.here.1.1.1.1.2.2.cell 3, KC.out.here.1.2.2.cell 0, KC.out.here.1.2.2.cell 1, KC.out.here.1.2.2.cell 2, KC.out.here.1.2.2.cell 3⟩ | exact ⟨KB.out.here.1.1.1.1.2.2.cell 0, KB.out.here.1.1.1.1.2.2.cell 1, KB.out.here.1.1.1.1.2.2.cell 2, KB.out.here.1.1.1.1.2.2.cell 3, KB.out.here.1.2.2.cell 0, KB.out.here.1.2.2.cell 1, KB.out.here.1.2.2.cell 2, KB.out.here.1.2.2.cell 3⟩ | exact ⟨K7.out.here.1.1.1.2.2.cell 0, K7.out.here.1.1.1.2.2.cell 1, K7.out.here.1.1.1.2.2.cell 2, K7.out.here.1.1.1.2.2.cell 3, K7.out.here.2.2.cell 0, K7.out.here.2.2.cell 1, K7.out.here.2.2.cell 2, K7.out.here.2.2.cell 3⟩ | go_keep) (first
      | (go_at_call 22; refine (to_submission st us tx T A N cap _ K7.out.here.1.1.1.1.2 hN).mono ?_; rintro e w6 ⟨gy, rfl, hown, hb⟩; have KB := Lib.hid ((K7.out.move hb).and (SIn.made hown HTL.out HTG.out).keep); clear hb hown)
      | (go_at_call 23; refine (eq_submission st us tx T (some ⟨gx, 0, none⟩) (some ⟨gy, 0, none⟩) N N N _ KB.out.here.1.1.2 KB.out.here.2).mono ?_; rintro e w7 ⟨rfl, hb⟩; have KC := Lib.hid (KB.out.move hb); clear hb))
    all_goals
      have K8 := Lib.hid KC.out.l
      have a0 := K8.out.here.1.1.1.2.2.cell 0
      have a1 := K8.out.here.1.1.1.2.2.cell 1
      have a2 := K8.out.here.1.1.1.2.2.cell 2
      have a3 := K8.out.here.1.1.1.2.2.cell 3
      have x0 := K8.out.here.2.2.cell 0
      have x1 := K8.out.here.2.2.cell 1
      have x2 := K8.out.here.2.2.cell 2
      have x3 := K8.out.here.2.2.cell 3
      simp at a0 a1 a2 a3 x0 x1 x2 x3
      go_wp2
      go_ret
      exact ⟨rfl, K8.out.here.1.1.1.1.1⟩
set_option maxRecDepth 20000 in
set_option maxHeartbeats 4000000 in
theorem law_FnExactLetterValid (us : ByteArray) (A : Option Addr) (N cap : Nat) (tx : ByteArray) (w : World) (hus : us.size ≤ maxLen) (h : StrArg w A N cap) (htx : tx.size ≤ maxLen) : Calls Try.prog 6 #[.agg #[.string us, .slice A N cap, .string tx]] w (Holds1 w) := by
  obtain ⟨T, hA⟩ := h
  have HA := Lib.hid hA
  have HN := Lib.hid hA.1
  have HU := Lib.hid hus
  have HX := Lib.hid htx
  obtain ⟨r, hr⟩ : ∃ r, szM us T tx 1048576 = r := ⟨_, rfl⟩
  have HR := Lib.hid hr
  obtain ⟨v, hv⟩ : ∃ v, letB us T tx = v := ⟨_, rfl⟩
  have HV := Lib.hid hv
  have hvv : (v != v) = false := by simp
  obtain ⟨Da, hDa⟩ : ∃ D, w.heap.size = D := ⟨_, rfl⟩
  have K1 := Lib.hid ((((kp_start w).and HA.out.keep).alloc (.cells #[.string us, .slice A N cap, .string tx] 37)).and (kp_made w 37 #[.string us, .slice A N cap, .string tx] hDa))
  clear hA hv hus htx
  by_cases hr0 : r < 0
  · clear hr
    have a0 := K1.out.here.2.2.cell 0
    have a1 := K1.out.here.2.2.cell 1
    have a2 := K1.out.here.2.2.cell 2
    simp at a0 a1 a2
    go_enter Try.func6, Try.ntmps6
    go_wp2_with fail
    refine (sz_letter us tx T A N cap 1048576 r _ K1.out.here.1.2 HU.out HX.out (by omega) (by omega) HR.out).mono ?_
    rintro e w1 ⟨rfl, hb⟩
    have K2 := Lib.hid (K1.out.move hb)
    clear hb
    clear a0 a1 a2
    go_wp2
    go_ret
    exact ⟨rfl, K2.out.here.1.1⟩
  · have hsm := szM_ok (a := us) (L := T) (c := tx) (z := 1048576) (by omega) (by rw [hr]; omega)
    have HSM := Lib.hid hsm
    have hN : N ≤ 1048576 := by have := hsm.2.1; rw [HN.out] at this; omega
    have HUU : Hid (us.size ≤ 16777216) := Lib.hid (by have := hsm.1; omega)
    have HTL : Hid (T.length ≤ 4194304) := Lib.hid (by have := hsm.2.1; omega)
    have HTG : Hid (∀ g ∈ T, g.size ≤ 16777216) := Lib.hid (fun g hg => by have := hsm.2.2.2 g hg; omega)
    clear hr hsm
    have a0 := K1.out.here.2.2.cell 0
    have a1 := K1.out.here.2.2.cell 1
    have a2 := K1.out.here.2.2.cell 2
    simp at a0 a1 a2
    go_enter Try.func6, Try.ntmps6
    go_wp2_with fail
    refine (sz_letter us tx T A N cap 1048576 r _ K1.out.here.1.2 HU.out HX.out (by omega) (by omega) HR.out).mono ?_
    rintro e w1 ⟨rfl, hb⟩
    have K2 := Lib.hid (K1.out.move hb)
    clear hb
    clear a0 a1 a2
    have a0 := K2.out.here.2.2.cell 0
    have a1 := K2.out.here.2.2.cell 1
    have a2 := K2.out.here.2.2.cell 2
    simp at a0 a1 a2
    go_wp2_with fail
    refine (to_letter us tx T A N cap _ K2.out.here.1.2 hN).mono ?_
    rintro e w2 ⟨g1, rfl, hown, hb⟩
    have K3 := Lib.hid ((K2.out.move hb).and (SIn.made hown HTL.out HTG.out).keep)
    clear hb hown
    clear a0 a1 a2
    have a0 := K3.out.here.1.2.2.cell 0
    have a1 := K3.out.here.1.2.2.cell 1
    have a2 := K3.out.here.1.2.2.cell 2
    simp at a0 a1 a2
    go_wp2_with fail
    refine (slet_at HV.out _ K3.out.here.2 HUU.out).mono ?_
    rintro e w3 ⟨rfl, hb⟩
    have K4 := Lib.hid (K3.out.move hb)
    clear hb
    clear a0 a1 a2
    have a0 := K4.out.here.1.2.2.cell 0
    have a1 := K4.out.here.1.2.2.cell 1
    have a2 := K4.out.here.1.2.2.cell 2
    simp at a0 a1 a2
    go_wp2_with fail
    refine (to_letter us tx T A N cap _ K4.out.here.1.1.2 hN).mono ?_
    rintro e w4 ⟨gx, rfl, hown, hb⟩
    obtain ⟨Dx, hDx⟩ : ∃ D, w4.heap.size = D := ⟨_, rfl⟩
    have K5 := Lib.hid ((((K4.out.move hb).and (SIn.made hown HTL.out HTG.out).keep).alloc (.cells #[.string us, .slice (some ⟨gx, 0, none⟩) N N, .string tx] 28)).and (kp_made w4 28 #[.string us, .slice (some ⟨gx, 0, none⟩) N N, .string tx] hDx))
    clear hb hown
    clear a0 a1 a2
    have a0 := K5.out.here.1.1.1.2.2.cell 0
    have a1 := K5.out.here.1.1.1.2.2.cell 1
    have a2 := K5.out.here.1.1.1.2.2.cell 2
    have x0 := K5.out.here.2.2.cell 0
    have x1 := K5.out.here.2.2.cell 1
    have x2 := K5.out.here.2.2.cell 2
    simp at a0 a1 a2 x0 x1 x2
    go_wp2_with fail
    refine (ilet_at HV.out _ K5.out.here.1.2 HUU.out).mono ?_
    rintro e w5 ⟨rfl, hb⟩
    have K6 := Lib.hid (K5.out.move hb)
    clear hb
    clear a0 a1 a2 x0 x1 x2
    have a0 := K6.out.here.1.1.1.2.2.cell 0
    have a1 := K6.out.here.1.1.1.2.2.cell 1
    have a2 := K6.out.here.1.1.1.2.2.cell 2
    have x0 := K6.out.here.2.2.cell 0
    have x1 := K6.out.here.2.2.cell 1
    have x2 := K6.out.here.2.2.cell 2
    simp at a0 a1 a2 x0 x1 x2
    go_wp2_with fail
    have K7 := Lib.hid K6.out.drew
    clear a0 a1 a2 x0 x1 x2
    go_region_held3 (fun w' => w'.cell? ⟨Da, 0, none⟩ = some (.string us) ∧ w'.cell? ⟨Da, 1, none⟩ = some (.slice A N cap) ∧ w'.cell? ⟨Da, 2, none⟩ = some (.string tx) ∧ w'.cell? ⟨Dx, 0, none⟩ = some (.string us) ∧ w'.cell? ⟨Dx, 1, none⟩ = some (.slice (some ⟨gx, 0, none⟩) N N) ∧ w'.cell? ⟨Dx, 2, none⟩ = some (.string tx)) (first | exact ⟨KC.out.here.1.1.1.1.2.2.cell 0, KC.out.here.1.1.1.1.2.2.cell 1, KC.out.here.1.1.1.1.2.2.cell 2, KC.out.here.1.2.2.cell 0, KC.out.here.1.2.2.cell 1, KC.out.here.1.2.2.cell 2⟩ | exact ⟨KB.out.here.1.1.1.1.2.2.cell 0, KB.out.here.1.1.1.1.2.2.cell 1, KB.out.here.1.1.1.1.2.2.cell 2, KB.out.here.1.2.2.cell 0, KB.out.here.1.2.2.cell 1, KB.out.here.1.2.2.cell 2⟩ | exact ⟨K7.out.here.1.1.1.2.2.cell 0, K7.out.here.1.1.1.2.2.cell 1, K7.out.here.1.1.1.2.2.cell 2, K7.out.here.2.2.cell 0, K7.out.here.2.2.cell 1, K7.out.here.2.2.cell 2⟩ | go_keep) (first
      | (go_at_call 18; refine (to_letter us tx T A N cap _ K7.out.here.1.1.1.1.2 hN).mono ?_; rintro e w6 ⟨gy, rfl, hown, hb⟩; have KB := Lib.hid ((K7.out.move hb).and (SIn.made hown HTL.out HTG.out).keep); clear hb hown)
      | (go_at_call 19; refine (eq_letter us tx T (some ⟨gx, 0, none⟩) (some ⟨gy, 0, none⟩) N N N _ KB.out.here.1.1.2 KB.out.here.2).mono ?_; rintro e w7 ⟨rfl, hb⟩; have KC := Lib.hid (KB.out.move hb); clear hb))
    all_goals
      have K8 := Lib.hid KC.out.l
      have a0 := K8.out.here.1.1.1.2.2.cell 0
      have a1 := K8.out.here.1.1.1.2.2.cell 1
      have a2 := K8.out.here.1.1.1.2.2.cell 2
      have x0 := K8.out.here.2.2.cell 0
      have x1 := K8.out.here.2.2.cell 1
      have x2 := K8.out.here.2.2.cell 2
      simp at a0 a1 a2 x0 x1 x2
      go_wp2
      go_ret
      exact ⟨rfl, K8.out.here.1.1.1.1.1⟩
end Go.Proofs.Ytichajalinkcdaa
