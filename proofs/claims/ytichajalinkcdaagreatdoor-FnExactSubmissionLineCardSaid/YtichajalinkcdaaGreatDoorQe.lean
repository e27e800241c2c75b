/-
  My texts Tb, Tc, Td, Te, Tf, Uc in one, so that a claim holds fewer files. Conditions: each contract's own.
-/
import Derived.Test.YtichajalinkcdaaGreatDoorQd
import Derived.BigRegion
import Derived.Laws.Cover1
import Derived.Deep.RegionHeld3
namespace Go.Proofs.YtichajalinkcdaaGreatDoor
open Go.RowKit
set_option linter.unusedVariables false

theorem sz_eB {v : ByteArray} (h : v.size = 0) : v = eB := by
  refine rB_ext ?_
  have : v.data.toList.length = 0 := by simpa using h
  rw [List.eq_nil_of_length_eq_zero this]
  rfl
theorem ne_eB {v : ByteArray} (h : v.size ≠ 0) : decide (v = eB) = false := decide_eq_false fun e => h (by rw [e]; rfl)
theorem ne_nil {L : List ByteArray} (h : L.length ≠ 0) : decide (L = []) = false := decide_eq_false fun e => h (by rw [e]; rfl)
theorem recB_n21 {L : List ByteArray} (h : n21 L = true) (h1 : L.length ≠ 0) : recB L = true := by unfold recB; rw [h, decide_eq_true (show 1 ≤ L.length by omega)]; rfl
theorem recB_zero {L : List ByteArray} (h : L.length = 0) : recB L = false := recB_long (by omega)
theorem sbV_names {s : Sb} (h : n21 s.to = false) : sbV s = false := by
  cases hv : sbV s with
  | false => rfl
  | true =>
    exfalso
    obtain ⟨h0, h6⟩ := sbV_range hv
    have hnil : s.to = [] → False := fun e => by rw [e] at h; cases h
    have hrec : recB s.to = true → False := fun e => by unfold recB at e; rw [h] at e; cases e
    rcases (show (s.st = 0 ∨ s.st = 1 ∨ s.st = 6) ∨ (s.st = 2 ∨ s.st = 3) ∨ s.st = 4 ∨ s.st = 5 by omega) with h1 | h1 | h1 | h1
    · rw [sbV_low h1] at hv; simp at hv; exact hnil hv.2.1
    · rw [sbV_mid h1] at hv; simp at hv; exact hnil hv.2.1
    · rw [sbV_to h1] at hv; simp at hv; exact hrec hv.2.1
    · rw [sbV_data h1] at hv; simp at hv; exact hrec hv.2.1
theorem sbV_long {s : Sb} (h : ¬ s.tx.size ≤ 21) : sbV s = false := by
  cases hv : sbV s with
  | false => rfl
  | true => exact absurd (sbV_has hv).2.2.2.1 h
theorem two_in {a b x : Int} {z : Bool} (h : (decide (a ≤ x) && decide (x ≤ b)) = z) : (decide (a ≤ x) && decide (x ≤ b)) = z := h
set_option maxRecDepth 20000 in
set_option maxHeartbeats 3000000 in
theorem spec_subvalid (st : Int) (us tx : ByteArray) (T : List ByteArray) (A : Option Addr) (N cap : Nat) (w : World) (h : SIn w A N cap T) (hu : us.size ≤ 16777216) : Calls Tryz.prog 47 #[.agg #[.int .i64 st, .string us, .slice A N cap, .string tx]] w (SayB w (sbV ⟨st, us, T, tx⟩)) := by
  have HT := Lib.hid h.1
  have hS := h.below ((Below.refl w.heap.size w).alloc (Nat.le_refl _) (.cells #[.int .i64 st, .string us, .slice A N cap, .string tx] 25)) (Nat.le_refl _)
  have HS := Lib.hid hS
  have hW := Whole.made w 25 #[.int .i64 st, .string us, .slice A N cap, .string tx]
  have c0 := hW.cell 0
  have c1 := hW.cell 1
  have c2 := hW.cell 2
  have c3 := hW.cell 3
  simp at c0 c1 c2 c3
  have HW := Lib.hid hW
  have HB := Lib.hid ((Below.refl w.heap.size w).alloc (Nat.le_refl _) (.cells #[.int .i64 st, .string us, .slice A N cap, .string tx] 25))
  clear h hS hW
  cases hr : (decide ((0 : Int) ≤ st) && decide (st ≤ 6)) with
  | false =>
    have HR := Lib.hid hr
    have HE : Hid (sbV ⟨st, us, T, tx⟩ = false) := Lib.hid (sbV_off (by simp at hr; simp only; omega))
    clear hr
    go_enter Tryz.func47, Tryz.ntmps47
    go_wp2_with fail
    refine (sin_at HR.out _).mono ?_
    rintro e w1 ⟨rfl, rfl⟩
    go_wp2
    go_ret
    exact says_b HE.out HB.out
  | true =>
    have HR := Lib.hid hr
    have hr0 : 0 ≤ st ∧ st ≤ 6 := by simpa using hr
    clear hr
    cases hn : n21 T with
    | false =>
      have HN := Lib.hid hn
      have HE : Hid (sbV ⟨st, us, T, tx⟩ = false) := Lib.hid (sbV_names hn)
      clear hn hr0
      go_enter Tryz.func47, Tryz.ntmps47
      go_wp2_with fail
      refine (sin_at HR.out _).mono ?_
      rintro e w1 ⟨rfl, rfl⟩
      go_wp2_with fail
      refine (names_at HN.out _ HS.out).mono ?_
      rintro e w2 ⟨rfl, hb⟩
      have HB2 := Lib.hid (HB.out.trans (hb.mono HB.out.size))
      clear hb
      go_wp2
      go_ret
      exact says_b HE.out HB2.out
    | true =>
      have HN := Lib.hid hn
      clear hn
      by_cases hx : tx.size ≤ 21
      ·
        have hx' : ¬ (21 : Int) < (tx.size : Int) := by omega
        have HX := Lib.hid hx
        clear hx
        rcases (show st = 0 ∨ st = 1 ∨ st = 2 ∨ st = 3 ∨ st = 4 ∨ st = 5 ∨ st = 6 by omega) with rfl | rfl | rfl | rfl | rfl | rfl | rfl
        ·
          clear hr0
          cases hm : nameB (kb us) with
          | true =>
            have HM := Lib.hid hm
            have HE : Hid (sbV ⟨0, us, T, tx⟩ = false) := Lib.hid (((sbV_low (by simp)).trans (by simp only; rw [ne_eB (show us.size ≠ 0 by have := (nm_size hm).1; omega)]; rfl)))
            clear hm
            try clear hN
            try clear hz
            try clear ht
            go_enter Tryz.func47, Tryz.ntmps47
            go_wp2_with fail
            refine (sin_at HR.out _).mono ?_
            rintro e w1 ⟨rfl, rfl⟩
            go_wp2_with fail
            refine (names_at HN.out _ HS.out).mono ?_
            rintro e w2 ⟨rfl, hb⟩
            have HB2 := Lib.hid (HB.out.trans (hb.mono HB.out.size))
            have hW2 := HW.out.below hb HW.out.lt
            have d0 := hW2.cell 0
            have d1 := hW2.cell 1
            have d2 := hW2.cell 2
            have d3 := hW2.cell 3
            simp at d0 d1 d2 d3
            clear hb hW2 c0 c1 c2 c3
            go_wp2_with fail
            refine (sin_at (z := false) (by decide) _).mono ?_
            rintro e w3 ⟨rfl, rfl⟩
            go_wp2_with fail
            refine (sname_at HM.out hu _).mono ?_
            rintro e w4 ⟨rfl, rfl⟩
            go_wp2
            go_ret
            exact says_b HE.out HB2.out
          | false =>
            by_cases hz : us.size = 0
            · have he : us = ⟨#[]⟩ := sz_eB hz
              subst he
              by_cases hN : N = 0
              · by_cases ht : tx.size = 0
                · have he : tx = ⟨#[]⟩ := sz_eB ht
                  subst he
                  have HM := Lib.hid hm
                  have hN0 : decide ((0 : Int) < (N : Int)) = false := decide_eq_false (by omega)
                  have hN9 : decide (0 < N) = false := decide_eq_false (by omega)
                  have q1 := isEmpty (v := ⟨#[]⟩) rfl
                  have q2 := isEmpty (v := ⟨#[]⟩) rfl
                  have HE : Hid (sbV ⟨0, eB, T, eB⟩ = true) := Lib.hid ((sbV_low (by simp)).trans (by simp only; rw [List.eq_nil_of_length_eq_zero (HT.out.trans hN)]; rfl))
                  clear hm
                  try clear hN
                  try clear hz
                  try clear ht
                  go_enter Tryz.func47, Tryz.ntmps47
                  go_wp2_with fail
                  refine (sin_at HR.out _).mono ?_
                  rintro e w1 ⟨rfl, rfl⟩
                  go_wp2_with fail
                  refine (names_at HN.out _ HS.out).mono ?_
                  rintro e w2 ⟨rfl, hb⟩
                  have HB2 := Lib.hid (HB.out.trans (hb.mono HB.out.size))
                  have hW2 := HW.out.below hb HW.out.lt
                  have d0 := hW2.cell 0
                  have d1 := hW2.cell 1
                  have d2 := hW2.cell 2
                  have d3 := hW2.cell 3
                  simp at d0 d1 d2 d3
                  clear hb hW2 c0 c1 c2 c3
                  go_wp2_with fail
                  refine (sin_at (z := false) (by decide) _).mono ?_
                  rintro e w3 ⟨rfl, rfl⟩
                  go_wp2_with fail
                  refine (sname_at HM.out hu _).mono ?_
                  rintro e w4 ⟨rfl, rfl⟩
                  go_wp2
                  go_ret
                  exact says_b HE.out HB2.out
                ·
                  have HM := Lib.hid hm
                  have hN0 : decide ((0 : Int) < (N : Int)) = false := decide_eq_false (by omega)
                  have hN9 : decide (0 < N) = false := decide_eq_false (by omega)
                  have q1 := isEmpty (v := ⟨#[]⟩) rfl
                  obtain ⟨q2, q3⟩ := noEmpty ht
                  have HE : Hid (sbV ⟨0, eB, T, tx⟩ = false) := Lib.hid ((sbV_low (by simp)).trans (by simp only; rw [ne_eB ht]; simp))
                  clear hm
                  try clear hN
                  try clear hz
                  try clear ht
                  go_enter Tryz.func47, Tryz.ntmps47
                  go_wp2_with fail
                  refine (sin_at HR.out _).mono ?_
                  rintro e w1 ⟨rfl, rfl⟩
                  go_wp2_with fail
                  refine (names_at HN.out _ HS.out).mono ?_
                  rintro e w2 ⟨rfl, hb⟩
                  have HB2 := Lib.hid (HB.out.trans (hb.mono HB.out.size))
                  have hW2 := HW.out.below hb HW.out.lt
                  have d0 := hW2.cell 0
                  have d1 := hW2.cell 1
                  have d2 := hW2.cell 2
                  have d3 := hW2.cell 3
                  simp at d0 d1 d2 d3
                  clear hb hW2 c0 c1 c2 c3
                  go_wp2_with fail
                  refine (sin_at (z := false) (by decide) _).mono ?_
                  rintro e w3 ⟨rfl, rfl⟩
                  go_wp2_with fail
                  refine (sname_at HM.out hu _).mono ?_
                  rintro e w4 ⟨rfl, rfl⟩
                  go_wp2
                  go_ret
                  exact says_b HE.out HB2.out
              ·
                have HM := Lib.hid hm
                have hN0 : decide ((0 : Int) < (N : Int)) = true := decide_eq_true (by omega)
                have hN9 : decide (0 < N) = true := decide_eq_true (by omega)
                have q1 := isEmpty (v := ⟨#[]⟩) rfl
                have HE : Hid (sbV ⟨0, eB, T, tx⟩ = false) := Lib.hid ((sbV_low (by simp)).trans (by simp only; rw [ne_nil (by rw [HT.out]; exact hN)]; simp))
                clear hm
                try clear hN
                try clear hz
                try clear ht
                go_enter Tryz.func47, Tryz.ntmps47
                go_wp2_with fail
                refine (sin_at HR.out _).mono ?_
                rintro e w1 ⟨rfl, rfl⟩
                go_wp2_with fail
                refine (names_at HN.out _ HS.out).mono ?_
                rintro e w2 ⟨rfl, hb⟩
                have HB2 := Lib.hid (HB.out.trans (hb.mono HB.out.size))
                have hW2 := HW.out.below hb HW.out.lt
                have d0 := hW2.cell 0
                have d1 := hW2.cell 1
                have d2 := hW2.cell 2
                have d3 := hW2.cell 3
                simp at d0 d1 d2 d3
                clear hb hW2 c0 c1 c2 c3
                go_wp2_with fail
                refine (sin_at (z := false) (by decide) _).mono ?_
                rintro e w3 ⟨rfl, rfl⟩
                go_wp2_with fail
                refine (sname_at HM.out hu _).mono ?_
                rintro e w4 ⟨rfl, rfl⟩
                go_wp2
                go_ret
                exact says_b HE.out HB2.out
            ·
              have HM := Lib.hid hm
              obtain ⟨q1, q3⟩ := noEmpty hz
              have HE : Hid (sbV ⟨0, us, T, tx⟩ = false) := Lib.hid ((sbV_low (by simp)).trans (by simp only; rw [ne_eB hz]; rfl))
              clear hm
              try clear hN
              try clear hz
              try clear ht
              go_enter Tryz.func47, Tryz.ntmps47
              go_wp2_with fail
              refine (sin_at HR.out _).mono ?_
              rintro e w1 ⟨rfl, rfl⟩
              go_wp2_with fail
              refine (names_at HN.out _ HS.out).mono ?_
              rintro e w2 ⟨rfl, hb⟩
              have HB2 := Lib.hid (HB.out.trans (hb.mono HB.out.size))
              have hW2 := HW.out.below hb HW.out.lt
              have d0 := hW2.cell 0
              have d1 := hW2.cell 1
              have d2 := hW2.cell 2
              have d3 := hW2.cell 3
              simp at d0 d1 d2 d3
              clear hb hW2 c0 c1 c2 c3
              go_wp2_with fail
              refine (sin_at (z := false) (by decide) _).mono ?_
              rintro e w3 ⟨rfl, rfl⟩
              go_wp2_with fail
              refine (sname_at HM.out hu _).mono ?_
              rintro e w4 ⟨rfl, rfl⟩
              go_wp2
              go_ret
              exact says_b HE.out HB2.out
        ·
          clear hr0
          cases hm : nameB (kb us) with
          | true =>
            have HM := Lib.hid hm
            have HE : Hid (sbV ⟨1, us, T, tx⟩ = false) := Lib.hid (((sbV_low (by simp)).trans (by simp only; rw [ne_eB (show us.size ≠ 0 by have := (nm_size hm).1; omega)]; rfl)))
            clear hm
            try clear hN
            try clear hz
            try clear ht
            go_enter Tryz.func47, Tryz.ntmps47
            go_wp2_with fail
            refine (sin_at HR.out _).mono ?_
            rintro e w1 ⟨rfl, rfl⟩
            go_wp2_with fail
            refine (names_at HN.out _ HS.out).mono ?_
            rintro e w2 ⟨rfl, hb⟩
            have HB2 := Lib.hid (HB.out.trans (hb.mono HB.out.size))
            have hW2 := HW.out.below hb HW.out.lt
            have d0 := hW2.cell 0
            have d1 := hW2.cell 1
            have d2 := hW2.cell 2
            have d3 := hW2.cell 3
            simp at d0 d1 d2 d3
            clear hb hW2 c0 c1 c2 c3
            go_wp2_with fail
            refine (sin_at (z := false) (by decide) _).mono ?_
            rintro e w3 ⟨rfl, rfl⟩
            go_wp2_with fail
            refine (sname_at HM.out hu _).mono ?_
            rintro e w4 ⟨rfl, rfl⟩
            go_wp2
            go_ret
            exact says_b HE.out HB2.out
          | false =>
            by_cases hz : us.size = 0
            · have he : us = ⟨#[]⟩ := sz_eB hz
              subst he
              by_cases hN : N = 0
              · by_cases ht : tx.size = 0
                · have he : tx = ⟨#[]⟩ := sz_eB ht
                  subst he
                  have HM := Lib.hid hm
                  have hN0 : decide ((0 : Int) < (N : Int)) = false := decide_eq_false (by omega)
                  have hN9 : decide (0 < N) = false := decide_eq_false (by omega)
                  have q1 := isEmpty (v := ⟨#[]⟩) rfl
                  have q2 := isEmpty (v := ⟨#[]⟩) rfl
                  have HE : Hid (sbV ⟨1, eB, T, eB⟩ = true) := Lib.hid ((sbV_low (by simp)).trans (by simp only; rw [List.eq_nil_of_length_eq_zero (HT.out.trans hN)]; rfl))
                  clear hm
                  try clear hN
                  try clear hz
                  try clear ht
                  go_enter Tryz.func47, Tryz.ntmps47
                  go_wp2_with fail
                  refine (sin_at HR.out _).mono ?_
                  rintro e w1 ⟨rfl, rfl⟩
                  go_wp2_with fail
                  refine (names_at HN.out _ HS.out).mono ?_
                  rintro e w2 ⟨rfl, hb⟩
                  have HB2 := Lib.hid (HB.out.trans (hb.mono HB.out.size))
                  have hW2 := HW.out.below hb HW.out.lt
                  have d0 := hW2.cell 0
                  have d1 := hW2.cell 1
                  have d2 := hW2.cell 2
                  have d3 := hW2.cell 3
                  simp at d0 d1 d2 d3
                  clear hb hW2 c0 c1 c2 c3
                  go_wp2_with fail
                  refine (sin_at (z := false) (by decide) _).mono ?_
                  rintro e w3 ⟨rfl, rfl⟩
                  go_wp2_with fail
                  refine (sname_at HM.out hu _).mono ?_
                  rintro e w4 ⟨rfl, rfl⟩
                  go_wp2
                  go_ret
                  exact says_b HE.out HB2.out
                ·
                  have HM := Lib.hid hm
                  have hN0 : decide ((0 : Int) < (N : Int)) = false := decide_eq_false (by omega)
                  have hN9 : decide (0 < N) = false := decide_eq_false (by omega)
                  have q1 := isEmpty (v := ⟨#[]⟩) rfl
                  obtain ⟨q2, q3⟩ := noEmpty ht
                  have HE : Hid (sbV ⟨1, eB, T, tx⟩ = false) := Lib.hid ((sbV_low (by simp)).trans (by simp only; rw [ne_eB ht]; simp))
                  clear hm
                  try clear hN
                  try clear hz
                  try clear ht
                  go_enter Tryz.func47, Tryz.ntmps47
                  go_wp2_with fail
                  refine (sin_at HR.out _).mono ?_
                  rintro e w1 ⟨rfl, rfl⟩
                  go_wp2_with fail
                  refine (names_at HN.out _ HS.out).mono ?_
                  rintro e w2 ⟨rfl, hb⟩
                  have HB2 := Lib.hid (HB.out.trans (hb.mono HB.out.size))
                  have hW2 := HW.out.below hb HW.out.lt
                  have d0 := hW2.cell 0
                  have d1 := hW2.cell 1
                  have d2 := hW2.cell 2
                  have d3 := hW2.cell 3
                  simp at d0 d1 d2 d3
                  clear hb hW2 c0 c1 c2 c3
                  go_wp2_with fail
                  refine (sin_at (z := false) (by decide) _).mono ?_
                  rintro e w3 ⟨rfl, rfl⟩
                  go_wp2_with fail
                  refine (sname_at HM.out hu _).mono ?_
                  rintro e w4 ⟨rfl, rfl⟩
                  go_wp2
                  go_ret
                  exact says_b HE.out HB2.out
              ·
                have HM := Lib.hid hm
                have hN0 : decide ((0 : Int) < (N : Int)) = true := decide_eq_true (by omega)
                have hN9 : decide (0 < N) = true := decide_eq_true (by omega)
                have q1 := isEmpty (v := ⟨#[]⟩) rfl
                have HE : Hid (sbV ⟨1, eB, T, tx⟩ = false) := Lib.hid ((sbV_low (by simp)).trans (by simp only; rw [ne_nil (by rw [HT.out]; exact hN)]; simp))
                clear hm
                try clear hN
                try clear hz
                try clear ht
                go_enter Tryz.func47, Tryz.ntmps47
                go_wp2_with fail
                refine (sin_at HR.out _).mono ?_
                rintro e w1 ⟨rfl, rfl⟩
                go_wp2_with fail
                refine (names_at HN.out _ HS.out).mono ?_
                rintro e w2 ⟨rfl, hb⟩
                have HB2 := Lib.hid (HB.out.trans (hb.mono HB.out.size))
                have hW2 := HW.out.below hb HW.out.lt
                have d0 := hW2.cell 0
                have d1 := hW2.cell 1
                have d2 := hW2.cell 2
                have d3 := hW2.cell 3
                simp at d0 d1 d2 d3
                clear hb hW2 c0 c1 c2 c3
                go_wp2_with fail
                refine (sin_at (z := false) (by decide) _).mono ?_
                rintro e w3 ⟨rfl, rfl⟩
                go_wp2_with fail
                refine (sname_at HM.out hu _).mono ?_
                rintro e w4 ⟨rfl, rfl⟩
                go_wp2
                go_ret
                exact says_b HE.out HB2.out
            ·
              have HM := Lib.hid hm
              obtain ⟨q1, q3⟩ := noEmpty hz
              have HE : Hid (sbV ⟨1, us, T, tx⟩ = false) := Lib.hid ((sbV_low (by simp)).trans (by simp only; rw [ne_eB hz]; rfl))
              clear hm
              try clear hN
              try clear hz
              try clear ht
              go_enter Tryz.func47, Tryz.ntmps47
              go_wp2_with fail
              refine (sin_at HR.out _).mono ?_
              rintro e w1 ⟨rfl, rfl⟩
              go_wp2_with fail
              refine (names_at HN.out _ HS.out).mono ?_
              rintro e w2 ⟨rfl, hb⟩
              have HB2 := Lib.hid (HB.out.trans (hb.mono HB.out.size))
              have hW2 := HW.out.below hb HW.out.lt
              have d0 := hW2.cell 0
              have d1 := hW2.cell 1
              have d2 := hW2.cell 2
              have d3 := hW2.cell 3
              simp at d0 d1 d2 d3
              clear hb hW2 c0 c1 c2 c3
              go_wp2_with fail
              refine (sin_at (z := false) (by decide) _).mono ?_
              rintro e w3 ⟨rfl, rfl⟩
              go_wp2_with fail
              refine (sname_at HM.out hu _).mono ?_
              rintro e w4 ⟨rfl, rfl⟩
              go_wp2
              go_ret
              exact says_b HE.out HB2.out
        ·
          clear hr0
          cases hm : nameB (kb us) with
          | false =>
            have HM := Lib.hid hm
            have HE : Hid (sbV ⟨2, us, T, tx⟩ = false) := Lib.hid ((sbV_mid (by simp)).trans (by simp only; rw [hm]; rfl))
            clear hm
            try clear hN
            try clear hz
            try clear ht
            go_enter Tryz.func47, Tryz.ntmps47
            go_wp2_with fail
            refine (sin_at HR.out _).mono ?_
            rintro e w1 ⟨rfl, rfl⟩
            go_wp2_with fail
            refine (names_at HN.out _ HS.out).mono ?_
            rintro e w2 ⟨rfl, hb⟩
            have HB2 := Lib.hid (HB.out.trans (hb.mono HB.out.size))
            have hW2 := HW.out.below hb HW.out.lt
            have d0 := hW2.cell 0
            have d1 := hW2.cell 1
            have d2 := hW2.cell 2
            have d3 := hW2.cell 3
            simp at d0 d1 d2 d3
            clear hb hW2 c0 c1 c2 c3
            go_wp2_with fail
            refine (sin_at (z := true) (by decide) _).mono ?_
            rintro e w3 ⟨rfl, rfl⟩
            go_wp2_with fail
            refine (sname_at HM.out hu _).mono ?_
            rintro e w4 ⟨rfl, rfl⟩
            go_wp2
            go_ret
            exact says_b HE.out HB2.out
          | true =>
            by_cases hN : N = 0
            ·
              by_cases ht : tx.size = 0
              · have he : tx = ⟨#[]⟩ := sz_eB ht
                subst he
                have HM := Lib.hid hm
                have hN0 : decide ((0 : Int) < (N : Int)) = false := decide_eq_false (by omega)
                have hN9 : decide (0 < N) = false := decide_eq_false (by omega)
                have q2 := isEmpty (v := ⟨#[]⟩) rfl
                have HE : Hid (sbV ⟨2, us, T, eB⟩ = true) := Lib.hid ((sbV_mid (by simp)).trans (by simp only; rw [List.eq_nil_of_length_eq_zero (HT.out.trans hN), hm]; rfl))
                clear hm
                try clear hN
                try clear hz
                try clear ht
                go_enter Tryz.func47, Tryz.ntmps47
                go_wp2_with fail
                refine (sin_at HR.out _).mono ?_
                rintro e w1 ⟨rfl, rfl⟩
                go_wp2_with fail
                refine (names_at HN.out _ HS.out).mono ?_
                rintro e w2 ⟨rfl, hb⟩
                have HB2 := Lib.hid (HB.out.trans (hb.mono HB.out.size))
                have hW2 := HW.out.below hb HW.out.lt
                have d0 := hW2.cell 0
                have d1 := hW2.cell 1
                have d2 := hW2.cell 2
                have d3 := hW2.cell 3
                simp at d0 d1 d2 d3
                clear hb hW2 c0 c1 c2 c3
                go_wp2_with fail
                refine (sin_at (z := true) (by decide) _).mono ?_
                rintro e w3 ⟨rfl, rfl⟩
                go_wp2_with fail
                refine (sname_at HM.out hu _).mono ?_
                rintro e w4 ⟨rfl, rfl⟩
                go_wp2
                go_ret
                exact says_b HE.out HB2.out
              ·
                have HM := Lib.hid hm
                have hN0 : decide ((0 : Int) < (N : Int)) = false := decide_eq_false (by omega)
                have hN9 : decide (0 < N) = false := decide_eq_false (by omega)
                obtain ⟨q2, q3⟩ := noEmpty ht
                have HE : Hid (sbV ⟨2, us, T, tx⟩ = false) := Lib.hid ((sbV_mid (by simp)).trans (by simp only; rw [ne_eB ht]; simp))
                clear hm
                try clear hN
                try clear hz
                try clear ht
                go_enter Tryz.func47, Tryz.ntmps47
                go_wp2_with fail
                refine (sin_at HR.out _).mono ?_
                rintro e w1 ⟨rfl, rfl⟩
                go_wp2_with fail
                refine (names_at HN.out _ HS.out).mono ?_
                rintro e w2 ⟨rfl, hb⟩
                have HB2 := Lib.hid (HB.out.trans (hb.mono HB.out.size))
                have hW2 := HW.out.below hb HW.out.lt
                have d0 := hW2.cell 0
                have d1 := hW2.cell 1
                have d2 := hW2.cell 2
                have d3 := hW2.cell 3
                simp at d0 d1 d2 d3
                clear hb hW2 c0 c1 c2 c3
                go_wp2_with fail
                refine (sin_at (z := true) (by decide) _).mono ?_
                rintro e w3 ⟨rfl, rfl⟩
                go_wp2_with fail
                refine (sname_at HM.out hu _).mono ?_
                rintro e w4 ⟨rfl, rfl⟩
                go_wp2
                go_ret
                exact says_b HE.out HB2.out
            ·
              have HM := Lib.hid hm
              have hN0 : decide ((0 : Int) < (N : Int)) = true := decide_eq_true (by omega)
              have hN9 : decide (0 < N) = true := decide_eq_true (by omega)
              have HE : Hid (sbV ⟨2, us, T, tx⟩ = false) := Lib.hid ((sbV_mid (by simp)).trans (by simp only; rw [ne_nil (by rw [HT.out]; exact hN)]; simp))
              clear hm
              try clear hN
              try clear hz
              try clear ht
              go_enter Tryz.func47, Tryz.ntmps47
              go_wp2_with fail
              refine (sin_at HR.out _).mono ?_
              rintro e w1 ⟨rfl, rfl⟩
              go_wp2_with fail
              refine (names_at HN.out _ HS.out).mono ?_
              rintro e w2 ⟨rfl, hb⟩
              have HB2 := Lib.hid (HB.out.trans (hb.mono HB.out.size))
              have hW2 := HW.out.below hb HW.out.lt
              have d0 := hW2.cell 0
              have d1 := hW2.cell 1
              have d2 := hW2.cell 2
              have d3 := hW2.cell 3
              simp at d0 d1 d2 d3
              clear hb hW2 c0 c1 c2 c3
              go_wp2_with fail
              refine (sin_at (z := true) (by decide) _).mono ?_
              rintro e w3 ⟨rfl, rfl⟩
              go_wp2_with fail
              refine (sname_at HM.out hu _).mono ?_
              rintro e w4 ⟨rfl, rfl⟩
              go_wp2
              go_ret
              exact says_b HE.out HB2.out
        ·
          clear hr0
          cases hm : nameB (kb us) with
          | false =>
            have HM := Lib.hid hm
            have HE : Hid (sbV ⟨3, us, T, tx⟩ = false) := Lib.hid ((sbV_mid (by simp)).trans (by simp only; rw [hm]; rfl))
            clear hm
            try clear hN
            try clear hz
            try clear ht
            go_enter Tryz.func47, Tryz.ntmps47
            go_wp2_with fail
            refine (sin_at HR.out _).mono ?_
            rintro e w1 ⟨rfl, rfl⟩
            go_wp2_with fail
            refine (names_at HN.out _ HS.out).mono ?_
            rintro e w2 ⟨rfl, hb⟩
            have HB2 := Lib.hid (HB.out.trans (hb.mono HB.out.size))
            have hW2 := HW.out.below hb HW.out.lt
            have d0 := hW2.cell 0
            have d1 := hW2.cell 1
            have d2 := hW2.cell 2
            have d3 := hW2.cell 3
            simp at d0 d1 d2 d3
            clear hb hW2 c0 c1 c2 c3
            go_wp2_with fail
            refine (sin_at (z := true) (by decide) _).mono ?_
            rintro e w3 ⟨rfl, rfl⟩
            go_wp2_with fail
            refine (sname_at HM.out hu _).mono ?_
            rintro e w4 ⟨rfl, rfl⟩
            go_wp2
            go_ret
            exact says_b HE.out HB2.out
          | true =>
            by_cases hN : N = 0
            ·
              by_cases ht : tx.size = 0
              · have he : tx = ⟨#[]⟩ := sz_eB ht
                subst he
                have HM := Lib.hid hm
                have hN0 : decide ((0 : Int) < (N : Int)) = false := decide_eq_false (by omega)
                have hN9 : decide (0 < N) = false := decide_eq_false (by omega)
                have q2 := isEmpty (v := ⟨#[]⟩) rfl
                have HE : Hid (sbV ⟨3, us, T, eB⟩ = true) := Lib.hid ((sbV_mid (by simp)).trans (by simp only; rw [List.eq_nil_of_length_eq_zero (HT.out.trans hN), hm]; rfl))
                clear hm
                try clear hN
                try clear hz
                try clear ht
                go_enter Tryz.func47, Tryz.ntmps47
                go_wp2_with fail
                refine (sin_at HR.out _).mono ?_
                rintro e w1 ⟨rfl, rfl⟩
                go_wp2_with fail
                refine (names_at HN.out _ HS.out).mono ?_
                rintro e w2 ⟨rfl, hb⟩
                have HB2 := Lib.hid (HB.out.trans (hb.mono HB.out.size))
                have hW2 := HW.out.below hb HW.out.lt
                have d0 := hW2.cell 0
                have d1 := hW2.cell 1
                have d2 := hW2.cell 2
                have d3 := hW2.cell 3
                simp at d0 d1 d2 d3
                clear hb hW2 c0 c1 c2 c3
                go_wp2_with fail
                refine (sin_at (z := true) (by decide) _).mono ?_
                rintro e w3 ⟨rfl, rfl⟩
                go_wp2_with fail
                refine (sname_at HM.out hu _).mono ?_
                rintro e w4 ⟨rfl, rfl⟩
                go_wp2
                go_ret
                exact says_b HE.out HB2.out
              ·
                have HM := Lib.hid hm
                have hN0 : decide ((0 : Int) < (N : Int)) = false := decide_eq_false (by omega)
                have hN9 : decide (0 < N) = false := decide_eq_false (by omega)
                obtain ⟨q2, q3⟩ := noEmpty ht
                have HE : Hid (sbV ⟨3, us, T, tx⟩ = false) := Lib.hid ((sbV_mid (by simp)).trans (by simp only; rw [ne_eB ht]; simp))
                clear hm
                try clear hN
                try clear hz
                try clear ht
                go_enter Tryz.func47, Tryz.ntmps47
                go_wp2_with fail
                refine (sin_at HR.out _).mono ?_
                rintro e w1 ⟨rfl, rfl⟩
                go_wp2_with fail
                refine (names_at HN.out _ HS.out).mono ?_
                rintro e w2 ⟨rfl, hb⟩
                have HB2 := Lib.hid (HB.out.trans (hb.mono HB.out.size))
                have hW2 := HW.out.below hb HW.out.lt
                have d0 := hW2.cell 0
                have d1 := hW2.cell 1
                have d2 := hW2.cell 2
                have d3 := hW2.cell 3
                simp at d0 d1 d2 d3
                clear hb hW2 c0 c1 c2 c3
                go_wp2_with fail
                refine (sin_at (z := true) (by decide) _).mono ?_
                rintro e w3 ⟨rfl, rfl⟩
                go_wp2_with fail
                refine (sname_at HM.out hu _).mono ?_
                rintro e w4 ⟨rfl, rfl⟩
                go_wp2
                go_ret
                exact says_b HE.out HB2.out
            ·
              have HM := Lib.hid hm
              have hN0 : decide ((0 : Int) < (N : Int)) = true := decide_eq_true (by omega)
              have hN9 : decide (0 < N) = true := decide_eq_true (by omega)
              have HE : Hid (sbV ⟨3, us, T, tx⟩ = false) := Lib.hid ((sbV_mid (by simp)).trans (by simp only; rw [ne_nil (by rw [HT.out]; exact hN)]; simp))
              clear hm
              try clear hN
              try clear hz
              try clear ht
              go_enter Tryz.func47, Tryz.ntmps47
              go_wp2_with fail
              refine (sin_at HR.out _).mono ?_
              rintro e w1 ⟨rfl, rfl⟩
              go_wp2_with fail
              refine (names_at HN.out _ HS.out).mono ?_
              rintro e w2 ⟨rfl, hb⟩
              have HB2 := Lib.hid (HB.out.trans (hb.mono HB.out.size))
              have hW2 := HW.out.below hb HW.out.lt
              have d0 := hW2.cell 0
              have d1 := hW2.cell 1
              have d2 := hW2.cell 2
              have d3 := hW2.cell 3
              simp at d0 d1 d2 d3
              clear hb hW2 c0 c1 c2 c3
              go_wp2_with fail
              refine (sin_at (z := true) (by decide) _).mono ?_
              rintro e w3 ⟨rfl, rfl⟩
              go_wp2_with fail
              refine (sname_at HM.out hu _).mono ?_
              rintro e w4 ⟨rfl, rfl⟩
              go_wp2
              go_ret
              exact says_b HE.out HB2.out
        ·
          clear hr0
          cases hm : nameB (kb us) with
          | false =>
            have HM := Lib.hid hm
            have HE : Hid (sbV ⟨4, us, T, tx⟩ = false) := Lib.hid ((sbV_to rfl).trans (by simp only; rw [hm]; rfl))
            clear hm
            try clear hN
            try clear hz
            try clear ht
            go_enter Tryz.func47, Tryz.ntmps47
            go_wp2_with fail
            refine (sin_at HR.out _).mono ?_
            rintro e w1 ⟨rfl, rfl⟩
            go_wp2_with fail
            refine (names_at HN.out _ HS.out).mono ?_
            rintro e w2 ⟨rfl, hb⟩
            have HB2 := Lib.hid (HB.out.trans (hb.mono HB.out.size))
            have hW2 := HW.out.below hb HW.out.lt
            have d0 := hW2.cell 0
            have d1 := hW2.cell 1
            have d2 := hW2.cell 2
            have d3 := hW2.cell 3
            simp at d0 d1 d2 d3
            clear hb hW2 c0 c1 c2 c3
            go_wp2_with fail
            refine (sin_at (z := true) (by decide) _).mono ?_
            rintro e w3 ⟨rfl, rfl⟩
            go_wp2_with fail
            refine (sname_at HM.out hu _).mono ?_
            rintro e w4 ⟨rfl, rfl⟩
            go_wp2
            go_ret
            exact says_b HE.out HB2.out
          | true =>
            by_cases hN : N = 0
            ·
              have HM := Lib.hid hm
              have hN0 : decide ((0 : Int) < (N : Int)) = false := decide_eq_false (by omega)
              have hN9 : decide (0 < N) = false := decide_eq_false (by omega)
              have HE : Hid (sbV ⟨4, us, T, tx⟩ = false) := Lib.hid ((sbV_to rfl).trans (by simp only; rw [recB_zero (HT.out.trans hN)]; simp))
              clear hm
              try clear hN
              try clear hz
              try clear ht
              go_enter Tryz.func47, Tryz.ntmps47
              go_wp2_with fail
              refine (sin_at HR.out _).mono ?_
              rintro e w1 ⟨rfl, rfl⟩
              go_wp2_with fail
              refine (names_at HN.out _ HS.out).mono ?_
              rintro e w2 ⟨rfl, hb⟩
              have HB2 := Lib.hid (HB.out.trans (hb.mono HB.out.size))
              have hW2 := HW.out.below hb HW.out.lt
              have d0 := hW2.cell 0
              have d1 := hW2.cell 1
              have d2 := hW2.cell 2
              have d3 := hW2.cell 3
              simp at d0 d1 d2 d3
              clear hb hW2 c0 c1 c2 c3
              go_wp2_with fail
              refine (sin_at (z := true) (by decide) _).mono ?_
              rintro e w3 ⟨rfl, rfl⟩
              go_wp2_with fail
              refine (sname_at HM.out hu _).mono ?_
              rintro e w4 ⟨rfl, rfl⟩
              go_wp2
              go_ret
              exact says_b HE.out HB2.out
            ·
              by_cases ht : tx.size = 0
              · have he : tx = ⟨#[]⟩ := sz_eB ht
                subst he
                have HM := Lib.hid hm
                have hN0 : decide ((0 : Int) < (N : Int)) = true := decide_eq_true (by omega)
                have hN9 : decide (0 < N) = true := decide_eq_true (by omega)
                have q2 := isEmpty (v := ⟨#[]⟩) rfl
                have HE : Hid (sbV ⟨4, us, T, eB⟩ = true) := Lib.hid ((sbV_to rfl).trans (by simp only; rw [recB_n21 HN.out (by rw [HT.out]; exact hN), hm]; rfl))
                clear hm
                try clear hN
                try clear hz
                try clear ht
                go_enter Tryz.func47, Tryz.ntmps47
                go_wp2_with fail
                refine (sin_at HR.out _).mono ?_
                rintro e w1 ⟨rfl, rfl⟩
                go_wp2_with fail
                refine (names_at HN.out _ HS.out).mono ?_
                rintro e w2 ⟨rfl, hb⟩
                have HB2 := Lib.hid (HB.out.trans (hb.mono HB.out.size))
                have hW2 := HW.out.below hb HW.out.lt
                have d0 := hW2.cell 0
                have d1 := hW2.cell 1
                have d2 := hW2.cell 2
                have d3 := hW2.cell 3
                simp at d0 d1 d2 d3
                clear hb hW2 c0 c1 c2 c3
                go_wp2_with fail
                refine (sin_at (z := true) (by decide) _).mono ?_
                rintro e w3 ⟨rfl, rfl⟩
                go_wp2_with fail
                refine (sname_at HM.out hu _).mono ?_
                rintro e w4 ⟨rfl, rfl⟩
                go_wp2
                go_ret
                exact says_b HE.out HB2.out
              ·
                have HM := Lib.hid hm
                have hN0 : decide ((0 : Int) < (N : Int)) = true := decide_eq_true (by omega)
                have hN9 : decide (0 < N) = true := decide_eq_true (by omega)
                obtain ⟨q2, q3⟩ := noEmpty ht
                have HE : Hid (sbV ⟨4, us, T, tx⟩ = false) := Lib.hid ((sbV_to rfl).trans (by simp only; rw [ne_eB ht]; simp))
                clear hm
                try clear hN
                try clear hz
                try clear ht
                go_enter Tryz.func47, Tryz.ntmps47
                go_wp2_with fail
                refine (sin_at HR.out _).mono ?_
                rintro e w1 ⟨rfl, rfl⟩
                go_wp2_with fail
                refine (names_at HN.out _ HS.out).mono ?_
                rintro e w2 ⟨rfl, hb⟩
                have HB2 := Lib.hid (HB.out.trans (hb.mono HB.out.size))
                have hW2 := HW.out.below hb HW.out.lt
                have d0 := hW2.cell 0
                have d1 := hW2.cell 1
                have d2 := hW2.cell 2
                have d3 := hW2.cell 3
                simp at d0 d1 d2 d3
                clear hb hW2 c0 c1 c2 c3
                go_wp2_with fail
                refine (sin_at (z := true) (by decide) _).mono ?_
                rintro e w3 ⟨rfl, rfl⟩
                go_wp2_with fail
                refine (sname_at HM.out hu _).mono ?_
                rintro e w4 ⟨rfl, rfl⟩
                go_wp2
                go_ret
                exact says_b HE.out HB2.out
        ·
          clear hr0
          cases hm : nameB (kb us) with
          | false =>
            have HM := Lib.hid hm
            have HE : Hid (sbV ⟨5, us, T, tx⟩ = false) := Lib.hid ((sbV_data rfl).trans (by simp only; rw [hm]; rfl))
            clear hm
            try clear hN
            try clear hz
            try clear ht
            go_enter Tryz.func47, Tryz.ntmps47
            go_wp2_with fail
            refine (sin_at HR.out _).mono ?_
            rintro e w1 ⟨rfl, rfl⟩
            go_wp2_with fail
            refine (names_at HN.out _ HS.out).mono ?_
            rintro e w2 ⟨rfl, hb⟩
            have HB2 := Lib.hid (HB.out.trans (hb.mono HB.out.size))
            have hW2 := HW.out.below hb HW.out.lt
            have d0 := hW2.cell 0
            have d1 := hW2.cell 1
            have d2 := hW2.cell 2
            have d3 := hW2.cell 3
            simp at d0 d1 d2 d3
            clear hb hW2 c0 c1 c2 c3
            go_wp2_with fail
            refine (sin_at (z := true) (by decide) _).mono ?_
            rintro e w3 ⟨rfl, rfl⟩
            go_wp2_with fail
            refine (sname_at HM.out hu _).mono ?_
            rintro e w4 ⟨rfl, rfl⟩
            go_wp2
            go_ret
            exact says_b HE.out HB2.out
          | true =>
            by_cases hN : N = 0
            ·
              have HM := Lib.hid hm
              have hN0 : decide ((0 : Int) < (N : Int)) = false := decide_eq_false (by omega)
              have hN9 : decide (0 < N) = false := decide_eq_false (by omega)
              have HE : Hid (sbV ⟨5, us, T, tx⟩ = false) := Lib.hid ((sbV_data rfl).trans (by simp only; rw [recB_zero (HT.out.trans hN)]; simp))
              clear hm
              try clear hN
              try clear hz
              try clear ht
              go_enter Tryz.func47, Tryz.ntmps47
              go_wp2_with fail
              refine (sin_at HR.out _).mono ?_
              rintro e w1 ⟨rfl, rfl⟩
              go_wp2_with fail
              refine (names_at HN.out _ HS.out).mono ?_
              rintro e w2 ⟨rfl, hb⟩
              have HB2 := Lib.hid (HB.out.trans (hb.mono HB.out.size))
              have hW2 := HW.out.below hb HW.out.lt
              have d0 := hW2.cell 0
              have d1 := hW2.cell 1
              have d2 := hW2.cell 2
              have d3 := hW2.cell 3
              simp at d0 d1 d2 d3
              clear hb hW2 c0 c1 c2 c3
              go_wp2_with fail
              refine (sin_at (z := true) (by decide) _).mono ?_
              rintro e w3 ⟨rfl, rfl⟩
              go_wp2_with fail
              refine (sname_at HM.out hu _).mono ?_
              rintro e w4 ⟨rfl, rfl⟩
              go_wp2
              go_ret
              exact says_b HE.out HB2.out
            ·
              have HM := Lib.hid hm
              have hN0 : decide ((0 : Int) < (N : Int)) = true := decide_eq_true (by omega)
              have hN9 : decide (0 < N) = true := decide_eq_true (by omega)
              have HE : Hid (sbV ⟨5, us, T, tx⟩ = true) := Lib.hid ((sbV_data rfl).trans (by simp only; rw [recB_n21 HN.out (by rw [HT.out]; exact hN), hm, decide_eq_true HX.out]; rfl))
              clear hm
              try clear hN
              try clear hz
              try clear ht
              go_enter Tryz.func47, Tryz.ntmps47
              go_wp2_with fail
              refine (sin_at HR.out _).mono ?_
              rintro e w1 ⟨rfl, rfl⟩
              go_wp2_with fail
              refine (names_at HN.out _ HS.out).mono ?_
              rintro e w2 ⟨rfl, hb⟩
              have HB2 := Lib.hid (HB.out.trans (hb.mono HB.out.size))
              have hW2 := HW.out.below hb HW.out.lt
              have d0 := hW2.cell 0
              have d1 := hW2.cell 1
              have d2 := hW2.cell 2
              have d3 := hW2.cell 3
              simp at d0 d1 d2 d3
              clear hb hW2 c0 c1 c2 c3
              go_wp2_with fail
              refine (sin_at (z := true) (by decide) _).mono ?_
              rintro e w3 ⟨rfl, rfl⟩
              go_wp2_with fail
              refine (sname_at HM.out hu _).mono ?_
              rintro e w4 ⟨rfl, rfl⟩
              go_wp2
              go_ret
              exact says_b HE.out HB2.out
        ·
          clear hr0
          cases hm : nameB (kb us) with
          | true =>
            have HM := Lib.hid hm
            have HE : Hid (sbV ⟨6, us, T, tx⟩ = false) := Lib.hid (((sbV_low (by simp)).trans (by simp only; rw [ne_eB (show us.size ≠ 0 by have := (nm_size hm).1; omega)]; rfl)))
            clear hm
            try clear hN
            try clear hz
            try clear ht
            go_enter Tryz.func47, Tryz.ntmps47
            go_wp2_with fail
            refine (sin_at HR.out _).mono ?_
            rintro e w1 ⟨rfl, rfl⟩
            go_wp2_with fail
            refine (names_at HN.out _ HS.out).mono ?_
            rintro e w2 ⟨rfl, hb⟩
            have HB2 := Lib.hid (HB.out.trans (hb.mono HB.out.size))
            have hW2 := HW.out.below hb HW.out.lt
            have d0 := hW2.cell 0
            have d1 := hW2.cell 1
            have d2 := hW2.cell 2
            have d3 := hW2.cell 3
            simp at d0 d1 d2 d3
            clear hb hW2 c0 c1 c2 c3
            go_wp2_with fail
            refine (sin_at (z := false) (by decide) _).mono ?_
            rintro e w3 ⟨rfl, rfl⟩
            go_wp2_with fail
            refine (sname_at HM.out hu _).mono ?_
            rintro e w4 ⟨rfl, rfl⟩
            go_wp2
            go_ret
            exact says_b HE.out HB2.out
          | false =>
            by_cases hz : us.size = 0
            · have he : us = ⟨#[]⟩ := sz_eB hz
              subst he
              by_cases hN : N = 0
              · by_cases ht : tx.size = 0
                · have he : tx = ⟨#[]⟩ := sz_eB ht
                  subst he
                  have HM := Lib.hid hm
                  have hN0 : decide ((0 : Int) < (N : Int)) = false := decide_eq_false (by omega)
                  have hN9 : decide (0 < N) = false := decide_eq_false (by omega)
                  have q1 := isEmpty (v := ⟨#[]⟩) rfl
                  have q2 := isEmpty (v := ⟨#[]⟩) rfl
                  have HE : Hid (sbV ⟨6, eB, T, eB⟩ = true) := Lib.hid ((sbV_low (by simp)).trans (by simp only; rw [List.eq_nil_of_length_eq_zero (HT.out.trans hN)]; rfl))
                  clear hm
                  try clear hN
                  try clear hz
                  try clear ht
                  go_enter Tryz.func47, Tryz.ntmps47
                  go_wp2_with fail
                  refine (sin_at HR.out _).mono ?_
                  rintro e w1 ⟨rfl, rfl⟩
                  go_wp2_with fail
                  refine (names_at HN.out _ HS.out).mono ?_
                  rintro e w2 ⟨rfl, hb⟩
                  have HB2 := Lib.hid (HB.out.trans (hb.mono HB.out.size))
                  have hW2 := HW.out.below hb HW.out.lt
                  have d0 := hW2.cell 0
                  have d1 := hW2.cell 1
                  have d2 := hW2.cell 2
                  have d3 := hW2.cell 3
                  simp at d0 d1 d2 d3
                  clear hb hW2 c0 c1 c2 c3
                  go_wp2_with fail
                  refine (sin_at (z := false) (by decide) _).mono ?_
                  rintro e w3 ⟨rfl, rfl⟩
                  go_wp2_with fail
                  refine (sname_at HM.out hu _).mono ?_
                  rintro e w4 ⟨rfl, rfl⟩
                  go_wp2
                  go_ret
                  exact says_b HE.out HB2.out
                ·
                  have HM := Lib.hid hm
                  have hN0 : decide ((0 : Int) < (N : Int)) = false := decide_eq_false (by omega)
                  have hN9 : decide (0 < N) = false := decide_eq_false (by omega)
                  have q1 := isEmpty (v := ⟨#[]⟩) rfl
                  obtain ⟨q2, q3⟩ := noEmpty ht
                  have HE : Hid (sbV ⟨6, eB, T, tx⟩ = false) := Lib.hid ((sbV_low (by simp)).trans (by simp only; rw [ne_eB ht]; simp))
                  clear hm
                  try clear hN
                  try clear hz
                  try clear ht
                  go_enter Tryz.func47, Tryz.ntmps47
                  go_wp2_with fail
                  refine (sin_at HR.out _).mono ?_
                  rintro e w1 ⟨rfl, rfl⟩
                  go_wp2_with fail
                  refine (names_at HN.out _ HS.out).mono ?_
                  rintro e w2 ⟨rfl, hb⟩
                  have HB2 := Lib.hid (HB.out.trans (hb.mono HB.out.size))
                  have hW2 := HW.out.below hb HW.out.lt
                  have d0 := hW2.cell 0
                  have d1 := hW2.cell 1
                  have d2 := hW2.cell 2
                  have d3 := hW2.cell 3
                  simp at d0 d1 d2 d3
                  clear hb hW2 c0 c1 c2 c3
                  go_wp2_with fail
                  refine (sin_at (z := false) (by decide) _).mono ?_
                  rintro e w3 ⟨rfl, rfl⟩
                  go_wp2_with fail
                  refine (sname_at HM.out hu _).mono ?_
                  rintro e w4 ⟨rfl, rfl⟩
                  go_wp2
                  go_ret
                  exact says_b HE.out HB2.out
              ·
                have HM := Lib.hid hm
                have hN0 : decide ((0 : Int) < (N : Int)) = true := decide_eq_true (by omega)
                have hN9 : decide (0 < N) = true := decide_eq_true (by omega)
                have q1 := isEmpty (v := ⟨#[]⟩) rfl
                have HE : Hid (sbV ⟨6, eB, T, tx⟩ = false) := Lib.hid ((sbV_low (by simp)).trans (by simp only; rw [ne_nil (by rw [HT.out]; exact hN)]; simp))
                clear hm
                try clear hN
                try clear hz
                try clear ht
                go_enter Tryz.func47, Tryz.ntmps47
                go_wp2_with fail
                refine (sin_at HR.out _).mono ?_
                rintro e w1 ⟨rfl, rfl⟩
                go_wp2_with fail
                refine (names_at HN.out _ HS.out).mono ?_
                rintro e w2 ⟨rfl, hb⟩
                have HB2 := Lib.hid (HB.out.trans (hb.mono HB.out.size))
                have hW2 := HW.out.below hb HW.out.lt
                have d0 := hW2.cell 0
                have d1 := hW2.cell 1
                have d2 := hW2.cell 2
                have d3 := hW2.cell 3
                simp at d0 d1 d2 d3
                clear hb hW2 c0 c1 c2 c3
                go_wp2_with fail
                refine (sin_at (z := false) (by decide) _).mono ?_
                rintro e w3 ⟨rfl, rfl⟩
                go_wp2_with fail
                refine (sname_at HM.out hu _).mono ?_
                rintro e w4 ⟨rfl, rfl⟩
                go_wp2
                go_ret
                exact says_b HE.out HB2.out
            ·
              have HM := Lib.hid hm
              obtain ⟨q1, q3⟩ := noEmpty hz
              have HE : Hid (sbV ⟨6, us, T, tx⟩ = false) := Lib.hid ((sbV_low (by simp)).trans (by simp only; rw [ne_eB hz]; rfl))
              clear hm
              try clear hN
              try clear hz
              try clear ht
              go_enter Tryz.func47, Tryz.ntmps47
              go_wp2_with fail
              refine (sin_at HR.out _).mono ?_
              rintro e w1 ⟨rfl, rfl⟩
              go_wp2_with fail
              refine (names_at HN.out _ HS.out).mono ?_
              rintro e w2 ⟨rfl, hb⟩
              have HB2 := Lib.hid (HB.out.trans (hb.mono HB.out.size))
              have hW2 := HW.out.below hb HW.out.lt
              have d0 := hW2.cell 0
              have d1 := hW2.cell 1
              have d2 := hW2.cell 2
              have d3 := hW2.cell 3
              simp at d0 d1 d2 d3
              clear hb hW2 c0 c1 c2 c3
              go_wp2_with fail
              refine (sin_at (z := false) (by decide) _).mono ?_
              rintro e w3 ⟨rfl, rfl⟩
              go_wp2_with fail
              refine (sname_at HM.out hu _).mono ?_
              rintro e w4 ⟨rfl, rfl⟩
              go_wp2
              go_ret
              exact says_b HE.out HB2.out
      · have hx' : (21 : Int) < (tx.size : Int) := by omega
        have HE : Hid (sbV ⟨st, us, T, tx⟩ = false) := Lib.hid (sbV_long hx)
        clear hr0 hx
        go_enter Tryz.func47, Tryz.ntmps47
        go_wp2_with fail
        refine (sin_at HR.out _).mono ?_
        rintro e w1 ⟨rfl, rfl⟩
        go_wp2_with fail
        refine (names_at HN.out _ HS.out).mono ?_
        rintro e w2 ⟨rfl, hb⟩
        have HB2 := Lib.hid (HB.out.trans (hb.mono HB.out.size))
        have d3 := (HW.out.below hb HW.out.lt).cell 3
        simp at d3
        clear hb
        go_wp2
        go_ret
        exact says_b HE.out HB2.out
end Go.Proofs.YtichajalinkcdaaGreatDoor
namespace Go.Proofs.YtichajalinkcdaaGreatDoor
open Go.RowKit
set_option linter.unusedVariables false

set_option maxRecDepth 20000 in
set_option maxHeartbeats 4000000 in
theorem impl_subvalid (st : Int) (us tx : ByteArray) (T : List ByteArray) (A : Option Addr) (N cap : Nat) (w : World) (h : SIn w A N cap T) (hu : us.size ≤ 16777216) : Calls Tryz.prog 29 #[.agg #[.int .i64 st, .string us, .slice A N cap, .string tx]] w (SayB w (sbV ⟨st, us, T, tx⟩)) := by
  have HT := Lib.hid h.1
  have hS := h.below ((Below.refl w.heap.size w).alloc (Nat.le_refl _) (.cells #[.int .i64 st, .string us, .slice A N cap, .string tx] 25)) (Nat.le_refl _)
  have HS := Lib.hid hS
  have hW := Whole.made w 25 #[.int .i64 st, .string us, .slice A N cap, .string tx]
  have c0 := hW.cell 0
  have c1 := hW.cell 1
  have c2 := hW.cell 2
  have c3 := hW.cell 3
  simp at c0 c1 c2 c3
  have HW := Lib.hid hW
  have HB := Lib.hid ((Below.refl w.heap.size w).alloc (Nat.le_refl _) (.cells #[.int .i64 st, .string us, .slice A N cap, .string tx] 25))
  clear h hS hW
  by_cases h0 : st = 0 ∨ st = 1 ∨ st = 2 ∨ st = 3 ∨ st = 4 ∨ st = 5 ∨ st = 6
  · rcases h0 with rfl | rfl | rfl | rfl | rfl | rfl | rfl
    ·
      by_cases hz : us.size = 0
      · have he : us = ⟨#[]⟩ := sz_eB hz
        subst he
        have q1 := isEmpty (v := ⟨#[]⟩) rfl
        by_cases hN : N = 0
        · subst hN
          by_cases ht : tx.size = 0
          · have he : tx = ⟨#[]⟩ := sz_eB ht
            subst he
            have HE : Hid (sbV ⟨0, eB, T, eB⟩ = true) := Lib.hid ((sbV_low (by simp)).trans (by simp only; rw [List.eq_nil_of_length_eq_zero HT.out]; rfl))
            try clear hN
            try clear hz
            try clear ht
            try clear hm
            try clear hrc
            go_enter Tryz.func29, Tryz.ntmps29
            go_wp2
            go_ret
            exact says_b HE.out HB.out
          ·
            obtain ⟨q2, q3⟩ := noEmpty ht
            have HE : Hid (sbV ⟨0, eB, T, tx⟩ = false) := Lib.hid ((sbV_low (by simp)).trans (by simp only; rw [ne_eB ht]; simp))
            try clear hN
            try clear hz
            try clear ht
            try clear hm
            try clear hrc
            go_enter Tryz.func29, Tryz.ntmps29
            go_wp2
            go_ret
            exact says_b HE.out HB.out
        ·
          have hN0 : ((N : Int) == 0) = false := beq_eq_false_iff_ne.2 (by omega)
          have HE : Hid (sbV ⟨0, eB, T, tx⟩ = false) := Lib.hid ((sbV_low (by simp)).trans (by simp only; rw [ne_nil (by rw [HT.out]; exact hN)]; simp))
          try clear hN
          try clear hz
          try clear ht
          try clear hm
          try clear hrc
          go_enter Tryz.func29, Tryz.ntmps29
          go_wp2
          go_ret
          exact says_b HE.out HB.out
      ·
        obtain ⟨q1, q3⟩ := noEmpty hz
        have HE : Hid (sbV ⟨0, us, T, tx⟩ = false) := Lib.hid ((sbV_low (by simp)).trans (by simp only; rw [ne_eB hz]; rfl))
        try clear hN
        try clear hz
        try clear ht
        try clear hm
        try clear hrc
        go_enter Tryz.func29, Tryz.ntmps29
        go_wp2
        go_ret
        exact says_b HE.out HB.out
    ·
      by_cases hz : us.size = 0
      · have he : us = ⟨#[]⟩ := sz_eB hz
        subst he
        have q1 := isEmpty (v := ⟨#[]⟩) rfl
        by_cases hN : N = 0
        · subst hN
          by_cases ht : tx.size = 0
          · have he : tx = ⟨#[]⟩ := sz_eB ht
            subst he
            have HE : Hid (sbV ⟨1, eB, T, eB⟩ = true) := Lib.hid ((sbV_low (by simp)).trans (by simp only; rw [List.eq_nil_of_length_eq_zero HT.out]; rfl))
            try clear hN
            try clear hz
            try clear ht
            try clear hm
            try clear hrc
            go_enter Tryz.func29, Tryz.ntmps29
            go_wp2
            go_ret
            exact says_b HE.out HB.out
          ·
            obtain ⟨q2, q3⟩ := noEmpty ht
            have HE : Hid (sbV ⟨1, eB, T, tx⟩ = false) := Lib.hid ((sbV_low (by simp)).trans (by simp only; rw [ne_eB ht]; simp))
            try clear hN
            try clear hz
            try clear ht
            try clear hm
            try clear hrc
            go_enter Tryz.func29, Tryz.ntmps29
            go_wp2
            go_ret
            exact says_b HE.out HB.out
        ·
          have hN0 : ((N : Int) == 0) = false := beq_eq_false_iff_ne.2 (by omega)
          have HE : Hid (sbV ⟨1, eB, T, tx⟩ = false) := Lib.hid ((sbV_low (by simp)).trans (by simp only; rw [ne_nil (by rw [HT.out]; exact hN)]; simp))
          try clear hN
          try clear hz
          try clear ht
          try clear hm
          try clear hrc
          go_enter Tryz.func29, Tryz.ntmps29
          go_wp2
          go_ret
          exact says_b HE.out HB.out
      ·
        obtain ⟨q1, q3⟩ := noEmpty hz
        have HE : Hid (sbV ⟨1, us, T, tx⟩ = false) := Lib.hid ((sbV_low (by simp)).trans (by simp only; rw [ne_eB hz]; rfl))
        try clear hN
        try clear hz
        try clear ht
        try clear hm
        try clear hrc
        go_enter Tryz.func29, Tryz.ntmps29
        go_wp2
        go_ret
        exact says_b HE.out HB.out
    ·
      cases hm : nameB (kb us) with
      | false =>
        have HM := Lib.hid hm
        have HE : Hid (sbV ⟨2, us, T, tx⟩ = false) := Lib.hid ((sbV_mid (by simp)).trans (by simp only; rw [hm]; rfl))
        try clear hN
        try clear hz
        try clear ht
        try clear hm
        try clear hrc
        go_enter Tryz.func29, Tryz.ntmps29
        go_wp2_with fail
        refine (iname_at HM.out hu _).mono ?_
        rintro e w2 ⟨rfl, hb⟩
        have HB2 := Lib.hid (HB.out.trans (hb.mono HB.out.size))
        have hW2 := HW.out.below hb HW.out.lt
        have HS2 := Lib.hid (HS.out.below hb (Nat.le_refl _))
        have HW2 := Lib.hid hW2
        have d1 := hW2.cell 1
        have d2 := hW2.cell 2
        have d3 := hW2.cell 3
        simp at d1 d2 d3
        clear hb hW2 c0 c1 c2 c3
        go_wp2
        go_ret
        exact says_b HE.out HB2.out
      | true =>
        have HM := Lib.hid hm
        by_cases hN : N = 0
        · subst hN
          by_cases ht : tx.size = 0
          · have he : tx = ⟨#[]⟩ := sz_eB ht
            subst he
            have q1 := isEmpty (v := ⟨#[]⟩) rfl
            have HE : Hid (sbV ⟨2, us, T, eB⟩ = true) := Lib.hid ((sbV_mid (by simp)).trans (by simp only; rw [List.eq_nil_of_length_eq_zero HT.out, hm]; rfl))
            try clear hN
            try clear hz
            try clear ht
            try clear hm
            try clear hrc
            go_enter Tryz.func29, Tryz.ntmps29
            go_wp2_with fail
            refine (iname_at HM.out hu _).mono ?_
            rintro e w2 ⟨rfl, hb⟩
            have HB2 := Lib.hid (HB.out.trans (hb.mono HB.out.size))
            have hW2 := HW.out.below hb HW.out.lt
            have HS2 := Lib.hid (HS.out.below hb (Nat.le_refl _))
            have HW2 := Lib.hid hW2
            have d1 := hW2.cell 1
            have d2 := hW2.cell 2
            have d3 := hW2.cell 3
            simp at d1 d2 d3
            clear hb hW2 c0 c1 c2 c3
            go_wp2
            go_ret
            exact says_b HE.out HB2.out
          ·
            obtain ⟨q2, q3⟩ := noEmpty ht
            have HE : Hid (sbV ⟨2, us, T, tx⟩ = false) := Lib.hid ((sbV_mid (by simp)).trans (by simp only; rw [ne_eB ht]; simp))
            try clear hN
            try clear hz
            try clear ht
            try clear hm
            try clear hrc
            go_enter Tryz.func29, Tryz.ntmps29
            go_wp2_with fail
            refine (iname_at HM.out hu _).mono ?_
            rintro e w2 ⟨rfl, hb⟩
            have HB2 := Lib.hid (HB.out.trans (hb.mono HB.out.size))
            have hW2 := HW.out.below hb HW.out.lt
            have HS2 := Lib.hid (HS.out.below hb (Nat.le_refl _))
            have HW2 := Lib.hid hW2
            have d1 := hW2.cell 1
            have d2 := hW2.cell 2
            have d3 := hW2.cell 3
            simp at d1 d2 d3
            clear hb hW2 c0 c1 c2 c3
            go_wp2
            go_ret
            exact says_b HE.out HB2.out
        ·
          have hN0 : ((N : Int) == 0) = false := beq_eq_false_iff_ne.2 (by omega)
          have HE : Hid (sbV ⟨2, us, T, tx⟩ = false) := Lib.hid ((sbV_mid (by simp)).trans (by simp only; rw [ne_nil (by rw [HT.out]; exact hN)]; simp))
          try clear hN
          try clear hz
          try clear ht
          try clear hm
          try clear hrc
          go_enter Tryz.func29, Tryz.ntmps29
          go_wp2_with fail
          refine (iname_at HM.out hu _).mono ?_
          rintro e w2 ⟨rfl, hb⟩
          have HB2 := Lib.hid (HB.out.trans (hb.mono HB.out.size))
          have hW2 := HW.out.below hb HW.out.lt
          have HS2 := Lib.hid (HS.out.below hb (Nat.le_refl _))
          have HW2 := Lib.hid hW2
          have d1 := hW2.cell 1
          have d2 := hW2.cell 2
          have d3 := hW2.cell 3
          simp at d1 d2 d3
          clear hb hW2 c0 c1 c2 c3
          go_wp2
          go_ret
          exact says_b HE.out HB2.out
    ·
      cases hm : nameB (kb us) with
      | false =>
        have HM := Lib.hid hm
        have HE : Hid (sbV ⟨3, us, T, tx⟩ = false) := Lib.hid ((sbV_mid (by simp)).trans (by simp only; rw [hm]; rfl))
        try clear hN
        try clear hz
        try clear ht
        try clear hm
        try clear hrc
        go_enter Tryz.func29, Tryz.ntmps29
        go_wp2_with fail
        refine (iname_at HM.out hu _).mono ?_
        rintro e w2 ⟨rfl, hb⟩
        have HB2 := Lib.hid (HB.out.trans (hb.mono HB.out.size))
        have hW2 := HW.out.below hb HW.out.lt
        have HS2 := Lib.hid (HS.out.below hb (Nat.le_refl _))
        have HW2 := Lib.hid hW2
        have d1 := hW2.cell 1
        have d2 := hW2.cell 2
        have d3 := hW2.cell 3
        simp at d1 d2 d3
        clear hb hW2 c0 c1 c2 c3
        go_wp2
        go_ret
        exact says_b HE.out HB2.out
      | true =>
        have HM := Lib.hid hm
        by_cases hN : N = 0
        · subst hN
          by_cases ht : tx.size = 0
          · have he : tx = ⟨#[]⟩ := sz_eB ht
            subst he
            have q1 := isEmpty (v := ⟨#[]⟩) rfl
            have HE : Hid (sbV ⟨3, us, T, eB⟩ = true) := Lib.hid ((sbV_mid (by simp)).trans (by simp only; rw [List.eq_nil_of_length_eq_zero HT.out, hm]; rfl))
            try clear hN
            try clear hz
            try clear ht
            try clear hm
            try clear hrc
            go_enter Tryz.func29, Tryz.ntmps29
            go_wp2_with fail
            refine (iname_at HM.out hu _).mono ?_
            rintro e w2 ⟨rfl, hb⟩
            have HB2 := Lib.hid (HB.out.trans (hb.mono HB.out.size))
            have hW2 := HW.out.below hb HW.out.lt
            have HS2 := Lib.hid (HS.out.below hb (Nat.le_refl _))
            have HW2 := Lib.hid hW2
            have d1 := hW2.cell 1
            have d2 := hW2.cell 2
            have d3 := hW2.cell 3
            simp at d1 d2 d3
            clear hb hW2 c0 c1 c2 c3
            go_wp2
            go_ret
            exact says_b HE.out HB2.out
          ·
            obtain ⟨q2, q3⟩ := noEmpty ht
            have HE : Hid (sbV ⟨3, us, T, tx⟩ = false) := Lib.hid ((sbV_mid (by simp)).trans (by simp only; rw [ne_eB ht]; simp))
            try clear hN
            try clear hz
            try clear ht
            try clear hm
            try clear hrc
            go_enter Tryz.func29, Tryz.ntmps29
            go_wp2_with fail
            refine (iname_at HM.out hu _).mono ?_
            rintro e w2 ⟨rfl, hb⟩
            have HB2 := Lib.hid (HB.out.trans (hb.mono HB.out.size))
            have hW2 := HW.out.below hb HW.out.lt
            have HS2 := Lib.hid (HS.out.below hb (Nat.le_refl _))
            have HW2 := Lib.hid hW2
            have d1 := hW2.cell 1
            have d2 := hW2.cell 2
            have d3 := hW2.cell 3
            simp at d1 d2 d3
            clear hb hW2 c0 c1 c2 c3
            go_wp2
            go_ret
            exact says_b HE.out HB2.out
        ·
          have hN0 : ((N : Int) == 0) = false := beq_eq_false_iff_ne.2 (by omega)
          have HE : Hid (sbV ⟨3, us, T, tx⟩ = false) := Lib.hid ((sbV_mid (by simp)).trans (by simp only; rw [ne_nil (by rw [HT.out]; exact hN)]; simp))
          try clear hN
          try clear hz
          try clear ht
          try clear hm
          try clear hrc
          go_enter Tryz.func29, Tryz.ntmps29
          go_wp2_with fail
          refine (iname_at HM.out hu _).mono ?_
          rintro e w2 ⟨rfl, hb⟩
          have HB2 := Lib.hid (HB.out.trans (hb.mono HB.out.size))
          have hW2 := HW.out.below hb HW.out.lt
          have HS2 := Lib.hid (HS.out.below hb (Nat.le_refl _))
          have HW2 := Lib.hid hW2
          have d1 := hW2.cell 1
          have d2 := hW2.cell 2
          have d3 := hW2.cell 3
          simp at d1 d2 d3
          clear hb hW2 c0 c1 c2 c3
          go_wp2
          go_ret
          exact says_b HE.out HB2.out
    ·
      cases hm : nameB (kb us) with
      | false =>
        have HM := Lib.hid hm
        have HE : Hid (sbV ⟨4, us, T, tx⟩ = false) := Lib.hid ((sbV_to rfl).trans (by simp only; rw [hm]; rfl))
        try clear hN
        try clear hz
        try clear ht
        try clear hm
        try clear hrc
        go_enter Tryz.func29, Tryz.ntmps29
        go_wp2_with fail
        refine (iname_at HM.out hu _).mono ?_
        rintro e w2 ⟨rfl, hb⟩
        have HB2 := Lib.hid (HB.out.trans (hb.mono HB.out.size))
        have hW2 := HW.out.below hb HW.out.lt
        have HS2 := Lib.hid (HS.out.below hb (Nat.le_refl _))
        have HW2 := Lib.hid hW2
        have d1 := hW2.cell 1
        have d2 := hW2.cell 2
        have d3 := hW2.cell 3
        simp at d1 d2 d3
        clear hb hW2 c0 c1 c2 c3
        go_wp2
        go_ret
        exact says_b HE.out HB2.out
      | true =>
        have HM := Lib.hid hm
        cases hrc : recB T with
        | false =>
          have HRC := Lib.hid hrc
          have HE : Hid (sbV ⟨4, us, T, tx⟩ = false) := Lib.hid ((sbV_to rfl).trans (by simp only; rw [hrc]; simp))
          try clear hN
          try clear hz
          try clear ht
          try clear hm
          try clear hrc
          go_enter Tryz.func29, Tryz.ntmps29
          go_wp2_with fail
          refine (iname_at HM.out hu _).mono ?_
          rintro e w2 ⟨rfl, hb⟩
          have HB2 := Lib.hid (HB.out.trans (hb.mono HB.out.size))
          have hW2 := HW.out.below hb HW.out.lt
          have HS2 := Lib.hid (HS.out.below hb (Nat.le_refl _))
          have HW2 := Lib.hid hW2
          have d1 := hW2.cell 1
          have d2 := hW2.cell 2
          have d3 := hW2.cell 3
          simp at d1 d2 d3
          clear hb hW2 c0 c1 c2 c3
          go_wp2_with fail
          refine (receivers_at HRC.out _ HS2.out).mono ?_
          rintro e w3 ⟨rfl, hb⟩
          have HB3 := Lib.hid (HB2.out.trans (hb.mono HB2.out.size))
          have e3 := (HW2.out.below hb HW2.out.lt).cell 3
          simp at e3
          clear hb d1 d2 d3
          go_wp2
          go_ret
          exact says_b HE.out HB3.out
        | true =>
          have HRC := Lib.hid hrc
          by_cases ht : tx.size = 0
          · have he : tx = ⟨#[]⟩ := sz_eB ht
            subst he
            have q1 := isEmpty (v := ⟨#[]⟩) rfl
            have HE : Hid (sbV ⟨4, us, T, eB⟩ = true) := Lib.hid ((sbV_to rfl).trans (by simp only; rw [hm, hrc]; rfl))
            try clear hN
            try clear hz
            try clear ht
            try clear hm
            try clear hrc
            go_enter Tryz.func29, Tryz.ntmps29
            go_wp2_with fail
            refine (iname_at HM.out hu _).mono ?_
            rintro e w2 ⟨rfl, hb⟩
            have HB2 := Lib.hid (HB.out.trans (hb.mono HB.out.size))
            have hW2 := HW.out.below hb HW.out.lt
            have HS2 := Lib.hid (HS.out.below hb (Nat.le_refl _))
            have HW2 := Lib.hid hW2
            have d1 := hW2.cell 1
            have d2 := hW2.cell 2
            have d3 := hW2.cell 3
            simp at d1 d2 d3
            clear hb hW2 c0 c1 c2 c3
            go_wp2_with fail
            refine (receivers_at HRC.out _ HS2.out).mono ?_
            rintro e w3 ⟨rfl, hb⟩
            have HB3 := Lib.hid (HB2.out.trans (hb.mono HB2.out.size))
            have e3 := (HW2.out.below hb HW2.out.lt).cell 3
            simp at e3
            clear hb d1 d2 d3
            go_wp2
            go_ret
            exact says_b HE.out HB3.out
          ·
            obtain ⟨q2, q3⟩ := noEmpty ht
            have HE : Hid (sbV ⟨4, us, T, tx⟩ = false) := Lib.hid ((sbV_to rfl).trans (by simp only; rw [ne_eB ht]; simp))
            try clear hN
            try clear hz
            try clear ht
            try clear hm
            try clear hrc
            go_enter Tryz.func29, Tryz.ntmps29
            go_wp2_with fail
            refine (iname_at HM.out hu _).mono ?_
            rintro e w2 ⟨rfl, hb⟩
            have HB2 := Lib.hid (HB.out.trans (hb.mono HB.out.size))
            have hW2 := HW.out.below hb HW.out.lt
            have HS2 := Lib.hid (HS.out.below hb (Nat.le_refl _))
            have HW2 := Lib.hid hW2
            have d1 := hW2.cell 1
            have d2 := hW2.cell 2
            have d3 := hW2.cell 3
            simp at d1 d2 d3
            clear hb hW2 c0 c1 c2 c3
            go_wp2_with fail
            refine (receivers_at HRC.out _ HS2.out).mono ?_
            rintro e w3 ⟨rfl, hb⟩
            have HB3 := Lib.hid (HB2.out.trans (hb.mono HB2.out.size))
            have e3 := (HW2.out.below hb HW2.out.lt).cell 3
            simp at e3
            clear hb d1 d2 d3
            go_wp2
            go_ret
            exact says_b HE.out HB3.out
    ·
      cases hm : nameB (kb us) with
      | false =>
        have HM := Lib.hid hm
        have HE : Hid (sbV ⟨5, us, T, tx⟩ = false) := Lib.hid ((sbV_data rfl).trans (by simp only; rw [hm]; rfl))
        try clear hN
        try clear hz
        try clear ht
        try clear hm
        try clear hrc
        go_enter Tryz.func29, Tryz.ntmps29
        go_wp2_with fail
        refine (iname_at HM.out hu _).mono ?_
        rintro e w2 ⟨rfl, hb⟩
        have HB2 := Lib.hid (HB.out.trans (hb.mono HB.out.size))
        have hW2 := HW.out.below hb HW.out.lt
        have HS2 := Lib.hid (HS.out.below hb (Nat.le_refl _))
        have HW2 := Lib.hid hW2
        have d1 := hW2.cell 1
        have d2 := hW2.cell 2
        have d3 := hW2.cell 3
        simp at d1 d2 d3
        clear hb hW2 c0 c1 c2 c3
        go_wp2
        go_ret
        exact says_b HE.out HB2.out
      | true =>
        have HM := Lib.hid hm
        cases hrc : recB T with
        | false =>
          have HRC := Lib.hid hrc
          have HE : Hid (sbV ⟨5, us, T, tx⟩ = false) := Lib.hid ((sbV_data rfl).trans (by simp only; rw [hrc]; simp))
          try clear hN
          try clear hz
          try clear ht
          try clear hm
          try clear hrc
          go_enter Tryz.func29, Tryz.ntmps29
          go_wp2_with fail
          refine (iname_at HM.out hu _).mono ?_
          rintro e w2 ⟨rfl, hb⟩
          have HB2 := Lib.hid (HB.out.trans (hb.mono HB.out.size))
          have hW2 := HW.out.below hb HW.out.lt
          have HS2 := Lib.hid (HS.out.below hb (Nat.le_refl _))
          have HW2 := Lib.hid hW2
          have d1 := hW2.cell 1
          have d2 := hW2.cell 2
          have d3 := hW2.cell 3
          simp at d1 d2 d3
          clear hb hW2 c0 c1 c2 c3
          go_wp2_with fail
          refine (receivers_at HRC.out _ HS2.out).mono ?_
          rintro e w3 ⟨rfl, hb⟩
          have HB3 := Lib.hid (HB2.out.trans (hb.mono HB2.out.size))
          have e3 := (HW2.out.below hb HW2.out.lt).cell 3
          simp at e3
          clear hb d1 d2 d3
          go_wp2
          go_ret
          exact says_b HE.out HB3.out
        | true =>
          have HRC := Lib.hid hrc
          by_cases ht : tx.size ≤ 21
          · have q1 : (tx.size : Int) ≤ 21 := by omega
            have HE : Hid (sbV ⟨5, us, T, tx⟩ = true) := Lib.hid ((sbV_data rfl).trans (by simp only; rw [hm, hrc, decide_eq_true ht]; rfl))
            try clear hN
            try clear hz
            try clear ht
            try clear hm
            try clear hrc
            go_enter Tryz.func29, Tryz.ntmps29
            go_wp2_with fail
            refine (iname_at HM.out hu _).mono ?_
            rintro e w2 ⟨rfl, hb⟩
            have HB2 := Lib.hid (HB.out.trans (hb.mono HB.out.size))
            have hW2 := HW.out.below hb HW.out.lt
            have HS2 := Lib.hid (HS.out.below hb (Nat.le_refl _))
            have HW2 := Lib.hid hW2
            have d1 := hW2.cell 1
            have d2 := hW2.cell 2
            have d3 := hW2.cell 3
            simp at d1 d2 d3
            clear hb hW2 c0 c1 c2 c3
            go_wp2_with fail
            refine (receivers_at HRC.out _ HS2.out).mono ?_
            rintro e w3 ⟨rfl, hb⟩
            have HB3 := Lib.hid (HB2.out.trans (hb.mono HB2.out.size))
            have e3 := (HW2.out.below hb HW2.out.lt).cell 3
            simp at e3
            clear hb d1 d2 d3
            go_wp2
            go_ret
            exact says_b HE.out HB3.out
          ·
            have q1 : ¬ (tx.size : Int) ≤ 21 := by omega
            have HE : Hid (sbV ⟨5, us, T, tx⟩ = false) := Lib.hid ((sbV_data rfl).trans (by simp only; rw [decide_eq_false ht]; simp))
            try clear hN
            try clear hz
            try clear ht
            try clear hm
            try clear hrc
            go_enter Tryz.func29, Tryz.ntmps29
            go_wp2_with fail
            refine (iname_at HM.out hu _).mono ?_
            rintro e w2 ⟨rfl, hb⟩
            have HB2 := Lib.hid (HB.out.trans (hb.mono HB.out.size))
            have hW2 := HW.out.below hb HW.out.lt
            have HS2 := Lib.hid (HS.out.below hb (Nat.le_refl _))
            have HW2 := Lib.hid hW2
            have d1 := hW2.cell 1
            have d2 := hW2.cell 2
            have d3 := hW2.cell 3
            simp at d1 d2 d3
            clear hb hW2 c0 c1 c2 c3
            go_wp2_with fail
            refine (receivers_at HRC.out _ HS2.out).mono ?_
            rintro e w3 ⟨rfl, hb⟩
            have HB3 := Lib.hid (HB2.out.trans (hb.mono HB2.out.size))
            have e3 := (HW2.out.below hb HW2.out.lt).cell 3
            simp at e3
            clear hb d1 d2 d3
            go_wp2
            go_ret
            first
              | exact says_b HE.out HB3.out
              | exact says_b (HE.out.trans (decide_eq_false (by omega)).symm) HB3.out
    ·
      by_cases hz : us.size = 0
      · have he : us = ⟨#[]⟩ := sz_eB hz
        subst he
        have q1 := isEmpty (v := ⟨#[]⟩) rfl
        by_cases hN : N = 0
        · subst hN
          by_cases ht : tx.size = 0
          · have he : tx = ⟨#[]⟩ := sz_eB ht
            subst he
            have HE : Hid (sbV ⟨6, eB, T, eB⟩ = true) := Lib.hid ((sbV_low (by simp)).trans (by simp only; rw [List.eq_nil_of_length_eq_zero HT.out]; rfl))
            try clear hN
            try clear hz
            try clear ht
            try clear hm
            try clear hrc
            go_enter Tryz.func29, Tryz.ntmps29
            go_wp2
            go_ret
            exact says_b HE.out HB.out
          ·
            obtain ⟨q2, q3⟩ := noEmpty ht
            have HE : Hid (sbV ⟨6, eB, T, tx⟩ = false) := Lib.hid ((sbV_low (by simp)).trans (by simp only; rw [ne_eB ht]; simp))
            try clear hN
            try clear hz
            try clear ht
            try clear hm
            try clear hrc
            go_enter Tryz.func29, Tryz.ntmps29
            go_wp2
            go_ret
            exact says_b HE.out HB.out
        ·
          have hN0 : ((N : Int) == 0) = false := beq_eq_false_iff_ne.2 (by omega)
          have HE : Hid (sbV ⟨6, eB, T, tx⟩ = false) := Lib.hid ((sbV_low (by simp)).trans (by simp only; rw [ne_nil (by rw [HT.out]; exact hN)]; simp))
          try clear hN
          try clear hz
          try clear ht
          try clear hm
          try clear hrc
          go_enter Tryz.func29, Tryz.ntmps29
          go_wp2
          go_ret
          exact says_b HE.out HB.out
      ·
        obtain ⟨q1, q3⟩ := noEmpty hz
        have HE : Hid (sbV ⟨6, us, T, tx⟩ = false) := Lib.hid ((sbV_low (by simp)).trans (by simp only; rw [ne_eB hz]; rfl))
        try clear hN
        try clear hz
        try clear ht
        try clear hm
        try clear hrc
        go_enter Tryz.func29, Tryz.ntmps29
        go_wp2
        go_ret
        exact says_b HE.out HB.out
  ·
    have HE : Hid (sbV ⟨st, us, T, tx⟩ = false) := Lib.hid (sbV_off (by simp only; omega))
    have n0 : (st == 0) = false := beq_eq_false_iff_ne.2 (by omega)
    have n1 : (st == 1) = false := beq_eq_false_iff_ne.2 (by omega)
    have n2 : (st == 2) = false := beq_eq_false_iff_ne.2 (by omega)
    have n3 : (st == 3) = false := beq_eq_false_iff_ne.2 (by omega)
    have n4 : (st == 4) = false := beq_eq_false_iff_ne.2 (by omega)
    have n5 : (st == 5) = false := beq_eq_false_iff_ne.2 (by omega)
    have n6 : (st == 6) = false := beq_eq_false_iff_ne.2 (by omega)
    clear h0
    try clear hN
    try clear hz
    try clear ht
    try clear hm
    try clear hrc
    go_enter Tryz.func29, Tryz.ntmps29
    go_wp2
    go_ret
    exact says_b HE.out HB.out
theorem isub_at {st : Int} {us tx : ByteArray} {T : List ByteArray} {A : Option Addr} {N cap : Nat} {z : Bool} (hz : sbV ⟨st, us, T, tx⟩ = z) (w : World) (h : SIn w A N cap T) (hu : us.size ≤ 16777216) : Calls Tryz.prog 29 #[.agg #[.int .i64 st, .string us, .slice A N cap, .string tx]] w (SayB w z) := by
  subst hz
  exact impl_subvalid st us tx T A N cap w h hu
theorem ssub_at {st : Int} {us tx : ByteArray} {T : List ByteArray} {A : Option Addr} {N cap : Nat} {z : Bool} (hz : sbV ⟨st, us, T, tx⟩ = z) (w : World) (h : SIn w A N cap T) (hu : us.size ≤ 16777216) : Calls Tryz.prog 47 #[.agg #[.int .i64 st, .string us, .slice A N cap, .string tx]] w (SayB w z) := by
  subst hz
  exact spec_subvalid st us tx T A N cap w h hu
end Go.Proofs.YtichajalinkcdaaGreatDoor
namespace Go.Proofs.YtichajalinkcdaaGreatDoor
open Go.RowKit
set_option linter.unusedVariables false

theorem lit_walk {l : ByteArray} {A : Array UInt8} {xs : List UInt8} (e : A.toList = xs) (h : l ≠ ⟨A⟩) : (l.toList == xs) = false ∧ ¬ l.toList = xs ∧ (l.toList != xs) = true := by
  have h2 := ne_walk h
  have h3 : (⟨A⟩ : ByteArray).toList = xs := by rw [ByteArray.toList_eq]; exact e
  rw [h3] at h2
  exact ⟨h2.1, h2.2, bne_iff_ne.2 h2.2⟩
/-- The second slice lies where the first one lies, or in new memory. -/
def Fr (w : World) (A A' : Option Addr) : Prop := ∀ q, A' = some q → (∃ p, A = some p ∧ p.block = q.block) ∨ w.heap.size ≤ q.block
theorem Fr.same (w : World) (A : Option Addr) : Fr w A A := fun q h => .inl ⟨q, h, rfl⟩
theorem Fr.new {w : World} {A : Option Addr} {C o : Nat} (h : w.heap.size ≤ C) : Fr w A (some ⟨C, o, none⟩) := fun q e => by cases e; exact .inr h
theorem Fr.none (w : World) (A : Option Addr) : Fr w A Option.none := fun q e => by cases e
theorem Fr.from {w w' : World} {A A' : Option Addr} (h : Fr w' A A') (hs : w.heap.size ≤ w'.heap.size) : Fr w A A' := fun q e => (h q e).imp id fun h2 => by omega
theorem SIn.empty (w : World) (A : Option Addr) (cap : Nat) (h : A = none → cap = 0) (hs : ∀ q, A = some q → q.spot = none) (hl : ∀ q, A = some q → q.block < w.heap.size) : SIn w A 0 cap [] := ⟨rfl, by omega, RAt.nil _ _, h, hs, fun g h => (by cases h), by omega, hl⟩
theorem SIn.new {w : World} {C : Nat} (cap : Nat) (hC : C < w.heap.size) : SIn w (some ⟨C, 0, none⟩) 0 cap [] := SIn.empty w _ cap (fun h => by cases h) (fun q h => by cases h; rfl) (fun q h => by cases h; exact hC)
theorem SIn.set {w : World} {A : Option Addr} {N cap R j : Nat} {T : List ByteArray} (h : SIn w A N cap T) (hne : ∀ q, A = some q → q.block ≠ R) (u : Value) : SIn (w.setCell ⟨R, j, none⟩ u) A N cap T := by
  refine ⟨h.1, h.2.1, ?_, h.2.2.2.1, h.2.2.2.2.1, h.2.2.2.2.2.1, h.2.2.2.2.2.2.1, fun q e => by have := h.lt q e; simp [World.setCell]; exact this⟩
  by_cases h0 : N = 0
  · have : T = [] := List.eq_nil_of_length_eq_zero (by rw [h.1]; exact h0)
    subst this
    exact RAt.nil _ _
  · refine h.2.2.1.grown (g := R) ⟨rfl, rfl, rfl, by simp [World.setCell], fun k hk hn => Below.heap_setCell w _ u k (fun e => hn (by rw [e]))⟩ fun b o e => hne _ e
theorem SIn.set4 {w : World} {A : Option Addr} {N cap R : Nat} {T : List ByteArray} (h : SIn w A N cap T) (hne : ∀ q, A = some q → q.block ≠ R) (a b c d : Value) : SIn ((((w.setCell ⟨R, 0, none⟩ a).setCell ⟨R, 1, none⟩ b).setCell ⟨R, 2, none⟩ c).setCell ⟨R, 3, none⟩ d) A N cap T := (((h.set hne a).set hne b).set hne c).set hne d
theorem below_set4 {B R : Nat} {w w' : World} (h : Below B w w') (hR : B ≤ R) (a b c d : Value) : Below B w ((((w'.setCell ⟨R, 0, none⟩ a).setCell ⟨R, 1, none⟩ b).setCell ⟨R, 2, none⟩ c).setCell ⟨R, 3, none⟩ d) := (((h.setCell hR a).setCell hR b).setCell hR c).setCell hR d
theorem put_sb {w : World} {R : Nat} {a0 a1 a2 a3 : Value} (h : Whole w R 25 #[a0, a1, a2, a3]) (b0 b1 b2 b3 : Value) :
    Whole ((((w.setCell ⟨R, 0, none⟩ b0).setCell ⟨R, 1, none⟩ b1).setCell ⟨R, 2, none⟩ b2).setCell ⟨R, 3, none⟩ b3) R 25 #[b0, b1, b2, b3] := (((h.store 0 _).store 1 _).store 2 _).store 3 _
/-- A submission and a reply. -/
def GiveS (w : World) (A0 : Option Addr) (r : Sb × Int) (e : Ending) (w' : World) : Prop :=
  ∃ A N cap, e = .returned (.tuple #[.agg #[.int .i64 r.1.st, .string r.1.us, .slice A N cap, .string r.1.tx], .int .i64 r.2]) ∧ SIn w' A N cap r.1.to ∧ Fr w A0 A ∧ Below w.heap.size w w'
def GiveB (w : World) (A0 : Option Addr) (s : Sb) (e : Ending) (w' : World) : Prop :=
  ∃ A N cap, e = .returned (.agg #[.int .i64 s.st, .string s.us, .slice A N cap, .string s.tx]) ∧ SIn w' A N cap s.to ∧ Fr w A0 A ∧ Below w.heap.size w w'
def sbCells (st : Int) (us tx : ByteArray) (A : Option Addr) (N cap : Nat) : Array Value := #[.int .i64 st, .string us, .slice A N cap, .string tx]
/-- The start of a function of the model: the submission in a box, and a place for the answer. -/
theorem two_made (w : World) (X Y : Array Value) : Whole ((w.alloc (.cells X 25)).alloc (.cells Y 25)) w.heap.size 25 X ∧ Whole ((w.alloc (.cells X 25)).alloc (.cells Y 25)) (w.heap.size + 1) 25 Y ∧ Below w.heap.size w ((w.alloc (.cells X 25)).alloc (.cells Y 25)) := by
  refine ⟨(Whole.made w _ X).alloc _, ?_, ((Below.refl _ _).alloc (Nat.le_refl _) _).alloc (by simp) _⟩
  have := Whole.made (w.alloc (.cells X 25)) 25 Y
  simpa using this
set_option maxRecDepth 20000 in
set_option maxHeartbeats 2000000 in
theorem spec_back (st : Int) (us tx : ByteArray) (T : List ByteArray) (A : Option Addr) (N cap : Nat) (w : World) : Calls Tryz.prog 89 #[.agg #[.int .i64 st, .string us, .slice A N cap, .string tx]] w (GiveB w A (backF ⟨st, us, T, tx⟩)) := by
  obtain ⟨hs, hr, hB⟩ := two_made w #[.int .i64 st, .string us, .slice A N cap, .string tx] #[.int .i64 0, .string ⟨#[]⟩, .slice none 0 0, .string ⟨#[]⟩]
  have c0 := hs.cell 0
  have c1 := hs.cell 1
  have hr2 := hr.alloc (.cells #[] 9)
  have z0 := hr2.cell 0
  have z1 := hr2.cell 1
  have z2 := hr2.cell 2
  have z3 := hr2.cell 3
  have f0 := hr2.free 0
  have f1 := hr2.free 1
  have f2 := hr2.free 2
  have f3 := hr2.free 3
  simp only [List.getElem?_toArray, List.getElem?_cons_zero, List.getElem?_cons_succ] at c0 c1 z0 z1 z2 z3
  have HB := Lib.hid (hB.alloc hB.size (.cells #[] 9))
  have HR := Lib.hid hr2
  clear hs hr hB hr2
  by_cases h2 : 2 ≤ st
  · have HE : Hid (backF ⟨st, us, T, tx⟩ = ⟨2, us, [], eB⟩) := Lib.hid (if_pos h2)
    obtain ⟨_, hf, hfB⟩ := two_made w #[.int .i64 st, .string us, .slice A N cap, .string tx] #[.int .i64 2, .string us, .slice (some ⟨w.heap.size + 1 + 1, 0, none⟩) 0 0, .string ⟨#[]⟩]
    have hf := hf.alloc (.cells #[] 9)
    have r0 := hf.cell 0
    have r1 := hf.cell 1
    have r2 := hf.cell 2
    have r3 := hf.cell 3
    simp only [List.getElem?_toArray, List.getElem?_cons_zero, List.getElem?_cons_succ] at r0 r1 r2 r3
    have HFB := Lib.hid (hfB.alloc hfB.size (.cells #[] 9))
    clear hf hfB
    go_enter Tryz.func89, Tryz.ntmps89
    go_wp2
    refine bodyPost_ret (v := .agg #[.int .i64 2, .string us, .slice (some ⟨w.heap.size + 1 + 1, 0, none⟩) 0 0, .string ⟨#[]⟩]) (by simp [results, Tryz.results89, go_sem, r0, r1, r2, r3]) rfl ?_
    rw [HE.out]
    exact ⟨_, _, _, rfl, SIn.new _ (by simp), Fr.new (by omega), HFB.out⟩
  · have HE : Hid (backF ⟨st, us, T, tx⟩ = ⟨st, eB, [], eB⟩) := Lib.hid (if_neg h2)
    obtain ⟨_, hf, hfB⟩ := two_made w #[.int .i64 st, .string us, .slice A N cap, .string tx] #[.int .i64 st, .string ⟨#[]⟩, .slice (some ⟨w.heap.size + 1 + 1, 0, none⟩) 0 0, .string ⟨#[]⟩]
    have hf := hf.alloc (.cells #[] 9)
    have r0 := hf.cell 0
    have r1 := hf.cell 1
    have r2 := hf.cell 2
    have r3 := hf.cell 3
    simp only [List.getElem?_toArray, List.getElem?_cons_zero, List.getElem?_cons_succ] at r0 r1 r2 r3
    have HFB := Lib.hid (hfB.alloc hfB.size (.cells #[] 9))
    clear hf hfB
    go_enter Tryz.func89, Tryz.ntmps89
    go_wp2
    refine bodyPost_ret (v := .agg #[.int .i64 st, .string ⟨#[]⟩, .slice (some ⟨w.heap.size + 1 + 1, 0, none⟩) 0 0, .string ⟨#[]⟩]) (by simp [results, Tryz.results89, go_sem, r0, r1, r2, r3]) rfl ?_
    rw [HE.out]
    exact ⟨_, _, _, rfl, SIn.new _ (by simp), Fr.new (by omega), HFB.out⟩
theorem sback_at {st : Int} {us tx : ByteArray} {T : List ByteArray} {A : Option Addr} {N cap : Nat} {s : Sb} (hs : backF ⟨st, us, T, tx⟩ = s) (w : World) : Calls Tryz.prog 89 #[.agg #[.int .i64 st, .string us, .slice A N cap, .string tx]] w (GiveB w A s) := by
  subst hs
  exact spec_back st us tx T A N cap w
end Go.Proofs.YtichajalinkcdaaGreatDoor
namespace Go.Proofs.YtichajalinkcdaaGreatDoor
open Go.RowKit
set_option linter.unusedVariables false

theorem ext_front (l : ByteArray) (n : Nat) : kb (l.extract 0 n) = (kb l).take n := by
  unfold kb
  rw [ByteArray.data_extract, Array.toList_extract, List.extract_eq_take_drop]
  simp
theorem ext_back (l : ByteArray) (n : Nat) : kb (l.extract n l.size) = (kb l).drop n := by
  unfold kb
  rw [ByteArray.data_extract, Array.toList_extract, List.extract_eq_take_drop]
  have e : l.data.toList.length = l.size := by simp
  rw [List.take_of_length_le]
  rw [List.length_drop, e]
  exact Nat.le_refl _
theorem kb_len (l : ByteArray) : (kb l).length = l.size := by unfold kb; simp
theorem pre_short {b l : ByteArray} (h : l.size < b.size) : preB b l = false := by
  unfold preB
  refine decide_eq_false fun e => ?_
  have := congrArg List.length e
  rw [List.length_take, kb_len, kb_len] at this
  omega
theorem pre_ext (b l : ByteArray) : preB b l = decide (l.extract 0 b.size = b) := by
  unfold preB
  rw [kb_len, ← ext_front]
  by_cases h : l.extract 0 b.size = b
  · rw [h]; simp
  · rw [decide_eq_false h, decide_eq_false fun e => h (kb_inj e)]
theorem pt_off {b l : ByteArray} (h : preB b l = false) : ptO b l = false ∧ ptU b l = ⟨#[]⟩ ∧ ptD b l = ⟨#[]⟩ := by
  unfold ptO ptU ptD
  rw [h]
  exact ⟨rfl, rfl, rfl⟩
theorem pt_on {b l : ByteArray} {o : Bool} {u d : ByteArray} (h : preB b l = true) (hp : IsP (l.extract b.size l.size) o u d) : ptO b l = (o && decide (u.size ≠ 0)) ∧ ptU b l = u ∧ ptD b l = d := by
  obtain ⟨h1, h2, h3⟩ := hp
  have e : (l.extract b.size l.size).data.toList = tlB b l := by
    unfold tlB
    rw [kb_len]
    exact ext_back l b.size
  rw [e] at h1 h2 h3
  unfold ptO ptU ptD
  rw [h, h1, h2, h3]
  refine ⟨?_, rfl, rfl⟩
  have : decide (qU (tlB b l) ≠ []) = decide (u.size ≠ 0) := by
    rw [← h2, bs_size]
    simp [List.length_eq_zero_iff]
  rw [this]
  rfl
theorem bl_drew {B : Nat} {w w' : World} (h : Below B w w') : Below B w w'.drew := ⟨h.os, h.tape, h.output, h.size, h.block⟩
theorem whole_one (w : World) (X : Array Value) (t : TypeId) : Whole (w.alloc (.cells X t)) w.heap.size t X := Whole.made w t X
set_option maxRecDepth 20000 in
set_option maxHeartbeats 2000000 in
theorem spec_lpath {b l : ByteArray} {o : Bool} {u d : ByteArray} (ho : ptO b l = o) (hu : ptU b l = u) (hd : ptD b l = d) (w : World) (hl : l.size ≤ 16777216) (hb1 : 1 ≤ b.size) : Calls Tryz.prog 109 #[.string l, .string b] w (Gave w o u d) := by
  by_cases hs : l.size < b.size
  · obtain ⟨e1, e2, e3⟩ := pt_off (pre_short hs)
    rw [e1] at ho
    rw [e2] at hu
    rw [e3] at hd
    subst ho hu hd
    have hs' : (l.size : Int) < (b.size : Int) := by omega
    go_enter Tryz.func109, Tryz.ntmps109
    go_wp2
    refine bodyPost_ret (v := .tuple #[.agg #[.string ⟨#[]⟩, .string ⟨#[]⟩], .bool false]) (by simp [results, Tryz.results109, go_sem]) rfl ?_
    exact gave_mk rfl rfl rfl ((Below.refl _ _).alloc (Nat.le_refl _) _)
  · have hs' : ¬ (l.size : Int) < (b.size : Int) := by omega
    have hs1 : (b.size : Int) ≤ (l.size : Int) := by omega
    have hs0 : (0 : Int) ≤ (b.size : Int) := by omega
    have hle : b.size ≤ l.size := by omega
    by_cases he : l.extract 0 b.size = b
    · have hpre := (pre_ext b l).trans (decide_eq_true he)
      obtain ⟨o1, u1, d1, hp, q1, q2⟩ := readP_any (l.extract b.size l.size)
      obtain ⟨e1, e2, e3⟩ := pt_on hpre hp
      have HP := Lib.hid hp
      have HZ : Hid ((l.extract b.size l.size).size ≤ 16777216) := Lib.hid (by rw [ByteArray.size_extract]; omega)
      have HO := Lib.hid (ho.symm.trans e1)
      have HU := Lib.hid (hu.symm.trans e2)
      have HD := Lib.hid (hd.symm.trans e3)
      have he2 : ((l.extract 0 b.size).toList == b.toList) = true := by rw [he]; simp
      clear hpre hp e1 e2 e3 ho hu hd q1 q2
      go_enter Tryz.func109, Tryz.ntmps109
      go_wp2_with fail
      refine (spath_at HP.out _ HZ.out).mono ?_
      rintro e w2 ⟨rfl, hb⟩
      have hW := ((Whole.made w 112 #[.string ⟨#[]⟩, .string ⟨#[]⟩]).below hb (by simp))
      have HB := Lib.hid (((Below.refl w.heap.size w).alloc (Nat.le_refl _) (.cells #[.string ⟨#[]⟩, .string ⟨#[]⟩] 112)).trans (hb.mono (by simp)))
      have hlt := hW.lt
      have z0 := hW.cell 0
      have z1 := hW.cell 1
      have g0 := hW.free 0
      have g1 := hW.free 1
      have hX := hW.alloc (.cells #[.string u1, .string d1] 112)
      have y0 := hX.cell 0
      have y1 := hX.cell 1
      have f0 := hX.free 0
      have f1 := hX.free 1
      have hN := Whole.made w2 112 #[.string u1, .string d1]
      have x0 := hN.cell 0
      have x1 := hN.cell 1
      have HS := Lib.hid ((hW.store 0 (.string u1)).store 1 (.string d1))
      have hR := HS.out.alloc (.cells #[.string u1, .string d1] 112)
      have r0 := hR.cell 0
      have r1 := hR.cell 1
      simp only [List.getElem?_toArray, List.getElem?_cons_zero, List.getElem?_cons_succ] at z0 z1 y0 y1 x0 x1
      simp at r0 r1
      clear hb hW hX hN hR
      cases o1 with
      | false =>
        go_wp2
        go_region
        go_wp2
        refine bodyPost_ret (v := .tuple #[.agg #[.string u1, .string d1], .bool false]) (by simp [results, Tryz.results109, go_sem, r0, r1]) rfl ?_
        exact gave_mk (HO.out.trans rfl) HU.out HD.out (bl_drew (((HB.out.setCell (p := ⟨w.heap.size, 0, none⟩) (Nat.le_refl _) _).setCell (p := ⟨w.heap.size, 1, none⟩) (Nat.le_refl _) _).alloc (by simp [World.setCell]; exact Nat.le_of_lt hlt) _))
      | true =>
        by_cases hu0 : u1.size = 0
        · have HO2 : Hid (o = false) := Lib.hid (HO.out.trans (by rw [decide_eq_false (show ¬ u1.size ≠ 0 by omega)]; rfl))
          obtain ⟨q1, q2⟩ := isEmpty hu0
          clear hu0
          go_wp2
          go_region
          go_wp2
          refine bodyPost_ret (v := .tuple #[.agg #[.string u1, .string d1], .bool false]) (by simp [results, Tryz.results109, go_sem, r0, r1]) rfl ?_
          exact gave_mk HO2.out HU.out HD.out (bl_drew (((HB.out.setCell (p := ⟨w.heap.size, 0, none⟩) (Nat.le_refl _) _).setCell (p := ⟨w.heap.size, 1, none⟩) (Nat.le_refl _) _).alloc (by simp [World.setCell]; exact Nat.le_of_lt hlt) _))
        · have HO2 : Hid (o = true) := Lib.hid (HO.out.trans (by rw [decide_eq_true hu0]; rfl))
          obtain ⟨q1, q2⟩ := noEmpty hu0
          clear hu0
          go_wp2
          go_region
          go_wp2
          refine bodyPost_ret (v := .tuple #[.agg #[.string u1, .string d1], .bool true]) (by simp [results, Tryz.results109, go_sem, r0, r1]) rfl ?_
          exact gave_mk HO2.out HU.out HD.out (bl_drew (((HB.out.setCell (p := ⟨w.heap.size, 0, none⟩) (Nat.le_refl _) _).setCell (p := ⟨w.heap.size, 1, none⟩) (Nat.le_refl _) _).alloc (by simp [World.setCell]; exact Nat.le_of_lt hlt) _))
    · obtain ⟨e1, e2, e3⟩ := pt_off ((pre_ext b l).trans (decide_eq_false he))
      rw [e1] at ho
      rw [e2] at hu
      rw [e3] at hd
      subst ho hu hd
      obtain ⟨v1, v2⟩ := ne_walk he
      go_enter Tryz.func109, Tryz.ntmps109
      go_wp2
      refine bodyPost_ret (v := .tuple #[.agg #[.string ⟨#[]⟩, .string ⟨#[]⟩], .bool false]) (by simp [results, Tryz.results109, go_sem]) rfl ?_
      exact gave_mk rfl rfl rfl ((Below.refl _ _).alloc (Nat.le_refl _) _)
end Go.Proofs.YtichajalinkcdaaGreatDoor
namespace Go.Proofs.YtichajalinkcdaaGreatDoor
open Go.RowKit
set_option linter.unusedVariables false


theorem ext_min (X : ByteArray) : X.extract 0 (min (X.size : Int) 21).toNat = X.extract 0 21 := by
  refine kb_inj ?_
  rw [ext_front, ext_front, List.take_eq_take_iff, kb_len]
  omega
theorem add_size (a b : ByteArray) : (((a ++ b ++ { data := #[10] } : ByteArray).size : Nat) : Int) = (a.size : Int) + (b.size : Int) + 1 := by
  rw [ByteArray.size_append, ByteArray.size_append]
  have e : (ByteArray.mk #[10]).size = 1 := rfl
  omega
theorem addF_no {t l : ByteArray} (h : l.data.toList.head? ≠ some 46) : addF t l = (t ++ l ++ { data := #[10] }).extract 0 (min ((t.size : Int) + (l.size : Int) + 1) 21).toNat := by
  unfold addF
  rw [if_neg h, ← add_size, ext_min]
theorem addF_dot {t l : ByteArray} (h : l.data.toList.head? = some 46) : addF t l = (t ++ l.extract 1 l.size ++ { data := #[10] }).extract 0 (min ((t.size : Int) + ((l.size - 1 : Nat) : Int) + 1) 21).toNat := by
  unfold addF
  have e : ((l.size - 1 : Nat) : Int) = ((l.extract 1 l.size).size : Int) := by rw [ByteArray.size_extract]; omega
  rw [if_pos h, e, ← add_size, ext_min]
theorem head_get (l : ByteArray) (h : 0 < l.size) : l.data.toList.head? = some l[0] := by
  have h2 : 0 < l.data.toList.length := by simpa using h
  rw [List.head?_eq_getElem?, List.getElem?_eq_getElem h2]
  rfl
theorem head_no {l : ByteArray} (h : l.size = 0) : l.data.toList.head? ≠ some 46 := by
  have : l.data.toList = [] := List.eq_nil_of_length_eq_zero (by simpa using h)
  rw [this]
  simp
theorem head_yes {l : ByteArray} (h : 0 < l.size) (hc : l[0] = 46) : l.data.toList.head? = some 46 := by rw [head_get l h, hc]
theorem head_other {l : ByteArray} (h : 0 < l.size) (hc : l[0] ≠ 46) : l.data.toList.head? ≠ some 46 := by
  rw [head_get l h]
  intro e
  exact hc (Option.some.inj e)
theorem sdom_at {u : ByteArray} {z : Bool} (h : domB (kb u) = z) (hu : u.size ≤ 16777216) (w : World) : Calls Tryz.prog 49 #[.string u] w (SayB w z) := by
  subst h
  exact spec_domain u w hu

set_option maxRecDepth 20000 in
set_option maxHeartbeats 4000000 in
theorem spec_data (st : Int) (us tx l : ByteArray) (T : List ByteArray) (A : Option Addr) (N cap : Nat) (w : World) (h : SIn w A N cap T) (ht : tx.size ≤ 21) (hl : l.size ≤ 2097152) : Calls Tryz.prog 84 #[.agg #[.int .i64 st, .string us, .slice A N cap, .string tx], .string l] w (GiveS w A (dataF ⟨st, us, T, tx⟩ l)) := by
  have HI := Lib.hid h
  obtain ⟨hs, hr, hB⟩ := two_made w #[.int .i64 st, .string us, .slice A N cap, .string tx] #[.int .i64 0, .string ⟨#[]⟩, .slice none 0 0, .string ⟨#[]⟩]
  have c0 := hs.cell 0
  have c1 := hs.cell 1
  have c2 := hs.cell 2
  have c3 := hs.cell 3
  have z0 := hr.cell 0
  have z1 := hr.cell 1
  have z2 := hr.cell 2
  have z3 := hr.cell 3
  have f0 := hr.free 0
  have f1 := hr.free 1
  have f2 := hr.free 2
  have f3 := hr.free 3
  simp only [List.getElem?_toArray, List.getElem?_cons_zero, List.getElem?_cons_succ] at c0 c1 c2 c3 z0 z1 z2 z3
  have HS := Lib.hid hs
  have HR := Lib.hid hr
  have HB := Lib.hid hB
  clear h hs hr hB
  have hne : ∀ q, A = some q → q.block ≠ w.heap.size + 1 := fun q e => by have := HI.out.lt q e; omega
  have HNE := Lib.hid hne
  clear hne
  by_cases hd : l = ⟨#[46]⟩
  · subst hd
    obtain ⟨s1, hs1⟩ : ∃ s1, backF ⟨st, us, T, tx⟩ = s1 := ⟨_, rfl⟩
    by_cases h20 : tx.size ≤ 20
    ·
      have h20' : ¬ (20 : Int) < (tx.size : Int) := by omega
      have HE : Hid (dataF ⟨st, us, T, tx⟩ ⟨#[46]⟩ = (s1, 250)) := Lib.hid (by unfold dataF; rw [if_pos rfl, hs1]; simp only; rw [if_pos h20])
      obtain ⟨st1, us1, T1, tx1⟩ := s1
      have HS1 := Lib.hid hs1
      clear hs1 h20
      go_enter Tryz.func84, Tryz.ntmps84
      go_wp2_with fail
      refine (sback_at HS1.out _).mono ?_
      rintro e w2 ⟨A2, N2, cap2, rfl, hI2, hF2, hb⟩
      have HI2 := Lib.hid hI2
      have HF2 := Lib.hid hF2
      have HS2 := Lib.hid (HS.out.below hb HS.out.lt)
      have HR2 := Lib.hid (HR.out.below hb HR.out.lt)
      have HB2 := Lib.hid (HB.out.trans (hb.mono HB.out.size))
      have HZ2 := Lib.hid hb.size
      have HZ : Hid (w.heap.size + 1 < ((w.alloc (.cells #[.int .i64 st, .string us, .slice A N cap, .string tx] 25)).alloc (.cells #[.int .i64 0, .string ⟨#[]⟩, .slice none 0 0, .string ⟨#[]⟩] 25)).heap.size) := Lib.hid HR.out.lt
      clear hI2 hF2 hb c0 c1 c2 c3 z0 z1 z2 z3 f0 f1 f2 f3
      have hs := HS2.out
      have hr := HR2.out
      have c0 := hs.cell 0
      have c1 := hs.cell 1
      have c2 := hs.cell 2
      have c3 := hs.cell 3
      have z0 := hr.cell 0
      have z1 := hr.cell 1
      have z2 := hr.cell 2
      have z3 := hr.cell 3
      have f0 := hr.free 0
      have f1 := hr.free 1
      have f2 := hr.free 2
      have f3 := hr.free 3
      simp only [List.getElem?_toArray, List.getElem?_cons_zero, List.getElem?_cons_succ] at c0 c1 c2 c3 z0 z1 z2 z3
      have hf := put_sb hr (.int .i64 st1) (.string us1) (.slice A2 N2 cap2) (.string tx1)
      have r0 := hf.cell 0
      have r1 := hf.cell 1
      have r2 := hf.cell 2
      have r3 := hf.cell 3
      simp only [List.getElem?_toArray, List.getElem?_cons_zero, List.getElem?_cons_succ] at r0 r1 r2 r3
      clear hs hr hf
      go_wp2
      refine bodyPost_ret (v := .tuple #[.agg #[.int .i64 st1, .string us1, .slice A2 N2 cap2, .string tx1], .int .i64 250]) (by simp [results, Tryz.results84, go_sem, r0, r1, r2, r3]) rfl ?_
      rw [HE.out]
      exact ⟨_, _, _, rfl, HI2.out.set4 (fun q e => by
          rcases HF2.out q e with ⟨p, hp, hq⟩ | hq
          · have := HI.out.lt p hp; omega
          · have := HZ.out; omega) _ _ _ _, (HF2.out.from HB.out.size), below_set4 HB2.out (by omega) _ _ _ _⟩
    ·
      have h20' : (20 : Int) < (tx.size : Int) := by omega
      have HE : Hid (dataF ⟨st, us, T, tx⟩ ⟨#[46]⟩ = (s1, 552)) := Lib.hid (by unfold dataF; rw [if_pos rfl, hs1]; simp only; rw [if_neg h20])
      obtain ⟨st1, us1, T1, tx1⟩ := s1
      have HS1 := Lib.hid hs1
      clear hs1 h20
      go_enter Tryz.func84, Tryz.ntmps84
      go_wp2_with fail
      refine (sback_at HS1.out _).mono ?_
      rintro e w2 ⟨A2, N2, cap2, rfl, hI2, hF2, hb⟩
      have HI2 := Lib.hid hI2
      have HF2 := Lib.hid hF2
      have HS2 := Lib.hid (HS.out.below hb HS.out.lt)
      have HR2 := Lib.hid (HR.out.below hb HR.out.lt)
      have HB2 := Lib.hid (HB.out.trans (hb.mono HB.out.size))
      have HZ2 := Lib.hid hb.size
      have HZ : Hid (w.heap.size + 1 < ((w.alloc (.cells #[.int .i64 st, .string us, .slice A N cap, .string tx] 25)).alloc (.cells #[.int .i64 0, .string ⟨#[]⟩, .slice none 0 0, .string ⟨#[]⟩] 25)).heap.size) := Lib.hid HR.out.lt
      clear hI2 hF2 hb c0 c1 c2 c3 z0 z1 z2 z3 f0 f1 f2 f3
      have hs := HS2.out
      have hr := HR2.out
      have c0 := hs.cell 0
      have c1 := hs.cell 1
      have c2 := hs.cell 2
      have c3 := hs.cell 3
      have z0 := hr.cell 0
      have z1 := hr.cell 1
      have z2 := hr.cell 2
      have z3 := hr.cell 3
      have f0 := hr.free 0
      have f1 := hr.free 1
      have f2 := hr.free 2
      have f3 := hr.free 3
      simp only [List.getElem?_toArray, List.getElem?_cons_zero, List.getElem?_cons_succ] at c0 c1 c2 c3 z0 z1 z2 z3
      have hf := put_sb hr (.int .i64 st1) (.string us1) (.slice A2 N2 cap2) (.string tx1)
      have r0 := hf.cell 0
      have r1 := hf.cell 1
      have r2 := hf.cell 2
      have r3 := hf.cell 3
      simp only [List.getElem?_toArray, List.getElem?_cons_zero, List.getElem?_cons_succ] at r0 r1 r2 r3
      clear hs hr hf
      go_wp2
      refine bodyPost_ret (v := .tuple #[.agg #[.int .i64 st1, .string us1, .slice A2 N2 cap2, .string tx1], .int .i64 552]) (by simp [results, Tryz.results84, go_sem, r0, r1, r2, r3]) rfl ?_
      rw [HE.out]
      exact ⟨_, _, _, rfl, HI2.out.set4 (fun q e => by
          rcases HF2.out q e with ⟨p, hp, hq⟩ | hq
          · have := HI.out.lt p hp; omega
          · have := HZ.out; omega) _ _ _ _, (HF2.out.from HB.out.size), below_set4 HB2.out (by omega) _ _ _ _⟩
  ·
    obtain ⟨v1, v2, v3⟩ := lit_walk (xs := [46]) rfl hd
    by_cases h0 : l.size = 0
    ·
      have HE : Hid (dataF ⟨st, us, T, tx⟩ l = (⟨st, us, T, (tx ++ l ++ { data := #[10] }).extract 0 (min ((tx.size : Int) + (l.size : Int) + 1) 21).toNat⟩, 0)) := Lib.hid (by unfold dataF; rw [if_neg hd, addF_no (head_no h0)])
      obtain ⟨q1, q2⟩ := isEmpty h0
      obtain ⟨_, hf, hfB⟩ := two_made w #[.int .i64 st, .string us, .slice A N cap, .string ((tx ++ l ++ { data := #[10] }).extract 0 (min ((tx.size : Int) + (l.size : Int) + 1) 21).toNat)] #[.int .i64 st, .string us, .slice A N cap, .string ((tx ++ l ++ { data := #[10] }).extract 0 (min ((tx.size : Int) + (l.size : Int) + 1) 21).toNat)]
      have r0 := hf.cell 0
      have r1 := hf.cell 1
      have r2 := hf.cell 2
      have r3 := hf.cell 3
      simp only [List.getElem?_toArray, List.getElem?_cons_zero, List.getElem?_cons_succ] at r0 r1 r2 r3
      have HFB := Lib.hid hfB
      clear hf hfB
      clear hd h0
      go_enter Tryz.func84, Tryz.ntmps84
      go_wp2
      refine bodyPost_ret (v := .tuple #[.agg #[.int .i64 st, .string us, .slice A N cap, .string ((tx ++ l ++ { data := #[10] }).extract 0 (min ((tx.size : Int) + (l.size : Int) + 1) 21).toNat)], .int .i64 0]) (by simp [results, Tryz.results84, go_sem, r0, r1, r2, r3]) rfl ?_
      rw [HE.out]
      exact ⟨_, _, _, rfl, HI.out.below HFB.out (Nat.le_refl _), Fr.same _ _, HFB.out⟩
    ·
      have h1 : 0 < l.size := by omega
      have h1' : (0 : Int) < (l.size : Int) := by omega
      have h1'' : (1 : Int) ≤ (l.size : Int) := by omega
      by_cases hc : l[0] = 46
      ·
        have HE : Hid (dataF ⟨st, us, T, tx⟩ l = (⟨st, us, T, (tx ++ l.extract 1 l.size ++ { data := #[10] }).extract 0 (min ((tx.size : Int) + ((l.size - 1 : Nat) : Int) + 1) 21).toNat⟩, 0)) := Lib.hid (by unfold dataF; rw [if_neg hd, addF_dot (head_yes h1 hc)])
        obtain ⟨q1, q2⟩ := noEmpty h0
        have hc' : ((l[0].toNat : Int) == 46) = true := by rw [hc]; rfl
        clear hc
        obtain ⟨_, hf, hfB⟩ := two_made w #[.int .i64 st, .string us, .slice A N cap, .string ((tx ++ l.extract 1 l.size ++ { data := #[10] }).extract 0 (min ((tx.size : Int) + ((l.size - 1 : Nat) : Int) + 1) 21).toNat)] #[.int .i64 st, .string us, .slice A N cap, .string ((tx ++ l.extract 1 l.size ++ { data := #[10] }).extract 0 (min ((tx.size : Int) + ((l.size - 1 : Nat) : Int) + 1) 21).toNat)]
        have r0 := hf.cell 0
        have r1 := hf.cell 1
        have r2 := hf.cell 2
        have r3 := hf.cell 3
        simp only [List.getElem?_toArray, List.getElem?_cons_zero, List.getElem?_cons_succ] at r0 r1 r2 r3
        have HFB := Lib.hid hfB
        clear hf hfB
        clear hd h0
        go_enter Tryz.func84, Tryz.ntmps84
        go_wp2
        refine bodyPost_ret (v := .tuple #[.agg #[.int .i64 st, .string us, .slice A N cap, .string ((tx ++ l.extract 1 l.size ++ { data := #[10] }).extract 0 (min ((tx.size : Int) + ((l.size - 1 : Nat) : Int) + 1) 21).toNat)], .int .i64 0]) (by simp [results, Tryz.results84, go_sem, r0, r1, r2, r3]) rfl ?_
        rw [HE.out]
        exact ⟨_, _, _, rfl, HI.out.below HFB.out (Nat.le_refl _), Fr.same _ _, HFB.out⟩
      ·
        have HE : Hid (dataF ⟨st, us, T, tx⟩ l = (⟨st, us, T, (tx ++ l ++ { data := #[10] }).extract 0 (min ((tx.size : Int) + (l.size : Int) + 1) 21).toNat⟩, 0)) := Lib.hid (by unfold dataF; rw [if_neg hd, addF_no (head_other h1 hc)])
        obtain ⟨q1, q2⟩ := noEmpty h0
        have hc' : ((l[0].toNat : Int) == 46) = false := by
          refine beq_eq_false_iff_ne.2 fun e => hc (UInt8.toNat_inj.1 ?_)
          have e2 : (46 : UInt8).toNat = 46 := rfl
          omega
        clear hc
        obtain ⟨_, hf, hfB⟩ := two_made w #[.int .i64 st, .string us, .slice A N cap, .string ((tx ++ l ++ { data := #[10] }).extract 0 (min ((tx.size : Int) + (l.size : Int) + 1) 21).toNat)] #[.int .i64 st, .string us, .slice A N cap, .string ((tx ++ l ++ { data := #[10] }).extract 0 (min ((tx.size : Int) + (l.size : Int) + 1) 21).toNat)]
        have r0 := hf.cell 0
        have r1 := hf.cell 1
        have r2 := hf.cell 2
        have r3 := hf.cell 3
        simp only [List.getElem?_toArray, List.getElem?_cons_zero, List.getElem?_cons_succ] at r0 r1 r2 r3
        have HFB := Lib.hid hfB
        clear hf hfB
        clear hd h0
        go_enter Tryz.func84, Tryz.ntmps84
        go_wp2
        refine bodyPost_ret (v := .tuple #[.agg #[.int .i64 st, .string us, .slice A N cap, .string ((tx ++ l ++ { data := #[10] }).extract 0 (min ((tx.size : Int) + (l.size : Int) + 1) 21).toNat)], .int .i64 0]) (by simp [results, Tryz.results84, go_sem, r0, r1, r2, r3]) rfl ?_
        rw [HE.out]
        exact ⟨_, _, _, rfl, HI.out.below HFB.out (Nat.le_refl _), Fr.same _ _, HFB.out⟩
set_option maxRecDepth 20000 in
set_option maxHeartbeats 4000000 in
theorem spec_hello (st : Int) (us tx : ByteArray) (T W : List ByteArray) (A AW : Option Addr) (N cap NW cW : Nat) (w : World) (h : SIn w A N cap T) (hw : WIn w AW NW W) (hs8 : ∀ x ∈ W, x.size ≤ 2097152) : Calls Tryz.prog 85 #[.agg #[.int .i64 st, .string us, .slice A N cap, .string tx], .slice AW NW cW] w (GiveS w A (helloF ⟨st, us, T, tx⟩ W)) := by
  have HWI := Lib.hid hw
  have hwb := hw.below (two_made w #[.int .i64 st, .string us, .slice A N cap, .string tx] #[.int .i64 0, .string ⟨#[]⟩, .slice none 0 0, .string ⟨#[]⟩]).2.2 (Nat.le_refl _)
  have HWB := Lib.hid hwb
  clear hw hwb
  have HI := Lib.hid h
  obtain ⟨hs, hr, hB⟩ := two_made w #[.int .i64 st, .string us, .slice A N cap, .string tx] #[.int .i64 0, .string ⟨#[]⟩, .slice none 0 0, .string ⟨#[]⟩]
  have c0 := hs.cell 0
  have c1 := hs.cell 1
  have c2 := hs.cell 2
  have c3 := hs.cell 3
  have z0 := hr.cell 0
  have z1 := hr.cell 1
  have z2 := hr.cell 2
  have z3 := hr.cell 3
  have f0 := hr.free 0
  have f1 := hr.free 1
  have f2 := hr.free 2
  have f3 := hr.free 3
  simp only [List.getElem?_toArray, List.getElem?_cons_zero, List.getElem?_cons_succ] at c0 c1 c2 c3 z0 z1 z2 z3
  have HS := Lib.hid hs
  have HR := Lib.hid hr
  have HB := Lib.hid hB
  clear h hs hr hB
  have hne : ∀ q, A = some q → q.block ≠ w.heap.size + 1 := fun q e => by have := HI.out.lt q e; omega
  have HNE := Lib.hid hne
  clear hne
  by_cases h2 : NW = 2
  ·
    subst h2
    obtain ⟨x, hx⟩ : ∃ x, W[1]? = some x := ⟨_, List.getElem?_eq_getElem (by rw [HWI.out.1]; omega)⟩
    have hg : W.getD 1 eB = x := by rw [List.getD_eq_getElem?_getD, hx]; rfl
    have hxs : x.size ≤ 16777216 := Nat.le_trans (hs8 x (List.mem_of_getElem? hx)) (by omega)
    obtain ⟨b, o, rfl, hb, k0⟩ := str_at HWB.out.2 hx
    clear hx hs8
    cases hd : domB (kb x) with
    | false =>
      have HD := Lib.hid hd
      have HE : Hid (helloF ⟨st, us, T, tx⟩ W = (⟨st, us, T, tx⟩, 501)) := Lib.hid (by unfold helloF; rw [if_neg (by rw [hg, hd]; simp)])
      clear hd hg
      go_enter Tryz.func85, Tryz.ntmps85
      go_wp2_with fail
      refine (sdom_at HD.out hxs _).mono ?_
      rintro e w2 ⟨rfl, hb2⟩
      have HS2 := Lib.hid (HS.out.below hb2 HS.out.lt)
      have HR2 := Lib.hid (HR.out.below hb2 HR.out.lt)
      have HB2 := Lib.hid (HB.out.trans (hb2.mono HB.out.size))
      have HZ2 : Hid (w.heap.size + 1 < w2.heap.size) := Lib.hid HR2.out.lt
      clear hb2 c0 c1 c2 c3 z0 z1 z2 z3 f0 f1 f2 f3
      have hs := HS2.out
      have hr := HR2.out
      have c0 := hs.cell 0
      have c1 := hs.cell 1
      have c2 := hs.cell 2
      have c3 := hs.cell 3
      have z0 := hr.cell 0
      have z1 := hr.cell 1
      have z2 := hr.cell 2
      have z3 := hr.cell 3
      have f0 := hr.free 0
      have f1 := hr.free 1
      have f2 := hr.free 2
      have f3 := hr.free 3
      simp only [List.getElem?_toArray, List.getElem?_cons_zero, List.getElem?_cons_succ] at c0 c1 c2 c3 z0 z1 z2 z3
      have hf := put_sb hr (.int .i64 st) (.string us) (.slice A N cap) (.string tx)
      have r0 := hf.cell 0
      have r1 := hf.cell 1
      have r2 := hf.cell 2
      have r3 := hf.cell 3
      simp only [List.getElem?_toArray, List.getElem?_cons_zero, List.getElem?_cons_succ] at r0 r1 r2 r3
      clear hs hr hf
      go_wp2
      refine bodyPost_ret (v := .tuple #[.agg #[.int .i64 st, .string us, .slice A N cap, .string tx], .int .i64 501]) (by simp [results, Tryz.results85, go_sem, r0, r1, r2, r3]) rfl ?_
      rw [HE.out]
      exact ⟨_, _, _, rfl, (HI.out.below HB2.out (Nat.le_refl _)).set4 HNE.out _ _ _ _, Fr.same _ _, below_set4 HB2.out (by omega) _ _ _ _⟩
    | true =>
      have HD := Lib.hid hd
      have HG := Lib.hid hg
      clear hg hd
      by_cases h0 : st = 0
      ·
        subst h0
        obtain ⟨s1, hs1⟩ : ∃ s1, backF ⟨1, us, T, tx⟩ = s1 := ⟨_, rfl⟩
        have HE : Hid (helloF ⟨0, us, T, tx⟩ W = (s1, 250)) := Lib.hid (by unfold helloF; rw [if_pos ⟨HWI.out.1, by rw [HG.out, HD.out]⟩, ← hs1]; rfl)
        obtain ⟨st1, us1, T1, tx1⟩ := s1
        have HS1 := Lib.hid hs1
        clear hs1
        go_enter Tryz.func85, Tryz.ntmps85
        go_wp2_with fail
        refine (sdom_at HD.out hxs _).mono ?_
        rintro e w2 ⟨rfl, hb2⟩
        have HS2 := Lib.hid (HS.out.below hb2 HS.out.lt)
        have HR2 := Lib.hid (HR.out.below hb2 HR.out.lt)
        have HB2 := Lib.hid (HB.out.trans (hb2.mono HB.out.size))
        have HZ2 : Hid (w.heap.size + 1 < w2.heap.size) := Lib.hid HR2.out.lt
        clear hb2 c0 c1 c2 c3 z0 z1 z2 z3 f0 f1 f2 f3
        have hs := HS2.out
        have hr := HR2.out
        have c0 := hs.cell 0
        have c1 := hs.cell 1
        have c2 := hs.cell 2
        have c3 := hs.cell 3
        have z0 := hr.cell 0
        have z1 := hr.cell 1
        have z2 := hr.cell 2
        have z3 := hr.cell 3
        have f0 := hr.free 0
        have f1 := hr.free 1
        have f2 := hr.free 2
        have f3 := hr.free 3
        simp only [List.getElem?_toArray, List.getElem?_cons_zero, List.getElem?_cons_succ] at c0 c1 c2 c3 z0 z1 z2 z3
        have g0 := hs.free 0
        have hs3 : Whole (w2.setCell ⟨w.heap.size, 0, none⟩ (.int .i64 1)) w.heap.size 25 #[.int .i64 1, .string us, .slice A N cap, .string tx] := hs.store 0 (.int .i64 1)
        have hr3 := hr.apart (p := ⟨w.heap.size, 0, none⟩) (show w.heap.size + 1 ≠ w.heap.size by omega) (.int .i64 1)
        have d0 := hs3.cell 0
        have d1 := hs3.cell 1
        have d2 := hs3.cell 2
        have d3 := hs3.cell 3
        simp only [List.getElem?_toArray, List.getElem?_cons_zero, List.getElem?_cons_succ] at d0 d1 d2 d3
        have HS3 := Lib.hid hs3
        have HR3 := Lib.hid hr3
        have HB3 := Lib.hid (HB2.out.setCell (p := ⟨w.heap.size, 0, none⟩) (Nat.le_refl _) (.int .i64 1))
        clear hs hr hs3 hr3
        go_wp2_with fail
        refine (sback_at HS1.out _).mono ?_
        rintro e w4 ⟨A2, N2, cap2, rfl, hI2, hF2, hb⟩
        have HI2 := Lib.hid hI2
        have HF2 := Lib.hid hF2
        have HS4 := Lib.hid (HS3.out.below hb HS3.out.lt)
        have HR4 := Lib.hid (HR3.out.below hb HR3.out.lt)
        have HB4 := Lib.hid (HB3.out.trans (hb.mono HB3.out.size))
        have HZ : Hid (w.heap.size + 1 < (w2.setCell ⟨w.heap.size, 0, none⟩ (.int .i64 1)).heap.size) := Lib.hid HR3.out.lt
        clear hI2 hF2 hb
        have hs := HS4.out
        have hr := HR4.out
        have c0 := hs.cell 0
        have c1 := hs.cell 1
        have c2 := hs.cell 2
        have c3 := hs.cell 3
        have z0 := hr.cell 0
        have z1 := hr.cell 1
        have z2 := hr.cell 2
        have z3 := hr.cell 3
        have f0 := hr.free 0
        have f1 := hr.free 1
        have f2 := hr.free 2
        have f3 := hr.free 3
        simp only [List.getElem?_toArray, List.getElem?_cons_zero, List.getElem?_cons_succ] at c0 c1 c2 c3 z0 z1 z2 z3
        have hf := put_sb hr (.int .i64 st1) (.string us1) (.slice A2 N2 cap2) (.string tx1)
        have r0 := hf.cell 0
        have r1 := hf.cell 1
        have r2 := hf.cell 2
        have r3 := hf.cell 3
        simp only [List.getElem?_toArray, List.getElem?_cons_zero, List.getElem?_cons_succ] at r0 r1 r2 r3
        clear hs hr hf
        go_wp2
        refine bodyPost_ret (v := .tuple #[.agg #[.int .i64 st1, .string us1, .slice A2 N2 cap2, .string tx1], .int .i64 250]) (by simp [results, Tryz.results85, go_sem, r0, r1, r2, r3]) rfl ?_
        rw [HE.out]
        exact ⟨_, _, _, rfl, HI2.out.set4 (fun q e => by
            rcases HF2.out q e with ⟨p, hp, hq⟩ | hq
            · have := HI.out.lt p hp; omega
            · have := HZ.out; omega) _ _ _ _, (HF2.out.from HB3.out.size), below_set4 HB4.out (by omega) _ _ _ _⟩
      ·
        have h0' : (st == 0) = false := beq_eq_false_iff_ne.2 h0
        obtain ⟨s1, hs1⟩ : ∃ s1, backF ⟨st, us, T, tx⟩ = s1 := ⟨_, rfl⟩
        have HE : Hid (helloF ⟨st, us, T, tx⟩ W = (s1, 250)) := Lib.hid (by unfold helloF; rw [if_pos ⟨HWI.out.1, by rw [HG.out, HD.out]⟩, ← hs1]; simp only [if_neg h0])
        obtain ⟨st1, us1, T1, tx1⟩ := s1
        have HS1 := Lib.hid hs1
        clear hs1 h0
        go_enter Tryz.func85, Tryz.ntmps85
        go_wp2_with fail
        refine (sdom_at HD.out hxs _).mono ?_
        rintro e w2 ⟨rfl, hb2⟩
        have HS2 := Lib.hid (HS.out.below hb2 HS.out.lt)
        have HR2 := Lib.hid (HR.out.below hb2 HR.out.lt)
        have HB2 := Lib.hid (HB.out.trans (hb2.mono HB.out.size))
        have HZ2 : Hid (w.heap.size + 1 < w2.heap.size) := Lib.hid HR2.out.lt
        clear hb2 c0 c1 c2 c3 z0 z1 z2 z3 f0 f1 f2 f3
        have hs := HS2.out
        have c0 := hs.cell 0
        have c1 := hs.cell 1
        have c2 := hs.cell 2
        have c3 := hs.cell 3
        simp only [List.getElem?_toArray, List.getElem?_cons_zero, List.getElem?_cons_succ] at c0 c1 c2 c3
        clear hs
        go_wp2_with fail
        refine (sback_at HS1.out _).mono ?_
        rintro e w4 ⟨A2, N2, cap2, rfl, hI2, hF2, hb⟩
        have HI2 := Lib.hid hI2
        have HF2 := Lib.hid hF2
        have HS4 := Lib.hid (HS2.out.below hb HS2.out.lt)
        have HR4 := Lib.hid (HR2.out.below hb HR2.out.lt)
        have HB4 := Lib.hid (HB2.out.trans (hb.mono HB2.out.size))
        have HZ : Hid (w.heap.size + 1 < w2.heap.size) := Lib.hid HR2.out.lt
        clear hI2 hF2 hb
        have hs := HS4.out
        have hr := HR4.out
        have c0 := hs.cell 0
        have c1 := hs.cell 1
        have c2 := hs.cell 2
        have c3 := hs.cell 3
        have z0 := hr.cell 0
        have z1 := hr.cell 1
        have z2 := hr.cell 2
        have z3 := hr.cell 3
        have f0 := hr.free 0
        have f1 := hr.free 1
        have f2 := hr.free 2
        have f3 := hr.free 3
        simp only [List.getElem?_toArray, List.getElem?_cons_zero, List.getElem?_cons_succ] at c0 c1 c2 c3 z0 z1 z2 z3
        have hf := put_sb hr (.int .i64 st1) (.string us1) (.slice A2 N2 cap2) (.string tx1)
        have r0 := hf.cell 0
        have r1 := hf.cell 1
        have r2 := hf.cell 2
        have r3 := hf.cell 3
        simp only [List.getElem?_toArray, List.getElem?_cons_zero, List.getElem?_cons_succ] at r0 r1 r2 r3
        clear hs hr hf
        go_wp2
        refine bodyPost_ret (v := .tuple #[.agg #[.int .i64 st1, .string us1, .slice A2 N2 cap2, .string tx1], .int .i64 250]) (by simp [results, Tryz.results85, go_sem, r0, r1, r2, r3]) rfl ?_
        rw [HE.out]
        exact ⟨_, _, _, rfl, HI2.out.set4 (fun q e => by
            rcases HF2.out q e with ⟨p, hp, hq⟩ | hq
            · have := HI.out.lt p hp; omega
            · have := HZ.out; omega) _ _ _ _, (HF2.out.from HB2.out.size), below_set4 HB4.out (by omega) _ _ _ _⟩
  ·
    have h2' : ((NW : Int) != 2) = true := bne_iff_ne.2 (by omega)
    have HE : Hid (helloF ⟨st, us, T, tx⟩ W = (⟨st, us, T, tx⟩, 501)) := Lib.hid (by unfold helloF; rw [if_neg (by rw [HWI.out.1]; exact fun h => h2 h.1)])
    obtain ⟨_, hf, hfB⟩ := two_made w #[.int .i64 st, .string us, .slice A N cap, .string tx] #[.int .i64 st, .string us, .slice A N cap, .string tx]
    have r0 := hf.cell 0
    have r1 := hf.cell 1
    have r2 := hf.cell 2
    have r3 := hf.cell 3
    simp only [List.getElem?_toArray, List.getElem?_cons_zero, List.getElem?_cons_succ] at r0 r1 r2 r3
    have HFB := Lib.hid hfB
    clear hf hfB
    clear h2
    go_enter Tryz.func85, Tryz.ntmps85
    go_wp2
    refine bodyPost_ret (v := .tuple #[.agg #[.int .i64 st, .string us, .slice A N cap, .string tx], .int .i64 501]) (by simp [results, Tryz.results85, go_sem, r0, r1, r2, r3]) rfl ?_
    rw [HE.out]
    exact ⟨_, _, _, rfl, HI.out.below HFB.out (Nat.le_refl _), Fr.same _ _, HFB.out⟩
end Go.Proofs.YtichajalinkcdaaGreatDoor
namespace Go.Proofs.YtichajalinkcdaaGreatDoor
open Go.RowKit
set_option linter.unusedVariables false

def usR : RowT Us where
  t := 35
  sz := 3
  enc := fun g => [.string g.1, .string g.2.1, .int .i64 g.2.2]
  len := fun _ => rfl
  one := fun x u hu => by
    simp at hu
    rcases hu with rfl | rfl | rfl <;> rfl
/-- A user as a value. -/
def usV (u : Us) : Value := .agg #[.string u.1, .string u.2.1, .int .i64 u.2.2]
theorem Tryz.infoUser : (Tryz.prog.info? 35).map (fun i => (i.zero, i.size, i.bytes)) = some (some (.agg #[.string ⟨#[]⟩, .string ⟨#[]⟩, .int .i64 0]), 3, 40) := by kernel_rfl
theorem user_at {w : World} {A : Option Addr} {L : List Us} {k : Nat} {n p : ByteArray} {q : Int} (h : RAt usR w A L) (hx : L[k]? = some (n, p, q)) :
    ∃ b o, A = some ⟨b, o, none⟩ ∧ b < w.heap.size ∧ w.cell? ⟨b, o + k * 3, none⟩ = some (.string n) ∧ w.cell? ⟨b, o + k * 3 + 1, none⟩ = some (.string p) ∧ w.cell? ⟨b, o + k * 3 + 2, none⟩ = some (.int .i64 q) := by
  obtain ⟨b, o, hA, hb, h1⟩ := h k _ hx
  exact ⟨b, o, hA, hb, h1 0 _ rfl, h1 1 _ rfl, h1 2 _ rfl⟩
def smallU (L : List Us) : Prop := L.length ≤ 4194304 ∧ ∀ g ∈ L, g.1.size ≤ 16777216 ∧ g.2.1.size ≤ 16777216
/-- A slice of users that came in: what the walk asks of it. -/
def UIn (w : World) (A : Option Addr) (N cap : Nat) (L : List Us) : Prop := L.length = N ∧ N ≤ 4194304 ∧ RAt usR w A L ∧ (A = none → cap = 0) ∧ (∀ q, A = some q → q.spot = none) ∧ (∀ g ∈ L, g.1.size ≤ 16777216 ∧ g.2.1.size ≤ 16777216)
theorem UIn.below {w w' : World} {A : Option Addr} {N cap B : Nat} {L : List Us} (h : UIn w A N cap L) (hb : Below B w w') (hB : w.heap.size ≤ B) : UIn w' A N cap L := ⟨h.1, h.2.1, h.2.2.1.below hb hB, h.2.2.2⟩
theorem UIn.made {w : World} {B N cap : Nat} {A : Option Addr} {L : List Us} (h : ROwn usR w B (.slice A N cap) L) (hs : smallU L) : UIn w A N cap L := ⟨h.len.1.symm, h.len.1 ▸ hs.1, h.at, h.nilcap, h.spot, hs.2⟩
theorem UIn.small {w : World} {A : Option Addr} {N cap : Nat} {L : List Us} (h : UIn w A N cap L) : smallU L := ⟨h.1 ▸ h.2.1, h.2.2.2.2.2⟩
theorem ev_walk {u : ByteArray} (h : u ≠ evB) : (u.toList == [97, 110, 121, 111, 110, 101]) = false ∧ ¬ u.toList = [97, 110, 121, 111, 110, 101] ∧ (u.toList != [97, 110, 121, 111, 110, 101]) = true := by
  have h2 := ne_walk h
  have h3 : evB.toList = [97, 110, 121, 111, 110, 101] := by rw [ByteArray.toList_eq]; rfl
  rw [h3] at h2
  exact ⟨h2.1, h2.2, bne_iff_ne.2 h2.2⟩
theorem ev_walk' : evB.toList = [97, 110, 121, 111, 110, 101] := by rw [ByteArray.toList_eq]; rfl
theorem okU_e (u : Us) {x y z : Bool} (h1 : nameB (kb u.1) = x) (h3 : nameB (kb u.2.1) = y) (h4 : (decide (0 ≤ u.2.2) && decide (u.2.2 ≤ 200)) = z) : okU u = (x && (!(kb u.1 == kb evB) && (y && z))) := by
  unfold okU
  rw [h1, h3, h4]
set_option maxHeartbeats 400000 in
theorem impl_uname (u : Us) (w : World) : Calls Tryz.prog 127 #[usV u] w (Says w u.1) := by
  obtain ⟨n, p, q⟩ := u
  unfold usV
  go_enter Tryz.func127, Tryz.ntmps127
  go_wp2
  go_ret
  exact ⟨rfl, (Below.refl _ _).alloc (Nat.le_refl _) _⟩
end Go.Proofs.YtichajalinkcdaaGreatDoor
