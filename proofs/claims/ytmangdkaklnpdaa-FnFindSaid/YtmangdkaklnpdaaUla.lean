/-
  The walks of the laws FnFind, FnFindAll, FnProve and FnProveOther. Condition: the code can be read.
-/
import Derived.Test.YtmangdkaklnpdaaUd
import Derived.Test.YtmangdkaklnpdaaLawa
namespace Go.Proofs.Ytmangdkaklnpdaa
open Go.RowKit
set_option linter.unusedVariables false

def inU (L : List Us) (u : Us) : Bool := L.any fun x => decide (x = u)
set_option maxRecDepth 20000 in
set_option maxHeartbeats 4000000 in
theorem law_FnFind (A : Option Addr) (len cap : Nat) (w : World) (h : Coded w A len cap) : Calls Try.prog 3 #[.slice A len cap] w (Holds1 w) := by
  have HC := Lib.hid h
  clear h
  by_cases hl : len ≤ 1048576
  · have hl' : (len : Int) ≤ 1048576 := by omega
    go_enter Try.func3, Try.ntmps3
    go_wp2_with fail
    refine (draw_ufind A len cap _ HC.out).mono ?_
    rintro e w1 ⟨A1, N1, cap1, L, s, rfl, hs, hU⟩
    have HB1 := Lib.hid hU.2.2.2.2
    have HU1 := Lib.hid hU.uin
    have HSM := Lib.hid hU.uin.small
    have HN5 := Lib.hid hU.2.1
    have HN1 := Lib.hid hU.1
    have hN5 : N1 ≤ 5 := hU.2.1
    clear hU
    obtain ⟨⟨⟨n1, p1, q1⟩, z⟩, hf⟩ : ∃ x, usF L s = x := ⟨_, rfl⟩
    have HF := Lib.hid hf
    cases z with
    | false =>
      clear hf
      go_wp2_with fail
      refine (impl_uf HF.out _ HU1.out).mono ?_
      rintro e w2 ⟨rfl, hb⟩
      have HB2 := Lib.hid (HB1.out.trans (hb.mono HB1.out.size))
      have HU2 := Lib.hid (HU1.out.below hb (Nat.le_refl _))
      clear hb
      unfold usV
      obtain ⟨CX, hCX⟩ : ∃ C, w2.heap.size = C := ⟨_, rfl⟩
      obtain ⟨w3, hw3⟩ : ∃ wa, w2.alloc (.cells #[.string n1, .string p1, .int .i64 q1] 27) = wa := ⟨_, rfl⟩
      have hnX : Below w2.heap.size w2 w3 := by rw [← hw3]; exact (Below.refl _ _).alloc (Nat.le_refl _) _
      have HB3 := Lib.hid (HB2.out.trans (hnX.mono HB2.out.size))
      have HU3 := Lib.hid (HU2.out.below hnX (Nat.le_refl _))
      have HX3 := Lib.hid (show Whole w3 CX 27 #[.string n1, .string p1, .int .i64 q1] by rw [← hw3, ← hCX]; exact Whole.made _ _ _)
      have HWA3 := Lib.hid hw3
      have HCC3 := Lib.hid hCX
      clear hw3 hCX hnX
      go_wp2_with fail
      rw [HWA3.out, HCC3.out]
      refine (spec_uf HF.out _ HU3.out).mono ?_
      rintro e w4 ⟨rfl, hb⟩
      have HB4 := Lib.hid (HB3.out.trans (hb.mono HB3.out.size))
      have HU4 := Lib.hid (HU3.out.below hb (Nat.le_refl _))
      have HX4 := Lib.hid (HX3.out.below hb HX3.out.lt)
      clear hb
      unfold usV
      obtain ⟨CY, hCY⟩ : ∃ C, w4.heap.size = C := ⟨_, rfl⟩
      obtain ⟨w5, hw5⟩ : ∃ wa, w4.alloc (.cells #[.string n1, .string p1, .int .i64 q1] 27) = wa := ⟨_, rfl⟩
      have hnY : Below w4.heap.size w4 w5 := by rw [← hw5]; exact (Below.refl _ _).alloc (Nat.le_refl _) _
      have HB5 := Lib.hid (HB4.out.trans (hnY.mono HB4.out.size))
      have HU5 := Lib.hid (HU4.out.below hnY (Nat.le_refl _))
      have HX5 := Lib.hid (HX4.out.below hnY HX4.out.lt)
      have HY5 := Lib.hid (show Whole w5 CY 27 #[.string n1, .string p1, .int .i64 q1] by rw [← hw5, ← hCY]; exact Whole.made _ _ _)
      have HWA5 := Lib.hid hw5
      have HCC5 := Lib.hid hCY
      clear hw5 hCY hnY
      have x0 : (w4.alloc (.cells #[.string n1, .string p1, .int .i64 q1] 27)).cell? ⟨CX, 0, none⟩ = some (.string n1) := by rw [HWA5.out]; exact HX5.out.cell 0
      have x1 : (w4.alloc (.cells #[.string n1, .string p1, .int .i64 q1] 27)).cell? ⟨CX, 1, none⟩ = some (.string p1) := by rw [HWA5.out]; exact HX5.out.cell 1
      have x2 : (w4.alloc (.cells #[.string n1, .string p1, .int .i64 q1] 27)).cell? ⟨CX, 2, none⟩ = some (.int .i64 q1) := by rw [HWA5.out]; exact HX5.out.cell 2
      have y0 : (w4.alloc (.cells #[.string n1, .string p1, .int .i64 q1] 27)).cell? ⟨w4.heap.size, 0, none⟩ = some (.string n1) := by rw [HWA5.out, HCC5.out]; exact HY5.out.cell 0
      have y1 : (w4.alloc (.cells #[.string n1, .string p1, .int .i64 q1] 27)).cell? ⟨w4.heap.size, 1, none⟩ = some (.string p1) := by rw [HWA5.out, HCC5.out]; exact HY5.out.cell 1
      have y2 : (w4.alloc (.cells #[.string n1, .string p1, .int .i64 q1] 27)).cell? ⟨w4.heap.size, 2, none⟩ = some (.int .i64 q1) := by rw [HWA5.out, HCC5.out]; exact HY5.out.cell 2
      go_wp2
      go_ret
      exact ⟨rfl, (by rw [HWA5.out]; exact HB5.out)⟩
    | true =>
      obtain ⟨_, _, hmem, hns, _⟩ := usF_true hf
      obtain rfl : n1 = s := hns
      have HM := Lib.hid hmem
      clear hf hmem
      go_wp2_with fail
      refine (impl_uf HF.out _ HU1.out).mono ?_
      rintro e w2 ⟨rfl, hb⟩
      have HB2 := Lib.hid (HB1.out.trans (hb.mono HB1.out.size))
      have HU2 := Lib.hid (HU1.out.below hb (Nat.le_refl _))
      clear hb
      unfold usV
      obtain ⟨CX, hCX⟩ : ∃ C, w2.heap.size = C := ⟨_, rfl⟩
      obtain ⟨w3, hw3⟩ : ∃ wa, w2.alloc (.cells #[.string n1, .string p1, .int .i64 q1] 27) = wa := ⟨_, rfl⟩
      have hnX : Below w2.heap.size w2 w3 := by rw [← hw3]; exact (Below.refl _ _).alloc (Nat.le_refl _) _
      have HB3 := Lib.hid (HB2.out.trans (hnX.mono HB2.out.size))
      have HU3 := Lib.hid (HU2.out.below hnX (Nat.le_refl _))
      have HX3 := Lib.hid (show Whole w3 CX 27 #[.string n1, .string p1, .int .i64 q1] by rw [← hw3, ← hCX]; exact Whole.made _ _ _)
      have HWA3 := Lib.hid hw3
      have HCC3 := Lib.hid hCX
      clear hw3 hCX hnX
      go_wp2_with fail
      rw [HWA3.out, HCC3.out]
      refine (spec_uf HF.out _ HU3.out).mono ?_
      rintro e w4 ⟨rfl, hb⟩
      have HB4 := Lib.hid (HB3.out.trans (hb.mono HB3.out.size))
      have HU4 := Lib.hid (HU3.out.below hb (Nat.le_refl _))
      have HX4 := Lib.hid (HX3.out.below hb HX3.out.lt)
      clear hb
      unfold usV
      obtain ⟨CY, hCY⟩ : ∃ C, w4.heap.size = C := ⟨_, rfl⟩
      obtain ⟨w5, hw5⟩ : ∃ wa, w4.alloc (.cells #[.string n1, .string p1, .int .i64 q1] 27) = wa := ⟨_, rfl⟩
      have hnY : Below w4.heap.size w4 w5 := by rw [← hw5]; exact (Below.refl _ _).alloc (Nat.le_refl _) _
      have HB5 := Lib.hid (HB4.out.trans (hnY.mono HB4.out.size))
      have HU5 := Lib.hid (HU4.out.below hnY (Nat.le_refl _))
      have HX5 := Lib.hid (HX4.out.below hnY HX4.out.lt)
      have HY5 := Lib.hid (show Whole w5 CY 27 #[.string n1, .string p1, .int .i64 q1] by rw [← hw5, ← hCY]; exact Whole.made _ _ _)
      have HWA5 := Lib.hid hw5
      have HCC5 := Lib.hid hCY
      clear hw5 hCY hnY
      have x0 : (w4.alloc (.cells #[.string n1, .string p1, .int .i64 q1] 27)).cell? ⟨CX, 0, none⟩ = some (.string n1) := by rw [HWA5.out]; exact HX5.out.cell 0
      have x1 : (w4.alloc (.cells #[.string n1, .string p1, .int .i64 q1] 27)).cell? ⟨CX, 1, none⟩ = some (.string p1) := by rw [HWA5.out]; exact HX5.out.cell 1
      have x2 : (w4.alloc (.cells #[.string n1, .string p1, .int .i64 q1] 27)).cell? ⟨CX, 2, none⟩ = some (.int .i64 q1) := by rw [HWA5.out]; exact HX5.out.cell 2
      have y0 : (w4.alloc (.cells #[.string n1, .string p1, .int .i64 q1] 27)).cell? ⟨w4.heap.size, 0, none⟩ = some (.string n1) := by rw [HWA5.out, HCC5.out]; exact HY5.out.cell 0
      have y1 : (w4.alloc (.cells #[.string n1, .string p1, .int .i64 q1] 27)).cell? ⟨w4.heap.size, 1, none⟩ = some (.string p1) := by rw [HWA5.out, HCC5.out]; exact HY5.out.cell 1
      have y2 : (w4.alloc (.cells #[.string n1, .string p1, .int .i64 q1] 27)).cell? ⟨w4.heap.size, 2, none⟩ = some (.int .i64 q1) := by rw [HWA5.out, HCC5.out]; exact HY5.out.cell 2
      go_wp2
      rw [HWA5.out]
      go_loopw [9, 10] (fun v i wr => ∃ k : Nat, k ≤ N1 ∧ v = .bool (inU (L.take k) (n1, p1, q1)) ∧ i = .int .i64 (k : Int) ∧ Hid (Below w5.heap.size w5 wr)) (fun _ i _ => N1 - (intOf i).toNat)
      case atStart => exact ⟨0, Nat.zero_le _, by rw [List.take_zero]; rfl, by go_num, Below.refl _ _⟩
      case round =>
        obtain ⟨k, hk, rfl, rfl, HBr⟩ := hrel
        have HXr := Lib.hid (HX5.out.below HBr.out HX5.out.lt)
        have HUr := Lib.hid (HU5.out.below HBr.out (Nat.le_refl _))
        have HBw := Lib.hid (HB5.out.trans (HBr.out.mono HB5.out.size))
        have x0 : wr.cell? ⟨CX, 0, none⟩ = some (.string n1) := HXr.out.cell 0
        have x1 : wr.cell? ⟨CX, 1, none⟩ = some (.string p1) := HXr.out.cell 1
        have x2 : wr.cell? ⟨CX, 2, none⟩ = some (.int .i64 q1) := HXr.out.cell 2
        by_cases hlt : k < N1
        · have h0 : (0 : Int) ≤ (k : Int) := by omega
          have h5 : (k : Int) < (N1 : Int) := by omega
          obtain ⟨⟨n2, p2, q2⟩, hx⟩ : ∃ x, L[k]? = some x := ⟨_, List.getElem?_eq_getElem (by rw [HUr.out.1]; exact hlt)⟩
          obtain ⟨b, o, rfl, hb, c0, c1, c2⟩ := user_at HUr.out.2.2.1 hx
          obtain ⟨y, hy⟩ : ∃ y, inU (L.take k) (n1, p1, q1) = y := ⟨_, rfl⟩
          rw [hy]
          have HN : Hid (inU (L.take (k + 1)) (n1, p1, q1) = (y || decide ((n1, p1, q1) = (n2, p2, q2)))) := Lib.hid (by
            rw [← hy, tsnoc hx]; unfold inU; rw [List.any_append]; simp [eq_comm])
          clear hx hy
          cases y with
          | true =>
            go_wp2
            go_quiet (fail)
            go_wp2
            go_roundw
            case rel => exact ⟨k + 1, by omega, by rw [HN.out]; rfl, by go_num, below_drewN' HBr.out _⟩
            case measure => simp [intOf]; omega
          | false =>
            by_cases e1 : n2 = n1
            · by_cases e2 : p2 = p1
              · by_cases e3 : q2 = q1
                · subst e1 e2 e3
                  have HE := Lib.hid (HN.out.trans (show (false || decide ((n2, p2, q2) = (n2, p2, q2))) = true by simp))
                  go_wp2
                  go_quiet (fail)
                  go_wp2
                  go_roundw
                  case rel => exact ⟨k + 1, by omega, by rw [HE.out], by go_num, below_drewN' HBr.out _⟩
                  case measure => simp [intOf]; omega
                · subst e1 e2
                  have HE := Lib.hid (HN.out.trans (show (false || decide ((n2, p2, q1) = (n2, p2, q2))) = false by simp; exact fun h => e3 h.symm))
                  have hq : (q2 == q1) = false := beq_eq_false_iff_ne.2 e3
                  go_wp2
                  go_quiet (fail)
                  go_wp2
                  go_roundw
                  case rel => exact ⟨k + 1, by omega, by rw [HE.out], by go_num, below_drewN' HBr.out _⟩
                  case measure => simp [intOf]; omega
              · subst e1
                have HE := Lib.hid (HN.out.trans (show (false || decide ((n2, p1, q1) = (n2, p2, q2))) = false by simp; exact fun h => absurd h.symm e2))
                obtain ⟨v1, v2⟩ := ne_walk e2
                go_wp2
                go_quiet (fail)
                go_wp2
                go_roundw
                case rel => exact ⟨k + 1, by omega, by rw [HE.out], by go_num, below_drewN' HBr.out _⟩
                case measure => simp [intOf]; omega
            · have HE := Lib.hid (HN.out.trans (show (false || decide ((n1, p1, q1) = (n2, p2, q2))) = false by simp; exact fun h => absurd h.symm e1))
              obtain ⟨v1, v2⟩ := ne_walk e1
              go_wp2
              go_quiet (fail)
              go_wp2
              go_roundw
              case rel => exact ⟨k + 1, by omega, by rw [HE.out], by go_num, below_drewN' HBr.out _⟩
              case measure => simp [intOf]; omega
        · have h5 : ¬ (k : Int) < (N1 : Int) := by omega
          have HE : Hid (inU (L.take k) (n1, p1, q1) = true) := Lib.hid (by rw [List.take_of_length_le (by rw [HUr.out.1]; omega)]; exact List.any_eq_true.2 ⟨_, HM.out, by simp⟩)
          rw [HE.out]
          go_wp2
          go_ret
          exact ⟨rfl, HBw.out⟩
  · have hl' : (1048576 : Int) < (len : Int) := by omega
    go_enter Try.func3, Try.ntmps3
    go_wp2
    go_ret
    exact ⟨rfl, Below.refl _ _⟩
set_option maxRecDepth 20000 in
set_option maxHeartbeats 4000000 in
theorem law_FnFindAll (A : Option Addr) (len cap : Nat) (w : World) (h : Coded w A len cap) : Calls Try.prog 4 #[.slice A len cap] w (Holds1 w) := by
  have HC := Lib.hid h
  clear h
  by_cases hl : len ≤ 1048576
  · have hl' : (len : Int) ≤ 1048576 := by omega
    go_enter Try.func4, Try.ntmps4
    go_wp2_with fail
    refine (draw_uvalid A len cap _ HC.out).mono ?_
    rintro e w1 ⟨A1, N1, cap1, L, rfl, hU⟩
    have HB1 := Lib.hid hU.2.2.2.2
    have HU1 := Lib.hid hU.uin
    have HSM := Lib.hid hU.uin.small
    have HN5 := Lib.hid hU.2.1
    have HN1 := Lib.hid hU.1
    have hN5 : N1 ≤ 5 := hU.2.1
    clear hU
    cases hv : vU L with
    | false =>
      have HV := Lib.hid hv
      clear hv
      go_wp2_with fail
      refine (impl_uv HV.out _ HU1.out).mono ?_
      rintro e w2 ⟨rfl, hb⟩
      have HB2 := Lib.hid (HB1.out.trans (hb.mono HB1.out.size))
      have HU2 := Lib.hid (HU1.out.below hb (Nat.le_refl _))
      clear hb
      go_wp2_with fail
      refine (spec_uv HV.out _ HU2.out).mono ?_
      rintro e w3 ⟨rfl, hb⟩
      have HB3 := Lib.hid (HB2.out.trans (hb.mono HB2.out.size))
      have HU3 := Lib.hid (HU2.out.below hb (Nat.le_refl _))
      clear hb
      go_wp2
      go_ret
      exact ⟨rfl, HB3.out⟩
    | true =>
      have HV := Lib.hid hv
      clear hv
      go_wp2_with fail
      refine (impl_uv HV.out _ HU1.out).mono ?_
      rintro e w2 ⟨rfl, hb⟩
      have HB2 := Lib.hid (HB1.out.trans (hb.mono HB1.out.size))
      have HU2 := Lib.hid (HU1.out.below hb (Nat.le_refl _))
      clear hb
      go_wp2_with fail
      refine (spec_uv HV.out _ HU2.out).mono ?_
      rintro e w3 ⟨rfl, hb⟩
      have HB3 := Lib.hid (HB2.out.trans (hb.mono HB2.out.size))
      have HU3 := Lib.hid (HU2.out.below hb (Nat.le_refl _))
      clear hb
      go_wp2
      go_loopw [6] (fun i wr => ∃ k : Nat, k ≤ N1 ∧ i = .int .i64 (k : Int) ∧ Hid (Below w3.heap.size w3 wr)) (fun i _ => N1 - (intOf i).toNat)
      case atStart => exact ⟨0, Nat.zero_le _, by go_num, Below.refl _ _⟩
      case round =>
        obtain ⟨k, hk, rfl, HBr⟩ := hrel
        have HUr := Lib.hid (HU3.out.below HBr.out (Nat.le_refl _))
        have HBw := Lib.hid (HB3.out.trans (HBr.out.mono HB3.out.size))
        by_cases hlt : k < N1
        · have h0 : (0 : Int) ≤ (k : Int) := by omega
          have h5 : (k : Int) < (N1 : Int) := by omega
          obtain ⟨⟨n1, p1, q1⟩, hx⟩ : ∃ x, L[k]? = some x := ⟨_, List.getElem?_eq_getElem (by rw [HUr.out.1]; exact hlt)⟩
          have HF : Hid (usF L n1 = ((n1, p1, q1), true)) := Lib.hid (usF_yes HV.out (fU_mem (vU_iff.1 HV.out).2.2 (List.mem_of_getElem? hx)))
          have HX := Lib.hid hx
          obtain ⟨b, o, rfl, hb0, c0, c1, c2⟩ := user_at HUr.out.2.2.1 hx
          clear hx
          go_wp2_with fail
          refine (impl_uf HF.out _ HUr.out).mono ?_
          rintro e w4 ⟨rfl, hb⟩
          have HB4 := Lib.hid (HBr.out.trans (hb.mono HBr.out.size))
          have HU4 := Lib.hid (HUr.out.below hb (Nat.le_refl _))
          clear hb
          unfold usV
          obtain ⟨CX, hCX⟩ : ∃ C, w4.heap.size = C := ⟨_, rfl⟩
          obtain ⟨w5, hw5⟩ : ∃ wa, w4.alloc (.cells #[.string n1, .string p1, .int .i64 q1] 27) = wa := ⟨_, rfl⟩
          have hnX : Below w4.heap.size w4 w5 := by rw [← hw5]; exact (Below.refl _ _).alloc (Nat.le_refl _) _
          have HB5 := Lib.hid (HB4.out.trans (hnX.mono HB4.out.size))
          have HU5 := Lib.hid (HU4.out.below hnX (Nat.le_refl _))
          have HX5 := Lib.hid (show Whole w5 CX 27 #[.string n1, .string p1, .int .i64 q1] by rw [← hw5, ← hCX]; exact Whole.made _ _ _)
          have HWA5 := Lib.hid hw5
          have HCC5 := Lib.hid hCX
          clear hw5 hCX hnX
          obtain ⟨b', o', he, hb1, d0, d1, d2⟩ := user_at HU5.out.2.2.1 HX.out
          cases he
          have x0 : w5.cell? ⟨CX, 0, none⟩ = some (.string n1) := HX5.out.cell 0
          have x1 : w5.cell? ⟨CX, 1, none⟩ = some (.string p1) := HX5.out.cell 1
          have x2 : w5.cell? ⟨CX, 2, none⟩ = some (.int .i64 q1) := HX5.out.cell 2
          clear c0 c1 c2
          go_wp2
          rw [HWA5.out, HCC5.out]
          go_quiet (fail)
          go_wp2
          go_roundw
          case rel => exact ⟨k + 1, by omega, by go_num, below_drewN' HB5.out _⟩
          case measure => simp [intOf]; omega
        · have h5 : ¬ (k : Int) < (N1 : Int) := by omega
          have HF : Hid (usF L (⟨#[97, 110, 121, 111, 110, 101]⟩ : ByteArray) = (noU, false)) := Lib.hid (usF_ev L)
          go_wp2_with fail
          refine (impl_uf HF.out _ HUr.out).mono ?_
          rintro e w4 ⟨rfl, hb⟩
          have HB4 := Lib.hid (HBw.out.trans (hb.mono HBw.out.size))
          have HU4 := Lib.hid (HUr.out.below hb (Nat.le_refl _))
          clear hb
          unfold usV noU
          go_wp2
          go_ret
          exact ⟨rfl, HB4.out.alloc HB4.out.size _⟩
  · have hl' : (1048576 : Int) < (len : Int) := by omega
    go_enter Try.func4, Try.ntmps4
    go_wp2
    go_ret
    exact ⟨rfl, Below.refl _ _⟩
set_option maxRecDepth 20000 in
set_option maxHeartbeats 4000000 in
theorem law_FnProve (A : Option Addr) (len cap : Nat) (w : World) (h : Coded w A len cap) : Calls Try.prog 7 #[.slice A len cap] w (Holds1 w) := by
  have HC := Lib.hid h
  clear h
  by_cases hl : len ≤ 1048576
  · have hl' : (len : Int) ≤ 1048576 := by omega
    go_enter Try.func7, Try.ntmps7
    go_wp2_with fail
    refine (draw_uprove A len cap _ HC.out).mono ?_
    rintro e w1 ⟨A1, N1, cap1, L, s, t, rfl, hs, ht, hU⟩
    have HB1 := Lib.hid hU.2.2.2.2
    have HU1 := Lib.hid hU.uin
    have HSM := Lib.hid hU.uin.small
    have HN5 := Lib.hid hU.2.1
    have HN1 := Lib.hid hU.1
    have hN5 : N1 ≤ 5 := hU.2.1
    clear hU
    obtain ⟨⟨⟨n1, p1, q1⟩, z⟩, hf⟩ : ∃ x, usF L s = x := ⟨_, rfl⟩
    have HF := Lib.hid hf
    have hp := prU_is (p := t) hf
    cases z with
    | false =>
      have HP : Hid (prU L s t = false) := Lib.hid hp
      clear hf hp
      go_wp2_with fail
      refine (impl_up HP.out _ HU1.out).mono ?_
      rintro e w2 ⟨rfl, hb⟩
      have HB2 := Lib.hid (HB1.out.trans (hb.mono HB1.out.size))
      have HU2 := Lib.hid (HU1.out.below hb (Nat.le_refl _))
      clear hb
      go_wp2_with fail
      refine (spec_up HP.out _ HU2.out).mono ?_
      rintro e w3 ⟨rfl, hb⟩
      have HB3 := Lib.hid (HB2.out.trans (hb.mono HB2.out.size))
      have HU3 := Lib.hid (HU2.out.below hb (Nat.le_refl _))
      clear hb
      go_wp2_with fail
      refine (impl_uf HF.out _ HU3.out).mono ?_
      rintro e w4 ⟨rfl, hb⟩
      have HB4 := Lib.hid (HB3.out.trans (hb.mono HB3.out.size))
      have HU4 := Lib.hid (HU3.out.below hb (Nat.le_refl _))
      clear hb
      unfold usV
      obtain ⟨CX, hCX⟩ : ∃ C, w4.heap.size = C := ⟨_, rfl⟩
      obtain ⟨w5, hw5⟩ : ∃ wa, w4.alloc (.cells #[.string n1, .string p1, .int .i64 q1] 27) = wa := ⟨_, rfl⟩
      have hnX : Below w4.heap.size w4 w5 := by rw [← hw5]; exact (Below.refl _ _).alloc (Nat.le_refl _) _
      have HB5 := Lib.hid (HB4.out.trans (hnX.mono HB4.out.size))
      have HU5 := Lib.hid (HU4.out.below hnX (Nat.le_refl _))
      have HX5 := Lib.hid (show Whole w5 CX 27 #[.string n1, .string p1, .int .i64 q1] by rw [← hw5, ← hCX]; exact Whole.made _ _ _)
      have HWA5 := Lib.hid hw5
      have HCC5 := Lib.hid hCX
      clear hw5 hCX hnX
      go_wp2
      go_ret
      exact ⟨rfl, (by rw [HWA5.out]; exact HB5.out)⟩
    | true =>
      by_cases he : p1 = t
      ·
        subst he
        have HP : Hid (prU L s p1 = true) := Lib.hid (by rw [hp]; simp)
        clear hf hp
        go_wp2_with fail
        refine (impl_up HP.out _ HU1.out).mono ?_
        rintro e w2 ⟨rfl, hb⟩
        have HB2 := Lib.hid (HB1.out.trans (hb.mono HB1.out.size))
        have HU2 := Lib.hid (HU1.out.below hb (Nat.le_refl _))
        clear hb
        go_wp2_with fail
        refine (spec_up HP.out _ HU2.out).mono ?_
        rintro e w3 ⟨rfl, hb⟩
        have HB3 := Lib.hid (HB2.out.trans (hb.mono HB2.out.size))
        have HU3 := Lib.hid (HU2.out.below hb (Nat.le_refl _))
        clear hb
        go_wp2_with fail
        refine (impl_uf HF.out _ HU3.out).mono ?_
        rintro e w4 ⟨rfl, hb⟩
        have HB4 := Lib.hid (HB3.out.trans (hb.mono HB3.out.size))
        have HU4 := Lib.hid (HU3.out.below hb (Nat.le_refl _))
        clear hb
        unfold usV
        obtain ⟨CX, hCX⟩ : ∃ C, w4.heap.size = C := ⟨_, rfl⟩
        obtain ⟨w5, hw5⟩ : ∃ wa, w4.alloc (.cells #[.string n1, .string p1, .int .i64 q1] 27) = wa := ⟨_, rfl⟩
        have hnX : Below w4.heap.size w4 w5 := by rw [← hw5]; exact (Below.refl _ _).alloc (Nat.le_refl _) _
        have HB5 := Lib.hid (HB4.out.trans (hnX.mono HB4.out.size))
        have HU5 := Lib.hid (HU4.out.below hnX (Nat.le_refl _))
        have HX5 := Lib.hid (show Whole w5 CX 27 #[.string n1, .string p1, .int .i64 q1] by rw [← hw5, ← hCX]; exact Whole.made _ _ _)
        have HWA5 := Lib.hid hw5
        have HCC5 := Lib.hid hCX
        clear hw5 hCX hnX
        have x1 : (w4.alloc (.cells #[.string n1, .string p1, .int .i64 q1] 27)).cell? ⟨w4.heap.size, 1, none⟩ = some (.string p1) := by rw [HWA5.out, HCC5.out]; exact HX5.out.cell 1
        go_wp2
        go_ret
        exact ⟨rfl, (by rw [HWA5.out]; exact HB5.out)⟩
      ·
        have HP : Hid (prU L s t = false) := Lib.hid (by rw [hp, ne_kb he]; rfl)
        obtain ⟨v1, v2⟩ := ne_walk he
        clear hf hp he
        go_wp2_with fail
        refine (impl_up HP.out _ HU1.out).mono ?_
        rintro e w2 ⟨rfl, hb⟩
        have HB2 := Lib.hid (HB1.out.trans (hb.mono HB1.out.size))
        have HU2 := Lib.hid (HU1.out.below hb (Nat.le_refl _))
        clear hb
        go_wp2_with fail
        refine (spec_up HP.out _ HU2.out).mono ?_
        rintro e w3 ⟨rfl, hb⟩
        have HB3 := Lib.hid (HB2.out.trans (hb.mono HB2.out.size))
        have HU3 := Lib.hid (HU2.out.below hb (Nat.le_refl _))
        clear hb
        go_wp2_with fail
        refine (impl_uf HF.out _ HU3.out).mono ?_
        rintro e w4 ⟨rfl, hb⟩
        have HB4 := Lib.hid (HB3.out.trans (hb.mono HB3.out.size))
        have HU4 := Lib.hid (HU3.out.below hb (Nat.le_refl _))
        clear hb
        unfold usV
        obtain ⟨CX, hCX⟩ : ∃ C, w4.heap.size = C := ⟨_, rfl⟩
        obtain ⟨w5, hw5⟩ : ∃ wa, w4.alloc (.cells #[.string n1, .string p1, .int .i64 q1] 27) = wa := ⟨_, rfl⟩
        have hnX : Below w4.heap.size w4 w5 := by rw [← hw5]; exact (Below.refl _ _).alloc (Nat.le_refl _) _
        have HB5 := Lib.hid (HB4.out.trans (hnX.mono HB4.out.size))
        have HU5 := Lib.hid (HU4.out.below hnX (Nat.le_refl _))
        have HX5 := Lib.hid (show Whole w5 CX 27 #[.string n1, .string p1, .int .i64 q1] by rw [← hw5, ← hCX]; exact Whole.made _ _ _)
        have HWA5 := Lib.hid hw5
        have HCC5 := Lib.hid hCX
        clear hw5 hCX hnX
        have x1 : (w4.alloc (.cells #[.string n1, .string p1, .int .i64 q1] 27)).cell? ⟨w4.heap.size, 1, none⟩ = some (.string p1) := by rw [HWA5.out, HCC5.out]; exact HX5.out.cell 1
        go_wp2
        go_ret
        exact ⟨rfl, (by rw [HWA5.out]; exact HB5.out)⟩
  · have hl' : (1048576 : Int) < (len : Int) := by omega
    go_enter Try.func7, Try.ntmps7
    go_wp2
    go_ret
    exact ⟨rfl, Below.refl _ _⟩
set_option maxRecDepth 20000 in
set_option maxHeartbeats 4000000 in
theorem law_FnProveOther (A : Option Addr) (len cap : Nat) (w : World) (h : Coded w A len cap) : Calls Try.prog 8 #[.slice A len cap] w (Holds1 w) := by
  have HC := Lib.hid h
  clear h
  by_cases hl : len ≤ 1048576
  · have hl' : (len : Int) ≤ 1048576 := by omega
    go_enter Try.func8, Try.ntmps8
    go_wp2_with fail
    refine (draw_uprove A len cap _ HC.out).mono ?_
    rintro e w1 ⟨A1, N1, cap1, L, s, t, rfl, hs, ht, hU⟩
    have HB1 := Lib.hid hU.2.2.2.2
    have HU1 := Lib.hid hU.uin
    have HSM := Lib.hid hU.uin.small
    have HN5 := Lib.hid hU.2.1
    have HN1 := Lib.hid hU.1
    have hN5 : N1 ≤ 5 := hU.2.1
    clear hU
    cases hp : prU L s t with
    | false =>
      have HP := Lib.hid hp
      clear hp
      go_wp2_with fail
      refine (impl_up HP.out _ HU1.out).mono ?_
      rintro e w2 ⟨rfl, hb⟩
      have HB2 := Lib.hid (HB1.out.trans (hb.mono HB1.out.size))
      have HU2 := Lib.hid (HU1.out.below hb (Nat.le_refl _))
      clear hb
      go_wp2_with fail
      refine (spec_up HP.out _ HU2.out).mono ?_
      rintro e w3 ⟨rfl, hb⟩
      have HB3 := Lib.hid (HB2.out.trans (hb.mono HB2.out.size))
      have HU3 := Lib.hid (HU2.out.below hb (Nat.le_refl _))
      clear hb
      go_wp2
      go_ret
      exact ⟨rfl, HB3.out⟩
    | true =>
      have HP := Lib.hid hp
      have HM := Lib.hid (prU_more hp)
      have HZ := Lib.hid (prU_nil hp)
      clear hp
      go_wp2_with fail
      refine (impl_up HP.out _ HU1.out).mono ?_
      rintro e w2 ⟨rfl, hb⟩
      have HB2 := Lib.hid (HB1.out.trans (hb.mono HB1.out.size))
      have HU2 := Lib.hid (HU1.out.below hb (Nat.le_refl _))
      clear hb
      go_wp2_with fail
      refine (spec_up HP.out _ HU2.out).mono ?_
      rintro e w3 ⟨rfl, hb⟩
      have HB3 := Lib.hid (HB2.out.trans (hb.mono HB2.out.size))
      have HU3 := Lib.hid (HU2.out.below hb (Nat.le_refl _))
      clear hb
      go_wp2_with fail
      refine (impl_up HM.out _ HU3.out).mono ?_
      rintro e w4 ⟨rfl, hb⟩
      have HB4 := Lib.hid (HB3.out.trans (hb.mono HB3.out.size))
      have HU4 := Lib.hid (HU3.out.below hb (Nat.le_refl _))
      clear hb
      go_wp2_with fail
      refine (impl_up HZ.out _ HU4.out).mono ?_
      rintro e w5 ⟨rfl, hb⟩
      have HB5 := Lib.hid (HB4.out.trans (hb.mono HB4.out.size))
      have HU5 := Lib.hid (HU4.out.below hb (Nat.le_refl _))
      clear hb
      go_wp2
      go_ret
      exact ⟨rfl, HB5.out⟩
  · have hl' : (1048576 : Int) < (len : Int) := by omega
    go_enter Try.func8, Try.ntmps8
    go_wp2
    go_ret
    exact ⟨rfl, Below.refl _ _⟩
end Go.Proofs.Ytmangdkaklnpdaa
