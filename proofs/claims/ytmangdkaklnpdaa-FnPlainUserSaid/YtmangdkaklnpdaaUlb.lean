/-
  The walks of the laws FnPlain and FnPlainUser. Condition: the code can be read.
-/
import Derived.Test.YtmangdkaklnpdaaUd
import Derived.Test.YtmangdkaklnpdaaLawa
namespace Go.Proofs.Ytmangdkaklnpdaa
open Go.RowKit
set_option linter.unusedVariables false

theorem imk_at {u p t : ByteArray} (h : mkB u p = t) (w : World) (hu : u.size ≤ 16777216) (hp : p.size ≤ 16777216) : Calls Try.prog 25 #[.string u, .string p] w (Says w t) := by
  subst h
  exact imake u p w hu hp
set_option maxRecDepth 20000 in
set_option maxHeartbeats 4000000 in
theorem law_FnPlain (A : Option Addr) (len cap : Nat) (w : World) (h : Coded w A len cap) : Calls Try.prog 9 #[.slice A len cap] w (Holds1 w) := by
  have HC := Lib.hid h
  clear h
  by_cases hl : len ≤ 1048576
  · have hl' : (len : Int) ≤ 1048576 := by omega
    go_enter Try.func9, Try.ntmps9
    go_wp2_with fail
    refine (draw_uprove A len cap _ HC.out).mono ?_
    rintro e w1 ⟨A1, N1, cap1, L, s, t, rfl, hs, ht, hU⟩
    have HB1 := Lib.hid hU.2.2.2.2
    have HU1 := Lib.hid hU.uin
    have HSM := Lib.hid hU.uin.small
    have HN5 := Lib.hid hU.2.1
    have HN1 := Lib.hid hU.1
    clear hU
    obtain ⟨m, hm⟩ : ∃ m, mkB s t = m := ⟨_, rfl⟩
    have hml : m.size ≤ 24 := hm ▸ mkB_le s t
    obtain ⟨o, v, q, hq⟩ := isPP_any m
    have hup := up_made (L := L) hm hq
    have HMK := Lib.hid hm
    have HQ := Lib.hid hq
    cases hp : prU L s t with
    | false =>
      have HP := Lib.hid hp
      have HUP : Hid (upU L v q o = ((⟨#[]⟩ : ByteArray), false)) := Lib.hid (by rw [hup, hp]; rfl)
      clear hp hup hm hq
      go_wp2_with fail
      refine (impl_up HP.out _ HU1.out).mono ?_
      rintro e w2 ⟨rfl, hb⟩
      have HB2 := Lib.hid (HB1.out.trans (hb.mono HB1.out.size))
      have HU2 := Lib.hid (HU1.out.below hb (Nat.le_refl _))
      clear hb
      go_wp2_with fail
      refine (spec_up HP.out _ HU2.out).mono ?_
      rintro e w3 ⟨rfl, hb⟩
      have HB3 := Lib.hid (HB2.out.trans (hb.mono HB2.out.size))
      have HU3 := Lib.hid (HU2.out.below hb (Nat.le_refl _))
      clear hb
      go_wp2_with fail
      refine (imk_at HMK.out _ (by omega) (by omega)).mono ?_
      rintro e w4 ⟨rfl, hb⟩
      have HB4 := Lib.hid (HB3.out.trans (hb.mono HB3.out.size))
      have HU4 := Lib.hid (HU3.out.below hb (Nat.le_refl _))
      clear hb
      go_wp2_with fail
      refine (impl_upl HQ.out HUP.out _ HU4.out (by omega)).mono ?_
      rintro e w5 ⟨rfl, hb⟩
      have HB5 := Lib.hid (HB4.out.trans (hb.mono HB4.out.size))
      have HU5 := Lib.hid (HU4.out.below hb (Nat.le_refl _))
      clear hb
      go_wp2
      go_ret
      exact ⟨rfl, HB5.out⟩
    | true =>
      have HP := Lib.hid hp
      have HUP : Hid (upU L v q o = (s, true)) := Lib.hid (by rw [hup, hp]; rfl)
      clear hp hup hm hq
      go_wp2_with fail
      refine (impl_up HP.out _ HU1.out).mono ?_
      rintro e w2 ⟨rfl, hb⟩
      have HB2 := Lib.hid (HB1.out.trans (hb.mono HB1.out.size))
      have HU2 := Lib.hid (HU1.out.below hb (Nat.le_refl _))
      clear hb
      go_wp2_with fail
      refine (spec_up HP.out _ HU2.out).mono ?_
      rintro e w3 ⟨rfl, hb⟩
      have HB3 := Lib.hid (HB2.out.trans (hb.mono HB2.out.size))
      have HU3 := Lib.hid (HU2.out.below hb (Nat.le_refl _))
      clear hb
      go_wp2_with fail
      refine (imk_at HMK.out _ (by omega) (by omega)).mono ?_
      rintro e w4 ⟨rfl, hb⟩
      have HB4 := Lib.hid (HB3.out.trans (hb.mono HB3.out.size))
      have HU4 := Lib.hid (HU3.out.below hb (Nat.le_refl _))
      clear hb
      go_wp2_with fail
      refine (impl_upl HQ.out HUP.out _ HU4.out (by omega)).mono ?_
      rintro e w5 ⟨rfl, hb⟩
      have HB5 := Lib.hid (HB4.out.trans (hb.mono HB4.out.size))
      have HU5 := Lib.hid (HU4.out.below hb (Nat.le_refl _))
      clear hb
      go_wp2
      go_ret
      exact ⟨rfl, HB5.out⟩
  · have hl' : (1048576 : Int) < (len : Int) := by omega
    go_enter Try.func9, Try.ntmps9
    go_wp2
    go_ret
    exact ⟨rfl, Below.refl _ _⟩
set_option maxRecDepth 20000 in
set_option maxHeartbeats 4000000 in
theorem law_FnPlainUser (A : Option Addr) (len cap : Nat) (w : World) (h : Coded w A len cap) : Calls Try.prog 10 #[.slice A len cap] w (Holds1 w) := by
  have HC := Lib.hid h
  clear h
  by_cases hl : len ≤ 1048576
  · have hl' : (len : Int) ≤ 1048576 := by omega
    go_enter Try.func10, Try.ntmps10
    go_wp2_with fail
    refine (draw_uplain A len cap _ HC.out).mono ?_
    rintro e w1 ⟨A1, N1, cap1, L, s, rfl, hs, hU⟩
    have HB1 := Lib.hid hU.2.2.2.2
    have HU1 := Lib.hid hU.uin
    have HSM := Lib.hid hU.uin.small
    have HN5 := Lib.hid hU.2.1
    have HN1 := Lib.hid hU.1
    clear hU
    obtain ⟨o, v, q, hq⟩ := isPP_any s
    have HQ := Lib.hid hq
    obtain ⟨⟨x, y⟩, hup⟩ : ∃ r, upU L v q o = r := ⟨_, rfl⟩
    have HUP := Lib.hid hup
    cases y with
    | false =>
      have hxx : (x.toList == x.toList) = true := by simp
      clear hq hup
      go_wp2_with fail
      refine (impl_upl HQ.out HUP.out _ HU1.out (by omega)).mono ?_
      rintro e w2 ⟨rfl, hb⟩
      have HB2 := Lib.hid (HB1.out.trans (hb.mono HB1.out.size))
      have HU2 := Lib.hid (HU1.out.below hb (Nat.le_refl _))
      clear hb
      go_wp2_with fail
      refine (spec_upl HQ.out HUP.out _ HU2.out (by omega)).mono ?_
      rintro e w3 ⟨rfl, hb⟩
      have HB3 := Lib.hid (HB2.out.trans (hb.mono HB2.out.size))
      have HU3 := Lib.hid (HU2.out.below hb (Nat.le_refl _))
      clear hb
      go_wp2
      go_ret
      exact ⟨rfl, HB3.out⟩
    | true =>
      have hc : (o && prU L v q) = true := by
        cases hb : (o && prU L v q) with
        | true => rfl
        | false => unfold upU at hup; rw [hb] at hup; cases hup
      have hxv : v = x := by
        unfold upU at hup
        rw [hc] at hup
        cases hup
        rfl
      subst hxv
      simp only [Bool.and_eq_true] at hc
      obtain ⟨ho, hpr⟩ := hc
      subst ho
      obtain ⟨q1, hf, hn8, hp8⟩ := prU_true hpr
      have HF := Lib.hid hf
      have hz1 := name_size hn8
      have hz2 := name_size hp8
      have HMK : Hid (mkB v q = s) := Lib.hid (by unfold mkB; rw [mk_pp hq, bt_of])
      clear hq hup hpr hf hn8 hp8
      go_wp2_with fail
      refine (impl_upl HQ.out HUP.out _ HU1.out (by omega)).mono ?_
      rintro e w2 ⟨rfl, hb⟩
      have HB2 := Lib.hid (HB1.out.trans (hb.mono HB1.out.size))
      have HU2 := Lib.hid (HU1.out.below hb (Nat.le_refl _))
      clear hb
      go_wp2_with fail
      refine (spec_upl HQ.out HUP.out _ HU2.out (by omega)).mono ?_
      rintro e w3 ⟨rfl, hb⟩
      have HB3 := Lib.hid (HB2.out.trans (hb.mono HB2.out.size))
      have HU3 := Lib.hid (HU2.out.below hb (Nat.le_refl _))
      clear hb
      go_wp2_with fail
      refine (impl_uf HF.out _ HU3.out).mono ?_
      rintro e w4 ⟨rfl, hb⟩
      have HB4 := Lib.hid (HB3.out.trans (hb.mono HB3.out.size))
      have HU4 := Lib.hid (HU3.out.below hb (Nat.le_refl _))
      clear hb
      unfold usV
      obtain ⟨CX, hCX⟩ : ∃ C, w4.heap.size = C := ⟨_, rfl⟩
      obtain ⟨w5, hw5⟩ : ∃ wa, w4.alloc (.cells #[.string v, .string q, .int .i64 q1] 27) = wa := ⟨_, rfl⟩
      have hnX : Below w4.heap.size w4 w5 := by rw [← hw5]; exact (Below.refl _ _).alloc (Nat.le_refl _) _
      have HB5 := Lib.hid (HB4.out.trans (hnX.mono HB4.out.size))
      have HU5 := Lib.hid (HU4.out.below hnX (Nat.le_refl _))
      have HX5 := Lib.hid (show Whole w5 CX 27 #[.string v, .string q, .int .i64 q1] by rw [← hw5, ← hCX]; exact Whole.made _ _ _)
      have HWA5 := Lib.hid hw5
      have HCC5 := Lib.hid hCX
      clear hw5 hCX hnX
      have x0 : (w4.alloc (.cells #[.string v, .string q, .int .i64 q1] 27)).cell? ⟨w4.heap.size, 0, none⟩ = some (.string v) := by rw [HWA5.out, HCC5.out]; exact HX5.out.cell 0
      have x1 : (w4.alloc (.cells #[.string v, .string q, .int .i64 q1] 27)).cell? ⟨w4.heap.size, 1, none⟩ = some (.string q) := by rw [HWA5.out, HCC5.out]; exact HX5.out.cell 1
      go_wp2_with fail
      rw [HWA5.out, HCC5.out]
      refine (imk_at HMK.out _ (by omega) (by omega)).mono ?_
      rintro e w6 ⟨rfl, hb⟩
      have HB6 := Lib.hid (HB5.out.trans (hb.mono HB5.out.size))
      have HU6 := Lib.hid (HU5.out.below hb (Nat.le_refl _))
      have HX6 := Lib.hid (HX5.out.below hb HX5.out.lt)
      clear hb
      go_wp2
      go_ret
      exact ⟨rfl, HB6.out⟩
  · have hl' : (1048576 : Int) < (len : Int) := by omega
    go_enter Try.func10, Try.ntmps10
    go_wp2
    go_ret
    exact ⟨rfl, Below.refl _ _⟩
end Go.Proofs.Ytmangdkaklnpdaa
