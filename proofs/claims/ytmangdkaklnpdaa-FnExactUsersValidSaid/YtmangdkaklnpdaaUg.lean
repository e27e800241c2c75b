/-
  The contracts of the code's UsersFind, UsersProve and UsersPlain. Condition: the users can be read, and are not too many; texts are not too long.
-/
import Derived.Test.YtmangdkaklnpdaaUf
namespace Go.Proofs.Ytmangdkaklnpdaa
open Go.RowKit
set_option linter.unusedVariables false

theorem impl_uv {A : Option Addr} {N cap : Nat} {L : List Us} {z : Bool} (h : vU L = z) (w : World) (hi : UIn w A N cap L) : Calls Try.prog 19 #[.slice A N cap] w (SayB w z) := by
  subst h
  exact impl_usersvalid w hi
set_option maxRecDepth 20000 in
set_option maxHeartbeats 4000000 in
theorem impl_uf {A : Option Addr} {N cap : Nat} {L : List Us} {n : ByteArray} {u : Us} {z : Bool} (hf : usF L n = (u, z)) (w : World) (h : UIn w A N cap L) : Calls Try.prog 16 #[.slice A N cap, .string n] w (GivesU w u z) := by
  have H := Lib.hid h
  have hl := h.2.1
  clear h
  obtain ⟨B, hB⟩ : ∃ B, w.heap.size = B := ⟨_, rfl⟩
  obtain ⟨wa, hwa⟩ : ∃ wa, w.alloc (.cells #[.string ⟨#[]⟩, .string ⟨#[]⟩, .int .i64 0] 27) = wa := ⟨_, rfl⟩
  have HW0 := Lib.hid (show Whole wa B 27 #[.string ⟨#[]⟩, .string ⟨#[]⟩, .int .i64 0] by rw [← hwa, ← hB]; exact Whole.made _ _ _)
  have HB0 := Lib.hid (show Below B w wa by rw [← hwa, ← hB]; exact (Below.refl _ _).alloc (Nat.le_refl _) _)
  have HI0 := Lib.hid (H.out.below HB0.out (Nat.le_of_eq hB))
  have HWA := Lib.hid hwa
  have HBB := Lib.hid hB
  clear hwa hB
  cases hv : vU L with
  | false =>
    have HE : Hid ((noU, false) = (u, z)) := Lib.hid ((usF_no n hv).symm.trans hf)
    have HV := Lib.hid hv
    clear hv hf
    go_enter Try.func16, Try.ntmps16
    go_wp2_with fail
    rw [HWA.out, HBB.out]
    refine (impl_uv HV.out _ HI0.out).mono ?_
    rintro e w1 ⟨rfl, hb⟩
    have HW1 := Lib.hid (HW0.out.below hb HW0.out.lt)
    have HB1 := Lib.hid (HB0.out.trans (hb.mono (Nat.le_of_lt HW0.out.lt)))
    have HI1 := Lib.hid (HI0.out.below hb (Nat.le_refl _))
    clear hb
    have z0 := HW1.out.cell 0
    have z1 := HW1.out.cell 1
    have z2 := HW1.out.cell 2
    have f0 := HW1.out.free 0
    have f1 := HW1.out.free 1
    have f2 := HW1.out.free 2
    simp at z0 z1 z2
    have HS := Lib.hid (put_user HW1.out ⟨#[]⟩ ⟨#[]⟩ 0)
    have r0 := HS.out.cell 0
    have r1 := HS.out.cell 1
    have r2 := HS.out.cell 2
    simp at r0 r1 r2
    go_wp2
    refine bodyPost_ret (v := .tuple #[usV noU, .bool false]) (by simp [results, Try.results16, go_sem, usV, noU, r0, r1, r2]) rfl ?_
    exact gives_u HE.out.symm (((HBB.out.symm ▸ HB1.out).setCell (Nat.le_of_eq HBB.out) _).setCell (Nat.le_of_eq HBB.out) _ |>.setCell (Nat.le_of_eq HBB.out) _)
  | true =>
    have HF : Hid (fuF L n = (u, z)) := Lib.hid (by rw [← hf, usF_fu, hv]; rfl)
    have HV := Lib.hid hv
    clear hv hf
    obtain ⟨n1, p1, q1⟩ := u
    go_enter Try.func16, Try.ntmps16
    go_wp2_with fail
    rw [HWA.out, HBB.out]
    refine (impl_uv HV.out _ HI0.out).mono ?_
    rintro e w1 ⟨rfl, hb⟩
    have HW1 := Lib.hid (HW0.out.below hb HW0.out.lt)
    have HB1 := Lib.hid (HB0.out.trans (hb.mono (Nat.le_of_lt HW0.out.lt)))
    have HI1 := Lib.hid (HI0.out.below hb (Nat.le_refl _))
    clear hb
    go_wp2_with fail
    refine (impl_findby HF.out _ HI1.out).mono ?_
    rintro e w2 ⟨rfl, hb⟩
    have HW2 := Lib.hid (HW1.out.below hb HW1.out.lt)
    have HB2 := Lib.hid (HB1.out.trans (hb.mono (Nat.le_of_lt HW1.out.lt)))
    have HI2 := Lib.hid (HI1.out.below hb (Nat.le_refl _))
    clear hb
    unfold usV
    have z0 := HW2.out.cell 0
    have z1 := HW2.out.cell 1
    have z2 := HW2.out.cell 2
    have f0 := HW2.out.free 0
    have f1 := HW2.out.free 1
    have f2 := HW2.out.free 2
    simp at z0 z1 z2
    have HS := Lib.hid (put_user HW2.out n1 p1 q1)
    have r0 := HS.out.cell 0
    have r1 := HS.out.cell 1
    have r2 := HS.out.cell 2
    simp at r0 r1 r2
    go_wp2
    refine bodyPost_ret (v := .tuple #[usV (n1, p1, q1), .bool z]) (by simp [results, Try.results16, go_sem, usV, r0, r1, r2]) rfl ?_
    exact gives_u rfl (((HBB.out.symm ▸ HB2.out).setCell (Nat.le_of_eq HBB.out) _).setCell (Nat.le_of_eq HBB.out) _ |>.setCell (Nat.le_of_eq HBB.out) _)
set_option maxRecDepth 20000 in
set_option maxHeartbeats 4000000 in
theorem impl_up {A : Option Addr} {N cap : Nat} {L : List Us} {n p : ByteArray} {z : Bool} (hz : prU L n p = z) (w : World) (h : UIn w A N cap L) : Calls Try.prog 22 #[.slice A N cap, .string n, .string p] w (SayB w z) := by
  have H := Lib.hid h
  clear h
  obtain ⟨⟨⟨n1, p1, q1⟩, y⟩, hf⟩ : ∃ x, usF L n = x := ⟨_, rfl⟩
  have HF := Lib.hid hf
  have hz2 := (prU_is (p := p) hf).symm.trans hz
  clear hf hz
  have hw : ∀ w1 : World, Below w.heap.size w w1 → Below w.heap.size w (w1.alloc (.cells #[.string n1, .string p1, .int .i64 q1] 27)) := fun w1 h1 => h1.alloc h1.size _
  have HWW := Lib.hid hw
  clear hw
  cases y with
  | false =>
    have HZ : Hid (false = z) := Lib.hid hz2
    clear hz2
    go_enter Try.func22, Try.ntmps22
    go_wp2_with fail
    refine (impl_uf HF.out _ H.out).mono ?_
    rintro e w1 ⟨rfl, hb⟩
    have HB1 := Lib.hid hb
    clear hb
    unfold usV
    go_wp2
    go_ret
    exact says_b HZ.out.symm (HWW.out _ HB1.out)
  | true =>
    by_cases he : p1 = p
    · subst he
      have HZ : Hid (true = z) := Lib.hid (by rw [← hz2]; simp)
      clear hz2
      go_enter Try.func22, Try.ntmps22
      go_wp2_with fail
      refine (impl_uf HF.out _ H.out).mono ?_
      rintro e w1 ⟨rfl, hb⟩
      have HB1 := Lib.hid hb
      have c1 := (Whole.made w1 27 #[.string n1, .string p1, .int .i64 q1]).cell 1
      simp at c1
      clear hb
      unfold usV
      go_wp2
      go_ret
      exact says_b HZ.out.symm (HWW.out _ HB1.out)
    · have HZ : Hid (false = z) := Lib.hid (by rw [← hz2, ne_kb he]; rfl)
      obtain ⟨v1, v2⟩ := ne_walk he
      clear hz2 he
      go_enter Try.func22, Try.ntmps22
      go_wp2_with fail
      refine (impl_uf HF.out _ H.out).mono ?_
      rintro e w1 ⟨rfl, hb⟩
      have HB1 := Lib.hid hb
      have c1 := (Whole.made w1 27 #[.string n1, .string p1, .int .i64 q1]).cell 1
      simp at c1
      clear hb
      unfold usV
      go_wp2
      go_ret
      exact says_b HZ.out.symm (HWW.out _ HB1.out)
/-- A text and whether. -/
def GivesX (w : World) (t : ByteArray) (z : Bool) (e : Ending) (w' : World) : Prop := e = .returned (.tuple #[.string t, .bool z]) ∧ Below w.heap.size w w'
theorem gives_x {w w' : World} {u v : ByteArray} {z y : Bool} (h : (u, z) = (v, y)) (hb : Below w.heap.size w w') : GivesX w u z (.returned (.tuple #[.string v, .bool y])) w' := by
  cases h
  exact ⟨rfl, hb⟩
set_option maxRecDepth 20000 in
set_option maxHeartbeats 4000000 in
theorem impl_upl {A : Option Addr} {N cap : Nat} {L : List Us} {t n p x : ByteArray} {o z : Bool} (hp : IsPP t o n p) (hz : upU L n p o = (x, z)) (w : World) (h : UIn w A N cap L) (ht : t.size ≤ 16777216) : Calls Try.prog 24 #[.slice A N cap, .string t] w (GivesX w x z) := by
  have H := Lib.hid h
  have HP := Lib.hid hp
  clear h hp
  cases o with
  | false =>
    have HZ : Hid (((⟨#[]⟩ : ByteArray), false) = (x, z)) := Lib.hid hz
    clear hz
    go_enter Try.func24, Try.ntmps24
    go_wp2_with fail
    refine (iplain HP.out _ ht).mono ?_
    rintro e w1 ⟨rfl, hb⟩
    have HB1 := Lib.hid hb
    clear hb
    go_wp2
    go_ret2
    exact gives_x HZ.out.symm HB1.out
  | true =>
    obtain ⟨y, hy⟩ : ∃ y, prU L n p = y := ⟨_, rfl⟩
    have HY := Lib.hid hy
    cases y with
    | false =>
      have HZ : Hid (((⟨#[]⟩ : ByteArray), false) = (x, z)) := Lib.hid (by rw [← hz]; unfold upU; rw [hy]; rfl)
      clear hz hy
      go_enter Try.func24, Try.ntmps24
      go_wp2_with fail
      refine (iplain HP.out _ ht).mono ?_
      rintro e w1 ⟨rfl, hb⟩
      have HB1 := Lib.hid hb
      have HI1 := Lib.hid (H.out.below hb (Nat.le_refl _))
      clear hb
      go_wp2_with fail
      refine (impl_up HY.out _ HI1.out).mono ?_
      rintro e w2 ⟨rfl, hb⟩
      have HB2 := Lib.hid (HB1.out.trans (hb.mono HB1.out.size))
      clear hb
      go_wp2
      go_ret2
      exact gives_x HZ.out.symm HB2.out
    | true =>
      have HZ : Hid ((n, true) = (x, z)) := Lib.hid (by rw [← hz]; unfold upU; rw [hy]; rfl)
      clear hz hy
      go_enter Try.func24, Try.ntmps24
      go_wp2_with fail
      refine (iplain HP.out _ ht).mono ?_
      rintro e w1 ⟨rfl, hb⟩
      have HB1 := Lib.hid hb
      have HI1 := Lib.hid (H.out.below hb (Nat.le_refl _))
      clear hb
      go_wp2_with fail
      refine (impl_up HY.out _ HI1.out).mono ?_
      rintro e w2 ⟨rfl, hb⟩
      have HB2 := Lib.hid (HB1.out.trans (hb.mono HB1.out.size))
      clear hb
      go_wp2
      go_ret2
      exact gives_x HZ.out.symm HB2.out
end Go.Proofs.Ytmangdkaklnpdaa
