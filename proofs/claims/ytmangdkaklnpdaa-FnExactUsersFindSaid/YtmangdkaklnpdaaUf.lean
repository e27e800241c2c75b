/-
  The contracts of findBy, UsersFind, UsersProve and UsersPlain of the code. Condition: the users can be read, and are not too many; texts are not too long.
-/
import Derived.Test.YtmangdkaklnpdaaUi
namespace Go.Proofs.Ytmangdkaklnpdaa
open Go.RowKit
set_option linter.unusedVariables false

/-- A user and whether there is one. -/
def GivesU (w : World) (u : Us) (z : Bool) (e : Ending) (w' : World) : Prop := e = .returned (.tuple #[usV u, .bool z]) ∧ Below w.heap.size w w'
theorem gives_u {w w' : World} {u v : Us} {z y : Bool} (h : (u, z) = (v, y)) (hb : Below w.heap.size w w') : GivesU w u z (.returned (.tuple #[usV v, .bool y])) w' := by
  cases h
  exact ⟨rfl, hb⟩
theorem put_user {w : World} {B : Nat} (h : Whole w B 27 #[.string ⟨#[]⟩, .string ⟨#[]⟩, .int .i64 0]) (n p : ByteArray) (q : Int) :
    Whole (((w.setCell ⟨B, 0, none⟩ (.string n)).setCell ⟨B, 1, none⟩ (.string p)).setCell ⟨B, 2, none⟩ (.int .i64 q)) B 27 #[.string n, .string p, .int .i64 q] := ((h.store 0 _).store 1 _).store 2 _
set_option maxRecDepth 20000 in
set_option maxHeartbeats 4000000 in
theorem impl_findby {A : Option Addr} {N cap : Nat} {L : List Us} {n : ByteArray} {u : Us} {z : Bool} (hf : fuF L n = (u, z)) (w : World) (h : UIn w A N cap L) :
    Calls Try.prog 35 #[.slice A N cap, .func (.func 36) #[] #[], .string n] w (GivesU w u z) := by
  have H := Lib.hid h
  have HF := Lib.hid hf
  have hl := h.2.1
  obtain ⟨B, hB⟩ : ∃ B, w.heap.size = B := ⟨_, rfl⟩
  obtain ⟨wa, hwa⟩ : ∃ wa, w.alloc (.cells #[.string ⟨#[]⟩, .string ⟨#[]⟩, .int .i64 0] 27) = wa := ⟨_, rfl⟩
  have hWa : Whole wa B 27 #[.string ⟨#[]⟩, .string ⟨#[]⟩, .int .i64 0] := by rw [← hwa, ← hB]; exact Whole.made _ _ _
  have hBa : Below B w wa := by rw [← hwa, ← hB]; exact (Below.refl _ _).alloc (Nat.le_refl _) _
  have HW0 := Lib.hid hWa
  have HB0 := Lib.hid hBa
  have HWA := Lib.hid hwa
  have HBB := Lib.hid hB
  clear h hf hwa hB hWa hBa
  go_enter Try.func35, Try.ntmps35
  go_wp2
  rw [HWA.out, HBB.out]
  go_loopw [13] (fun i wr => ∃ k : Nat, k ≤ N ∧ i = .int .i64 (k : Int) ∧ Hid (fuF L n = fuF (L.drop k) n) ∧ Hid (Whole wr B 27 #[.string ⟨#[]⟩, .string ⟨#[]⟩, .int .i64 0]) ∧ Hid (Below B w wr)) (fun i _ => N - (intOf i).toNat)
  case atStart => exact ⟨0, Nat.zero_le _, by go_num, rfl, HW0, HB0⟩
  case round =>
    obtain ⟨k, hk, rfl, HT, HW, HB⟩ := hrel
    by_cases hlt : k < N
    · have h0 : (0 : Int) ≤ (k : Int) := by omega
      have h5 : (k : Int) < (N : Int) := by omega
      obtain ⟨⟨m, p, q⟩, hx⟩ : ∃ x, L[k]? = some x := ⟨_, List.getElem?_eq_getElem (by rw [H.out.1]; exact hlt)⟩
      obtain ⟨b, o, rfl, hb, c0, c1, c2⟩ := user_at (H.out.2.2.1.below HB.out (Nat.le_of_eq HBB.out)) hx
      have HX := Lib.hid hx
      obtain ⟨C, hC⟩ : ∃ C, wr.heap.size = C := ⟨_, rfl⟩
      obtain ⟨wo, hwo⟩ : ∃ wo, wr.alloc (.cells #[.string m, .string p, .int .i64 q] 27) = wo := ⟨_, rfl⟩
      have HWO := Lib.hid (show Whole wo C 27 #[.string m, .string p, .int .i64 q] by rw [← hwo, ← hC]; exact Whole.made _ _ _)
      have hBC : B < C := by rw [← hC]; exact HW.out.lt
      have HWz := Lib.hid (show Whole wo B 27 #[.string ⟨#[]⟩, .string ⟨#[]⟩, .int .i64 0] by rw [← hwo]; exact HW.out.alloc _)
      have HBo := Lib.hid (show Below B w wo by rw [← hwo]; exact HB.out.alloc (by omega) _)
      have g0 := HWO.out.cell 0
      have g1 := HWO.out.cell 1
      have g2 := HWO.out.cell 2
      simp at g0 g1 g2
      have HWOO := Lib.hid hwo
      have HCC := Lib.hid hC
      clear hx hwo hC
      by_cases hm : m = n
      · subst hm
        have HE := Lib.hid (HF.out.symm.trans (HT.out.trans (fuF_here HX.out)))
        go_wp2_with fail
        rw [HWOO.out, HCC.out]
        go_wp2_with fail
        refine (impl_uname (m, p, q) _).mono ?_
        rintro e w2 ⟨rfl, hb2⟩
        have HW2 := Lib.hid (HWO.out.below hb2 HWO.out.lt)
        have HZ2 := Lib.hid (HWz.out.below hb2 HWz.out.lt)
        have HB2 := Lib.hid (HBo.out.trans (hb2.mono (Nat.le_of_lt HWz.out.lt)))
        have e0 := HW2.out.cell 0
        have e1 := HW2.out.cell 1
        have e2 := HW2.out.cell 2
        have z0 := HZ2.out.cell 0
        have z1 := HZ2.out.cell 1
        have z2 := HZ2.out.cell 2
        have f0 := HZ2.out.free 0
        have f1 := HZ2.out.free 1
        have f2 := HZ2.out.free 2
        simp at e0 e1 e2 z0 z1 z2
        clear hb2
        have HS := Lib.hid (put_user HZ2.out m p q)
        have r0 := HS.out.cell 0
        have r1 := HS.out.cell 1
        have r2 := HS.out.cell 2
        simp at r0 r1 r2
        go_wp2
        refine bodyPost_ret (v := .tuple #[usV (m, p, q), .bool true]) (by simp [results, Try.results35, go_sem, usV, r0, r1, r2]) rfl ?_
        exact gives_u HE.out (((HBB.out.symm ▸ HB2.out).setCell (Nat.le_of_eq HBB.out) _).setCell (Nat.le_of_eq HBB.out) _ |>.setCell (Nat.le_of_eq HBB.out) _)
      · have hw1 := ne_walk hm
        have HE := Lib.hid (HT.out.trans (fuF_skip HX.out hm))
        obtain ⟨hw2, hw3⟩ := hw1
        clear hm
        go_wp2_with fail
        rw [HWOO.out, HCC.out]
        go_wp2_with fail
        refine (impl_uname (m, p, q) _).mono ?_
        rintro e w2 ⟨rfl, hb2⟩
        have HZ2 := Lib.hid (HWz.out.below hb2 HWz.out.lt)
        have HB2 := Lib.hid (HBo.out.trans (hb2.mono (Nat.le_of_lt HWz.out.lt)))
        clear hb2
        go_wp2
        go_roundw
        case rel => exact ⟨k + 1, by omega, by go_num, HE, HZ2, HB2⟩
        case measure => simp [intOf]; omega
    · have h5 : ¬ (k : Int) < (N : Int) := by omega
      have HE : Hid ((noU, false) = (u, z)) := Lib.hid (by rw [← HF.out, HT.out, List.drop_eq_nil_of_le (by rw [H.out.1]; omega)]; rfl)
      have HWO := Lib.hid (Whole.made wr 27 #[.string ⟨#[]⟩, .string ⟨#[]⟩, .int .i64 0])
      have HWz := Lib.hid (show Whole (wr.alloc (.cells #[.string ⟨#[]⟩, .string ⟨#[]⟩, .int .i64 0] 27)) B 27 #[.string ⟨#[]⟩, .string ⟨#[]⟩, .int .i64 0] from HW.out.alloc _)
      have HBo := Lib.hid (show Below B w (wr.alloc (.cells #[.string ⟨#[]⟩, .string ⟨#[]⟩, .int .i64 0] 27)) from HB.out.alloc (Nat.le_of_lt HW.out.lt) _)
      have g0 := HWO.out.cell 0
      have g1 := HWO.out.cell 1
      have g2 := HWO.out.cell 2
      simp only [List.getElem?_toArray, List.getElem?_cons_zero, List.getElem?_cons_succ] at g0 g1 g2
      have z0 := HWz.out.cell 0
      have z1 := HWz.out.cell 1
      have z2 := HWz.out.cell 2
      have f0 := HWz.out.free 0
      have f1 := HWz.out.free 1
      have f2 := HWz.out.free 2
      simp only [List.getElem?_toArray, List.getElem?_cons_zero, List.getElem?_cons_succ] at z0 z1 z2
      have HS := Lib.hid (put_user HWz.out ⟨#[]⟩ ⟨#[]⟩ 0)
      have r0 := HS.out.cell 0
      have r1 := HS.out.cell 1
      have r2 := HS.out.cell 2
      simp only [List.getElem?_toArray, List.getElem?_cons_zero, List.getElem?_cons_succ] at r0 r1 r2
      clear hlt
      go_wp2
      refine bodyPost_ret (v := .tuple #[usV noU, .bool false]) (by simp [results, Try.results35, go_sem, usV, noU, r0, r1, r2]) rfl ?_
      exact gives_u HE.out.symm (((HBB.out.symm ▸ HBo.out).setCell (Nat.le_of_eq HBB.out) _).setCell (Nat.le_of_eq HBB.out) _ |>.setCell (Nat.le_of_eq HBB.out) _)
end Go.Proofs.Ytmangdkaklnpdaa
