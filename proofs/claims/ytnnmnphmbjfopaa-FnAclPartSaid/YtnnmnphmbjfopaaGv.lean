/-
  The contracts of the code's and the model's AclValid. Condition: the grants can be read, and are not too many.
-/
import Derived.Test.YtnnmnphmbjfopaaGc
import Derived.Test.YtnnmnphmbjfopaaLat
import Derived.Laws.Cover1
namespace Go.Proofs.Ytnnmnphmbjfopaa
open Go.RowKit
set_option linter.unusedVariables false

theorem isgrant_at {u : ByteArray} {r : Int} {z : Bool} (h : okG (u, r) = z) (hu : u.size ≤ 16777216) (w : World) : Calls Try.prog 55 #[.agg #[.string u, .int .i64 r]] w (SayB w z) := by
  subst h
  exact impl_isgrant u r w hu
theorem whole_drewN {w w' : World} {b n : Nat} {t : TypeId} {cs : Array Value} (h : Whole w b t cs) (hb : Below (w.drewN n).heap.size (w.drewN n) w') : Whole w' b t cs := Whole.below (w := w.drewN n) h hb h.lt
theorem cell_drewN {w w' : World} {b o n : Nat} {x : Value} (hb0 : b < w.heap.size) (h : w.cell? ⟨b, o, none⟩ = some x) (hb : Below (w.drewN n).heap.size (w.drewN n) w') : w'.cell? ⟨b, o, none⟩ = some x := (hb.cell (p := ⟨b, o, none⟩) hb0).trans h
theorem gbelow_drew {B : Nat} {a w : World} (h : Below B a w) : Below B a w.drew := ⟨h.os, h.tape, h.output, h.size, h.block⟩
theorem whole_drew {w w' : World} {b : Nat} {t : TypeId} {cs : Array Value} (h : Whole w b t cs) (hb : Below w.drew.heap.size w.drew w') : Whole w' b t cs := Whole.below (w := w.drew) h hb h.lt
theorem less_is {a b : ByteArray} {z : Bool} (h : ltG a b = z) : Op.bytesLess a.toList b.toList = z := (less_walk a b).trans h
set_option maxRecDepth 20000 in
set_option maxHeartbeats 8000000 in
theorem impl_aclvalid {A : Option Addr} {N cap : Nat} {L : List Gr} (w : World) (h : GIn w A N cap L) : Calls Try.prog 28 #[.slice A N cap] w (SayB w (vG L)) := by
  have H := Lib.hid h
  have hl := h.2.1
  clear h
  by_cases h4 : N ≤ 4
  · have h4' : ¬ (4 : Int) < (N : Int) := by omega
    go_enter Try.func28, Try.ntmps28
    go_wp2
    go_loopw [10] (fun i wr => ∃ k : Nat, k ≤ N ∧ i = .int .i64 (k : Int) ∧ Hid (goodG L k) ∧ Hid (Below w.heap.size w wr)) (fun i _ => N - (intOf i).toNat)
    case atStart => exact ⟨0, Nat.zero_le _, by go_num, goodG_zero L, Below.refl _ _⟩
    case round =>
      obtain ⟨k, hk, rfl, HG, HB⟩ := hrel
      by_cases hlt : k < N
      · have h0 : (0 : Int) ≤ (k : Int) := by omega
        have h5 : (k : Int) < (N : Int) := by omega
        obtain ⟨⟨u, r⟩, hx⟩ : ∃ x, L[k]? = some x := ⟨_, List.getElem?_eq_getElem (by rw [H.out.1]; exact hlt)⟩
        have hu : u.size ≤ 16777216 := H.out.2.2.2.2.2 (u, r) (List.mem_of_getElem? hx)
        have hR := H.out.2.2.1.below HB.out (Nat.le_refl _)
        obtain ⟨b, o, rfl, hb, c0, c1⟩ := grant_at hR hx
        have HX := Lib.hid hx
        obtain ⟨B, hB⟩ : ∃ B, wr.heap.size = B := ⟨_, rfl⟩
        have HA0 := Lib.hid (HB.out.alloc HB.out.size (.cells #[.string u, .int .i64 r] 40))
        have hbB : b < B := by omega
        clear hx
        obtain ⟨wo, hwo⟩ : ∃ wo, wr.alloc (.cells #[.string u, .int .i64 r] 40) = wo := ⟨_, rfl⟩
        have hsz : wo.heap.size = B + 1 := by rw [← hwo, ← hB]; simp
        have HWO := Lib.hid (show Whole wo B 40 #[.string u, .int .i64 r] by rw [← hwo, ← hB]; exact Whole.made wr 40 #[.string u, .int .i64 r])
        rw [hwo] at HA0
        have HRO : Hid (RAt grR wo (some ⟨b, o, none⟩) L) := Lib.hid (H.out.2.2.1.below HA0.out (Nat.le_refl _))
        have g0 := HWO.out.cell 0
        have g1 := HWO.out.cell 1
        simp at g0 g1
        have HHW := Lib.hid hwo
        have hbo : b < wo.heap.size := by omega
        have HSZ : Hid (B + 1 ≤ wo.heap.size) := Lib.hid (by omega)
        have HBB : Hid (w.heap.size ≤ B + 1) := Lib.hid (by have := HB.out.size; omega)
        have l0 : ∀ x : Later (B + 1) wo, x.v.cell? ⟨B, 0, none⟩ = some (.string u) := fun x => x.cell (by simp) g0
        have l1 : ∀ x : Later (B + 1) wo, x.v.cell? ⟨B, 1, none⟩ = some (.int .i64 r) := fun x => x.cell (by simp) g1
        clear hwo
        cases ho : okG (u, r) with
        | false =>
          have HO := Lib.hid ho
          have HE := Lib.hid (vG_bad HX.out ho)
          clear ho hR
          go_wp2
          rw [HHW.out]
          refine wp_region_later (B + 1) wo (by kernel_rfl) (by kernel_rfl) ?_
          repeat (go_big_quiet_step ((go_at_call 55; refine (isgrant_at HO.out hu _).mono ?_; rintro e w2 ⟨rfl, hb2⟩; exact ⟨rfl, Later.call _ hb2 HSZ.out⟩)))
          refine wpQuiet_nil ?_
          intro _ hw'
          obtain ⟨⟨w2, hb2⟩, rfl⟩ := hw'
          have H6 := Lib.hid (HA0.out.trans (hb2.mono HBB.out))
          clear hb2
          go_wp2
          go_ret
          exact says_b HE.out H6.out
        | true =>
          have HO := Lib.hid ho
          clear ho
          obtain rfl | ⟨j, rfl⟩ : k = 0 ∨ ∃ j, k = j + 1 := by
            cases k with
            | zero => exact .inl rfl
            | succ j => exact .inr ⟨j, rfl⟩
          ·
            simp only [Nat.zero_mul, Nat.add_zero] at c0 c1
            have HE := Lib.hid (goodG_first HX.out HO.out)
            clear hR
            go_wp2
            rw [HHW.out]
            refine wp_region_later (B + 1) wo (by kernel_rfl) (by kernel_rfl) ?_
            repeat (go_big_quiet_step ((go_at_call 55; refine (isgrant_at HO.out hu _).mono ?_; rintro e w2 ⟨rfl, hb2⟩; exact ⟨rfl, Later.call _ hb2 HSZ.out⟩)))
            refine wpQuiet_nil ?_
            intro _ hw'
            obtain ⟨⟨w2, hb2⟩, rfl⟩ := hw'
            have H6 := Lib.hid (HA0.out.trans (hb2.mono HBB.out))
            clear hb2
            go_wp2
            go_roundw
            case rel => exact ⟨1, by omega, by go_num, HE.out, H6.out⟩
            case measure => simp [intOf]; omega
          ·
            obtain ⟨⟨v, r'⟩, hy⟩ : ∃ x, L[j]? = some x := ⟨_, List.getElem?_eq_getElem (by rw [H.out.1]; omega)⟩
            have HY := Lib.hid hy
            obtain ⟨b', o', he, _, d0, _⟩ := grant_at HRO.out hy
            cases he
            have j0 : (0 : Int) < ((j + 1 : Nat) : Int) := by omega
            have j1 : (0 : Int) ≤ (j : Int) := by omega
            have j2 : (j : Int) < (N : Int) := by omega
            have W1 : IntKind.i64.wrap (((j + 1 : Nat) : Int) - 1) = (j : Int) := by rw [IntWalk.i64_in _ (by omega)]; omega
            clear hy hR
            cases hlg : ltG v u with
            | false =>
              have HL := less_is hlg
              have HE := Lib.hid (vG_order HY.out HX.out hlg)
              clear hlg
              go_wp2
              rw [HHW.out]
              have l2 : ∀ x : Later (B + 1) wo, x.v.cell? ⟨b, o + j * 2, none⟩ = some (.string v) := fun x => x.cell (by simp; omega) d0
              refine wp_region_later (B + 1) wo (by kernel_rfl) (by kernel_rfl) ?_
              repeat (go_big_quiet_step ((go_at_call 55; refine (isgrant_at HO.out hu _).mono ?_; rintro e w2 ⟨rfl, hb2⟩; exact ⟨rfl, Later.call _ hb2 HSZ.out⟩)))
              refine wpQuiet_nil ?_
              intro _ hw'
              obtain ⟨⟨w2, hb2⟩, rfl⟩ := hw'
              have H6 := Lib.hid (HA0.out.trans (hb2.mono HBB.out))
              clear hb2
              go_wp2
              go_ret
              exact says_b HE.out H6.out
            | true =>
              have HL := less_is hlg
              have HE := Lib.hid (goodG_next HG.out HY.out HX.out HO.out hlg)
              clear hlg
              go_wp2
              rw [HHW.out]
              have l2 : ∀ x : Later (B + 1) wo, x.v.cell? ⟨b, o + j * 2, none⟩ = some (.string v) := fun x => x.cell (by simp; omega) d0
              refine wp_region_later (B + 1) wo (by kernel_rfl) (by kernel_rfl) ?_
              repeat (go_big_quiet_step ((go_at_call 55; refine (isgrant_at HO.out hu _).mono ?_; rintro e w2 ⟨rfl, hb2⟩; exact ⟨rfl, Later.call _ hb2 HSZ.out⟩)))
              refine wpQuiet_nil ?_
              intro _ hw'
              obtain ⟨⟨w2, hb2⟩, rfl⟩ := hw'
              have H6 := Lib.hid (HA0.out.trans (hb2.mono HBB.out))
              clear hb2
              go_wp2
              go_roundw
              case rel => exact ⟨j + 1 + 1, by omega, by go_num, HE.out, H6.out⟩
              case measure => simp [intOf]; omega
      · have h5 : ¬ (k : Int) < (N : Int) := by omega
        have HE : Hid (vG L = true) := Lib.hid ((goodG_all HG.out (by rw [H.out.1]; omega)).trans (decide_eq_true (by rw [H.out.1]; exact h4)))
        go_wp2
        go_ret
        exact says_b HE.out HB.out
  · have h4' : (4 : Int) < (N : Int) := by omega
    have HE : Hid (vG L = false) := Lib.hid (vG_long (by rw [H.out.1]; exact h4))
    go_enter Try.func28, Try.ntmps28
    go_wp2
    go_ret
    exact says_b HE.out (Below.refl _ _)
theorem sname_at {u : ByteArray} {z : Bool} (h : nameB (kb u) = z) (hu : u.size ≤ 16777216) (w : World) : Calls Try.prog 35 #[.string u] w fun e w' => e = .returned (.bool z) ∧ w' = w := by
  subst h
  exact (spec_name u w hu).mono fun e w' h => ⟨h.1, h.2.symm⟩
theorem sin_at {r a b : Int} {z : Bool} (h : (decide (a ≤ r) && decide (r ≤ b)) = z) (w : World) : Calls Try.prog 56 #[.int .i64 r, .int .i64 a, .int .i64 b] w fun e w' => e = .returned (.bool z) ∧ w' = w := by
  subst h
  exact spec_inr r a b w
theorem okG_two {u : ByteArray} {r : Int} {x y : Bool} (h1 : nameB (kb u) = x) (h2 : (decide (1 ≤ r) && decide (r ≤ 63)) = y) : okG (u, r) = (x && y) := by
  unfold okG
  rw [h1, h2]
set_option maxRecDepth 20000 in
set_option maxHeartbeats 8000000 in
theorem spec_aclvalid {A : Option Addr} {N cap : Nat} {L : List Gr} (w : World) (h : GIn w A N cap L) : Calls Try.prog 29 #[.slice A N cap] w (SayB w (vG L)) := by
  have H := Lib.hid h
  have hl := h.2.1
  clear h
  go_enter Try.func29, Try.ntmps29
  go_wp2
  go_loopw [3] (fun i wr => ∃ k : Nat, k ≤ N ∧ i = .int .i64 (k : Int) ∧ Hid (goodG L k) ∧ Hid (Below w.heap.size w wr)) (fun i _ => N - (intOf i).toNat)
  case atStart => exact ⟨0, Nat.zero_le _, by go_num, goodG_zero L, Below.refl _ _⟩
  case round =>
    obtain ⟨k, hk, rfl, HG, HB⟩ := hrel
    by_cases hlt : k < N
    · have h0 : (0 : Int) ≤ (k : Int) := by omega
      have h5 : (k : Int) < (N : Int) := by omega
      obtain ⟨⟨u, r⟩, hx⟩ : ∃ x, L[k]? = some x := ⟨_, List.getElem?_eq_getElem (by rw [H.out.1]; exact hlt)⟩
      have hu : u.size ≤ 16777216 := H.out.2.2.2.2.2 (u, r) (List.mem_of_getElem? hx)
      have HRO : Hid (RAt grR wr A L) := Lib.hid (H.out.2.2.1.below HB.out (Nat.le_refl _))
      obtain ⟨b, o, rfl, hb, c0, c1⟩ := grant_at HRO.out hx
      have HX := Lib.hid hx
      clear hx
      have l0 : ∀ x : Later wr.heap.size wr, x.v.cell? ⟨b, o + k * 2, none⟩ = some (.string u) := fun x => x.cell hb c0
      have l1 : ∀ x : Later wr.heap.size wr, x.v.cell? ⟨b, o + k * 2 + 1, none⟩ = some (.int .i64 r) := fun x => x.cell hb c1
      cases hn : nameB (kb u) with
      | false =>
        have HN := Lib.hid hn
        have HE := Lib.hid (vG_bad HX.out (by unfold okG; rw [hn]; rfl))
        clear hn
        go_wp2
        refine wp_region_later wr.heap.size wr (by kernel_rfl) (by kernel_rfl) ?_
        repeat (go_big_quiet_step ((go_at_call 35; refine (sname_at HN.out hu _).mono ?_; rintro e w2 ⟨rfl, rfl⟩; exact ⟨rfl, _, rfl⟩)))
        refine wpQuiet_nil ?_
        intro _ hw'
        obtain ⟨⟨w2, hb2⟩, rfl⟩ := hw'
        have H6 := Lib.hid (HB.out.trans (hb2.mono HB.out.size))
        clear hb2
        go_wp2
        go_ret
        exact says_b HE.out H6.out
      | true =>
        have HN := Lib.hid hn
        cases hr : (decide (1 ≤ r) && decide (r ≤ 63)) with
        | false =>
          have HI := Lib.hid hr
          have HE := Lib.hid (vG_bad HX.out ((okG_two hn hr).trans rfl))
          clear hn hr
          go_wp2
          refine wp_region_later wr.heap.size wr (by kernel_rfl) (by kernel_rfl) ?_
          repeat (go_big_quiet_step (first | (go_at_call 35; refine (sname_at HN.out hu _).mono ?_; rintro e w2 ⟨rfl, rfl⟩; exact ⟨rfl, _, rfl⟩) | (go_at_call 56; refine (sin_at HI.out _).mono ?_; rintro e w2 ⟨rfl, rfl⟩; exact ⟨rfl, _, rfl⟩)))
          refine wpQuiet_nil ?_
          intro _ hw'
          obtain ⟨⟨w2, hb2⟩, rfl⟩ := hw'
          have H6 := Lib.hid (HB.out.trans (hb2.mono HB.out.size))
          clear hb2
          go_wp2
          go_ret
          exact says_b HE.out H6.out
        | true =>
          have HI := Lib.hid hr
          have HO : Hid (okG (u, r) = true) := Lib.hid ((okG_two hn hr).trans rfl)
          clear hn hr
          obtain rfl | ⟨j, rfl⟩ : k = 0 ∨ ∃ j, k = j + 1 := by
            cases k with
            | zero => exact .inl rfl
            | succ j => exact .inr ⟨j, rfl⟩
          · simp only [Nat.zero_mul, Nat.add_zero] at c0 c1 l0 l1
            have HE := Lib.hid (goodG_first HX.out HO.out)
            go_wp2
            refine wp_region_later wr.heap.size wr (by kernel_rfl) (by kernel_rfl) ?_
            repeat (go_big_quiet_step (first | (go_at_call 35; refine (sname_at HN.out hu _).mono ?_; rintro e w2 ⟨rfl, rfl⟩; exact ⟨rfl, _, rfl⟩) | (go_at_call 56; refine (sin_at HI.out _).mono ?_; rintro e w2 ⟨rfl, rfl⟩; exact ⟨rfl, _, rfl⟩)))
            refine wpQuiet_nil ?_
            intro _ hw'
            obtain ⟨⟨w2, hb2⟩, rfl⟩ := hw'
            have H6 := Lib.hid (HB.out.trans (hb2.mono HB.out.size))
            clear hb2
            go_wp2
            go_roundw
            case rel => exact ⟨1, by omega, by go_num, HE.out, H6.out⟩
            case measure => simp [intOf]; omega
          · obtain ⟨⟨v, r'⟩, hy⟩ : ∃ x, L[j]? = some x := ⟨_, List.getElem?_eq_getElem (by rw [H.out.1]; omega)⟩
            have HY := Lib.hid hy
            obtain ⟨b', o', he, _, d0, _⟩ := grant_at HRO.out hy
            cases he
            have l2 : ∀ x : Later wr.heap.size wr, x.v.cell? ⟨b, o + j * 2, none⟩ = some (.string v) := fun x => x.cell hb d0
            have j0 : (0 : Int) < ((j + 1 : Nat) : Int) := by omega
            have j1 : (0 : Int) ≤ (j : Int) := by omega
            have j2 : (j : Int) < (N : Int) := by omega
            have W1 : IntKind.i64.wrap (((j + 1 : Nat) : Int) - 1) = (j : Int) := by rw [IntWalk.i64_in _ (by omega)]; omega
            clear hy
            cases hlg : ltG v u with
            | false =>
              have HL := less_is hlg
              have HE := Lib.hid (vG_order HY.out HX.out hlg)
              clear hlg
              go_wp2
              refine wp_region_later wr.heap.size wr (by kernel_rfl) (by kernel_rfl) ?_
              repeat (go_big_quiet_step (first | (go_at_call 35; refine (sname_at HN.out hu _).mono ?_; rintro e w2 ⟨rfl, rfl⟩; exact ⟨rfl, _, rfl⟩) | (go_at_call 56; refine (sin_at HI.out _).mono ?_; rintro e w2 ⟨rfl, rfl⟩; exact ⟨rfl, _, rfl⟩)))
              refine wpQuiet_nil ?_
              intro _ hw'
              obtain ⟨⟨w2, hb2⟩, rfl⟩ := hw'
              have H6 := Lib.hid (HB.out.trans (hb2.mono HB.out.size))
              clear hb2
              go_wp2
              go_ret
              exact says_b HE.out H6.out
            | true =>
              have HL := less_is hlg
              have HE := Lib.hid (goodG_next HG.out HY.out HX.out HO.out hlg)
              clear hlg
              go_wp2
              refine wp_region_later wr.heap.size wr (by kernel_rfl) (by kernel_rfl) ?_
              repeat (go_big_quiet_step (first | (go_at_call 35; refine (sname_at HN.out hu _).mono ?_; rintro e w2 ⟨rfl, rfl⟩; exact ⟨rfl, _, rfl⟩) | (go_at_call 56; refine (sin_at HI.out _).mono ?_; rintro e w2 ⟨rfl, rfl⟩; exact ⟨rfl, _, rfl⟩)))
              refine wpQuiet_nil ?_
              intro _ hw'
              obtain ⟨⟨w2, hb2⟩, rfl⟩ := hw'
              have H6 := Lib.hid (HB.out.trans (hb2.mono HB.out.size))
              clear hb2
              go_wp2
              go_roundw
              case rel => exact ⟨j + 1 + 1, by omega, by go_num, HE.out, H6.out⟩
              case measure => simp [intOf]; omega
    · have h5 : ¬ (k : Int) < (N : Int) := by omega
      have hv := goodG_all HG.out (by rw [H.out.1]; omega)
      rw [H.out.1] at hv
      by_cases h4 : N ≤ 4
      · have h4' : (N : Int) ≤ 4 := by omega
        have HE : Hid (vG L = true) := Lib.hid (hv.trans (decide_eq_true h4))
        clear hv
        go_wp2
        go_ret
        exact says_b HE.out HB.out
      · have h4' : ¬ (N : Int) ≤ 4 := by omega
        have HE : Hid (vG L = false) := Lib.hid (hv.trans (decide_eq_false h4))
        clear hv
        go_wp2
        go_ret
        exact says_b HE.out HB.out
end Go.Proofs.Ytnnmnphmbjfopaa
