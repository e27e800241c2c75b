/-
  The contracts of the code's isUser and UsersValid. Condition: the users can be read, and are not too many.
-/
import Derived.Test.YtkhfflbgnojcfaaUc
namespace Go.Proofs.Ytkhfflbgnojcfaa
open Go.RowKit
set_option linter.unusedVariables false

set_option maxRecDepth 20000 in
set_option maxHeartbeats 2000000 in
theorem impl_isuser (n p : ByteArray) (q : Int) (w : World) (hn : n.size ≤ 16777216) (hp : p.size ≤ 16777216) : Calls Try.prog 39 #[.agg #[.string n, .string p, .int .i64 q]] w (SayB w (okU (n, p, q))) := by
  have hW := Whole.made w 42 #[.string n, .string p, .int .i64 q]
  have c0 : (w.alloc (.cells #[.string n, .string p, .int .i64 q] 42)).cell? ⟨w.heap.size, 0, none⟩ = some (.string n) := hW.cell 0
  have HB := Lib.hid ((Below.refl w.heap.size w).alloc (Nat.le_refl _) (.cells #[.string n, .string p, .int .i64 q] 42))
  have HW := Lib.hid hW
  have HO := Lib.hid (fun x y z => okU_e (x := x) (y := y) (z := z) (n, p, q))
  clear hW
  cases h1 : nameB (kb n) with
  | false =>
    have HN := Lib.hid h1
    have HE : Hid (okU (n, p, q) = false) := Lib.hid (by unfold okU; rw [h1]; rfl)
    clear h1
    go_enter Try.func39, Try.ntmps39
    go_wp2_with fail
    refine (iname_at HN.out hn _).mono ?_
    rintro e w2 ⟨rfl, hb⟩
    have HW2 := Lib.hid (HW.out.below hb HW.out.lt)
    have HB2 := Lib.hid (HB.out.trans (hb.mono HB.out.size))
    have d0 := HW2.out.cell 0
    have d1 := HW2.out.cell 1
    have d2 := HW2.out.cell 2
    clear hb c0
    simp at d0 d1 d2
    go_wp2
    go_ret
    exact says_b HE.out HB2.out
  | true =>
    have HN := Lib.hid h1
    by_cases h2 : n = evB
    · subst h2
      have HE : Hid (okU (evB, p, q) = false) := Lib.hid (by unfold okU; simp)
      have hv := ev_walk'
      clear h1
      go_enter Try.func39, Try.ntmps39
      go_wp2_with fail
      refine (iname_at HN.out hn _).mono ?_
      rintro e w2 ⟨rfl, hb⟩
      have HW2 := Lib.hid (HW.out.below hb HW.out.lt)
      have HB2 := Lib.hid (HB.out.trans (hb.mono HB.out.size))
      have d0 := HW2.out.cell 0
      have d1 := HW2.out.cell 1
      have d2 := HW2.out.cell 2
      clear hb c0
      simp at d0 d1 d2
      go_wp2
      go_ret
      exact says_b HE.out HB2.out
    · obtain ⟨v1, v2, v3⟩ := ev_walk h2
      have hk := ne_kb h2
      cases h3 : nameB (kb p) with
      | false =>
        have HP := Lib.hid h3
        have HE : Hid (okU (n, p, q) = false) := Lib.hid (by unfold okU; rw [h1, h3, hk]; rfl)
        clear h1 h2 h3 hk
        go_enter Try.func39, Try.ntmps39
        go_wp2_with fail
        refine (iname_at HN.out hn _).mono ?_
        rintro e w2 ⟨rfl, hb⟩
        have HW2 := Lib.hid (HW.out.below hb HW.out.lt)
        have HB2 := Lib.hid (HB.out.trans (hb.mono HB.out.size))
        have d0 := HW2.out.cell 0
        have d1 := HW2.out.cell 1
        have d2 := HW2.out.cell 2
        clear hb c0
        simp at d0 d1 d2
        go_wp2_with fail
        refine (iname_at HP.out hp _).mono ?_
        rintro e w3 ⟨rfl, hb⟩
        have HW3 := Lib.hid (HW2.out.below hb HW2.out.lt)
        have HB3 := Lib.hid (HB2.out.trans (hb.mono HB2.out.size))
        have d2 := HW3.out.cell 2
        clear hb d0 d1
        simp at d2
        go_wp2
        go_ret
        first
          | exact says_b HE.out HB3.out
          | exact says_b (HE.out.trans (decide_eq_false (by omega)).symm) HB3.out
      | true =>
        have HP := Lib.hid h3
        by_cases q5a : q < 0
        · have q1 : ¬ (0 : Int) ≤ q := by omega
          have HE : Hid (okU (n, p, q) = false) := Lib.hid (by unfold okU; rw [h1, h3, hk]; simp; omega)
          clear h1 h2 h3 hk
          go_enter Try.func39, Try.ntmps39
          go_wp2_with fail
          refine (iname_at HN.out hn _).mono ?_
          rintro e w2 ⟨rfl, hb⟩
          have HW2 := Lib.hid (HW.out.below hb HW.out.lt)
          have HB2 := Lib.hid (HB.out.trans (hb.mono HB.out.size))
          have d0 := HW2.out.cell 0
          have d1 := HW2.out.cell 1
          have d2 := HW2.out.cell 2
          clear hb c0
          simp at d0 d1 d2
          go_wp2_with fail
          refine (iname_at HP.out hp _).mono ?_
          rintro e w3 ⟨rfl, hb⟩
          have HW3 := Lib.hid (HW2.out.below hb HW2.out.lt)
          have HB3 := Lib.hid (HB2.out.trans (hb.mono HB2.out.size))
          have d2 := HW3.out.cell 2
          clear hb d0 d1
          simp at d2
          go_wp2
          go_ret
          first
            | exact says_b HE.out HB3.out
            | exact says_b (HE.out.trans (decide_eq_false (by omega)).symm) HB3.out
        by_cases q5b : 200 < q
        · have q0 : (0 : Int) ≤ q := by omega
          have q1 : ¬ q ≤ 200 := by omega
          have HE : Hid (okU (n, p, q) = false) := Lib.hid (by unfold okU; rw [h1, h3, hk]; simp; omega)
          clear h1 h2 h3 hk
          go_enter Try.func39, Try.ntmps39
          go_wp2_with fail
          refine (iname_at HN.out hn _).mono ?_
          rintro e w2 ⟨rfl, hb⟩
          have HW2 := Lib.hid (HW.out.below hb HW.out.lt)
          have HB2 := Lib.hid (HB.out.trans (hb.mono HB.out.size))
          have d0 := HW2.out.cell 0
          have d1 := HW2.out.cell 1
          have d2 := HW2.out.cell 2
          clear hb c0
          simp at d0 d1 d2
          go_wp2_with fail
          refine (iname_at HP.out hp _).mono ?_
          rintro e w3 ⟨rfl, hb⟩
          have HW3 := Lib.hid (HW2.out.below hb HW2.out.lt)
          have HB3 := Lib.hid (HB2.out.trans (hb.mono HB2.out.size))
          have d2 := HW3.out.cell 2
          clear hb d0 d1
          simp at d2
          go_wp2
          go_ret
          first
            | exact says_b HE.out HB3.out
            | exact says_b (HE.out.trans (decide_eq_false (by omega)).symm) HB3.out
        have q0 : (0 : Int) ≤ q := by omega
        have q1 : q ≤ 200 := by omega
        have HE : Hid (okU (n, p, q) = true) := Lib.hid (by unfold okU; rw [h1, h3, hk]; simp; omega)
        clear h1 h2 h3 hk q5a q5b
        go_enter Try.func39, Try.ntmps39
        go_wp2_with fail
        refine (iname_at HN.out hn _).mono ?_
        rintro e w2 ⟨rfl, hb⟩
        have HW2 := Lib.hid (HW.out.below hb HW.out.lt)
        have HB2 := Lib.hid (HB.out.trans (hb.mono HB.out.size))
        have d0 := HW2.out.cell 0
        have d1 := HW2.out.cell 1
        have d2 := HW2.out.cell 2
        clear hb c0
        simp at d0 d1 d2
        go_wp2_with fail
        refine (iname_at HP.out hp _).mono ?_
        rintro e w3 ⟨rfl, hb⟩
        have HW3 := Lib.hid (HW2.out.below hb HW2.out.lt)
        have HB3 := Lib.hid (HB2.out.trans (hb.mono HB2.out.size))
        have d2 := HW3.out.cell 2
        clear hb d0 d1
        simp at d2
        go_wp2
        go_ret
        first
          | exact says_b HE.out HB3.out
          | exact says_b (HE.out.trans (decide_eq_false (by omega)).symm) HB3.out
theorem isuser_at {n p : ByteArray} {q : Int} {z : Bool} (h : okU (n, p, q) = z) (hn : n.size ≤ 16777216) (hp : p.size ≤ 16777216) (w : World) : Calls Try.prog 39 #[.agg #[.string n, .string p, .int .i64 q]] w (SayB w z) := by
  subst h
  exact impl_isuser n p q w hn hp
set_option maxRecDepth 20000 in
set_option maxHeartbeats 8000000 in
theorem impl_usersvalid {A : Option Addr} {N cap : Nat} {L : List Us} (w : World) (h : UIn w A N cap L) : Calls Try.prog 17 #[.slice A N cap] w (SayB w (vU L)) := by
  have H := Lib.hid h
  have hl := h.2.1
  clear h
  by_cases h0N : N = 0
  · subst h0N
    have HE : Hid (vU L = false) := Lib.hid (vU_long (by rw [H.out.1]; omega))
    go_enter Try.func17, Try.ntmps17
    go_wp2
    go_ret
    exact says_b HE.out (Below.refl _ _)
  by_cases h4 : N ≤ 4
  · have h4' : ¬ (4 : Int) < (N : Int) := by omega
    have hN0 : ((N : Int) == 0) = false := beq_eq_false_iff_ne.2 (by omega)
    have hN1 : 1 ≤ N := by omega
    clear h0N
    go_enter Try.func17, Try.ntmps17
    go_wp2
    go_loopw [15] (fun i wr => ∃ k : Nat, k ≤ N ∧ i = .int .i64 (k : Int) ∧ Hid (goodU L k) ∧ Hid (Below w.heap.size w wr)) (fun i _ => N - (intOf i).toNat)
    case atStart => exact ⟨0, Nat.zero_le _, by go_num, goodU_zero L, Below.refl _ _⟩
    case round =>
      obtain ⟨k, hk, rfl, HG, HB⟩ := hrel
      by_cases hlt : k < N
      · have h0 : (0 : Int) ≤ (k : Int) := by omega
        have h5 : (k : Int) < (N : Int) := by omega
        obtain ⟨⟨n, p, q⟩, hx⟩ : ∃ x, L[k]? = some x := ⟨_, List.getElem?_eq_getElem (by rw [H.out.1]; exact hlt)⟩
        have hnp := H.out.2.2.2.2.2 (n, p, q) (List.mem_of_getElem? hx)
        have hn : n.size ≤ 16777216 := hnp.1
        have hp : p.size ≤ 16777216 := hnp.2
        have hR := H.out.2.2.1.below HB.out (Nat.le_refl _)
        obtain ⟨b, o, rfl, hb, c0, c1, c2⟩ := user_at hR hx
        have HX := Lib.hid hx
        obtain ⟨B, hB⟩ : ∃ B, wr.heap.size = B := ⟨_, rfl⟩
        have HA0 := Lib.hid (HB.out.alloc HB.out.size (.cells #[.string n, .string p, .int .i64 q] 42))
        have hbB : b < B := by omega
        clear hx hnp
        obtain ⟨wo, hwo⟩ : ∃ wo, wr.alloc (.cells #[.string n, .string p, .int .i64 q] 42) = wo := ⟨_, rfl⟩
        have hsz : wo.heap.size = B + 1 := by rw [← hwo, ← hB]; simp
        have HWO := Lib.hid (show Whole wo B 42 #[.string n, .string p, .int .i64 q] by rw [← hwo, ← hB]; exact Whole.made wr 42 #[.string n, .string p, .int .i64 q])
        rw [hwo] at HA0
        have HRO : Hid (RAt usR wo (some ⟨b, o, none⟩) L) := Lib.hid (H.out.2.2.1.below HA0.out (Nat.le_refl _))
        have g0 := HWO.out.cell 0
        have g1 := HWO.out.cell 1
        have g2 := HWO.out.cell 2
        simp at g0 g1 g2
        have HHW := Lib.hid hwo
        have hbo : b < wo.heap.size := by omega
        have HSZ : Hid (B + 1 ≤ wo.heap.size) := Lib.hid (by omega)
        have HBB : Hid (w.heap.size ≤ B + 1) := Lib.hid (by have := HB.out.size; omega)
        have l0 : ∀ x : Later (B + 1) wo, x.v.cell? ⟨B, 0, none⟩ = some (.string n) := fun x => x.cell (by simp) g0
        have l1 : ∀ x : Later (B + 1) wo, x.v.cell? ⟨B, 1, none⟩ = some (.string p) := fun x => x.cell (by simp) g1
        have l3 : ∀ x : Later (B + 1) wo, x.v.cell? ⟨B, 2, none⟩ = some (.int .i64 q) := fun x => x.cell (by simp) g2
        clear hwo
        cases ho : okU (n, p, q) with
        | false =>
          have HO := Lib.hid ho
          have HE := Lib.hid (vU_bad HX.out ho)
          clear ho hR
          go_wp2
          rw [HHW.out]
          refine wp_region_later (B + 1) wo (by kernel_rfl) (by kernel_rfl) ?_
          repeat (go_big_quiet_step ((go_at_call 39; refine (isuser_at HO.out hn hp _).mono ?_; rintro e w2 ⟨rfl, hb2⟩; exact ⟨rfl, Later.call _ hb2 HSZ.out⟩)))
          refine wpQuiet_nil ?_
          intro _ hw'
          obtain ⟨⟨w2, hb2⟩, rfl⟩ := hw'
          have H6 := Lib.hid (HA0.out.trans (hb2.mono HBB.out))
          clear hb2
          go_wp2
          go_ret
          exact says_b HE.out H6.out
        | true =>
          have HO := Lib.hid ho
          clear ho
          obtain rfl | ⟨j, rfl⟩ : k = 0 ∨ ∃ j, k = j + 1 := by
            cases k with
            | zero => exact .inl rfl
            | succ j => exact .inr ⟨j, rfl⟩
          ·
            simp only [Nat.zero_mul, Nat.add_zero] at c0 c1 c2
            have HE := Lib.hid (goodU_first HX.out HO.out)
            clear hR
            go_wp2
            rw [HHW.out]
            refine wp_region_later (B + 1) wo (by kernel_rfl) (by kernel_rfl) ?_
            repeat (go_big_quiet_step ((go_at_call 39; refine (isuser_at HO.out hn hp _).mono ?_; rintro e w2 ⟨rfl, hb2⟩; exact ⟨rfl, Later.call _ hb2 HSZ.out⟩)))
            refine wpQuiet_nil ?_
            intro _ hw'
            obtain ⟨⟨w2, hb2⟩, rfl⟩ := hw'
            have H6 := Lib.hid (HA0.out.trans (hb2.mono HBB.out))
            clear hb2
            go_wp2
            go_roundw
            case rel => exact ⟨1, by omega, by go_num, HE.out, H6.out⟩
            case measure => simp [intOf]; omega
          ·
            obtain ⟨⟨v, p', q'⟩, hy⟩ : ∃ x, L[j]? = some x := ⟨_, List.getElem?_eq_getElem (by rw [H.out.1]; omega)⟩
            have HY := Lib.hid hy
            obtain ⟨b', o', he, _, d0, _, _⟩ := user_at HRO.out hy
            cases he
            have j0 : (0 : Int) < ((j + 1 : Nat) : Int) := by omega
            have j1 : (0 : Int) ≤ (j : Int) := by omega
            have j2 : (j : Int) < (N : Int) := by omega
            have W1 : IntKind.i64.wrap (((j + 1 : Nat) : Int) - 1) = (j : Int) := by rw [IntWalk.i64_in _ (by omega)]; omega
            clear hy hR
            cases hlg : ltG v n with
            | false =>
              have HL := lessW hlg
              have HE := Lib.hid (vU_order HY.out HX.out hlg)
              clear hlg
              go_wp2
              rw [HHW.out]
              have l2 : ∀ x : Later (B + 1) wo, x.v.cell? ⟨b, o + j * 3, none⟩ = some (.string v) := fun x => x.cell (by simp; omega) d0
              refine wp_region_later (B + 1) wo (by kernel_rfl) (by kernel_rfl) ?_
              repeat (go_big_quiet_step ((go_at_call 39; refine (isuser_at HO.out hn hp _).mono ?_; rintro e w2 ⟨rfl, hb2⟩; exact ⟨rfl, Later.call _ hb2 HSZ.out⟩)))
              refine wpQuiet_nil ?_
              intro _ hw'
              obtain ⟨⟨w2, hb2⟩, rfl⟩ := hw'
              have H6 := Lib.hid (HA0.out.trans (hb2.mono HBB.out))
              clear hb2
              go_wp2
              go_ret
              exact says_b HE.out H6.out
            | true =>
              have HL := lessW hlg
              have HE := Lib.hid (goodU_next HG.out HY.out HX.out HO.out hlg)
              clear hlg
              go_wp2
              rw [HHW.out]
              have l2 : ∀ x : Later (B + 1) wo, x.v.cell? ⟨b, o + j * 3, none⟩ = some (.string v) := fun x => x.cell (by simp; omega) d0
              refine wp_region_later (B + 1) wo (by kernel_rfl) (by kernel_rfl) ?_
              repeat (go_big_quiet_step ((go_at_call 39; refine (isuser_at HO.out hn hp _).mono ?_; rintro e w2 ⟨rfl, hb2⟩; exact ⟨rfl, Later.call _ hb2 HSZ.out⟩)))
              refine wpQuiet_nil ?_
              intro _ hw'
              obtain ⟨⟨w2, hb2⟩, rfl⟩ := hw'
              have H6 := Lib.hid (HA0.out.trans (hb2.mono HBB.out))
              clear hb2
              go_wp2
              go_roundw
              case rel => exact ⟨j + 1 + 1, by omega, by go_num, HE.out, H6.out⟩
              case measure => simp [intOf]; omega
      · have h5 : ¬ (k : Int) < (N : Int) := by omega
        have HE : Hid (vU L = true) := Lib.hid ((goodU_all HG.out (by rw [H.out.1]; omega)).trans (by rw [H.out.1, decide_eq_true hN1, decide_eq_true h4]; rfl))
        go_wp2
        go_ret
        exact says_b HE.out HB.out
  · have h4' : (4 : Int) < (N : Int) := by omega
    have hN0 : ((N : Int) == 0) = false := beq_eq_false_iff_ne.2 (by omega)
    have HE : Hid (vU L = false) := Lib.hid (vU_long (by rw [H.out.1]; omega))
    clear h0N
    go_enter Try.func17, Try.ntmps17
    go_wp2
    go_ret
    exact says_b HE.out (Below.refl _ _)
end Go.Proofs.Ytkhfflbgnojcfaa
