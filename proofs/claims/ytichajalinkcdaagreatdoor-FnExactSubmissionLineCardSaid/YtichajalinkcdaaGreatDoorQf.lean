/-
  My texts Ui, Uf, Ug, Pspec, Us, Tg, Th in one, so that a claim holds fewer files. Conditions: each contract's own.
-/
import Derived.Test.YtichajalinkcdaaGreatDoorQe
import Derived.RegionTactic
namespace Go.Proofs.YtichajalinkcdaaGreatDoor
open Go.RowKit
set_option linter.unusedVariables false

set_option maxRecDepth 20000 in
set_option maxHeartbeats 2000000 in
theorem impl_isuser (n p : ByteArray) (q : Int) (w : World) (hn : n.size ≤ 16777216) (hp : p.size ≤ 16777216) : Calls Tryz.prog 99 #[.agg #[.string n, .string p, .int .i64 q]] w (SayB w (okU (n, p, q))) := by
  have hW := Whole.made w 35 #[.string n, .string p, .int .i64 q]
  have c0 : (w.alloc (.cells #[.string n, .string p, .int .i64 q] 35)).cell? ⟨w.heap.size, 0, none⟩ = some (.string n) := hW.cell 0
  have HB := Lib.hid ((Below.refl w.heap.size w).alloc (Nat.le_refl _) (.cells #[.string n, .string p, .int .i64 q] 35))
  have HW := Lib.hid hW
  have HO := Lib.hid (fun x y z => okU_e (x := x) (y := y) (z := z) (n, p, q))
  clear hW
  cases h1 : nameB (kb n) with
  | false =>
    have HN := Lib.hid h1
    have HE : Hid (okU (n, p, q) = false) := Lib.hid (by unfold okU; rw [h1]; rfl)
    clear h1
    go_enter Tryz.func99, Tryz.ntmps99
    go_wp2_with fail
    refine (iname_at HN.out hn _).mono ?_
    rintro e w2 ⟨rfl, hb⟩
    have HW2 := Lib.hid (HW.out.below hb HW.out.lt)
    have HB2 := Lib.hid (HB.out.trans (hb.mono HB.out.size))
    have d0 := HW2.out.cell 0
    have d1 := HW2.out.cell 1
    have d2 := HW2.out.cell 2
    clear hb c0
    simp at d0 d1 d2
    go_wp2
    go_ret
    exact says_b HE.out HB2.out
  | true =>
    have HN := Lib.hid h1
    by_cases h2 : n = evB
    · subst h2
      have HE : Hid (okU (evB, p, q) = false) := Lib.hid (by unfold okU; simp)
      have hv := ev_walk'
      clear h1
      go_enter Tryz.func99, Tryz.ntmps99
      go_wp2_with fail
      refine (iname_at HN.out hn _).mono ?_
      rintro e w2 ⟨rfl, hb⟩
      have HW2 := Lib.hid (HW.out.below hb HW.out.lt)
      have HB2 := Lib.hid (HB.out.trans (hb.mono HB.out.size))
      have d0 := HW2.out.cell 0
      have d1 := HW2.out.cell 1
      have d2 := HW2.out.cell 2
      clear hb c0
      simp at d0 d1 d2
      go_wp2
      go_ret
      exact says_b HE.out HB2.out
    · obtain ⟨v1, v2, v3⟩ := ev_walk h2
      have hk := ne_kb h2
      cases h3 : nameB (kb p) with
      | false =>
        have HP := Lib.hid h3
        have HE : Hid (okU (n, p, q) = false) := Lib.hid (by unfold okU; rw [h1, h3, hk]; rfl)
        clear h1 h2 h3 hk
        go_enter Tryz.func99, Tryz.ntmps99
        go_wp2_with fail
        refine (iname_at HN.out hn _).mono ?_
        rintro e w2 ⟨rfl, hb⟩
        have HW2 := Lib.hid (HW.out.below hb HW.out.lt)
        have HB2 := Lib.hid (HB.out.trans (hb.mono HB.out.size))
        have d0 := HW2.out.cell 0
        have d1 := HW2.out.cell 1
        have d2 := HW2.out.cell 2
        clear hb c0
        simp at d0 d1 d2
        go_wp2_with fail
        refine (iname_at HP.out hp _).mono ?_
        rintro e w3 ⟨rfl, hb⟩
        have HW3 := Lib.hid (HW2.out.below hb HW2.out.lt)
        have HB3 := Lib.hid (HB2.out.trans (hb.mono HB2.out.size))
        have d2 := HW3.out.cell 2
        clear hb d0 d1
        simp at d2
        go_wp2
        go_ret
        first
          | exact says_b HE.out HB3.out
          | exact says_b (HE.out.trans (decide_eq_false (by omega)).symm) HB3.out
      | true =>
        have HP := Lib.hid h3
        by_cases q5a : q < 0
        · have q1 : ¬ (0 : Int) ≤ q := by omega
          have HE : Hid (okU (n, p, q) = false) := Lib.hid (by unfold okU; rw [h1, h3, hk]; simp; omega)
          clear h1 h2 h3 hk
          go_enter Tryz.func99, Tryz.ntmps99
          go_wp2_with fail
          refine (iname_at HN.out hn _).mono ?_
          rintro e w2 ⟨rfl, hb⟩
          have HW2 := Lib.hid (HW.out.below hb HW.out.lt)
          have HB2 := Lib.hid (HB.out.trans (hb.mono HB.out.size))
          have d0 := HW2.out.cell 0
          have d1 := HW2.out.cell 1
          have d2 := HW2.out.cell 2
          clear hb c0
          simp at d0 d1 d2
          go_wp2_with fail
          refine (iname_at HP.out hp _).mono ?_
          rintro e w3 ⟨rfl, hb⟩
          have HW3 := Lib.hid (HW2.out.below hb HW2.out.lt)
          have HB3 := Lib.hid (HB2.out.trans (hb.mono HB2.out.size))
          have d2 := HW3.out.cell 2
          clear hb d0 d1
          simp at d2
          go_wp2
          go_ret
          first
            | exact says_b HE.out HB3.out
            | exact says_b (HE.out.trans (decide_eq_false (by omega)).symm) HB3.out
        by_cases q5b : 200 < q
        · have q0 : (0 : Int) ≤ q := by omega
          have q1 : ¬ q ≤ 200 := by omega
          have HE : Hid (okU (n, p, q) = false) := Lib.hid (by unfold okU; rw [h1, h3, hk]; simp; omega)
          clear h1 h2 h3 hk
          go_enter Tryz.func99, Tryz.ntmps99
          go_wp2_with fail
          refine (iname_at HN.out hn _).mono ?_
          rintro e w2 ⟨rfl, hb⟩
          have HW2 := Lib.hid (HW.out.below hb HW.out.lt)
          have HB2 := Lib.hid (HB.out.trans (hb.mono HB.out.size))
          have d0 := HW2.out.cell 0
          have d1 := HW2.out.cell 1
          have d2 := HW2.out.cell 2
          clear hb c0
          simp at d0 d1 d2
          go_wp2_with fail
          refine (iname_at HP.out hp _).mono ?_
          rintro e w3 ⟨rfl, hb⟩
          have HW3 := Lib.hid (HW2.out.below hb HW2.out.lt)
          have HB3 := Lib.hid (HB2.out.trans (hb.mono HB2.out.size))
          have d2 := HW3.out.cell 2
          clear hb d0 d1
          simp at d2
          go_wp2
          go_ret
          first
            | exact says_b HE.out HB3.out
            | exact says_b (HE.out.trans (decide_eq_false (by omega)).symm) HB3.out
        have q0 : (0 : Int) ≤ q := by omega
        have q1 : q ≤ 200 := by omega
        have HE : Hid (okU (n, p, q) = true) := Lib.hid (by unfold okU; rw [h1, h3, hk]; simp; omega)
        clear h1 h2 h3 hk q5a q5b
        go_enter Tryz.func99, Tryz.ntmps99
        go_wp2_with fail
        refine (iname_at HN.out hn _).mono ?_
        rintro e w2 ⟨rfl, hb⟩
        have HW2 := Lib.hid (HW.out.below hb HW.out.lt)
        have HB2 := Lib.hid (HB.out.trans (hb.mono HB.out.size))
        have d0 := HW2.out.cell 0
        have d1 := HW2.out.cell 1
        have d2 := HW2.out.cell 2
        clear hb c0
        simp at d0 d1 d2
        go_wp2_with fail
        refine (iname_at HP.out hp _).mono ?_
        rintro e w3 ⟨rfl, hb⟩
        have HW3 := Lib.hid (HW2.out.below hb HW2.out.lt)
        have HB3 := Lib.hid (HB2.out.trans (hb.mono HB2.out.size))
        have d2 := HW3.out.cell 2
        clear hb d0 d1
        simp at d2
        go_wp2
        go_ret
        first
          | exact says_b HE.out HB3.out
          | exact says_b (HE.out.trans (decide_eq_false (by omega)).symm) HB3.out
theorem isuser_at {n p : ByteArray} {q : Int} {z : Bool} (h : okU (n, p, q) = z) (hn : n.size ≤ 16777216) (hp : p.size ≤ 16777216) (w : World) : Calls Tryz.prog 99 #[.agg #[.string n, .string p, .int .i64 q]] w (SayB w z) := by
  subst h
  exact impl_isuser n p q w hn hp
set_option maxRecDepth 20000 in
set_option maxHeartbeats 8000000 in
theorem impl_usersvalid {A : Option Addr} {N cap : Nat} {L : List Us} (w : World) (h : UIn w A N cap L) : Calls Tryz.prog 70 #[.slice A N cap] w (SayB w (vU L)) := by
  have H := Lib.hid h
  have hl := h.2.1
  clear h
  by_cases h0N : N = 0
  · subst h0N
    have HE : Hid (vU L = false) := Lib.hid (vU_long (by rw [H.out.1]; omega))
    go_enter Tryz.func70, Tryz.ntmps70
    go_wp2
    go_ret
    exact says_b HE.out (Below.refl _ _)
  by_cases h4 : N ≤ 4
  · have h4' : ¬ (4 : Int) < (N : Int) := by omega
    have hN0 : ((N : Int) == 0) = false := beq_eq_false_iff_ne.2 (by omega)
    have hN1 : 1 ≤ N := by omega
    clear h0N
    go_enter Tryz.func70, Tryz.ntmps70
    go_wp2
    go_loopw [15] (fun i wr => ∃ k : Nat, k ≤ N ∧ i = .int .i64 (k : Int) ∧ Hid (goodU L k) ∧ Hid (Below w.heap.size w wr)) (fun i _ => N - (intOf i).toNat)
    case atStart => exact ⟨0, Nat.zero_le _, by go_num, goodU_zero L, Below.refl _ _⟩
    case round =>
      obtain ⟨k, hk, rfl, HG, HB⟩ := hrel
      by_cases hlt : k < N
      · have h0 : (0 : Int) ≤ (k : Int) := by omega
        have h5 : (k : Int) < (N : Int) := by omega
        obtain ⟨⟨n, p, q⟩, hx⟩ : ∃ x, L[k]? = some x := ⟨_, List.getElem?_eq_getElem (by rw [H.out.1]; exact hlt)⟩
        have hnp := H.out.2.2.2.2.2 (n, p, q) (List.mem_of_getElem? hx)
        have hn : n.size ≤ 16777216 := hnp.1
        have hp : p.size ≤ 16777216 := hnp.2
        have hR := H.out.2.2.1.below HB.out (Nat.le_refl _)
        obtain ⟨b, o, rfl, hb, c0, c1, c2⟩ := user_at hR hx
        have HX := Lib.hid hx
        obtain ⟨B, hB⟩ : ∃ B, wr.heap.size = B := ⟨_, rfl⟩
        have HA0 := Lib.hid (HB.out.alloc HB.out.size (.cells #[.string n, .string p, .int .i64 q] 35))
        have hbB : b < B := by omega
        clear hx hnp
        obtain ⟨wo, hwo⟩ : ∃ wo, wr.alloc (.cells #[.string n, .string p, .int .i64 q] 35) = wo := ⟨_, rfl⟩
        have hsz : wo.heap.size = B + 1 := by rw [← hwo, ← hB]; simp
        have HWO := Lib.hid (show Whole wo B 35 #[.string n, .string p, .int .i64 q] by rw [← hwo, ← hB]; exact Whole.made wr 35 #[.string n, .string p, .int .i64 q])
        rw [hwo] at HA0
        have HRO : Hid (RAt usR wo (some ⟨b, o, none⟩) L) := Lib.hid (H.out.2.2.1.below HA0.out (Nat.le_refl _))
        have g0 := HWO.out.cell 0
        have g1 := HWO.out.cell 1
        have g2 := HWO.out.cell 2
        simp at g0 g1 g2
        have HHW := Lib.hid hwo
        have hbo : b < wo.heap.size := by omega
        have HSZ : Hid (B + 1 ≤ wo.heap.size) := Lib.hid (by omega)
        have HBB : Hid (w.heap.size ≤ B + 1) := Lib.hid (by have := HB.out.size; omega)
        have l0 : ∀ x : Later (B + 1) wo, x.v.cell? ⟨B, 0, none⟩ = some (.string n) := fun x => x.cell (by simp) g0
        have l1 : ∀ x : Later (B + 1) wo, x.v.cell? ⟨B, 1, none⟩ = some (.string p) := fun x => x.cell (by simp) g1
        have l3 : ∀ x : Later (B + 1) wo, x.v.cell? ⟨B, 2, none⟩ = some (.int .i64 q) := fun x => x.cell (by simp) g2
        clear hwo
        cases ho : okU (n, p, q) with
        | false =>
          have HO := Lib.hid ho
          have HE := Lib.hid (vU_bad HX.out ho)
          clear ho hR
          go_wp2
          rw [HHW.out]
          refine wp_region_later (B + 1) wo (by kernel_rfl) (by kernel_rfl) ?_
          repeat (go_big_quiet_step ((go_at_call 99; refine (isuser_at HO.out hn hp _).mono ?_; rintro e w2 ⟨rfl, hb2⟩; exact ⟨rfl, Later.call _ hb2 HSZ.out⟩)))
          refine wpQuiet_nil ?_
          intro _ hw'
          obtain ⟨⟨w2, hb2⟩, rfl⟩ := hw'
          have H6 := Lib.hid (HA0.out.trans (hb2.mono HBB.out))
          clear hb2
          go_wp2
          go_ret
          exact says_b HE.out H6.out
        | true =>
          have HO := Lib.hid ho
          clear ho
          obtain rfl | ⟨j, rfl⟩ : k = 0 ∨ ∃ j, k = j + 1 := by
            cases k with
            | zero => exact .inl rfl
            | succ j => exact .inr ⟨j, rfl⟩
          ·
            simp only [Nat.zero_mul, Nat.add_zero] at c0 c1 c2
            have HE := Lib.hid (goodU_first HX.out HO.out)
            clear hR
            go_wp2
            rw [HHW.out]
            refine wp_region_later (B + 1) wo (by kernel_rfl) (by kernel_rfl) ?_
            repeat (go_big_quiet_step ((go_at_call 99; refine (isuser_at HO.out hn hp _).mono ?_; rintro e w2 ⟨rfl, hb2⟩; exact ⟨rfl, Later.call _ hb2 HSZ.out⟩)))
            refine wpQuiet_nil ?_
            intro _ hw'
            obtain ⟨⟨w2, hb2⟩, rfl⟩ := hw'
            have H6 := Lib.hid (HA0.out.trans (hb2.mono HBB.out))
            clear hb2
            go_wp2
            go_roundw
            case rel => exact ⟨1, by omega, by go_num, HE.out, H6.out⟩
            case measure => simp [intOf]; omega
          ·
            obtain ⟨⟨v, p', q'⟩, hy⟩ : ∃ x, L[j]? = some x := ⟨_, List.getElem?_eq_getElem (by rw [H.out.1]; omega)⟩
            have HY := Lib.hid hy
            obtain ⟨b', o', he, _, d0, _, _⟩ := user_at HRO.out hy
            cases he
            have j0 : (0 : Int) < ((j + 1 : Nat) : Int) := by omega
            have j1 : (0 : Int) ≤ (j : Int) := by omega
            have j2 : (j : Int) < (N : Int) := by omega
            have W1 : IntKind.i64.wrap (((j + 1 : Nat) : Int) - 1) = (j : Int) := by rw [IntWalk.i64_in _ (by omega)]; omega
            clear hy hR
            cases hlg : ltG v n with
            | false =>
              have HL := lessW hlg
              have HE := Lib.hid (vU_order HY.out HX.out hlg)
              clear hlg
              go_wp2
              rw [HHW.out]
              have l2 : ∀ x : Later (B + 1) wo, x.v.cell? ⟨b, o + j * 3, none⟩ = some (.string v) := fun x => x.cell (by simp; omega) d0
              refine wp_region_later (B + 1) wo (by kernel_rfl) (by kernel_rfl) ?_
              repeat (go_big_quiet_step ((go_at_call 99; refine (isuser_at HO.out hn hp _).mono ?_; rintro e w2 ⟨rfl, hb2⟩; exact ⟨rfl, Later.call _ hb2 HSZ.out⟩)))
              refine wpQuiet_nil ?_
              intro _ hw'
              obtain ⟨⟨w2, hb2⟩, rfl⟩ := hw'
              have H6 := Lib.hid (HA0.out.trans (hb2.mono HBB.out))
              clear hb2
              go_wp2
              go_ret
              exact says_b HE.out H6.out
            | true =>
              have HL := lessW hlg
              have HE := Lib.hid (goodU_next HG.out HY.out HX.out HO.out hlg)
              clear hlg
              go_wp2
              rw [HHW.out]
              have l2 : ∀ x : Later (B + 1) wo, x.v.cell? ⟨b, o + j * 3, none⟩ = some (.string v) := fun x => x.cell (by simp; omega) d0
              refine wp_region_later (B + 1) wo (by kernel_rfl) (by kernel_rfl) ?_
              repeat (go_big_quiet_step ((go_at_call 99; refine (isuser_at HO.out hn hp _).mono ?_; rintro e w2 ⟨rfl, hb2⟩; exact ⟨rfl, Later.call _ hb2 HSZ.out⟩)))
              refine wpQuiet_nil ?_
              intro _ hw'
              obtain ⟨⟨w2, hb2⟩, rfl⟩ := hw'
              have H6 := Lib.hid (HA0.out.trans (hb2.mono HBB.out))
              clear hb2
              go_wp2
              go_roundw
              case rel => exact ⟨j + 1 + 1, by omega, by go_num, HE.out, H6.out⟩
              case measure => simp [intOf]; omega
      · have h5 : ¬ (k : Int) < (N : Int) := by omega
        have HE : Hid (vU L = true) := Lib.hid ((goodU_all HG.out (by rw [H.out.1]; omega)).trans (by rw [H.out.1, decide_eq_true hN1, decide_eq_true h4]; rfl))
        go_wp2
        go_ret
        exact says_b HE.out HB.out
  · have h4' : (4 : Int) < (N : Int) := by omega
    have hN0 : ((N : Int) == 0) = false := beq_eq_false_iff_ne.2 (by omega)
    have HE : Hid (vU L = false) := Lib.hid (vU_long (by rw [H.out.1]; omega))
    clear h0N
    go_enter Tryz.func70, Tryz.ntmps70
    go_wp2
    go_ret
    exact says_b HE.out (Below.refl _ _)
end Go.Proofs.YtichajalinkcdaaGreatDoor
namespace Go.Proofs.YtichajalinkcdaaGreatDoor
open Go.RowKit
set_option linter.unusedVariables false

/-- A user and whether there is one. -/
def GivesU (w : World) (u : Us) (z : Bool) (e : Ending) (w' : World) : Prop := e = .returned (.tuple #[usV u, .bool z]) ∧ Below w.heap.size w w'
theorem gives_u {w w' : World} {u v : Us} {z y : Bool} (h : (u, z) = (v, y)) (hb : Below w.heap.size w w') : GivesU w u z (.returned (.tuple #[usV v, .bool y])) w' := by
  cases h
  exact ⟨rfl, hb⟩
theorem put_user {w : World} {B : Nat} (h : Whole w B 35 #[.string ⟨#[]⟩, .string ⟨#[]⟩, .int .i64 0]) (n p : ByteArray) (q : Int) :
    Whole (((w.setCell ⟨B, 0, none⟩ (.string n)).setCell ⟨B, 1, none⟩ (.string p)).setCell ⟨B, 2, none⟩ (.int .i64 q)) B 35 #[.string n, .string p, .int .i64 q] := ((h.store 0 _).store 1 _).store 2 _
set_option maxRecDepth 20000 in
set_option maxHeartbeats 4000000 in
theorem impl_findby {A : Option Addr} {N cap : Nat} {L : List Us} {n : ByteArray} {u : Us} {z : Bool} (hf : fuF L n = (u, z)) (w : World) (h : UIn w A N cap L) :
    Calls Tryz.prog 126 #[.slice A N cap, .func (.func 127) #[] #[], .string n] w (GivesU w u z) := by
  have H := Lib.hid h
  have HF := Lib.hid hf
  have hl := h.2.1
  obtain ⟨B, hB⟩ : ∃ B, w.heap.size = B := ⟨_, rfl⟩
  obtain ⟨wa, hwa⟩ : ∃ wa, w.alloc (.cells #[.string ⟨#[]⟩, .string ⟨#[]⟩, .int .i64 0] 35) = wa := ⟨_, rfl⟩
  have hWa : Whole wa B 35 #[.string ⟨#[]⟩, .string ⟨#[]⟩, .int .i64 0] := by rw [← hwa, ← hB]; exact Whole.made _ _ _
  have hBa : Below B w wa := by rw [← hwa, ← hB]; exact (Below.refl _ _).alloc (Nat.le_refl _) _
  have HW0 := Lib.hid hWa
  have HB0 := Lib.hid hBa
  have HWA := Lib.hid hwa
  have HBB := Lib.hid hB
  clear h hf hwa hB hWa hBa
  go_enter Tryz.func126, Tryz.ntmps126
  go_wp2
  rw [HWA.out, HBB.out]
  go_loopw [13] (fun i wr => ∃ k : Nat, k ≤ N ∧ i = .int .i64 (k : Int) ∧ Hid (fuF L n = fuF (L.drop k) n) ∧ Hid (Whole wr B 35 #[.string ⟨#[]⟩, .string ⟨#[]⟩, .int .i64 0]) ∧ Hid (Below B w wr)) (fun i _ => N - (intOf i).toNat)
  case atStart => exact ⟨0, Nat.zero_le _, by go_num, rfl, HW0, HB0⟩
  case round =>
    obtain ⟨k, hk, rfl, HT, HW, HB⟩ := hrel
    by_cases hlt : k < N
    · have h0 : (0 : Int) ≤ (k : Int) := by omega
      have h5 : (k : Int) < (N : Int) := by omega
      obtain ⟨⟨m, p, q⟩, hx⟩ : ∃ x, L[k]? = some x := ⟨_, List.getElem?_eq_getElem (by rw [H.out.1]; exact hlt)⟩
      obtain ⟨b, o, rfl, hb, c0, c1, c2⟩ := user_at (H.out.2.2.1.below HB.out (Nat.le_of_eq HBB.out)) hx
      have HX := Lib.hid hx
      obtain ⟨C, hC⟩ : ∃ C, wr.heap.size = C := ⟨_, rfl⟩
      obtain ⟨wo, hwo⟩ : ∃ wo, wr.alloc (.cells #[.string m, .string p, .int .i64 q] 35) = wo := ⟨_, rfl⟩
      have HWO := Lib.hid (show Whole wo C 35 #[.string m, .string p, .int .i64 q] by rw [← hwo, ← hC]; exact Whole.made _ _ _)
      have hBC : B < C := by rw [← hC]; exact HW.out.lt
      have HWz := Lib.hid (show Whole wo B 35 #[.string ⟨#[]⟩, .string ⟨#[]⟩, .int .i64 0] by rw [← hwo]; exact HW.out.alloc _)
      have HBo := Lib.hid (show Below B w wo by rw [← hwo]; exact HB.out.alloc (by omega) _)
      have g0 := HWO.out.cell 0
      have g1 := HWO.out.cell 1
      have g2 := HWO.out.cell 2
      simp at g0 g1 g2
      have HWOO := Lib.hid hwo
      have HCC := Lib.hid hC
      clear hx hwo hC
      by_cases hm : m = n
      · subst hm
        have HE := Lib.hid (HF.out.symm.trans (HT.out.trans (fuF_here HX.out)))
        go_wp2_with fail
        rw [HWOO.out, HCC.out]
        go_wp2_with fail
        refine (impl_uname (m, p, q) _).mono ?_
        rintro e w2 ⟨rfl, hb2⟩
        have HW2 := Lib.hid (HWO.out.below hb2 HWO.out.lt)
        have HZ2 := Lib.hid (HWz.out.below hb2 HWz.out.lt)
        have HB2 := Lib.hid (HBo.out.trans (hb2.mono (Nat.le_of_lt HWz.out.lt)))
        have e0 := HW2.out.cell 0
        have e1 := HW2.out.cell 1
        have e2 := HW2.out.cell 2
        have z0 := HZ2.out.cell 0
        have z1 := HZ2.out.cell 1
        have z2 := HZ2.out.cell 2
        have f0 := HZ2.out.free 0
        have f1 := HZ2.out.free 1
        have f2 := HZ2.out.free 2
        simp at e0 e1 e2 z0 z1 z2
        clear hb2
        have HS := Lib.hid (put_user HZ2.out m p q)
        have r0 := HS.out.cell 0
        have r1 := HS.out.cell 1
        have r2 := HS.out.cell 2
        simp at r0 r1 r2
        go_wp2
        refine bodyPost_ret (v := .tuple #[usV (m, p, q), .bool true]) (by simp [results, Tryz.results126, go_sem, usV, r0, r1, r2]) rfl ?_
        exact gives_u HE.out (((HBB.out.symm ▸ HB2.out).setCell (Nat.le_of_eq HBB.out) _).setCell (Nat.le_of_eq HBB.out) _ |>.setCell (Nat.le_of_eq HBB.out) _)
      · have hw1 := ne_walk hm
        have HE := Lib.hid (HT.out.trans (fuF_skip HX.out hm))
        obtain ⟨hw2, hw3⟩ := hw1
        clear hm
        go_wp2_with fail
        rw [HWOO.out, HCC.out]
        go_wp2_with fail
        refine (impl_uname (m, p, q) _).mono ?_
        rintro e w2 ⟨rfl, hb2⟩
        have HZ2 := Lib.hid (HWz.out.below hb2 HWz.out.lt)
        have HB2 := Lib.hid (HBo.out.trans (hb2.mono (Nat.le_of_lt HWz.out.lt)))
        clear hb2
        go_wp2
        go_roundw
        case rel => exact ⟨k + 1, by omega, by go_num, HE, HZ2, HB2⟩
        case measure => simp [intOf]; omega
    · have h5 : ¬ (k : Int) < (N : Int) := by omega
      have HE : Hid ((noU, false) = (u, z)) := Lib.hid (by rw [← HF.out, HT.out, List.drop_eq_nil_of_le (by rw [H.out.1]; omega)]; rfl)
      have HWO := Lib.hid (Whole.made wr 35 #[.string ⟨#[]⟩, .string ⟨#[]⟩, .int .i64 0])
      have HWz := Lib.hid (show Whole (wr.alloc (.cells #[.string ⟨#[]⟩, .string ⟨#[]⟩, .int .i64 0] 35)) B 35 #[.string ⟨#[]⟩, .string ⟨#[]⟩, .int .i64 0] from HW.out.alloc _)
      have HBo := Lib.hid (show Below B w (wr.alloc (.cells #[.string ⟨#[]⟩, .string ⟨#[]⟩, .int .i64 0] 35)) from HB.out.alloc (Nat.le_of_lt HW.out.lt) _)
      have g0 := HWO.out.cell 0
      have g1 := HWO.out.cell 1
      have g2 := HWO.out.cell 2
      simp only [List.getElem?_toArray, List.getElem?_cons_zero, List.getElem?_cons_succ] at g0 g1 g2
      have z0 := HWz.out.cell 0
      have z1 := HWz.out.cell 1
      have z2 := HWz.out.cell 2
      have f0 := HWz.out.free 0
      have f1 := HWz.out.free 1
      have f2 := HWz.out.free 2
      simp only [List.getElem?_toArray, List.getElem?_cons_zero, List.getElem?_cons_succ] at z0 z1 z2
      have HS := Lib.hid (put_user HWz.out ⟨#[]⟩ ⟨#[]⟩ 0)
      have r0 := HS.out.cell 0
      have r1 := HS.out.cell 1
      have r2 := HS.out.cell 2
      simp only [List.getElem?_toArray, List.getElem?_cons_zero, List.getElem?_cons_succ] at r0 r1 r2
      clear hlt
      go_wp2
      refine bodyPost_ret (v := .tuple #[usV noU, .bool false]) (by simp [results, Tryz.results126, go_sem, usV, noU, r0, r1, r2]) rfl ?_
      exact gives_u HE.out.symm (((HBB.out.symm ▸ HBo.out).setCell (Nat.le_of_eq HBB.out) _).setCell (Nat.le_of_eq HBB.out) _ |>.setCell (Nat.le_of_eq HBB.out) _)
end Go.Proofs.YtichajalinkcdaaGreatDoor
namespace Go.Proofs.YtichajalinkcdaaGreatDoor
open Go.RowKit
set_option linter.unusedVariables false

theorem impl_uv {A : Option Addr} {N cap : Nat} {L : List Us} {z : Bool} (h : vU L = z) (w : World) (hi : UIn w A N cap L) : Calls Tryz.prog 70 #[.slice A N cap] w (SayB w z) := by
  subst h
  exact impl_usersvalid w hi
set_option maxRecDepth 20000 in
set_option maxHeartbeats 4000000 in
theorem impl_uf {A : Option Addr} {N cap : Nat} {L : List Us} {n : ByteArray} {u : Us} {z : Bool} (hf : usF L n = (u, z)) (w : World) (h : UIn w A N cap L) : Calls Tryz.prog 106 #[.slice A N cap, .string n] w (GivesU w u z) := by
  have H := Lib.hid h
  have hl := h.2.1
  clear h
  obtain ⟨B, hB⟩ : ∃ B, w.heap.size = B := ⟨_, rfl⟩
  obtain ⟨wa, hwa⟩ : ∃ wa, w.alloc (.cells #[.string ⟨#[]⟩, .string ⟨#[]⟩, .int .i64 0] 35) = wa := ⟨_, rfl⟩
  have HW0 := Lib.hid (show Whole wa B 35 #[.string ⟨#[]⟩, .string ⟨#[]⟩, .int .i64 0] by rw [← hwa, ← hB]; exact Whole.made _ _ _)
  have HB0 := Lib.hid (show Below B w wa by rw [← hwa, ← hB]; exact (Below.refl _ _).alloc (Nat.le_refl _) _)
  have HI0 := Lib.hid (H.out.below HB0.out (Nat.le_of_eq hB))
  have HWA := Lib.hid hwa
  have HBB := Lib.hid hB
  clear hwa hB
  cases hv : vU L with
  | false =>
    have HE : Hid ((noU, false) = (u, z)) := Lib.hid ((usF_no n hv).symm.trans hf)
    have HV := Lib.hid hv
    clear hv hf
    go_enter Tryz.func106, Tryz.ntmps106
    go_wp2_with fail
    rw [HWA.out, HBB.out]
    refine (impl_uv HV.out _ HI0.out).mono ?_
    rintro e w1 ⟨rfl, hb⟩
    have HW1 := Lib.hid (HW0.out.below hb HW0.out.lt)
    have HB1 := Lib.hid (HB0.out.trans (hb.mono (Nat.le_of_lt HW0.out.lt)))
    have HI1 := Lib.hid (HI0.out.below hb (Nat.le_refl _))
    clear hb
    have z0 := HW1.out.cell 0
    have z1 := HW1.out.cell 1
    have z2 := HW1.out.cell 2
    have f0 := HW1.out.free 0
    have f1 := HW1.out.free 1
    have f2 := HW1.out.free 2
    simp at z0 z1 z2
    have HS := Lib.hid (put_user HW1.out ⟨#[]⟩ ⟨#[]⟩ 0)
    have r0 := HS.out.cell 0
    have r1 := HS.out.cell 1
    have r2 := HS.out.cell 2
    simp at r0 r1 r2
    go_wp2
    refine bodyPost_ret (v := .tuple #[usV noU, .bool false]) (by simp [results, Tryz.results106, go_sem, usV, noU, r0, r1, r2]) rfl ?_
    exact gives_u HE.out.symm (((HBB.out.symm ▸ HB1.out).setCell (Nat.le_of_eq HBB.out) _).setCell (Nat.le_of_eq HBB.out) _ |>.setCell (Nat.le_of_eq HBB.out) _)
  | true =>
    have HF : Hid (fuF L n = (u, z)) := Lib.hid (by rw [← hf, usF_fu, hv]; rfl)
    have HV := Lib.hid hv
    clear hv hf
    obtain ⟨n1, p1, q1⟩ := u
    go_enter Tryz.func106, Tryz.ntmps106
    go_wp2_with fail
    rw [HWA.out, HBB.out]
    refine (impl_uv HV.out _ HI0.out).mono ?_
    rintro e w1 ⟨rfl, hb⟩
    have HW1 := Lib.hid (HW0.out.below hb HW0.out.lt)
    have HB1 := Lib.hid (HB0.out.trans (hb.mono (Nat.le_of_lt HW0.out.lt)))
    have HI1 := Lib.hid (HI0.out.below hb (Nat.le_refl _))
    clear hb
    go_wp2_with fail
    refine (impl_findby HF.out _ HI1.out).mono ?_
    rintro e w2 ⟨rfl, hb⟩
    have HW2 := Lib.hid (HW1.out.below hb HW1.out.lt)
    have HB2 := Lib.hid (HB1.out.trans (hb.mono (Nat.le_of_lt HW1.out.lt)))
    have HI2 := Lib.hid (HI1.out.below hb (Nat.le_refl _))
    clear hb
    unfold usV
    have z0 := HW2.out.cell 0
    have z1 := HW2.out.cell 1
    have z2 := HW2.out.cell 2
    have f0 := HW2.out.free 0
    have f1 := HW2.out.free 1
    have f2 := HW2.out.free 2
    simp at z0 z1 z2
    have HS := Lib.hid (put_user HW2.out n1 p1 q1)
    have r0 := HS.out.cell 0
    have r1 := HS.out.cell 1
    have r2 := HS.out.cell 2
    simp at r0 r1 r2
    go_wp2
    refine bodyPost_ret (v := .tuple #[usV (n1, p1, q1), .bool z]) (by simp [results, Tryz.results106, go_sem, usV, r0, r1, r2]) rfl ?_
    exact gives_u rfl (((HBB.out.symm ▸ HB2.out).setCell (Nat.le_of_eq HBB.out) _).setCell (Nat.le_of_eq HBB.out) _ |>.setCell (Nat.le_of_eq HBB.out) _)
set_option maxRecDepth 20000 in
set_option maxHeartbeats 4000000 in
theorem impl_up {A : Option Addr} {N cap : Nat} {L : List Us} {n p : ByteArray} {z : Bool} (hz : prU L n p = z) (w : World) (h : UIn w A N cap L) : Calls Tryz.prog 123 #[.slice A N cap, .string n, .string p] w (SayB w z) := by
  have H := Lib.hid h
  clear h
  obtain ⟨⟨⟨n1, p1, q1⟩, y⟩, hf⟩ : ∃ x, usF L n = x := ⟨_, rfl⟩
  have HF := Lib.hid hf
  have hz2 := (prU_is (p := p) hf).symm.trans hz
  clear hf hz
  have hw : ∀ w1 : World, Below w.heap.size w w1 → Below w.heap.size w (w1.alloc (.cells #[.string n1, .string p1, .int .i64 q1] 35)) := fun w1 h1 => h1.alloc h1.size _
  have HWW := Lib.hid hw
  clear hw
  cases y with
  | false =>
    have HZ : Hid (false = z) := Lib.hid hz2
    clear hz2
    go_enter Tryz.func123, Tryz.ntmps123
    go_wp2_with fail
    refine (impl_uf HF.out _ H.out).mono ?_
    rintro e w1 ⟨rfl, hb⟩
    have HB1 := Lib.hid hb
    clear hb
    unfold usV
    go_wp2
    go_ret
    exact says_b HZ.out.symm (HWW.out _ HB1.out)
  | true =>
    by_cases he : p1 = p
    · subst he
      have HZ : Hid (true = z) := Lib.hid (by rw [← hz2]; simp)
      clear hz2
      go_enter Tryz.func123, Tryz.ntmps123
      go_wp2_with fail
      refine (impl_uf HF.out _ H.out).mono ?_
      rintro e w1 ⟨rfl, hb⟩
      have HB1 := Lib.hid hb
      have c1 := (Whole.made w1 35 #[.string n1, .string p1, .int .i64 q1]).cell 1
      simp at c1
      clear hb
      unfold usV
      go_wp2
      go_ret
      exact says_b HZ.out.symm (HWW.out _ HB1.out)
    · have HZ : Hid (false = z) := Lib.hid (by rw [← hz2, ne_kb he]; rfl)
      obtain ⟨v1, v2⟩ := ne_walk he
      clear hz2 he
      go_enter Tryz.func123, Tryz.ntmps123
      go_wp2_with fail
      refine (impl_uf HF.out _ H.out).mono ?_
      rintro e w1 ⟨rfl, hb⟩
      have HB1 := Lib.hid hb
      have c1 := (Whole.made w1 35 #[.string n1, .string p1, .int .i64 q1]).cell 1
      simp at c1
      clear hb
      unfold usV
      go_wp2
      go_ret
      exact says_b HZ.out.symm (HWW.out _ HB1.out)
/-- A text and whether. -/
def GivesX (w : World) (t : ByteArray) (z : Bool) (e : Ending) (w' : World) : Prop := e = .returned (.tuple #[.string t, .bool z]) ∧ Below w.heap.size w w'
theorem gives_x {w w' : World} {u v : ByteArray} {z y : Bool} (h : (u, z) = (v, y)) (hb : Below w.heap.size w w') : GivesX w u z (.returned (.tuple #[.string v, .bool y])) w' := by
  cases h
  exact ⟨rfl, hb⟩
set_option maxRecDepth 20000 in
set_option maxHeartbeats 4000000 in
theorem impl_upl {A : Option Addr} {N cap : Nat} {L : List Us} {t n p x : ByteArray} {o z : Bool} (hp : IsPP t o n p) (hz : upU L n p o = (x, z)) (w : World) (h : UIn w A N cap L) (ht : t.size ≤ 16777216) : Calls Tryz.prog 104 #[.slice A N cap, .string t] w (GivesX w x z) := by
  have H := Lib.hid h
  have HP := Lib.hid hp
  clear h hp
  cases o with
  | false =>
    have HZ : Hid (((⟨#[]⟩ : ByteArray), false) = (x, z)) := Lib.hid hz
    clear hz
    go_enter Tryz.func104, Tryz.ntmps104
    go_wp2_with fail
    refine (iplain HP.out _ ht).mono ?_
    rintro e w1 ⟨rfl, hb⟩
    have HB1 := Lib.hid hb
    clear hb
    go_wp2
    go_ret2
    exact gives_x HZ.out.symm HB1.out
  | true =>
    obtain ⟨y, hy⟩ : ∃ y, prU L n p = y := ⟨_, rfl⟩
    have HY := Lib.hid hy
    cases y with
    | false =>
      have HZ : Hid (((⟨#[]⟩ : ByteArray), false) = (x, z)) := Lib.hid (by rw [← hz]; unfold upU; rw [hy]; rfl)
      clear hz hy
      go_enter Tryz.func104, Tryz.ntmps104
      go_wp2_with fail
      refine (iplain HP.out _ ht).mono ?_
      rintro e w1 ⟨rfl, hb⟩
      have HB1 := Lib.hid hb
      have HI1 := Lib.hid (H.out.below hb (Nat.le_refl _))
      clear hb
      go_wp2_with fail
      refine (impl_up HY.out _ HI1.out).mono ?_
      rintro e w2 ⟨rfl, hb⟩
      have HB2 := Lib.hid (HB1.out.trans (hb.mono HB1.out.size))
      clear hb
      go_wp2
      go_ret2
      exact gives_x HZ.out.symm HB2.out
    | true =>
      have HZ : Hid ((n, true) = (x, z)) := Lib.hid (by rw [← hz]; unfold upU; rw [hy]; rfl)
      clear hz hy
      go_enter Tryz.func104, Tryz.ntmps104
      go_wp2_with fail
      refine (iplain HP.out _ ht).mono ?_
      rintro e w1 ⟨rfl, hb⟩
      have HB1 := Lib.hid hb
      have HI1 := Lib.hid (H.out.below hb (Nat.le_refl _))
      clear hb
      go_wp2_with fail
      refine (impl_up HY.out _ HI1.out).mono ?_
      rintro e w2 ⟨rfl, hb⟩
      have HB2 := Lib.hid (HB1.out.trans (hb.mono HB1.out.size))
      clear hb
      go_wp2
      go_ret2
      exact gives_x HZ.out.symm HB2.out
end Go.Proofs.YtichajalinkcdaaGreatDoor
namespace Go.Proofs.YtichajalinkcdaaGreatDoor
open Go.RowKit
set_option linter.unusedVariables false

theorem three_of {α : Type} {l : List α} (d : α) (h : l.length = 3) : l = [l.getD 0 d, l.getD 1 d, l.getD 2 d] := by
  match l, h with
  | [a, b, c], _ => rfl
theorem isPP_cut {s x : ByteArray} (hd : IsD s true x) (h : ∀ u p, cut 0 x.data.toList = [[], u, p] → nameB u = true → nameB p = true → False) : IsPP s false ⟨#[]⟩ ⟨#[]⟩ := pp_no hd fun _ => h

set_option maxHeartbeats 4000000 in
theorem splain {s u p : ByteArray} {o : Bool} (h : IsPP s o u p) (w : World) (hs : s.size ≤ 16777216) : Calls Tryz.prog 128 #[.string s] w (Gives3 w u p o) := by
  have HP := Lib.hid h
  clear h
  obtain ⟨ok, x, hd⟩ := isD_any s
  have hx30 := isD_le hd
  have hx4 : x.size ≤ 16777216 := by omega
  have HDD := Lib.hid hd
  go_enter Tryz.func128, Tryz.ntmps128
  go_wp2_with fail
  refine (sdec HDD.out _ hs).mono ?_
  rintro e w1 ⟨rfl, hb⟩
  have HB := Lib.hid hb
  clear hb
  go_wp2_with fail
  refine (cut_any x 0 _ hx4).mono ?_
  rintro e w2 ⟨g, cap, rfl, hg, hgl, hc, hb⟩
  have HB2 := Lib.hid (HB.out.trans (hb.mono HB.out.size))
  have hcl := cut_len 0 x.data.toList
  have hle : ∀ y ∈ cut 0 x.data.toList, y.length ≤ 16777216 := fun y hy => by
    have := cut_le hy
    have hl : x.data.toList.length = x.size := by simp
    omega
  obtain ⟨ps, hps⟩ : ∃ ps, cut 0 x.data.toList = ps := ⟨_, rfl⟩
  rw [hps] at hc hcl hle ⊢
  have hpl : ps.length ≤ 31 := by
    have hl : x.data.toList.length = x.size := by simp
    omega
  have HPS := Lib.hid hps
  clear hb hps hcl
  cases ok with
  | false =>
    have HN := Lib.hid (isPP_off hd)
    clear hd hc hle
    go_wp2
    go_ret3
    exact gives3_mk HP.out HN.out HB2.out
  | true =>
    clear hd
    have HF : Hid ((∀ u p, ps = [[], u, p] → nameB u = true → nameB p = true → False) → IsPP s false ⟨#[]⟩ ⟨#[]⟩) := Lib.hid (fun h => isPP_cut HDD.out (by rw [HPS.out]; exact h))
    by_cases h3 : ps.length = 3
    · have hth := three_of [] h3
      have hc0 := hc 0 (by omega)
      have hc1 := hc 1 (by omega)
      have hc2 := hc 2 (by omega)
      have l1 : (ps.getD 1 []).length ≤ 16777216 := hle _ (part_mem [] (by omega) rfl)
      have l2 : (ps.getD 2 []).length ≤ 16777216 := hle _ (part_mem [] (by omega) rfl)
      obtain ⟨a0, ha0⟩ : ∃ a, ps.getD 0 [] = a := ⟨_, rfl⟩
      obtain ⟨a1, ha1⟩ : ∃ a, ps.getD 1 [] = a := ⟨_, rfl⟩
      obtain ⟨a2, ha2⟩ : ∃ a, ps.getD 2 [] = a := ⟨_, rfl⟩
      rw [ha0, ha1, ha2] at hth
      rw [ha0] at hc0
      rw [ha1] at hc1 l1
      rw [ha2] at hc2 l2
      obtain ⟨v0, hv0⟩ : ∃ v, bt a0 = v := ⟨_, rfl⟩
      obtain ⟨v1, hv1⟩ : ∃ v, bt a1 = v := ⟨_, rfl⟩
      obtain ⟨v2, hv2⟩ : ∃ v, bt a2 = v := ⟨_, rfl⟩
      have c0 : w2.cell? ⟨g, 0, none⟩ = some (.string v0) := by rw [hc0, ← hv0]; rfl
      have c1 : w2.cell? ⟨g, 1, none⟩ = some (.string v1) := by rw [hc1, ← hv1]; rfl
      have c2 : w2.cell? ⟨g, 2, none⟩ = some (.string v2) := by rw [hc2, ← hv2]; rfl
      have s1 : v1.size ≤ 16777216 := by rw [← hv1]; exact l1
      have s2 : v2.size ≤ 16777216 := by rw [← hv2]; exact l2
      have HTH := Lib.hid hth
      have e1 : v1.data.toList = a1 := by rw [← hv1]; rfl
      have e2 : v2.data.toList = a2 := by rw [← hv2]; rfl
      have HE1 := Lib.hid e1
      have HE2 := Lib.hid e2
      have hz0 : v0.size = a0.length := by rw [← hv0]; rfl
      clear hc hle hc0 hc1 hc2 ha0 ha1 ha2 hth hv0 hv1 hv2 e1 e2 l1 l2
      rw [h3]
      clear h3 hpl
      by_cases h0 : v0.size = 0
      · obtain ⟨q1, q2⟩ := isEmpty h0
        have HA0 : Hid (a0 = []) := Lib.hid (List.eq_nil_of_length_eq_zero (by omega))
        clear h0 hz0
        cases b1 : nameB a1 with
        | false =>
          have HN := Lib.hid (HF.out (fun u p h hu hp => by
            rw [HTH.out] at h
            simp only [List.cons.injEq, and_true] at h
            rw [← h.2.1, b1] at hu
            cases hu))
          have B1 := Lib.hid b1
          clear b1
          go_wp2_with fail
          refine (spec_name v1 _ s1).mono ?_
          rintro e w3 ⟨rfl, rfl⟩
          rw [HE1.out, B1.out]
          go_wp2
          go_ret3
          exact gives3_mk HP.out HN.out HB2.out
        | true =>
          have B1 := Lib.hid b1
          clear b1
          cases b2 : nameB a2 with
          | false =>
            have HN := Lib.hid (HF.out (fun u p h hu hp => by
              rw [HTH.out] at h
              simp only [List.cons.injEq, and_true] at h
              rw [← h.2.2, b2] at hp
              cases hp))
            have B2 := Lib.hid b2
            clear b2
            go_wp2_with fail
            refine (spec_name v1 _ s1).mono ?_
            rintro e w3 ⟨rfl, rfl⟩
            rw [HE1.out, B1.out]
            go_wp2_with fail
            refine (spec_name v2 _ s2).mono ?_
            rintro e w3 ⟨rfl, rfl⟩
            rw [HE2.out, B2.out]
            go_wp2
            go_ret3
            exact gives3_mk HP.out HN.out HB2.out
          | true =>
            have B2 := Lib.hid b2
            clear b2
            have HY : Hid (IsPP s true v1 v2) := Lib.hid (by
              unfold IsPP
              rw [HE1.out, HE2.out]
              exact pp_yes HDD.out (by rw [HPS.out, HTH.out, HA0.out]) B1.out B2.out)
            go_wp2_with fail
            refine (spec_name v1 _ s1).mono ?_
            rintro e w3 ⟨rfl, rfl⟩
            rw [HE1.out, B1.out]
            go_wp2_with fail
            refine (spec_name v2 _ s2).mono ?_
            rintro e w3 ⟨rfl, rfl⟩
            rw [HE2.out, B2.out]
            go_wp2
            go_quiet (fail)
            go_wp2
            go_ret3
            exact gives3_mk HP.out HY.out (below_drewN' HB2.out _)
      · obtain ⟨q1, q2⟩ := noEmpty h0
        have HN := Lib.hid (HF.out (fun u p h hu hp => by
          rw [HTH.out] at h
          simp only [List.cons.injEq, and_true] at h
          rw [h.1] at hz0
          exact h0 hz0))
        clear h0 hz0
        go_wp2
        go_ret3
        exact gives3_mk HP.out HN.out HB2.out
    · have h3' : ((ps.length : Int) != 3) = true := by simp; omega
      have HN := Lib.hid (HF.out (fun u p h hu hp => h3 (by rw [h]; rfl)))
      clear h3 hc hle
      go_wp2
      go_ret3
      exact gives3_mk HP.out HN.out HB2.out
end Go.Proofs.YtichajalinkcdaaGreatDoor
namespace Go.Proofs.YtichajalinkcdaaGreatDoor
open Go.RowKit
set_option linter.unusedVariables false

theorem okU_bad3 {n p : ByteArray} {q : Int} (h : (decide (0 ≤ q) && decide (q ≤ 200)) = false) : okU (n, p, q) = false := by unfold okU; rw [h]; simp
theorem okU_bad2 {n p : ByteArray} {q : Int} (h : nameB (kb p) = false) : okU (n, p, q) = false := by unfold okU; rw [h]; simp
theorem okU_bad1 {n p : ByteArray} {q : Int} (h : nameB (kb n) = false) : okU (n, p, q) = false := by unfold okU; rw [h]; rfl
theorem okU_bad0 {p : ByteArray} {q : Int} : okU (evB, p, q) = false := by unfold okU; simp
theorem okU_yes {n p : ByteArray} {q : Int} (h1 : nameB (kb n) = true) (h2 : n ≠ evB) (h3 : nameB (kb p) = true) (h4 : (decide (0 ≤ q) && decide (q ≤ 200)) = true) : okU (n, p, q) = true := by
  unfold okU
  rw [h1, h3, h4, ne_kb h2]
  rfl
theorem two_int {N : Nat} {z : Bool} (h : (decide (1 ≤ N) && decide (N ≤ 4)) = z) : (decide ((1 : Int) ≤ (N : Int)) && decide ((N : Int) ≤ 4)) = z := by
  rw [← h]
  congr 1 <;> (simp only [decide_eq_decide]; omega)
set_option maxRecDepth 20000 in
set_option maxHeartbeats 8000000 in
theorem spec_usersvalid {A : Option Addr} {N cap : Nat} {L : List Us} (w : World) (h : UIn w A N cap L) : Calls Tryz.prog 48 #[.slice A N cap] w (SayB w (vU L)) := by
  have H := Lib.hid h
  have hl := h.2.1
  clear h
  go_enter Tryz.func48, Tryz.ntmps48
  go_wp2
  go_loopw [3] (fun i wr => ∃ k : Nat, k ≤ N ∧ i = .int .i64 (k : Int) ∧ Hid (goodU L k) ∧ Hid (Below w.heap.size w wr)) (fun i _ => N - (intOf i).toNat)
  case atStart => exact ⟨0, Nat.zero_le _, by go_num, goodU_zero L, Below.refl _ _⟩
  case round =>
    obtain ⟨k, hk, rfl, HG, HB⟩ := hrel
    by_cases hlt : k < N
    · have h0 : (0 : Int) ≤ (k : Int) := by omega
      have h5 : (k : Int) < (N : Int) := by omega
      obtain ⟨⟨n, p, q⟩, hx⟩ : ∃ x, L[k]? = some x := ⟨_, List.getElem?_eq_getElem (by rw [H.out.1]; exact hlt)⟩
      have hnp := H.out.2.2.2.2.2 (n, p, q) (List.mem_of_getElem? hx)
      have hn : n.size ≤ 16777216 := hnp.1
      have hp : p.size ≤ 16777216 := hnp.2
      have hR := H.out.2.2.1.below HB.out (Nat.le_refl _)
      obtain ⟨b, o, rfl, hb, c0, c1, c2⟩ := user_at hR hx
      have HX := Lib.hid hx
      obtain ⟨B, hB⟩ : ∃ B, wr.heap.size = B := ⟨_, rfl⟩
      have HA0 := Lib.hid (HB.out.alloc HB.out.size (.cells #[.string n, .string p, .int .i64 q] 35))
      have hbB : b < B := by omega
      clear hx hnp
      obtain ⟨wo, hwo⟩ : ∃ wo, wr.alloc (.cells #[.string n, .string p, .int .i64 q] 35) = wo := ⟨_, rfl⟩
      have hsz : wo.heap.size = B + 1 := by rw [← hwo, ← hB]; simp
      have HWO := Lib.hid (show Whole wo B 35 #[.string n, .string p, .int .i64 q] by rw [← hwo, ← hB]; exact Whole.made wr 35 #[.string n, .string p, .int .i64 q])
      rw [hwo] at HA0
      have HRO : Hid (RAt usR wo (some ⟨b, o, none⟩) L) := Lib.hid (H.out.2.2.1.below HA0.out (Nat.le_refl _))
      have g0 := HWO.out.cell 0
      have g1 := HWO.out.cell 1
      have g2 := HWO.out.cell 2
      simp at g0 g1 g2
      have HHW := Lib.hid hwo
      have hbo : b < wo.heap.size := by omega
      have HSZ : Hid (B + 1 ≤ wo.heap.size) := Lib.hid (by omega)
      have HBB : Hid (w.heap.size ≤ B + 1) := Lib.hid (by have := HB.out.size; omega)
      have l0 : ∀ x : Later (B + 1) wo, x.v.cell? ⟨B, 0, none⟩ = some (.string n) := fun x => x.cell (by simp) g0
      have l1 : ∀ x : Later (B + 1) wo, x.v.cell? ⟨B, 1, none⟩ = some (.string p) := fun x => x.cell (by simp) g1
      have l3 : ∀ x : Later (B + 1) wo, x.v.cell? ⟨B, 2, none⟩ = some (.int .i64 q) := fun x => x.cell (by simp) g2
      clear hwo
      cases h1 : nameB (kb n) with
      | false =>
        have HN := Lib.hid h1
        have HE := Lib.hid (vU_bad HX.out (okU_bad1 h1))
        clear h1 hR
        go_wp2
        rw [HHW.out]
        refine wp_region_later (B + 1) wo (by kernel_rfl) (by kernel_rfl) ?_
        repeat (go_big_quiet_step ((go_at_call 82; with_reducible refine (sname_at HN.out hn _).mono ?_; rintro e w2 ⟨rfl, rfl⟩; exact ⟨rfl, _, rfl⟩)))
        refine wpQuiet_nil ?_
        intro _ hw'
        obtain ⟨⟨w2, hb2⟩, rfl⟩ := hw'
        have H6 := Lib.hid (HA0.out.trans (hb2.mono HBB.out))
        clear hb2
        go_wp2
        go_ret
        exact says_b HE.out H6.out
      | true =>
        have HN := Lib.hid h1
        by_cases h2 : n = evB
        · subst h2
          have HE := Lib.hid (vU_bad HX.out okU_bad0)
          have hv := ev_walk'
          clear h1 hR
          go_wp2
          rw [HHW.out]
          refine wp_region_later (B + 1) wo (by kernel_rfl) (by kernel_rfl) ?_
          repeat (go_big_quiet_step ((go_at_call 82; with_reducible refine (sname_at HN.out hn _).mono ?_; rintro e w2 ⟨rfl, rfl⟩; exact ⟨rfl, _, rfl⟩)))
          refine wpQuiet_nil ?_
          intro _ hw'
          obtain ⟨⟨w2, hb2⟩, rfl⟩ := hw'
          have H6 := Lib.hid (HA0.out.trans (hb2.mono HBB.out))
          clear hb2
          go_wp2
          go_ret
          exact says_b HE.out H6.out
        · obtain ⟨v1, v2, v3⟩ := ev_walk h2
          cases h3 : nameB (kb p) with
          | false =>
            have HP := Lib.hid h3
            have HE := Lib.hid (vU_bad HX.out (okU_bad2 h3))
            clear h1 h2 h3 hR v3
            go_wp2
            rw [HHW.out]
            refine wp_region_later (B + 1) wo (by kernel_rfl) (by kernel_rfl) ?_
            repeat (go_big_quiet_step (first | (go_at_call 82; with_reducible refine (sname_at HN.out hn _).mono ?_; rintro e w2 ⟨rfl, rfl⟩; exact ⟨rfl, _, rfl⟩) | (go_at_call 82; with_reducible refine (sname_at HP.out hp _).mono ?_; rintro e w2 ⟨rfl, rfl⟩; exact ⟨rfl, _, rfl⟩)))
            refine wpQuiet_nil ?_
            intro _ hw'
            obtain ⟨⟨w2, hb2⟩, rfl⟩ := hw'
            have H6 := Lib.hid (HA0.out.trans (hb2.mono HBB.out))
            clear hb2
            go_wp2
            go_ret
            exact says_b HE.out H6.out
          | true =>
            have HP := Lib.hid h3
            cases h4 : (decide (0 ≤ q) && decide (q ≤ 200)) with
            | false =>
              have HI := Lib.hid h4
              have HE := Lib.hid (vU_bad HX.out (okU_bad3 h4))
              clear h1 h2 h3 h4 hR v3
              go_wp2
              rw [HHW.out]
              refine wp_region_later (B + 1) wo (by kernel_rfl) (by kernel_rfl) ?_
              repeat (go_big_quiet_step (first | (go_at_call 82; with_reducible refine (sname_at HN.out hn _).mono ?_; rintro e w2 ⟨rfl, rfl⟩; exact ⟨rfl, _, rfl⟩) | (go_at_call 82; with_reducible refine (sname_at HP.out hp _).mono ?_; rintro e w2 ⟨rfl, rfl⟩; exact ⟨rfl, _, rfl⟩) | (go_at_call 80; refine (sin_at HI.out _).mono ?_; rintro e w2 ⟨rfl, rfl⟩; exact ⟨rfl, _, rfl⟩)))
              refine wpQuiet_nil ?_
              intro _ hw'
              obtain ⟨⟨w2, hb2⟩, rfl⟩ := hw'
              have H6 := Lib.hid (HA0.out.trans (hb2.mono HBB.out))
              clear hb2
              go_wp2
              go_ret
              exact says_b HE.out H6.out
            | true =>
              have HI := Lib.hid h4
              have HO := Lib.hid (okU_yes h1 h2 h3 h4)
              clear h1 h2 h3 h4 v3
              obtain rfl | ⟨j, rfl⟩ : k = 0 ∨ ∃ j, k = j + 1 := by
                cases k with
                | zero => exact .inl rfl
                | succ j => exact .inr ⟨j, rfl⟩
              ·
                simp only [Nat.zero_mul, Nat.add_zero] at c0 c1 c2
                have HE := Lib.hid (goodU_first HX.out HO.out)
                clear hR
                go_wp2
                rw [HHW.out]
                refine wp_region_later (B + 1) wo (by kernel_rfl) (by kernel_rfl) ?_
                repeat (go_big_quiet_step (first | (go_at_call 82; with_reducible refine (sname_at HN.out hn _).mono ?_; rintro e w2 ⟨rfl, rfl⟩; exact ⟨rfl, _, rfl⟩) | (go_at_call 82; with_reducible refine (sname_at HP.out hp _).mono ?_; rintro e w2 ⟨rfl, rfl⟩; exact ⟨rfl, _, rfl⟩) | (go_at_call 80; refine (sin_at HI.out _).mono ?_; rintro e w2 ⟨rfl, rfl⟩; exact ⟨rfl, _, rfl⟩)))
                refine wpQuiet_nil ?_
                intro _ hw'
                obtain ⟨⟨w2, hb2⟩, rfl⟩ := hw'
                have H6 := Lib.hid (HA0.out.trans (hb2.mono HBB.out))
                clear hb2
                go_wp2
                go_roundw
                case rel => exact ⟨1, by omega, by go_num, HE.out, H6.out⟩
                case measure => simp [intOf]; omega
              ·
                obtain ⟨⟨v, p', q'⟩, hy⟩ : ∃ x, L[j]? = some x := ⟨_, List.getElem?_eq_getElem (by rw [H.out.1]; omega)⟩
                have HY := Lib.hid hy
                obtain ⟨b', o', he, _, d0, _, _⟩ := user_at HRO.out hy
                cases he
                have j0 : (0 : Int) < ((j + 1 : Nat) : Int) := by omega
                have j1 : (0 : Int) ≤ (j : Int) := by omega
                have j2 : (j : Int) < (N : Int) := by omega
                have W1 : IntKind.i64.wrap (((j + 1 : Nat) : Int) - 1) = (j : Int) := by rw [IntWalk.i64_in _ (by omega)]; omega
                clear hy hR
                cases hlg : ltG v n with
                | false =>
                  have HL := lessW hlg
                  have HE := Lib.hid (vU_order HY.out HX.out hlg)
                  clear hlg
                  go_wp2
                  rw [HHW.out]
                  have l2 : ∀ x : Later (B + 1) wo, x.v.cell? ⟨b, o + j * 3, none⟩ = some (.string v) := fun x => x.cell (by simp; omega) d0
                  refine wp_region_later (B + 1) wo (by kernel_rfl) (by kernel_rfl) ?_
                  repeat (go_big_quiet_step (first | (go_at_call 82; with_reducible refine (sname_at HN.out hn _).mono ?_; rintro e w2 ⟨rfl, rfl⟩; exact ⟨rfl, _, rfl⟩) | (go_at_call 82; with_reducible refine (sname_at HP.out hp _).mono ?_; rintro e w2 ⟨rfl, rfl⟩; exact ⟨rfl, _, rfl⟩) | (go_at_call 80; refine (sin_at HI.out _).mono ?_; rintro e w2 ⟨rfl, rfl⟩; exact ⟨rfl, _, rfl⟩)))
                  refine wpQuiet_nil ?_
                  intro _ hw'
                  obtain ⟨⟨w2, hb2⟩, rfl⟩ := hw'
                  have H6 := Lib.hid (HA0.out.trans (hb2.mono HBB.out))
                  clear hb2
                  go_wp2
                  go_ret
                  exact says_b HE.out H6.out
                | true =>
                  have HL := lessW hlg
                  have HE := Lib.hid (goodU_next HG.out HY.out HX.out HO.out hlg)
                  clear hlg
                  go_wp2
                  rw [HHW.out]
                  have l2 : ∀ x : Later (B + 1) wo, x.v.cell? ⟨b, o + j * 3, none⟩ = some (.string v) := fun x => x.cell (by simp; omega) d0
                  refine wp_region_later (B + 1) wo (by kernel_rfl) (by kernel_rfl) ?_
                  repeat (go_big_quiet_step (first | (go_at_call 82; with_reducible refine (sname_at HN.out hn _).mono ?_; rintro e w2 ⟨rfl, rfl⟩; exact ⟨rfl, _, rfl⟩) | (go_at_call 82; with_reducible refine (sname_at HP.out hp _).mono ?_; rintro e w2 ⟨rfl, rfl⟩; exact ⟨rfl, _, rfl⟩) | (go_at_call 80; refine (sin_at HI.out _).mono ?_; rintro e w2 ⟨rfl, rfl⟩; exact ⟨rfl, _, rfl⟩)))
                  refine wpQuiet_nil ?_
                  intro _ hw'
                  obtain ⟨⟨w2, hb2⟩, rfl⟩ := hw'
                  have H6 := Lib.hid (HA0.out.trans (hb2.mono HBB.out))
                  clear hb2
                  go_wp2
                  go_roundw
                  case rel => exact ⟨j + 1 + 1, by omega, by go_num, HE.out, H6.out⟩
                  case measure => simp [intOf]; omega
    · have h5 : ¬ (k : Int) < (N : Int) := by omega
      have hv := goodU_all HG.out (by rw [H.out.1]; omega)
      rw [H.out.1] at hv
      obtain ⟨z, hz⟩ : ∃ z, vU L = z := ⟨_, rfl⟩
      have HI := Lib.hid (two_int (hv.symm.trans hz))
      have HZ := Lib.hid hz
      clear hv hz
      go_wp2_with fail
      refine (sin_at HI.out _).mono ?_
      rintro e w2 ⟨rfl, rfl⟩
      go_wp2
      go_ret
      exact says_b HZ.out HB.out
theorem spec_uv {A : Option Addr} {N cap : Nat} {L : List Us} {z : Bool} (h : vU L = z) (w : World) (hi : UIn w A N cap L) : Calls Tryz.prog 48 #[.slice A N cap] w (SayB w z) := by
  subst h
  exact spec_usersvalid w hi
set_option maxRecDepth 20000 in
set_option maxHeartbeats 2000000 in
theorem spec_l14 {A : Option Addr} {N cap : Nat} {L : List Us} {n : ByteArray} {z : Int} (hz : ixG L n 0 = z) (w : World) (h : UIn w A N cap L) : Calls Tryz.prog 98 #[.slice A N cap, .string n] w fun e w' => e = .returned (.int .i64 z) ∧ w' = w := by
  have H := Lib.hid h
  have HZ := Lib.hid hz
  have hl := h.2.1
  clear h hz
  go_enter Tryz.func98, Tryz.ntmps98
  go_wp2
  go_loopw [5] (fun i wr => ∃ k : Nat, k ≤ N ∧ i = .int .i64 (k : Int) ∧ Hid (ixG L n 0 = ixG (L.drop k) n k) ∧ wr = w) (fun i _ => N - (intOf i).toNat)
  case atStart => exact ⟨0, Nat.zero_le _, by go_num, rfl, rfl⟩
  case round =>
    obtain ⟨k, hk, rfl, HT, rfl⟩ := hrel
    by_cases hlt : k < N
    · have h0 : (0 : Int) ≤ (k : Int) := by omega
      have h5 : (k : Int) < (N : Int) := by omega
      obtain ⟨⟨m, p, q⟩, hx⟩ : ∃ x, L[k]? = some x := ⟨_, List.getElem?_eq_getElem (by rw [H.out.1]; exact hlt)⟩
      obtain ⟨b, o, rfl, hb, c0, c1, c2⟩ := user_at H.out.2.2.1 hx
      have HX := Lib.hid hx
      clear hx
      by_cases e1 : m = n
      · subst e1
        go_wp2
        go_ret
        exact ⟨ret_i (by rw [← HZ.out, HT.out]; exact (ixG_here HX.out).symm), rfl⟩
      · obtain ⟨hne, hne'⟩ := ne_walk e1
        have HE := Lib.hid (HT.out.trans (ixG_skip HX.out e1))
        clear e1
        go_wp2
        go_roundw
        case rel => exact ⟨k + 1, by omega, by go_num, HE.out, trivial⟩
        case measure => simp [intOf]; omega
    · have h5 : ¬ (k : Int) < (N : Int) := by omega
      have HE : Hid (z = -1) := Lib.hid (by rw [← HZ.out, HT.out, List.drop_eq_nil_of_le (by rw [H.out.1]; omega)]; rfl)
      go_wp2
      go_ret
      exact ⟨ret_i HE.out.symm, rfl⟩
set_option maxRecDepth 20000 in
set_option maxHeartbeats 4000000 in
theorem spec_uf {A : Option Addr} {N cap : Nat} {L : List Us} {n : ByteArray} {u : Us} {z : Bool} (hf : usF L n = (u, z)) (w : World) (h : UIn w A N cap L) : Calls Tryz.prog 141 #[.slice A N cap, .string n] w (GivesU w u z) := by
  have H := Lib.hid h
  have hl := h.2.1
  clear h
  obtain ⟨B, hB⟩ : ∃ B, w.heap.size = B := ⟨_, rfl⟩
  obtain ⟨wa, hwa⟩ : ∃ wa, w.alloc (.cells #[.string ⟨#[]⟩, .string ⟨#[]⟩, .int .i64 0] 35) = wa := ⟨_, rfl⟩
  have HW0 := Lib.hid (show Whole wa B 35 #[.string ⟨#[]⟩, .string ⟨#[]⟩, .int .i64 0] by rw [← hwa, ← hB]; exact Whole.made _ _ _)
  have HB0 := Lib.hid (show Below B w wa by rw [← hwa, ← hB]; exact (Below.refl _ _).alloc (Nat.le_refl _) _)
  have HI0 := Lib.hid (H.out.below HB0.out (Nat.le_of_eq hB))
  have HWA := Lib.hid hwa
  have HBB := Lib.hid hB
  clear hwa hB
  cases hv : vU L with
  | false =>
    have HE : Hid ((noU, false) = (u, z)) := Lib.hid ((usF_no n hv).symm.trans hf)
    have HV := Lib.hid hv
    clear hv hf
    go_enter Tryz.func141, Tryz.ntmps141
    go_wp2_with fail
    rw [HWA.out, HBB.out]
    refine (spec_uv HV.out _ HI0.out).mono ?_
    rintro e w1 ⟨rfl, hb⟩
    have HW1 := Lib.hid (HW0.out.below hb HW0.out.lt)
    have HB1 := Lib.hid (HB0.out.trans (hb.mono (Nat.le_of_lt HW0.out.lt)))
    have HI1 := Lib.hid (HI0.out.below hb (Nat.le_refl _))
    clear hb
    have z0 := HW1.out.cell 0
    have z1 := HW1.out.cell 1
    have z2 := HW1.out.cell 2
    have f0 := HW1.out.free 0
    have f1 := HW1.out.free 1
    have f2 := HW1.out.free 2
    simp at z0 z1 z2
    have HS := Lib.hid (put_user HW1.out ⟨#[]⟩ ⟨#[]⟩ 0)
    have r0 := HS.out.cell 0
    have r1 := HS.out.cell 1
    have r2 := HS.out.cell 2
    simp at r0 r1 r2
    go_wp2
    refine bodyPost_ret (v := .tuple #[usV noU, .bool false]) (by simp [results, Tryz.results141, go_sem, usV, noU, r0, r1, r2]) rfl ?_
    exact gives_u HE.out.symm (((HBB.out.symm ▸ HB1.out).setCell (Nat.le_of_eq HBB.out) _).setCell (Nat.le_of_eq HBB.out) _ |>.setCell (Nat.le_of_eq HBB.out) _)
  | true =>
    have HV := Lib.hid hv
    rcases ixG_case L n 0 with ⟨hx, hi⟩ | ⟨j, x, hj, hx, hi⟩
    · have HE : Hid ((noU, false) = (u, z)) := Lib.hid ((usF_none hv hx).symm.trans hf)
      have HX := Lib.hid hi
      clear hv hf hx hi
      go_enter Tryz.func141, Tryz.ntmps141
      go_wp2_with fail
      rw [HWA.out, HBB.out]
      refine (spec_uv HV.out _ HI0.out).mono ?_
      rintro e w1 ⟨rfl, hb⟩
      have HW1 := Lib.hid (HW0.out.below hb HW0.out.lt)
      have HB1 := Lib.hid (HB0.out.trans (hb.mono (Nat.le_of_lt HW0.out.lt)))
      have HI1 := Lib.hid (HI0.out.below hb (Nat.le_refl _))
      clear hb
      go_wp2_with fail
      refine (spec_l14 HX.out _ HI1.out).mono ?_
      rintro e w2 ⟨rfl, rfl⟩
      have z0 := HW1.out.cell 0
      have z1 := HW1.out.cell 1
      have z2 := HW1.out.cell 2
      have f0 := HW1.out.free 0
      have f1 := HW1.out.free 1
      have f2 := HW1.out.free 2
      simp at z0 z1 z2
      have HS := Lib.hid (put_user HW1.out ⟨#[]⟩ ⟨#[]⟩ 0)
      have r0 := HS.out.cell 0
      have r1 := HS.out.cell 1
      have r2 := HS.out.cell 2
      simp at r0 r1 r2
      go_wp2
      refine bodyPost_ret (v := .tuple #[usV noU, .bool false]) (by simp [results, Tryz.results141, go_sem, usV, noU, r0, r1, r2]) rfl ?_
      exact gives_u HE.out.symm (((HBB.out.symm ▸ HB1.out).setCell (Nat.le_of_eq HBB.out) _).setCell (Nat.le_of_eq HBB.out) _ |>.setCell (Nat.le_of_eq HBB.out) _)
    · have HE : Hid ((x, true) = (u, z)) := Lib.hid ((usF_yes hv hx).symm.trans hf)
      rw [Nat.zero_add] at hi
      have hjN : j < N := by rw [← H.out.1]; exact (List.getElem?_eq_some_iff.1 hj).1
      have j0 : (0 : Int) ≤ (j : Int) := by omega
      have j1 : ¬ (j : Int) < 0 := by omega
      have j2 : (j : Int) < (N : Int) := by omega
      have HX := Lib.hid hi
      have HJ := Lib.hid hj
      clear hv hf hx hi hj
      obtain ⟨n1, p1, q1⟩ := x
      go_enter Tryz.func141, Tryz.ntmps141
      go_wp2_with fail
      rw [HWA.out, HBB.out]
      refine (spec_uv HV.out _ HI0.out).mono ?_
      rintro e w1 ⟨rfl, hb⟩
      have HW1 := Lib.hid (HW0.out.below hb HW0.out.lt)
      have HB1 := Lib.hid (HB0.out.trans (hb.mono (Nat.le_of_lt HW0.out.lt)))
      have HI1 := Lib.hid (HI0.out.below hb (Nat.le_refl _))
      clear hb
      go_wp2_with fail
      refine (spec_l14 HX.out _ HI1.out).mono ?_
      rintro e w2 ⟨rfl, rfl⟩
      obtain ⟨b, o, rfl, hbz, c0, c1, c2⟩ := user_at HI1.out.2.2.1 HJ.out
      have z0 := HW1.out.cell 0
      have z1 := HW1.out.cell 1
      have z2 := HW1.out.cell 2
      have f0 := HW1.out.free 0
      have f1 := HW1.out.free 1
      have f2 := HW1.out.free 2
      simp at z0 z1 z2
      have HS := Lib.hid (put_user HW1.out n1 p1 q1)
      have r0 := HS.out.cell 0
      have r1 := HS.out.cell 1
      have r2 := HS.out.cell 2
      simp at r0 r1 r2
      go_wp2_with fail
      refine (spec_l14 HX.out _ HI1.out).mono ?_
      rintro e w2 ⟨rfl, rfl⟩
      go_wp2
      refine bodyPost_ret (v := .tuple #[usV (n1, p1, q1), .bool true]) (by simp [results, Tryz.results141, go_sem, usV, r0, r1, r2]) rfl ?_
      exact gives_u HE.out.symm (((HBB.out.symm ▸ HB1.out).setCell (Nat.le_of_eq HBB.out) _).setCell (Nat.le_of_eq HBB.out) _ |>.setCell (Nat.le_of_eq HBB.out) _)
set_option maxRecDepth 20000 in
set_option maxHeartbeats 4000000 in
theorem spec_up {A : Option Addr} {N cap : Nat} {L : List Us} {n p : ByteArray} {z : Bool} (hz : prU L n p = z) (w : World) (h : UIn w A N cap L) : Calls Tryz.prog 129 #[.slice A N cap, .string n, .string p] w (SayB w z) := by
  have H := Lib.hid h
  clear h
  obtain ⟨⟨⟨n1, p1, q1⟩, y⟩, hf⟩ : ∃ x, usF L n = x := ⟨_, rfl⟩
  have HF := Lib.hid hf
  have hz2 := (prU_is (p := p) hf).symm.trans hz
  clear hf hz
  have hw : ∀ w1 : World, Below w.heap.size w w1 → Below w.heap.size w (w1.alloc (.cells #[.string n1, .string p1, .int .i64 q1] 35)) := fun w1 h1 => h1.alloc h1.size _
  have HWW := Lib.hid hw
  clear hw
  cases y with
  | false =>
    have HZ : Hid (false = z) := Lib.hid hz2
    clear hz2
    go_enter Tryz.func129, Tryz.ntmps129
    go_wp2_with fail
    refine (spec_uf HF.out _ H.out).mono ?_
    rintro e w1 ⟨rfl, hb⟩
    have HB1 := Lib.hid hb
    clear hb
    unfold usV
    go_wp2
    go_ret
    exact says_b HZ.out.symm (HWW.out _ HB1.out)
  | true =>
    by_cases he : p1 = p
    · subst he
      have HZ : Hid (true = z) := Lib.hid (by rw [← hz2]; simp)
      clear hz2
      go_enter Tryz.func129, Tryz.ntmps129
      go_wp2_with fail
      refine (spec_uf HF.out _ H.out).mono ?_
      rintro e w1 ⟨rfl, hb⟩
      have HB1 := Lib.hid hb
      have c1 := (Whole.made w1 35 #[.string n1, .string p1, .int .i64 q1]).cell 1
      simp at c1
      clear hb
      unfold usV
      go_wp2
      go_ret
      exact says_b HZ.out.symm (HWW.out _ HB1.out)
    · have HZ : Hid (false = z) := Lib.hid (by rw [← hz2, ne_kb he]; rfl)
      obtain ⟨v1, v2⟩ := ne_walk he
      clear hz2 he
      go_enter Tryz.func129, Tryz.ntmps129
      go_wp2_with fail
      refine (spec_uf HF.out _ H.out).mono ?_
      rintro e w1 ⟨rfl, hb⟩
      have HB1 := Lib.hid hb
      have c1 := (Whole.made w1 35 #[.string n1, .string p1, .int .i64 q1]).cell 1
      simp at c1
      clear hb
      unfold usV
      go_wp2
      go_ret
      exact says_b HZ.out.symm (HWW.out _ HB1.out)
set_option maxRecDepth 20000 in
set_option maxHeartbeats 4000000 in
theorem spec_upl {A : Option Addr} {N cap : Nat} {L : List Us} {t n p x : ByteArray} {o z : Bool} (hp : IsPP t o n p) (hz : upU L n p o = (x, z)) (w : World) (h : UIn w A N cap L) (ht : t.size ≤ 16777216) : Calls Tryz.prog 108 #[.slice A N cap, .string t] w (GivesX w x z) := by
  have H := Lib.hid h
  have HP := Lib.hid hp
  clear h hp
  cases o with
  | false =>
    have HZ : Hid (((⟨#[]⟩ : ByteArray), false) = (x, z)) := Lib.hid hz
    clear hz
    go_enter Tryz.func108, Tryz.ntmps108
    go_wp2_with fail
    refine (splain HP.out _ ht).mono ?_
    rintro e w1 ⟨rfl, hb⟩
    have HB1 := Lib.hid hb
    clear hb
    go_wp2
    go_ret2
    exact gives_x HZ.out.symm HB1.out
  | true =>
    obtain ⟨y, hy⟩ : ∃ y, prU L n p = y := ⟨_, rfl⟩
    have HY := Lib.hid hy
    cases y with
    | false =>
      have HZ : Hid (((⟨#[]⟩ : ByteArray), false) = (x, z)) := Lib.hid (by rw [← hz]; unfold upU; rw [hy]; rfl)
      clear hz hy
      go_enter Tryz.func108, Tryz.ntmps108
      go_wp2_with fail
      refine (splain HP.out _ ht).mono ?_
      rintro e w1 ⟨rfl, hb⟩
      have HB1 := Lib.hid hb
      have HI1 := Lib.hid (H.out.below hb (Nat.le_refl _))
      clear hb
      go_wp2_with fail
      refine (spec_up HY.out _ HI1.out).mono ?_
      rintro e w2 ⟨rfl, hb⟩
      have HB2 := Lib.hid (HB1.out.trans (hb.mono HB1.out.size))
      clear hb
      go_wp2
      go_ret2
      exact gives_x HZ.out.symm HB2.out
    | true =>
      have HZ : Hid ((n, true) = (x, z)) := Lib.hid (by rw [← hz]; unfold upU; rw [hy]; rfl)
      clear hz hy
      go_enter Tryz.func108, Tryz.ntmps108
      go_wp2_with fail
      refine (splain HP.out _ ht).mono ?_
      rintro e w1 ⟨rfl, hb⟩
      have HB1 := Lib.hid hb
      have HI1 := Lib.hid (H.out.below hb (Nat.le_refl _))
      clear hb
      go_wp2_with fail
      refine (spec_up HY.out _ HI1.out).mono ?_
      rintro e w2 ⟨rfl, hb⟩
      have HB2 := Lib.hid (HB1.out.trans (hb.mono HB1.out.size))
      clear hb
      go_wp2
      go_ret2
      exact gives_x HZ.out.symm HB2.out
end Go.Proofs.YtichajalinkcdaaGreatDoor
namespace Go.Proofs.YtichajalinkcdaaGreatDoor
open Go.RowKit
set_option linter.unusedVariables false


set_option maxRecDepth 20000 in
set_option maxHeartbeats 4000000 in
theorem spec_auth (st : Int) (us tx u : ByteArray) (ok : Bool) (T W : List ByteArray) (L : List Us) (A AW AU : Option Addr) (N cap NW cW NU cU : Nat) (w : World) (h : SIn w A N cap T) (hw : WIn w AW NW W) (hL : UIn w AU NU cU L) (hs8 : ∀ x ∈ W, x.size ≤ 2097152) (hup : W.length = 3 → IsUp L (W.getD 2 eB) u ok) : Calls Tryz.prog 86 #[.agg #[.int .i64 st, .string us, .slice A N cap, .string tx], .slice AU NU cU, .slice AW NW cW] w (GiveS w A (authF ⟨st, us, T, tx⟩ W u ok)) := by
  have HWI := Lib.hid hw
  have hwb := hw.below (two_made w #[.int .i64 st, .string us, .slice A N cap, .string tx] #[.int .i64 0, .string ⟨#[]⟩, .slice none 0 0, .string ⟨#[]⟩]).2.2 (Nat.le_refl _)
  have HWB := Lib.hid hwb
  have HL := Lib.hid (hL.below (two_made w #[.int .i64 st, .string us, .slice A N cap, .string tx] #[.int .i64 0, .string ⟨#[]⟩, .slice none 0 0, .string ⟨#[]⟩]).2.2 (Nat.le_refl _))
  have HUP := Lib.hid hup
  clear hw hwb hL hup
  have HI := Lib.hid h
  obtain ⟨hs, hr, hB⟩ := two_made w #[.int .i64 st, .string us, .slice A N cap, .string tx] #[.int .i64 0, .string ⟨#[]⟩, .slice none 0 0, .string ⟨#[]⟩]
  have c0 := hs.cell 0
  have c1 := hs.cell 1
  have c2 := hs.cell 2
  have c3 := hs.cell 3
  have z0 := hr.cell 0
  have z1 := hr.cell 1
  have z2 := hr.cell 2
  have z3 := hr.cell 3
  have f0 := hr.free 0
  have f1 := hr.free 1
  have f2 := hr.free 2
  have f3 := hr.free 3
  simp only [List.getElem?_toArray, List.getElem?_cons_zero, List.getElem?_cons_succ] at c0 c1 c2 c3 z0 z1 z2 z3
  have HS := Lib.hid hs
  have HR := Lib.hid hr
  have HB := Lib.hid hB
  clear h hs hr hB
  have hne : ∀ q, A = some q → q.block ≠ w.heap.size + 1 := fun q e => by have := HI.out.lt q e; omega
  have HNE := Lib.hid hne
  clear hne
  by_cases h1 : st = 1
  ·
    subst h1
    by_cases h3 : NW = 3
    ·
      subst h3
      obtain ⟨x, hx⟩ : ∃ x, W[1]? = some x := ⟨_, List.getElem?_eq_getElem (by rw [HWI.out.1]; omega)⟩
      obtain ⟨y, hy⟩ : ∃ y, W[2]? = some y := ⟨_, List.getElem?_eq_getElem (by rw [HWI.out.1]; omega)⟩
      have hgx : W.getD 1 eB = x := by rw [List.getD_eq_getElem?_getD, hx]; rfl
      have hgy : W.getD 2 eB = y := by rw [List.getD_eq_getElem?_getD, hy]; rfl
      have hys : y.size ≤ 16777216 := Nat.le_trans (hs8 y (List.mem_of_getElem? hy)) (by omega)
      obtain ⟨b, o, rfl, hb, k0⟩ := str_at HWB.out.2 hx
      obtain ⟨b', o', hA', _, k1⟩ := str_at HWB.out.2 hy
      cases hA'
      clear hx hy hs8
      have HU : Hid (IsUp L y u ok) := Lib.hid (by rw [← hgy]; exact HUP.out HWI.out.1)
      by_cases hp : x = wPLAIN
      ·
        subst hp
        unfold wPLAIN at k0
        obtain ⟨pk, pn, pp, hp1, hp2⟩ := HU.out
        have HP1 := Lib.hid hp1
        have HP2 := Lib.hid hp2
        have HGX := Lib.hid hgx
        clear hp1 hp2 hgy hgx
        cases ok with
        | false =>
          have HE : Hid (authF ⟨1, us, T, tx⟩ W u false = (⟨1, us, T, tx⟩, 535)) := Lib.hid (by unfold authF; rw [if_neg (by simp), if_pos ⟨HWI.out.1, HGX.out⟩, if_neg (by simp)])
          go_enter Tryz.func86, Tryz.ntmps86
          go_wp2_with fail
          refine (spec_upl HP1.out HP2.out _ HL.out hys).mono ?_
          rintro e w2 ⟨rfl, hb2⟩
          have HS2 := Lib.hid (HS.out.below hb2 HS.out.lt)
          have HR2 := Lib.hid (HR.out.below hb2 HR.out.lt)
          have HB2 := Lib.hid (HB.out.trans (hb2.mono HB.out.size))
          have HZ2 : Hid (w.heap.size + 1 < w2.heap.size) := Lib.hid HR2.out.lt
          clear hb2 c0 c1 c2 c3 z0 z1 z2 z3 f0 f1 f2 f3 k0 k1
          have hs := HS2.out
          have hr := HR2.out
          have c0 := hs.cell 0
          have c1 := hs.cell 1
          have c2 := hs.cell 2
          have c3 := hs.cell 3
          have z0 := hr.cell 0
          have z1 := hr.cell 1
          have z2 := hr.cell 2
          have z3 := hr.cell 3
          have f0 := hr.free 0
          have f1 := hr.free 1
          have f2 := hr.free 2
          have f3 := hr.free 3
          simp only [List.getElem?_toArray, List.getElem?_cons_zero, List.getElem?_cons_succ] at c0 c1 c2 c3 z0 z1 z2 z3
          have hf := put_sb hr (.int .i64 1) (.string us) (.slice A N cap) (.string tx)
          have r0 := hf.cell 0
          have r1 := hf.cell 1
          have r2 := hf.cell 2
          have r3 := hf.cell 3
          simp only [List.getElem?_toArray, List.getElem?_cons_zero, List.getElem?_cons_succ] at r0 r1 r2 r3
          clear hs hr hf
          go_wp2
          refine bodyPost_ret (v := .tuple #[.agg #[.int .i64 1, .string us, .slice A N cap, .string tx], .int .i64 535]) (by simp [results, Tryz.results86, go_sem, r0, r1, r2, r3]) rfl ?_
          rw [HE.out]
          exact ⟨_, _, _, rfl, (HI.out.below HB2.out (Nat.le_refl _)).set4 HNE.out _ _ _ _, Fr.same _ _, below_set4 HB2.out (by omega) _ _ _ _⟩
        | true =>
          have HE : Hid (authF ⟨1, us, T, tx⟩ W u true = (⟨2, u, [], eB⟩, 235)) := Lib.hid (by unfold authF; rw [if_neg (by simp), if_pos ⟨HWI.out.1, HGX.out⟩, if_pos rfl])
          go_enter Tryz.func86, Tryz.ntmps86
          go_wp2_with fail
          refine (spec_upl HP1.out HP2.out _ HL.out hys).mono ?_
          rintro e w2 ⟨rfl, hb2⟩
          have HS2 := Lib.hid (HS.out.below hb2 HS.out.lt)
          have HR2 := Lib.hid (HR.out.below hb2 HR.out.lt)
          have HB2 := Lib.hid (HB.out.trans (hb2.mono HB.out.size))
          have HZ2 : Hid (w.heap.size + 1 < w2.heap.size) := Lib.hid HR2.out.lt
          clear hb2 c0 c1 c2 c3 z0 z1 z2 z3 f0 f1 f2 f3 k0 k1
          have hr0 := HR2.out
          have hr := hr0.alloc (.cells #[] 9)
          have z0 := hr.cell 0
          have z1 := hr.cell 1
          have z2 := hr.cell 2
          have z3 := hr.cell 3
          have f0 := hr.free 0
          have f1 := hr.free 1
          have f2 := hr.free 2
          have f3 := hr.free 3
          simp only [List.getElem?_toArray, List.getElem?_cons_zero, List.getElem?_cons_succ] at z0 z1 z2 z3
          have y0 := hr0.cell 0
          have y1 := hr0.cell 1
          have y2 := hr0.cell 2
          have y3 := hr0.cell 3
          have g0 := hr0.free 0
          have g1 := hr0.free 1
          have g2 := hr0.free 2
          have g3 := hr0.free 3
          simp only [List.getElem?_toArray, List.getElem?_cons_zero, List.getElem?_cons_succ] at y0 y1 y2 y3
          have hf := put_sb hr (.int .i64 2) (.string u) (.slice (some ⟨w2.heap.size, 0, none⟩) 0 0) (.string ⟨#[]⟩)
          have r0 := hf.cell 0
          have r1 := hf.cell 1
          have r2 := hf.cell 2
          have r3 := hf.cell 3
          simp only [List.getElem?_toArray, List.getElem?_cons_zero, List.getElem?_cons_succ] at r0 r1 r2 r3
          clear hr0 hr hf
          go_wp2
          refine bodyPost_ret (v := .tuple #[.agg #[.int .i64 2, .string u, .slice (some ⟨w2.heap.size, 0, none⟩) 0 0, .string ⟨#[]⟩], .int .i64 235]) (by simp [results, Tryz.results86, go_sem, r0, r1, r2, r3]) rfl ?_
          rw [HE.out]
          exact ⟨_, _, _, rfl, SIn.new _ (by simp [World.setCell]), Fr.new (by have := HZ2.out; omega), below_set4 (HB2.out.alloc HB2.out.size _) (by omega) _ _ _ _⟩
      ·
        obtain ⟨v1, v2, v3⟩ := lit_walk (xs := [80, 76, 65, 73, 78]) rfl hp
        have HE : Hid (authF ⟨1, us, T, tx⟩ W u ok = (⟨1, us, T, tx⟩, 501)) := Lib.hid (by unfold authF; rw [if_neg (by simp), if_neg (by rw [hgx]; exact fun h => hp h.2)])
        obtain ⟨_, hf, hfB⟩ := two_made w #[.int .i64 1, .string us, .slice A N cap, .string tx] #[.int .i64 1, .string us, .slice A N cap, .string tx]
        have r0 := hf.cell 0
        have r1 := hf.cell 1
        have r2 := hf.cell 2
        have r3 := hf.cell 3
        simp only [List.getElem?_toArray, List.getElem?_cons_zero, List.getElem?_cons_succ] at r0 r1 r2 r3
        have HFB := Lib.hid hfB
        clear hf hfB
        clear hp hgx hgy k1
        go_enter Tryz.func86, Tryz.ntmps86
        go_wp2
        refine bodyPost_ret (v := .tuple #[.agg #[.int .i64 1, .string us, .slice A N cap, .string tx], .int .i64 501]) (by simp [results, Tryz.results86, go_sem, r0, r1, r2, r3]) rfl ?_
        rw [HE.out]
        exact ⟨_, _, _, rfl, HI.out.below HFB.out (Nat.le_refl _), Fr.same _ _, HFB.out⟩
    ·
      have h3' : ((NW : Int) != 3) = true := bne_iff_ne.2 (by omega)
      have HE : Hid (authF ⟨1, us, T, tx⟩ W u ok = (⟨1, us, T, tx⟩, 501)) := Lib.hid (by unfold authF; rw [if_neg (by simp), if_neg (by rw [HWI.out.1]; exact fun h => h3 h.1)])
      obtain ⟨_, hf, hfB⟩ := two_made w #[.int .i64 1, .string us, .slice A N cap, .string tx] #[.int .i64 1, .string us, .slice A N cap, .string tx]
      have r0 := hf.cell 0
      have r1 := hf.cell 1
      have r2 := hf.cell 2
      have r3 := hf.cell 3
      simp only [List.getElem?_toArray, List.getElem?_cons_zero, List.getElem?_cons_succ] at r0 r1 r2 r3
      have HFB := Lib.hid hfB
      clear hf hfB
      clear h3
      go_enter Tryz.func86, Tryz.ntmps86
      go_wp2
      refine bodyPost_ret (v := .tuple #[.agg #[.int .i64 1, .string us, .slice A N cap, .string tx], .int .i64 501]) (by simp [results, Tryz.results86, go_sem, r0, r1, r2, r3]) rfl ?_
      rw [HE.out]
      exact ⟨_, _, _, rfl, HI.out.below HFB.out (Nat.le_refl _), Fr.same _ _, HFB.out⟩
  ·
    have h1' : (st != 1) = true := bne_iff_ne.2 h1
    have HE : Hid (authF ⟨st, us, T, tx⟩ W u ok = (⟨st, us, T, tx⟩, 503)) := Lib.hid (by unfold authF; rw [if_pos h1])
    obtain ⟨_, hf, hfB⟩ := two_made w #[.int .i64 st, .string us, .slice A N cap, .string tx] #[.int .i64 st, .string us, .slice A N cap, .string tx]
    have r0 := hf.cell 0
    have r1 := hf.cell 1
    have r2 := hf.cell 2
    have r3 := hf.cell 3
    simp only [List.getElem?_toArray, List.getElem?_cons_zero, List.getElem?_cons_succ] at r0 r1 r2 r3
    have HFB := Lib.hid hfB
    clear hf hfB
    clear h1
    go_enter Tryz.func86, Tryz.ntmps86
    go_wp2
    refine bodyPost_ret (v := .tuple #[.agg #[.int .i64 st, .string us, .slice A N cap, .string tx], .int .i64 503]) (by simp [results, Tryz.results86, go_sem, r0, r1, r2, r3]) rfl ?_
    rw [HE.out]
    exact ⟨_, _, _, rfl, HI.out.below HFB.out (Nat.le_refl _), Fr.same _ _, HFB.out⟩
end Go.Proofs.YtichajalinkcdaaGreatDoor
namespace Go.Proofs.YtichajalinkcdaaGreatDoor
open Go.RowKit
set_option linter.unusedVariables false


theorem below_new' (w : World) (o : Obj) : Below w.heap.size w (w.alloc o) := (Below.refl _ _).alloc (Nat.le_refl _) o
set_option maxRecDepth 20000 in
set_option maxHeartbeats 4000000 in
theorem spec_mail (st : Int) (us tx d l : ByteArray) (T : List ByteArray) (A : Option Addr) (N cap : Nat) (w : World) (h : SIn w A N cap T) (hl : l.size ≤ 2097152) : Calls Tryz.prog 87 #[.agg #[.int .i64 st, .string us, .slice A N cap, .string tx], .string d, .string l] w (GiveS w A (mailF ⟨st, us, T, tx⟩ d l)) := by
  have HI := Lib.hid h
  obtain ⟨hs, hr, hB⟩ := two_made w #[.int .i64 st, .string us, .slice A N cap, .string tx] #[.int .i64 0, .string ⟨#[]⟩, .slice none 0 0, .string ⟨#[]⟩]
  have c0 := hs.cell 0
  have c1 := hs.cell 1
  have c2 := hs.cell 2
  have c3 := hs.cell 3
  have z0 := hr.cell 0
  have z1 := hr.cell 1
  have z2 := hr.cell 2
  have z3 := hr.cell 3
  have f0 := hr.free 0
  have f1 := hr.free 1
  have f2 := hr.free 2
  have f3 := hr.free 3
  simp only [List.getElem?_toArray, List.getElem?_cons_zero, List.getElem?_cons_succ] at c0 c1 c2 c3 z0 z1 z2 z3
  have HS := Lib.hid hs
  have HR := Lib.hid hr
  have HB := Lib.hid hB
  clear h hs hr hB
  have hne : ∀ q, A = some q → q.block ≠ w.heap.size + 1 := fun q e => by have := HI.out.lt q e; omega
  have HNE := Lib.hid hne
  clear hne
  obtain ⟨ok, ho⟩ : ∃ x, ptO bMAIL l = x := ⟨_, rfl⟩
  obtain ⟨u, hu⟩ : ∃ x, ptU bMAIL l = x := ⟨_, rfl⟩
  obtain ⟨v, hv⟩ : ∃ x, ptD bMAIL l = x := ⟨_, rfl⟩
  have HC := Lib.hid (spec_lpath ho hu hv ((w.alloc (.cells #[.int .i64 st, .string us, .slice A N cap, .string tx] 25)).alloc (.cells #[.int .i64 0, .string ⟨#[]⟩, .slice none 0 0, .string ⟨#[]⟩] 25)) (by omega) (by decide))
  unfold bMAIL at HC
  have HO := Lib.hid ho
  have HU := Lib.hid hu
  have HV := Lib.hid hv
  clear ho hu hv
  by_cases h1 : st < 2
  ·
    have HE : Hid (mailF ⟨st, us, T, tx⟩ d l = (⟨st, us, T, tx⟩, 530)) := Lib.hid (by unfold mailF; rw [if_pos h1])
    go_enter Tryz.func87, Tryz.ntmps87
    go_wp2_with fail
    refine HC.out.mono ?_
    rintro e w2 ⟨rfl, hb2⟩
    have HS2 := Lib.hid (HS.out.below hb2 HS.out.lt)
    have HR2 := Lib.hid (HR.out.below hb2 HR.out.lt)
    have HB2 := Lib.hid (HB.out.trans (hb2.mono HB.out.size))
    have HZ2 : Hid (w.heap.size + 1 < w2.heap.size) := Lib.hid HR2.out.lt
    clear hb2 c0 c1 c2 c3 z0 z1 z2 z3 f0 f1 f2 f3 HC
    have hs := HS2.out.alloc (.cells #[.string u, .string v] 112)
    have hr := HR2.out.alloc (.cells #[.string u, .string v] 112)
    have ha := Whole.made w2 112 #[.string u, .string v]
    have a0 := ha.cell 0
    have a1 := ha.cell 1
    simp only [List.getElem?_toArray, List.getElem?_cons_zero, List.getElem?_cons_succ] at a0 a1
    have HB3 := Lib.hid (HB2.out.alloc HB2.out.size (.cells #[.string u, .string v] 112))
    have c0 := hs.cell 0
    have c1 := hs.cell 1
    have c2 := hs.cell 2
    have c3 := hs.cell 3
    have z0 := hr.cell 0
    have z1 := hr.cell 1
    have z2 := hr.cell 2
    have z3 := hr.cell 3
    have f0 := hr.free 0
    have f1 := hr.free 1
    have f2 := hr.free 2
    have f3 := hr.free 3
    simp only [List.getElem?_toArray, List.getElem?_cons_zero, List.getElem?_cons_succ] at c0 c1 c2 c3 z0 z1 z2 z3
    clear hs
    have hf := put_sb hr (.int .i64 st) (.string us) (.slice A N cap) (.string tx)
    have r0 := hf.cell 0
    have r1 := hf.cell 1
    have r2 := hf.cell 2
    have r3 := hf.cell 3
    simp only [List.getElem?_toArray, List.getElem?_cons_zero, List.getElem?_cons_succ] at r0 r1 r2 r3
    clear hf ha hr
    go_wp2
    refine bodyPost_ret (v := .tuple #[.agg #[.int .i64 st, .string us, .slice A N cap, .string tx], .int .i64 530]) (by simp [results, Tryz.results87, go_sem, r0, r1, r2, r3]) rfl ?_
    rw [HE.out]
    exact ⟨_, _, _, rfl, (HI.out.below HB3.out (Nat.le_refl _)).set4 HNE.out _ _ _ _, Fr.same _ _, below_set4 HB3.out (by omega) _ _ _ _⟩
  by_cases h2 : st = 2
  ·
    subst h2
    clear h1
    cases ok with
    | false =>
      have HE : Hid (mailF ⟨2, us, T, tx⟩ d l = (⟨2, us, T, tx⟩, 501)) := Lib.hid (by unfold mailF; rw [if_neg (by simp), if_neg (by simp), if_pos HO.out])
      go_enter Tryz.func87, Tryz.ntmps87
      go_wp2_with fail
      refine HC.out.mono ?_
      rintro e w2 ⟨rfl, hb2⟩
      have HS2 := Lib.hid (HS.out.below hb2 HS.out.lt)
      have HR2 := Lib.hid (HR.out.below hb2 HR.out.lt)
      have HB2 := Lib.hid (HB.out.trans (hb2.mono HB.out.size))
      have HZ2 : Hid (w.heap.size + 1 < w2.heap.size) := Lib.hid HR2.out.lt
      clear hb2 c0 c1 c2 c3 z0 z1 z2 z3 f0 f1 f2 f3 HC
      have hs := HS2.out.alloc (.cells #[.string u, .string v] 112)
      have hr := HR2.out.alloc (.cells #[.string u, .string v] 112)
      have ha := Whole.made w2 112 #[.string u, .string v]
      have a0 := ha.cell 0
      have a1 := ha.cell 1
      simp only [List.getElem?_toArray, List.getElem?_cons_zero, List.getElem?_cons_succ] at a0 a1
      have HB3 := Lib.hid (HB2.out.alloc HB2.out.size (.cells #[.string u, .string v] 112))
      have c0 := hs.cell 0
      have c1 := hs.cell 1
      have c2 := hs.cell 2
      have c3 := hs.cell 3
      have z0 := hr.cell 0
      have z1 := hr.cell 1
      have z2 := hr.cell 2
      have z3 := hr.cell 3
      have f0 := hr.free 0
      have f1 := hr.free 1
      have f2 := hr.free 2
      have f3 := hr.free 3
      simp only [List.getElem?_toArray, List.getElem?_cons_zero, List.getElem?_cons_succ] at c0 c1 c2 c3 z0 z1 z2 z3
      clear hs
      have hf := put_sb hr (.int .i64 2) (.string us) (.slice A N cap) (.string tx)
      have r0 := hf.cell 0
      have r1 := hf.cell 1
      have r2 := hf.cell 2
      have r3 := hf.cell 3
      simp only [List.getElem?_toArray, List.getElem?_cons_zero, List.getElem?_cons_succ] at r0 r1 r2 r3
      clear hf ha hr
      go_wp2
      refine bodyPost_ret (v := .tuple #[.agg #[.int .i64 2, .string us, .slice A N cap, .string tx], .int .i64 501]) (by simp [results, Tryz.results87, go_sem, r0, r1, r2, r3]) rfl ?_
      rw [HE.out]
      exact ⟨_, _, _, rfl, (HI.out.below HB3.out (Nat.le_refl _)).set4 HNE.out _ _ _ _, Fr.same _ _, below_set4 HB3.out (by omega) _ _ _ _⟩
    | true =>
      by_cases hu : u = us
      ·
        by_cases hv : v = d
        ·
          subst hu hv
          have HE : Hid (mailF ⟨2, u, T, tx⟩ v l = (⟨3, u, T, tx⟩, 250)) := Lib.hid (by unfold mailF; rw [if_neg (by simp), if_neg (by simp), if_neg (by rw [HO.out]; simp), if_pos ⟨HU.out, HV.out⟩])
          go_enter Tryz.func87, Tryz.ntmps87
          go_wp2_with fail
          refine HC.out.mono ?_
          rintro e w2 ⟨rfl, hb2⟩
          have HS2 := Lib.hid (HS.out.below hb2 HS.out.lt)
          have HR2 := Lib.hid (HR.out.below hb2 HR.out.lt)
          have HB2 := Lib.hid (HB.out.trans (hb2.mono HB.out.size))
          have HZ2 : Hid (w.heap.size + 1 < w2.heap.size) := Lib.hid HR2.out.lt
          clear hb2 c0 c1 c2 c3 z0 z1 z2 z3 f0 f1 f2 f3 HC
          have hs := HS2.out.alloc (.cells #[.string u, .string v] 112)
          have hr := HR2.out.alloc (.cells #[.string u, .string v] 112)
          have ha := Whole.made w2 112 #[.string u, .string v]
          have a0 := ha.cell 0
          have a1 := ha.cell 1
          simp only [List.getElem?_toArray, List.getElem?_cons_zero, List.getElem?_cons_succ] at a0 a1
          have HB3 := Lib.hid (HB2.out.alloc HB2.out.size (.cells #[.string u, .string v] 112))
          have c0 := hs.cell 0
          have c1 := hs.cell 1
          have c2 := hs.cell 2
          have c3 := hs.cell 3
          have z0 := hr.cell 0
          have z1 := hr.cell 1
          have z2 := hr.cell 2
          have z3 := hr.cell 3
          have f0 := hr.free 0
          have f1 := hr.free 1
          have f2 := hr.free 2
          have f3 := hr.free 3
          simp only [List.getElem?_toArray, List.getElem?_cons_zero, List.getElem?_cons_succ] at c0 c1 c2 c3 z0 z1 z2 z3
          have e0 := hs.free 0
          have hs1 : Whole ((w2.alloc (.cells #[.string u, .string v] 112)).setCell ⟨w.heap.size, 0, none⟩ (.int .i64 3)) w.heap.size 25 #[.int .i64 3, .string u, .slice A N cap, .string tx] := hs.store 0 (.int .i64 3)
          have hr1 := hr.apart (p := ⟨w.heap.size, 0, none⟩) (show w.heap.size + 1 ≠ w.heap.size by omega) (.int .i64 3)
          have m0 := hs1.cell 0
          have m1 := hs1.cell 1
          have m2 := hs1.cell 2
          have m3 := hs1.cell 3
          have x0 := hr1.cell 0
          have x1 := hr1.cell 1
          have x2 := hr1.cell 2
          have x3 := hr1.cell 3
          have i0 := hr1.free 0
          have i1 := hr1.free 1
          have i2 := hr1.free 2
          have i3 := hr1.free 3
          simp only [List.getElem?_toArray, List.getElem?_cons_zero, List.getElem?_cons_succ] at m0 m1 m2 m3 x0 x1 x2 x3
          clear hs hr hs1
          have hf := put_sb hr1 (.int .i64 3) (.string u) (.slice A N cap) (.string tx)
          have r0 := hf.cell 0
          have r1 := hf.cell 1
          have r2 := hf.cell 2
          have r3 := hf.cell 3
          simp only [List.getElem?_toArray, List.getElem?_cons_zero, List.getElem?_cons_succ] at r0 r1 r2 r3
          clear hf ha hr1
          go_wp2
          refine bodyPost_ret (v := .tuple #[.agg #[.int .i64 3, .string u, .slice A N cap, .string tx], .int .i64 250]) (by simp [results, Tryz.results87, go_sem, r0, r1, r2, r3]) rfl ?_
          rw [HE.out]
          exact ⟨_, _, _, rfl, ((HI.out.below HB3.out (Nat.le_refl _)).set (R := w.heap.size) (j := 0) (fun q e => by have := HI.out.lt q e; omega) (.int .i64 3)).set4 HNE.out _ _ _ _, Fr.same _ _, below_set4 (HB3.out.setCell (p := ⟨w.heap.size, 0, none⟩) (Nat.le_refl _) (.int .i64 3)) (by omega) _ _ _ _⟩
        ·
          subst hu
          obtain ⟨v1, v2⟩ := ne_walk hv
          have v3 : (v.toList != d.toList) = true := bne_iff_ne.2 v2
          have HE : Hid (mailF ⟨2, u, T, tx⟩ d l = (⟨2, u, T, tx⟩, 550)) := Lib.hid (by unfold mailF; rw [if_neg (by simp), if_neg (by simp), if_neg (by rw [HO.out]; simp), if_neg (by rw [HU.out, HV.out]; exact fun h => hv h.2)])
          clear hv
          go_enter Tryz.func87, Tryz.ntmps87
          go_wp2_with fail
          refine HC.out.mono ?_
          rintro e w2 ⟨rfl, hb2⟩
          have HS2 := Lib.hid (HS.out.below hb2 HS.out.lt)
          have HR2 := Lib.hid (HR.out.below hb2 HR.out.lt)
          have HB2 := Lib.hid (HB.out.trans (hb2.mono HB.out.size))
          have HZ2 : Hid (w.heap.size + 1 < w2.heap.size) := Lib.hid HR2.out.lt
          clear hb2 c0 c1 c2 c3 z0 z1 z2 z3 f0 f1 f2 f3 HC
          have hs := HS2.out.alloc (.cells #[.string u, .string v] 112)
          have hr := HR2.out.alloc (.cells #[.string u, .string v] 112)
          have ha := Whole.made w2 112 #[.string u, .string v]
          have a0 := ha.cell 0
          have a1 := ha.cell 1
          simp only [List.getElem?_toArray, List.getElem?_cons_zero, List.getElem?_cons_succ] at a0 a1
          have HB3 := Lib.hid (HB2.out.alloc HB2.out.size (.cells #[.string u, .string v] 112))
          have c0 := hs.cell 0
          have c1 := hs.cell 1
          have c2 := hs.cell 2
          have c3 := hs.cell 3
          have z0 := hr.cell 0
          have z1 := hr.cell 1
          have z2 := hr.cell 2
          have z3 := hr.cell 3
          have f0 := hr.free 0
          have f1 := hr.free 1
          have f2 := hr.free 2
          have f3 := hr.free 3
          simp only [List.getElem?_toArray, List.getElem?_cons_zero, List.getElem?_cons_succ] at c0 c1 c2 c3 z0 z1 z2 z3
          clear hs
          have hf := put_sb hr (.int .i64 2) (.string u) (.slice A N cap) (.string tx)
          have r0 := hf.cell 0
          have r1 := hf.cell 1
          have r2 := hf.cell 2
          have r3 := hf.cell 3
          simp only [List.getElem?_toArray, List.getElem?_cons_zero, List.getElem?_cons_succ] at r0 r1 r2 r3
          clear hf ha hr
          go_wp2
          refine bodyPost_ret (v := .tuple #[.agg #[.int .i64 2, .string u, .slice A N cap, .string tx], .int .i64 550]) (by simp [results, Tryz.results87, go_sem, r0, r1, r2, r3]) rfl ?_
          rw [HE.out]
          exact ⟨_, _, _, rfl, (HI.out.below HB3.out (Nat.le_refl _)).set4 HNE.out _ _ _ _, Fr.same _ _, below_set4 HB3.out (by omega) _ _ _ _⟩
      ·
        obtain ⟨v1, v2⟩ := ne_walk hu
        have v3 : (u.toList != us.toList) = true := bne_iff_ne.2 v2
        have HE : Hid (mailF ⟨2, us, T, tx⟩ d l = (⟨2, us, T, tx⟩, 550)) := Lib.hid (by unfold mailF; rw [if_neg (by simp), if_neg (by simp), if_neg (by rw [HO.out]; simp), if_neg (by rw [HU.out, HV.out]; exact fun h => hu h.1)])
        clear hu
        go_enter Tryz.func87, Tryz.ntmps87
        go_wp2_with fail
        refine HC.out.mono ?_
        rintro e w2 ⟨rfl, hb2⟩
        have HS2 := Lib.hid (HS.out.below hb2 HS.out.lt)
        have HR2 := Lib.hid (HR.out.below hb2 HR.out.lt)
        have HB2 := Lib.hid (HB.out.trans (hb2.mono HB.out.size))
        have HZ2 : Hid (w.heap.size + 1 < w2.heap.size) := Lib.hid HR2.out.lt
        clear hb2 c0 c1 c2 c3 z0 z1 z2 z3 f0 f1 f2 f3 HC
        have hs := HS2.out.alloc (.cells #[.string u, .string v] 112)
        have hr := HR2.out.alloc (.cells #[.string u, .string v] 112)
        have ha := Whole.made w2 112 #[.string u, .string v]
        have a0 := ha.cell 0
        have a1 := ha.cell 1
        simp only [List.getElem?_toArray, List.getElem?_cons_zero, List.getElem?_cons_succ] at a0 a1
        have HB3 := Lib.hid (HB2.out.alloc HB2.out.size (.cells #[.string u, .string v] 112))
        have c0 := hs.cell 0
        have c1 := hs.cell 1
        have c2 := hs.cell 2
        have c3 := hs.cell 3
        have z0 := hr.cell 0
        have z1 := hr.cell 1
        have z2 := hr.cell 2
        have z3 := hr.cell 3
        have f0 := hr.free 0
        have f1 := hr.free 1
        have f2 := hr.free 2
        have f3 := hr.free 3
        simp only [List.getElem?_toArray, List.getElem?_cons_zero, List.getElem?_cons_succ] at c0 c1 c2 c3 z0 z1 z2 z3
        clear hs
        have hf := put_sb hr (.int .i64 2) (.string us) (.slice A N cap) (.string tx)
        have r0 := hf.cell 0
        have r1 := hf.cell 1
        have r2 := hf.cell 2
        have r3 := hf.cell 3
        simp only [List.getElem?_toArray, List.getElem?_cons_zero, List.getElem?_cons_succ] at r0 r1 r2 r3
        clear hf ha hr
        go_wp2
        refine bodyPost_ret (v := .tuple #[.agg #[.int .i64 2, .string us, .slice A N cap, .string tx], .int .i64 550]) (by simp [results, Tryz.results87, go_sem, r0, r1, r2, r3]) rfl ?_
        rw [HE.out]
        exact ⟨_, _, _, rfl, (HI.out.below HB3.out (Nat.le_refl _)).set4 HNE.out _ _ _ _, Fr.same _ _, below_set4 HB3.out (by omega) _ _ _ _⟩
  ·
    have h2' : (st != 2) = true := bne_iff_ne.2 h2
    have HE : Hid (mailF ⟨st, us, T, tx⟩ d l = (⟨st, us, T, tx⟩, 503)) := Lib.hid (by unfold mailF; rw [if_neg h1, if_pos h2])
    have h1' : ¬ st < 2 := h1
    clear h2 h1
    go_enter Tryz.func87, Tryz.ntmps87
    go_wp2_with fail
    refine HC.out.mono ?_
    rintro e w2 ⟨rfl, hb2⟩
    have HS2 := Lib.hid (HS.out.below hb2 HS.out.lt)
    have HR2 := Lib.hid (HR.out.below hb2 HR.out.lt)
    have HB2 := Lib.hid (HB.out.trans (hb2.mono HB.out.size))
    have HZ2 : Hid (w.heap.size + 1 < w2.heap.size) := Lib.hid HR2.out.lt
    clear hb2 c0 c1 c2 c3 z0 z1 z2 z3 f0 f1 f2 f3 HC
    have hs := HS2.out.alloc (.cells #[.string u, .string v] 112)
    have hr := HR2.out.alloc (.cells #[.string u, .string v] 112)
    have ha := Whole.made w2 112 #[.string u, .string v]
    have a0 := ha.cell 0
    have a1 := ha.cell 1
    simp only [List.getElem?_toArray, List.getElem?_cons_zero, List.getElem?_cons_succ] at a0 a1
    have HB3 := Lib.hid (HB2.out.alloc HB2.out.size (.cells #[.string u, .string v] 112))
    have c0 := hs.cell 0
    have c1 := hs.cell 1
    have c2 := hs.cell 2
    have c3 := hs.cell 3
    have z0 := hr.cell 0
    have z1 := hr.cell 1
    have z2 := hr.cell 2
    have z3 := hr.cell 3
    have f0 := hr.free 0
    have f1 := hr.free 1
    have f2 := hr.free 2
    have f3 := hr.free 3
    simp only [List.getElem?_toArray, List.getElem?_cons_zero, List.getElem?_cons_succ] at c0 c1 c2 c3 z0 z1 z2 z3
    clear hs
    have hf := put_sb hr (.int .i64 st) (.string us) (.slice A N cap) (.string tx)
    have r0 := hf.cell 0
    have r1 := hf.cell 1
    have r2 := hf.cell 2
    have r3 := hf.cell 3
    simp only [List.getElem?_toArray, List.getElem?_cons_zero, List.getElem?_cons_succ] at r0 r1 r2 r3
    clear hf ha hr
    go_wp2
    refine bodyPost_ret (v := .tuple #[.agg #[.int .i64 st, .string us, .slice A N cap, .string tx], .int .i64 503]) (by simp [results, Tryz.results87, go_sem, r0, r1, r2, r3]) rfl ?_
    rw [HE.out]
    exact ⟨_, _, _, rfl, (HI.out.below HB3.out (Nat.le_refl _)).set4 HNE.out _ _ _ _, Fr.same _ _, below_set4 HB3.out (by omega) _ _ _ _⟩
end Go.Proofs.YtichajalinkcdaaGreatDoor
