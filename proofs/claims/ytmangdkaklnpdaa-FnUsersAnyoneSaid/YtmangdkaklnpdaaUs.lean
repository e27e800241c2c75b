/-
  The contracts of the model's UsersValid, UsersFind, UsersProve and UsersPlain. Condition: the users can be read, and are not too many; texts are not too long.
-/
import Derived.Test.YtmangdkaklnpdaaUg
import Derived.Test.YtmangdkaklnpdaaPspec
namespace Go.Proofs.Ytmangdkaklnpdaa
open Go.RowKit
set_option linter.unusedVariables false

theorem okU_bad3 {n p : ByteArray} {q : Int} (h : (decide (0 ≤ q) && decide (q ≤ 200)) = false) : okU (n, p, q) = false := by unfold okU; rw [h]; simp
theorem okU_bad2 {n p : ByteArray} {q : Int} (h : nameB (kb p) = false) : okU (n, p, q) = false := by unfold okU; rw [h]; simp
theorem okU_bad1 {n p : ByteArray} {q : Int} (h : nameB (kb n) = false) : okU (n, p, q) = false := by unfold okU; rw [h]; rfl
theorem okU_bad0 {p : ByteArray} {q : Int} : okU (evB, p, q) = false := by unfold okU; simp
theorem okU_yes {n p : ByteArray} {q : Int} (h1 : nameB (kb n) = true) (h2 : n ≠ evB) (h3 : nameB (kb p) = true) (h4 : (decide (0 ≤ q) && decide (q ≤ 200)) = true) : okU (n, p, q) = true := by
  unfold okU
  rw [h1, h3, h4, ne_kb h2]
  rfl
theorem two_int {N : Nat} {z : Bool} (h : (decide (1 ≤ N) && decide (N ≤ 4)) = z) : (decide ((1 : Int) ≤ (N : Int)) && decide ((N : Int) ≤ 4)) = z := by
  rw [← h]
  congr 1 <;> (simp only [decide_eq_decide]; omega)
set_option maxRecDepth 20000 in
set_option maxHeartbeats 8000000 in
theorem spec_usersvalid {A : Option Addr} {N cap : Nat} {L : List Us} (w : World) (h : UIn w A N cap L) : Calls Try.prog 20 #[.slice A N cap] w (SayB w (vU L)) := by
  have H := Lib.hid h
  have hl := h.2.1
  clear h
  go_enter Try.func20, Try.ntmps20
  go_wp2
  go_loopw [3] (fun i wr => ∃ k : Nat, k ≤ N ∧ i = .int .i64 (k : Int) ∧ Hid (goodU L k) ∧ Hid (Below w.heap.size w wr)) (fun i _ => N - (intOf i).toNat)
  case atStart => exact ⟨0, Nat.zero_le _, by go_num, goodU_zero L, Below.refl _ _⟩
  case round =>
    obtain ⟨k, hk, rfl, HG, HB⟩ := hrel
    by_cases hlt : k < N
    · have h0 : (0 : Int) ≤ (k : Int) := by omega
      have h5 : (k : Int) < (N : Int) := by omega
      obtain ⟨⟨n, p, q⟩, hx⟩ : ∃ x, L[k]? = some x := ⟨_, List.getElem?_eq_getElem (by rw [H.out.1]; exact hlt)⟩
      have hnp := H.out.2.2.2.2.2 (n, p, q) (List.mem_of_getElem? hx)
      have hn : n.size ≤ 16777216 := hnp.1
      have hp : p.size ≤ 16777216 := hnp.2
      have hR := H.out.2.2.1.below HB.out (Nat.le_refl _)
      obtain ⟨b, o, rfl, hb, c0, c1, c2⟩ := user_at hR hx
      have HX := Lib.hid hx
      obtain ⟨B, hB⟩ : ∃ B, wr.heap.size = B := ⟨_, rfl⟩
      have HA0 := Lib.hid (HB.out.alloc HB.out.size (.cells #[.string n, .string p, .int .i64 q] 27))
      have hbB : b < B := by omega
      clear hx hnp
      obtain ⟨wo, hwo⟩ : ∃ wo, wr.alloc (.cells #[.string n, .string p, .int .i64 q] 27) = wo := ⟨_, rfl⟩
      have hsz : wo.heap.size = B + 1 := by rw [← hwo, ← hB]; simp
      have HWO := Lib.hid (show Whole wo B 27 #[.string n, .string p, .int .i64 q] by rw [← hwo, ← hB]; exact Whole.made wr 27 #[.string n, .string p, .int .i64 q])
      rw [hwo] at HA0
      have HRO : Hid (RAt usR wo (some ⟨b, o, none⟩) L) := Lib.hid (H.out.2.2.1.below HA0.out (Nat.le_refl _))
      have g0 := HWO.out.cell 0
      have g1 := HWO.out.cell 1
      have g2 := HWO.out.cell 2
      simp at g0 g1 g2
      have HHW := Lib.hid hwo
      have hbo : b < wo.heap.size := by omega
      have HSZ : Hid (B + 1 ≤ wo.heap.size) := Lib.hid (by omega)
      have HBB : Hid (w.heap.size ≤ B + 1) := Lib.hid (by have := HB.out.size; omega)
      have l0 : ∀ x : Later (B + 1) wo, x.v.cell? ⟨B, 0, none⟩ = some (.string n) := fun x => x.cell (by simp) g0
      have l1 : ∀ x : Later (B + 1) wo, x.v.cell? ⟨B, 1, none⟩ = some (.string p) := fun x => x.cell (by simp) g1
      have l3 : ∀ x : Later (B + 1) wo, x.v.cell? ⟨B, 2, none⟩ = some (.int .i64 q) := fun x => x.cell (by simp) g2
      clear hwo
      cases h1 : nameB (kb n) with
      | false =>
        have HN := Lib.hid h1
        have HE := Lib.hid (vU_bad HX.out (okU_bad1 h1))
        clear h1 hR
        go_wp2
        rw [HHW.out]
        refine wp_region_later (B + 1) wo (by kernel_rfl) (by kernel_rfl) ?_
        repeat (go_big_quiet_step ((go_at_call 39; with_reducible refine (sname_at HN.out hn _).mono ?_; rintro e w2 ⟨rfl, rfl⟩; exact ⟨rfl, _, rfl⟩)))
        refine wpQuiet_nil ?_
        intro _ hw'
        obtain ⟨⟨w2, hb2⟩, rfl⟩ := hw'
        have H6 := Lib.hid (HA0.out.trans (hb2.mono HBB.out))
        clear hb2
        go_wp2
        go_ret
        exact says_b HE.out H6.out
      | true =>
        have HN := Lib.hid h1
        by_cases h2 : n = evB
        · subst h2
          have HE := Lib.hid (vU_bad HX.out okU_bad0)
          have hv := ev_walk'
          clear h1 hR
          go_wp2
          rw [HHW.out]
          refine wp_region_later (B + 1) wo (by kernel_rfl) (by kernel_rfl) ?_
          repeat (go_big_quiet_step ((go_at_call 39; with_reducible refine (sname_at HN.out hn _).mono ?_; rintro e w2 ⟨rfl, rfl⟩; exact ⟨rfl, _, rfl⟩)))
          refine wpQuiet_nil ?_
          intro _ hw'
          obtain ⟨⟨w2, hb2⟩, rfl⟩ := hw'
          have H6 := Lib.hid (HA0.out.trans (hb2.mono HBB.out))
          clear hb2
          go_wp2
          go_ret
          exact says_b HE.out H6.out
        · obtain ⟨v1, v2, v3⟩ := ev_walk h2
          cases h3 : nameB (kb p) with
          | false =>
            have HP := Lib.hid h3
            have HE := Lib.hid (vU_bad HX.out (okU_bad2 h3))
            clear h1 h2 h3 hR v3
            go_wp2
            rw [HHW.out]
            refine wp_region_later (B + 1) wo (by kernel_rfl) (by kernel_rfl) ?_
            repeat (go_big_quiet_step (first | (go_at_call 39; with_reducible refine (sname_at HN.out hn _).mono ?_; rintro e w2 ⟨rfl, rfl⟩; exact ⟨rfl, _, rfl⟩) | (go_at_call 39; with_reducible refine (sname_at HP.out hp _).mono ?_; rintro e w2 ⟨rfl, rfl⟩; exact ⟨rfl, _, rfl⟩)))
            refine wpQuiet_nil ?_
            intro _ hw'
            obtain ⟨⟨w2, hb2⟩, rfl⟩ := hw'
            have H6 := Lib.hid (HA0.out.trans (hb2.mono HBB.out))
            clear hb2
            go_wp2
            go_ret
            exact says_b HE.out H6.out
          | true =>
            have HP := Lib.hid h3
            cases h4 : (decide (0 ≤ q) && decide (q ≤ 200)) with
            | false =>
              have HI := Lib.hid h4
              have HE := Lib.hid (vU_bad HX.out (okU_bad3 h4))
              clear h1 h2 h3 h4 hR v3
              go_wp2
              rw [HHW.out]
              refine wp_region_later (B + 1) wo (by kernel_rfl) (by kernel_rfl) ?_
              repeat (go_big_quiet_step (first | (go_at_call 39; with_reducible refine (sname_at HN.out hn _).mono ?_; rintro e w2 ⟨rfl, rfl⟩; exact ⟨rfl, _, rfl⟩) | (go_at_call 39; with_reducible refine (sname_at HP.out hp _).mono ?_; rintro e w2 ⟨rfl, rfl⟩; exact ⟨rfl, _, rfl⟩) | (go_at_call 40; refine (sin_at HI.out _).mono ?_; rintro e w2 ⟨rfl, rfl⟩; exact ⟨rfl, _, rfl⟩)))
              refine wpQuiet_nil ?_
              intro _ hw'
              obtain ⟨⟨w2, hb2⟩, rfl⟩ := hw'
              have H6 := Lib.hid (HA0.out.trans (hb2.mono HBB.out))
              clear hb2
              go_wp2
              go_ret
              exact says_b HE.out H6.out
            | true =>
              have HI := Lib.hid h4
              have HO := Lib.hid (okU_yes h1 h2 h3 h4)
              clear h1 h2 h3 h4 v3
              obtain rfl | ⟨j, rfl⟩ : k = 0 ∨ ∃ j, k = j + 1 := by
                cases k with
                | zero => exact .inl rfl
                | succ j => exact .inr ⟨j, rfl⟩
              ·
                simp only [Nat.zero_mul, Nat.add_zero] at c0 c1 c2
                have HE := Lib.hid (goodU_first HX.out HO.out)
                clear hR
                go_wp2
                rw [HHW.out]
                refine wp_region_later (B + 1) wo (by kernel_rfl) (by kernel_rfl) ?_
                repeat (go_big_quiet_step (first | (go_at_call 39; with_reducible refine (sname_at HN.out hn _).mono ?_; rintro e w2 ⟨rfl, rfl⟩; exact ⟨rfl, _, rfl⟩) | (go_at_call 39; with_reducible refine (sname_at HP.out hp _).mono ?_; rintro e w2 ⟨rfl, rfl⟩; exact ⟨rfl, _, rfl⟩) | (go_at_call 40; refine (sin_at HI.out _).mono ?_; rintro e w2 ⟨rfl, rfl⟩; exact ⟨rfl, _, rfl⟩)))
                refine wpQuiet_nil ?_
                intro _ hw'
                obtain ⟨⟨w2, hb2⟩, rfl⟩ := hw'
                have H6 := Lib.hid (HA0.out.trans (hb2.mono HBB.out))
                clear hb2
                go_wp2
                go_roundw
                case rel => exact ⟨1, by omega, by go_num, HE.out, H6.out⟩
                case measure => simp [intOf]; omega
              ·
                obtain ⟨⟨v, p', q'⟩, hy⟩ : ∃ x, L[j]? = some x := ⟨_, List.getElem?_eq_getElem (by rw [H.out.1]; omega)⟩
                have HY := Lib.hid hy
                obtain ⟨b', o', he, _, d0, _, _⟩ := user_at HRO.out hy
                cases he
                have j0 : (0 : Int) < ((j + 1 : Nat) : Int) := by omega
                have j1 : (0 : Int) ≤ (j : Int) := by omega
                have j2 : (j : Int) < (N : Int) := by omega
                have W1 : IntKind.i64.wrap (((j + 1 : Nat) : Int) - 1) = (j : Int) := by rw [IntWalk.i64_in _ (by omega)]; omega
                clear hy hR
                cases hlg : ltG v n with
                | false =>
                  have HL := lessW hlg
                  have HE := Lib.hid (vU_order HY.out HX.out hlg)
                  clear hlg
                  go_wp2
                  rw [HHW.out]
                  have l2 : ∀ x : Later (B + 1) wo, x.v.cell? ⟨b, o + j * 3, none⟩ = some (.string v) := fun x => x.cell (by simp; omega) d0
                  refine wp_region_later (B + 1) wo (by kernel_rfl) (by kernel_rfl) ?_
                  repeat (go_big_quiet_step (first | (go_at_call 39; with_reducible refine (sname_at HN.out hn _).mono ?_; rintro e w2 ⟨rfl, rfl⟩; exact ⟨rfl, _, rfl⟩) | (go_at_call 39; with_reducible refine (sname_at HP.out hp _).mono ?_; rintro e w2 ⟨rfl, rfl⟩; exact ⟨rfl, _, rfl⟩) | (go_at_call 40; refine (sin_at HI.out _).mono ?_; rintro e w2 ⟨rfl, rfl⟩; exact ⟨rfl, _, rfl⟩)))
                  refine wpQuiet_nil ?_
                  intro _ hw'
                  obtain ⟨⟨w2, hb2⟩, rfl⟩ := hw'
                  have H6 := Lib.hid (HA0.out.trans (hb2.mono HBB.out))
                  clear hb2
                  go_wp2
                  go_ret
                  exact says_b HE.out H6.out
                | true =>
                  have HL := lessW hlg
                  have HE := Lib.hid (goodU_next HG.out HY.out HX.out HO.out hlg)
                  clear hlg
                  go_wp2
                  rw [HHW.out]
                  have l2 : ∀ x : Later (B + 1) wo, x.v.cell? ⟨b, o + j * 3, none⟩ = some (.string v) := fun x => x.cell (by simp; omega) d0
                  refine wp_region_later (B + 1) wo (by kernel_rfl) (by kernel_rfl) ?_
                  repeat (go_big_quiet_step (first | (go_at_call 39; with_reducible refine (sname_at HN.out hn _).mono ?_; rintro e w2 ⟨rfl, rfl⟩; exact ⟨rfl, _, rfl⟩) | (go_at_call 39; with_reducible refine (sname_at HP.out hp _).mono ?_; rintro e w2 ⟨rfl, rfl⟩; exact ⟨rfl, _, rfl⟩) | (go_at_call 40; refine (sin_at HI.out _).mono ?_; rintro e w2 ⟨rfl, rfl⟩; exact ⟨rfl, _, rfl⟩)))
                  refine wpQuiet_nil ?_
                  intro _ hw'
                  obtain ⟨⟨w2, hb2⟩, rfl⟩ := hw'
                  have H6 := Lib.hid (HA0.out.trans (hb2.mono HBB.out))
                  clear hb2
                  go_wp2
                  go_roundw
                  case rel => exact ⟨j + 1 + 1, by omega, by go_num, HE.out, H6.out⟩
                  case measure => simp [intOf]; omega
    · have h5 : ¬ (k : Int) < (N : Int) := by omega
      have hv := goodU_all HG.out (by rw [H.out.1]; omega)
      rw [H.out.1] at hv
      obtain ⟨z, hz⟩ : ∃ z, vU L = z := ⟨_, rfl⟩
      have HI := Lib.hid (two_int (hv.symm.trans hz))
      have HZ := Lib.hid hz
      clear hv hz
      go_wp2_with fail
      refine (sin_at HI.out _).mono ?_
      rintro e w2 ⟨rfl, rfl⟩
      go_wp2
      go_ret
      exact says_b HZ.out HB.out
theorem spec_uv {A : Option Addr} {N cap : Nat} {L : List Us} {z : Bool} (h : vU L = z) (w : World) (hi : UIn w A N cap L) : Calls Try.prog 20 #[.slice A N cap] w (SayB w z) := by
  subst h
  exact spec_usersvalid w hi
set_option maxRecDepth 20000 in
set_option maxHeartbeats 2000000 in
theorem spec_l14 {A : Option Addr} {N cap : Nat} {L : List Us} {n : ByteArray} {z : Int} (hz : ixG L n 0 = z) (w : World) (h : UIn w A N cap L) : Calls Try.prog 37 #[.slice A N cap, .string n] w fun e w' => e = .returned (.int .i64 z) ∧ w' = w := by
  have H := Lib.hid h
  have HZ := Lib.hid hz
  have hl := h.2.1
  clear h hz
  go_enter Try.func37, Try.ntmps37
  go_wp2
  go_loopw [5] (fun i wr => ∃ k : Nat, k ≤ N ∧ i = .int .i64 (k : Int) ∧ Hid (ixG L n 0 = ixG (L.drop k) n k) ∧ wr = w) (fun i _ => N - (intOf i).toNat)
  case atStart => exact ⟨0, Nat.zero_le _, by go_num, rfl, rfl⟩
  case round =>
    obtain ⟨k, hk, rfl, HT, rfl⟩ := hrel
    by_cases hlt : k < N
    · have h0 : (0 : Int) ≤ (k : Int) := by omega
      have h5 : (k : Int) < (N : Int) := by omega
      obtain ⟨⟨m, p, q⟩, hx⟩ : ∃ x, L[k]? = some x := ⟨_, List.getElem?_eq_getElem (by rw [H.out.1]; exact hlt)⟩
      obtain ⟨b, o, rfl, hb, c0, c1, c2⟩ := user_at H.out.2.2.1 hx
      have HX := Lib.hid hx
      clear hx
      by_cases e1 : m = n
      · subst e1
        go_wp2
        go_ret
        exact ⟨ret_i (by rw [← HZ.out, HT.out]; exact (ixG_here HX.out).symm), rfl⟩
      · obtain ⟨hne, hne'⟩ := ne_walk e1
        have HE := Lib.hid (HT.out.trans (ixG_skip HX.out e1))
        clear e1
        go_wp2
        go_roundw
        case rel => exact ⟨k + 1, by omega, by go_num, HE.out, trivial⟩
        case measure => simp [intOf]; omega
    · have h5 : ¬ (k : Int) < (N : Int) := by omega
      have HE : Hid (z = -1) := Lib.hid (by rw [← HZ.out, HT.out, List.drop_eq_nil_of_le (by rw [H.out.1]; omega)]; rfl)
      go_wp2
      go_ret
      exact ⟨ret_i HE.out.symm, rfl⟩
set_option maxRecDepth 20000 in
set_option maxHeartbeats 4000000 in
theorem spec_uf {A : Option Addr} {N cap : Nat} {L : List Us} {n : ByteArray} {u : Us} {z : Bool} (hf : usF L n = (u, z)) (w : World) (h : UIn w A N cap L) : Calls Try.prog 17 #[.slice A N cap, .string n] w (GivesU w u z) := by
  have H := Lib.hid h
  have hl := h.2.1
  clear h
  obtain ⟨B, hB⟩ : ∃ B, w.heap.size = B := ⟨_, rfl⟩
  obtain ⟨wa, hwa⟩ : ∃ wa, w.alloc (.cells #[.string ⟨#[]⟩, .string ⟨#[]⟩, .int .i64 0] 27) = wa := ⟨_, rfl⟩
  have HW0 := Lib.hid (show Whole wa B 27 #[.string ⟨#[]⟩, .string ⟨#[]⟩, .int .i64 0] by rw [← hwa, ← hB]; exact Whole.made _ _ _)
  have HB0 := Lib.hid (show Below B w wa by rw [← hwa, ← hB]; exact (Below.refl _ _).alloc (Nat.le_refl _) _)
  have HI0 := Lib.hid (H.out.below HB0.out (Nat.le_of_eq hB))
  have HWA := Lib.hid hwa
  have HBB := Lib.hid hB
  clear hwa hB
  cases hv : vU L with
  | false =>
    have HE : Hid ((noU, false) = (u, z)) := Lib.hid ((usF_no n hv).symm.trans hf)
    have HV := Lib.hid hv
    clear hv hf
    go_enter Try.func17, Try.ntmps17
    go_wp2_with fail
    rw [HWA.out, HBB.out]
    refine (spec_uv HV.out _ HI0.out).mono ?_
    rintro e w1 ⟨rfl, hb⟩
    have HW1 := Lib.hid (HW0.out.below hb HW0.out.lt)
    have HB1 := Lib.hid (HB0.out.trans (hb.mono (Nat.le_of_lt HW0.out.lt)))
    have HI1 := Lib.hid (HI0.out.below hb (Nat.le_refl _))
    clear hb
    have z0 := HW1.out.cell 0
    have z1 := HW1.out.cell 1
    have z2 := HW1.out.cell 2
    have f0 := HW1.out.free 0
    have f1 := HW1.out.free 1
    have f2 := HW1.out.free 2
    simp at z0 z1 z2
    have HS := Lib.hid (put_user HW1.out ⟨#[]⟩ ⟨#[]⟩ 0)
    have r0 := HS.out.cell 0
    have r1 := HS.out.cell 1
    have r2 := HS.out.cell 2
    simp at r0 r1 r2
    go_wp2
    refine bodyPost_ret (v := .tuple #[usV noU, .bool false]) (by simp [results, Try.results17, go_sem, usV, noU, r0, r1, r2]) rfl ?_
    exact gives_u HE.out.symm (((HBB.out.symm ▸ HB1.out).setCell (Nat.le_of_eq HBB.out) _).setCell (Nat.le_of_eq HBB.out) _ |>.setCell (Nat.le_of_eq HBB.out) _)
  | true =>
    have HV := Lib.hid hv
    rcases ixG_case L n 0 with ⟨hx, hi⟩ | ⟨j, x, hj, hx, hi⟩
    · have HE : Hid ((noU, false) = (u, z)) := Lib.hid ((usF_none hv hx).symm.trans hf)
      have HX := Lib.hid hi
      clear hv hf hx hi
      go_enter Try.func17, Try.ntmps17
      go_wp2_with fail
      rw [HWA.out, HBB.out]
      refine (spec_uv HV.out _ HI0.out).mono ?_
      rintro e w1 ⟨rfl, hb⟩
      have HW1 := Lib.hid (HW0.out.below hb HW0.out.lt)
      have HB1 := Lib.hid (HB0.out.trans (hb.mono (Nat.le_of_lt HW0.out.lt)))
      have HI1 := Lib.hid (HI0.out.below hb (Nat.le_refl _))
      clear hb
      go_wp2_with fail
      refine (spec_l14 HX.out _ HI1.out).mono ?_
      rintro e w2 ⟨rfl, rfl⟩
      have z0 := HW1.out.cell 0
      have z1 := HW1.out.cell 1
      have z2 := HW1.out.cell 2
      have f0 := HW1.out.free 0
      have f1 := HW1.out.free 1
      have f2 := HW1.out.free 2
      simp at z0 z1 z2
      have HS := Lib.hid (put_user HW1.out ⟨#[]⟩ ⟨#[]⟩ 0)
      have r0 := HS.out.cell 0
      have r1 := HS.out.cell 1
      have r2 := HS.out.cell 2
      simp at r0 r1 r2
      go_wp2
      refine bodyPost_ret (v := .tuple #[usV noU, .bool false]) (by simp [results, Try.results17, go_sem, usV, noU, r0, r1, r2]) rfl ?_
      exact gives_u HE.out.symm (((HBB.out.symm ▸ HB1.out).setCell (Nat.le_of_eq HBB.out) _).setCell (Nat.le_of_eq HBB.out) _ |>.setCell (Nat.le_of_eq HBB.out) _)
    · have HE : Hid ((x, true) = (u, z)) := Lib.hid ((usF_yes hv hx).symm.trans hf)
      rw [Nat.zero_add] at hi
      have hjN : j < N := by rw [← H.out.1]; exact (List.getElem?_eq_some_iff.1 hj).1
      have j0 : (0 : Int) ≤ (j : Int) := by omega
      have j1 : ¬ (j : Int) < 0 := by omega
      have j2 : (j : Int) < (N : Int) := by omega
      have HX := Lib.hid hi
      have HJ := Lib.hid hj
      clear hv hf hx hi hj
      obtain ⟨n1, p1, q1⟩ := x
      go_enter Try.func17, Try.ntmps17
      go_wp2_with fail
      rw [HWA.out, HBB.out]
      refine (spec_uv HV.out _ HI0.out).mono ?_
      rintro e w1 ⟨rfl, hb⟩
      have HW1 := Lib.hid (HW0.out.below hb HW0.out.lt)
      have HB1 := Lib.hid (HB0.out.trans (hb.mono (Nat.le_of_lt HW0.out.lt)))
      have HI1 := Lib.hid (HI0.out.below hb (Nat.le_refl _))
      clear hb
      go_wp2_with fail
      refine (spec_l14 HX.out _ HI1.out).mono ?_
      rintro e w2 ⟨rfl, rfl⟩
      obtain ⟨b, o, rfl, hbz, c0, c1, c2⟩ := user_at HI1.out.2.2.1 HJ.out
      have z0 := HW1.out.cell 0
      have z1 := HW1.out.cell 1
      have z2 := HW1.out.cell 2
      have f0 := HW1.out.free 0
      have f1 := HW1.out.free 1
      have f2 := HW1.out.free 2
      simp at z0 z1 z2
      have HS := Lib.hid (put_user HW1.out n1 p1 q1)
      have r0 := HS.out.cell 0
      have r1 := HS.out.cell 1
      have r2 := HS.out.cell 2
      simp at r0 r1 r2
      go_wp2_with fail
      refine (spec_l14 HX.out _ HI1.out).mono ?_
      rintro e w2 ⟨rfl, rfl⟩
      go_wp2
      refine bodyPost_ret (v := .tuple #[usV (n1, p1, q1), .bool true]) (by simp [results, Try.results17, go_sem, usV, r0, r1, r2]) rfl ?_
      exact gives_u HE.out.symm (((HBB.out.symm ▸ HB1.out).setCell (Nat.le_of_eq HBB.out) _).setCell (Nat.le_of_eq HBB.out) _ |>.setCell (Nat.le_of_eq HBB.out) _)
set_option maxRecDepth 20000 in
set_option maxHeartbeats 4000000 in
theorem spec_up {A : Option Addr} {N cap : Nat} {L : List Us} {n p : ByteArray} {z : Bool} (hz : prU L n p = z) (w : World) (h : UIn w A N cap L) : Calls Try.prog 23 #[.slice A N cap, .string n, .string p] w (SayB w z) := by
  have H := Lib.hid h
  clear h
  obtain ⟨⟨⟨n1, p1, q1⟩, y⟩, hf⟩ : ∃ x, usF L n = x := ⟨_, rfl⟩
  have HF := Lib.hid hf
  have hz2 := (prU_is (p := p) hf).symm.trans hz
  clear hf hz
  have hw : ∀ w1 : World, Below w.heap.size w w1 → Below w.heap.size w (w1.alloc (.cells #[.string n1, .string p1, .int .i64 q1] 27)) := fun w1 h1 => h1.alloc h1.size _
  have HWW := Lib.hid hw
  clear hw
  cases y with
  | false =>
    have HZ : Hid (false = z) := Lib.hid hz2
    clear hz2
    go_enter Try.func23, Try.ntmps23
    go_wp2_with fail
    refine (spec_uf HF.out _ H.out).mono ?_
    rintro e w1 ⟨rfl, hb⟩
    have HB1 := Lib.hid hb
    clear hb
    unfold usV
    go_wp2
    go_ret
    exact says_b HZ.out.symm (HWW.out _ HB1.out)
  | true =>
    by_cases he : p1 = p
    · subst he
      have HZ : Hid (true = z) := Lib.hid (by rw [← hz2]; simp)
      clear hz2
      go_enter Try.func23, Try.ntmps23
      go_wp2_with fail
      refine (spec_uf HF.out _ H.out).mono ?_
      rintro e w1 ⟨rfl, hb⟩
      have HB1 := Lib.hid hb
      have c1 := (Whole.made w1 27 #[.string n1, .string p1, .int .i64 q1]).cell 1
      simp at c1
      clear hb
      unfold usV
      go_wp2
      go_ret
      exact says_b HZ.out.symm (HWW.out _ HB1.out)
    · have HZ : Hid (false = z) := Lib.hid (by rw [← hz2, ne_kb he]; rfl)
      obtain ⟨v1, v2⟩ := ne_walk he
      clear hz2 he
      go_enter Try.func23, Try.ntmps23
      go_wp2_with fail
      refine (spec_uf HF.out _ H.out).mono ?_
      rintro e w1 ⟨rfl, hb⟩
      have HB1 := Lib.hid hb
      have c1 := (Whole.made w1 27 #[.string n1, .string p1, .int .i64 q1]).cell 1
      simp at c1
      clear hb
      unfold usV
      go_wp2
      go_ret
      exact says_b HZ.out.symm (HWW.out _ HB1.out)
set_option maxRecDepth 20000 in
set_option maxHeartbeats 4000000 in
theorem spec_upl {A : Option Addr} {N cap : Nat} {L : List Us} {t n p x : ByteArray} {o z : Bool} (hp : IsPP t o n p) (hz : upU L n p o = (x, z)) (w : World) (h : UIn w A N cap L) (ht : t.size ≤ 16777216) : Calls Try.prog 27 #[.slice A N cap, .string t] w (GivesX w x z) := by
  have H := Lib.hid h
  have HP := Lib.hid hp
  clear h hp
  cases o with
  | false =>
    have HZ : Hid (((⟨#[]⟩ : ByteArray), false) = (x, z)) := Lib.hid hz
    clear hz
    go_enter Try.func27, Try.ntmps27
    go_wp2_with fail
    refine (splain HP.out _ ht).mono ?_
    rintro e w1 ⟨rfl, hb⟩
    have HB1 := Lib.hid hb
    clear hb
    go_wp2
    go_ret2
    exact gives_x HZ.out.symm HB1.out
  | true =>
    obtain ⟨y, hy⟩ : ∃ y, prU L n p = y := ⟨_, rfl⟩
    have HY := Lib.hid hy
    cases y with
    | false =>
      have HZ : Hid (((⟨#[]⟩ : ByteArray), false) = (x, z)) := Lib.hid (by rw [← hz]; unfold upU; rw [hy]; rfl)
      clear hz hy
      go_enter Try.func27, Try.ntmps27
      go_wp2_with fail
      refine (splain HP.out _ ht).mono ?_
      rintro e w1 ⟨rfl, hb⟩
      have HB1 := Lib.hid hb
      have HI1 := Lib.hid (H.out.below hb (Nat.le_refl _))
      clear hb
      go_wp2_with fail
      refine (spec_up HY.out _ HI1.out).mono ?_
      rintro e w2 ⟨rfl, hb⟩
      have HB2 := Lib.hid (HB1.out.trans (hb.mono HB1.out.size))
      clear hb
      go_wp2
      go_ret2
      exact gives_x HZ.out.symm HB2.out
    | true =>
      have HZ : Hid ((n, true) = (x, z)) := Lib.hid (by rw [← hz]; unfold upU; rw [hy]; rfl)
      clear hz hy
      go_enter Try.func27, Try.ntmps27
      go_wp2_with fail
      refine (splain HP.out _ ht).mono ?_
      rintro e w1 ⟨rfl, hb⟩
      have HB1 := Lib.hid hb
      have HI1 := Lib.hid (H.out.below hb (Nat.le_refl _))
      clear hb
      go_wp2_with fail
      refine (spec_up HY.out _ HI1.out).mono ?_
      rintro e w2 ⟨rfl, hb⟩
      have HB2 := Lib.hid (HB1.out.trans (hb.mono HB1.out.size))
      clear hb
      go_wp2
      go_ret2
      exact gives_x HZ.out.symm HB2.out
end Go.Proofs.Ytmangdkaklnpdaa
