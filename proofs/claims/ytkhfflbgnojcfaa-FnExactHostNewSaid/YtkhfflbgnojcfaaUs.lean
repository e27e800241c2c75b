/-
  The contracts of the model's UsersValid, UsersFind, UsersProve and UsersPlain. Condition: the users can be read, and are not too many; texts are not too long.
-/
import Derived.Test.YtkhfflbgnojcfaaUg
import Derived.Test.YtkhfflbgnojcfaaPspec
namespace Go.Proofs.Ytkhfflbgnojcfaa
open Go.RowKit
set_option linter.unusedVariables false

theorem okU_bad3 {n p : ByteArray} {q : Int} (h : (decide (0 ≤ q) && decide (q ≤ 200)) = false) : okU (n, p, q) = false := by unfold okU; rw [h]; simp
theorem okU_bad2 {n p : ByteArray} {q : Int} (h : nameB (kb p) = false) : okU (n, p, q) = false := by unfold okU; rw [h]; simp
theorem okU_bad1 {n p : ByteArray} {q : Int} (h : nameB (kb n) = false) : okU (n, p, q) = false := by unfold okU; rw [h]; rfl
theorem okU_bad0 {p : ByteArray} {q : Int} : okU (evB, p, q) = false := by unfold okU; simp
theorem okU_yes {n p : ByteArray} {q : Int} (h1 : nameB (kb n) = true) (h2 : n ≠ evB) (h3 : nameB (kb p) = true) (h4 : (decide (0 ≤ q) && decide (q ≤ 200)) = true) : okU (n, p, q) = true := by
  unfold okU
  rw [h1, h3, h4, ne_kb h2]
  rfl
theorem two_int {N : Nat} {z : Bool} (h : (decide (1 ≤ N) && decide (N ≤ 4)) = z) : (decide ((1 : Int) ≤ (N : Int)) && decide ((N : Int) ≤ 4)) = z := by
  rw [← h]
  congr 1 <;> (simp only [decide_eq_decide]; omega)
set_option maxRecDepth 20000 in
set_option maxHeartbeats 8000000 in
theorem spec_usersvalid {A : Option Addr} {N cap : Nat} {L : List Us} (w : World) (h : UIn w A N cap L) : Calls Try.prog 30 #[.slice A N cap] w (SayB w (vU L)) := by
  have H := Lib.hid h
  have hl := h.2.1
  clear h
  go_enter Try.func30, Try.ntmps30
  go_wp2
  go_loopw [3] (fun i wr => ∃ k : Nat, k ≤ N ∧ i = .int .i64 (k : Int) ∧ Hid (goodU L k) ∧ Hid (Below w.heap.size w wr)) (fun i _ => N - (intOf i).toNat)
  case atStart => exact ⟨0, Nat.zero_le _, by go_num, goodU_zero L, Below.refl _ _⟩
  case round =>
    obtain ⟨k, hk, rfl, HG, HB⟩ := hrel
    by_cases hlt : k < N
    · have h0 : (0 : Int) ≤ (k : Int) := by omega
      have h5 : (k : Int) < (N : Int) := by omega
      obtain ⟨⟨n, p, q⟩, hx⟩ : ∃ x, L[k]? = some x := ⟨_, List.getElem?_eq_getElem (by rw [H.out.1]; exact hlt)⟩
      have hnp := H.out.2.2.2.2.2 (n, p, q) (List.mem_of_getElem? hx)
      have hn : n.size ≤ 16777216 := hnp.1
      have hp : p.size ≤ 16777216 := hnp.2
      have hR := H.out.2.2.1.below HB.out (Nat.le_refl _)
      obtain ⟨b, o, rfl, hb, c0, c1, c2⟩ := user_at hR hx
      have HX := Lib.hid hx
      obtain ⟨B, hB⟩ : ∃ B, wr.heap.size = B := ⟨_, rfl⟩
      have HA0 := Lib.hid (HB.out.alloc HB.out.size (.cells #[.string n, .string p, .int .i64 q] 42))
      have hbB : b < B := by omega
      clear hx hnp
      obtain ⟨wo, hwo⟩ : ∃ wo, wr.alloc (.cells #[.string n, .string p, .int .i64 q] 42) = wo := ⟨_, rfl⟩
      have hsz : wo.heap.size = B + 1 := by rw [← hwo, ← hB]; simp
      have HWO := Lib.hid (show Whole wo B 42 #[.string n, .string p, .int .i64 q] by rw [← hwo, ← hB]; exact Whole.made wr 42 #[.string n, .string p, .int .i64 q])
      rw [hwo] at HA0
      have HRO : Hid (RAt usR wo (some ⟨b, o, none⟩) L) := Lib.hid (H.out.2.2.1.below HA0.out (Nat.le_refl _))
      have g0 := HWO.out.cell 0
      have g1 := HWO.out.cell 1
      have g2 := HWO.out.cell 2
      simp at g0 g1 g2
      have HHW := Lib.hid hwo
      have hbo : b < wo.heap.size := by omega
      have HSZ : Hid (B + 1 ≤ wo.heap.size) := Lib.hid (by omega)
      have HBB : Hid (w.heap.size ≤ B + 1) := Lib.hid (by have := HB.out.size; omega)
      have l0 : ∀ x : Later (B + 1) wo, x.v.cell? ⟨B, 0, none⟩ = some (.string n) := fun x => x.cell (by simp) g0
      have l1 : ∀ x : Later (B + 1) wo, x.v.cell? ⟨B, 1, none⟩ = some (.string p) := fun x => x.cell (by simp) g1
      have l3 : ∀ x : Later (B + 1) wo, x.v.cell? ⟨B, 2, none⟩ = some (.int .i64 q) := fun x => x.cell (by simp) g2
      clear hwo
      cases h1 : nameB (kb n) with
      | false =>
        have HN := Lib.hid h1
        have HE := Lib.hid (vU_bad HX.out (okU_bad1 h1))
        clear h1 hR
        go_wp2
        rw [HHW.out]
        refine wp_region_later (B + 1) wo (by kernel_rfl) (by kernel_rfl) ?_
        repeat (go_big_quiet_step ((go_at_call 49; with_reducible refine (sname_at HN.out hn _).mono ?_; rintro e w2 ⟨rfl, rfl⟩; exact ⟨rfl, _, rfl⟩)))
        refine wpQuiet_nil ?_
        intro _ hw'
        obtain ⟨⟨w2, hb2⟩, rfl⟩ := hw'
        have H6 := Lib.hid (HA0.out.trans (hb2.mono HBB.out))
        clear hb2
        go_wp2
        go_ret
        exact says_b HE.out H6.out
      | true =>
        have HN := Lib.hid h1
        by_cases h2 : n = evB
        · subst h2
          have HE := Lib.hid (vU_bad HX.out okU_bad0)
          have hv := ev_walk'
          clear h1 hR
          go_wp2
          rw [HHW.out]
          refine wp_region_later (B + 1) wo (by kernel_rfl) (by kernel_rfl) ?_
          repeat (go_big_quiet_step ((go_at_call 49; with_reducible refine (sname_at HN.out hn _).mono ?_; rintro e w2 ⟨rfl, rfl⟩; exact ⟨rfl, _, rfl⟩)))
          refine wpQuiet_nil ?_
          intro _ hw'
          obtain ⟨⟨w2, hb2⟩, rfl⟩ := hw'
          have H6 := Lib.hid (HA0.out.trans (hb2.mono HBB.out))
          clear hb2
          go_wp2
          go_ret
          exact says_b HE.out H6.out
        · obtain ⟨v1, v2, v3⟩ := ev_walk h2
          cases h3 : nameB (kb p) with
          | false =>
            have HP := Lib.hid h3
            have HE := Lib.hid (vU_bad HX.out (okU_bad2 h3))
            clear h1 h2 h3 hR v3
            go_wp2
            rw [HHW.out]
            refine wp_region_later (B + 1) wo (by kernel_rfl) (by kernel_rfl) ?_
            repeat (go_big_quiet_step (first | (go_at_call 49; with_reducible refine (sname_at HN.out hn _).mono ?_; rintro e w2 ⟨rfl, rfl⟩; exact ⟨rfl, _, rfl⟩) | (go_at_call 49; with_reducible refine (sname_at HP.out hp _).mono ?_; rintro e w2 ⟨rfl, rfl⟩; exact ⟨rfl, _, rfl⟩)))
            refine wpQuiet_nil ?_
            intro _ hw'
            obtain ⟨⟨w2, hb2⟩, rfl⟩ := hw'
            have H6 := Lib.hid (HA0.out.trans (hb2.mono HBB.out))
            clear hb2
            go_wp2
            go_ret
            exact says_b HE.out H6.out
          | true =>
            have HP := Lib.hid h3
            cases h4 : (decide (0 ≤ q) && decide (q ≤ 200)) with
            | false =>
              have HI := Lib.hid h4
              have HE := Lib.hid (vU_bad HX.out (okU_bad3 h4))
              clear h1 h2 h3 h4 hR v3
              go_wp2
              rw [HHW.out]
              refine wp_region_later (B + 1) wo (by kernel_rfl) (by kernel_rfl) ?_
              repeat (go_big_quiet_step (first | (go_at_call 49; with_reducible refine (sname_at HN.out hn _).mono ?_; rintro e w2 ⟨rfl, rfl⟩; exact ⟨rfl, _, rfl⟩) | (go_at_call 49; with_reducible refine (sname_at HP.out hp _).mono ?_; rintro e w2 ⟨rfl, rfl⟩; exact ⟨rfl, _, rfl⟩) | (go_at_call 50; refine (sin_at HI.out _).mono ?_; rintro e w2 ⟨rfl, rfl⟩; exact ⟨rfl, _, rfl⟩)))
              refine wpQuiet_nil ?_
              intro _ hw'
              obtain ⟨⟨w2, hb2⟩, rfl⟩ := hw'
              have H6 := Lib.hid (HA0.out.trans (hb2.mono HBB.out))
              clear hb2
              go_wp2
              go_ret
              exact says_b HE.out H6.out
            | true =>
              have HI := Lib.hid h4
              have HO := Lib.hid (okU_yes h1 h2 h3 h4)
              clear h1 h2 h3 h4 v3
              obtain rfl | ⟨j, rfl⟩ : k = 0 ∨ ∃ j, k = j + 1 := by
                cases k with
                | zero => exact .inl rfl
                | succ j => exact .inr ⟨j, rfl⟩
              ·
                simp only [Nat.zero_mul, Nat.add_zero] at c0 c1 c2
                have HE := Lib.hid (goodU_first HX.out HO.out)
                clear hR
                go_wp2
                rw [HHW.out]
                refine wp_region_later (B + 1) wo (by kernel_rfl) (by kernel_rfl) ?_
                repeat (go_big_quiet_step (first | (go_at_call 49; with_reducible refine (sname_at HN.out hn _).mono ?_; rintro e w2 ⟨rfl, rfl⟩; exact ⟨rfl, _, rfl⟩) | (go_at_call 49; with_reducible refine (sname_at HP.out hp _).mono ?_; rintro e w2 ⟨rfl, rfl⟩; exact ⟨rfl, _, rfl⟩) | (go_at_call 50; refine (sin_at HI.out _).mono ?_; rintro e w2 ⟨rfl, rfl⟩; exact ⟨rfl, _, rfl⟩)))
                refine wpQuiet_nil ?_
                intro _ hw'
                obtain ⟨⟨w2, hb2⟩, rfl⟩ := hw'
                have H6 := Lib.hid (HA0.out.trans (hb2.mono HBB.out))
                clear hb2
                go_wp2
                go_roundw
                case rel => exact ⟨1, by omega, by go_num, HE.out, H6.out⟩
                case measure => simp [intOf]; omega
              ·
                obtain ⟨⟨v, p', q'⟩, hy⟩ : ∃ x, L[j]? = some x := ⟨_, List.getElem?_eq_getElem (by rw [H.out.1]; omega)⟩
                have HY := Lib.hid hy
                obtain ⟨b', o', he, _, d0, _, _⟩ := user_at HRO.out hy
                cases he
                have j0 : (0 : Int) < ((j + 1 : Nat) : Int) := by omega
                have j1 : (0 : Int) ≤ (j : Int) := by omega
                have j2 : (j : Int) < (N : Int) := by omega
                have W1 : IntKind.i64.wrap (((j + 1 : Nat) : Int) - 1) = (j : Int) := by rw [IntWalk.i64_in _ (by omega)]; omega
                clear hy hR
                cases hlg : ltG v n with
                | false =>
                  have HL := lessW hlg
                  have HE := Lib.hid (vU_order HY.out HX.out hlg)
                  clear hlg
                  go_wp2
                  rw [HHW.out]
                  have l2 : ∀ x : Later (B + 1) wo, x.v.cell? ⟨b, o + j * 3, none⟩ = some (.string v) := fun x => x.cell (by simp; omega) d0
                  refine wp_region_later (B + 1) wo (by kernel_rfl) (by kernel_rfl) ?_
                  repeat (go_big_quiet_step (first | (go_at_call 49; with_reducible refine (sname_at HN.out hn _).mono ?_; rintro e w2 ⟨rfl, rfl⟩; exact ⟨rfl, _, rfl⟩) | (go_at_call 49; with_reducible refine (sname_at HP.out hp _).mono ?_; rintro e w2 ⟨rfl, rfl⟩; exact ⟨rfl, _, rfl⟩) | (go_at_call 50; refine (sin_at HI.out _).mono ?_; rintro e w2 ⟨rfl, rfl⟩; exact ⟨rfl, _, rfl⟩)))
                  refine wpQuiet_nil ?_
                  intro _ hw'
                  obtain ⟨⟨w2, hb2⟩, rfl⟩ := hw'
                  have H6 := Lib.hid (HA0.out.trans (hb2.mono HBB.out))
                  clear hb2
                  go_wp2
                  go_ret
                  exact says_b HE.out H6.out
                | true =>
                  have HL := lessW hlg
                  have HE := Lib.hid (goodU_next HG.out HY.out HX.out HO.out hlg)
                  clear hlg
                  go_wp2
                  rw [HHW.out]
                  have l2 : ∀ x : Later (B + 1) wo, x.v.cell? ⟨b, o + j * 3, none⟩ = some (.string v) := fun x => x.cell (by simp; omega) d0
                  refine wp_region_later (B + 1) wo (by kernel_rfl) (by kernel_rfl) ?_
                  repeat (go_big_quiet_step (first | (go_at_call 49; with_reducible refine (sname_at HN.out hn _).mono ?_; rintro e w2 ⟨rfl, rfl⟩; exact ⟨rfl, _, rfl⟩) | (go_at_call 49; with_reducible refine (sname_at HP.out hp _).mono ?_; rintro e w2 ⟨rfl, rfl⟩; exact ⟨rfl, _, rfl⟩) | (go_at_call 50; refine (sin_at HI.out _).mono ?_; rintro e w2 ⟨rfl, rfl⟩; exact ⟨rfl, _, rfl⟩)))
                  refine wpQuiet_nil ?_
                  intro _ hw'
                  obtain ⟨⟨w2, hb2⟩, rfl⟩ := hw'
                  have H6 := Lib.hid (HA0.out.trans (hb2.mono HBB.out))
                  clear hb2
                  go_wp2
                  go_roundw
                  case rel => exact ⟨j + 1 + 1, by omega, by go_num, HE.out, H6.out⟩
                  case measure => simp [intOf]; omega
    · have h5 : ¬ (k : Int) < (N : Int) := by omega
      have hv := goodU_all HG.out (by rw [H.out.1]; omega)
      rw [H.out.1] at hv
      obtain ⟨z, hz⟩ : ∃ z, vU L = z := ⟨_, rfl⟩
      have HI := Lib.hid (two_int (hv.symm.trans hz))
      have HZ := Lib.hid hz
      clear hv hz
      go_wp2_with fail
      refine (sin_at HI.out _).mono ?_
      rintro e w2 ⟨rfl, rfl⟩
      go_wp2
      go_ret
      exact says_b HZ.out HB.out
theorem spec_uv {A : Option Addr} {N cap : Nat} {L : List Us} {z : Bool} (h : vU L = z) (w : World) (hi : UIn w A N cap L) : Calls Try.prog 30 #[.slice A N cap] w (SayB w z) := by
  subst h
  exact spec_usersvalid w hi
set_option maxRecDepth 20000 in
set_option maxHeartbeats 2000000 in
theorem spec_l14 {A : Option Addr} {N cap : Nat} {L : List Us} {n : ByteArray} {z : Int} (hz : ixG L n 0 = z) (w : World) (h : UIn w A N cap L) : Calls Try.prog 35 #[.slice A N cap, .string n] w fun e w' => e = .returned (.int .i64 z) ∧ w' = w := by
  have H := Lib.hid h
  have HZ := Lib.hid hz
  have hl := h.2.1
  clear h hz
  go_enter Try.func35, Try.ntmps35
  go_wp2
  go_loopw [5] (fun i wr => ∃ k : Nat, k ≤ N ∧ i = .int .i64 (k : Int) ∧ Hid (ixG L n 0 = ixG (L.drop k) n k) ∧ wr = w) (fun i _ => N - (intOf i).toNat)
  case atStart => exact ⟨0, Nat.zero_le _, by go_num, rfl, rfl⟩
  case round =>
    obtain ⟨k, hk, rfl, HT, rfl⟩ := hrel
    by_cases hlt : k < N
    · have h0 : (0 : Int) ≤ (k : Int) := by omega
      have h5 : (k : Int) < (N : Int) := by omega
      obtain ⟨⟨m, p, q⟩, hx⟩ : ∃ x, L[k]? = some x := ⟨_, List.getElem?_eq_getElem (by rw [H.out.1]; exact hlt)⟩
      obtain ⟨b, o, rfl, hb, c0, c1, c2⟩ := user_at H.out.2.2.1 hx
      have HX := Lib.hid hx
      clear hx
      by_cases e1 : m = n
      · subst e1
        go_wp2
        go_ret
        exact ⟨ret_i (by rw [← HZ.out, HT.out]; exact (ixG_here HX.out).symm), rfl⟩
      · obtain ⟨hne, hne'⟩ := ne_walk e1
        have HE := Lib.hid (HT.out.trans (ixG_skip HX.out e1))
        clear e1
        go_wp2
        go_roundw
        case rel => exact ⟨k + 1, by omega, by go_num, HE.out, trivial⟩
        case measure => simp [intOf]; omega
    · have h5 : ¬ (k : Int) < (N : Int) := by omega
      have HE : Hid (z = -1) := Lib.hid (by rw [← HZ.out, HT.out, List.drop_eq_nil_of_le (by rw [H.out.1]; omega)]; rfl)
      go_wp2
      go_ret
      exact ⟨ret_i HE.out.symm, rfl⟩
end Go.Proofs.Ytkhfflbgnojcfaa
