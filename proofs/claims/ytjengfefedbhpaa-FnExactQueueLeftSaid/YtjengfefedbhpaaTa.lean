/-
  The contracts of l21Has, l21Names and areReceivers. Condition: the names can be read, and are not too many.
-/
import Derived.Test.YtjengfefedbhpaaTsh
import Derived.Test.YtjengfefedbhpaaLat
import Derived.Deep.RegionHeld3
namespace Go.Proofs.Ytjengfefedbhpaa
open Go.RowKit
set_option linter.unusedVariables false

set_option maxHeartbeats 1000000 in
theorem spec_has {A : Option Addr} {N cap : Nat} {L : List ByteArray} {n : ByteArray} {z : Bool} (hz : decide (n ∈ L) = z) (w : World) (h : SIn w A N cap L) : Calls Try.prog 61 #[.slice A N cap, .string n] w fun e w' => e = .returned (.bool z) ∧ w' = w := by
  have H := Lib.hid h
  have HZ := Lib.hid hz
  have hl := h.2.1
  clear h hz
  go_enter Try.func61, Try.ntmps61
  go_wp2
  go_loopw [5] (fun i wr => ∃ k : Nat, k ≤ N ∧ i = .int .i64 (k : Int) ∧ Hid (¬ n ∈ L.take k) ∧ wr = w) (fun i _ => N - (intOf i).toNat)
  case atStart => exact ⟨0, Nat.zero_le _, by go_num, Lib.hid (by simp), rfl⟩
  case round =>
    obtain ⟨k, hk, rfl, HG, rfl⟩ := hrel
    by_cases hlt : k < N
    · have h0 : (0 : Int) ≤ (k : Int) := by omega
      have h5 : (k : Int) < (N : Int) := by omega
      obtain ⟨x, hx⟩ : ∃ x, L[k]? = some x := ⟨_, List.getElem?_eq_getElem (by rw [H.out.1]; exact hlt)⟩
      obtain ⟨b, o, rfl, hb, c0⟩ := str_at H.out.2.2.1 hx
      by_cases hn : x = n
      · have HE := Lib.hid (HZ.out.symm.trans (mem_here hx hn))
        subst hn
        clear hx
        go_wp2
        go_ret
        exact ⟨ret_bl HE.out.symm, rfl⟩
      · have HE := Lib.hid (mem_step HG.out hx hn)
        obtain ⟨v1, v2⟩ := ne_walk hn
        clear hx hn
        go_wp2
        go_roundw
        case rel => exact ⟨k + 1, by omega, by go_num, HE, trivial⟩
        case measure => simp [intOf]; omega
    · have h5 : ¬ (k : Int) < (N : Int) := by omega
      have HE : Hid (z = false) := Lib.hid (HZ.out.symm.trans (decide_eq_false (by have := HG.out; rw [List.take_of_length_le (by rw [H.out.1]; omega)] at this; exact this)))
      go_wp2
      go_ret
      exact ⟨ret_bl HE.out.symm, rfl⟩
set_option maxRecDepth 20000 in
set_option maxHeartbeats 2000000 in
theorem spec_names {A : Option Addr} {N cap : Nat} {T : List ByteArray} (w : World) (h : SIn w A N cap T) : Calls Try.prog 56 #[.slice A N cap] w (SayB w (n21 T)) := by
  have H := Lib.hid h
  have hl := h.2.1
  have hcap := h.2.2.2.2.2.2.1
  clear h
  go_enter Try.func56, Try.ntmps56
  go_wp2
  go_loopw [3] (fun i wr => ∃ k : Nat, k ≤ N ∧ i = .int .i64 (k : Int) ∧ Hid (namesB (T.take k) = true) ∧ Hid (Below w.heap.size w wr)) (fun i _ => N - (intOf i).toNat)
  case atStart => exact ⟨0, Nat.zero_le _, by go_num, Lib.hid (by rw [List.take_zero]; exact namesB_nil), Below.refl _ _⟩
  case round =>
    obtain ⟨k, hk, rfl, HG, HB⟩ := hrel
    by_cases hlt : k < N
    · have h0 : (0 : Int) ≤ (k : Int) := by omega
      have h5 : (k : Int) < (N : Int) := by omega
      have h6 : (k : Int) ≤ (cap : Int) := by omega
      obtain ⟨x, hx⟩ : ∃ x, T[k]? = some x := ⟨_, List.getElem?_eq_getElem (by rw [H.out.1]; exact hlt)⟩
      have hxs : x.size ≤ 16777216 := H.out.2.2.2.2.2.1 x (List.mem_of_getElem? hx)
      have HW := Lib.hid (H.out.below HB.out (Nat.le_refl _))
      obtain ⟨b, o, rfl, hb, c0⟩ := str_at HW.out.2.2.1 hx
      have HX := Lib.hid hx
      have l0 : ∀ y : Later wr.heap.size wr, y.v.cell? ⟨b, o + k, none⟩ = some (.string x) := fun y => y.cell hb c0
      have HF := Lib.hid (HW.out.front (show k ≤ N by omega))
      clear hx
      cases hn : nameB (kb x) with
      | false =>
        have HN := Lib.hid hn
        have HE := Lib.hid (n21_bad (namesB_bad HX.out hn))
        clear hn
        go_wp2
        refine wp_region_later wr.heap.size wr (by kernel_rfl) (by kernel_rfl) ?_
        repeat (go_big_quiet_step ((go_at_call 55; refine (sname_at HN.out hxs _).mono ?_; rintro e w2 ⟨rfl, rfl⟩; exact ⟨rfl, _, rfl⟩)))
        refine wpQuiet_nil ?_
        intro _ hw'
        obtain ⟨⟨w2, hb2⟩, rfl⟩ := hw'
        have H6 := Lib.hid (HB.out.trans (hb2.mono HB.out.size))
        clear hb2
        go_wp2
        go_ret
        exact says_b HE.out H6.out
      | true =>
        have HN := Lib.hid hn
        clear hn
        cases hm : decide (x ∈ T.take k) with
        | true =>
          have HM := Lib.hid hm
          have HE := Lib.hid (n21_bad (namesB_twice HX.out hm))
          clear hm
          go_wp2
          refine wp_region_later wr.heap.size wr (by kernel_rfl) (by kernel_rfl) ?_
          have HL : ∀ y : Later wr.heap.size wr, Calls Try.prog 61 #[.slice (some ⟨b, o, none⟩) k cap, .string x] y.v fun e w' => e = .returned (.bool true) ∧ w' = y.v := fun y => spec_has HM.out y.v (HF.out.below y.h (Nat.le_refl _))
          repeat (go_big_quiet_step (first | (go_at_call 55; refine (sname_at HN.out hxs _).mono ?_; rintro e w2 ⟨rfl, rfl⟩; exact ⟨rfl, _, rfl⟩) | (go_at_call 61; refine (HL _).mono ?_; rintro e w2 ⟨rfl, rfl⟩; exact ⟨rfl, _, rfl⟩)))
          refine wpQuiet_nil ?_
          intro _ hw'
          obtain ⟨⟨w2, hb2⟩, rfl⟩ := hw'
          have H6 := Lib.hid (HB.out.trans (hb2.mono HB.out.size))
          clear hb2 HL
          go_wp2
          go_ret
          exact says_b HE.out H6.out
        | false =>
          have HM := Lib.hid hm
          have HE := Lib.hid (namesB_next HG.out HX.out HN.out hm)
          clear hm
          go_wp2
          refine wp_region_later wr.heap.size wr (by kernel_rfl) (by kernel_rfl) ?_
          have HL : ∀ y : Later wr.heap.size wr, Calls Try.prog 61 #[.slice (some ⟨b, o, none⟩) k cap, .string x] y.v fun e w' => e = .returned (.bool false) ∧ w' = y.v := fun y => spec_has HM.out y.v (HF.out.below y.h (Nat.le_refl _))
          repeat (go_big_quiet_step (first | (go_at_call 55; refine (sname_at HN.out hxs _).mono ?_; rintro e w2 ⟨rfl, rfl⟩; exact ⟨rfl, _, rfl⟩) | (go_at_call 61; refine (HL _).mono ?_; rintro e w2 ⟨rfl, rfl⟩; exact ⟨rfl, _, rfl⟩)))
          refine wpQuiet_nil ?_
          intro _ hw'
          obtain ⟨⟨w2, hb2⟩, rfl⟩ := hw'
          have H6 := Lib.hid (HB.out.trans (hb2.mono HB.out.size))
          clear hb2 HL
          go_wp2
          go_roundw
          case rel => exact ⟨k + 1, by omega, by go_num, HE, H6⟩
          case measure => simp [intOf]; omega
    · have h5 : ¬ (k : Int) < (N : Int) := by omega
      have HE : Hid (n21 T = decide (N ≤ 3)) := Lib.hid ((n21_all HG.out (by rw [H.out.1]; omega)).trans (by rw [H.out.1]))
      by_cases h3 : N ≤ 3
      · have h3' : (N : Int) ≤ 3 := by omega
        go_wp2
        go_ret
        exact says_b (HE.out.trans (decide_eq_true h3)) HB.out
      · have h3' : ¬ (N : Int) ≤ 3 := by omega
        go_wp2
        go_ret
        exact says_b (HE.out.trans (decide_eq_false h3)) HB.out
theorem names_at {A : Option Addr} {N cap : Nat} {T : List ByteArray} {z : Bool} (hz : n21 T = z) (w : World) (h : SIn w A N cap T) : Calls Try.prog 56 #[.slice A N cap] w (SayB w z) := by
  subst hz
  exact spec_names w h
set_option maxRecDepth 20000 in
set_option maxHeartbeats 2000000 in
theorem impl_receivers {A : Option Addr} {N cap : Nat} {T : List ByteArray} (w : World) (h : SIn w A N cap T) : Calls Try.prog 76 #[.slice A N cap] w (SayB w (recB T)) := by
  have H := Lib.hid h
  have hl := h.2.1
  have hcap := h.2.2.2.2.2.2.1
  clear h
  by_cases h0N : N = 0
  · subst h0N
    have HE : Hid (recB T = false) := Lib.hid (recB_long (by rw [H.out.1]; omega))
    go_enter Try.func76, Try.ntmps76
    go_wp2
    go_ret
    exact says_b HE.out (Below.refl _ _)
  have hN0 : ((N : Int) == 0) = false := beq_eq_false_iff_ne.2 (by omega)
  have hN1 : 1 ≤ N := by omega
  clear h0N
  by_cases h3 : N ≤ 3
  · have h3' : ¬ (3 : Int) < (N : Int) := by omega
    go_enter Try.func76, Try.ntmps76
    go_wp2
    go_loopw [15] (fun i wr => ∃ k : Nat, k ≤ N ∧ i = .int .i64 (k : Int) ∧ Hid (namesB (T.take k) = true) ∧ Hid (Below w.heap.size w wr)) (fun i _ => N - (intOf i).toNat)
    case atStart => exact ⟨0, Nat.zero_le _, by go_num, Lib.hid (by rw [List.take_zero]; exact namesB_nil), Below.refl _ _⟩
    case round =>
      obtain ⟨k, hk, rfl, HG, HB⟩ := hrel
      by_cases hlt : k < N
      · have h0 : (0 : Int) ≤ (k : Int) := by omega
        have h5 : (k : Int) < (N : Int) := by omega
        have h6 : (k : Int) ≤ (cap : Int) := by omega
        obtain ⟨x, hx⟩ : ∃ x, T[k]? = some x := ⟨_, List.getElem?_eq_getElem (by rw [H.out.1]; exact hlt)⟩
        have hxs : x.size ≤ 16777216 := H.out.2.2.2.2.2.1 x (List.mem_of_getElem? hx)
        have HW := Lib.hid (H.out.below HB.out (Nat.le_refl _))
        obtain ⟨b, o, rfl, hb, c0⟩ := str_at HW.out.2.2.1 hx
        have HX := Lib.hid hx
        have HF := Lib.hid (HW.out.front (show k ≤ N by omega))
        clear hx
        cases hn : nameB (kb x) with
        | false =>
          have HN := Lib.hid hn
          have HE := Lib.hid (recB_bad (namesB_bad HX.out hn))
          clear hn
          go_wp2_with fail
          refine (iname_at HN.out hxs _).mono ?_
          rintro e w2 ⟨rfl, hb2⟩
          have H6 := Lib.hid (HB.out.trans (hb2.mono HB.out.size))
          clear hb2
          go_wp2
          go_ret
          exact says_b HE.out H6.out
        | true =>
          have HN := Lib.hid hn
          clear hn
          cases hm : decide (x ∈ T.take k) with
          | true =>
            have HM := Lib.hid hm
            have HE := Lib.hid (recB_bad (namesB_twice HX.out hm))
            clear hm
            go_wp2_with fail
            refine (iname_at HN.out hxs _).mono ?_
            rintro e w2 ⟨rfl, hb2⟩
            have H6 := Lib.hid (HB.out.trans (hb2.mono HB.out.size))
            have HF2 := Lib.hid (HF.out.below hb2 (Nat.le_refl _))
            clear hb2
            go_wp2_with fail
            refine (lib_has HM.out _ HF2.out).mono ?_
            rintro e w3 ⟨rfl, rfl⟩
            go_wp2
            go_ret
            exact says_b HE.out H6.out
          | false =>
            have HM := Lib.hid hm
            have HE := Lib.hid (namesB_next HG.out HX.out HN.out hm)
            clear hm
            go_wp2_with fail
            refine (iname_at HN.out hxs _).mono ?_
            rintro e w2 ⟨rfl, hb2⟩
            have H6 := Lib.hid (HB.out.trans (hb2.mono HB.out.size))
            have HF2 := Lib.hid (HF.out.below hb2 (Nat.le_refl _))
            clear hb2
            go_wp2_with fail
            refine (lib_has HM.out _ HF2.out).mono ?_
            rintro e w3 ⟨rfl, rfl⟩
            go_wp2
            go_roundw
            case rel => exact ⟨k + 1, by omega, by go_num, HE, H6⟩
            case measure => simp [intOf]; omega
      · have h5 : ¬ (k : Int) < (N : Int) := by omega
        have HE : Hid (recB T = true) := Lib.hid (recB_all HG.out (by rw [H.out.1]; omega) (by rw [H.out.1]; exact hN1) (by rw [H.out.1]; exact h3))
        go_wp2
        go_ret
        exact says_b HE.out HB.out
  · have h3' : (3 : Int) < (N : Int) := by omega
    have HE : Hid (recB T = false) := Lib.hid (recB_long (by rw [H.out.1]; omega))
    go_enter Try.func76, Try.ntmps76
    go_wp2
    go_ret
    exact says_b HE.out (Below.refl _ _)
theorem receivers_at {A : Option Addr} {N cap : Nat} {T : List ByteArray} {z : Bool} (hz : recB T = z) (w : World) (h : SIn w A N cap T) : Calls Try.prog 76 #[.slice A N cap] w (SayB w z) := by
  subst hz
  exact impl_receivers w h
end Go.Proofs.Ytjengfefedbhpaa
