/-
  The contracts of the laws' own helpers on lists of spans and of numbers: comparing, looking up, counting. Condition: the lists can be read.
-/
import Derived.Test.YtmhpmdibhpcjpaaDoorSdrawn
import Derived.Test.YtmhpmdibhpcjpaaDoorSmark
import Derived.Deep.RegionHeld3
namespace Go.Proofs.YtmhpmdibhpcjpaaDoor
open Go.RowKit
set_option linter.unusedVariables false

theorem take_same {α : Type} {L M : List α} {k : Nat} {x : α} (h : L.take k = M.take k) (hl : L[k]? = some x) (hm : M[k]? = some x) : L.take (k + 1) = M.take (k + 1) := by
  rw [List.take_add_one, List.take_add_one, h, hl, hm]
theorem take_diff {α : Type} {L M : List α} {k : Nat} {x y : α} (hl : L[k]? = some x) (hm : M[k]? = some y) (h : x ≠ y) : L ≠ M := by
  rintro rfl
  rw [hl] at hm
  exact h (Option.some.inj hm)
theorem len_diff {α : Type} {L M : List α} (h : L.length ≠ M.length) : L ≠ M := fun e => h (by rw [e])
/-- A truth value is told, and old memory stays. -/
def Tests (w : World) (o : Bool) (e : Ending) (w' : World) : Prop := e = .returned (.bool o) ∧ Below w.heap.size w w'
theorem tests_mk {w w' : World} {o p : Bool} (h : o = p) (hb : Below w.heap.size w w') : Tests w o (.returned (.bool p)) w' := ⟨by rw [h], hb⟩
theorem dec_yes {p : Prop} [Decidable p] (h : p) : decide p = true := decide_eq_true h
theorem dec_no {p : Prop} [Decidable p] (h : ¬ p) : decide p = false := decide_eq_false h

set_option maxHeartbeats 2000000 in
theorem same_spans (A A2 : Option Addr) (cap cap2 : Nat) (L M : List (Int × Int)) (w : World) (h : SpA w A L) (h2 : SpA w A2 M) (hl : L.length ≤ 33554432) (hl2 : M.length ≤ 33554432) :
    Calls Tryd.prog 9 #[.slice A L.length cap, .slice A2 M.length cap2] w (Tests w (decide (L = M))) := by
  have H := Lib.hid h
  have H2 := Lib.hid h2
  clear h h2
  by_cases hlen : L.length = M.length
  · have hlb : ((L.length : Int) != (M.length : Int)) = false := by rw [hlen]; simp
    obtain ⟨m, hm⟩ : ∃ m, L.length = m := ⟨_, rfl⟩
    have hm2 : M.length = m := by rw [← hlen, hm]
    have HM := Lib.hid hm
    have HM2 := Lib.hid hm2
    rw [hm, hm2] at hlb
    rw [hm] at hl
    rw [hm, hm2]
    clear hlen hl2 hm hm2
    go_enter Tryd.func9, Tryd.ntmps9
    go_wp2
    go_loopw [5] (fun i wr => ∃ k : Nat, k ≤ m ∧ i = .int .i64 (k : Int) ∧ Hid (L.take k = M.take k) ∧ Hid (Below w.heap.size w wr)) (fun i _ => m - (intOf i).toNat)
    case atStart => exact ⟨0, Nat.zero_le _, by go_num, rfl, Below.refl _ _⟩
    case round =>
      obtain ⟨k, hk, rfl, HT, HB⟩ := hrel
      by_cases hlt : k < m
      · have h0 : (0 : Int) ≤ (k : Int) := by omega
        have h5 : (k : Int) < (m : Int) := by omega
        obtain ⟨⟨x1, x2⟩, hx⟩ : ∃ x, L[k]? = some x := ⟨_, List.getElem?_eq_getElem (by rw [HM.out]; exact hlt)⟩
        obtain ⟨⟨y1, y2⟩, hy⟩ : ∃ x, M[k]? = some x := ⟨_, List.getElem?_eq_getElem (by rw [HM2.out]; exact hlt)⟩
        obtain ⟨b, o, rfl, hb, c1, c2⟩ := (H.out.below HB.out (Nat.le_refl _)) k _ hx
        obtain ⟨b', o', rfl, hb', d1, d2⟩ := (H2.out.below HB.out (Nat.le_refl _)) k _ hy
        have HX := Lib.hid hx
        have HY := Lib.hid hy
        clear hx hy
        by_cases e1 : x1 = y1
        · by_cases e2 : x2 = y2
          · subst e1
            subst e2
            go_wp2
            go_quiet (fail)
            go_wp2
            go_roundw
            case rel => exact ⟨k + 1, by omega, by go_num, take_same HT.out HX.out HY.out, below_drewN' HB.out _⟩
            case measure => simp [intOf]; omega
          · have hne : (x2 == y2) = false := beq_eq_false_iff_ne.2 e2
            have HNE : Hid (L ≠ M) := take_diff HX.out HY.out (by intro e; exact e2 (Prod.mk.inj e).2)
            subst e1
            clear e2
            go_wp2
            go_quiet (fail)
            go_wp2
            go_ret
            exact tests_mk (dec_no HNE.out) (below_drewN' HB.out _)
        · have hne : (x1 == y1) = false := beq_eq_false_iff_ne.2 e1
          have HNE : Hid (L ≠ M) := take_diff HX.out HY.out (by intro e; exact e1 (Prod.mk.inj e).1)
          clear e1
          go_wp2
          go_quiet (fail)
          go_wp2
          go_ret
          exact tests_mk (dec_no HNE.out) (below_drewN' HB.out _)
      · have h5 : ¬ (k : Int) < (m : Int) := by omega
        have HE : Hid (L = M) := by
          have h := HT.out
          rw [List.take_of_length_le (by rw [HM.out]; omega), List.take_of_length_le (by rw [HM2.out]; omega)] at h
          exact h
        go_wp2
        go_ret
        exact tests_mk (dec_yes HE.out) HB.out
  · have hlb : ((L.length : Int) != (M.length : Int)) = true := by simp; omega
    have HNE := Lib.hid (len_diff hlen)
    clear hlen
    go_enter Tryd.func9, Tryd.ntmps9
    go_wp2
    go_ret
    exact tests_mk (dec_no HNE.out) (Below.refl _ _)
theorem below_eq {a w w' : World} (h : Below a.heap.size a w) (h2 : Below w.drew.heap.size w.drew w') : Below a.heap.size a w' := by
  have h3 : Below w.heap.size w w' := ⟨h2.os, h2.tape, h2.output, h2.size, h2.block⟩
  exact h.trans (h3.mono h.size)
set_option maxHeartbeats 2000000 in
theorem eq_span_yes (x1 x2 : Int) (w : World) :
    Calls Tryd.prog 31 #[.agg #[.int .i64 x1, .int .i64 x2], .agg #[.int .i64 x1, .int .i64 x2]] w (Tests w true) := by
  have h1 : (x1 != x1) = false := by simp
  have h2 : (x2 != x2) = false := by simp
  go_enter Tryd.func31, Tryd.ntmps31
  go_wp2
  go_ret
  exact ⟨rfl, ((Below.refl _ _).alloc (Nat.le_refl _) _).alloc (by simp) _⟩
set_option maxHeartbeats 2000000 in
theorem eq_span_no (x1 x2 y1 y2 : Int) (w : World) (h : (x1, x2) ≠ (y1, y2)) :
    Calls Tryd.prog 31 #[.agg #[.int .i64 x1, .int .i64 x2], .agg #[.int .i64 y1, .int .i64 y2]] w (Tests w false) := by
  by_cases e1 : x1 = y1
  · have e2 : ¬ x2 = y2 := fun e => h (by rw [e1, e])
    subst e1
    have h1 : (x1 != x1) = false := by simp
    have h2 : (x2 != y2) = true := by simpa using e2
    clear e2 h
    go_enter Tryd.func31, Tryd.ntmps31
    go_wp2
    go_ret
    exact ⟨rfl, ((Below.refl _ _).alloc (Nat.le_refl _) _).alloc (by simp) _⟩
  · have h1 : (x1 != y1) = true := by simpa using e1
    clear e1 h
    go_enter Tryd.func31, Tryd.ntmps31
    go_wp2
    go_ret
    exact ⟨rfl, ((Below.refl _ _).alloc (Nat.le_refl _) _).alloc (by simp) _⟩
set_option maxHeartbeats 4000000 in
theorem eq_spans (A A2 : Option Addr) (cap cap2 : Nat) (L M : List (Int × Int)) (w : World) (h : SpA w A L) (h2 : SpA w A2 M) (hl : L.length ≤ 33554432) (hl2 : M.length ≤ 33554432) :
    Calls Tryd.prog 15 #[.slice A L.length cap, .slice A2 M.length cap2] w (Tests w (decide (L = M))) := by
  have H := Lib.hid h
  have H2 := Lib.hid h2
  clear h h2
  by_cases hlen : L.length = M.length
  · have hlb : ((L.length : Int) != (M.length : Int)) = false := by rw [hlen]; simp
    obtain ⟨m, hm⟩ : ∃ m, L.length = m := ⟨_, rfl⟩
    have hm2 : M.length = m := by rw [← hlen, hm]
    have HM := Lib.hid hm
    have HM2 := Lib.hid hm2
    rw [hm, hm2] at hlb
    rw [hm] at hl
    rw [hm, hm2]
    clear hlen hl2 hm hm2
    go_enter Tryd.func15, Tryd.ntmps15
    go_wp2
    go_loopw [5] (fun i wr => ∃ k : Nat, k ≤ m ∧ i = .int .i64 (k : Int) ∧ Hid (L.take k = M.take k) ∧ Hid (Below w.heap.size w wr)) (fun i _ => m - (intOf i).toNat)
    case atStart => exact ⟨0, Nat.zero_le _, by go_num, rfl, Below.refl _ _⟩
    case round =>
      obtain ⟨k, hk, rfl, HT, HB⟩ := hrel
      by_cases hlt : k < m
      · have h0 : (0 : Int) ≤ (k : Int) := by omega
        have h5 : (k : Int) < (m : Int) := by omega
        obtain ⟨⟨x1, x2⟩, hx⟩ : ∃ x, L[k]? = some x := ⟨_, List.getElem?_eq_getElem (by rw [HM.out]; exact hlt)⟩
        obtain ⟨⟨y1, y2⟩, hy⟩ : ∃ x, M[k]? = some x := ⟨_, List.getElem?_eq_getElem (by rw [HM2.out]; exact hlt)⟩
        obtain ⟨b, o, rfl, hb, c1, c2⟩ := (H.out.below HB.out (Nat.le_refl _)) k _ hx
        obtain ⟨b', o', rfl, hb', d1, d2⟩ := (H2.out.below HB.out (Nat.le_refl _)) k _ hy
        have HX := Lib.hid hx
        have HY := Lib.hid hy
        clear hx hy
        by_cases hd : (x1, x2) ≠ (y1, y2)
        · have HD := Lib.hid hd
          have HNE : Hid (L ≠ M) := take_diff HX.out HY.out hd
          clear hd
          go_wp2
          go_region_held3 (fun w' => w'.cell? ⟨b, o + k * 2, none⟩ = some (.int .i64 x1) ∧ w'.cell? ⟨b, o + k * 2 + 1, none⟩ = some (.int .i64 x2) ∧ w'.cell? ⟨b', o' + k * 2, none⟩ = some (.int .i64 y1) ∧ w'.cell? ⟨b', o' + k * 2 + 1, none⟩ = some (.int .i64 y2)) (go_keep) (first | (go_at_call 31; refine (eq_span_no _ _ _ _ _ HD.out).mono ?_; rintro e w5 ⟨rfl, hb5⟩; have k1 : w5.cell? ⟨b, o + k * 2, none⟩ = some (.int .i64 x1) := (hb5.cell (p := ⟨b, o + k * 2, none⟩) hb).trans c1; have k2 : w5.cell? ⟨b, o + k * 2 + 1, none⟩ = some (.int .i64 x2) := (hb5.cell (p := ⟨b, o + k * 2 + 1, none⟩) hb).trans c2; have k3 : w5.cell? ⟨b', o' + k * 2, none⟩ = some (.int .i64 y1) := (hb5.cell (p := ⟨b', o' + k * 2, none⟩) hb').trans d1; have k4 : w5.cell? ⟨b', o' + k * 2 + 1, none⟩ = some (.int .i64 y2) := (hb5.cell (p := ⟨b', o' + k * 2 + 1, none⟩) hb').trans d2; have HB5 := Lib.hid (below_eq HB.out hb5); clear hb5))
          all_goals
            go_wp2
            go_ret
            exact tests_mk (dec_no HNE.out) HB5.out
        · have hd := Prod.mk.inj (Decidable.not_not.1 hd)
          obtain ⟨rfl, rfl⟩ := hd
          go_wp2
          go_region_held3 (fun w' => w'.cell? ⟨b, o + k * 2, none⟩ = some (.int .i64 x1) ∧ w'.cell? ⟨b, o + k * 2 + 1, none⟩ = some (.int .i64 x2) ∧ w'.cell? ⟨b', o' + k * 2, none⟩ = some (.int .i64 x1) ∧ w'.cell? ⟨b', o' + k * 2 + 1, none⟩ = some (.int .i64 x2)) (go_keep) (first | (go_at_call 31; refine (eq_span_yes _ _ _).mono ?_; rintro e w5 ⟨rfl, hb5⟩; have k1 : w5.cell? ⟨b, o + k * 2, none⟩ = some (.int .i64 x1) := (hb5.cell (p := ⟨b, o + k * 2, none⟩) hb).trans c1; have k2 : w5.cell? ⟨b, o + k * 2 + 1, none⟩ = some (.int .i64 x2) := (hb5.cell (p := ⟨b, o + k * 2 + 1, none⟩) hb).trans c2; have k3 : w5.cell? ⟨b', o' + k * 2, none⟩ = some (.int .i64 x1) := (hb5.cell (p := ⟨b', o' + k * 2, none⟩) hb').trans d1; have k4 : w5.cell? ⟨b', o' + k * 2 + 1, none⟩ = some (.int .i64 x2) := (hb5.cell (p := ⟨b', o' + k * 2 + 1, none⟩) hb').trans d2; have HB5 := Lib.hid (below_eq HB.out hb5); clear hb5))
          all_goals
            go_wp2
            go_roundw
            case rel => exact ⟨k + 1, by omega, by go_num, take_same HT.out HX.out HY.out, HB5.out⟩
            case measure => simp [intOf]; omega
      · have h5 : ¬ (k : Int) < (m : Int) := by omega
        have HE : Hid (L = M) := by
          have h := HT.out
          rw [List.take_of_length_le (by rw [HM.out]; omega), List.take_of_length_le (by rw [HM2.out]; omega)] at h
          exact h
        go_wp2
        go_ret
        exact tests_mk (dec_yes HE.out) HB.out
  · have hlb : ((L.length : Int) != (M.length : Int)) = true := by simp; omega
    have HNE := Lib.hid (len_diff hlen)
    clear hlen
    go_enter Tryd.func15, Tryd.ntmps15
    go_wp2
    go_ret
    exact tests_mk (dec_no HNE.out) (Below.refl _ _)
end Go.Proofs.YtmhpmdibhpcjpaaDoor
