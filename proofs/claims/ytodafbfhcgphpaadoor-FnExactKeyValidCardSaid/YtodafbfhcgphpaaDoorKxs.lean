/-
  The exact laws' own helpers on lists of spans: comparing, copying. Condition: the lists can be read.
-/
import Derived.Test.YtodafbfhcgphpaaDoorSdrk
import Derived.Deep.RegionHeld3
import Derived.OwnWalk
import Derived.Laws.OwnMore
namespace Go.Proofs.YtodafbfhcgphpaaDoor
open Go.RowKit
set_option linter.unusedVariables false

theorem take_same {α : Type} {L M : List α} {k : Nat} {x : α} (h : L.take k = M.take k) (hl : L[k]? = some x) (hm : M[k]? = some x) : L.take (k + 1) = M.take (k + 1) := by
  rw [List.take_add_one, List.take_add_one, h, hl, hm]
theorem take_diff {α : Type} {L M : List α} {k : Nat} {x y : α} (hl : L[k]? = some x) (hm : M[k]? = some y) (h : x ≠ y) : L ≠ M := by
  rintro rfl
  rw [hl] at hm
  exact h (Option.some.inj hm)
theorem len_diff {α : Type} {L M : List α} (h : L.length ≠ M.length) : L ≠ M := fun e => h (by rw [e])
/-- A truth value is told, and old memory stays. -/
def Tests (w : World) (o : Bool) (e : Ending) (w' : World) : Prop := e = .returned (.bool o) ∧ Below w.heap.size w w'
theorem tests_mk {w w' : World} {o p : Bool} (h : o = p) (hb : Below w.heap.size w w') : Tests w o (.returned (.bool p)) w' := ⟨by rw [h], hb⟩
theorem dec_yes {p : Prop} [Decidable p] (h : p) : decide p = true := decide_eq_true h
theorem dec_no {p : Prop} [Decidable p] (h : ¬ p) : decide p = false := decide_eq_false h

theorem below_eq {a w w' : World} (h : Below a.heap.size a w) (h2 : Below w.drew.heap.size w.drew w') : Below a.heap.size a w' := by
  have h3 : Below w.heap.size w w' := ⟨h2.os, h2.tape, h2.output, h2.size, h2.block⟩
  exact h.trans (h3.mono h.size)
set_option maxHeartbeats 2000000 in
theorem eq_span_yes (x1 x2 : Int) (w : World) :
    Calls Tryd.prog 43 #[.agg #[.int .i64 x1, .int .i64 x2], .agg #[.int .i64 x1, .int .i64 x2]] w (Tests w true) := by
  have h1 : (x1 != x1) = false := by simp
  have h2 : (x2 != x2) = false := by simp
  go_enter Tryd.func43, Tryd.ntmps43
  go_wp2
  go_ret
  exact ⟨rfl, ((Below.refl _ _).alloc (Nat.le_refl _) _).alloc (by simp) _⟩
set_option maxHeartbeats 2000000 in
theorem eq_span_no (x1 x2 y1 y2 : Int) (w : World) (h : (x1, x2) ≠ (y1, y2)) :
    Calls Tryd.prog 43 #[.agg #[.int .i64 x1, .int .i64 x2], .agg #[.int .i64 y1, .int .i64 y2]] w (Tests w false) := by
  by_cases e1 : x1 = y1
  · have e2 : ¬ x2 = y2 := fun e => h (by rw [e1, e])
    subst e1
    have h1 : (x1 != x1) = false := by simp
    have h2 : (x2 != y2) = true := by simpa using e2
    clear e2 h
    go_enter Tryd.func43, Tryd.ntmps43
    go_wp2
    go_ret
    exact ⟨rfl, ((Below.refl _ _).alloc (Nat.le_refl _) _).alloc (by simp) _⟩
  · have h1 : (x1 != y1) = true := by simpa using e1
    clear e1 h
    go_enter Tryd.func43, Tryd.ntmps43
    go_wp2
    go_ret
    exact ⟨rfl, ((Below.refl _ _).alloc (Nat.le_refl _) _).alloc (by simp) _⟩
set_option maxHeartbeats 4000000 in
theorem eq_spans (A A2 : Option Addr) (cap cap2 : Nat) (L M : List (Int × Int)) (w : World) (h : SpA w A L) (h2 : SpA w A2 M) (hl : L.length ≤ 33554432) (hl2 : M.length ≤ 33554432) :
    Calls Tryd.prog 28 #[.slice A L.length cap, .slice A2 M.length cap2] w (Tests w (decide (L = M))) := by
  have H := Lib.hid h
  have H2 := Lib.hid h2
  clear h h2
  by_cases hlen : L.length = M.length
  · have hlb : ((L.length : Int) != (M.length : Int)) = false := by rw [hlen]; simp
    obtain ⟨m, hm⟩ : ∃ m, L.length = m := ⟨_, rfl⟩
    have hm2 : M.length = m := by rw [← hlen, hm]
    have HM := Lib.hid hm
    have HM2 := Lib.hid hm2
    rw [hm, hm2] at hlb
    rw [hm] at hl
    rw [hm, hm2]
    clear hlen hl2 hm hm2
    go_enter Tryd.func28, Tryd.ntmps28
    go_wp2
    go_loopw [5] (fun i wr => ∃ k : Nat, k ≤ m ∧ i = .int .i64 (k : Int) ∧ Hid (L.take k = M.take k) ∧ Hid (Below w.heap.size w wr)) (fun i _ => m - (intOf i).toNat)
    case atStart => exact ⟨0, Nat.zero_le _, by go_num, rfl, Below.refl _ _⟩
    case round =>
      obtain ⟨k, hk, rfl, HT, HB⟩ := hrel
      by_cases hlt : k < m
      · have h0 : (0 : Int) ≤ (k : Int) := by omega
        have h5 : (k : Int) < (m : Int) := by omega
        obtain ⟨⟨x1, x2⟩, hx⟩ : ∃ x, L[k]? = some x := ⟨_, List.getElem?_eq_getElem (by rw [HM.out]; exact hlt)⟩
        obtain ⟨⟨y1, y2⟩, hy⟩ : ∃ x, M[k]? = some x := ⟨_, List.getElem?_eq_getElem (by rw [HM2.out]; exact hlt)⟩
        obtain ⟨b, o, rfl, hb, c1, c2⟩ := (H.out.below HB.out (Nat.le_refl _)) k _ hx
        obtain ⟨b', o', rfl, hb', d1, d2⟩ := (H2.out.below HB.out (Nat.le_refl _)) k _ hy
        have HX := Lib.hid hx
        have HY := Lib.hid hy
        clear hx hy
        by_cases hd : (x1, x2) ≠ (y1, y2)
        · have HD := Lib.hid hd
          have HNE : Hid (L ≠ M) := take_diff HX.out HY.out hd
          clear hd
          go_wp2
          go_region_held3 (fun w' => w'.cell? ⟨b, o + k * 2, none⟩ = some (.int .i64 x1) ∧ w'.cell? ⟨b, o + k * 2 + 1, none⟩ = some (.int .i64 x2) ∧ w'.cell? ⟨b', o' + k * 2, none⟩ = some (.int .i64 y1) ∧ w'.cell? ⟨b', o' + k * 2 + 1, none⟩ = some (.int .i64 y2)) (go_keep) (first | (go_at_call 43; refine (eq_span_no _ _ _ _ _ HD.out).mono ?_; rintro e w5 ⟨rfl, hb5⟩; have k1 : w5.cell? ⟨b, o + k * 2, none⟩ = some (.int .i64 x1) := (hb5.cell (p := ⟨b, o + k * 2, none⟩) hb).trans c1; have k2 : w5.cell? ⟨b, o + k * 2 + 1, none⟩ = some (.int .i64 x2) := (hb5.cell (p := ⟨b, o + k * 2 + 1, none⟩) hb).trans c2; have k3 : w5.cell? ⟨b', o' + k * 2, none⟩ = some (.int .i64 y1) := (hb5.cell (p := ⟨b', o' + k * 2, none⟩) hb').trans d1; have k4 : w5.cell? ⟨b', o' + k * 2 + 1, none⟩ = some (.int .i64 y2) := (hb5.cell (p := ⟨b', o' + k * 2 + 1, none⟩) hb').trans d2; have HB5 := Lib.hid (below_eq HB.out hb5); clear hb5))
          all_goals
            go_wp2
            go_ret
            exact tests_mk (dec_no HNE.out) HB5.out
        · have hd := Prod.mk.inj (Decidable.not_not.1 hd)
          obtain ⟨rfl, rfl⟩ := hd
          go_wp2
          go_region_held3 (fun w' => w'.cell? ⟨b, o + k * 2, none⟩ = some (.int .i64 x1) ∧ w'.cell? ⟨b, o + k * 2 + 1, none⟩ = some (.int .i64 x2) ∧ w'.cell? ⟨b', o' + k * 2, none⟩ = some (.int .i64 x1) ∧ w'.cell? ⟨b', o' + k * 2 + 1, none⟩ = some (.int .i64 x2)) (go_keep) (first | (go_at_call 43; refine (eq_span_yes _ _ _).mono ?_; rintro e w5 ⟨rfl, hb5⟩; have k1 : w5.cell? ⟨b, o + k * 2, none⟩ = some (.int .i64 x1) := (hb5.cell (p := ⟨b, o + k * 2, none⟩) hb).trans c1; have k2 : w5.cell? ⟨b, o + k * 2 + 1, none⟩ = some (.int .i64 x2) := (hb5.cell (p := ⟨b, o + k * 2 + 1, none⟩) hb).trans c2; have k3 : w5.cell? ⟨b', o' + k * 2, none⟩ = some (.int .i64 x1) := (hb5.cell (p := ⟨b', o' + k * 2, none⟩) hb').trans d1; have k4 : w5.cell? ⟨b', o' + k * 2 + 1, none⟩ = some (.int .i64 x2) := (hb5.cell (p := ⟨b', o' + k * 2 + 1, none⟩) hb').trans d2; have HB5 := Lib.hid (below_eq HB.out hb5); clear hb5))
          all_goals
            go_wp2
            go_roundw
            case rel => exact ⟨k + 1, by omega, by go_num, take_same HT.out HX.out HY.out, HB5.out⟩
            case measure => simp [intOf]; omega
      · have h5 : ¬ (k : Int) < (m : Int) := by omega
        have HE : Hid (L = M) := by
          have h := HT.out
          rw [List.take_of_length_le (by rw [HM.out]; omega), List.take_of_length_le (by rw [HM2.out]; omega)] at h
          exact h
        go_wp2
        go_ret
        exact tests_mk (dec_yes HE.out) HB.out
  · have hlb : ((L.length : Int) != (M.length : Int)) = true := by simp; omega
    have HNE := Lib.hid (len_diff hlen)
    clear hlen
    go_enter Tryd.func28, Tryd.ntmps28
    go_wp2
    go_ret
    exact tests_mk (dec_no HNE.out) (Below.refl _ _)
set_option maxHeartbeats 1000000 in
theorem to_span (x1 x2 : Int) (w : World) : Calls Tryd.prog 42 #[.agg #[.int .i64 x1, .int .i64 x2]] w fun e w' => e = .returned (.agg #[.int .i64 x1, .int .i64 x2]) ∧ Below w.heap.size w w' := by
  go_enter Tryd.func42, Tryd.ntmps42
  go_wp2
  refine bodyPost_ret (v := .agg #[.int .i64 x1, .int .i64 x2]) (by simp [results, Tryd.results42, go_sem]) rfl ?_
  refine ⟨rfl, ?_⟩
  refine (((Below.refl _ _).alloc ?_ _).alloc ?_ _).alloc ?_ _ <;> (simp <;> try omega)

theorem made_spans (n : Nat) : (madeCells (Value.agg #[.int .i64 0, .int .i64 0]).cells (n * 2)).toList = spn (List.replicate n ((0 : Int), (0 : Int))) := by
  apply List.ext_getElem?
  intro j
  have hl : (spn (List.replicate n ((0 : Int), (0 : Int)))).length = n * 2 := by rw [spn_len, List.length_replicate]
  by_cases hj : j < n * 2
  · have h1 : (madeCells (Value.agg #[.int .i64 0, .int .i64 0]).cells (n * 2)).toList[j]? = some (.int .i64 0) := by
      simp [madeCells, Value.cells, hj]
      rcases (by omega : j % 2 = 0 ∨ j % 2 = 1) with e | e <;> simp [e]
    have hr : (List.replicate n ((0 : Int), (0 : Int)))[j / 2]? = some (0, 0) := by rw [List.getElem?_replicate, if_pos (by omega)]
    obtain ⟨s1, s2⟩ := spn_get _ _ _ hr
    rw [h1]
    rcases (by omega : j = j / 2 * 2 ∨ j = j / 2 * 2 + 1) with e | e
    · rw [e, s1]
    · rw [e, s2]
  · have h1 : (spn (List.replicate n ((0 : Int), (0 : Int))))[j]? = none := List.getElem?_eq_none (by rw [hl]; omega)
    have h2 : (madeCells (Value.agg #[.int .i64 0, .int .i64 0]).cells (n * 2)).toList[j]? = none := List.getElem?_eq_none (by simp [madeCells]; omega)
    rw [h1, h2]
theorem spn_set {L : List (Int × Int)} {k : Nat} {y x : Int × Int} (h : L[k]? = some y) : ((spn L).set (k * 2) (.int .i64 x.1)).set (k * 2 + 1) (.int .i64 x.2) = spn (L.set k x) := by
  have hk := (List.getElem?_eq_some_iff.1 h).1
  apply List.ext_getElem?
  intro j
  by_cases hj : j < L.length * 2
  · obtain ⟨z, hz⟩ : ∃ z, (L.set k x)[j / 2]? = some z := ⟨_, List.getElem?_eq_getElem (by rw [List.length_set]; omega)⟩
    obtain ⟨t1, t2⟩ := spn_get _ _ _ hz
    by_cases hjk : j / 2 = k
    · subst hjk
      rw [List.getElem?_set_self hk] at hz
      cases hz
      rcases (by omega : j = j / 2 * 2 ∨ j = j / 2 * 2 + 1) with e | e
      · rw [show (((spn L).set (j / 2 * 2) (.int .i64 x.1)).set (j / 2 * 2 + 1) (.int .i64 x.2))[j]? = (((spn L).set (j / 2 * 2) (.int .i64 x.1)).set (j / 2 * 2 + 1) (.int .i64 x.2))[j / 2 * 2]? from congrArg _ e, show (spn (L.set (j / 2) x))[j]? = (spn (L.set (j / 2) x))[j / 2 * 2]? from congrArg _ e, t1, List.getElem?_set_ne (by omega), List.getElem?_set_self (by rw [spn_len]; omega)]
      · rw [show (((spn L).set (j / 2 * 2) (.int .i64 x.1)).set (j / 2 * 2 + 1) (.int .i64 x.2))[j]? = (((spn L).set (j / 2 * 2) (.int .i64 x.1)).set (j / 2 * 2 + 1) (.int .i64 x.2))[j / 2 * 2 + 1]? from congrArg _ e, show (spn (L.set (j / 2) x))[j]? = (spn (L.set (j / 2) x))[j / 2 * 2 + 1]? from congrArg _ e, t2, List.getElem?_set_self (by rw [List.length_set, spn_len]; omega)]
    · rw [List.getElem?_set_ne (fun e => hjk e.symm)] at hz
      obtain ⟨s1, s2⟩ := spn_get _ _ _ hz
      rw [List.getElem?_set_ne (by omega), List.getElem?_set_ne (by omega)]
      rcases (by omega : j = j / 2 * 2 ∨ j = j / 2 * 2 + 1) with e | e
      · rw [show (spn L)[j]? = (spn L)[j / 2 * 2]? from congrArg _ e, show (spn (L.set k x))[j]? = (spn (L.set k x))[j / 2 * 2]? from congrArg _ e, s1, t1]
      · rw [show (spn L)[j]? = (spn L)[j / 2 * 2 + 1]? from congrArg _ e, show (spn (L.set k x))[j]? = (spn (L.set k x))[j / 2 * 2 + 1]? from congrArg _ e, s2, t2]
  · rw [List.getElem?_eq_none (by simp [spn_len]; omega), List.getElem?_eq_none (by simp [spn_len]; omega)]
theorem Own.stored {w : World} {B g n cap : Nat} {L : List (Int × Int)} (h : Own w B (.slice (some ⟨g, 0, none⟩) n cap) L) {k : Nat} (hk : k < L.length) (x : Int × Int) :
    Own ((w.setCell ⟨g, k * 2, none⟩ (.int .i64 x.1)).setCell ⟨g, k * 2 + 1, none⟩ (.int .i64 x.2)) B (.slice (some ⟨g, 0, none⟩) n cap) (L.set k x) ∧
    w.grownBy ((w.setCell ⟨g, k * 2, none⟩ (.int .i64 x.1)).setCell ⟨g, k * 2 + 1, none⟩ (.int .i64 x.2)) (some g) := by
  have hn : n = L.length := by
    obtain ⟨A, c, he, _⟩ := h.form
    cases he
    rfl
  subst hn
  obtain ⟨h1, g1⟩ := World.ownsRow.stored h (k * 2) (.int .i64 x.1)
  obtain ⟨h2, g2⟩ := World.ownsRow.stored h1 (k * 2 + 1) (.int .i64 x.2)
  refine ⟨?_, gr_trans g1 g2⟩
  rw [spn_set (List.getElem?_eq_getElem hk)] at h2
  unfold Own
  rw [List.length_set]
  exact h2

theorem set_step {L : List (Int × Int)} {n k : Nat} {x z : Int × Int} (hn : L.length = n) (hx : L[k]? = some x) : (L.take k ++ List.replicate (n - k) z).set k x = L.take (k + 1) ++ List.replicate (n - (k + 1)) z := by
  have hk := (List.getElem?_eq_some_iff.1 hx).1
  have hl : (L.take k).length = k := by rw [List.length_take]; omega
  rw [List.set_append_right _ _ (by omega), hl, Nat.sub_self, show n - k = (n - (k + 1)) + 1 by omega, List.replicate_succ, List.set_cons_zero, List.take_add_one, hx, List.append_assoc]
  rfl
theorem own_row' {w : World} {B n cap : Nat} {A : Option Addr} {L : List (Int × Int)} (h : Own w B (.slice A n cap) L) : w.ownsRow B 78 2 (.slice A n cap) n (spn L) := by
  have hn : n = L.length := by
    obtain ⟨A, c, he, _⟩ := h.form
    cases he
    rfl
  subst hn
  exact h
theorem own_cells {w : World} {B n cap g k : Nat} {L : List (Int × Int)} {x : Int × Int} (h : Own w B (.slice (some ⟨g, 0, none⟩) n cap) L) (hx : L[k]? = some x) :
    w.cell? ⟨g, k * 2, none⟩ = some (.int .i64 x.1) ∧ w.cell? ⟨g, k * 2 + 1, none⟩ = some (.int .i64 x.2) := by
  obtain ⟨A, c, he, _, _, hs⟩ := h.form
  cases he
  obtain ⟨b, o, he, _, h1, h2⟩ := hs k x hx
  cases he
  rw [Nat.zero_add] at h1 h2
  exact ⟨h1, h2⟩

set_option maxHeartbeats 4000000 in
theorem to_spans (A : Option Addr) (cap n : Nat) (L : List (Int × Int)) (w : World) (hn : L.length = n) (h : SpA w A L) (hl : n ≤ 1048576) :
    Calls Tryd.prog 26 #[.slice A n cap] w fun e w' => ∃ g, e = .returned (.slice (some ⟨g, 0, none⟩) n n) ∧ Own w' w.heap.size (.slice (some ⟨g, 0, none⟩) n n) L ∧ Below w.heap.size w w' := by
  obtain ⟨i0, hi, hq0, hq1, hq2⟩ := info_parts Tryd.infoSpan
  have HN := Lib.hid hn
  have H := Lib.hid h
  clear hn h
  have hb2 : i0.bytes * n ≤ 281474976710656 := by rw [hq2]; omega
  have hb3 : n ≤ maxLen := by unfold maxLen; omega
  go_enter Tryd.func26, Tryd.ntmps26
  go_wp2_with (at_make; refine wpList_make_full _ rfl _ _ 23 rfl w.heap.size 78 i0 (.agg #[.int .i64 0, .int .i64 0]) 2 Tryd.underlying23 hi hq0 hq1 .i64 .i64 (n : Int) (n : Int) n rfl rfl rfl rfl hb2 hb3 (Nat.le_refl _) ?_)
  intro w1 hown hgrow
  obtain ⟨N, hN⟩ : ∃ N, w.heap.size = N := ⟨_, rfl⟩
  have HNN := Lib.hid hN
  have HB1 : Hid (Below N w w1) := hN ▸ (Below.refl _ _).grown hgrow (Nat.le_refl _) (fun z hz => by cases hz)
  have hN1 : N ≤ w1.heap.size := hN ▸ hgrow.size
  have ho1 : Own w1 N (.slice (some ⟨N, 0, none⟩) n n) (List.replicate n ((0 : Int), (0 : Int))) := by
    unfold Own
    rw [List.length_replicate, ← made_spans, ← hN]
    exact hown
  have HO1 := Lib.hid ho1
  rw [hN]
  clear hown hgrow ho1 hN
  go_wp2
  go_loopw [4] (fun i wr => ∃ k : Nat, k ≤ n ∧ i = .int .i64 (k : Int) ∧ N ≤ wr.heap.size ∧ Hid (Below N w wr) ∧ Hid (Own wr N (.slice (some ⟨N, 0, none⟩) n n) (L.take k ++ List.replicate (n - k) ((0 : Int), (0 : Int))))) (fun i _ => n - (intOf i).toNat)
  case atStart => exact ⟨0, Nat.zero_le _, by go_num, hN1, HB1, by rw [List.take_zero, List.nil_append, Nat.sub_zero]; exact HO1⟩
  case round =>
    obtain ⟨k, hk, rfl, hNr, HB, HO⟩ := hrel
    by_cases hlt : k < n
    · have h0 : (0 : Int) ≤ (k : Int) := by omega
      have h5 : (k : Int) < (n : Int) := by omega
      obtain ⟨⟨x1, x2⟩, hx⟩ : ∃ x, L[k]? = some x := ⟨_, List.getElem?_eq_getElem (by rw [HN.out]; omega)⟩
      obtain ⟨b, o, rfl, hbz, c1, c2⟩ := (H.out.below HB.out (Nat.le_of_eq HNN.out)) k _ hx
      have HX := Lib.hid hx
      clear hx
      go_wp2_with fail
      refine (to_span x1 x2 _).mono ?_
      rintro e w2 ⟨rfl, hb⟩
      have HB2 := Lib.hid (HB.out.trans (hb.mono hNr))
      have HO2 := Lib.hid (HO.out.kept hb)
      have hN2 := Nat.le_trans hNr hb.size
      clear hb
      obtain ⟨y, hy⟩ : ∃ y, (L.take k ++ List.replicate (n - k) ((0 : Int), (0 : Int)))[k]? = some y := ⟨_, List.getElem?_eq_getElem (by rw [List.length_append, List.length_take, List.length_replicate, HN.out]; omega)⟩
      obtain ⟨d1, d2⟩ := own_cells HO2.out hy
      have d3 := World.ownsRow.frozenAt (show w2.ownsRow N 78 2 (.slice (some ⟨N, 0, none⟩) n n) n _ from own_row' HO2.out) (k * 2)
      have d4 := World.ownsRow.frozenAt (show w2.ownsRow N 78 2 (.slice (some ⟨N, 0, none⟩) n n) n _ from own_row' HO2.out) (k * 2 + 1)
      have HST := Lib.hid (HO2.out.stored (k := k) (List.getElem?_eq_some_iff.1 hy).1 (x1, x2))
      clear hy
      go_wp2
      go_roundw
      case rel =>
        refine ⟨k + 1, by omega, by go_num, by simpa using hN2, (HB2.out.setCell (Nat.le_refl _) _).setCell (Nat.le_refl _) _, ?_⟩
        rw [← set_step HN.out HX.out]
        exact HST.out.1
      case measure => simp [intOf]; omega
    · have h5 : ¬ (k : Int) < (n : Int) := by omega
      have hkn : k = n := by omega
      have ho := HO.out
      rw [hkn, List.take_of_length_le (by rw [HN.out]; exact Nat.le_refl _), Nat.sub_self, List.replicate_zero, List.append_nil] at ho
      have HOE := Lib.hid ho
      clear ho hkn
      go_wp2
      go_ret
      exact ⟨N, rfl, HNN.out ▸ HOE.out, HNN.out ▸ HB.out⟩
end Go.Proofs.YtodafbfhcgphpaaDoor
