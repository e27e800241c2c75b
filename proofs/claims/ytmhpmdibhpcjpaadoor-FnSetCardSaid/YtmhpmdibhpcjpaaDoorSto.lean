/-
  The laws' own helpers that count and copy lists of spans. Condition: the list can be read.
-/
import Derived.Test.YtmhpmdibhpcjpaaDoorSlaw
import Derived.OwnWalk
import Derived.Laws.OwnMore
namespace Go.Proofs.YtmhpmdibhpcjpaaDoor
open Go.RowKit
set_option linter.unusedVariables false

set_option maxHeartbeats 1000000 in
theorem sz_spans {A : Option Addr} {n cap : Nat} {z : Int} (w : World) (h : (n ≤ 1048576 ∧ 1048576 - (n : Int) = z) ∨ (1048576 < n ∧ n ≤ 9223372036854775807 ∧ z = -1)) :
    Calls Tryd.prog 13 #[.slice A n cap, .int .i64 1048576] w fun e w' => e = .returned (.int .i64 z) ∧ w = w' := by
  rcases h with ⟨h, hz⟩ | ⟨h, h2, rfl⟩
  · have h1 : ¬ (1048576 - (n : Int)) < 0 := by omega
    have h0 : (0 : Int) ≤ 1048576 - (n : Int) := by omega
    go_enter Tryd.func13, Tryd.ntmps13
    go_wp2
    go_ret
    refine ⟨?_, rfl⟩
    rw [← hz]
    rfl
  · have h1 : (1048576 - (n : Int)) < 0 := by omega
    have h3 : IntKind.i64.wrap (1048576 - (n : Int)) = 1048576 - (n : Int) := IntWalk.i64_in _ (by omega)
    go_enter Tryd.func13, Tryd.ntmps13
    go_wp2
    go_ret
    exact ⟨rfl, rfl⟩
set_option maxHeartbeats 1000000 in
theorem to_span (x1 x2 : Int) (w : World) : Calls Tryd.prog 30 #[.agg #[.int .i64 x1, .int .i64 x2]] w fun e w' => e = .returned (.agg #[.int .i64 x1, .int .i64 x2]) ∧ Below w.heap.size w w' := by
  go_enter Tryd.func30, Tryd.ntmps30
  go_wp2
  refine bodyPost_ret (v := .agg #[.int .i64 x1, .int .i64 x2]) (by simp [results, Tryd.results30, go_sem]) rfl ?_
  refine ⟨rfl, ?_⟩
  refine (((Below.refl _ _).alloc ?_ _).alloc ?_ _).alloc ?_ _ <;> (simp <;> try omega)

theorem made_spans (n : Nat) : (madeCells (Value.agg #[.int .i64 0, .int .i64 0]).cells (n * 2)).toList = spn (List.replicate n ((0 : Int), (0 : Int))) := by
  apply List.ext_getElem?
  intro j
  have hl : (spn (List.replicate n ((0 : Int), (0 : Int)))).length = n * 2 := by rw [spn_len, List.length_replicate]
  by_cases hj : j < n * 2
  · have h1 : (madeCells (Value.agg #[.int .i64 0, .int .i64 0]).cells (n * 2)).toList[j]? = some (.int .i64 0) := by
      simp [madeCells, Value.cells, hj]
      rcases (by omega : j % 2 = 0 ∨ j % 2 = 1) with e | e <;> simp [e]
    have hr : (List.replicate n ((0 : Int), (0 : Int)))[j / 2]? = some (0, 0) := by rw [List.getElem?_replicate, if_pos (by omega)]
    obtain ⟨s1, s2⟩ := spn_get _ _ _ hr
    rw [h1]
    rcases (by omega : j = j / 2 * 2 ∨ j = j / 2 * 2 + 1) with e | e
    · rw [e, s1]
    · rw [e, s2]
  · have h1 : (spn (List.replicate n ((0 : Int), (0 : Int))))[j]? = none := List.getElem?_eq_none (by rw [hl]; omega)
    have h2 : (madeCells (Value.agg #[.int .i64 0, .int .i64 0]).cells (n * 2)).toList[j]? = none := List.getElem?_eq_none (by simp [madeCells]; omega)
    rw [h1, h2]
theorem spn_set {L : List (Int × Int)} {k : Nat} {y x : Int × Int} (h : L[k]? = some y) : ((spn L).set (k * 2) (.int .i64 x.1)).set (k * 2 + 1) (.int .i64 x.2) = spn (L.set k x) := by
  have hk := (List.getElem?_eq_some_iff.1 h).1
  apply List.ext_getElem?
  intro j
  by_cases hj : j < L.length * 2
  · obtain ⟨z, hz⟩ : ∃ z, (L.set k x)[j / 2]? = some z := ⟨_, List.getElem?_eq_getElem (by rw [List.length_set]; omega)⟩
    obtain ⟨t1, t2⟩ := spn_get _ _ _ hz
    by_cases hjk : j / 2 = k
    · subst hjk
      rw [List.getElem?_set_self hk] at hz
      cases hz
      rcases (by omega : j = j / 2 * 2 ∨ j = j / 2 * 2 + 1) with e | e
      · rw [show (((spn L).set (j / 2 * 2) (.int .i64 x.1)).set (j / 2 * 2 + 1) (.int .i64 x.2))[j]? = (((spn L).set (j / 2 * 2) (.int .i64 x.1)).set (j / 2 * 2 + 1) (.int .i64 x.2))[j / 2 * 2]? from congrArg _ e, show (spn (L.set (j / 2) x))[j]? = (spn (L.set (j / 2) x))[j / 2 * 2]? from congrArg _ e, t1, List.getElem?_set_ne (by omega), List.getElem?_set_self (by rw [spn_len]; omega)]
      · rw [show (((spn L).set (j / 2 * 2) (.int .i64 x.1)).set (j / 2 * 2 + 1) (.int .i64 x.2))[j]? = (((spn L).set (j / 2 * 2) (.int .i64 x.1)).set (j / 2 * 2 + 1) (.int .i64 x.2))[j / 2 * 2 + 1]? from congrArg _ e, show (spn (L.set (j / 2) x))[j]? = (spn (L.set (j / 2) x))[j / 2 * 2 + 1]? from congrArg _ e, t2, List.getElem?_set_self (by rw [List.length_set, spn_len]; omega)]
    · rw [List.getElem?_set_ne (fun e => hjk e.symm)] at hz
      obtain ⟨s1, s2⟩ := spn_get _ _ _ hz
      rw [List.getElem?_set_ne (by omega), List.getElem?_set_ne (by omega)]
      rcases (by omega : j = j / 2 * 2 ∨ j = j / 2 * 2 + 1) with e | e
      · rw [show (spn L)[j]? = (spn L)[j / 2 * 2]? from congrArg _ e, show (spn (L.set k x))[j]? = (spn (L.set k x))[j / 2 * 2]? from congrArg _ e, s1, t1]
      · rw [show (spn L)[j]? = (spn L)[j / 2 * 2 + 1]? from congrArg _ e, show (spn (L.set k x))[j]? = (spn (L.set k x))[j / 2 * 2 + 1]? from congrArg _ e, s2, t2]
  · rw [List.getElem?_eq_none (by simp [spn_len]; omega), List.getElem?_eq_none (by simp [spn_len]; omega)]
theorem Own.stored {w : World} {B g n cap : Nat} {L : List (Int × Int)} (h : Own w B (.slice (some ⟨g, 0, none⟩) n cap) L) {k : Nat} (hk : k < L.length) (x : Int × Int) :
    Own ((w.setCell ⟨g, k * 2, none⟩ (.int .i64 x.1)).setCell ⟨g, k * 2 + 1, none⟩ (.int .i64 x.2)) B (.slice (some ⟨g, 0, none⟩) n cap) (L.set k x) ∧
    w.grownBy ((w.setCell ⟨g, k * 2, none⟩ (.int .i64 x.1)).setCell ⟨g, k * 2 + 1, none⟩ (.int .i64 x.2)) (some g) := by
  have hn : n = L.length := by
    obtain ⟨A, c, he, _⟩ := h.form
    cases he
    rfl
  subst hn
  obtain ⟨h1, g1⟩ := World.ownsRow.stored h (k * 2) (.int .i64 x.1)
  obtain ⟨h2, g2⟩ := World.ownsRow.stored h1 (k * 2 + 1) (.int .i64 x.2)
  refine ⟨?_, gr_trans g1 g2⟩
  rw [spn_set (List.getElem?_eq_getElem hk)] at h2
  unfold Own
  rw [List.length_set]
  exact h2

theorem set_step {L : List (Int × Int)} {n k : Nat} {x z : Int × Int} (hn : L.length = n) (hx : L[k]? = some x) : (L.take k ++ List.replicate (n - k) z).set k x = L.take (k + 1) ++ List.replicate (n - (k + 1)) z := by
  have hk := (List.getElem?_eq_some_iff.1 hx).1
  have hl : (L.take k).length = k := by rw [List.length_take]; omega
  rw [List.set_append_right _ _ (by omega), hl, Nat.sub_self, show n - k = (n - (k + 1)) + 1 by omega, List.replicate_succ, List.set_cons_zero, List.take_add_one, hx, List.append_assoc]
  rfl
theorem own_row' {w : World} {B n cap : Nat} {A : Option Addr} {L : List (Int × Int)} (h : Own w B (.slice A n cap) L) : w.ownsRow B 45 2 (.slice A n cap) n (spn L) := by
  have hn : n = L.length := by
    obtain ⟨A, c, he, _⟩ := h.form
    cases he
    rfl
  subst hn
  exact h
theorem own_cells {w : World} {B n cap g k : Nat} {L : List (Int × Int)} {x : Int × Int} (h : Own w B (.slice (some ⟨g, 0, none⟩) n cap) L) (hx : L[k]? = some x) :
    w.cell? ⟨g, k * 2, none⟩ = some (.int .i64 x.1) ∧ w.cell? ⟨g, k * 2 + 1, none⟩ = some (.int .i64 x.2) := by
  obtain ⟨A, c, he, _, _, hs⟩ := h.form
  cases he
  obtain ⟨b, o, he, _, h1, h2⟩ := hs k x hx
  cases he
  rw [Nat.zero_add] at h1 h2
  exact ⟨h1, h2⟩

set_option maxHeartbeats 4000000 in
theorem to_spans (A : Option Addr) (cap n : Nat) (L : List (Int × Int)) (w : World) (hn : L.length = n) (h : SpA w A L) (hl : n ≤ 1048576) :
    Calls Tryd.prog 14 #[.slice A n cap] w fun e w' => ∃ g, e = .returned (.slice (some ⟨g, 0, none⟩) n n) ∧ Own w' w.heap.size (.slice (some ⟨g, 0, none⟩) n n) L ∧ Below w.heap.size w w' := by
  obtain ⟨i0, hi, hq0, hq1, hq2⟩ := info_parts Tryd.infoSpan
  have HN := Lib.hid hn
  have H := Lib.hid h
  clear hn h
  have hb2 : i0.bytes * n ≤ 281474976710656 := by rw [hq2]; omega
  have hb3 : n ≤ maxLen := by unfold maxLen; omega
  go_enter Tryd.func14, Tryd.ntmps14
  go_wp2_with (at_make; refine wpList_make_full _ rfl _ _ 24 rfl w.heap.size 45 i0 (.agg #[.int .i64 0, .int .i64 0]) 2 Tryd.underlying24 hi hq0 hq1 .i64 .i64 (n : Int) (n : Int) n rfl rfl rfl rfl hb2 hb3 (Nat.le_refl _) ?_)
  intro w1 hown hgrow
  obtain ⟨N, hN⟩ : ∃ N, w.heap.size = N := ⟨_, rfl⟩
  have HNN := Lib.hid hN
  have HB1 : Hid (Below N w w1) := hN ▸ (Below.refl _ _).grown hgrow (Nat.le_refl _) (fun z hz => by cases hz)
  have hN1 : N ≤ w1.heap.size := hN ▸ hgrow.size
  have ho1 : Own w1 N (.slice (some ⟨N, 0, none⟩) n n) (List.replicate n ((0 : Int), (0 : Int))) := by
    unfold Own
    rw [List.length_replicate, ← made_spans, ← hN]
    exact hown
  have HO1 := Lib.hid ho1
  rw [hN]
  clear hown hgrow ho1 hN
  go_wp2
  go_loopw [4] (fun i wr => ∃ k : Nat, k ≤ n ∧ i = .int .i64 (k : Int) ∧ N ≤ wr.heap.size ∧ Hid (Below N w wr) ∧ Hid (Own wr N (.slice (some ⟨N, 0, none⟩) n n) (L.take k ++ List.replicate (n - k) ((0 : Int), (0 : Int))))) (fun i _ => n - (intOf i).toNat)
  case atStart => exact ⟨0, Nat.zero_le _, by go_num, hN1, HB1, by rw [List.take_zero, List.nil_append, Nat.sub_zero]; exact HO1⟩
  case round =>
    obtain ⟨k, hk, rfl, hNr, HB, HO⟩ := hrel
    by_cases hlt : k < n
    · have h0 : (0 : Int) ≤ (k : Int) := by omega
      have h5 : (k : Int) < (n : Int) := by omega
      obtain ⟨⟨x1, x2⟩, hx⟩ : ∃ x, L[k]? = some x := ⟨_, List.getElem?_eq_getElem (by rw [HN.out]; omega)⟩
      obtain ⟨b, o, rfl, hbz, c1, c2⟩ := (H.out.below HB.out (Nat.le_of_eq HNN.out)) k _ hx
      have HX := Lib.hid hx
      clear hx
      go_wp2_with fail
      refine (to_span x1 x2 _).mono ?_
      rintro e w2 ⟨rfl, hb⟩
      have HB2 := Lib.hid (HB.out.trans (hb.mono hNr))
      have HO2 := Lib.hid (HO.out.kept hb)
      have hN2 := Nat.le_trans hNr hb.size
      clear hb
      obtain ⟨y, hy⟩ : ∃ y, (L.take k ++ List.replicate (n - k) ((0 : Int), (0 : Int)))[k]? = some y := ⟨_, List.getElem?_eq_getElem (by rw [List.length_append, List.length_take, List.length_replicate, HN.out]; omega)⟩
      obtain ⟨d1, d2⟩ := own_cells HO2.out hy
      have d3 := World.ownsRow.frozenAt (show w2.ownsRow N 45 2 (.slice (some ⟨N, 0, none⟩) n n) n _ from own_row' HO2.out) (k * 2)
      have d4 := World.ownsRow.frozenAt (show w2.ownsRow N 45 2 (.slice (some ⟨N, 0, none⟩) n n) n _ from own_row' HO2.out) (k * 2 + 1)
      have HST := Lib.hid (HO2.out.stored (k := k) (List.getElem?_eq_some_iff.1 hy).1 (x1, x2))
      clear hy
      go_wp2
      go_roundw
      case rel =>
        refine ⟨k + 1, by omega, by go_num, by simpa using hN2, (HB2.out.setCell (Nat.le_refl _) _).setCell (Nat.le_refl _) _, ?_⟩
        rw [← set_step HN.out HX.out]
        exact HST.out.1
      case measure => simp [intOf]; omega
    · have h5 : ¬ (k : Int) < (n : Int) := by omega
      have hkn : k = n := by omega
      have ho := HO.out
      rw [hkn, List.take_of_length_le (by rw [HN.out]; exact Nat.le_refl _), Nat.sub_self, List.replicate_zero, List.append_nil] at ho
      have HOE := Lib.hid ho
      clear ho hkn
      go_wp2
      go_ret
      exact ⟨N, rfl, HNN.out ▸ HOE.out, HNN.out ▸ HB.out⟩
end Go.Proofs.YtmhpmdibhpcjpaaDoor
