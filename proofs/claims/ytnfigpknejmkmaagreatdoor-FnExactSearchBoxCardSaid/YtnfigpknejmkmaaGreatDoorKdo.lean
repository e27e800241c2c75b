/-
  What the row's list gives: the tables keyShapes and flagNames hold what the program lays there. No condition.
-/
import Derived.Test.YtnfigpknejmkmaaGreatDoorRows
import Derived.Test.YtnfigpknejmkmaaGreatDoorKf
import Derived.ProofKit
import Derived.LaidMore
import Derived.OpenShut
import Derived.OpenVars
namespace Go.Proofs.YtnfigpknejmkmaaGreatDoor
open Go.ChangeShapes Go.WideShapes Go.ChangeAt Go.WideElems Go.RowKit
set_option linter.unusedVariables false

theorem gNames : Tryz.prog.globalNamed "loop.example/mailhost/impl.flagNames" = some 1 := by kernel_rfl
theorem tNames : (Tryz.prog.globals[1]?).map (·.type) = some 142 := by kernel_rfl
theorem gShapes : Tryz.prog.globalNamed "loop.example/mailhost/impl.keyShapes" = some 0 := by kernel_rfl
theorem tShapes : (Tryz.prog.globals[0]?).map (·.type) = some 100 := by kernel_rfl
theorem cOne : Tryz.prog.cellsOf 9 = 1 := by kernel_rfl
theorem cBool : Tryz.prog.cellsOf 4 = 1 := by kernel_rfl
theorem cInt : Tryz.prog.cellsOf 3 = 1 := by kernel_rfl
theorem cShape : Tryz.prog.cellsOf 99 = 4 := by kernel_rfl
theorem ba_ext {a b : ByteArray} (h : a.data.toList = b.data.toList) : a = b := by
  cases a
  cases b
  congr
  exact Array.toList_inj.1 h
theorem lit_at {k : Nat} (hk : k < 5) {s : ByteArray} (h : ([.lit (.string [83, 101, 101, 110]), .lit (.string [65, 110, 115, 119, 101, 114, 101, 100]), .lit (.string [70, 108, 97, 103, 103, 101, 100]), .lit (.string [68, 101, 108, 101, 116, 101, 100]), .lit (.string [68, 114, 97, 102, 116])] : List (DataW Unit))[k]? = some (.lit (.string s.data.toList))) : s = nm5 k := by
  match k, hk with
  | 0, _ | 1, _ | 2, _ | 3, _ | 4, _ =>
    simp at h
    refine ba_ext ?_
    exact h.symm
theorem nms_at {k : Nat} (hk : k < 5) : nms5[k]? = some (.string (nm5 k)) := by
  match k, hk with
  | 0, _ | 1, _ | 2, _ | 3, _ | 4, _ => rfl
def lst1 : List (DataW Unit) := [.lit (.string [83, 101, 101, 110]), .lit (.string [65, 110, 115, 119, 101, 114, 101, 100]), .lit (.string [70, 108, 97, 103, 103, 101, 100]), .lit (.string [68, 101, 108, 101, 116, 101, 100]), .lit (.string [68, 114, 97, 102, 116])]
/-- The five names, read off the list. -/
theorem lst_of {W : World} {enc : TypeId × Value → Unit} {base fuel : Nat} {spare : Nat → Bool} {held : Bool} {cs0 : Array Value} {p0 : List MemPlace} (hv0 : W.var? Tryz.prog "loop.example/mailhost/impl.flagNames" = some cs0)
    (hd0 : DataW.trod enc Tryz.prog W base spare held fuel 142 cs0.toList = some (.agg lst1, p0)) : Lst W := by
  obtain ⟨xs, m1, rfl, hx1, hlen, hn, hel⟩ := DataW.trod_array Tryz.underlying142 hd0
  rw [Prod.mk.injEq] at hx1
  have hmap : xs.map (·.1) = lst1 := (DataW.agg.inj hx1.1).symm
  have key : ∀ k, k < 5 → W.cell? ⟨1, k, none⟩ = nms5[k]? := by
    intro k hk
    have hk1 := hel k hk
    rw [cOne, Nat.mul_one] at hk1
    obtain ⟨s, e1, e2, _⟩ := DataW.trod_string Tryz.underlying9 (hk1.trans (List.getElem?_eq_getElem (by omega)))
    have e3 : (xs.map (·.1))[k]? = some (.lit (.string s.data.toList)) := by
      rw [List.getElem?_map, List.getElem?_eq_getElem (by omega), e2]
      rfl
    rw [hmap] at e3
    have e4 : cs0.toList[k]? = some (.string s) := by
      have : ((cs0.toList.drop k).take 1)[0]? = cs0.toList[k]? := by simp
      rw [← this, e1]
      rfl
    rw [World.var?_cell gNames hv0 k, nms_at hk, ← lit_at hk e3, ← Array.getElem?_toList]
    exact e4
  exact ⟨block_lt_of_cell ((key 0 (by omega)).trans (nms_at (by omega))), key⟩
/-- The fields of the k-th shape. -/
def sh0 : Nat → Bool
  | 1 => true
  | _ => false
def sh1 : Nat → Bool
  | 2 => true
  | _ => false
def sh2 : Nat → Bool
  | 3 => true
  | 4 => true
  | _ => false
def sh3 : Nat → Int
  | 5 => 1
  | 6 => 2
  | 7 => 2
  | _ => 0
def shl1 : List (DataW Unit) := (List.range 8).map fun k => .agg [.lit (.bool (sh0 k)), .lit (.bool (sh1 k)), .lit (.bool (sh2 k)), .lit (.int .i64 (sh3 k))]
theorem take_get {α : Type} (l : List α) (i j n : Nat) {x : List α} (h : (((l.drop (i * 4)).take 4).drop j).take 1 = x) (hj : j < 4) : l[i * 4 + j]? = x[0]? := by
  subst h
  rw [List.getElem?_take_of_lt (by omega), List.getElem?_drop, Nat.add_zero, List.getElem?_take_of_lt hj, List.getElem?_drop]
theorem shp_of {W : World} {enc : TypeId × Value → Unit} {base fuel : Nat} {spare : Nat → Bool} {held : Bool} {cs0 : Array Value} {p0 : List MemPlace} (hv0 : W.var? Tryz.prog "loop.example/mailhost/impl.keyShapes" = some cs0)
    (hd0 : DataW.trod enc Tryz.prog W base spare held fuel 100 cs0.toList = some (.agg shl1, p0)) : Shp W := by
  obtain ⟨xs, m1, rfl, hx1, hlen, hn, hel⟩ := DataW.trod_array Tryz.underlying100 hd0
  rw [Prod.mk.injEq] at hx1
  have hmap : xs.map (·.1) = shl1 := (DataW.agg.inj hx1.1).symm
  have key : ∀ i, i < 8 → cs0.toList[i * 4 + 0]? = some (.bool (sh0 i)) ∧ cs0.toList[i * 4 + 1]? = some (.bool (sh1 i)) ∧ cs0.toList[i * 4 + 2]? = some (.bool (sh2 i)) ∧ cs0.toList[i * 4 + 3]? = some (.int .i64 (sh3 i)) := by
    intro i hi
    have hk1 := hel i hi
    rw [cShape] at hk1
    obtain ⟨ys, n, -, hx2, hl2, hy, hf⟩ := DataW.trod_struct Tryz.underlying99 (hk1.trans (List.getElem?_eq_getElem (by omega)))
    have e0 : (xs.map (·.1))[i]? = some (.agg (ys.map (·.1))) := by
      rw [List.getElem?_map, List.getElem?_eq_getElem (by omega), hx2]
      rfl
    rw [hmap] at e0
    unfold shl1 at e0
    rw [List.getElem?_map, List.getElem?_range hi] at e0
    simp at e0
    have f0 : DataW.trod enc Tryz.prog W base spare held n 4 ((((cs0.toList.drop (i * 4)).take 4).drop 0).take (Tryz.prog.cellsOf 4)) = ys[0]? := hf 0 _ rfl
    have f1 : DataW.trod enc Tryz.prog W base spare held n 4 ((((cs0.toList.drop (i * 4)).take 4).drop 1).take (Tryz.prog.cellsOf 4)) = ys[1]? := hf 1 _ rfl
    have f2 : DataW.trod enc Tryz.prog W base spare held n 4 ((((cs0.toList.drop (i * 4)).take 4).drop 2).take (Tryz.prog.cellsOf 4)) = ys[2]? := hf 2 _ rfl
    have f3 : DataW.trod enc Tryz.prog W base spare held n 3 ((((cs0.toList.drop (i * 4)).take 4).drop 3).take (Tryz.prog.cellsOf 3)) = ys[3]? := hf 3 _ rfl
    match ys, hy with
    | [y0, y1, y2, y3], _ =>
      simp at e0
      obtain ⟨a0, a1, a2, a3⟩ := e0
      rw [cBool] at f0 f1 f2
      rw [cInt] at f3
      obtain ⟨b0, g0, h0⟩ := DataW.trod_bool Tryz.underlying4 f0
      obtain ⟨b1, g1, h1⟩ := DataW.trod_bool Tryz.underlying4 f1
      obtain ⟨b2, g2, h2⟩ := DataW.trod_bool Tryz.underlying4 f2
      obtain ⟨b3, g3, h3, -⟩ := DataW.trod_int Tryz.underlying3 f3
      subst h0 h1 h2 h3
      simp at a0 a1 a2 a3
      subst a0 a1 a2 a3
      exact ⟨take_get _ i 0 0 g0 (by omega), take_get _ i 1 0 g1 (by omega), take_get _ i 2 0 g2 (by omega), take_get _ i 3 0 g3 (by omega)⟩
  have sh : ∀ i, i < 8 → shapes[i * 4 + 0]? = some (.bool (sh0 i)) ∧ shapes[i * 4 + 1]? = some (.bool (sh1 i)) ∧ shapes[i * 4 + 2]? = some (.bool (sh2 i)) ∧ shapes[i * 4 + 3]? = some (.int .i64 (sh3 i)) := by
    intro i hi
    match i, hi with
    | 0, _ | 1, _ | 2, _ | 3, _ | 4, _ | 5, _ | 6, _ | 7, _ => exact ⟨rfl, rfl, rfl, rfl⟩
  have all : ∀ k, k < 32 → W.cell? ⟨0, k, none⟩ = shapes[k]? := by
    intro k hk
    rw [World.var?_cell gShapes hv0 k, ← Array.getElem?_toList]
    obtain ⟨i, j, hi, hj, rfl⟩ : ∃ i j, i < 8 ∧ j < 4 ∧ k = i * 4 + j := ⟨k / 4, k % 4, by omega, by omega, by omega⟩
    obtain ⟨c0, c1, c2, c3⟩ := key i hi
    obtain ⟨d0, d1, d2, d3⟩ := sh i hi
    match j, hj with
    | 0, _ => rw [c0, d0]
    | 1, _ => rw [c1, d1]
    | 2, _ => rw [c2, d2]
    | 3, _ => rw [c3, d3]
  exact ⟨block_lt_of_cell ((all 0 (by omega)).trans rfl), all⟩
theorem laid_tables {W : World} (h : laidMetH Tryz.prog [("unicode/utf8.acceptRanges", Rows.laid_unicode_utf8_acceptRanges), ("loop.example/mailhost/impl.keyShapes", Rows.laid_loop_example_mailhost_impl_keyShapes), ("loop.example/mailhost/impl.flagNames", Rows.laid_loop_example_mailhost_impl_flagNames), ("unicode.CaseRanges", Rows.laid_unicode_CaseRanges), ("unicode/utf8.first", Rows.laid_unicode_utf8_first)] W) : Shp W ∧ Lst W := by
  rw [MakeChecks.laidMetH_plain _ _ _ (by kernel_rfl)] at h
  obtain ⟨ps, ⟨gA, tA, cA, fA, pA, qA, -, -, -, -, ⟨gK, tK, csK, fK, pK, qK, hgK, htK, hvK, hdK, ⟨gF, tF, csF, fF, pF, qF, hgF, htF, hvF, hdF, _, _⟩, _⟩, _⟩, _, _⟩ := h
  obtain rfl := Option.some.inj (gShapes.symm.trans hgK)
  obtain rfl := Option.some.inj (tShapes.symm.trans htK)
  obtain rfl := Option.some.inj (gNames.symm.trans hgF)
  obtain rfl := Option.some.inj (tNames.symm.trans htF)
  exact ⟨shp_of hvK hdK, lst_of hvF hdF⟩
theorem two_vars {H : Type} {enc : TypeId × Value → H} {P : Program} {w : World} {sp : Nat → Bool} {n m : String} {gs : List (DataW H)} {q : List MemPlace} (h : DataW.TrodVars enc P w sp [n, m] gs q) : ∃ g k, gs = [g, k] := by
  match gs, h with
  | [], h => exact h.elim
  | [g], h =>
    obtain ⟨_, _, _, _, _, _, _, _, _, _, hs, _⟩ := h
    exact hs.elim
  | [g, k], _ => exact ⟨g, k, rfl⟩
  | _ :: _ :: _ :: _, h =>
    obtain ⟨_, _, _, _, _, _, _, _, _, _, hs, _⟩ := h
    obtain ⟨_, _, _, _, _, _, _, _, _, _, hs, _⟩ := hs
    exact hs.elim
end Go.Proofs.YtnfigpknejmkmaaGreatDoor
