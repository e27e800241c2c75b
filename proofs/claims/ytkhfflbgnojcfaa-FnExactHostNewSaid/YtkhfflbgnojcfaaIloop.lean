/-
  The loops of the code's Base64Encode and Base64Decode over the groups of a text. Conditions: a bound on the text's length.
-/
import Derived.Test.YtkhfflbgnojcfaaGrp
import Derived.Test.YtkhfflbgnojcfaaBld
import Derived.Test.YtkhfflbgnojcfaaIdec
import Derived.Test.YtkhfflbgnojcfaaBbase
namespace Go.Proofs.Ytkhfflbgnojcfaa
open Go.RowKit Go.Shelf
set_option linter.unusedVariables false
attribute [local go_sem] Oper.semAt_some

theorem builder_kept {T e : TypeId} {B b : Nat} {bs : List Value} {W W' : World} {row : Option Nat} (h : Lib.IsBuilder T e B b bs W) (hg : W.grownBy W' row) (hr : ∀ r, row = some r → ∃ o : Obj, W.heap[r]? = some o ∧ o.isCells = false) : Lib.IsBuilder T e B b bs W' := by
  have one : ∀ p, Lib.BuilderAt T e B b p bs W → Lib.BuilderAt T e B b p bs W' := by
    rintro p ⟨hB, v, hb, hown, hne⟩
    have hlt : b < W.heap.size := (Array.getElem?_eq_some_iff.1 hb).1
    refine ⟨hB, v, ?_, ?_, hne⟩
    · rw [hg.block b hlt ?_]
      · exact hb
      · intro e
        obtain ⟨o, ho, hc⟩ := hr b e.symm
        rw [hb] at ho
        cases ho
        cases hc
    · refine hown.kept hg ?_
      cases hv : v.ownBlock with
      | none =>
        rcases hown.2 with ⟨rfl, _⟩ | ⟨g, cap, cur, rfl, _⟩
        · exact Or.inl rfl
        · simp [Value.ownBlock] at hv
      | some g =>
        refine Or.inr ?_
        intro e
        obtain ⟨o, ho, hc⟩ := hr g e.symm
        obtain ⟨c, fz, hh⟩ := Lib.ownsRowF_kind (World.ownsRowF_of hown) g hv
        rw [hh] at ho
        cases ho
        cases hc
  rcases h with h | h
  · exact .inl (one _ h)
  · exact .inr (one _ h)
theorem others_keep {e : TypeId} {b : Nat} {W W' : World} {t : TypeId} {cs : Array Value} (h : Lib.OthersKept e (some b) W W') (hw : Whole W b t cs) (hs : W.heap.size ≤ W'.heap.size) : KeepsOthers W W' :=
  ⟨hs, fun k o hk ho => h k o hk (by
    intro e
    cases e
    rw [show W.heap[b]? = _ from hw] at hk
    cases hk
    cases ho) (by
    intro c fz e
    subst e
    cases ho)⟩
theorem others_whole {e : TypeId} {b c : Nat} {W W' : World} {t : TypeId} {cs : Array Value} (h : Lib.OthersKept e (some b) W W') (hw : Whole W c t cs) (hc : c ≠ b) (ht : t ≠ e) : Whole W' c t cs :=
  h c _ hw (by intro e; cases e; exact hc rfl) (by intro c' fz e; cases e; exact ht rfl)
theorem Lib_byteCells_append (a b : List UInt8) : Lib.byteCells (a ++ b) = Lib.byteCells a ++ Lib.byteCells b := by simp [Lib.byteCells]
theorem str_cells (l : List UInt8) : Lib.strCells (bt l) = Lib.byteCells l := rfl
theorem builder_new {T e : TypeId} (w : World) : Lib.IsBuilder T e w.heap.size w.heap.size [] (w.alloc (.cells #[.pointer none, .slice none 0 0] T)) := Lib.fresh_isBuilder T e w

theorem whole_kept {W W' : World} {b : Nat} {t : TypeId} {cs : Array Value} {row : Option Nat} (h : Whole W b t cs) (hg : W.grownBy W' row) (hr : ∀ r, row = some r → ∃ o : Obj, W.heap[r]? = some o ∧ o.isCells = false) : Whole W' b t cs :=
  h.grown hg (fun e => by
    obtain ⟨o, ho, hc⟩ := hr b e.symm
    rw [show W.heap[b]? = _ from h] at ho
    cases ho
    cases hc)
theorem flat_len {n k : Nat} {f : List UInt8 → List UInt8} (hf : ∀ x : Gn n, (f x.1.data.toList).length ≤ k) (pre : List (Gn n)) : ((gl pre).flatMap f).length ≤ k * pre.length := by
  induction pre with
  | nil => simp [gl]
  | cons x t ih =>
    have := hf x
    show (f x.1.data.toList ++ (gl t).flatMap f).length ≤ _
    rw [List.length_append, List.length_cons, Nat.mul_add]
    omega
theorem toList_iff {x y : ByteArray} : x.toList = y.toList ↔ x = y := by
  rw [ByteArray.toList_eq, ByteArray.toList_eq]
  constructor
  · intro h; rw [← bt_of x, h, bt_of]
  · rintro rfl; rfl
theorem isD_same {s : ByteArray} (h : (encB (bt (dg s.data.toList))).toList = s.toList) : IsD s true (bt (dg s.data.toList)) := by
  rw [toList_iff] at h
  by_cases hl : (bt (dg s.data.toList)).size ≤ 30
  · rw [encB_yes hl] at h
    exact dg_same hl (by rw [bt_list] at h; rw [← bt_list (enc (dg s.data.toList)), h])
  · rw [encB_no hl] at h
    subst h
    exact absurd (show (bt (dg [])).size ≤ 30 by decide) hl
theorem isD_other {s : ByteArray} (h : ¬ (encB (bt (dg s.data.toList))).toList = s.toList) : IsD s false ⟨#[]⟩ := by
  refine isD_no (dg_other (fun hl he => h ?_))
  rw [toList_iff, encB_yes (by rw [bt_size]; exact hl), bt_list, he, bt_of]
end Go.Proofs.Ytkhfflbgnojcfaa
