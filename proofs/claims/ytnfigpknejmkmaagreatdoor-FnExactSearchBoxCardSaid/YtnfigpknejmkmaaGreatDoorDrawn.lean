/-
  The contracts of the drawers of names, domains, addresses and paths: each leaves a short text. Condition: the code can be read.
-/
import Derived.Test.YtnfigpknejmkmaaGreatDoorDraw
namespace Go.Proofs.YtnfigpknejmkmaaGreatDoor
open Go.RowKit
set_option linter.unusedVariables false

theorem of_new (b p : Nat) (ls : List (List UInt8)) (w : World) (h : Rd w b p) (hp : p ≤ 1000000) (hn : 1 ≤ ls.length) (hn' : ls.length ≤ 1000000) :
    Calls Tryz.prog 30 #[.pointer (some ⟨b, 0, none⟩), .slice (some ⟨w.heap.size, 0, none⟩) ls.length ls.length] (w.alloc (.cells (ls.map str).toArray 9))
      fun e w' => ∃ l, l ∈ ls ∧ e = .returned (str l) ∧ Rd w' b (p + 1) ∧ w.grownBy w' (some b) := by
  have hb := h.lt
  have hA := (Below.refl w.heap.size w).alloc (Nat.le_refl _) (.cells (ls.map str).toArray 9)
  refine (of_any b p w.heap.size ls.length ls _ (h.below hA hb) hp hn hn' (by omega) (by simp) (fun j hj => ?_)).mono ?_
  · rw [(Whole.made w 9 (ls.map str).toArray).cell j, List.getElem?_toArray, List.getElem?_map, List.getD_eq_getElem?_getD, List.getElem?_eq_getElem hj]
    rfl
  · rintro e w' ⟨l, hl, he, hr, hg⟩
    exact ⟨l, hl, he, hr, gr_trans (gr_alloc (gr_refl _ _) _) hg⟩

/-- A drawn text. -/
def Text (w : World) (b p : Nat) (e : Ending) (w' : World) : Prop := ∃ s : ByteArray, s.size ≤ 30 ∧ e = .returned (.string s) ∧ Rd w' b (p + 2) ∧ w.grownBy w' (some b)
theorem text_le {ls : List (List UInt8)} {l : List UInt8} (h : ls.all (fun x => decide (x.length ≤ 30)) = true) (hl : l ∈ ls) : (⟨l.toArray⟩ : ByteArray).size ≤ 30 := by
  rw [List.all_eq_true] at h
  exact of_decide_eq_true (h l hl)

end Go.Proofs.YtnfigpknejmkmaaGreatDoor
