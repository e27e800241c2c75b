/-
  Facts on memory that stand whatever is made later: carried over calls in one bundle; and facts that speak of a stretch of blocks alone, which a write elsewhere leaves. Plain lemmas; no condition.
-/
import Derived.Test.YtkhfflbgnojcfaaBase
namespace Go.Proofs.Ytkhfflbgnojcfaa
open Go.RowKit
set_option linter.unusedVariables false

/-- A fact that stands in every world that keeps all blocks of this one. -/
def Kp (w : World) (F : World → Prop) : Prop := ∀ w', Below w.heap.size w w' → F w'
section
variable {w w' a : World} {F G : World → Prop} {B n : Nat} {p : Prop}
theorem Kp.here (h : Kp w F) : F w := h w (Below.refl _ _)
theorem Kp.move (h : Kp w F) (hb : Below w.heap.size w w') : Kp w' F := fun w2 h2 => h w2 (hb.trans (h2.mono hb.size))
theorem below_new (w : World) (o : Obj) : Below w.heap.size w (w.alloc o) := (Below.refl _ _).alloc (Nat.le_refl _) o
theorem below_drawn (w : World) (k : Nat) : Below w.heap.size w (w.drewN k) := below_drewN' (Below.refl _ _) k
theorem below_drew1 (w : World) : Below w.heap.size w w.drew := ⟨rfl, rfl, rfl, Nat.le_refl _, fun _ _ => rfl⟩
theorem Kp.alloc (h : Kp w F) (o : Obj) : Kp (w.alloc o) F := h.move (below_new w o)
theorem Kp.drewN (h : Kp w F) (k : Nat) : Kp (w.drewN k) F := h.move (below_drawn w k)
theorem Kp.drew (h : Kp w F) : Kp w.drew F := h.move (below_drew1 w)
theorem Kp.and (h : Kp w F) (k : Kp w G) : Kp w fun w => F w ∧ G w := fun w2 h2 => ⟨h w2 h2, k w2 h2⟩
theorem Kp.map (h : Kp w F) (f : ∀ w, F w → G w) : Kp w G := fun w2 h2 => f w2 (h w2 h2)
theorem Kp.l (h : Kp w fun w => F w ∧ G w) : Kp w F := fun w2 h2 => (h w2 h2).1
theorem Kp.r (h : Kp w fun w => F w ∧ G w) : Kp w G := fun w2 h2 => (h w2 h2).2
theorem below_keep (h : Below B a w) (hB : B ≤ w.heap.size) : Kp w fun w' => Below B a w' := fun w2 h2 => h.trans (h2.mono hB)
theorem kp_start (w : World) : Kp w fun w' => Below w.heap.size w w' := fun w2 h2 => h2
theorem size_keep (h : n ≤ w.heap.size) : Kp w fun w' => n ≤ w'.heap.size := fun w2 h2 => Nat.le_trans h h2.size
theorem kp_pure (h : p) : Kp w fun _ => p := fun _ _ => h
theorem kp_whole {b : Nat} {t : TypeId} {cs : Array Value} (h : Whole w b t cs) : Kp w fun w' => Whole w' b t cs := fun w2 h2 => h.below h2 h.lt
end

/-- Only blocks from 'lo' up to 'hi' and new ones have turned. -/
structure Mv (lo hi : Nat) (w w' : World) : Prop where
  os : w'.os = w.os
  tape : w'.tape = w.tape
  output : w'.output = w.output
  size : w.heap.size ≤ w'.heap.size
  block : ∀ b, b < w.heap.size → ¬ (lo ≤ b ∧ b < hi) → w'.heap[b]? = w.heap[b]?
/-- A fact that speaks of the blocks from 'lo' up to 'hi' alone. -/
def Kr (w : World) (lo hi : Nat) (F : World → Prop) : Prop := hi ≤ w.heap.size ∧ ∀ w', w.heap.size ≤ w'.heap.size → (∀ b, lo ≤ b → b < hi → w'.heap[b]? = w.heap[b]?) → F w'
section
variable {w w' a : World} {F G : World → Prop} {B n lo hi lo' hi' : Nat} {p : Prop}
theorem Kr.here (h : Kr w lo hi F) : F w := h.2 w (Nat.le_refl _) fun _ _ _ => rfl
theorem Kr.below (h : Kr w lo hi F) (hb : Below B w w') (hB : hi ≤ B) : Kr w' lo hi F :=
  ⟨Nat.le_trans h.1 hb.size, fun w2 hz h2 => h.2 w2 (Nat.le_trans hb.size hz) fun b h3 h4 => (h2 b h3 h4).trans (hb.block b (by omega))⟩
theorem Kr.move (h : Kr w lo hi F) (hm : Mv lo' hi' w w') (hd : hi ≤ lo' ∨ hi' ≤ lo) : Kr w' lo hi F :=
  ⟨Nat.le_trans h.1 hm.size, fun w2 hz h2 => h.2 w2 (Nat.le_trans hm.size hz) fun b h3 h4 => (h2 b h3 h4).trans (hm.block b (by have := h.1; omega) (by omega))⟩
theorem Kr.and (h : Kr w lo hi F) (k : Kr w lo hi G) : Kr w lo hi fun w => F w ∧ G w := ⟨h.1, fun w2 hz h2 => ⟨h.2 w2 hz h2, k.2 w2 hz h2⟩⟩
theorem Kr.map (h : Kr w lo hi F) (f : ∀ w, F w → G w) : Kr w lo hi G := ⟨h.1, fun w2 hz h2 => f w2 (h.2 w2 hz h2)⟩
theorem Kr.widen (h : Kr w lo hi F) (hl : lo' ≤ lo) (hh : hi ≤ hi') (hz : hi' ≤ w.heap.size) : Kr w lo' hi' F := ⟨hz, fun w2 hz h2 => h.2 w2 hz fun b h3 h4 => h2 b (by omega) (by omega)⟩
theorem Mv.of_below (h : Below B w w') (hB : w.heap.size ≤ B) : Mv lo hi w w' := ⟨h.os, h.tape, h.output, h.size, fun b hb _ => h.block b (by omega)⟩
theorem Mv.to_below (h : Mv lo hi w w') (hB : B ≤ lo) (hz : B ≤ w.heap.size) : Below B w w' := ⟨h.os, h.tape, h.output, h.size, fun b hb => h.block b (by omega) (by omega)⟩
theorem Mv.of_grown {g : Nat} (h : w.grownBy w' (some g)) (hl : lo ≤ g) (hh : g < hi) : Mv lo hi w w' := ⟨h.os, h.tape, h.output, h.size, fun b hb hn => h.block b hb (by simp; omega)⟩
theorem Mv.of_grown0 (h : w.grownBy w' none) : Mv lo hi w w' := ⟨h.os, h.tape, h.output, h.size, fun b hb hn => h.block b hb (by simp)⟩
end
end Go.Proofs.Ytkhfflbgnojcfaa
