/-
  Regions that draw their order and hold calls that make memory, walked once, in the order of the text: the class of the worlds in which nothing below a bound has changed. Plain lemmas; no condition.
-/
import Derived.Test.YtkhfflbgnojcfaaBase
import Derived.BigQuiet
namespace Go.Proofs.Ytkhfflbgnojcfaa
open Go.RowKit
set_option linter.unusedVariables false

/-- A world in which nothing of 'w' below 'G' has changed. -/
structure Later (G : Nat) (w : World) where
  v : World
  h : Below G w v
instance (G : Nat) (w : World) : Nonempty (Later G w) := ⟨⟨w, Below.refl G w⟩⟩
theorem Later.cell {G : Nat} {w : World} (x : Later G w) {p : Addr} {u : Value} (hp : p.block < G) (h : w.cell? p = some u) : x.v.cell? p = some u := (x.h.cell hp).trans h
theorem Later.call {G : Nat} {w : World} (x : Later G w) {w' : World} (hb : Below x.v.heap.size x.v w') (hG : G ≤ w.heap.size) : ∃ y : Later G w, w' = y.v := ⟨⟨w', x.h.trans (hb.mono (Nat.le_trans hG x.h.size))⟩, rfl⟩
theorem wp_region_later {P : Program} {id : Nat} {Q : Exit → Act → World → Prop} {a : Act} {l : List Oper} (G : Nat) (w : World) (hm : P.follows .mixedOrders = true) (hB : Region.lexB .any l.toArray = true)
    (h : wpQuiet P l.toArray (fun w' => ∃ x : Later G w, w' = x.v) (fun a' => ∀ w', (∃ x : Later G w, w' = x.v) → Q .normal a' w') l a) : (Code.region id l.toArray true).wp P Q a w :=
  wp_region_quiet (C := fun w' => ∃ x : Later G w, w' = x.v) hm hB ⟨⟨w.drew, ⟨(Below.refl G w).os, (Below.refl G w).tape, (Below.refl G w).output, (Below.refl G w).size, (Below.refl G w).block⟩⟩, rfl⟩ (by simpa using h)
end Go.Proofs.Ytkhfflbgnojcfaa
