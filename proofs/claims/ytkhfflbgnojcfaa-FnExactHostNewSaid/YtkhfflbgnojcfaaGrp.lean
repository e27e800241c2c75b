/-
  The contract of the code's iterator over the groups of a text. Conditions: a group has one to four bytes, the text is not too long, and a round leaves the two blocks that the iterator reads.
-/
import Derived.RangeFuncNested
import Derived.RangeFuncBound
import Derived.RangeFuncCalls
import Derived.RangeFuncLeaves
import Derived.RangeFuncBox
import Derived.Shelf.Abstract
import Derived.Shelf.RegionOpen
import Derived.WalkKit
import Derived.OwnWalkIn
import Derived.TacticsInMore
import Derived.LoopNIn
import Derived.LoopIn
import Derived.Test.YtkhfflbgnojcfaaDmath
import Derived.Test.YtkhfflbgnojcfaaBenc
namespace Go.Proofs.Ytkhfflbgnojcfaa
open Go.RowKit Go.Shelf
set_option linter.unusedVariables false
attribute [local go_sem] Oper.semAt_some

/-- A group of one to 'n' bytes. -/
abbrev Gn (n : Nat) := { x : ByteArray // 1 ≤ x.size ∧ x.size ≤ n }
/-- Two blocks stand. -/
def Two (a b : Nat) (W W' : World) : Prop := W'.heap[a]? = W.heap[a]? ∧ W'.heap[b]? = W.heap[b]?
theorem two_t {a b : Nat} {X Y Z : World} (h : Two a b X Y) (k : Two a b Y Z) : Two a b X Z := ⟨k.1.trans h.1, k.2.trans h.2⟩
theorem two_b {a b : Nat} {w : World} (ha : a < w.heap.size) (hb : b < w.heap.size) (W : World) (l : Nat) (o o' : Obj) (hl : w.heap.size ≤ l) (h : W.heap[l]? = some o) (_ : o.isCells = false) (_ : o.isWalk = false) : Two a b W (W.putObj l o') :=
  ⟨World.putObj_heap_other (by omega), World.putObj_heap_other (by omega)⟩
/-- The lists of bytes of groups. -/
def gl {n : Nat} (xs : List (Gn n)) : List (List UInt8) := xs.map fun x => x.1.data.toList
theorem gl_snoc {n : Nat} (xs : List (Gn n)) (x : Gn n) : gl (xs ++ [x]) = gl xs ++ [x.1.data.toList] := by simp [gl]

end Go.Proofs.Ytkhfflbgnojcfaa
