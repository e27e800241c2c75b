/-
  The walks of the laws FnNumbersStar, FnNumbersAll and FnNumbersOrder. Condition: the code can be read.
-/
import Derived.Test.YtmhpmdibhpcjpaaDoorSl2
import Derived.Lib.MinMax
namespace Go.Proofs.YtmhpmdibhpcjpaaDoor
open Go.RowKit
set_option linter.unusedVariables false

/-- A list of numbers of the call's own is told, as a slice. -/
def ListsA (w : World) (l : List Nat) (e : Ending) (w' : World) : Prop :=
  ∃ (A : Option Addr) (cap : Nat), e = .returned (.slice A l.length cap) ∧ l.length ≤ cap ∧ cap ≤ maxLen ∧ OwnI w' w.heap.size (.slice A l.length cap) l ∧ IntA w' A l ∧ Below w.heap.size w w'
theorem listsA_of {w w' : World} {l m : List Nat} {e : Ending} (h : Lists w l e w') (hl : l = m) : ListsA w m e w' := by
  subst hl
  obtain ⟨v, rfl, hown, hb⟩ := h
  obtain ⟨A, cap, rfl, h1, h2, h3⟩ := hown.form
  exact ⟨A, cap, rfl, h1, h2, hown, h3, hb⟩
theorem spa_one (w : World) (x y : Int) (t : TypeId) (N : Nat) (hN : w.heap.size = N) : SpA (w.alloc (.cells #[.int .i64 x, .int .i64 y] t)) (some ⟨N, 0, none⟩) [(x, y)] := fun i z hz => by
  have hi : i = 0 := by
    have := (List.getElem?_eq_some_iff.1 hz).1
    simpa using this
  subst hi
  simp at hz
  subst hz
  have h := two_new' w (.int .i64 x) (.int .i64 y) t N hN
  refine ⟨N, 0, rfl, by simp; omega, ?_, ?_⟩
  · have := h 0 _ rfl
    rw [add_none] at this
    exact this
  · have := h 1 _ rfl
    rw [add_none] at this
    exact this
theorem star_low {last : Int} (h : last < 1) : numsB [((0 : Int), (0 : Int))] last = [] := numsB_low _ h
theorem all_any (last : Int) : numsB [((1 : Int), (0 : Int))] last = ups (min last 99).toNat := by
  by_cases h : 1 ≤ last
  · exact numsB_all h
  · rw [numsB_low _ (by omega), show (min last 99).toNat = 0 by omega]
    rfl
theorem rev_take {L : List (Int × Int)} {j : Nat} {x : Int × Int} (h : L[j]? = some x) : L.reverse.take (L.length - j) = L.reverse.take (L.length - (j + 1)) ++ [x] := by
  have hj := (List.getElem?_eq_some_iff.1 h).1
  rw [show L.length - j = (L.length - (j + 1)) + 1 by omega, List.take_add_one]
  congr 1
  rw [List.getElem?_reverse (by omega), show L.length - 1 - (L.length - (j + 1)) = j by omega, h]
  rfl

end Go.Proofs.YtmhpmdibhpcjpaaDoor
