/-
  The walks of the laws FnSetPart and FnSetLong. Condition: the code can be read.
-/
import Derived.Test.YtmhpmdibhpcjpaaDoorSlaw
namespace Go.Proofs.YtmhpmdibhpcjpaaDoor
open Go.RowKit
set_option linter.unusedVariables false

theorem spa_news {w : World} {A : Option Addr} {L : List (Int × Int)} (h : SpA w A L) (h0 : L ≠ []) :
    ∃ b o, A = some ⟨b, o, none⟩ ∧ b < w.heap.size ∧ ∀ j u, (spn L)[j]? = some u → w.cell? ((⟨b, o, none⟩ : Addr).add j) = some u := by
  have hp : 0 < L.length := List.length_pos_iff.2 h0
  obtain ⟨x, hx⟩ : ∃ x, L[0]? = some x := ⟨_, List.getElem?_eq_getElem hp⟩
  obtain ⟨b, o, rfl, hb, _, _⟩ := h 0 x hx
  refine ⟨b, o, rfl, hb, fun j u hu => ?_⟩
  have hj : j < (spn L).length := (List.getElem?_eq_some_iff.1 hu).1
  rw [spn_len] at hj
  obtain ⟨y, hy⟩ : ∃ y, L[j / 2]? = some y := ⟨_, List.getElem?_eq_getElem (by omega)⟩
  obtain ⟨b', o', he, hb', h1, h2⟩ := h (j / 2) y hy
  cases he
  obtain ⟨s1, s2⟩ := spn_get L (j / 2) y hy
  rw [add_none]
  rcases (by omega : j = j / 2 * 2 ∨ j = j / 2 * 2 + 1) with e | e
  · rw [e, s1] at hu
    rw [e, h1]
    exact hu
  · rw [e, s2] at hu
    rw [e, show o + (j / 2 * 2 + 1) = o + j / 2 * 2 + 1 by omega, h2]
    exact hu
theorem SpA.take {w : World} {A : Option Addr} {L : List (Int × Int)} (h : SpA w A L) (k : Nat) : SpA w A (L.take k) := fun i x hx => by
  rw [List.getElem?_take] at hx
  split at hx
  · exact h i x hx
  · cases hx
theorem impl_setvalid_n {A : Option Addr} {n cap : Nat} {L : List (Int × Int)} {o : Bool} (hn : L.length = n) (ho : setB L = o) (w : World) (h : SpA w A L) (hl : n ≤ 33554432) :
    Calls Tryd.prog 26 #[.slice A n cap] w fun e w' => e = .returned (.bool o) ∧ Below w.heap.size w w' := by
  subst hn
  exact impl_setvalid_at ho w h hl
theorem set_pos {L : List (Int × Int)} (h : setB L = true) : L ≠ [] := by
  rintro rfl
  exact absurd h (by decide)
theorem Own.cat {w : World} {B : Nat} {v : Value} {L M : List (Int × Int)} {n : Nat} (h : w.ownsRow B 45 2 v n (spn L ++ spn M)) (hn : n = L.length + M.length) : Own w B v (L ++ M) := by
  unfold Own
  rw [spn_app, List.length_append, ← hn]
  exact h

theorem set_fill {L : List (Int × Int)} (h : setB L = true) (k : Nat) : setB (L ++ List.replicate k (1, 1)) = decide (L.length + k ≤ 6) := by
  by_cases h6 : L.length + k ≤ 6
  · rw [decide_eq_true h6]
    obtain ⟨a, b, c⟩ := setB_iff.1 h
    refine setB_iff.2 ⟨fun y hy => ?_, by simp; omega, by simpa using h6⟩
    rcases List.mem_append.1 hy with hy | hy
    · exact a y hy
    · rw [List.eq_of_mem_replicate hy]; rfl
  · rw [decide_eq_false h6]
    exact setB_long (by simp; omega)
theorem fill_succ (L : List (Int × Int)) (k : Nat) : L ++ List.replicate (k + 1) (1, 1) = L ++ List.replicate k (1, 1) ++ [(1, 1)] := by
  rw [List.replicate_succ', List.append_assoc]

end Go.Proofs.YtmhpmdibhpcjpaaDoor
