/-
  The laws' own helpers that mark lists of spans and of numbers, and look whether the marks still stand. Condition: the list is the call's own (marking), can be read (looking).
-/
import Derived.Test.YtmhpmdibhpcjpaaDoorSto
namespace Go.Proofs.YtmhpmdibhpcjpaaDoor
open Go.RowKit
set_option linter.unusedVariables false

/-- The marks on spans. -/
def mks (n : Nat) : List (Int × Int) := (List.range n).map fun (i : Nat) => (1 + 2 * (i : Int), 1 + 2 * (i : Int) + 1)
theorem mks_len (n : Nat) : (mks n).length = n := by unfold mks; simp
theorem mks_succ (n : Nat) : mks (n + 1) = mks n ++ [(1 + 2 * (n : Int), 1 + 2 * (n : Int) + 1)] := by unfold mks; rw [List.range_succ, List.map_append]; rfl
theorem mks_at {n i : Nat} (h : i < n) : (mks n)[i]? = some (1 + 2 * (i : Int), 1 + 2 * (i : Int) + 1) := by unfold mks; simp [h]
/-- The marks on numbers. -/
def mki (n : Nat) : List Nat := (List.range n).map fun i => 1 + i
theorem mki_len (n : Nat) : (mki n).length = n := by unfold mki; simp
theorem mki_succ (n : Nat) : mki (n + 1) = mki n ++ [1 + n] := by unfold mki; rw [List.range_succ, List.map_append]; rfl
theorem mki_at {n i : Nat} (h : i < n) : (mki n)[i]? = some (1 + i) := by unfold mki; simp [h]
theorem set_mid {α : Type} {P L : List α} {i : Nat} (x : α) (hp : P.length = i) (hi : i < L.length) : (P ++ L.drop i).set i x = P ++ [x] ++ L.drop (i + 1) := by
  rw [List.set_append_right _ _ (by omega), hp, Nat.sub_self, List.drop_eq_getElem_cons hi, List.set_cons_zero, List.append_assoc]
  rfl
theorem mid_some {α : Type} {P L : List α} {i : Nat} (hp : P.length = i) (hi : i < L.length) : ∃ y, (P ++ L.drop i)[i]? = some y :=
  ⟨_, List.getElem?_eq_getElem (by rw [List.length_append, List.length_drop]; omega)⟩
theorem nms_set (l : List Nat) (k x : Nat) : (nms l).set k (.int .i64 (x : Int)) = nms (l.set k x) := by unfold nms; rw [List.map_set]
theorem OwnI.row' {w : World} {B n cap : Nat} {A : Option Addr} {l : List Nat} (h : OwnI w B (.slice A n cap) l) : n = l.length ∧ w.ownsRow B 3 1 (.slice A n cap) n (nms l) := by
  have hn : n = l.length := by
    obtain ⟨A, c, he, _⟩ := h.form
    cases he
    rfl
  subst hn
  exact ⟨rfl, h⟩
theorem OwnI.stored {w : World} {B g n cap : Nat} {l : List Nat} (h : OwnI w B (.slice (some ⟨g, 0, none⟩) n cap) l) (k x : Nat) :
    OwnI (w.setCell ⟨g, k, none⟩ (.int .i64 (x : Int))) B (.slice (some ⟨g, 0, none⟩) n cap) (l.set k x) ∧ w.grownBy (w.setCell ⟨g, k, none⟩ (.int .i64 (x : Int))) (some g) := by
  obtain ⟨hn, h1⟩ := h.row'
  obtain ⟨h2, g2⟩ := World.ownsRow.stored h1 k (.int .i64 (x : Int))
  refine ⟨?_, g2⟩
  rw [nms_set] at h2
  unfold OwnI
  rw [List.length_set, ← hn]
  exact h2
theorem OwnI.cells {w : World} {B n cap g k x : Nat} {l : List Nat} (h : OwnI w B (.slice (some ⟨g, 0, none⟩) n cap) l) (hx : l[k]? = some x) : w.cell? ⟨g, k, none⟩ = some (.int .i64 (x : Int)) := by
  obtain ⟨A, c, he, _, _, hs⟩ := h.form
  cases he
  obtain ⟨b, o, he, _, h1⟩ := hs k x hx
  cases he
  rw [Nat.zero_add] at h1
  exact h1

theorem own_split {w : World} {B n cap size : Nat} {e : TypeId} {A : Option Addr} {xs : List Value} (h : w.ownsRow B e size (.slice A n cap) n xs) (h0 : 0 < n) : ∃ g, A = some ⟨g, 0, none⟩ := by
  rcases h.2 with ⟨he, hn⟩ | ⟨g, c, cur, he, -⟩
  · omega
  · cases he
    exact ⟨g, rfl⟩

end Go.Proofs.YtmhpmdibhpcjpaaDoor
