/-
  The queries that the code makes of keys: what they are, and how a key's budget of nodes runs out. Plain lemmas; no condition.
-/
import Derived.Test.YtnfigpknejmkmaaGreatDoorKs
namespace Go.Proofs.YtnfigpknejmkmaaGreatDoor
open Go.RowKit
set_option linter.unusedVariables false

/-- What a kind asks of its own field. -/
def leafB (kd f : Int) (t : ByteArray) (S : List (Int × Int)) : Bool :=
  if kd = 1 then flag1 f else if kd = 2 then nameB t.data.toList else if kd = 3 ∨ kd = 4 then setB S else true
theorem flag1_ne {f : Int} (h : flag1 f = true) : (f == 0) = false := by
  refine beq_eq_false_iff_ne.2 ?_
  rintro rfl
  exact absurd h (by decide)
theorem name_ne {t : ByteArray} (h : nameB t.data.toList = true) : (t.size == 0) = false := by
  refine beq_eq_false_iff_ne.2 fun h0 => ?_
  have h1 : t.data.toList = [] := List.eq_nil_of_length_eq_zero (by rw [Array.length_toList]; exact h0)
  rw [h1] at h
  exact absurd h (by decide)
theorem set_ne {S : List (Int × Int)} (h : setB S = true) : (S.length == 0) = false := by
  have := (setB_iff.1 h).2.1
  exact beq_eq_false_iff_ne.2 (by omega)
theorem node_shape (kd f : Int) (t : ByteArray) (S : List (Int × Int)) (n : Nat) : nodeB kd f t S n = (shapeB kd f t S.length n && leafB kd f t S) := by
  unfold nodeB shapeB leafB
  by_cases k0 : kd = 0
  · subst k0; simp
  by_cases k1 : kd = 1
  · subst k1
    cases h : flag1 f with
    | false => simp
    | true => simp [flag1_ne h]
  by_cases k2 : kd = 2
  · subst k2
    cases h : nameB t.data.toList with
    | false => simp
    | true => simp [name_ne h]
  by_cases k34 : kd = 3 ∨ kd = 4
  · rw [if_neg k0, if_neg k1, if_neg k2, if_pos k34, if_neg k0, if_neg k1, if_neg k2, if_pos k34, if_neg k1, if_neg k2, if_pos k34]
    cases h : setB S with
    | false => simp
    | true => simp [set_ne h]
  · rw [if_neg k0, if_neg k1, if_neg k2, if_neg k34, if_neg k0, if_neg k1, if_neg k2, if_neg k34, if_neg k1, if_neg k2, if_neg k34]
    simp
mutual
/-- The query that stands for a key. -/
def QV (w : World) : KT → Value → Prop
  | .mk kd f t S ks, q =>
    (kd = 0 ∧ q = .iface 124 (.agg #[])) ∨ (kd = 1 ∧ q = .iface 126 (.agg #[.int .i64 f])) ∨ (kd = 2 ∧ q = .iface 129 (.agg #[.string t])) ∨
    (kd = 3 ∧ ∃ AS cS, q = .iface 131 (.agg #[.slice AS S.length cS]) ∧ SpA w AS S) ∨ (kd = 4 ∧ ∃ AS cS, q = .iface 134 (.agg #[.slice AS S.length cS]) ∧ SpA w AS S) ∨
    (kd = 5 ∧ ∃ q1, q = .iface 136 (.agg #[q1]) ∧ QVs w ks [q1]) ∨ (kd = 6 ∧ ∃ q1 q2, q = .iface 138 (.agg #[q1, q2]) ∧ QVs w ks [q1, q2]) ∨
    (kd = 7 ∧ ∃ q1 q2, q = .iface 139 (.agg #[q1, q2]) ∧ QVs w ks [q1, q2])
def QVs (w : World) : List KT → List Value → Prop
  | [], qs => qs = []
  | k :: r, qs => ∃ q s, qs = q :: s ∧ QV w k q ∧ QVs w r s
end
mutual
theorem QV.below {w w' : World} {B : Nat} (hb : Below B w w') (hB : w.heap.size ≤ B) : ∀ (k : KT) (q : Value), QV w k q → QV w' k q
  | .mk kd f t S ks, q, h => by
    rw [QV] at h ⊢
    rcases h with h | h | h | ⟨h, AS, cS, h1, h2⟩ | ⟨h, AS, cS, h1, h2⟩ | ⟨h, q1, h1, h2⟩ | ⟨h, q1, q2, h1, h2⟩ | ⟨h, q1, q2, h1, h2⟩
    · exact .inl h
    · exact .inr (.inl h)
    · exact .inr (.inr (.inl h))
    · exact .inr (.inr (.inr (.inl ⟨h, AS, cS, h1, h2.below hb hB⟩)))
    · exact .inr (.inr (.inr (.inr (.inl ⟨h, AS, cS, h1, h2.below hb hB⟩))))
    · exact .inr (.inr (.inr (.inr (.inr (.inl ⟨h, q1, h1, QVs.below hb hB ks _ h2⟩)))))
    · exact .inr (.inr (.inr (.inr (.inr (.inr (.inl ⟨h, q1, q2, h1, QVs.below hb hB ks _ h2⟩))))))
    · exact .inr (.inr (.inr (.inr (.inr (.inr (.inr ⟨h, q1, q2, h1, QVs.below hb hB ks _ h2⟩))))))
theorem QVs.below {w w' : World} {B : Nat} (hb : Below B w w') (hB : w.heap.size ≤ B) : ∀ (ks : List KT) (qs : List Value), QVs w ks qs → QVs w' ks qs
  | [], qs, h => by rw [QVs] at h ⊢; exact h
  | k :: r, qs, h => by
    rw [QVs] at h ⊢
    obtain ⟨q, s, h1, h2, h3⟩ := h
    exact ⟨q, s, h1, QV.below hb hB k q h2, QVs.below hb hB r s h3⟩
end
theorem QVs.push {w : World} : ∀ {ks : List KT} {qs : List Value} {k : KT} {q : Value}, QVs w ks qs → QV w k q → QVs w (ks ++ [k]) (qs ++ [q])
  | [], qs, k, q, h, hq => by
    rw [QVs] at h
    subst h
    show QVs w [k] [q]
    rw [QVs]
    exact ⟨q, [], rfl, hq, by rw [QVs]⟩
  | x :: r, qs, k, q, h, hq => by
    rw [QVs] at h
    obtain ⟨q0, s, rfl, h2, h3⟩ := h
    rw [List.cons_append, List.cons_append, QVs]
    exact ⟨q0, s ++ [q], rfl, h2, QVs.push h3 hq⟩
end Go.Proofs.YtnfigpknejmkmaaGreatDoor
