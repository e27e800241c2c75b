/-
  The contracts of slices.Contains, slices.Clone, strings.Split, strings.CutPrefix and strings.TrimPrefix: the library's, in this seat's words. Condition: texts are not too long.
-/
import Derived.Test.YtjengfefedbhpaaTr
import Derived.Test.YtjengfefedbhpaaTsp
import Derived.Test.YtjengfefedbhpaaTshl
namespace Go.Proofs.Ytjengfefedbhpaa
open Go.RowKit
set_option linter.unusedVariables false

theorem contains_mem {L : List ByteArray} {x : ByteArray} {z : Bool} (h : decide (x ∈ L) = z) : Lib.containsS L x = z := by
  subst h
  cases hc : Lib.containsS L x with
  | true => exact (decide_eq_true ((Lib.containsS_iff L x).1 hc)).symm
  | false =>
    symm
    refine decide_eq_false fun hm => ?_
    rw [(Lib.containsS_iff L x).2 hm] at hc
    cases hc
theorem txt_cells {w : World} {A : Option Addr} {N cap : Nat} {L : List ByteArray} (h : SIn w A N cap L) (h0 : N ≠ 0) : ∃ b o, A = some ⟨b, o, none⟩ ∧ ∀ j, j < L.length → w.cell? ⟨b, o + j, none⟩ = some (.string (L.getD j ByteArray.empty)) := by
  obtain ⟨x, hx⟩ : ∃ x, L[0]? = some x := ⟨_, List.getElem?_eq_getElem (by rw [h.1]; omega)⟩
  obtain ⟨b, o, hA, _, _⟩ := str_at h.2.2.1 hx
  refine ⟨b, o, hA, fun j hj => ?_⟩
  obtain ⟨b', o', hA', _, hc⟩ := str_at h.2.2.1 (List.getElem?_eq_getElem hj)
  rw [hA] at hA'
  cases hA'
  rw [hc, List.getD_eq_getElem?_getD, List.getElem?_eq_getElem hj]
  rfl
theorem lib_has {A : Option Addr} {N cap : Nat} {L : List ByteArray} {n : ByteArray} {z : Bool} (hz : decide (n ∈ L) = z) (w : World) (h : SIn w A N cap L) : Calls Try.prog 53 #[.slice A N cap, .string n] w fun e w' => e = .returned (.bool z) ∧ w' = w := by
  by_cases h0 : N = 0
  · have e : z = false := by
      rw [← hz]
      have : L = [] := List.eq_nil_of_length_eq_zero (by rw [h.1]; exact h0)
      subst this
      rfl
    subst h0
    rw [e]
    exact Try.slices_Contains_string_empty A cap n w
  · obtain ⟨b, o, rfl, hc⟩ := txt_cells h h0
    have c := Try.slices_Contains_string b o N cap L n w (by rw [h.1]; exact Nat.le_refl _) (by have := h.2.1; omega) hc
    rw [List.take_of_length_le (by rw [h.1]; exact Nat.le_refl _), contains_mem hz] at c
    exact c
theorem rcells_str (L : List ByteArray) : rcells stR L = L.map Value.string := by
  induction L with
  | nil => rfl
  | cons x L ih =>
    unfold rcells at ih ⊢
    rw [List.flatMap_cons, ih]
    rfl
/-- A copy of a slice of texts. -/
def Cloned (w : World) (L : List ByteArray) (e : Ending) (w' : World) : Prop := ∃ v, e = .returned v ∧ ROwn stR w' w.heap.size v L ∧ Below w.heap.size w w'
theorem lib_clone {A : Option Addr} {N cap : Nat} {L : List ByteArray} (w : World) (h : SIn w A N cap L) : Calls Try.prog 89 #[.slice A N cap] w (Cloned w L) := by
  by_cases h0 : N = 0
  · subst h0
    have : L = [] := List.eq_nil_of_length_eq_zero h.1
    subst this
    cases A with
    | none => exact (Try.slices_Clone_string_nil 0 cap w).mono fun e w' ⟨he, hw⟩ => ⟨_, he, by rw [hw]; exact ROwn.nil w _, by rw [hw]; exact Below.refl _ _⟩
    | some a => exact (Try.slices_Clone_string_zero a cap w).mono fun e w' ⟨v, he, ho, _, hb⟩ => ⟨v, he, ho, hb⟩
  · obtain ⟨b, o, rfl, hc⟩ := txt_cells h h0
    have hN := h.2.1
    refine (Try.slices_Clone_string b o N cap L w (by rw [h.1]; exact Nat.le_refl _) (by omega) hc).mono ?_
    rintro e w' ⟨v, he, ho, _, hb⟩
    refine ⟨v, he, ?_, hb⟩
    rw [List.take_of_length_le (by rw [h.1]; exact Nat.le_refl _), ← rcells_str] at ho
    exact ROwn.of ho h.1.symm
/-- The words of a line, in memory. -/
def Worded (w : World) (l : ByteArray) (e : Ending) (w' : World) : Prop := ∃ g N, e = .returned (.slice (some ⟨g, 0, none⟩) N N) ∧ SIn w' (some ⟨g, 0, none⟩) N N (wdsF l) ∧ Below w.heap.size w w'
theorem wdsF_sizes (l : ByteArray) : ∀ x ∈ wdsF l, x.size ≤ l.size := by
  intro x hx
  unfold wdsF at hx
  obtain ⟨p, hp, rfl⟩ := List.mem_map.1 hx
  rw [rB_size]
  have := cut_part (c := 32) hp
  have e : (kb l).length = l.size := by unfold kb; simp
  omega
theorem pre_has (b l : ByteArray) : Lib.hasPrefix l.data.toList b.data.toList = preB b l := by
  unfold Lib.hasPrefix preB kb
  rw [Bool.eq_iff_iff]
  rw [List.isPrefixOf_iff_prefix, List.prefix_iff_eq_take, decide_eq_true_eq]
  exact eq_comm
end Go.Proofs.Ytjengfefedbhpaa
