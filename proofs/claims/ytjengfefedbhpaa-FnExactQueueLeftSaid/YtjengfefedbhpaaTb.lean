/-
  The contracts of SubmissionValid and LetterValid, of both. Condition: the receivers can be read; texts are not too long.
-/
import Derived.Test.YtjengfefedbhpaaTa
namespace Go.Proofs.Ytjengfefedbhpaa
open Go.RowKit
set_option linter.unusedVariables false

theorem sz_eB {v : ByteArray} (h : v.size = 0) : v = eB := by
  refine rB_ext ?_
  have : v.data.toList.length = 0 := by simpa using h
  rw [List.eq_nil_of_length_eq_zero this]
  rfl
theorem ne_eB {v : ByteArray} (h : v.size ≠ 0) : decide (v = eB) = false := decide_eq_false fun e => h (by rw [e]; rfl)
theorem ne_nil {L : List ByteArray} (h : L.length ≠ 0) : decide (L = []) = false := decide_eq_false fun e => h (by rw [e]; rfl)
theorem recB_n21 {L : List ByteArray} (h : n21 L = true) (h1 : L.length ≠ 0) : recB L = true := by unfold recB; rw [h, decide_eq_true (show 1 ≤ L.length by omega)]; rfl
theorem recB_zero {L : List ByteArray} (h : L.length = 0) : recB L = false := recB_long (by omega)
theorem sbV_names {s : Sb} (h : n21 s.to = false) : sbV s = false := by
  cases hv : sbV s with
  | false => rfl
  | true =>
    exfalso
    obtain ⟨h0, h6⟩ := sbV_range hv
    have hnil : s.to = [] → False := fun e => by rw [e] at h; cases h
    have hrec : recB s.to = true → False := fun e => by unfold recB at e; rw [h] at e; cases e
    rcases (show (s.st = 0 ∨ s.st = 1 ∨ s.st = 6) ∨ (s.st = 2 ∨ s.st = 3) ∨ s.st = 4 ∨ s.st = 5 by omega) with h1 | h1 | h1 | h1
    · rw [sbV_low h1] at hv; simp at hv; exact hnil hv.2.1
    · rw [sbV_mid h1] at hv; simp at hv; exact hnil hv.2.1
    · rw [sbV_to h1] at hv; simp at hv; exact hrec hv.2.1
    · rw [sbV_data h1] at hv; simp at hv; exact hrec hv.2.1
theorem sbV_long {s : Sb} (h : ¬ s.tx.size ≤ 21) : sbV s = false := by
  cases hv : sbV s with
  | false => rfl
  | true => exact absurd (sbV_has hv).2.2.2.1 h
theorem two_in {a b x : Int} {z : Bool} (h : (decide (a ≤ x) && decide (x ≤ b)) = z) : (decide (a ≤ x) && decide (x ≤ b)) = z := h
end Go.Proofs.Ytjengfefedbhpaa
