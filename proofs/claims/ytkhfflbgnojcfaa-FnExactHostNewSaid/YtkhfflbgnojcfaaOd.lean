/-
  The order of texts, byte by byte, as a relation on lists of bytes. Plain definitions and lemmas; no condition.
-/
import Derived.Test.YtkhfflbgnojcfaaRow
import Derived.Sort.Walk0
namespace Go.Proofs.Ytkhfflbgnojcfaa
set_option linter.unusedVariables false

def kb (s : ByteArray) : List UInt8 := s.data.toList
theorem kb_inj {a b : ByteArray} (h : kb a = kb b) : a = b := by
  cases a
  cases b
  congr
  exact Array.toList_inj.1 h
/-- The order of names. -/
def ltG (a b : ByteArray) : Bool := decide (kb a < kb b)
theorem less_walk (a b : ByteArray) : Op.bytesLess a.toList b.toList = ltG a b := by
  rw [bytesLess_eq, ByteArray.toList_eq, ByteArray.toList_eq]
  rfl
theorem ltG_trans {a b c : ByteArray} (h1 : ltG a b = true) (h2 : ltG b c = true) : ltG a c = true := by
  unfold ltG at *
  simp only [decide_eq_true_eq] at *
  exact List.lt_trans h1 h2
theorem ltG_irrefl (a : ByteArray) : ltG a a = false := by
  unfold ltG
  exact decide_eq_false (List.lt_irrefl _)
theorem ltG_ne {a b : ByteArray} (h : ltG a b = true) : a ≠ b := by
  rintro rfl
  rw [ltG_irrefl] at h
  cases h
theorem ltG_total {a b : ByteArray} (h : ltG a b = false) (hne : a ≠ b) : ltG b a = true := by
  unfold ltG at *
  simp only [decide_eq_false_iff_not, decide_eq_true_eq] at *
  rcases List.le_iff_lt_or_eq.1 (List.not_lt.1 h) with h1 | h1
  · exact h1
  · exact absurd (kb_inj h1.symm) hne
theorem ltG_asymm {a b : ByteArray} (h : ltG a b = true) : ltG b a = false := by
  cases h2 : ltG b a with
  | false => rfl
  | true => have := ltG_trans h h2; rw [ltG_irrefl] at this; cases this
theorem ne_kb {a b : ByteArray} (h : a ≠ b) : (kb a == kb b) = false := beq_eq_false_iff_ne.2 fun e => h (kb_inj e)
theorem eq_kb {a b : ByteArray} : (kb a == kb b) = decide (a = b) := by
  by_cases h : a = b
  · subst h; simp
  · rw [ne_kb h, decide_eq_false h]
theorem kb_walk (a b : ByteArray) : (a.toList == b.toList) = (kb a == kb b) := by rw [ByteArray.toList_eq, ByteArray.toList_eq]; rfl
theorem ne_walk {a b : ByteArray} (h : a ≠ b) : (a.toList == b.toList) = false ∧ ¬ a.toList = b.toList := by
  have h2 : (a.toList == b.toList) = false := (kb_walk a b).trans (ne_kb h)
  exact ⟨h2, beq_eq_false_iff_ne.1 h2⟩
theorem tsnoc {α : Type} {L : List α} {k : Nat} {g : α} (hg : L[k]? = some g) : L.take (k + 1) = L.take k ++ [g] := by
  rw [List.take_add_one, hg]
  rfl
theorem lessW {a b : ByteArray} {z : Bool} (h : ltG a b = z) : Op.bytesLess a.toList b.toList = z := (less_walk a b).trans h
end Go.Proofs.Ytkhfflbgnojcfaa
