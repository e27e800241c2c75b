/-
  The contract of the model's decoder of groups of four signs. No condition beyond a bound on the text's length.
-/
import Derived.Test.YtkhfflbgnojcfaaBenc
namespace Go.Proofs.Ytkhfflbgnojcfaa
open Go.RowKit
set_option linter.unusedVariables false

/-- The number of signs, read from the left. -/
def fold64 (l : List UInt8) : Nat := l.foldl (fun n c => 64 * n + val c) 0
theorem fold64_add (l : List UInt8) (c : UInt8) : fold64 (l ++ [c]) = 64 * fold64 l + val c := by unfold fold64; rw [List.foldl_append]; rfl
theorem fold64_lt (l : List UInt8) : fold64 l < 64 ^ l.length := by
  have h : ∀ n, l.foldl (fun n c => 64 * n + val c) n < 64 ^ l.length * (n + 1) := by
    induction l with
    | nil => intro n; simp
    | cons a l ih =>
      intro n
      have h1 := ih (64 * n + val a)
      have h2 := val_lt a
      rw [List.foldl_cons, List.length_cons, Nat.pow_succ]
      refine Nat.lt_of_lt_of_le h1 ?_
      rw [Nat.mul_assoc]
      exact Nat.mul_le_mul_left _ (by omega)
  have := h 0
  simpa [fold64] using this
theorem fold64_four (a b c d : UInt8) : fold64 [a, b, c, d] = n4 a b c d := by unfold fold64 n4; simp
theorem max_val (c : UInt8) : max (valI c) 0 = (val c : Int) := by
  unfold valI val
  cases h : num c with
  | none => rfl
  | some n => simp
theorem valI_le (c : UInt8) : -1 ≤ valI c ∧ valI c ≤ 63 := by
  unfold valI
  cases h : num c with
  | none => simp
  | some n => have := (num_some h).1; simp; omega
theorem valI_or (c : UInt8) : valI c = (val c : Int) ∨ (valI c = -1 ∧ val c = 0) := by
  unfold valI val
  cases h : num c with
  | none => exact .inr ⟨rfl, rfl⟩
  | some n => exact .inl rfl
theorem drop4 {s : ByteArray} (k : Nat) (h : k + 4 ≤ s.size) : s.data.toList.drop k = s[k] :: s[k + 1] :: s[k + 2] :: s[k + 3] :: s.data.toList.drop (k + 4) := by
  rw [drop1 k (by omega), drop1 (k + 1) (by omega), drop1 (k + 2) (by omega), drop1 (k + 3) (by omega)]
theorem dl_short {t : List UInt8} (h : t.length < 4) : dl t = [] := by
  have := dl_len t
  exact List.eq_nil_of_length_eq_zero (by omega)
theorem ofNat_nat {n : Nat} (h : n < 256) : (UInt8.ofNat n).toNat = n := by rw [UInt8.toNat_ofNat']; exact Nat.mod_eq_of_lt h

end Go.Proofs.Ytkhfflbgnojcfaa
