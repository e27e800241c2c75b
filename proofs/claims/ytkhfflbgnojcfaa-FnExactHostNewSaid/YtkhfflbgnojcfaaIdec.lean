/-
  The contract of the code's decoder of one group of signs. Condition: the group has at most four bytes.
-/
import Derived.Test.YtkhfflbgnojcfaaIenc
import Derived.Test.YtkhfflbgnojcfaaBdec
import Derived.Test.YtkhfflbgnojcfaaDmath
import Derived.Test.YtkhfflbgnojcfaaShelf
namespace Go.Proofs.Ytkhfflbgnojcfaa
open Go.RowKit
set_option linter.unusedVariables false

theorem index_letters : ∀ c : Fin 256, Lib.indexByte (⟨#[65, 66, 67, 68, 69, 70, 71, 72, 73, 74, 75, 76, 77, 78, 79, 80, 81, 82, 83, 84, 85, 86, 87, 88, 89, 90, 97, 98, 99, 100, 101, 102, 103, 104, 105, 106, 107, 108, 109, 110, 111, 112, 113, 114, 115, 116, 117, 118, 119, 120, 121, 122, 48, 49, 50, 51, 52, 53, 54, 55, 56, 57, 43, 47]⟩ : ByteArray).data.toList (UInt8.ofNat c.1) = valI (UInt8.ofNat c.1) := by decide +kernel
theorem valI_yes {c : UInt8} (h : (num c).isSome = true) : valI c = (val c : Int) := by
  rcases valI_or c with e | ⟨e, _⟩
  · exact e
  · unfold valI at e
    cases hn : num c with
    | none => rw [hn] at h; cases h
    | some n => rw [hn] at e; simp at e
theorem valI_not {c : UInt8} (h : (num c).isSome = false) : valI c = -1 := by
  unfold valI
  cases hn : num c with
  | none => rfl
  | some n => rw [hn] at h; cases h
theorem acc_join {s : ByteArray} {k : Nat} (h : k < s.size) (h3 : k ≤ 3) : bits .or .i64 ((acc s.data.toList k : Nat) : Int) (wrap64 ((val s[k] : Int) * 2 ^ (6 * (3 - k)))) = ((acc s.data.toList (k + 1) : Nat) : Int) := by
  have hb := val_lt s[k]
  have e := list_at h 61
  have hl := acc_lt s.data.toList k
  rcases (by omega : k = 0 ∨ k = 1 ∨ k = 2 ∨ k = 3) with rfl | rfl | rfl | rfl
  · have e1 : wrap64 ((val s[0] : Int) * 2 ^ (6 * (3 - 0))) = ((262144 * val s[0] : Nat) : Int) := by unfold wrap64; simp; omega
    rw [e1, or_join _ _ 24 (by omega) (by omega) (by omega) (by rfl), acc_step1, e]
  · have e1 : wrap64 ((val s[1] : Int) * 2 ^ (6 * (3 - 1))) = ((4096 * val s[1] : Nat) : Int) := by unfold wrap64; simp; omega
    rw [e1, or_join _ _ 18 (by omega) (by omega) (by omega) (acc_mod1 _), acc_step2, e]
  · have e1 : wrap64 ((val s[2] : Int) * 2 ^ (6 * (3 - 2))) = ((64 * val s[2] : Nat) : Int) := by unfold wrap64; simp; omega
    rw [e1, or_join _ _ 12 (by omega) (by omega) (by omega) (acc_mod2 _), acc_step3, e]
  · have e1 : wrap64 ((val s[3] : Int) * 2 ^ (6 * (3 - 3))) = ((val s[3] : Nat) : Int) := by unfold wrap64; simp; omega
    rw [e1, or_join _ _ 6 (by omega) (by omega) (by omega) (acc_mod3 _), acc_step4, e]
/-- The bytes of a group, of which 'd' are written. -/
def pv (m d j : Nat) : Int := if j < d then ((m : Int) / 2 ^ (8 * (2 - j))) % 256 else 0
def ps (m d : Nat) : Array Value := #[.int .u8 (pv m d 0), .int .u8 (pv m d 1), .int .u8 (pv m d 2)]
theorem ps_step (m d : Nat) (h : d ≤ 2) : (ps m d).setIfInBounds d (.int .u8 (((m : Int) / 2 ^ (8 * (2 - d))) % 256)) = ps m (d + 1) := by
  rcases (by omega : d = 0 ∨ d = 1 ∨ d = 2) with rfl | rfl | rfl <;> rfl
theorem ps_three (m j : Nat) (hm : m < 16777216) (hj : j < 3) : (ps m 3)[j]? = some (.int .u8 (((three m)[j]'hj).toNat : Int)) := by
  have h0 := ofNat_nat (n := m / 65536 % 256) (by omega)
  have h1 := ofNat_nat (n := m / 256 % 256) (by omega)
  have h2 := ofNat_nat (n := m % 256) (by omega)
  rcases (by omega : j = 0 ∨ j = 1 ∨ j = 2) with rfl | rfl | rfl
  · show some (Value.int .u8 ((m : Int) / 2 ^ (8 * (2 - 0)) % 256)) = some (Value.int .u8 ((UInt8.ofNat (m / 65536 % 256)).toNat : Int))
    rw [h0]
    congr 2
  · show some (Value.int .u8 ((m : Int) / 2 ^ (8 * (2 - 1)) % 256)) = some (Value.int .u8 ((UInt8.ofNat (m / 256 % 256)).toNat : Int))
    rw [h1]
    congr 2
  · show some (Value.int .u8 ((m : Int) / 2 ^ (8 * (2 - 2)) % 256)) = some (Value.int .u8 ((UInt8.ofNat (m % 256)).toNat : Int))
    rw [h2]
    congr 2
    omega
theorem ps_at (m d : Nat) (h : d ≤ 2) : (ps m d)[d]? = some (.int .u8 0) := by
  rcases (by omega : d = 0 ∨ d = 1 ∨ d = 2) with rfl | rfl | rfl <;> rfl

end Go.Proofs.Ytkhfflbgnojcfaa
