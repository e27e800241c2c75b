/-
  The contract of the model's encoder of base64. No condition beyond a bound on the text's length.
-/
import Derived.Test.YtkhfflbgnojcfaaBspec
namespace Go.Proofs.Ytkhfflbgnojcfaa
open Go.RowKit
set_option linter.unusedVariables false

theorem Try.infoByte : (Try.prog.info? 5).map (fun i => (i.zero, i.size, i.bytes)) = some (some (.int .u8 0), 1, 1) := by kernel_rfl
/-- The bytes 'l' as a text. -/
def bt (l : List UInt8) : ByteArray := ⟨l.toArray⟩
theorem byte_at {s : ByteArray} {k : Nat} (h : k < s.size) : s.data.toList[k]'(by simpa using h) = s[k] := rfl
theorem drop1 {s : ByteArray} (k : Nat) (h : k < s.size) : s.data.toList.drop k = s[k] :: s.data.toList.drop (k + 1) := by
  rw [List.drop_eq_getElem_cons (by simpa using h)]
  rfl
theorem drop3 {s : ByteArray} (k : Nat) (h : k + 3 ≤ s.size) : s.data.toList.drop k = s[k] :: s[k + 1] :: s[k + 2] :: s.data.toList.drop (k + 3) := by
  rw [drop1 k (by omega), drop1 (k + 1) (by omega), drop1 (k + 2) (by omega)]
theorem drop_one {s : ByteArray} (k : Nat) (h : k + 1 = s.size) : s.data.toList.drop k = [s[k]] := by
  rw [drop1 k (by omega), List.drop_eq_nil_of_le (by simp; omega)]
theorem drop_two {s : ByteArray} (k : Nat) (h : k + 2 = s.size) : s.data.toList.drop k = [s[k], s[k + 1]] := by
  rw [drop1 k (by omega), drop_one (k + 1) (by omega)]
end Go.Proofs.Ytkhfflbgnojcfaa
