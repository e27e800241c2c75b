/-
  The contracts of the model's signs, encoder and decoder of base64. No condition beyond a bound on the text's length.
-/
import Derived.Test.YtkhfflbgnojcfaaBplain
import Derived.Test.YtkhfflbgnojcfaaCut
import Derived.Laws.IdiomStrings
import Derived.Lib.UnsafeStr
import Derived.Lib.BufferRead
namespace Go.Proofs.Ytkhfflbgnojcfaa
open Go.RowKit
set_option linter.unusedVariables false

theorem letters : ∀ n : Fin 64, (⟨#[65, 66, 67, 68, 69, 70, 71, 72, 73, 74, 75, 76, 77, 78, 79, 80, 81, 82, 83, 84, 85, 86, 87, 88, 89, 90, 97, 98, 99, 100, 101, 102, 103, 104, 105, 106, 107, 108, 109, 110, 111, 112, 113, 114, 115, 116, 117, 118, 119, 120, 121, 122, 48, 49, 50, 51, 52, 53, 54, 55, 56, 57, 43, 47]⟩ : ByteArray).data.toList[n.1]? = some (sig n.1) := by decide
theorem at_of {B : ByteArray} {n : Nat} (h : n < B.size) {c : UInt8} (e : B.data.toList[n]? = some c) : B[n] = c := by
  have hl : n < B.data.toList.length := by simpa using h
  rw [List.getElem?_eq_getElem hl] at e
  exact Option.some.inj e
/-- The number of a sign, or -1. -/
def valI (c : UInt8) : Int := match num c with
  | some n => (n : Int)
  | none => -1
theorem valI_at {c : UInt8} {n : Nat} (hn : n < 64) (h : sig n = c) : valI c = (n : Int) := by unfold valI; rw [← h, num_sig hn]
theorem valI_no {c : UInt8} (h : ∀ n, n < 64 → sig n ≠ c) : valI c = -1 := by
  unfold valI
  cases hc : num c with
  | none => rfl
  | some n => exact absurd (num_some hc).2 (h n (num_some hc).1)
end Go.Proofs.Ytkhfflbgnojcfaa
