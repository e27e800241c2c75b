/-
  The contracts of spec.l6In and spec.NameValid. No condition beyond a bound on the text's length.
-/
import Derived.Test.YtllhcogmcfgnoaaProg
import Derived.Test.YtllhcogmcfgnoaaBase
import Derived.Test.YtllhcogmcfgnoaaMath
import Derived.WalkKit
import Derived.Deep.QuietTactic
import Derived.Deep.LoopGhost
import Derived.BigQuiet
import Derived.Lib.Hide
import Derived.Outline
namespace Go.Proofs.Ytllhcogmcfgnoaa
open Go.RowKit
set_option linter.unusedVariables false

/-- 'n' lies between 'a' and 'b'. -/
def inB (n a b : Int) : Bool := decide (a ≤ n ∧ n ≤ b)
set_option maxHeartbeats 400000 in
theorem in_any (n a b : Int) (w : World) : Calls Try.prog 19 #[.int .i64 n, .int .i64 a, .int .i64 b] w fun e w' => e = .returned (.bool (inB n a b)) ∧ w = w' := by
  by_cases h1 : a ≤ n <;> by_cases h2 : n ≤ b
  all_goals
    go_enter Try.func19, Try.ntmps19
    go_wp2
    go_ret
    refine ⟨ret_bool ?_, rfl⟩
    unfold inB
    first
      | exact (decide_eq_true (by omega)).symm
      | exact (decide_eq_false (by omega)).symm

theorem all_take (L : List UInt8) (k : Nat) (hk : k < L.length) (h : (L.take k).all sgn = true) : (L.take (k + 1)).all sgn = sgn L[k] := by
  rw [List.take_succ_eq_append_getElem hk, List.all_append, h]
  simp
theorem all_stop (L : List UInt8) (k : Nat) (hk : k < L.length) (h : sgn L[k] = false) : L.all sgn = false := by
  rw [← Bool.not_eq_true]
  intro ha
  rw [List.all_eq_true] at ha
  have := ha L[k] (List.getElem_mem hk)
  rw [h] at this
  cases this

end Go.Proofs.Ytllhcogmcfgnoaa
