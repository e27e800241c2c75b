/-
  The contracts of spec.l6In and spec.NameValid. No condition beyond a bound on the text's length.
-/
import Derived.Test.YtkhfflbgnojcfaaProg
import Derived.Test.YtkhfflbgnojcfaaBase
import Derived.Test.YtkhfflbgnojcfaaMath
import Derived.WalkKit
import Derived.Deep.QuietTactic
import Derived.Deep.LoopGhost
import Derived.BigQuiet
import Derived.Lib.Hide
import Derived.Outline
namespace Go.Proofs.Ytkhfflbgnojcfaa
open Go.RowKit
set_option linter.unusedVariables false

/-- 'n' lies between 'a' and 'b'. -/
def inB (n a b : Int) : Bool := decide (a ≤ n ∧ n ≤ b)
set_option maxHeartbeats 400000 in
theorem in_any (n a b : Int) (w : World) : Calls Try.prog 50 #[.int .i64 n, .int .i64 a, .int .i64 b] w fun e w' => e = .returned (.bool (inB n a b)) ∧ w = w' := by
  by_cases h1 : a ≤ n <;> by_cases h2 : n ≤ b
  all_goals
    go_enter Try.func50, Try.ntmps50
    go_wp2
    go_ret
    refine ⟨ret_bool ?_, rfl⟩
    unfold inB
    first
      | exact (decide_eq_true (by omega)).symm
      | exact (decide_eq_false (by omega)).symm

theorem all_take (L : List UInt8) (k : Nat) (hk : k < L.length) (h : (L.take k).all sgn = true) : (L.take (k + 1)).all sgn = sgn L[k] := by
  rw [List.take_succ_eq_append_getElem hk, List.all_append, h]
  simp
theorem all_stop (L : List UInt8) (k : Nat) (hk : k < L.length) (h : sgn L[k] = false) : L.all sgn = false := by
  rw [← Bool.not_eq_true]
  intro ha
  rw [List.all_eq_true] at ha
  have := ha L[k] (List.getElem_mem hk)
  rw [h] at this
  cases this

set_option maxHeartbeats 1000000 in
theorem spec_name (s : ByteArray) (w : World) (hs : s.size ≤ 16777216) :
    Calls Try.prog 49 #[.string s] w fun e w' => e = .returned (.bool (nameB s.data.toList)) ∧ w = w' := by
  have hl : s.data.toList.length = s.size := by simp
  have HL := Lib.hid hl
  clear hl
  go_enter Try.func49, Try.ntmps49
  go_wp2
  go_loop [3] (fun i => ∃ k : Nat, k ≤ s.size ∧ i = .int .i64 (k : Int) ∧ Hid ((s.data.toList.take k).all sgn = true)) (fun i => s.size - (intOf i).toNat)
  case atStart => exact ⟨0, Nat.zero_le _, by go_num, rfl⟩
  case round =>
    obtain ⟨k, hk, rfl, HA⟩ := hrel
    by_cases hlt : k < s.size
    · have h0 : (0 : Int) ≤ (k : Int) := by omega
      have h5 : (k : Int) < (s.size : Int) := by omega
      by_cases h1 : (97 : Int) ≤ (s[k].toNat : Int) <;> by_cases h2 : (s[k].toNat : Int) ≤ 122 <;> by_cases h3 : (48 : Int) ≤ (s[k].toNat : Int) <;> by_cases h4 : (s[k].toNat : Int) ≤ 57
      all_goals first
        | (exfalso; omega)
        | (go_wp2
           first
             | (go_round
                case rel =>
                  refine ⟨k + 1, by omega, by go_num, ?_⟩
                  show _ = true
                  rw [all_take _ _ (by rw [HL.out]; exact hlt) HA.out]
                  exact decide_eq_true (by show (97 ≤ s[k].toNat ∧ s[k].toNat ≤ 122) ∨ (48 ≤ s[k].toNat ∧ s[k].toNat ≤ 57); omega)
                case measure => simp [intOf]; omega)
             | (go_ret
                refine ⟨ret_bool ?_, rfl⟩
                have e1 : sgn s.data.toList[k] = false := decide_eq_false (by show ¬ ((97 ≤ s[k].toNat ∧ s[k].toNat ≤ 122) ∨ (48 ≤ s[k].toNat ∧ s[k].toNat ≤ 57)); omega)
                unfold nameB
                rw [all_stop _ k (by rw [HL.out]; exact hlt) e1]
                rfl))
    · have hkk : k = s.size := by omega
      have HK := Lib.hid hkk
      clear hkk
      go_wp2_with fail
      refine (in_any _ _ _ _).mono ?_
      rintro e w1 ⟨rfl, rfl⟩
      go_wp2
      go_ret
      refine ⟨ret_bool ?_, rfl⟩
      have ha : s.data.toList.all sgn = true := by
        have := HA.out
        rw [HK.out, ← HL.out, List.take_length] at this
        exact this
      show inB _ _ _ = _
      unfold nameB inB
      rw [ha, HL.out]
      by_cases h1 : 1 ≤ s.size <;> by_cases h2 : s.size ≤ 8
      · rw [decide_eq_true (by omega), decide_eq_true h1, decide_eq_true h2]; rfl
      · rw [decide_eq_false (by omega), decide_eq_false h2]; simp
      · rw [decide_eq_false (by omega), decide_eq_false h1]; simp
      · rw [decide_eq_false (by omega), decide_eq_false h1]; simp
end Go.Proofs.Ytkhfflbgnojcfaa
