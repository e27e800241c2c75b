/-
  The contracts of the code's isFlags, flagsChange, FlagsChange and FlagsHave. No condition.
-/
import Derived.Test.YtllhcogmcfgnoaaFmath
import Derived.Test.YtllhcogmcfgnoaaDraws
namespace Go.Proofs.Ytllhcogmcfgnoaa
open Go.RowKit
set_option linter.unusedVariables false

set_option maxHeartbeats 400000 in
theorem impl_isflags (n : Int) (w : World) : Calls Try.prog 28 #[.int .i64 n] w fun e w' => e = .returned (.bool (isF n)) ∧ w' = w := by
  by_cases h1 : (0 : Int) ≤ n <;> by_cases h2 : n ≤ 31
  all_goals
    go_enter Try.func28, Try.ntmps28
    go_wp2
    go_ret
    refine ⟨ret_bool ?_, rfl⟩
    unfold isF
    first
      | exact (Bool.and_eq_true_iff.2 ⟨decide_eq_true (by omega), decide_eq_true (by omega)⟩).symm
      | (rw [decide_eq_false (p := (0 : Int) ≤ n) (by omega)]; rfl)
      | (rw [decide_eq_false (p := n ≤ 31) (by omega)]; simp)

/-- What flagsChange gives: the change 'k', which keeps the others in a variable of its own. -/
def GivesC (w : World) (k : Nat) (o : Int) (e : Ending) (w' : World) : Prop :=
  e = .returned (.tuple #[.func (.func k) #[] #[.pointer (some ⟨w.heap.size, 0, none⟩)], .bool true]) ∧ w'.cell? ⟨w.heap.size, 0, none⟩ = some (.int .i64 o) ∧ Below w.heap.size w w'
def GivesCNo (w : World) (e : Ending) (w' : World) : Prop := e = .returned (.tuple #[.nilFunc, .bool false]) ∧ Below w.heap.size w w'

set_option maxHeartbeats 1000000 in
theorem change_no (h o : Int) (w : World) (hn : (isF o && howB h) = false) : Calls Try.prog 14 #[.int .i64 h, .int .i64 o] w (GivesCNo w) := by
  have hmf : ∀ (fn : Fn) (first cap : Array Value) (w : World), (Instr.makeFunc fn first cap).run Try.prog w = .ok (.func fn first cap) w := fun _ _ _ _ => rfl
  have hc : (w.alloc (.cells #[.int .i64 o] 3)).cell? ⟨w.heap.size, 0, none⟩ = some (.int .i64 o) := (Whole.made w 3 #[.int .i64 o]).cell 0
  have HB := Lib.hid ((Below.refl w.heap.size w).alloc (Nat.le_refl _) (.cells #[.int .i64 o] 3))
  cases ho : isF o with
  | false =>
    have HO := Lib.hid ho
    clear ho hn
    go_enter Try.func14, Try.ntmps14
    go_wp2_with fail
    refine (impl_isflags o _).mono ?_
    rintro e w1 ⟨rfl, rfl⟩
    rw [HO.out]
    go_wp2
    go_ret2
    exact ⟨rfl, HB.out⟩
  | true =>
    rw [ho] at hn
    have h1 : h ≠ 1 := by rintro rfl; exact absurd hn (by decide)
    have h2 : h ≠ -1 := by rintro rfl; exact absurd hn (by decide)
    have h3 : h ≠ 0 := by rintro rfl; exact absurd hn (by decide)
    have e1 : (h == 1) = false := beq_eq_false_iff_ne.2 h1
    have e2 : (h == -1) = false := beq_eq_false_iff_ne.2 h2
    have e3 : (h == 0) = false := beq_eq_false_iff_ne.2 h3
    have HO := Lib.hid ho
    clear ho hn h1 h2 h3
    go_enter Try.func14, Try.ntmps14
    go_wp2_with fail
    refine (impl_isflags o _).mono ?_
    rintro e w1 ⟨rfl, rfl⟩
    rw [HO.out]
    go_wp2
    go_ret2
    exact ⟨rfl, HB.out⟩
set_option maxHeartbeats 1000000 in
theorem change_set (o : Int) (w : World) (hn : isF o = true) : Calls Try.prog 14 #[.int .i64 1, .int .i64 o] w (GivesC w 29 o) := by
  have hmf : ∀ (fn : Fn) (first cap : Array Value) (w : World), (Instr.makeFunc fn first cap).run Try.prog w = .ok (.func fn first cap) w := fun _ _ _ _ => rfl
  have hc : (w.alloc (.cells #[.int .i64 o] 3)).cell? ⟨w.heap.size, 0, none⟩ = some (.int .i64 o) := (Whole.made w 3 #[.int .i64 o]).cell 0
  have HB := Lib.hid ((Below.refl w.heap.size w).alloc (Nat.le_refl _) (.cells #[.int .i64 o] 3))
  have HO := Lib.hid hn
  have HC := Lib.hid hc
  clear hn
  go_enter Try.func14, Try.ntmps14
  go_wp2_with fail
  refine (impl_isflags o _).mono ?_
  rintro e w1 ⟨rfl, rfl⟩
  rw [HO.out]
  go_wp2
  go_ret2
  exact ⟨rfl, HC.out, HB.out⟩
set_option maxHeartbeats 1000000 in
theorem change_remove (o : Int) (w : World) (hn : isF o = true) : Calls Try.prog 14 #[.int .i64 (-1), .int .i64 o] w (GivesC w 30 o) := by
  have hmf : ∀ (fn : Fn) (first cap : Array Value) (w : World), (Instr.makeFunc fn first cap).run Try.prog w = .ok (.func fn first cap) w := fun _ _ _ _ => rfl
  have hc : (w.alloc (.cells #[.int .i64 o] 3)).cell? ⟨w.heap.size, 0, none⟩ = some (.int .i64 o) := (Whole.made w 3 #[.int .i64 o]).cell 0
  have HB := Lib.hid ((Below.refl w.heap.size w).alloc (Nat.le_refl _) (.cells #[.int .i64 o] 3))
  have HO := Lib.hid hn
  have HC := Lib.hid hc
  clear hn
  go_enter Try.func14, Try.ntmps14
  go_wp2_with fail
  refine (impl_isflags o _).mono ?_
  rintro e w1 ⟨rfl, rfl⟩
  rw [HO.out]
  go_wp2
  go_ret2
  exact ⟨rfl, HC.out, HB.out⟩
set_option maxHeartbeats 1000000 in
theorem change_put (o : Int) (w : World) (hn : isF o = true) : Calls Try.prog 14 #[.int .i64 0, .int .i64 o] w (GivesC w 31 o) := by
  have hmf : ∀ (fn : Fn) (first cap : Array Value) (w : World), (Instr.makeFunc fn first cap).run Try.prog w = .ok (.func fn first cap) w := fun _ _ _ _ => rfl
  have hc : (w.alloc (.cells #[.int .i64 o] 3)).cell? ⟨w.heap.size, 0, none⟩ = some (.int .i64 o) := (Whole.made w 3 #[.int .i64 o]).cell 0
  have HB := Lib.hid ((Below.refl w.heap.size w).alloc (Nat.le_refl _) (.cells #[.int .i64 o] 3))
  have HO := Lib.hid hn
  have HC := Lib.hid hc
  clear hn
  go_enter Try.func14, Try.ntmps14
  go_wp2_with fail
  refine (impl_isflags o _).mono ?_
  rintro e w1 ⟨rfl, rfl⟩
  rw [HO.out]
  go_wp2
  go_ret2
  exact ⟨rfl, HC.out, HB.out⟩

set_option maxHeartbeats 400000 in
theorem clo_set (f o b : Nat) (w : World) (hf : f < 32) (ho : o < 32) (hc : w.cell? ⟨b, 0, none⟩ = some (.int .i64 (o : Int))) :
    Calls Try.prog 29 #[.int .i64 (f : Int), .pointer (some ⟨b, 0, none⟩)] w fun e w' => e = .returned (.int .i64 (chN f 1 o : Int)) ∧ ∃ k, w' = w.drewN k := by
  have HA := Lib.hid (or_flags hf ho)
  go_enter Try.func29, Try.ntmps29
  go_wp2
  go_ret
  exact ⟨ret_int HA.out, 0, rfl⟩
set_option maxHeartbeats 400000 in
theorem clo_remove (f o b : Nat) (w : World) (hf : f < 32) (ho : o < 32) (hc : w.cell? ⟨b, 0, none⟩ = some (.int .i64 (o : Int))) :
    Calls Try.prog 30 #[.int .i64 (f : Int), .pointer (some ⟨b, 0, none⟩)] w fun e w' => e = .returned (.int .i64 (chN f (-1) o : Int)) ∧ ∃ k, w' = w.drewN k := by
  have HA := Lib.hid (andnot_flags hf ho)
  go_enter Try.func30, Try.ntmps30
  go_wp2
  go_ret
  exact ⟨ret_int HA.out, 0, rfl⟩
set_option maxHeartbeats 400000 in
theorem clo_put (f o b : Nat) (w : World) (hf : f < 32) (ho : o < 32) (hc : w.cell? ⟨b, 0, none⟩ = some (.int .i64 (o : Int))) :
    Calls Try.prog 31 #[.int .i64 (f : Int), .pointer (some ⟨b, 0, none⟩)] w fun e w' => e = .returned (.int .i64 (chN f 0 o : Int)) ∧ ∃ k, w' = w.drewN k := by
  have HA := Lib.hid (put_flags hf ho)
  go_enter Try.func31, Try.ntmps31
  go_wp2
  go_ret
  exact ⟨ret_int (by rw [HA.out]), 0, rfl⟩

/-- A number that is told. -/
def SaysI (w : World) (z : Int) (e : Ending) (w' : World) : Prop := e = .returned (.int .i64 z) ∧ Below w.heap.size w w'
end Go.Proofs.Ytllhcogmcfgnoaa
