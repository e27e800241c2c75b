/-
  What the texts of several chapters share: what is told (a number, a text, a truth), the names' contracts with a named answer, and facts that a write far away leaves. Condition: texts are not too long.
-/
import Derived.Test.YtkhfflbgnojcfaaOd
import Derived.Test.YtkhfflbgnojcfaaVals
import Derived.Test.YtkhfflbgnojcfaaSpecB
namespace Go.Proofs.Ytkhfflbgnojcfaa
open Go.RowKit
set_option linter.unusedVariables false

def rB (l : List UInt8) : ByteArray := ⟨l.toArray⟩
theorem rB_list (l : List UInt8) : (rB l).data.toList = l := by unfold rB; simp
theorem rB_size (l : List UInt8) : (rB l).size = l.length := by unfold rB; rw [ByteArray.size]; simp
theorem rB_ext {u v : ByteArray} (h : u.data.toList = v.data.toList) : u = v := by
  cases u
  cases v
  congr
  exact Array.toList_inj.1 h
theorem rB_cat (a b : List UInt8) : rB a ++ rB b = rB (a ++ b) := by
  refine rB_ext ?_
  rw [ByteArray.data_append, Array.toList_append, rB_list, rB_list, rB_list]
theorem rB_of (s : ByteArray) : rB s.data.toList = s := rB_ext (rB_list _)
/-- Numbers, truths and texts that are told. -/
def SayI (w : World) (z : Int) (e : Ending) (w' : World) : Prop := e = .returned (.int .i64 z) ∧ Below w.heap.size w w'
def SayT (w : World) (l : List UInt8) (e : Ending) (w' : World) : Prop := e = .returned (.string (rB l)) ∧ Below w.heap.size w w'
def SayB (w : World) (z : Bool) (e : Ending) (w' : World) : Prop := e = .returned (.bool z) ∧ Below w.heap.size w w'
theorem ret_bl {a b : Bool} (h : a = b) : Ending.returned (.bool a) = .returned (.bool b) := by rw [h]
theorem ret_st {a b : ByteArray} (h : a = b) : Ending.returned (.string a) = .returned (.string b) := by rw [h]
set_option maxHeartbeats 400000 in
theorem spec_inr (n a b : Int) (w : World) : Calls Try.prog 50 #[.int .i64 n, .int .i64 a, .int .i64 b] w fun e w' => e = .returned (.bool (decide (a ≤ n) && decide (n ≤ b))) ∧ w' = w := by
  by_cases h1 : a ≤ n <;> by_cases h2 : n ≤ b
  all_goals
    have h1' := h1
    go_enter Try.func50, Try.ntmps50
    go_wp2
    go_ret
    refine ⟨ret_bl ?_, rfl⟩
    first
      | exact (Bool.and_eq_true_iff.2 ⟨decide_eq_true (by omega), decide_eq_true (by omega)⟩).symm
      | exact (decide_eq_false (by omega)).symm
      | exact (decide_eq_true (by omega)).symm
      | (rw [decide_eq_false (p := a ≤ n) (by omega)]; done)
      | (rw [decide_eq_false (p := a ≤ n) (by omega)]; rfl)
      | (rw [decide_eq_false (p := n ≤ b) (by omega)]; simp)
theorem says_b {w w' : World} {o p : Bool} (h : o = p) (hb : Below w.heap.size w w') : SayB w o (.returned (.bool p)) w' := ⟨by rw [h], hb⟩
theorem ret_i {a b : Int} (h : a = b) : Ending.returned (.int .i64 a) = .returned (.int .i64 b) := by rw [h]
theorem sname_at {u : ByteArray} {z : Bool} (h : nameB (kb u) = z) (hu : u.size ≤ 16777216) (w : World) : Calls Try.prog 49 #[.string u] w fun e w' => e = .returned (.bool z) ∧ w' = w := by
  subst h
  exact (spec_name u w hu).mono fun e w' h => ⟨h.1, h.2.symm⟩
theorem sin_at {r a b : Int} {z : Bool} (h : (decide (a ≤ r) && decide (r ≤ b)) = z) (w : World) : Calls Try.prog 50 #[.int .i64 r, .int .i64 a, .int .i64 b] w fun e w' => e = .returned (.bool z) ∧ w' = w := by
  subst h
  exact spec_inr r a b w
theorem iname_at {u : ByteArray} {z : Bool} (h : nameB (kb u) = z) (hu : u.size ≤ 16777216) (w : World) : Calls Try.prog 58 #[.string u] w (SayB w z) := by
  subst h
  exact impl_name u w hu
theorem gr_far {w a c : World} {b : Nat} {row : Option Nat} (h : w.grownBy a (some b)) (hg : a.grownBy c row) (hrow : ∀ g, row = some g → w.heap.size ≤ g) : w.grownBy c (some b) :=
  ⟨hg.os.trans h.os, hg.tape.trans h.tape, hg.output.trans h.output, Nat.le_trans h.size hg.size, fun i hi hne => (hg.block i (Nat.lt_of_lt_of_le hi h.size) (fun e => by have := hrow i e.symm; omega)).trans (h.block i hi hne)⟩
theorem rat_far {α : Type} {R : RowT α} {w0 w w' : World} {A : Option Addr} {L : List α} {row : Option Nat} (h0 : RAt R w0 A L) (h : RAt R w A L) (hg : w.grownBy w' row) (hrow : ∀ g, row = some g → w0.heap.size ≤ g) : RAt R w' A L := fun i x hx => by
  obtain ⟨b, o, hA, hb, h1⟩ := h i x hx
  obtain ⟨b', o', hA', hb', _⟩ := h0 i x hx
  rw [hA] at hA'
  cases hA'
  exact ⟨b, o, hA, Nat.lt_of_lt_of_le hb hg.size, fun j u hu => (World.cell?_of_block (hg.block b hb (fun e => by have := hrow b e.symm; omega))).trans (h1 j u hu)⟩
theorem below_far {w0 w w' : World} {row : Option Nat} (h : Below w0.heap.size w0 w) (hg : w.grownBy w' row) (hrow : ∀ g, row = some g → w0.heap.size ≤ g) : Below w0.heap.size w0 w' := h.grown hg h.size hrow
end Go.Proofs.Ytkhfflbgnojcfaa
