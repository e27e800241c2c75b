/-
  The contracts of the code's ends, markSet and SetNumbers. Condition: the spans can be read.
-/
import Derived.Test.YtodafbfhcgphpaaDoorSnum
import Derived.Deep.WholeRow
import Derived.Deep.MidRow
namespace Go.Proofs.YtodafbfhcgphpaaDoor
open Go.RowKit
set_option linter.unusedVariables false

theorem low_of {last x1 x2 a b : Int} (h1 : (if x1 = 0 then last else x1) = a) (h2 : (if x2 = 0 then last else x2) = b) : lowE last (x1, x2) = min a b ∧ highE last (x1, x2) = max a b := by
  unfold lowE highE
  simp only [h1, h2]
  exact ⟨trivial, trivial⟩
theorem ret_ends {a b c d : Int} (h1 : a = c) (h2 : b = d) : Ending.returned (.tuple #[.int .i64 a, .int .i64 b]) = .returned (.tuple #[.int .i64 c, .int .i64 d]) := by rw [h1, h2]
/-- An array of marks. -/
def mkA (f : Nat → Bool) : Array Value := (Array.range 100).map fun i => Value.bool (f i)
theorem mkA_size (f : Nat → Bool) : (mkA f).size = 100 := by unfold mkA; simp
theorem mkA_get (f : Nat → Bool) {i : Nat} (h : i < 100) : (mkA f)[i]? = some (.bool (f i)) := by
  unfold mkA
  rw [Array.getElem?_map, Array.getElem?_range]
  simp [h]
theorem mkA_set (f : Nat → Bool) {j : Nat} (h : j < 100) : (mkA f).setIfInBounds j (.bool true) = mkA (fun i => f i || i == j) := by
  apply Array.ext_getElem?
  intro i
  rw [Array.getElem?_setIfInBounds]
  by_cases hj : j = i
  · subst hj
    rw [if_pos rfl, if_pos (by rw [mkA_size]; exact h), mkA_get _ h]
    simp
  · rw [if_neg hj]
    by_cases hi : i < 100
    · rw [mkA_get _ hi, mkA_get _ hi]
      have : (i == j) = false := by simpa using fun e => hj e.symm
      rw [this, Bool.or_false]
    · rw [Array.getElem?_eq_none (by rw [mkA_size]; omega), Array.getElem?_eq_none (by rw [mkA_size]; omega)]
theorem mkA_one (f : Nat → Bool) : (mkA f).all (·.oneCell') = true := by
  rw [Array.all_eq_true]
  intro i hi
  rw [mkA_size] at hi
  have := mkA_get f hi
  rw [Array.getElem?_eq_getElem (by rw [mkA_size]; exact hi)] at this
  rw [Option.some.inj this]
  rfl
theorem load_whole {w : World} {b : Nat} {t : TypeId} {cs : Array Value} (h : Whole w b t cs) (n : Nat) (hn : cs.size = n) : (loadCellsFrom ⟨b, 0, none⟩ 0 n #[]).run Tryd.prog w = .ok cs w := by
  subst hn
  have := run_loadCells_list (P := Tryd.prog) w ⟨b, 0, none⟩ cs.toList (fun j v hv => by
    rw [add_none, Nat.zero_add, h.cell j]
    simpa using hv)
  simpa [loadCells] using this
theorem below_setRow {B : Nat} {a w : World} (h : Below B a w) {b : Nat} (hb : B ≤ b) (c : Array Value) : Below B a (w.setRow b c) :=
  ⟨h.os, h.tape, h.output, by simpa [World.setRow] using h.size, fun k hk => (setRow_other w b k c (by omega)).trans (h.block k hk)⟩
theorem whole_setRow {w : World} {b : Nat} {t : TypeId} {cs : Array Value} (h : Whole w b t cs) (c : Array Value) : Whole (w.setRow b c) b t c := setRow_heap w b cs c t _ h
theorem low_high {last : Int} {x : Int × Int} (hx : spanB x = true) (h1 : 1 ≤ last) (h2 : last ≤ 99) : ∃ a b : Nat, lowE last x = (a : Int) ∧ highE last x = (b : Int) ∧ 1 ≤ a ∧ a ≤ b ∧ b ≤ 99 := by
  obtain ⟨⟨a1, a2⟩, b1, b2⟩ := spanB_iff.1 hx
  have hl : 1 ≤ lowE last x ∧ lowE last x ≤ highE last x ∧ highE last x ≤ 99 := by
    unfold lowE highE
    split <;> split <;> omega
  exact ⟨(lowE last x).toNat, (highE last x).toNat, by omega, by omega, by omega, by omega, by omega⟩
theorem has_nat {last : Int} {x : Int × Int} {a b : Nat} (ha : lowE last x = (a : Int)) (hb : highE last x = (b : Int)) (n : Nat) : hasE last (n : Int) x = (decide (a ≤ n) && decide (n ≤ b)) := by
  unfold hasE inB
  rw [ha, hb, Bool.eq_iff_iff]
  simp
theorem impl_setvalid_at {A : Option Addr} {cap : Nat} {L : List (Int × Int)} {o : Bool} (ho : setB L = o) (w : World) (h : SpA w A L) (hl : L.length ≤ 33554432) :
    Calls Tryd.prog 49 #[.slice A L.length cap] w fun e w' => e = .returned (.bool o) ∧ Below w.heap.size w w' := ho ▸ impl_setvalid A cap L w h hl
theorem lists_mk {w w' : World} {l m : List Nat} {v : Value} (h : l = m) (hv : OwnI w' w.heap.size v m) (hb : Below w.heap.size w w') : Lists w l (.returned v) w' := by
  subst h
  exact ⟨v, rfl, hv, hb⟩
end Go.Proofs.YtodafbfhcgphpaaDoor
