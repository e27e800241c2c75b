/-
  The contracts of the functions that draw flags, a change, and two flags. Condition: the code can be read.
-/
import Derived.Test.YtllhcogmcfgnoaaFtxt
import Derived.Test.YtllhcogmcfgnoaaLawa
namespace Go.Proofs.Ytllhcogmcfgnoaa
open Go.RowKit
set_option linter.unusedVariables false

/-- Drawn flags. -/
def DrewF (w : World) (b p : Nat) (e : Ending) (w' : World) : Prop := ∃ (z : Int) (q : Nat), -1 ≤ z ∧ z ≤ 32 ∧ q ≤ p + 2 ∧ e = .returned (.int .i64 z) ∧ Rd w' b q ∧ w.grownBy w' (some b)
theorem three_at {y : Nat} (h : y < 3) : ∃ z : Int, -1 ≤ z ∧ z ≤ 32 ∧ (#[Value.int .i64 (-1), .int .i64 31, .int .i64 32] : Array Value)[y]? = some (.int .i64 z) := by
  match y, h with
  | 0, _ => exact ⟨-1, by omega, by omega, rfl⟩
  | 1, _ => exact ⟨31, by omega, by omega, rfl⟩
  | 2, _ => exact ⟨32, by omega, by omega, rfl⟩
set_option maxHeartbeats 2000000 in
theorem flags_draw (b p : Nat) (w : World) (h : Rd w b p) (hp : p ≤ 900000) :
    Calls Try.prog 12 #[.pointer (some ⟨b, 0, none⟩)] w (DrewF w b p) := by
  have H := Lib.hid h
  clear h
  go_enter Try.func12, Try.ntmps12
  go_wp2_with fail
  refine (pick_any b p 20 w H.out (by omega) (by omega) (by omega)).mono ?_
  rintro e w1 ⟨x, hx, rfl, hr, hg⟩
  have HR := Lib.hid hr
  have HG := Lib.hid hg
  clear hr hg
  by_cases h0 : x = 0
  · subst h0
    go_wp2_with fail
    refine (pick_any b (p + 1) 3 _ (HR.out.below ((Below.refl w1.heap.size w1).alloc (Nat.le_refl _) _) HR.out.lt) (by omega) (by omega) (by omega)).mono ?_
    rintro e w2 ⟨y, hy, rfl, hr, hg⟩
    obtain ⟨z, z1, z2, hz⟩ := three_at hy
    have hbl := HR.out.lt
    have hc : w2.cell? ⟨w1.heap.size, y, none⟩ = some (.int .i64 z) := (((Whole.made w1 3 #[.int .i64 (-1), .int .i64 31, .int .i64 32]).grown hg (by simp; omega)).cell y).trans hz
    have y0 : (0 : Int) ≤ (y : Int) := by omega
    have y5 : (y : Int) < 3 := by omega
    have H2 := Lib.hid (And.intro hr (gr_trans (gr_alloc HG.out _) hg))
    clear hr hg hz
    go_wp2_with fail
    go_ret
    exact ⟨z, _, z1, z2, by omega, rfl, H2.out.1, H2.out.2⟩
  · have h0' : ((x : Int) == 0) = false := beq_eq_false_iff_ne.2 (by omega)
    clear h0
    go_wp2_with fail
    refine (pick_any b (p + 1) 32 _ HR.out (by omega) (by omega) (by omega)).mono ?_
    rintro e w2 ⟨y, hy, rfl, hr, hg⟩
    have H2 := Lib.hid (And.intro hr (gr_trans HG.out hg))
    clear hr hg
    go_wp2_with fail
    go_ret
    exact ⟨y, _, by omega, by omega, by omega, rfl, H2.out.1, H2.out.2⟩

/-- A drawn number. -/
def DrewI (w : World) (e : Ending) (w' : World) : Prop := ∃ f : Int, e = .returned (.int .i64 f) ∧ Below w.heap.size w w'
/-- A drawn change. -/
def DrewC (w : World) (e : Ending) (w' : World) : Prop := ∃ f h o : Int, e = .returned (.tuple #[.int .i64 f, .int .i64 h, .int .i64 o]) ∧ Below w.heap.size w w'
/-- Two drawn flags. -/
def DrewH (w : World) (e : Ending) (w' : World) : Prop := ∃ f o : Int, e = .returned (.tuple #[.int .i64 f, .int .i64 o]) ∧ Below w.heap.size w w'
end Go.Proofs.Ytllhcogmcfgnoaa
