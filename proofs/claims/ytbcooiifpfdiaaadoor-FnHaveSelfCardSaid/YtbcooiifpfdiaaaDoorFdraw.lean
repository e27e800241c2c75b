/-
  The contracts of the functions that draw flags, a change, and two flags. Condition: the code can be read.
-/
import Derived.Test.YtbcooiifpfdiaaaDoorFtxt
import Derived.Test.YtbcooiifpfdiaaaDoorLawa
namespace Go.Proofs.YtbcooiifpfdiaaaDoor
open Go.RowKit
set_option linter.unusedVariables false

/-- Drawn flags. -/
def DrewF (w : World) (b p : Nat) (e : Ending) (w' : World) : Prop := ∃ (z : Int) (q : Nat), -1 ≤ z ∧ z ≤ 32 ∧ q ≤ p + 2 ∧ e = .returned (.int .i64 z) ∧ Rd w' b q ∧ w.grownBy w' (some b)
theorem three_at {y : Nat} (h : y < 3) : ∃ z : Int, -1 ≤ z ∧ z ≤ 32 ∧ (#[Value.int .i64 (-1), .int .i64 31, .int .i64 32] : Array Value)[y]? = some (.int .i64 z) := by
  match y, h with
  | 0, _ => exact ⟨-1, by omega, by omega, rfl⟩
  | 1, _ => exact ⟨31, by omega, by omega, rfl⟩
  | 2, _ => exact ⟨32, by omega, by omega, rfl⟩
set_option maxHeartbeats 2000000 in
theorem flags_draw (b p : Nat) (w : World) (h : Rd w b p) (hp : p ≤ 900000) :
    Calls Tryd.prog 24 #[.pointer (some ⟨b, 0, none⟩)] w (DrewF w b p) := by
  have H := Lib.hid h
  clear h
  go_enter Tryd.func24, Tryd.ntmps24
  go_wp2_with fail
  refine (pick_any b p 20 w H.out (by omega) (by omega) (by omega)).mono ?_
  rintro e w1 ⟨x, hx, rfl, hr, hg⟩
  have HR := Lib.hid hr
  have HG := Lib.hid hg
  clear hr hg
  by_cases h0 : x = 0
  · subst h0
    go_wp2_with fail
    refine (pick_any b (p + 1) 3 _ (HR.out.below ((Below.refl w1.heap.size w1).alloc (Nat.le_refl _) _) HR.out.lt) (by omega) (by omega) (by omega)).mono ?_
    rintro e w2 ⟨y, hy, rfl, hr, hg⟩
    obtain ⟨z, z1, z2, hz⟩ := three_at hy
    have hbl := HR.out.lt
    have hc : w2.cell? ⟨w1.heap.size, y, none⟩ = some (.int .i64 z) := (((Whole.made w1 3 #[.int .i64 (-1), .int .i64 31, .int .i64 32]).grown hg (by simp; omega)).cell y).trans hz
    have y0 : (0 : Int) ≤ (y : Int) := by omega
    have y5 : (y : Int) < 3 := by omega
    have H2 := Lib.hid (And.intro hr (gr_trans (gr_alloc HG.out _) hg))
    clear hr hg hz
    go_wp2_with fail
    go_ret
    exact ⟨z, _, z1, z2, by omega, rfl, H2.out.1, H2.out.2⟩
  · have h0' : ((x : Int) == 0) = false := beq_eq_false_iff_ne.2 (by omega)
    clear h0
    go_wp2_with fail
    refine (pick_any b (p + 1) 32 _ HR.out (by omega) (by omega) (by omega)).mono ?_
    rintro e w2 ⟨y, hy, rfl, hr, hg⟩
    have H2 := Lib.hid (And.intro hr (gr_trans HG.out hg))
    clear hr hg
    go_wp2_with fail
    go_ret
    exact ⟨y, _, by omega, by omega, by omega, rfl, H2.out.1, H2.out.2⟩

/-- A drawn number. -/
def DrewI (w : World) (e : Ending) (w' : World) : Prop := ∃ f : Int, e = .returned (.int .i64 f) ∧ Below w.heap.size w w'
set_option maxHeartbeats 1000000 in
theorem draw_ftext (A : Option Addr) (len cap : Nat) (w : World) (h : Coded w A len cap) :
    Calls Tryd.prog 12 #[.slice A len cap] w (DrewI w) := by
  have HK := Lib.hid h.2.2
  have hk1 := h.1
  have hk2 := h.2.1
  clear h
  go_enter Tryd.func12, Tryd.ntmps12
  go_wp2_with fail
  refine (open_any A len cap _ hk1 hk2 HK.out).mono ?_
  rintro e w1 ⟨rfl, hr, hb, hz⟩
  have HR := Lib.hid hr
  have HB := Lib.hid hb
  clear hr hb
  go_wp2_with fail
  refine (flags_draw w.heap.size 0 w1 HR.out (by omega)).mono ?_
  rintro e w2 ⟨f, q, hf1, hf2, hq, rfl, hr, hg⟩
  have HG2 := Lib.hid hg
  clear hr hg
  go_wp2
  go_ret
  exact ⟨f, rfl, below_gr HB.out HG2.out (by omega) (Nat.le_refl _)⟩
/-- A drawn change. -/
def DrewC (w : World) (e : Ending) (w' : World) : Prop := ∃ f h o : Int, e = .returned (.tuple #[.int .i64 f, .int .i64 h, .int .i64 o]) ∧ Below w.heap.size w w'
set_option maxHeartbeats 2000000 in
theorem draw_change (A : Option Addr) (len cap : Nat) (w : World) (h : Coded w A len cap) :
    Calls Tryd.prog 18 #[.slice A len cap] w (DrewC w) := by
  have HK := Lib.hid h.2.2
  have hk1 := h.1
  have hk2 := h.2.1
  clear h
  go_enter Tryd.func18, Tryd.ntmps18
  go_wp2_with fail
  refine (open_any A len cap _ hk1 hk2 HK.out).mono ?_
  rintro e w1 ⟨rfl, hr, hb, hz⟩
  have HR := Lib.hid hr
  have HB := Lib.hid hb
  clear hr hb
  go_wp2_with fail
  refine (flags_draw w.heap.size 0 w1 HR.out (by omega)).mono ?_
  rintro e w2 ⟨f, q, hf1, hf2, hq, rfl, hr, hg⟩
  have HR2 := Lib.hid hr
  have HG2 := Lib.hid hg
  clear hr hg
  go_wp2_with fail
  refine (pick_any w.heap.size q 3 w2 HR2.out (by omega) (by omega) (by omega)).mono ?_
  rintro e w3 ⟨x, hx, rfl, hr, hg⟩
  have HR3 := Lib.hid hr
  have HG3 := Lib.hid (gr_trans HG2.out hg)
  clear hr hg
  go_wp2_with fail
  refine (pick_any w.heap.size (q + 1) 20 w3 HR3.out (by omega) (by omega) (by omega)).mono ?_
  rintro e w4 ⟨y, hy, rfl, hr, hg⟩
  have HR4 := Lib.hid hr
  have HG4 := Lib.hid (gr_trans HG3.out hg)
  clear hr hg
  go_wp2_with fail
  refine (flags_draw w.heap.size (q + 1 + 1) w4 HR4.out (by omega)).mono ?_
  rintro e w5 ⟨o, q2, ho1, ho2, hq2, rfl, hr, hg⟩
  have HG5 := Lib.hid (gr_trans HG4.out hg)
  clear hr hg
  go_wp2
  go_ret3
  exact ⟨f, _, o, rfl, below_gr HB.out HG5.out (by omega) (Nat.le_refl _)⟩
/-- Two drawn flags. -/
def DrewH (w : World) (e : Ending) (w' : World) : Prop := ∃ f o : Int, e = .returned (.tuple #[.int .i64 f, .int .i64 o]) ∧ Below w.heap.size w w'
set_option maxHeartbeats 2000000 in
theorem draw_have (A : Option Addr) (len cap : Nat) (w : World) (h : Coded w A len cap) :
    Calls Tryd.prog 21 #[.slice A len cap] w (DrewH w) := by
  have HK := Lib.hid h.2.2
  have hk1 := h.1
  have hk2 := h.2.1
  clear h
  go_enter Tryd.func21, Tryd.ntmps21
  go_wp2_with fail
  refine (open_any A len cap _ hk1 hk2 HK.out).mono ?_
  rintro e w1 ⟨rfl, hr, hb, hz⟩
  have HR := Lib.hid hr
  have HB := Lib.hid hb
  clear hr hb
  go_wp2_with fail
  refine (flags_draw w.heap.size 0 w1 HR.out (by omega)).mono ?_
  rintro e w2 ⟨f, q, hf1, hf2, hq, rfl, hr, hg⟩
  have HR2 := Lib.hid hr
  have HG2 := Lib.hid hg
  clear hr hg
  go_wp2_with fail
  refine (pick_any w.heap.size q 2 w2 HR2.out (by omega) (by omega) (by omega)).mono ?_
  rintro e w3 ⟨x, hx, rfl, hr, hg⟩
  have HR3 := Lib.hid hr
  have HG3 := Lib.hid (gr_trans HG2.out hg)
  clear hr hg
  by_cases h0 : x = 0
  · subst h0
    go_wp2_with fail
    refine (pick_any w.heap.size (q + 1) 5 w3 HR3.out (by omega) (by omega) (by omega)).mono ?_
    rintro e w4 ⟨k, hk, rfl, hr, hg⟩
    have HB4 := Lib.hid (below_gr HB.out (gr_trans HG3.out hg) (by omega) (Nat.le_refl _))
    clear hr hg
    go_wp2_with fail
    refine (spec_bit k (2 ^ k) _ hk rfl).mono ?_
    rintro e w5 ⟨rfl, hb⟩
    have HB5 := Lib.hid (HB4.out.trans (hb.mono HB4.out.size))
    clear hb
    obtain ⟨z, hz⟩ : ∃ z : Int, ((2 ^ k : Nat) : Int) = z := ⟨_, rfl⟩
    rw [hz]
    clear hz
    go_wp2
    go_ret2
    exact ⟨f, z, rfl, HB5.out⟩
  · have h0' : ((x : Int) == 0) = false := beq_eq_false_iff_ne.2 (by omega)
    clear h0
    go_wp2_with fail
    refine (flags_draw w.heap.size (q + 1) w3 HR3.out (by omega)).mono ?_
    rintro e w4 ⟨o, q2, ho1, ho2, hq2, rfl, hr, hg⟩
    have HG4 := Lib.hid (gr_trans HG3.out hg)
    clear hr hg
    go_wp2
    go_ret2
    exact ⟨f, o, rfl, below_gr HB.out HG4.out (by omega) (Nat.le_refl _)⟩
end Go.Proofs.YtbcooiifpfdiaaaDoor
