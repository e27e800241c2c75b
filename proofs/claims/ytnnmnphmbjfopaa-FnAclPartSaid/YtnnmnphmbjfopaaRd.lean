/-
  The contracts of the functions that draw rights and a text of rights. Condition: the code can be read.
-/
import Derived.Test.YtnnmnphmbjfopaaRi
import Derived.Test.YtnnmnphmbjfopaaLawa
namespace Go.Proofs.Ytnnmnphmbjfopaa
open Go.RowKit
set_option linter.unusedVariables false

/-- Drawn rights. -/
def DrewR (w : World) (b p : Nat) (e : Ending) (w' : World) : Prop := ∃ (z : Int) (q : Nat), -1 ≤ z ∧ z ≤ 64 ∧ q ≤ p + 3 ∧ e = .returned (.int .i64 z) ∧ Rd w' b q ∧ w.grownBy w' (some b)
theorem four_at {y : Nat} (h : y < 4) : ∃ z : Int, -1 ≤ z ∧ z ≤ 64 ∧ (#[Value.int .i64 (-1), .int .i64 0, .int .i64 63, .int .i64 64] : Array Value)[y]? = some (.int .i64 z) := by
  match y, h with
  | 0, _ => exact ⟨-1, by omega, by omega, rfl⟩
  | 1, _ => exact ⟨0, by omega, by omega, rfl⟩
  | 2, _ => exact ⟨63, by omega, by omega, rfl⟩
  | 3, _ => exact ⟨64, by omega, by omega, rfl⟩
set_option maxHeartbeats 2000000 in
theorem rights_draw (b p : Nat) (w : World) (h : Rd w b p) (hp : p ≤ 900000) :
    Calls Try.prog 46 #[.pointer (some ⟨b, 0, none⟩)] w (DrewR w b p) := by
  have H := Lib.hid h
  clear h
  go_enter Try.func46, Try.ntmps46
  go_wp2_with fail
  refine (pick_any b p 16 w H.out (by omega) (by omega) (by omega)).mono ?_
  rintro e w1 ⟨x, hx, rfl, hr, hg⟩
  have HR := Lib.hid hr
  have HG := Lib.hid hg
  clear hr hg
  by_cases h0 : x = 0
  · subst h0
    go_wp2_with fail
    refine (pick_any b (p + 1) 4 _ (HR.out.below ((Below.refl w1.heap.size w1).alloc (Nat.le_refl _) _) HR.out.lt) (by omega) (by omega) (by omega)).mono ?_
    rintro e w2 ⟨y, hy, rfl, hr, hg⟩
    obtain ⟨z, z1, z2, hz⟩ := four_at hy
    have hbl := HR.out.lt
    have hc : w2.cell? ⟨w1.heap.size, y, none⟩ = some (.int .i64 z) := (((Whole.made w1 3 #[.int .i64 (-1), .int .i64 0, .int .i64 63, .int .i64 64]).grown hg (by simp; omega)).cell y).trans hz
    have y0 : (0 : Int) ≤ (y : Int) := by omega
    have y5 : (y : Int) < 4 := by omega
    have H2 := Lib.hid (And.intro hr (gr_trans (gr_alloc HG.out _) hg))
    clear hr hg hz
    go_wp2_with fail
    go_ret
    exact ⟨z, _, z1, z2, by omega, rfl, H2.out.1, H2.out.2⟩
  · have h0' : ((x : Int) == 0) = false := beq_eq_false_iff_ne.2 (by omega)
    clear h0
    go_wp2_with fail
    refine (pick_any b (p + 1) 8 _ HR.out (by omega) (by omega) (by omega)).mono ?_
    rintro e w2 ⟨y, hy, rfl, hr, hg⟩
    have HR2 := Lib.hid hr
    have HG2 := Lib.hid (gr_trans HG.out hg)
    clear hr hg
    go_wp2_with fail
    refine (pick_any b (p + 1 + 1) 8 _ HR2.out (by omega) (by omega) (by omega)).mono ?_
    rintro e w3 ⟨z, hz, rfl, hr, hg⟩
    have H3 := Lib.hid (And.intro hr (gr_trans HG2.out hg))
    clear hr hg
    have W1 : IntKind.i64.wrap ((y : Int) * 8) = (y : Int) * 8 := IntWalk.i64_in _ (by omega)
    have W2 : IntKind.i64.wrap ((y : Int) * 8 + (z : Int)) = (y : Int) * 8 + (z : Int) := IntWalk.i64_in _ (by omega)
    go_wp2_with fail
    go_ret
    exact ⟨_, _, by omega, by omega, by omega, rfl, H3.out.1, H3.out.2⟩
/-- A drawn number. -/
def DrewIR (w : World) (e : Ending) (w' : World) : Prop := ∃ f : Int, e = .returned (.int .i64 f) ∧ Below w.heap.size w w'
set_option maxHeartbeats 1000000 in
theorem draw_rtext (A : Option Addr) (len cap : Nat) (w : World) (h : Coded w A len cap) :
    Calls Try.prog 21 #[.slice A len cap] w (DrewIR w) := by
  have HK := Lib.hid h.2.2
  have hk1 := h.1
  have hk2 := h.2.1
  clear h
  go_enter Try.func21, Try.ntmps21
  go_wp2_with fail
  refine (open_any A len cap _ hk1 hk2 HK.out).mono ?_
  rintro e w1 ⟨rfl, hr, hb, hz⟩
  have HR := Lib.hid hr
  have HB := Lib.hid hb
  clear hr hb
  go_wp2_with fail
  refine (rights_draw w.heap.size 0 w1 HR.out (by omega)).mono ?_
  rintro e w2 ⟨f, q, hf1, hf2, hq, rfl, hr, hg⟩
  have HG2 := Lib.hid hg
  clear hr hg
  go_wp2
  go_ret
  exact ⟨f, rfl, below_gr HB.out HG2.out (by omega) (Nat.le_refl _)⟩
/-- A drawn text of rights. -/
def DrewRT (w : World) (e : Ending) (w' : World) : Prop := ∃ s : ByteArray, s.size ≤ 10 ∧ e = .returned (.string s) ∧ Below w.heap.size w w'
theorem rtI_len (n : Int) : (rtI n).length ≤ 6 := by
  unfold rtI
  split
  · exact rtK_len _ 6
  · simp
def rtexts : List (List UInt8) := [[], [108, 108], [114, 108], [120], [108, 114, 119, 105, 101, 97], [97, 101, 105, 119, 114, 108], [76], [108, 32, 114]]
set_option maxHeartbeats 2000000 in
theorem draw_rparse (A : Option Addr) (len cap : Nat) (w : World) (h : Coded w A len cap) :
    Calls Try.prog 25 #[.slice A len cap] w (DrewRT w) := by
  have HK := Lib.hid h.2.2
  have hk1 := h.1
  have hk2 := h.2.1
  clear h
  go_enter Try.func25, Try.ntmps25
  go_wp2_with fail
  refine (open_any A len cap _ hk1 hk2 HK.out).mono ?_
  rintro e w1 ⟨rfl, hr, hb, hz⟩
  have HR := Lib.hid hr
  have HB := Lib.hid hb
  clear hr hb
  go_wp2_with fail
  refine (pick_any w.heap.size 0 4 w1 HR.out (by omega) (by omega) (by omega)).mono ?_
  rintro e w2 ⟨x, hx, rfl, hr, hg⟩
  have HR2 := Lib.hid hr
  have HG2 := Lib.hid hg
  clear hr hg
  by_cases h0 : x = 0
  · subst h0
    go_wp2_with fail
    refine (of_new w.heap.size 1 rtexts w2 HR2.out (by omega) (by decide) (by decide)).mono ?_
    rintro e w3 ⟨l, hl, rfl, hr, hg⟩
    have hs : (⟨l.toArray⟩ : ByteArray).size ≤ 10 := by
      have : ∀ l ∈ rtexts, l.length ≤ 10 := by decide
      have := this l hl
      rw [ByteArray.size]
      simpa using this
    have HB3 := Lib.hid hg
    clear hr hg
    go_wp2
    go_ret
    exact ⟨_, hs, rfl, below_gr HB.out (gr_trans HG2.out HB3.out) (by omega) (Nat.le_refl _)⟩
  · have h0' : ((x : Int) == 0) = false := beq_eq_false_iff_ne.2 (by omega)
    clear h0
    go_wp2_with fail
    refine (rights_draw w.heap.size (0 + 1) w2 HR2.out (by omega)).mono ?_
    rintro e w3 ⟨f, q, hf1, hf2, hq, rfl, hr, hg⟩
    have HB3 := Lib.hid (below_gr HB.out (gr_trans HG2.out hg) (by omega) (Nat.le_refl _))
    clear hr hg
    go_wp2_with fail
    refine (spec_rtext f _).mono ?_
    rintro e w4 ⟨rfl, hb⟩
    have HB4 := Lib.hid (HB3.out.trans (hb.mono HB3.out.size))
    clear hb
    go_wp2
    go_ret
    exact ⟨_, by rw [rB_size]; have := rtI_len f; omega, rfl, HB4.out⟩
end Go.Proofs.Ytnnmnphmbjfopaa
