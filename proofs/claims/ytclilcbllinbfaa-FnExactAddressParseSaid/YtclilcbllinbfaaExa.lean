/-
  The walks of the laws FnExactAddressParse, FnExactAddressText and FnExactPathParse. No condition.
-/
import Derived.Test.YtclilcbllinbfaaAread
namespace Go.Proofs.Ytclilcbllinbfaa
open Go.RowKit
set_option linter.unusedVariables false

set_option maxHeartbeats 1000000 in
theorem eq_address (u d : ByteArray) (w : World) : Calls Try.prog 39 #[.agg #[.string u, .string d], .agg #[.string u, .string d]] w fun e w' => e = .returned (.bool true) ∧ Below w.heap.size w w' := by
  have HB := Lib.hid (Below.refl w.heap.size w)
  go_enter Try.func39, Try.ntmps39
  go_wp2
  go_ret
  exact ⟨rfl, (HB.out.alloc (Nat.le_refl _) _).alloc (by simp) _⟩

set_option maxHeartbeats 1000000 in
theorem law_FnExactAddressParse (s : ByteArray) (w : World) (hs : s.size ≤ maxLen) : Calls Try.prog 19 #[.string s] w (Holds1 w) := by
  unfold maxLen at hs
  by_cases hb : s.size ≤ 1048576
  · have hb' : (s.size : Int) ≤ 1048576 := by omega
    obtain ⟨o, u, d, hi, hu, hd⟩ := read_any s
    have HI := Lib.hid hi
    clear hi hu hd
    have HB0 := Lib.hid (Below.refl w.heap.size w)
    go_enter Try.func19, Try.ntmps19
    go_wp2_with fail
    refine (sparse_at HI.out _ (by omega)).mono ?_
    rintro e w1 ⟨rfl, hb1⟩
    have HB1 := Lib.hid hb1
    clear hb1
    go_wp2_with fail
    refine (iparse_at HI.out _ (by omega)).mono ?_
    rintro e w2 ⟨rfl, hb2⟩
    change Below (boxed w1 u d).heap.size (boxed w1 u d) w2 at hb2
    have hx := (boxed_whole w1 u d).below hb2 (boxed_whole w1 u d).lt
    have hx0 : w2.cell? ⟨w1.heap.size, 0, none⟩ = some (.string u) := hx.cell 0
    have hx1 : w2.cell? ⟨w1.heap.size, 1, none⟩ = some (.string d) := hx.cell 1
    have hlt := hx.lt
    have hne : w1.heap.size ≠ w2.heap.size := by omega
    have HB2 := Lib.hid ((boxed_below HB1.out HB1.out.size u d).trans (hb2.mono (by rw [boxed_size]; have := HB1.out.size; omega)))
    clear hb2 hx
    have HB2b := Lib.hid (boxed_below HB2.out HB2.out.size u d)
    go_wp2_with fail
    refine (eq_address u d _).mono ?_
    rintro e w3 ⟨rfl, hb3⟩
    have HB3 := Lib.hid (HB2b.out.trans (hb3.mono HB2b.out.size))
    clear hb3
    cases o
    all_goals
      go_wp2
      go_ret
      exact ⟨rfl, HB3.out⟩
  · have hb' : (1048576 : Int) < (s.size : Int) := by omega
    go_enter Try.func19, Try.ntmps19
    go_wp2
    go_ret
    exact ⟨rfl, Below.refl _ _⟩
set_option maxHeartbeats 1000000 in
theorem law_FnExactPathParse (s : ByteArray) (w : World) (hs : s.size ≤ maxLen) : Calls Try.prog 21 #[.string s] w (Holds1 w) := by
  unfold maxLen at hs
  by_cases hb : s.size ≤ 1048576
  · have hb' : (s.size : Int) ≤ 1048576 := by omega
    obtain ⟨o, u, d, hi, hu, hd⟩ := readP_any s
    have HI := Lib.hid hi
    clear hi hu hd
    have HB0 := Lib.hid (Below.refl w.heap.size w)
    go_enter Try.func21, Try.ntmps21
    go_wp2_with fail
    refine (spath_at HI.out _ (by omega)).mono ?_
    rintro e w1 ⟨rfl, hb1⟩
    have HB1 := Lib.hid hb1
    clear hb1
    go_wp2_with fail
    refine (ipath_at HI.out _ (by omega)).mono ?_
    rintro e w2 ⟨rfl, hb2⟩
    change Below (boxed w1 u d).heap.size (boxed w1 u d) w2 at hb2
    have hx := (boxed_whole w1 u d).below hb2 (boxed_whole w1 u d).lt
    have hx0 : w2.cell? ⟨w1.heap.size, 0, none⟩ = some (.string u) := hx.cell 0
    have hx1 : w2.cell? ⟨w1.heap.size, 1, none⟩ = some (.string d) := hx.cell 1
    have hlt := hx.lt
    have hne : w1.heap.size ≠ w2.heap.size := by omega
    have HB2 := Lib.hid ((boxed_below HB1.out HB1.out.size u d).trans (hb2.mono (by rw [boxed_size]; have := HB1.out.size; omega)))
    clear hb2 hx
    have HB2b := Lib.hid (boxed_below HB2.out HB2.out.size u d)
    go_wp2_with fail
    refine (eq_address u d _).mono ?_
    rintro e w3 ⟨rfl, hb3⟩
    have HB3 := Lib.hid (HB2b.out.trans (hb3.mono HB2b.out.size))
    clear hb3
    cases o
    all_goals
      go_wp2
      go_ret
      exact ⟨rfl, HB3.out⟩
  · have hb' : (1048576 : Int) < (s.size : Int) := by omega
    go_enter Try.func21, Try.ntmps21
    go_wp2
    go_ret
    exact ⟨rfl, Below.refl _ _⟩
end Go.Proofs.Ytclilcbllinbfaa
