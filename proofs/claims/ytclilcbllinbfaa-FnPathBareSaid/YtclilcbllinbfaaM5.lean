/-
  The walk of the law FnPathBare. Condition: the code can be read.
-/
import Derived.Test.YtclilcbllinbfaaAread
namespace Go.Proofs.Ytclilcbllinbfaa
open Go.RowKit
set_option linter.unusedVariables false

set_option maxHeartbeats 2000000 in
theorem law_FnPathBare (A : Option Addr) (len cap : Nat) (w : World) (h : Coded w A len cap) : Calls Try.prog 16 #[.slice A len cap] w (Holds1 w) := by
  have HC := Lib.hid h
  clear h
  have HB0 := Lib.hid (Below.refl w.heap.size w)
  by_cases hl : len ≤ 1048576
  · have hl' : (len : Int) ≤ 1048576 := by omega
    go_enter Try.func16, Try.ntmps16
    go_wp2_with fail
    refine (draw_address A len cap _ HC.out).mono ?_
    rintro e w1 ⟨s, hs, rfl, hb⟩
    have HB1 := Lib.hid (HB0.out.trans (hb.mono HB0.out.size))
    clear hb
    obtain ⟨o, u, d, hi, hu, hd⟩ := read_any s
    have HI := Lib.hid hi
    have hu4 : u.size ≤ 16777216 := by omega
    have hd4 : d.size ≤ 16777216 := by omega
    clear hi hu hd
    go_wp2_with fail
    refine (iparse_at HI.out _ (by omega)).mono ?_
    rintro e w2 ⟨rfl, hb⟩
    have HB2 := Lib.hid (HB1.out.trans (hb.mono HB1.out.size))
    clear hb
    go_wp2_with fail
    refine (sparse_at HI.out _ (by omega)).mono ?_
    rintro e w3 ⟨rfl, hb⟩
    change Below (boxed w2 u d).heap.size (boxed w2 u d) w3 at hb
    have hx := (boxed_whole w2 u d).below hb (boxed_whole w2 u d).lt
    have hx0 : w3.cell? ⟨w2.heap.size, 0, none⟩ = some (.string u) := hx.cell 0
    have hx1 : w3.cell? ⟨w2.heap.size, 1, none⟩ = some (.string d) := hx.cell 1
    have hlt := hx.lt
    have hne : w2.heap.size ≠ w3.heap.size := by omega
    have HX := Lib.hid hx
    have HB3 := Lib.hid ((boxed_below HB2.out HB2.out.size u d).trans (hb.mono (by rw [boxed_size]; have := HB2.out.size; omega)))
    clear hb hx
    cases o
    · go_wp2
      go_ret
      exact ⟨rfl, boxed_below HB3.out HB3.out.size u d⟩
    · have HB3b := Lib.hid (boxed_below HB3.out HB3.out.size u d)
      obtain ⟨p0, r0, hp0⟩ := bare0 HI.out
      have HP0 := Lib.hid hp0
      clear hp0
      go_wp2_with fail
      refine (ipath_at HP0.out _ (by omega)).mono ?_
      rintro e w4 ⟨rfl, hb⟩
      have HB4 := Lib.hid (HB3b.out.trans (hb.mono HB3b.out.size))
      clear hb
      have HB4b := Lib.hid (boxed_below HB4.out HB4.out.size p0 r0)
      obtain ⟨p1, r1, hp1⟩ := bare1 HI.out
      have HP1 := Lib.hid hp1
      clear hp1
      go_wp2_with fail
      refine (ipath_at HP1.out _ (by rw [ByteArray.size_append, one_size]; omega)).mono ?_
      rintro e w5 ⟨rfl, hb⟩
      have HB5 := Lib.hid (HB4b.out.trans (hb.mono HB4b.out.size))
      clear hb
      have HB5b := Lib.hid (boxed_below HB5.out HB5.out.size p1 r1)
      obtain ⟨p2, r2, hp2⟩ := bare2 HI.out
      have HP2 := Lib.hid hp2
      clear hp2
      go_wp2_with fail
      refine (ipath_at HP2.out _ (by rw [ByteArray.size_append, one_size]; omega)).mono ?_
      rintro e w6 ⟨rfl, hb⟩
      have HB6 := Lib.hid (HB5b.out.trans (hb.mono HB5b.out.size))
      clear hb
      have HB6b := Lib.hid (boxed_below HB6.out HB6.out.size p2 r2)
      go_wp2
      go_ret
      exact ⟨rfl, HB6b.out⟩
  · have hl' : (1048576 : Int) < (len : Int) := by omega
    go_enter Try.func16, Try.ntmps16
    go_wp2
    go_ret
    exact ⟨rfl, HB0.out⟩
end Go.Proofs.Ytclilcbllinbfaa
