/-
  The walk of the law FnAddress. Condition: the code can be read.
-/
import Derived.Test.YtclilcbllinbfaaAread
namespace Go.Proofs.Ytclilcbllinbfaa
open Go.RowKit
set_option linter.unusedVariables false

set_option maxHeartbeats 2000000 in
theorem law_FnAddress (A : Option Addr) (len cap : Nat) (w : World) (h : Coded w A len cap) : Calls Try.prog 10 #[.slice A len cap] w (Holds1 w) := by
  have HC := Lib.hid h
  clear h
  have HB0 := Lib.hid (Below.refl w.heap.size w)
  by_cases hl : len ≤ 1048576
  · have hl' : (len : Int) ≤ 1048576 := by omega
    go_enter Try.func10, Try.ntmps10
    go_wp2_with fail
    refine (draw_address A len cap _ HC.out).mono ?_
    rintro e w1 ⟨s, hs, rfl, hb⟩
    have HB1 := Lib.hid (HB0.out.trans (hb.mono HB0.out.size))
    clear hb
    obtain ⟨o, u, d, hi, hu, hd⟩ := read_any s
    have HI := Lib.hid hi
    have hu4 : u.size ≤ 16777216 := by omega
    have hd4 : d.size ≤ 16777216 := by omega
    clear hi hu hd
    go_wp2_with fail
    refine (iparse_at HI.out _ (by omega)).mono ?_
    rintro e w2 ⟨rfl, hb⟩
    have HB2 := Lib.hid (HB1.out.trans (hb.mono HB1.out.size))
    clear hb
    go_wp2_with fail
    refine (sparse_at HI.out _ (by omega)).mono ?_
    rintro e w3 ⟨rfl, hb⟩
    change Below (boxed w2 u d).heap.size (boxed w2 u d) w3 at hb
    have hx := (boxed_whole w2 u d).below hb (boxed_whole w2 u d).lt
    have hx0 : w3.cell? ⟨w2.heap.size, 0, none⟩ = some (.string u) := hx.cell 0
    have hx1 : w3.cell? ⟨w2.heap.size, 1, none⟩ = some (.string d) := hx.cell 1
    have hlt := hx.lt
    have hne : w2.heap.size ≠ w3.heap.size := by omega
    have HX := Lib.hid hx
    have HB3 := Lib.hid ((boxed_below HB2.out HB2.out.size u d).trans (hb.mono (by rw [boxed_size]; have := HB2.out.size; omega)))
    clear hb hx
    cases o
    · go_wp2
      go_ret
      exact ⟨rfl, boxed_below HB3.out HB3.out.size u d⟩
    · have HB3b := Lib.hid (boxed_below HB3.out HB3.out.size u d)
      go_wp2_with fail
      refine (itext_back HI.out _ hu4 hd4).mono ?_
      rintro e w4 ⟨rfl, hb⟩
      have HB4 := Lib.hid (HB3b.out.trans (hb.mono HB3b.out.size))
      clear hb
      go_wp2
      go_ret
      exact ⟨rfl, HB4.out⟩
  · have hl' : (1048576 : Int) < (len : Int) := by omega
    go_enter Try.func10, Try.ntmps10
    go_wp2
    go_ret
    exact ⟨rfl, HB0.out⟩
end Go.Proofs.Ytclilcbllinbfaa
