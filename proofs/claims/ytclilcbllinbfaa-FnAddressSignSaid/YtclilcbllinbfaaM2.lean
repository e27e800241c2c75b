/-
  The walk of the law FnAddressSign. Condition: the code can be read.
-/
import Derived.Test.YtclilcbllinbfaaAread
namespace Go.Proofs.Ytclilcbllinbfaa
open Go.RowKit
set_option linter.unusedVariables false

set_option maxHeartbeats 2000000 in
theorem law_FnAddressSign (A : Option Addr) (len cap : Nat) (A2 : Option Addr) (len2 cap2 : Nat) (w : World) (h : Coded w A len cap) (h2 : Coded w A2 len2 cap2) : Calls Try.prog 13 #[.slice A len cap, .slice A2 len2 cap2] w (Holds1 w) := by
  have HC := Lib.hid h
  clear h
  have HB0 := Lib.hid (Below.refl w.heap.size w)
  clear h2
  by_cases hl : len ≤ 1048576
  · have hl' : (len : Int) ≤ 1048576 := by omega
    by_cases hm : len2 ≤ 1048576
    · have hm' : (len2 : Int) ≤ 1048576 := by omega
      go_enter Try.func13, Try.ntmps13
      go_wp2_with fail
      refine (draw_address A len cap _ HC.out).mono ?_
      rintro e w1 ⟨s, hs, rfl, hb⟩
      have HB1 := Lib.hid (HB0.out.trans (hb.mono HB0.out.size))
      clear hb
      obtain ⟨o, u, d, hi, hu, hd⟩ := read_any s
      have HI := Lib.hid hi
      have hu4 : u.size ≤ 16777216 := by omega
      have hd4 : d.size ≤ 16777216 := by omega
      clear hi hu hd
      go_wp2_with fail
      refine (iparse_at HI.out _ (by omega)).mono ?_
      rintro e w2 ⟨rfl, hb⟩
      have HB2 := Lib.hid (HB1.out.trans (hb.mono HB1.out.size))
      clear hb
      go_wp2_with fail
      refine (sparse_at HI.out _ (by omega)).mono ?_
      rintro e w3 ⟨rfl, hb⟩
      change Below (boxed w2 u d).heap.size (boxed w2 u d) w3 at hb
      have hx := (boxed_whole w2 u d).below hb (boxed_whole w2 u d).lt
      have hx0 : w3.cell? ⟨w2.heap.size, 0, none⟩ = some (.string u) := hx.cell 0
      have hx1 : w3.cell? ⟨w2.heap.size, 1, none⟩ = some (.string d) := hx.cell 1
      have hlt := hx.lt
      have hne : w2.heap.size ≠ w3.heap.size := by omega
      have HX := Lib.hid hx
      have HB3 := Lib.hid ((boxed_below HB2.out HB2.out.size u d).trans (hb.mono (by rw [boxed_size]; have := HB2.out.size; omega)))
      clear hb hx
      cases o
      · go_wp2
        go_ret
        exact ⟨rfl, boxed_below HB3.out HB3.out.size u d⟩
      · have HB3b := Lib.hid (boxed_below HB3.out HB3.out.size u d)
        obtain ⟨q, hq⟩ : ∃ q, len2 % (s.size + 1) = q := ⟨_, rfl⟩
        have hql : q ≤ s.size := by have := Nat.mod_lt len2 (show 0 < s.size + 1 by omega); omega
        have E1 : (len2 : Int) % ((s.size : Int) + 1) = (q : Int) := by rw [← hq]; push_cast; rfl
        clear hq
        go_wp2_with fail
        refine (put_any s q (⟨#[64]⟩ : ByteArray) _ (by omega) hql (by rw [one_size]; omega)).mono ?_
        rintro e wp ⟨v, rfl, hv, hsv, nn, rfl⟩
        have hsv4 : v.size ≤ 16777216 := by rw [one_size] at hsv; omega
        obtain ⟨u2, d2, hi2⟩ := at_no HI.out hv
        have HI2 := Lib.hid hi2
        clear hv hi2 hsv
        have HB3d := Lib.hid (below_drewN' HB3b.out nn)
        go_wp2_with fail
        refine (iparse_at HI2.out _ hsv4).mono ?_
        rintro e w4 ⟨rfl, hb⟩
        have HB4 := Lib.hid (HB3d.out.trans (hb.mono HB3d.out.size))
        clear hb
        go_wp2
        go_ret
        exact ⟨rfl, (boxed_below HB4.out HB4.out.size u2 d2)⟩
    · have hm' : (1048576 : Int) < (len2 : Int) := by omega
      go_enter Try.func13, Try.ntmps13
      go_wp2
      go_ret
      exact ⟨rfl, HB0.out⟩
  · have hl' : (1048576 : Int) < (len : Int) := by omega
    go_enter Try.func13, Try.ntmps13
    go_wp2
    go_ret
    exact ⟨rfl, HB0.out⟩
end Go.Proofs.Ytclilcbllinbfaa
