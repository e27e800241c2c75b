/-
  The walk of the law FnPath. Condition: the code can be read.
-/
import Derived.Test.YtclilcbllinbfaaAread
namespace Go.Proofs.Ytclilcbllinbfaa
open Go.RowKit
set_option linter.unusedVariables false

set_option maxHeartbeats 2000000 in
theorem law_FnPath (A : Option Addr) (len cap : Nat) (w : World) (h : Coded w A len cap) : Calls Try.prog 14 #[.slice A len cap] w (Holds1 w) := by
  have HC := Lib.hid h
  clear h
  have HB0 := Lib.hid (Below.refl w.heap.size w)
  by_cases hl : len ≤ 1048576
  · have hl' : (len : Int) ≤ 1048576 := by omega
    go_enter Try.func14, Try.ntmps14
    go_wp2_with fail
    refine (draw_path A len cap _ HC.out).mono ?_
    rintro e w1 ⟨s, hs, rfl, hb⟩
    have HB1 := Lib.hid (HB0.out.trans (hb.mono HB0.out.size))
    clear hb
    obtain ⟨o, u, d, hi, hu, hd⟩ := readP_any s
    have HI := Lib.hid hi
    have hu4 : u.size ≤ 16777216 := by omega
    have hd4 : d.size ≤ 16777216 := by omega
    clear hi hu hd
    go_wp2_with fail
    refine (ipath_at HI.out _ (by omega)).mono ?_
    rintro e w2 ⟨rfl, hb⟩
    have HB2 := Lib.hid (HB1.out.trans (hb.mono HB1.out.size))
    clear hb
    go_wp2_with fail
    refine (spath_at HI.out _ (by omega)).mono ?_
    rintro e w3 ⟨rfl, hb⟩
    change Below (boxed w2 u d).heap.size (boxed w2 u d) w3 at hb
    have hx := (boxed_whole w2 u d).below hb (boxed_whole w2 u d).lt
    have hx0 : w3.cell? ⟨w2.heap.size, 0, none⟩ = some (.string u) := hx.cell 0
    have hx1 : w3.cell? ⟨w2.heap.size, 1, none⟩ = some (.string d) := hx.cell 1
    have hlt := hx.lt
    have hne : w2.heap.size ≠ w3.heap.size := by omega
    have HX := Lib.hid hx
    have HB3 := Lib.hid ((boxed_below HB2.out HB2.out.size u d).trans (hb.mono (by rw [boxed_size]; have := HB2.out.size; omega)))
    clear hb hx
    cases o
    · go_wp2
      go_ret
      exact ⟨rfl, boxed_below HB3.out HB3.out.size u d⟩
    · have HB3b := Lib.hid (boxed_below HB3.out HB3.out.size u d)
      by_cases hbr : s.data.toList = bare
      · obtain ⟨e1, e2⟩ := bare_parts HI.out hbr
        subst e1
        subst e2
        have hq : (s.toList == [60, 62]) = true := by rw [ByteArray.toList_eq, hbr]; rfl
        clear hbr
        go_wp2
        go_ret
        exact ⟨rfl, HB3b.out⟩
      · have hq : (s.toList == [60, 62]) = false := by
          rw [ByteArray.toList_eq]
          exact beq_eq_false_iff_ne.2 hbr
        have HT := Lib.hid (path_back HI.out hbr)
        clear hbr
        obtain ⟨t, ht⟩ : ∃ t, adT u d = t := ⟨_, rfl⟩
        rw [ht] at HT
        have htz : t.size ≤ 29 := by rw [← ht]; exact adT_le u d
        have HTE := Lib.hid ht
        clear ht
        go_wp2_with fail
        refine (itext_at HTE.out _ hu4 hd4).mono ?_
        rintro e w4 ⟨rfl, hb⟩
        have HB4 := Lib.hid (HB3b.out.trans (hb.mono HB3b.out.size))
        clear hb
        have hts := HT.out
        go_wp2
        go_ret
        exact ⟨rfl, HB4.out⟩
  · have hl' : (1048576 : Int) < (len : Int) := by omega
    go_enter Try.func14, Try.ntmps14
    go_wp2
    go_ret
    exact ⟨rfl, HB0.out⟩
end Go.Proofs.Ytclilcbllinbfaa
