/-
  The walk of the law FnAddressText. Condition: the code can be read.
-/
import Derived.Test.YtclilcbllinbfaaAread
namespace Go.Proofs.Ytclilcbllinbfaa
open Go.RowKit
set_option linter.unusedVariables false

theorem adT_valid {u d : ByteArray} (h : (adT u d).size ≠ 0) : Is (adT u d) true u d := by
  unfold adT at h ⊢
  cases hv : (nameB u.data.toList && domB d.data.toList)
  · rw [adText_no hv] at h
    exact absurd rfl h
  · obtain ⟨h1, h2, h3⟩ := ad_read hv
    unfold Is
    rw [bs_list, h2, h3, bs_of, bs_of]
    exact ⟨h1, rfl, rfl⟩
set_option maxHeartbeats 2000000 in
theorem law_FnAddressText (A : Option Addr) (len cap : Nat) (w : World) (h : Coded w A len cap) : Calls Try.prog 11 #[.slice A len cap] w (Holds1 w) := by
  have HC := Lib.hid h
  clear h
  have HB0 := Lib.hid (Below.refl w.heap.size w)
  by_cases hl : len ≤ 1048576
  · have hl' : (len : Int) ≤ 1048576 := by omega
    go_enter Try.func11, Try.ntmps11
    go_wp2_with fail
    refine (draw_addr A len cap _ HC.out).mono ?_
    rintro e w1 ⟨u, d, hu, hd, rfl, hb⟩
    have HB1 := Lib.hid hb
    clear hb
    obtain ⟨t, ht⟩ : ∃ t, adT u d = t := ⟨_, rfl⟩
    have HT := Lib.hid ht
    have htz : t.size ≤ 29 := by rw [← ht]; exact adT_le u d
    have hval : t.size ≠ 0 → Is t true u d := by rw [← ht]; exact adT_valid
    have HVAL := Lib.hid hval
    clear ht hval
    go_wp2_with fail
    refine (itext_at HT.out _ (by omega) (by omega)).mono ?_
    rintro e w2 ⟨rfl, hb⟩
    change Below (boxed w1 u d).heap.size (boxed w1 u d) w2 at hb
    have hx := (boxed_whole w1 u d).below hb (boxed_whole w1 u d).lt
    have hx0 : w2.cell? ⟨w1.heap.size, 0, none⟩ = some (.string u) := hx.cell 0
    have hx1 : w2.cell? ⟨w1.heap.size, 1, none⟩ = some (.string d) := hx.cell 1
    have hlt := hx.lt
    have HX := Lib.hid hx
    have HB2 := Lib.hid ((boxed_below HB1.out HB1.out.size u d).trans (hb.mono (by rw [boxed_size]; have := HB1.out.size; omega)))
    clear hb hx
    go_wp2_with fail
    refine (stext_at HT.out _ (by omega) (by omega)).mono ?_
    rintro e w3 ⟨rfl, hb⟩
    have hx := HX.out.below hb hlt
    have hlt3 : w1.heap.size < w3.heap.size := hx.lt
    have HX3 := Lib.hid hx
    have HB3 := Lib.hid (HB2.out.trans (hb.mono HB2.out.size))
    clear hb hx hx0 hx1 hlt
    by_cases h0 : t.size = 0
    · have hq := (isEmpty h0).1
      have hq2 := (isEmpty h0).2
      have H0 := Lib.hid h0
      clear h0
      go_wp2
      go_ret
      exact ⟨rfl, HB3.out⟩
    · have hq := (noEmpty h0).1
      have hq2 := (noEmpty h0).2
      have HI := Lib.hid (HVAL.out h0)
      clear h0
      go_wp2_with fail
      refine (iparse_at HI.out _ (by omega)).mono ?_
      rintro e w4 ⟨rfl, hb⟩
      have hx := HX3.out.below hb hlt3
      have hx0 : w4.cell? ⟨w1.heap.size, 0, none⟩ = some (.string u) := hx.cell 0
      have hx1 : w4.cell? ⟨w1.heap.size, 1, none⟩ = some (.string d) := hx.cell 1
      have hlt4 := hx.lt
      have hne4 : w1.heap.size ≠ w4.heap.size := by omega
      have HB4 := Lib.hid (HB3.out.trans (hb.mono HB3.out.size))
      clear hb hx
      go_wp2
      go_ret
      exact ⟨rfl, boxed_below HB4.out HB4.out.size u d⟩
  · have hl' : (1048576 : Int) < (len : Int) := by omega
    go_enter Try.func11, Try.ntmps11
    go_wp2
    go_ret
    exact ⟨rfl, HB0.out⟩
end Go.Proofs.Ytclilcbllinbfaa
