/-
  The walk of the law FnExactAddressText. No condition.
-/
import Derived.Test.YtclilcbllinbfaaAread
namespace Go.Proofs.Ytclilcbllinbfaa
open Go.RowKit
set_option linter.unusedVariables false

set_option maxHeartbeats 1000000 in
theorem to_address (u d : ByteArray) (w : World) : Calls Try.prog 41 #[.agg #[.string u, .string d]] w fun e w' => e = .returned (.agg #[.string u, .string d]) ∧ Below w.heap.size w w' := by
  have HB := Lib.hid (Below.refl w.heap.size w)
  go_enter Try.func41, Try.ntmps41
  go_wp2
  refine bodyPost_ret (v := .agg #[.string u, .string d]) (by simp [results, Try.results41, go_sem]) rfl ?_
  exact ⟨rfl, ((HB.out.alloc (Nat.le_refl _) _).alloc (by simp) _).alloc (by simp; omega) _⟩
/-- What is left of 2^20 bytes. -/
def leftOf (u d : ByteArray) : Int := if u.size + d.size ≤ 1048576 then (1048576 : Int) - (u.size : Int) - (d.size : Int) else -1
theorem leftOf_yes {u d : ByteArray} (h : u.size + d.size ≤ 1048576) : leftOf u d = (1048576 : Int) - (u.size : Int) - (d.size : Int) := by unfold leftOf; rw [if_pos h]
theorem leftOf_no {u d : ByteArray} (h : ¬ u.size + d.size ≤ 1048576) : leftOf u d = -1 := by unfold leftOf; rw [if_neg h]
set_option maxHeartbeats 1000000 in
theorem sz_address (u d : ByteArray) (w : World) (hu : u.size ≤ maxLen) (hd : d.size ≤ maxLen) : Calls Try.prog 40 #[.agg #[.string u, .string d], .int .i64 1048576] w fun e w' => e = .returned (.int .i64 (leftOf u d)) ∧ Below w.heap.size w w' := by
  unfold maxLen at hu hd
  have HB := Lib.hid (Below.refl w.heap.size w)
  by_cases h1 : u.size ≤ 1048576
  · have h1' : ¬ (1048576 : Int) - (u.size : Int) < 0 := by omega
    by_cases h2 : u.size + d.size ≤ 1048576
    · have h2' : ¬ (1048576 : Int) - (u.size : Int) - (d.size : Int) < 0 := by omega
      have HL := Lib.hid (leftOf_yes h2)
      clear h2
      go_enter Try.func40, Try.ntmps40
      go_wp2
      go_ret
      exact ⟨by rw [HL.out]; rfl, HB.out.alloc (Nat.le_refl _) _⟩
    · have h2' : (1048576 : Int) - (u.size : Int) - (d.size : Int) < 0 := by omega
      have HL := Lib.hid (leftOf_no h2)
      clear h2
      go_enter Try.func40, Try.ntmps40
      go_wp2
      go_ret
      exact ⟨by rw [HL.out]; rfl, HB.out.alloc (Nat.le_refl _) _⟩
  · have h1' : (1048576 : Int) - (u.size : Int) < 0 := by omega
    have HL := Lib.hid (leftOf_no (u := u) (d := d) (by omega))
    clear h1
    go_enter Try.func40, Try.ntmps40
    go_wp2
    go_ret
    exact ⟨by rw [HL.out]; rfl, HB.out.alloc (Nat.le_refl _) _⟩

set_option maxHeartbeats 2000000 in
theorem law_FnExactAddressText (u d : ByteArray) (w : World) (hu : u.size ≤ maxLen) (hd : d.size ≤ maxLen) : Calls Try.prog 20 #[.agg #[.string u, .string d]] w (Holds1 w) := by
  have HU := Lib.hid hu
  have HD := Lib.hid hd
  clear hu hd
  have ez : (w.alloc (.cells #[.string u, .string d] 36)).heap.size = w.heap.size + 1 := by simp
  have hw := Whole.made w 36 #[.string u, .string d]
  have HW := Lib.hid hw
  have HB0 := Lib.hid ((Below.refl w.heap.size w).alloc (Nat.le_refl _) (.cells #[.string u, .string d] 36))
  have HE := Lib.hid ez
  clear ez hw
  by_cases hs : u.size + d.size ≤ 1048576
  · have hl := leftOf_yes hs
    have hn : ¬ leftOf u d < 0 := by rw [hl]; omega
    have hu4 : u.size ≤ 16777216 := by omega
    have hd4 : d.size ≤ 16777216 := by omega
    obtain ⟨z, hz⟩ : ∃ z, leftOf u d = z := ⟨_, rfl⟩
    rw [hz] at hn
    have HZ := Lib.hid hz
    clear hl hs hz
    obtain ⟨t, ht⟩ : ∃ t, adT u d = t := ⟨_, rfl⟩
    have HT := Lib.hid ht
    clear ht
    go_enter Try.func20, Try.ntmps20
    go_wp2_with fail
    refine (sz_address u d _ HU.out HD.out).mono ?_
    rintro e w1 ⟨rfl, hb⟩
    have hx := HW.out.below hb HW.out.lt
    have hx0 : w1.cell? ⟨w.heap.size, 0, none⟩ = some (.string u) := hx.cell 0
    have hx1 : w1.cell? ⟨w.heap.size, 1, none⟩ = some (.string d) := hx.cell 1
    have HX1 := Lib.hid hx
    have HB1 := Lib.hid (HB0.out.trans (hb.mono HB0.out.size))
    clear hb hx
    rw [HZ.out]
    go_wp2_with fail
    refine (to_address u d _).mono ?_
    rintro e w2 ⟨rfl, hb⟩
    have HX2 := Lib.hid (HX1.out.below hb HX1.out.lt)
    have HB2 := Lib.hid (HB1.out.trans (hb.mono HB1.out.size))
    clear hb hx0 hx1
    go_wp2_with fail
    refine (stext_at HT.out _ hu4 hd4).mono ?_
    rintro e w3 ⟨rfl, hb⟩
    have hx := HX2.out.below hb HX2.out.lt
    have hx0 : w3.cell? ⟨w.heap.size, 0, none⟩ = some (.string u) := hx.cell 0
    have hx1 : w3.cell? ⟨w.heap.size, 1, none⟩ = some (.string d) := hx.cell 1
    have HB3 := Lib.hid (HB2.out.trans (hb.mono HB2.out.size))
    clear hb hx
    go_wp2_with fail
    refine (to_address u d _).mono ?_
    rintro e w4 ⟨rfl, hb⟩
    have HB4 := Lib.hid (HB3.out.trans (hb.mono HB3.out.size))
    clear hb hx0 hx1
    go_wp2_with fail
    refine (itext_at HT.out _ hu4 hd4).mono ?_
    rintro e w5 ⟨rfl, hb⟩
    have HB5 := Lib.hid (HB4.out.trans (hb.mono HB4.out.size))
    clear hb
    go_wp2
    go_ret
    exact ⟨rfl, HB5.out⟩
  · have hl := leftOf_no hs
    have HZ := Lib.hid hl
    clear hl hs
    go_enter Try.func20, Try.ntmps20
    go_wp2_with fail
    refine (sz_address u d _ HU.out HD.out).mono ?_
    rintro e w1 ⟨rfl, hb⟩
    have HB1 := Lib.hid (HB0.out.trans (hb.mono HB0.out.size))
    clear hb
    rw [HZ.out]
    go_wp2
    go_ret
    exact ⟨rfl, HB1.out⟩
end Go.Proofs.Ytclilcbllinbfaa
