/-
  The walks of the laws on names and domains. Condition: the codes can be read.
-/
import Derived.Test.YtclilcbllinbfaaLawh
namespace Go.Proofs.Ytclilcbllinbfaa
open Go.RowKit
set_option linter.unusedVariables false

set_option maxHeartbeats 2000000 in
theorem law_FnNamePart (A : Option Addr) (len cap : Nat) (w : World) (h : Coded w A len cap) : Calls Try.prog 5 #[.slice A len cap] w (Holds1 w) := by
  have HC := Lib.hid h
  clear h
  have HB0 := Lib.hid (Below.refl w.heap.size w)
  by_cases hl : len ≤ 1048576
  · have hl' : (len : Int) ≤ 1048576 := by omega
    go_enter Try.func5, Try.ntmps5
    go_wp2_with fail
    refine (draw_name A len cap _ HC.out).mono ?_
    rintro e w1 ⟨s, hs, rfl, hb⟩
    have HB1 := Lib.hid hb
    clear hb
    go_wp2_with fail
    refine (impl_name s _ (by omega)).mono ?_
    rintro e w2 ⟨rfl, hb⟩
    have HB2 := Lib.hid (HB1.out.trans (hb.mono HB1.out.size))
    clear hb
    go_wp2_with fail
    refine (spec_name s _ (by omega)).mono ?_
    rintro e wz ⟨rfl, rfl⟩
    by_cases hv : nameB s.data.toList = true
    · have HV := Lib.hid hv
      rw [hv]
      clear hv
      have hsz : s.data.toList.length = s.size := by simp
      have HS := Lib.hid hsz
      clear hsz
      go_wp2
      go_loopw [6] (fun i wr => ∃ j : Nat, 1 ≤ j ∧ (j ≤ s.size ∨ s.size < 1) ∧ i = .int .i64 (j : Int) ∧ Below w.heap.size w wr) (fun i _ => s.size - (intOf i).toNat)
      case atStart => exact ⟨1, Nat.le_refl _, by omega, by go_num, HB2.out⟩
      case round =>
        obtain ⟨j, hj1, hj2, rfl, hbr⟩ := hrel
        have HB3 := Lib.hid hbr
        clear hbr
        by_cases hlt : j < s.size
        · have h0 : (0 : Int) ≤ (j : Int) := by omega
          have h1 : (j : Int) < (s.size : Int) := by omega
          have h2 : (j : Int) ≤ (s.size : Int) := by omega
          go_wp2_with fail
          refine (impl_name (s.extract 0 j) _ (by rw [ByteArray.size_extract]; omega)).mono ?_
          rintro e w4 ⟨rfl, hb⟩
          have HB4 := Lib.hid (HB3.out.trans (hb.mono HB3.out.size))
          clear hb
          rw [part_left HV.out hj1 (by rw [HS.out]; omega)]
          go_wp2_with fail
          refine (impl_name (s.extract j s.size) _ (by rw [ByteArray.size_extract]; omega)).mono ?_
          rintro e w5 ⟨rfl, hb⟩
          have HB5 := Lib.hid (HB4.out.trans (hb.mono HB4.out.size))
          clear hb
          rw [part_right HV.out (by omega)]
          go_wp2
          go_roundw
          case rel => exact ⟨j + 1, by omega, by omega, by go_num, HB5.out⟩
          case measure => simp [intOf]; omega
        · have h1 : ¬ (j : Int) < (s.size : Int) := by omega
          go_wp2
          go_ret
          exact ⟨rfl, HB3.out⟩
    · rw [Bool.eq_false_iff.2 hv]
      clear hv
      go_wp2
      go_ret
      exact ⟨rfl, HB2.out⟩
  · have hl' : (1048576 : Int) < (len : Int) := by omega
    go_enter Try.func5, Try.ntmps5
    go_wp2
    go_ret
    exact ⟨rfl, HB0.out⟩
end Go.Proofs.Ytclilcbllinbfaa
