/-
  The walks of the laws on names and domains. Condition: the codes can be read.
-/
import Derived.Test.YtclilcbllinbfaaLawh
namespace Go.Proofs.Ytclilcbllinbfaa
open Go.RowKit
set_option linter.unusedVariables false

set_option maxHeartbeats 2000000 in
theorem law_FnName (A : Option Addr) (len cap : Nat) (w : World) (h : Coded w A len cap) : Calls Try.prog 3 #[.slice A len cap] w (Holds1 w) := by
  have HC := Lib.hid h
  clear h
  have HB0 := Lib.hid (Below.refl w.heap.size w)
  by_cases hl : len ≤ 1048576
  · have hl' : (len : Int) ≤ 1048576 := by omega
    go_enter Try.func3, Try.ntmps3
    go_wp2_with fail
    refine (draw_name A len cap _ HC.out).mono ?_
    rintro e w1 ⟨s, hs, rfl, hb⟩
    have HB1 := Lib.hid hb
    clear hb
    go_wp2_with fail
    refine (impl_name s _ (by omega)).mono ?_
    rintro e w2 ⟨rfl, hb⟩
    have HB2 := Lib.hid (HB1.out.trans (hb.mono HB1.out.size))
    clear hb
    go_wp2_with fail
    refine (spec_name s _ (by omega)).mono ?_
    rintro e wz ⟨rfl, rfl⟩
    by_cases hv : nameB s.data.toList = true
    · have HV := Lib.hid hv
      rw [hv]
      clear hv
      have hsz : s.data.toList.length = s.size := by simp
      have HS := Lib.hid hsz
      clear hsz
      by_cases h8 : s.size < 8
      · have h8' : (s.size : Int) < 8 := by omega
        have H8 := Lib.hid h8
        clear h8
        go_wp2_with fail
        refine (impl_name (s ++ (⟨#[97]⟩ : ByteArray)) _ (by rw [ByteArray.size_append, one_size]; omega)).mono ?_
        rintro e w3 ⟨rfl, hb⟩
        have HB3 := Lib.hid (HB2.out.trans (hb.mono HB2.out.size))
        clear hb
        rw [add_short HV.out (by rw [HS.out]; exact H8.out)]
        go_wp2_with fail
        refine (impl_name (⟨#[]⟩ : ByteArray) _ (Nat.zero_le _)).mono ?_
        rintro e w4 ⟨rfl, hb⟩
        have HB4 := Lib.hid (HB3.out.trans (hb.mono HB3.out.size))
        clear hb
        rw [name_empty]
        go_wp2
        go_ret
        exact ⟨rfl, HB4.out⟩
      · have h8' : decide ((s.size : Int) < 8) = false := decide_eq_false (by omega)
        have H8 := Lib.hid h8
        clear h8
        go_wp2_with fail
        refine (impl_name (s ++ (⟨#[97]⟩ : ByteArray)) _ (by rw [ByteArray.size_append, one_size]; omega)).mono ?_
        rintro e w3 ⟨rfl, hb⟩
        have HB3 := Lib.hid (HB2.out.trans (hb.mono HB2.out.size))
        clear hb
        rw [add_long (by rw [HS.out]; exact H8.out)]
        go_wp2_with fail
        refine (impl_name (⟨#[]⟩ : ByteArray) _ (Nat.zero_le _)).mono ?_
        rintro e w4 ⟨rfl, hb⟩
        have HB4 := Lib.hid (HB3.out.trans (hb.mono HB3.out.size))
        clear hb
        rw [name_empty]
        go_wp2
        go_ret
        exact ⟨rfl, HB4.out⟩
    · rw [Bool.eq_false_iff.2 hv]
      clear hv
      go_wp2
      go_ret
      exact ⟨rfl, HB2.out⟩
  · have hl' : (1048576 : Int) < (len : Int) := by omega
    go_enter Try.func3, Try.ntmps3
    go_wp2
    go_ret
    exact ⟨rfl, HB0.out⟩
end Go.Proofs.Ytclilcbllinbfaa
