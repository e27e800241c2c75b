/-
  The walks of the laws on names and domains. Condition: the codes can be read.
-/
import Derived.Test.YtclilcbllinbfaaLawh
namespace Go.Proofs.Ytclilcbllinbfaa
open Go.RowKit
set_option linter.unusedVariables false

set_option maxHeartbeats 2000000 in
theorem law_FnDomainTwo (A : Option Addr) (len cap : Nat) (A2 : Option Addr) (len2 cap2 : Nat) (w : World) (h : Coded w A len cap) (h2 : Coded w A2 len2 cap2) : Calls Try.prog 9 #[.slice A len cap, .slice A2 len2 cap2] w (Holds1 w) := by
  have HC := Lib.hid h
  clear h
  have HB0 := Lib.hid (Below.refl w.heap.size w)
  have HC2 := Lib.hid h2
  clear h2
  by_cases hl : len ≤ 1048576
  · have hl' : (len : Int) ≤ 1048576 := by omega
    by_cases hm : len2 ≤ 1048576
    · have hm' : (len2 : Int) ≤ 1048576 := by omega
      go_enter Try.func9, Try.ntmps9
      go_wp2_with fail
      refine (draw_name A len cap _ HC.out).mono ?_
      rintro e w1 ⟨s, hs, rfl, hb⟩
      have HB1 := Lib.hid hb
      clear hb
      go_wp2_with fail
      refine (draw_name A2 len2 cap2 _ (HC2.out.below HB1.out (Nat.le_refl _))).mono ?_
      rintro e w2 ⟨x, hx, rfl, hb⟩
      have HB2 := Lib.hid (HB1.out.trans (hb.mono HB1.out.size))
      clear hb
      go_wp2_with fail
      refine (impl_name s _ (by omega)).mono ?_
      rintro e w3 ⟨rfl, hb⟩
      have HB3 := Lib.hid (HB2.out.trans (hb.mono HB2.out.size))
      clear hb
      go_wp2_with fail
      refine (spec_name s _ (by omega)).mono ?_
      rintro e wz ⟨rfl, rfl⟩
      by_cases hv : nameB s.data.toList = true
      · have HV := Lib.hid hv
        rw [hv]
        clear hv
        go_wp2_with fail
        refine (spec_name x _ (by omega)).mono ?_
        rintro e wy ⟨rfl, rfl⟩
        by_cases hx2 : nameB x.data.toList = true
        · have HX := Lib.hid hx2
          rw [hx2]
          clear hx2
          go_wp2_with fail
          refine (impl_domain (s ++ (⟨#[46]⟩ : ByteArray) ++ x) _ (by rw [ByteArray.size_append, ByteArray.size_append, one_size]; omega)).mono ?_
          rintro e w4 ⟨rfl, hb⟩
          have HB4 := Lib.hid (HB3.out.trans (hb.mono HB3.out.size))
          clear hb
          rw [dom_two HV.out HX.out]
          go_wp2_with fail
          refine (impl_domain ((⟨#[97, 46]⟩ : ByteArray) ++ s ++ (⟨#[46]⟩ : ByteArray) ++ x) _ (by rw [ByteArray.size_append, ByteArray.size_append, ByteArray.size_append, one_size, two_size]; omega)).mono ?_
          rintro e w5 ⟨rfl, hb⟩
          have HB5 := Lib.hid (HB4.out.trans (hb.mono HB4.out.size))
          clear hb
          rw [dom_three HV.out HX.out]
          go_wp2
          go_ret
          exact ⟨rfl, HB5.out⟩
        · rw [Bool.eq_false_iff.2 hx2]
          clear hx2
          go_wp2
          go_ret
          exact ⟨rfl, HB3.out⟩
      · rw [Bool.eq_false_iff.2 hv]
        clear hv
        go_wp2
        go_ret
        exact ⟨rfl, HB3.out⟩
    · have hm' : (1048576 : Int) < (len2 : Int) := by omega
      go_enter Try.func9, Try.ntmps9
      go_wp2
      go_ret
      exact ⟨rfl, HB0.out⟩
  · have hl' : (1048576 : Int) < (len : Int) := by omega
    go_enter Try.func9, Try.ntmps9
    go_wp2
    go_ret
    exact ⟨rfl, HB0.out⟩
end Go.Proofs.Ytclilcbllinbfaa
