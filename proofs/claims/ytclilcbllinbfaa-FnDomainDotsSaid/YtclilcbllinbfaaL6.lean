/-
  The walks of the laws on names and domains. Condition: the codes can be read.
-/
import Derived.Test.YtclilcbllinbfaaLawh
namespace Go.Proofs.Ytclilcbllinbfaa
open Go.RowKit
set_option linter.unusedVariables false

set_option maxHeartbeats 2000000 in
theorem law_FnDomainDots (A : Option Addr) (len cap : Nat) (w : World) (h : Coded w A len cap) : Calls Try.prog 8 #[.slice A len cap] w (Holds1 w) := by
  have HC := Lib.hid h
  clear h
  have HB0 := Lib.hid (Below.refl w.heap.size w)
  by_cases hl : len ≤ 1048576
  · have hl' : (len : Int) ≤ 1048576 := by omega
    go_enter Try.func8, Try.ntmps8
    go_wp2_with fail
    refine (draw_domain A len cap _ HC.out).mono ?_
    rintro e w1 ⟨s, hs, rfl, hb⟩
    have HB1 := Lib.hid hb
    clear hb
    go_wp2_with fail
    refine (impl_domain s _ (by omega)).mono ?_
    rintro e w2 ⟨rfl, hb⟩
    have HB2 := Lib.hid (HB1.out.trans (hb.mono HB1.out.size))
    clear hb
    go_wp2_with fail
    refine (spec_domain s _ (by omega)).mono ?_
    rintro e w3 ⟨rfl, hb⟩
    have HB3 := Lib.hid (HB2.out.trans (hb.mono HB2.out.size))
    clear hb
    by_cases hv : domB s.data.toList = true
    · have HV := Lib.hid hv
      rw [hv]
      clear hv
      go_wp2_with fail
      refine (impl_domain ((⟨#[46]⟩ : ByteArray) ++ s) _ (by rw [ByteArray.size_append, one_size]; omega)).mono ?_
      rintro e w4 ⟨rfl, hb⟩
      have HB4 := Lib.hid (HB3.out.trans (hb.mono HB3.out.size))
      clear hb
      rw [dom_front s]
      go_wp2_with fail
      refine (impl_domain (s ++ (⟨#[46]⟩ : ByteArray)) _ (by rw [ByteArray.size_append, one_size]; omega)).mono ?_
      rintro e w5 ⟨rfl, hb⟩
      have HB5 := Lib.hid (HB4.out.trans (hb.mono HB4.out.size))
      clear hb
      rw [dom_back s]
      go_wp2_with fail
      refine (impl_domain ((⟨#[97, 46, 98, 46, 99, 46]⟩ : ByteArray) ++ s) _ (by rw [ByteArray.size_append, six_size]; omega)).mono ?_
      rintro e w6 ⟨rfl, hb⟩
      have HB6 := Lib.hid (HB5.out.trans (hb.mono HB5.out.size))
      clear hb
      rw [dom_more s]
      go_wp2
      go_ret
      exact ⟨rfl, HB6.out⟩
    · rw [Bool.eq_false_iff.2 hv]
      clear hv
      go_wp2
      go_ret
      exact ⟨rfl, HB3.out⟩
  · have hl' : (1048576 : Int) < (len : Int) := by omega
    go_enter Try.func8, Try.ntmps8
    go_wp2
    go_ret
    exact ⟨rfl, HB0.out⟩
end Go.Proofs.Ytclilcbllinbfaa
