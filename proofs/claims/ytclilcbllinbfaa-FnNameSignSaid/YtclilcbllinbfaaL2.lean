/-
  The walks of the laws on names and domains. Condition: the codes can be read.
-/
import Derived.Test.YtclilcbllinbfaaLawh
namespace Go.Proofs.Ytclilcbllinbfaa
open Go.RowKit
set_option linter.unusedVariables false

set_option maxHeartbeats 2000000 in
theorem law_FnNameSign (A : Option Addr) (len cap : Nat) (A2 : Option Addr) (len2 cap2 : Nat) (w : World) (h : Coded w A len cap) (h2 : Coded w A2 len2 cap2) : Calls Try.prog 4 #[.slice A len cap, .slice A2 len2 cap2] w (Holds1 w) := by
  have HC := Lib.hid h
  clear h
  have HB0 := Lib.hid (Below.refl w.heap.size w)
  have HC2 := Lib.hid h2
  clear h2
  by_cases hl : len ≤ 1048576
  · have hl' : (len : Int) ≤ 1048576 := by omega
    by_cases hm : len2 ≤ 1048576
    · have hm' : (len2 : Int) ≤ 1048576 := by omega
      go_enter Try.func4, Try.ntmps4
      go_wp2_with fail
      refine (draw_name A len cap _ HC.out).mono ?_
      rintro e w1 ⟨s, hs, rfl, hb⟩
      have HB1 := Lib.hid hb
      clear hb
      go_wp2_with fail
      refine (impl_name s _ (by omega)).mono ?_
      rintro e w2 ⟨rfl, hb⟩
      have HB2 := Lib.hid (HB1.out.trans (hb.mono HB1.out.size))
      clear hb
      go_wp2_with fail
      refine (spec_name s _ (by omega)).mono ?_
      rintro e wz ⟨rfl, rfl⟩
      by_cases hv : nameB s.data.toList = true
      · have HV := Lib.hid hv
        rw [hv]
        clear hv
        have hsz : s.data.toList.length = s.size := by simp
        have HS := Lib.hid hsz
        clear hsz
        obtain ⟨q, hq⟩ : ∃ q, len2 % (s.size + 1) = q := ⟨_, rfl⟩
        have hql : q ≤ s.size := by have := Nat.mod_lt len2 (show 0 < s.size + 1 by omega); omega
        have E1 : (len2 : Int) % ((s.size : Int) + 1) = (q : Int) := by rw [← hq]; push_cast; rfl
        clear hq
        go_wp2_with fail
        refine (put_any s q (⟨#[65]⟩ : ByteArray) _ (by omega) hql (by rw [one_size]; omega)).mono ?_
        rintro e wp65 ⟨v65, rfl, hv65, hs65, n65, rfl⟩
        have HV65 := Lib.hid hv65
        clear hv65
        have HB2d := Lib.hid (below_drewN' HB2.out n65)
        go_wp2_with fail
        refine (impl_name v65 _ (by rw [one_size] at hs65; omega)).mono ?_
        rintro e w3 ⟨rfl, hb⟩
        have HB3 := Lib.hid (HB2d.out.trans (hb.mono HB2d.out.size))
        clear hb
        rw [put_bad HV65.out (by decide)]
        go_wp2_with fail
        refine (put_any s q (⟨#[45]⟩ : ByteArray) _ (by omega) hql (by rw [one_size]; omega)).mono ?_
        rintro e wp45 ⟨v45, rfl, hv45, hs45, n45, rfl⟩
        have HV45 := Lib.hid hv45
        clear hv45
        have HB3d := Lib.hid (below_drewN' HB3.out n45)
        go_wp2_with fail
        refine (impl_name v45 _ (by rw [one_size] at hs45; omega)).mono ?_
        rintro e w4 ⟨rfl, hb⟩
        have HB4 := Lib.hid (HB3d.out.trans (hb.mono HB3d.out.size))
        clear hb
        rw [put_bad HV45.out (by decide)]
        go_wp2_with fail
        refine (put_any s q (⟨#[46]⟩ : ByteArray) _ (by omega) hql (by rw [one_size]; omega)).mono ?_
        rintro e wp46 ⟨v46, rfl, hv46, hs46, n46, rfl⟩
        have HV46 := Lib.hid hv46
        clear hv46
        have HB4d := Lib.hid (below_drewN' HB4.out n46)
        go_wp2_with fail
        refine (impl_name v46 _ (by rw [one_size] at hs46; omega)).mono ?_
        rintro e w5 ⟨rfl, hb⟩
        have HB5 := Lib.hid (HB4d.out.trans (hb.mono HB4d.out.size))
        clear hb
        rw [put_bad HV46.out (by decide)]
        go_wp2_with fail
        refine (put_any s q (⟨#[64]⟩ : ByteArray) _ (by omega) hql (by rw [one_size]; omega)).mono ?_
        rintro e wp64 ⟨v64, rfl, hv64, hs64, n64, rfl⟩
        have HV64 := Lib.hid hv64
        clear hv64
        have HB5d := Lib.hid (below_drewN' HB5.out n64)
        go_wp2_with fail
        refine (impl_name v64 _ (by rw [one_size] at hs64; omega)).mono ?_
        rintro e w6 ⟨rfl, hb⟩
        have HB6 := Lib.hid (HB5d.out.trans (hb.mono HB5d.out.size))
        clear hb
        rw [put_bad HV64.out (by decide)]
        go_wp2_with fail
        refine (put_any s q (⟨#[32]⟩ : ByteArray) _ (by omega) hql (by rw [one_size]; omega)).mono ?_
        rintro e wp32 ⟨v32, rfl, hv32, hs32, n32, rfl⟩
        have HV32 := Lib.hid hv32
        clear hv32
        have HB6d := Lib.hid (below_drewN' HB6.out n32)
        go_wp2_with fail
        refine (impl_name v32 _ (by rw [one_size] at hs32; omega)).mono ?_
        rintro e w7 ⟨rfl, hb⟩
        have HB7 := Lib.hid (HB6d.out.trans (hb.mono HB6d.out.size))
        clear hb
        rw [put_bad HV32.out (by decide)]
        go_wp2
        go_ret
        exact ⟨rfl, HB7.out⟩
      · rw [Bool.eq_false_iff.2 hv]
        clear hv
        go_wp2
        go_ret
        exact ⟨rfl, HB2.out⟩
    · have hm' : (1048576 : Int) < (len2 : Int) := by omega
      go_enter Try.func4, Try.ntmps4
      go_wp2
      go_ret
      exact ⟨rfl, HB0.out⟩
  · have hl' : (1048576 : Int) < (len : Int) := by omega
    go_enter Try.func4, Try.ntmps4
    go_wp2
    go_ret
    exact ⟨rfl, HB0.out⟩
end Go.Proofs.Ytclilcbllinbfaa
