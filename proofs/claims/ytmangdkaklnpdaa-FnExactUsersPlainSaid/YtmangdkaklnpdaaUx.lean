/-
  The walks of the laws FnExactUsersValid, FnExactUsersFind, FnExactUsersProve and FnExactUsersPlain. Condition: the arguments can be read.
-/
import Derived.Test.YtmangdkaklnpdaaUe
import Derived.Test.YtmangdkaklnpdaaLawa
namespace Go.Proofs.Ytmangdkaklnpdaa
open Go.RowKit
set_option linter.unusedVariables false

set_option maxRecDepth 20000 in
set_option maxHeartbeats 8000000 in
theorem law_FnExactUsersValid (A : Option Addr) (len cap : Nat)  (w : World) (h : UsArg w A len cap)  : Calls Try.prog 11 #[.slice A len cap] w (Holds1 w) := by
  obtain ⟨L, hn, hlc, hcm, hat, htx⟩ := h
  have hlm : len ≤ maxLen := by omega
  have HN := Lib.hid hn
  have HLM := Lib.hid hlm
  have HA0 := Lib.hid hat
  have HTX := Lib.hid htx
  clear hn hlc hcm hat htx hlm
  by_cases hlen : len ≤ 1048576
  ·
    obtain ⟨r, hr⟩ : ∃ r, szU L (1048576 - (len : Int)) = r := ⟨_, rfl⟩
    have HR := Lib.hid hr
    have hlen0 : len ≤ 1048576 := hlen
    have hlenI : (len : Int) ≤ 1048576 := by omega
    by_cases hr0 : r < 0
    ·
      clear hr
      go_enter Try.func11, Try.ntmps11
      go_wp2_with fail
      refine (sz_users A len cap 1048576 r L _ HN.out HA0.out HTX.out (by omega) (by omega) hlenI HR.out).mono ?_
      rintro e w1 ⟨rfl, hb⟩
      have HB1 := Lib.hid hb
      clear hb
      go_wp2
      go_ret
      exact ⟨rfl, HB1.out⟩
    ·
      have HSM : Hid (smallU L) := Lib.hid ⟨by rw [HN.out]; omega, fun g hg => by have := szU_le (L := L) (z := 1048576 - (len : Int)) (by omega) (by rw [hr]; omega) g hg; omega⟩
      clear hr
      obtain ⟨v, hv⟩ : ∃ v, vU L = v := ⟨_, rfl⟩
      have HV := Lib.hid hv
      have hvv : (v != v) = false := by simp
      clear hv
      go_enter Try.func11, Try.ntmps11
      go_wp2_with fail
      refine (sz_users A len cap 1048576 r L _ HN.out HA0.out HTX.out (by omega) (by omega) hlenI HR.out).mono ?_
      rintro e w1 ⟨rfl, hb⟩
      have HB1 := Lib.hid hb
      have HA1 := Lib.hid (HA0.out.below hb (Nat.le_refl _))
      clear hb
      go_wp2_with fail
      refine (to_users A len cap L _ HN.out HA1.out hlen0).mono ?_
      rintro e w2 ⟨gT, rfl, ho, hb⟩
      have HB2 := Lib.hid (HB1.out.trans (hb.mono HB1.out.size))
      have HA2 := Lib.hid (HA1.out.below hb (Nat.le_refl _))
      have HT2 := Lib.hid ho
      clear hb ho
      go_wp2_with fail
      refine (spec_uv HV.out _ (UIn.made HT2.out HSM.out)).mono ?_
      rintro e w3 ⟨rfl, hb⟩
      have HB3 := Lib.hid (HB2.out.trans (hb.mono HB2.out.size))
      have HA3 := Lib.hid (HA2.out.below hb (Nat.le_refl _))
      have HT3 := Lib.hid (HT2.out.kept hb)
      clear hb
      go_wp2_with fail
      refine (to_users A len cap L _ HN.out HA3.out hlen0).mono ?_
      rintro e w4 ⟨gX, rfl, ho, hb⟩
      have HB4 := Lib.hid (HB3.out.trans (hb.mono HB3.out.size))
      have HA4 := Lib.hid (HA3.out.below hb (Nat.le_refl _))
      have HX4 := Lib.hid ho
      clear hb ho
      go_wp2_with fail
      refine (impl_uv HV.out _ (UIn.made HX4.out HSM.out)).mono ?_
      rintro e w5 ⟨rfl, hb⟩
      have HB5 := Lib.hid (HB4.out.trans (hb.mono HB4.out.size))
      have HA5 := Lib.hid (HA4.out.below hb (Nat.le_refl _))
      have HX5 := Lib.hid (HX4.out.kept hb)
      clear hb
      go_wp2_with fail
      refine (to_users A len cap L _ HN.out HA5.out hlen0).mono ?_
      rintro e w6 ⟨gY, rfl, ho, hb⟩
      have HB6 := Lib.hid (HB5.out.trans (hb.mono HB5.out.size))
      have HA6 := Lib.hid (HA5.out.below hb (Nat.le_refl _))
      have HX6 := Lib.hid (HX5.out.kept hb)
      have HY6 := Lib.hid ho
      clear hb ho
      go_wp2_with fail
      refine (eq_users _ (UIn.made HX6.out HSM.out) (UIn.made HY6.out HSM.out)).mono ?_
      rintro e w7 ⟨rfl, hb⟩
      have HB7 := Lib.hid (HB6.out.trans (hb.mono HB6.out.size))
      have HA7 := Lib.hid (HA6.out.below hb (Nat.le_refl _))
      have HX7 := Lib.hid (HX6.out.kept hb)
      have HY7 := Lib.hid (HY6.out.kept hb)
      clear hb
      go_wp2
      go_ret
      exact ⟨rfl, HB7.out⟩
  ·
    have hlenI : (1048576 : Int) < (len : Int) := by omega
    go_enter Try.func11, Try.ntmps11
    go_wp2_with fail
    refine (sz_users_no A len cap 1048576 _ (by omega) (by omega) hlenI HLM.out).mono ?_
    rintro e w1 ⟨rfl, hb⟩
    have HB1 := Lib.hid hb
    clear hb
    go_wp2
    go_ret
    exact ⟨rfl, HB1.out⟩
set_option maxRecDepth 20000 in
set_option maxHeartbeats 8000000 in
theorem law_FnExactUsersFind (A : Option Addr) (len cap : Nat) (s : ByteArray) (w : World) (h : UsArg w A len cap) (_ : s.size ≤ maxLen) : Calls Try.prog 12 #[.slice A len cap, .string s] w (Holds1 w) := by
  obtain ⟨L, hn, hlc, hcm, hat, htx⟩ := h
  have hlm : len ≤ maxLen := by omega
  have HN := Lib.hid hn
  have HLM := Lib.hid hlm
  have HA0 := Lib.hid hat
  have HTX := Lib.hid htx
  clear hn hlc hcm hat htx hlm
  by_cases hss : s.size ≤ 1048576
  ·
    have hss' : (s.size : Int) ≤ 1048576 := by omega
    by_cases hlen : len ≤ 1048576
    ·
      obtain ⟨r, hr⟩ : ∃ r, szU L (1048576 - (len : Int)) = r := ⟨_, rfl⟩
      have HR := Lib.hid hr
      have hlen0 : len ≤ 1048576 := hlen
      have hlenI : (len : Int) ≤ 1048576 := by omega
      by_cases hr0 : r < 0
      ·
        clear hr
        go_enter Try.func12, Try.ntmps12
        go_wp2_with fail
        refine (sz_users A len cap 1048576 r L _ HN.out HA0.out HTX.out (by omega) (by omega) hlenI HR.out).mono ?_
        rintro e w1 ⟨rfl, hb⟩
        have HB1 := Lib.hid hb
        clear hb
        go_wp2
        go_ret
        exact ⟨rfl, HB1.out⟩
      ·
        have HSM : Hid (smallU L) := Lib.hid ⟨by rw [HN.out]; omega, fun g hg => by have := szU_le (L := L) (z := 1048576 - (len : Int)) (by omega) (by rw [hr]; omega) g hg; omega⟩
        clear hr
        obtain ⟨⟨⟨n1, p1, q1⟩, v⟩, hf⟩ : ∃ x, usF L s = x := ⟨_, rfl⟩
        have HF := Lib.hid hf
        have hvv : (v != v) = false := by simp
        clear hf
        go_enter Try.func12, Try.ntmps12
        go_wp2_with fail
        refine (sz_users A len cap 1048576 r L _ HN.out HA0.out HTX.out (by omega) (by omega) hlenI HR.out).mono ?_
        rintro e w1 ⟨rfl, hb⟩
        have HB1 := Lib.hid hb
        have HA1 := Lib.hid (HA0.out.below hb (Nat.le_refl _))
        clear hb
        go_wp2_with fail
        refine (to_users A len cap L _ HN.out HA1.out hlen0).mono ?_
        rintro e w2 ⟨gT, rfl, ho, hb⟩
        have HB2 := Lib.hid (HB1.out.trans (hb.mono HB1.out.size))
        have HA2 := Lib.hid (HA1.out.below hb (Nat.le_refl _))
        have HT2 := Lib.hid ho
        clear hb ho
        go_wp2_with fail
        refine (spec_uf HF.out _ (UIn.made HT2.out HSM.out)).mono ?_
        rintro e w3 ⟨rfl, hb⟩
        have HB3 := Lib.hid (HB2.out.trans (hb.mono HB2.out.size))
        have HA3 := Lib.hid (HA2.out.below hb (Nat.le_refl _))
        have HT3 := Lib.hid (HT2.out.kept hb)
        clear hb
        unfold usV
        obtain ⟨CE, hCE⟩ : ∃ C, w3.heap.size = C := ⟨_, rfl⟩
        obtain ⟨w4, hw4⟩ : ∃ wa, w3.alloc (.cells #[.string n1, .string p1, .int .i64 q1] 27) = wa := ⟨_, rfl⟩
        have hnE : Below w3.heap.size w3 w4 := by rw [← hw4]; exact (Below.refl _ _).alloc (Nat.le_refl _) _
        have HB4 := Lib.hid (HB3.out.trans (hnE.mono HB3.out.size))
        have HA4 := Lib.hid (HA3.out.below hnE (Nat.le_refl _))
        have HE4 := Lib.hid (show Whole w4 CE 27 #[.string n1, .string p1, .int .i64 q1] by rw [← hw4, ← hCE]; exact Whole.made _ _ _)
        have HWA4 := Lib.hid hw4
        have HCC4 := Lib.hid hCE
        clear hw4 hCE hnE
        go_wp2_with fail
        rw [HWA4.out, HCC4.out]
        refine (to_users A len cap L _ HN.out HA4.out hlen0).mono ?_
        rintro e w5 ⟨gX, rfl, ho, hb⟩
        have HB5 := Lib.hid (HB4.out.trans (hb.mono HB4.out.size))
        have HA5 := Lib.hid (HA4.out.below hb (Nat.le_refl _))
        have HE5 := Lib.hid (HE4.out.below hb HE4.out.lt)
        have HX5 := Lib.hid ho
        clear hb ho
        go_wp2_with fail
        refine (impl_uf HF.out _ (UIn.made HX5.out HSM.out)).mono ?_
        rintro e w6 ⟨rfl, hb⟩
        have HB6 := Lib.hid (HB5.out.trans (hb.mono HB5.out.size))
        have HA6 := Lib.hid (HA5.out.below hb (Nat.le_refl _))
        have HE6 := Lib.hid (HE5.out.below hb HE5.out.lt)
        have HX6 := Lib.hid (HX5.out.kept hb)
        clear hb
        unfold usV
        obtain ⟨CF, hCF⟩ : ∃ C, w6.heap.size = C := ⟨_, rfl⟩
        obtain ⟨w7, hw7⟩ : ∃ wa, w6.alloc (.cells #[.string n1, .string p1, .int .i64 q1] 27) = wa := ⟨_, rfl⟩
        have hnF : Below w6.heap.size w6 w7 := by rw [← hw7]; exact (Below.refl _ _).alloc (Nat.le_refl _) _
        have HB7 := Lib.hid (HB6.out.trans (hnF.mono HB6.out.size))
        have HA7 := Lib.hid (HA6.out.below hnF (Nat.le_refl _))
        have HE7 := Lib.hid (HE6.out.below hnF HE6.out.lt)
        have HX7 := Lib.hid (HX6.out.kept hnF)
        have HF7 := Lib.hid (show Whole w7 CF 27 #[.string n1, .string p1, .int .i64 q1] by rw [← hw7, ← hCF]; exact Whole.made _ _ _)
        have HWA7 := Lib.hid hw7
        have HCC7 := Lib.hid hCF
        clear hw7 hCF hnF
        have e0 : (w6.alloc (.cells #[.string n1, .string p1, .int .i64 q1] 27)).cell? ⟨CE, 0, none⟩ = some (.string n1) := by rw [HWA7.out]; exact HE7.out.cell 0
        have e1 : (w6.alloc (.cells #[.string n1, .string p1, .int .i64 q1] 27)).cell? ⟨CE, 1, none⟩ = some (.string p1) := by rw [HWA7.out]; exact HE7.out.cell 1
        have e2 : (w6.alloc (.cells #[.string n1, .string p1, .int .i64 q1] 27)).cell? ⟨CE, 2, none⟩ = some (.int .i64 q1) := by rw [HWA7.out]; exact HE7.out.cell 2
        have f0 : (w6.alloc (.cells #[.string n1, .string p1, .int .i64 q1] 27)).cell? ⟨w6.heap.size, 0, none⟩ = some (.string n1) := by rw [HWA7.out, HCC7.out]; exact HF7.out.cell 0
        have f1 : (w6.alloc (.cells #[.string n1, .string p1, .int .i64 q1] 27)).cell? ⟨w6.heap.size, 1, none⟩ = some (.string p1) := by rw [HWA7.out, HCC7.out]; exact HF7.out.cell 1
        have f2 : (w6.alloc (.cells #[.string n1, .string p1, .int .i64 q1] 27)).cell? ⟨w6.heap.size, 2, none⟩ = some (.int .i64 q1) := by rw [HWA7.out, HCC7.out]; exact HF7.out.cell 2
        go_wp2_with fail
        rw [HWA7.out, HCC7.out]
        refine (eq_user_same n1 p1 q1 _).mono ?_
        rintro e w8 ⟨rfl, hb⟩
        have HB8 := Lib.hid (HB7.out.trans (hb.mono HB7.out.size))
        have HA8 := Lib.hid (HA7.out.below hb (Nat.le_refl _))
        have HE8 := Lib.hid (HE7.out.below hb HE7.out.lt)
        have HX8 := Lib.hid (HX7.out.kept hb)
        have HF8 := Lib.hid (HF7.out.below hb HF7.out.lt)
        clear hb
        go_wp2_with fail
        refine (to_users A len cap L _ HN.out HA8.out hlen0).mono ?_
        rintro e w9 ⟨gY, rfl, ho, hb⟩
        have HB9 := Lib.hid (HB8.out.trans (hb.mono HB8.out.size))
        have HA9 := Lib.hid (HA8.out.below hb (Nat.le_refl _))
        have HX9 := Lib.hid (HX8.out.kept hb)
        have HY9 := Lib.hid ho
        clear hb ho
        go_wp2_with fail
        refine (eq_users _ (UIn.made HX9.out HSM.out) (UIn.made HY9.out HSM.out)).mono ?_
        rintro e w10 ⟨rfl, hb⟩
        have HB10 := Lib.hid (HB9.out.trans (hb.mono HB9.out.size))
        have HA10 := Lib.hid (HA9.out.below hb (Nat.le_refl _))
        have HX10 := Lib.hid (HX9.out.kept hb)
        have HY10 := Lib.hid (HY9.out.kept hb)
        clear hb
        go_wp2
        go_ret
        exact ⟨rfl, HB10.out⟩
    ·
      have hlenI : (1048576 : Int) < (len : Int) := by omega
      go_enter Try.func12, Try.ntmps12
      go_wp2_with fail
      refine (sz_users_no A len cap 1048576 _ (by omega) (by omega) hlenI HLM.out).mono ?_
      rintro e w1 ⟨rfl, hb⟩
      have HB1 := Lib.hid hb
      clear hb
      go_wp2
      go_ret
      exact ⟨rfl, HB1.out⟩
  ·
    have hss' : (1048576 : Int) < (s.size : Int) := by omega
    go_enter Try.func12, Try.ntmps12
    go_wp2
    go_ret
    exact ⟨rfl, Below.refl _ _⟩
set_option maxRecDepth 20000 in
set_option maxHeartbeats 8000000 in
theorem law_FnExactUsersProve (A : Option Addr) (len cap : Nat) (s t : ByteArray) (w : World) (h : UsArg w A len cap) (_ : s.size ≤ maxLen) (_ : t.size ≤ maxLen) : Calls Try.prog 13 #[.slice A len cap, .string s, .string t] w (Holds1 w) := by
  obtain ⟨L, hn, hlc, hcm, hat, htx⟩ := h
  have hlm : len ≤ maxLen := by omega
  have HN := Lib.hid hn
  have HLM := Lib.hid hlm
  have HA0 := Lib.hid hat
  have HTX := Lib.hid htx
  clear hn hlc hcm hat htx hlm
  by_cases hss : s.size ≤ 1048576
  ·
    have hss' : (s.size : Int) ≤ 1048576 := by omega
    by_cases hst : t.size ≤ 1048576
    ·
      have hst' : (t.size : Int) ≤ 1048576 := by omega
      by_cases hlen : len ≤ 1048576
      ·
        obtain ⟨r, hr⟩ : ∃ r, szU L (1048576 - (len : Int)) = r := ⟨_, rfl⟩
        have HR := Lib.hid hr
        have hlen0 : len ≤ 1048576 := hlen
        have hlenI : (len : Int) ≤ 1048576 := by omega
        by_cases hr0 : r < 0
        ·
          clear hr
          go_enter Try.func13, Try.ntmps13
          go_wp2_with fail
          refine (sz_users A len cap 1048576 r L _ HN.out HA0.out HTX.out (by omega) (by omega) hlenI HR.out).mono ?_
          rintro e w1 ⟨rfl, hb⟩
          have HB1 := Lib.hid hb
          clear hb
          go_wp2
          go_ret
          exact ⟨rfl, HB1.out⟩
        ·
          have HSM : Hid (smallU L) := Lib.hid ⟨by rw [HN.out]; omega, fun g hg => by have := szU_le (L := L) (z := 1048576 - (len : Int)) (by omega) (by rw [hr]; omega) g hg; omega⟩
          clear hr
          obtain ⟨v, hv⟩ : ∃ v, prU L s t = v := ⟨_, rfl⟩
          have HV := Lib.hid hv
          have hvv : (v != v) = false := by simp
          clear hv
          go_enter Try.func13, Try.ntmps13
          go_wp2_with fail
          refine (sz_users A len cap 1048576 r L _ HN.out HA0.out HTX.out (by omega) (by omega) hlenI HR.out).mono ?_
          rintro e w1 ⟨rfl, hb⟩
          have HB1 := Lib.hid hb
          have HA1 := Lib.hid (HA0.out.below hb (Nat.le_refl _))
          clear hb
          go_wp2_with fail
          refine (to_users A len cap L _ HN.out HA1.out hlen0).mono ?_
          rintro e w2 ⟨gT, rfl, ho, hb⟩
          have HB2 := Lib.hid (HB1.out.trans (hb.mono HB1.out.size))
          have HA2 := Lib.hid (HA1.out.below hb (Nat.le_refl _))
          have HT2 := Lib.hid ho
          clear hb ho
          go_wp2_with fail
          refine (spec_up HV.out _ (UIn.made HT2.out HSM.out)).mono ?_
          rintro e w3 ⟨rfl, hb⟩
          have HB3 := Lib.hid (HB2.out.trans (hb.mono HB2.out.size))
          have HA3 := Lib.hid (HA2.out.below hb (Nat.le_refl _))
          have HT3 := Lib.hid (HT2.out.kept hb)
          clear hb
          go_wp2_with fail
          refine (to_users A len cap L _ HN.out HA3.out hlen0).mono ?_
          rintro e w4 ⟨gX, rfl, ho, hb⟩
          have HB4 := Lib.hid (HB3.out.trans (hb.mono HB3.out.size))
          have HA4 := Lib.hid (HA3.out.below hb (Nat.le_refl _))
          have HX4 := Lib.hid ho
          clear hb ho
          go_wp2_with fail
          refine (impl_up HV.out _ (UIn.made HX4.out HSM.out)).mono ?_
          rintro e w5 ⟨rfl, hb⟩
          have HB5 := Lib.hid (HB4.out.trans (hb.mono HB4.out.size))
          have HA5 := Lib.hid (HA4.out.below hb (Nat.le_refl _))
          have HX5 := Lib.hid (HX4.out.kept hb)
          clear hb
          go_wp2_with fail
          refine (to_users A len cap L _ HN.out HA5.out hlen0).mono ?_
          rintro e w6 ⟨gY, rfl, ho, hb⟩
          have HB6 := Lib.hid (HB5.out.trans (hb.mono HB5.out.size))
          have HA6 := Lib.hid (HA5.out.below hb (Nat.le_refl _))
          have HX6 := Lib.hid (HX5.out.kept hb)
          have HY6 := Lib.hid ho
          clear hb ho
          go_wp2_with fail
          refine (eq_users _ (UIn.made HX6.out HSM.out) (UIn.made HY6.out HSM.out)).mono ?_
          rintro e w7 ⟨rfl, hb⟩
          have HB7 := Lib.hid (HB6.out.trans (hb.mono HB6.out.size))
          have HA7 := Lib.hid (HA6.out.below hb (Nat.le_refl _))
          have HX7 := Lib.hid (HX6.out.kept hb)
          have HY7 := Lib.hid (HY6.out.kept hb)
          clear hb
          go_wp2
          go_ret
          exact ⟨rfl, HB7.out⟩
      ·
        have hlenI : (1048576 : Int) < (len : Int) := by omega
        go_enter Try.func13, Try.ntmps13
        go_wp2_with fail
        refine (sz_users_no A len cap 1048576 _ (by omega) (by omega) hlenI HLM.out).mono ?_
        rintro e w1 ⟨rfl, hb⟩
        have HB1 := Lib.hid hb
        clear hb
        go_wp2
        go_ret
        exact ⟨rfl, HB1.out⟩
    ·
      have hst' : (1048576 : Int) < (t.size : Int) := by omega
      go_enter Try.func13, Try.ntmps13
      go_wp2
      go_ret
      exact ⟨rfl, Below.refl _ _⟩
  ·
    have hss' : (1048576 : Int) < (s.size : Int) := by omega
    go_enter Try.func13, Try.ntmps13
    go_wp2
    go_ret
    exact ⟨rfl, Below.refl _ _⟩
set_option maxRecDepth 20000 in
set_option maxHeartbeats 8000000 in
theorem law_FnExactUsersPlain (A : Option Addr) (len cap : Nat) (s : ByteArray) (w : World) (h : UsArg w A len cap) (_ : s.size ≤ maxLen) : Calls Try.prog 14 #[.slice A len cap, .string s] w (Holds1 w) := by
  obtain ⟨L, hn, hlc, hcm, hat, htx⟩ := h
  have hlm : len ≤ maxLen := by omega
  have HN := Lib.hid hn
  have HLM := Lib.hid hlm
  have HA0 := Lib.hid hat
  have HTX := Lib.hid htx
  clear hn hlc hcm hat htx hlm
  by_cases hss : s.size ≤ 1048576
  ·
    have hss' : (s.size : Int) ≤ 1048576 := by omega
    by_cases hlen : len ≤ 1048576
    ·
      obtain ⟨r, hr⟩ : ∃ r, szU L (1048576 - (len : Int)) = r := ⟨_, rfl⟩
      have HR := Lib.hid hr
      have hlen0 : len ≤ 1048576 := hlen
      have hlenI : (len : Int) ≤ 1048576 := by omega
      by_cases hr0 : r < 0
      ·
        clear hr
        go_enter Try.func14, Try.ntmps14
        go_wp2_with fail
        refine (sz_users A len cap 1048576 r L _ HN.out HA0.out HTX.out (by omega) (by omega) hlenI HR.out).mono ?_
        rintro e w1 ⟨rfl, hb⟩
        have HB1 := Lib.hid hb
        clear hb
        go_wp2
        go_ret
        exact ⟨rfl, HB1.out⟩
      ·
        have HSM : Hid (smallU L) := Lib.hid ⟨by rw [HN.out]; omega, fun g hg => by have := szU_le (L := L) (z := 1048576 - (len : Int)) (by omega) (by rw [hr]; omega) g hg; omega⟩
        clear hr
        obtain ⟨o, n, p, hq⟩ := isPP_any s
        have HQ := Lib.hid hq
        obtain ⟨⟨x, v⟩, hup⟩ : ∃ r, upU L n p o = r := ⟨_, rfl⟩
        have HUP := Lib.hid hup
        have hvv : (v != v) = false := by simp
        have hxx : (x.toList != x.toList) = false := by simp
        have hs16 : s.size ≤ 16777216 := by omega
        clear hq hup
        go_enter Try.func14, Try.ntmps14
        go_wp2_with fail
        refine (sz_users A len cap 1048576 r L _ HN.out HA0.out HTX.out (by omega) (by omega) hlenI HR.out).mono ?_
        rintro e w1 ⟨rfl, hb⟩
        have HB1 := Lib.hid hb
        have HA1 := Lib.hid (HA0.out.below hb (Nat.le_refl _))
        clear hb
        go_wp2_with fail
        refine (to_users A len cap L _ HN.out HA1.out hlen0).mono ?_
        rintro e w2 ⟨gT, rfl, ho, hb⟩
        have HB2 := Lib.hid (HB1.out.trans (hb.mono HB1.out.size))
        have HA2 := Lib.hid (HA1.out.below hb (Nat.le_refl _))
        have HT2 := Lib.hid ho
        clear hb ho
        go_wp2_with fail
        refine (spec_upl HQ.out HUP.out _ (UIn.made HT2.out HSM.out) hs16).mono ?_
        rintro e w3 ⟨rfl, hb⟩
        have HB3 := Lib.hid (HB2.out.trans (hb.mono HB2.out.size))
        have HA3 := Lib.hid (HA2.out.below hb (Nat.le_refl _))
        have HT3 := Lib.hid (HT2.out.kept hb)
        clear hb
        go_wp2_with fail
        refine (to_users A len cap L _ HN.out HA3.out hlen0).mono ?_
        rintro e w4 ⟨gX, rfl, ho, hb⟩
        have HB4 := Lib.hid (HB3.out.trans (hb.mono HB3.out.size))
        have HA4 := Lib.hid (HA3.out.below hb (Nat.le_refl _))
        have HX4 := Lib.hid ho
        clear hb ho
        go_wp2_with fail
        refine (impl_upl HQ.out HUP.out _ (UIn.made HX4.out HSM.out) hs16).mono ?_
        rintro e w5 ⟨rfl, hb⟩
        have HB5 := Lib.hid (HB4.out.trans (hb.mono HB4.out.size))
        have HA5 := Lib.hid (HA4.out.below hb (Nat.le_refl _))
        have HX5 := Lib.hid (HX4.out.kept hb)
        clear hb
        go_wp2_with fail
        refine (to_users A len cap L _ HN.out HA5.out hlen0).mono ?_
        rintro e w6 ⟨gY, rfl, ho, hb⟩
        have HB6 := Lib.hid (HB5.out.trans (hb.mono HB5.out.size))
        have HA6 := Lib.hid (HA5.out.below hb (Nat.le_refl _))
        have HX6 := Lib.hid (HX5.out.kept hb)
        have HY6 := Lib.hid ho
        clear hb ho
        go_wp2_with fail
        refine (eq_users _ (UIn.made HX6.out HSM.out) (UIn.made HY6.out HSM.out)).mono ?_
        rintro e w7 ⟨rfl, hb⟩
        have HB7 := Lib.hid (HB6.out.trans (hb.mono HB6.out.size))
        have HA7 := Lib.hid (HA6.out.below hb (Nat.le_refl _))
        have HX7 := Lib.hid (HX6.out.kept hb)
        have HY7 := Lib.hid (HY6.out.kept hb)
        clear hb
        go_wp2
        go_ret
        exact ⟨rfl, HB7.out⟩
    ·
      have hlenI : (1048576 : Int) < (len : Int) := by omega
      go_enter Try.func14, Try.ntmps14
      go_wp2_with fail
      refine (sz_users_no A len cap 1048576 _ (by omega) (by omega) hlenI HLM.out).mono ?_
      rintro e w1 ⟨rfl, hb⟩
      have HB1 := Lib.hid hb
      clear hb
      go_wp2
      go_ret
      exact ⟨rfl, HB1.out⟩
  ·
    have hss' : (1048576 : Int) < (s.size : Int) := by omega
    go_enter Try.func14, Try.ntmps14
    go_wp2
    go_ret
    exact ⟨rfl, Below.refl _ _⟩
end Go.Proofs.Ytmangdkaklnpdaa
