/-
  The walks of the laws FnExactAclValid, FnExactAclRights and FnExactAclSet. Condition: the arguments can be read.
-/
import Derived.Test.YtnnmnphmbjfopaaGf
import Derived.Test.YtnnmnphmbjfopaaLawa
namespace Go.Proofs.Ytnnmnphmbjfopaa
open Go.RowKit
set_option linter.unusedVariables false

theorem rat_far {α : Type} {R : RowT α} {w0 w w' : World} {A : Option Addr} {L : List α} {row : Option Nat} (h0 : RAt R w0 A L) (h : RAt R w A L) (hg : w.grownBy w' row) (hrow : ∀ g, row = some g → w0.heap.size ≤ g) : RAt R w' A L := fun i x hx => by
  obtain ⟨b, o, hA, hb, h1⟩ := h i x hx
  obtain ⟨b', o', hA', hb', _⟩ := h0 i x hx
  rw [hA] at hA'
  cases hA'
  exact ⟨b, o, hA, Nat.lt_of_lt_of_le hb hg.size, fun j u hu => (World.cell?_of_block (hg.block b hb (fun e => by have := hrow b e.symm; omega))).trans (h1 j u hu)⟩
theorem below_far {w0 w w' : World} {row : Option Nat} (h : Below w0.heap.size w0 w) (hg : w.grownBy w' row) (hrow : ∀ g, row = some g → w0.heap.size ≤ g) : Below w0.heap.size w0 w' := h.grown hg h.size hrow
theorem own_far {w w2 : World} {B B2 : Nat} {v v2 : Value} {L M : List Gr} (h : ROwn grR w B v L) (h2 : ROwn grR w2 B2 v2 M) (hle : w.heap.size ≤ B2) : v.ownBlock = none ∨ v.ownBlock ≠ v2.ownBlock := by
  cases hp : v.ownBlock with
  | none => exact .inl rfl
  | some p =>
    refine .inr fun e => ?_
    have h3 := (World.ownsRow.lt h p hp).2
    have h4 := (World.ownsRow.lt h2 p e.symm).1
    omega
theorem mark_one {r : Nat} (A : Option Addr) (cap n B : Nat) (L : List Gr) (w : World) (hn : L.length = n) (h : ROwn grR w B (.slice A n cap) L) (hl : n ≤ 4000000) (hr : 1 + 2 * n = r) :
    Calls Try.prog 44 #[.slice A n cap, .int .i64 1] w fun e w' => e = .returned (.int .i64 (r : Int)) ∧ ROwn grR w' B (.slice A n cap) (mkg 1 n) ∧ w.grownBy w' (Value.slice A n cap).ownBlock := mark_grants 1 r A cap n B L w hn h hl (by omega) (by omega) hr
theorem held_one {r : Nat} (A : Option Addr) (cap n : Nat) (w : World) (h : RAt grR w A (mkg 1 n)) (hl : n ≤ 4000000) (hr : 1 + 2 * n = r) :
    Calls Try.prog 45 #[.slice A n cap, .int .i64 1] w fun e w' => e = .returned (.int .i64 (r : Int)) ∧ Below w.heap.size w w' := held_grants 1 r A cap n w h hl (by omega) (by omega) hr

theorem aclG_len {L M : List Gr} {u : ByteArray} {r : Int} {z : Bool} (h : aclG L u r = (M, z)) : M.length ≤ L.length + 1 := by
  cases hc : (vG L && (nameB (kb u) && isR r)) with
  | false => rw [aclG_no hc] at h; cases h; simp
  | true =>
    simp only [Bool.and_eq_true] at hc
    have ha := (vG_iff.1 hc.1).2.2
    rw [aclG_yes hc.1 hc.2.1 hc.2.2] at h
    split at h
    · cases h
      unfold setG
      split
      · exact Nat.le_succ_of_le (List.length_filter_le _ _)
      · rw [insG_len ha]; split <;> omega
    · cases h; omega
set_option maxRecDepth 20000 in
set_option maxHeartbeats 8000000 in
theorem law_FnExactAclValid (A : Option Addr) (len cap : Nat)  (w : World) (h : GrArg w A len cap)  : Calls Try.prog 18 #[.slice A len cap] w (Holds1 w) := by
  obtain ⟨L, hn, hlc, hcm, hat, htx⟩ := h
  have hlm : len ≤ maxLen := by omega
  have HN := Lib.hid hn
  have HLM := Lib.hid hlm
  have HA0 := Lib.hid hat
  have HTX := Lib.hid htx
  clear hn hlc hcm hat htx hlm
  by_cases hlen : len ≤ 1048576
  ·
    obtain ⟨r, hr⟩ : ∃ r, szG L (1048576 - (len : Int)) = r := ⟨_, rfl⟩
    have HR := Lib.hid hr
    have hlen0 : len ≤ 1048576 := hlen
    have hlenI : (len : Int) ≤ 1048576 := by omega
    by_cases hr0 : r < 0
    ·
      clear hr
      go_enter Try.func18, Try.ntmps18
      go_wp2_with fail
      refine (sz_grants A len cap 1048576 r L _ HN.out HA0.out HTX.out (by omega) (by omega) hlenI HR.out).mono ?_
      rintro e w1 ⟨rfl, hb⟩
      have HB1 := Lib.hid hb
      clear hb
      go_wp2
      go_ret
      exact ⟨rfl, HB1.out⟩
    ·
      have HSM : Hid (smallG L) := Lib.hid ⟨by rw [HN.out]; omega, fun g hg => by have := szG_le (L := L) (z := 1048576 - (len : Int)) (by omega) (by rw [hr]; omega) g hg; omega⟩
      clear hr
      obtain ⟨v, hv⟩ : ∃ v, vG L = v := ⟨_, rfl⟩
      have HV := Lib.hid hv
      have hvv : (v != v) = false := by simp
      clear hv
      go_enter Try.func18, Try.ntmps18
      go_wp2_with fail
      refine (sz_grants A len cap 1048576 r L _ HN.out HA0.out HTX.out (by omega) (by omega) hlenI HR.out).mono ?_
      rintro e w1 ⟨rfl, hb⟩
      have HB1 := Lib.hid hb
      have HA1 := Lib.hid (HA0.out.below hb (Nat.le_refl _))
      clear hb
      go_wp2_with fail
      refine (to_grants A len cap L _ HN.out HA1.out hlen0).mono ?_
      rintro e w2 ⟨gT, rfl, ho, hb⟩
      have HB2 := Lib.hid (HB1.out.trans (hb.mono HB1.out.size))
      have HA2 := Lib.hid (HA1.out.below hb (Nat.le_refl _))
      have HT2 := Lib.hid ho
      clear hb ho
      go_wp2_with fail
      refine (aclsv_at HV.out _ (GIn.made HT2.out HSM.out)).mono ?_
      rintro e w3 ⟨rfl, hb⟩
      have HB3 := Lib.hid (HB2.out.trans (hb.mono HB2.out.size))
      have HA3 := Lib.hid (HA2.out.below hb (Nat.le_refl _))
      have HT3 := Lib.hid (HT2.out.kept hb)
      clear hb
      go_wp2_with fail
      refine (to_grants A len cap L _ HN.out HA3.out hlen0).mono ?_
      rintro e w4 ⟨gX, rfl, ho, hb⟩
      have HB4 := Lib.hid (HB3.out.trans (hb.mono HB3.out.size))
      have HA4 := Lib.hid (HA3.out.below hb (Nat.le_refl _))
      have HT4 := Lib.hid (HT3.out.kept hb)
      have HX4 := Lib.hid ho
      clear hb ho
      go_wp2_with fail
      refine (aclv_at HV.out _ (GIn.made HX4.out HSM.out)).mono ?_
      rintro e w5 ⟨rfl, hb⟩
      have HB5 := Lib.hid (HB4.out.trans (hb.mono HB4.out.size))
      have HA5 := Lib.hid (HA4.out.below hb (Nat.le_refl _))
      have HT5 := Lib.hid (HT4.out.kept hb)
      have HX5 := Lib.hid (HX4.out.kept hb)
      clear hb
      go_wp2_with fail
      refine (to_grants A len cap L _ HN.out HA5.out hlen0).mono ?_
      rintro e w6 ⟨gY, rfl, ho, hb⟩
      have HB6 := Lib.hid (HB5.out.trans (hb.mono HB5.out.size))
      have HA6 := Lib.hid (HA5.out.below hb (Nat.le_refl _))
      have HT6 := Lib.hid (HT5.out.kept hb)
      have HX6 := Lib.hid (HX5.out.kept hb)
      have HY6 := Lib.hid ho
      clear hb ho
      go_wp2_with fail
      refine (eq_grants _ (GIn.made HX6.out HSM.out) (GIn.made HY6.out HSM.out)).mono ?_
      rintro e w7 ⟨rfl, hb⟩
      have HB7 := Lib.hid (HB6.out.trans (hb.mono HB6.out.size))
      have HA7 := Lib.hid (HA6.out.below hb (Nat.le_refl _))
      have HT7 := Lib.hid (HT6.out.kept hb)
      have HX7 := Lib.hid (HX6.out.kept hb)
      have HY7 := Lib.hid (HY6.out.kept hb)
      clear hb
      go_wp2
      go_ret
      exact ⟨rfl, HB7.out⟩
  ·
    have hlenI : (1048576 : Int) < (len : Int) := by omega
    go_enter Try.func18, Try.ntmps18
    go_wp2_with fail
    refine (sz_grants_no A len cap 1048576 _ (by omega) (by omega) hlenI HLM.out).mono ?_
    rintro e w1 ⟨rfl, hb⟩
    have HB1 := Lib.hid hb
    clear hb
    go_wp2
    go_ret
    exact ⟨rfl, HB1.out⟩
set_option maxRecDepth 20000 in
set_option maxHeartbeats 8000000 in
theorem law_FnExactAclRights (A : Option Addr) (len cap : Nat) (o u : ByteArray) (w : World) (h : GrArg w A len cap) (_ : o.size ≤ maxLen) (_ : u.size ≤ maxLen) : Calls Try.prog 20 #[.slice A len cap, .string o, .string u] w (Holds1 w) := by
  obtain ⟨L, hn, hlc, hcm, hat, htx⟩ := h
  have hlm : len ≤ maxLen := by omega
  have HN := Lib.hid hn
  have HLM := Lib.hid hlm
  have HA0 := Lib.hid hat
  have HTX := Lib.hid htx
  clear hn hlc hcm hat htx hlm
  by_cases hso : o.size ≤ 1048576
  ·
    have hso' : (o.size : Int) ≤ 1048576 := by omega
    by_cases hsu : u.size ≤ 1048576
    ·
      have hsu' : (u.size : Int) ≤ 1048576 := by omega
      by_cases hlen : len ≤ 1048576
      ·
        obtain ⟨r, hr⟩ : ∃ r, szG L (1048576 - (len : Int)) = r := ⟨_, rfl⟩
        have HR := Lib.hid hr
        have hlen0 : len ≤ 1048576 := hlen
        have hlenI : (len : Int) ≤ 1048576 := by omega
        by_cases hr0 : r < 0
        ·
          clear hr
          go_enter Try.func20, Try.ntmps20
          go_wp2_with fail
          refine (sz_grants A len cap 1048576 r L _ HN.out HA0.out HTX.out (by omega) (by omega) hlenI HR.out).mono ?_
          rintro e w1 ⟨rfl, hb⟩
          have HB1 := Lib.hid hb
          clear hb
          go_wp2
          go_ret
          exact ⟨rfl, HB1.out⟩
        ·
          have HSM : Hid (smallG L) := Lib.hid ⟨by rw [HN.out]; omega, fun g hg => by have := szG_le (L := L) (z := 1048576 - (len : Int)) (by omega) (by rw [hr]; omega) g hg; omega⟩
          clear hr
          obtain ⟨v, hv⟩ : ∃ v, acR L o u = v := ⟨_, rfl⟩
          have HV := Lib.hid hv
          have hvv : (v != v) = false := by simp
          have ho16 : o.size ≤ 16777216 := by omega
          have hu16 : u.size ≤ 16777216 := by omega
          clear hv
          go_enter Try.func20, Try.ntmps20
          go_wp2_with fail
          refine (sz_grants A len cap 1048576 r L _ HN.out HA0.out HTX.out (by omega) (by omega) hlenI HR.out).mono ?_
          rintro e w1 ⟨rfl, hb⟩
          have HB1 := Lib.hid hb
          have HA1 := Lib.hid (HA0.out.below hb (Nat.le_refl _))
          clear hb
          go_wp2_with fail
          refine (to_grants A len cap L _ HN.out HA1.out hlen0).mono ?_
          rintro e w2 ⟨gT, rfl, ho, hb⟩
          have HB2 := Lib.hid (HB1.out.trans (hb.mono HB1.out.size))
          have HA2 := Lib.hid (HA1.out.below hb (Nat.le_refl _))
          have HT2 := Lib.hid ho
          clear hb ho
          go_wp2_with fail
          refine (spec_aclrights HV.out _ (GIn.made HT2.out HSM.out) ho16 hu16).mono ?_
          rintro e w3 ⟨rfl, hb⟩
          have HB3 := Lib.hid (HB2.out.trans (hb.mono HB2.out.size))
          have HA3 := Lib.hid (HA2.out.below hb (Nat.le_refl _))
          have HT3 := Lib.hid (HT2.out.kept hb)
          clear hb
          go_wp2_with fail
          refine (to_grants A len cap L _ HN.out HA3.out hlen0).mono ?_
          rintro e w4 ⟨gX, rfl, ho, hb⟩
          have HB4 := Lib.hid (HB3.out.trans (hb.mono HB3.out.size))
          have HA4 := Lib.hid (HA3.out.below hb (Nat.le_refl _))
          have HT4 := Lib.hid (HT3.out.kept hb)
          have HX4 := Lib.hid ho
          clear hb ho
          go_wp2_with fail
          refine (impl_aclrights HV.out _ (GIn.made HX4.out HSM.out) ho16 hu16).mono ?_
          rintro e w5 ⟨rfl, hb⟩
          have HB5 := Lib.hid (HB4.out.trans (hb.mono HB4.out.size))
          have HA5 := Lib.hid (HA4.out.below hb (Nat.le_refl _))
          have HT5 := Lib.hid (HT4.out.kept hb)
          have HX5 := Lib.hid (HX4.out.kept hb)
          clear hb
          go_wp2_with fail
          refine (to_grants A len cap L _ HN.out HA5.out hlen0).mono ?_
          rintro e w6 ⟨gY, rfl, ho, hb⟩
          have HB6 := Lib.hid (HB5.out.trans (hb.mono HB5.out.size))
          have HA6 := Lib.hid (HA5.out.below hb (Nat.le_refl _))
          have HT6 := Lib.hid (HT5.out.kept hb)
          have HX6 := Lib.hid (HX5.out.kept hb)
          have HY6 := Lib.hid ho
          clear hb ho
          go_wp2_with fail
          refine (eq_grants _ (GIn.made HX6.out HSM.out) (GIn.made HY6.out HSM.out)).mono ?_
          rintro e w7 ⟨rfl, hb⟩
          have HB7 := Lib.hid (HB6.out.trans (hb.mono HB6.out.size))
          have HA7 := Lib.hid (HA6.out.below hb (Nat.le_refl _))
          have HT7 := Lib.hid (HT6.out.kept hb)
          have HX7 := Lib.hid (HX6.out.kept hb)
          have HY7 := Lib.hid (HY6.out.kept hb)
          clear hb
          go_wp2
          go_ret
          exact ⟨rfl, HB7.out⟩
      ·
        have hlenI : (1048576 : Int) < (len : Int) := by omega
        go_enter Try.func20, Try.ntmps20
        go_wp2_with fail
        refine (sz_grants_no A len cap 1048576 _ (by omega) (by omega) hlenI HLM.out).mono ?_
        rintro e w1 ⟨rfl, hb⟩
        have HB1 := Lib.hid hb
        clear hb
        go_wp2
        go_ret
        exact ⟨rfl, HB1.out⟩
    ·
      have hsu' : (1048576 : Int) < (u.size : Int) := by omega
      go_enter Try.func20, Try.ntmps20
      go_wp2
      go_ret
      exact ⟨rfl, Below.refl _ _⟩
  ·
    have hso' : (1048576 : Int) < (o.size : Int) := by omega
    go_enter Try.func20, Try.ntmps20
    go_wp2
    go_ret
    exact ⟨rfl, Below.refl _ _⟩
set_option maxRecDepth 20000 in
set_option maxHeartbeats 8000000 in
theorem law_FnExactAclSet (A : Option Addr) (len cap : Nat) (s : ByteArray) (x : Int) (w : World) (h : GrArg w A len cap) (_ : s.size ≤ maxLen) : Calls Try.prog 19 #[.slice A len cap, .string s, .int .i64 x] w (Holds1 w) := by
  obtain ⟨L, hn, hlc, hcm, hat, htx⟩ := h
  have hlm : len ≤ maxLen := by omega
  have HN := Lib.hid hn
  have HLM := Lib.hid hlm
  have HA0 := Lib.hid hat
  have HTX := Lib.hid htx
  clear hn hlc hcm hat htx hlm
  by_cases hss : s.size ≤ 1048576
  ·
    have hss' : (s.size : Int) ≤ 1048576 := by omega
    by_cases hlen : len ≤ 1048576
    ·
      obtain ⟨r, hr⟩ : ∃ r, szG L (1048576 - (len : Int)) = r := ⟨_, rfl⟩
      have HR := Lib.hid hr
      have hlen0 : len ≤ 1048576 := hlen
      have hlenI : (len : Int) ≤ 1048576 := by omega
      by_cases hr0 : r < 0
      ·
        clear hr
        go_enter Try.func19, Try.ntmps19
        go_wp2_with fail
        refine (sz_grants A len cap 1048576 r L _ HN.out HA0.out HTX.out (by omega) (by omega) hlenI HR.out).mono ?_
        rintro e w1 ⟨rfl, hb⟩
        have HB1 := Lib.hid hb
        clear hb
        go_wp2
        go_ret
        exact ⟨rfl, HB1.out⟩
      ·
        have HSM : Hid (smallG L) := Lib.hid ⟨by rw [HN.out]; omega, fun g hg => by have := szG_le (L := L) (z := 1048576 - (len : Int)) (by omega) (by rw [hr]; omega) g hg; omega⟩
        clear hr
        have hs16 : s.size ≤ 16777216 := by omega
        obtain ⟨⟨M, zz⟩, hac⟩ : ∃ y, aclG L s x = y := ⟨_, rfl⟩
        have HAC := Lib.hid hac
        have HSO := Lib.hid (aclG_small hac HSM.out hs16)
        have hzz : (zz != zz) = false := by simp
        have hM : M.length ≤ 1048577 := by
          have h1 := aclG_len hac
          have h2 := HN.out
          omega
        have HML := Lib.hid hM
        clear hac hM
        go_enter Try.func19, Try.ntmps19
        go_wp2_with fail
        refine (sz_grants A len cap 1048576 r L _ HN.out HA0.out HTX.out (by omega) (by omega) hlenI HR.out).mono ?_
        rintro e w1 ⟨rfl, hb⟩
        have HB1 := Lib.hid hb
        have HA1 := Lib.hid (HA0.out.below hb (Nat.le_refl _))
        clear hb
        go_wp2_with fail
        refine (to_grants A len cap L _ HN.out HA1.out hlen0).mono ?_
        rintro e w2 ⟨gT, rfl, ho, hb⟩
        have HB2 := Lib.hid (HB1.out.trans (hb.mono HB1.out.size))
        have HA2 := Lib.hid (HA1.out.below hb (Nat.le_refl _))
        have HT2 := Lib.hid ho
        clear hb ho
        go_wp2_with fail
        refine (spec_aclset HAC.out _ (GIn.made HT2.out HSM.out) hs16).mono ?_
        rintro e w3 ⟨AP, NP, capP, rfl, ho, hb⟩
        have HB3 := Lib.hid (HB2.out.trans (hb.mono HB2.out.size))
        have HA3 := Lib.hid (HA2.out.below hb (Nat.le_refl _))
        have HT3 := Lib.hid (HT2.out.kept hb)
        have HP3 := Lib.hid ho
        clear hb ho
        go_wp2_with fail
        refine (to_grants A len cap L _ HN.out HA3.out hlen0).mono ?_
        rintro e w4 ⟨gX, rfl, ho, hb⟩
        have HB4 := Lib.hid (HB3.out.trans (hb.mono HB3.out.size))
        have HA4 := Lib.hid (HA3.out.below hb (Nat.le_refl _))
        have HP4 := Lib.hid (HP3.out.kept hb)
        have HX4 := Lib.hid ho
        clear hb ho
        have HPX := Lib.hid (own_far HP3.out HX4.out (Nat.le_refl _))
        go_wp2_with fail
        refine (impl_aclset HAC.out _ (GIn.made HX4.out HSM.out) hs16).mono ?_
        rintro e w5 ⟨AO, NO, capO, rfl, ho, hb⟩
        have HB5 := Lib.hid (HB4.out.trans (hb.mono HB4.out.size))
        have HA5 := Lib.hid (HA4.out.below hb (Nat.le_refl _))
        have HP5 := Lib.hid (HP4.out.kept hb)
        have HX5 := Lib.hid (HX4.out.kept hb)
        have HO5 := Lib.hid ho
        clear hb ho
        have HOX := Lib.hid (own_far HX4.out HO5.out (Nat.le_refl _))
        have HOP := Lib.hid (own_far HP4.out HO5.out (Nat.le_refl _))
        obtain rfl : NO = NP := by rw [HO5.out.len.1, HP5.out.len.1]
        have hNO : NO ≤ 1048577 := by rw [HO5.out.len.1]; exact HML.out
        go_wp2_with fail
        refine (eq_grants _ (GIn.made HO5.out HSO.out) (GIn.made HP5.out HSO.out)).mono ?_
        rintro e w6 ⟨rfl, hb⟩
        have HB6 := Lib.hid (HB5.out.trans (hb.mono HB5.out.size))
        have HA6 := Lib.hid (HA5.out.below hb (Nat.le_refl _))
        have HP6 := Lib.hid (HP5.out.kept hb)
        have HX6 := Lib.hid (HX5.out.kept hb)
        have HO6 := Lib.hid (HO5.out.kept hb)
        clear hb
        go_wp2_with fail
        refine (to_grants A len cap L _ HN.out HA6.out hlen0).mono ?_
        rintro e w7 ⟨gY, rfl, ho, hb⟩
        have HB7 := Lib.hid (HB6.out.trans (hb.mono HB6.out.size))
        have HA7 := Lib.hid (HA6.out.below hb (Nat.le_refl _))
        have HP7 := Lib.hid (HP6.out.kept hb)
        have HX7 := Lib.hid (HX6.out.kept hb)
        have HO7 := Lib.hid (HO6.out.kept hb)
        have HY7 := Lib.hid ho
        clear hb ho
        go_wp2_with fail
        refine (eq_grants _ (GIn.made HX7.out HSM.out) (GIn.made HY7.out HSM.out)).mono ?_
        rintro e w8 ⟨rfl, hb⟩
        have HB8 := Lib.hid (HB7.out.trans (hb.mono HB7.out.size))
        have HA8 := Lib.hid (HA7.out.below hb (Nat.le_refl _))
        have HP8 := Lib.hid (HP7.out.kept hb)
        have HX8 := Lib.hid (HX7.out.kept hb)
        have HO8 := Lib.hid (HO7.out.kept hb)
        have HY8 := Lib.hid (HY7.out.kept hb)
        clear hb
        obtain ⟨r1, hr1⟩ : ∃ r1, 1 + 2 * len = r1 := ⟨_, rfl⟩
        have HR1 := Lib.hid hr1
        have hr1f : ¬ (r1 : Int) < 0 := by omega
        clear hr1
        go_wp2_with fail
        refine (mark_one _ len len _ L _ HN.out HX8.out (by omega) HR1.out).mono ?_
        rintro e w9 ⟨rfl, _, hg⟩
        have hfar : ∀ g, (Value.slice (some ⟨gX, 0, none⟩) len len).ownBlock = some g → w.heap.size ≤ g := fun g e => Nat.le_trans HB3.out.size (World.ownsRow.lt HX8.out g e).1
        have HB9 := Lib.hid (below_far HB8.out hg hfar)
        have HA9 := Lib.hid (rat_far HA0.out HA8.out hg hfar)
        have HP9 := Lib.hid (HP8.out.apart hg HPX.out)
        have HO9 := Lib.hid (HO8.out.apart hg (HOX.out.elim (fun e => by cases e) (fun e => .inr (Ne.symm e))))
        clear hg hfar
        go_wp2_with fail
        refine (eq_grants _ (GIn.made HO9.out HSO.out) (GIn.made HP9.out HSO.out)).mono ?_
        rintro e w10 ⟨rfl, hb⟩
        have HB10 := Lib.hid (HB9.out.trans (hb.mono HB9.out.size))
        have HA10 := Lib.hid (HA9.out.below hb (Nat.le_refl _))
        have HP10 := Lib.hid (HP9.out.kept hb)
        have HO10 := Lib.hid (HO9.out.kept hb)
        clear hb
        obtain ⟨r2, hr2⟩ : ∃ r2, 1 + 2 * NO = r2 := ⟨_, rfl⟩
        have HR2 := Lib.hid hr2
        have hr2f : ¬ (r2 : Int) < 0 := by omega
        have hr2e : ((r2 : Int) != (r2 : Int)) = false := by simp
        clear hr2
        go_wp2_with fail
        refine (mark_one AO capO NO _ M _ HO10.out.len.1.symm HO10.out (by omega) HR2.out).mono ?_
        rintro e w11 ⟨rfl, ho, hg⟩
        have hfar : ∀ g, (Value.slice AO NO capO).ownBlock = some g → w.heap.size ≤ g := fun g e => Nat.le_trans HB4.out.size (World.ownsRow.lt HO10.out g e).1
        have HB11 := Lib.hid (below_far HB10.out hg hfar)
        have HA11 := Lib.hid (rat_far HA0.out HA10.out hg hfar)
        have HP11 := Lib.hid (HP10.out.apart hg HOP.out)
        have HQ11 := Lib.hid ho
        clear hg hfar ho
        go_wp2_with fail
        refine (held_one AO capO NO _ HQ11.out.at (by omega) HR2.out).mono ?_
        rintro e w12 ⟨rfl, hb⟩
        have HB12 := Lib.hid (HB11.out.trans (hb.mono HB11.out.size))
        have HA12 := Lib.hid (HA11.out.below hb (Nat.le_refl _))
        have HP12 := Lib.hid (HP11.out.kept hb)
        have HQ12 := Lib.hid (HQ11.out.kept hb)
        clear hb
        go_wp2_with fail
        refine (to_grants A len cap L _ HN.out HA12.out hlen0).mono ?_
        rintro e w13 ⟨gV, rfl, ho, hb⟩
        have HB13 := Lib.hid (HB12.out.trans (hb.mono HB12.out.size))
        have HA13 := Lib.hid (HA12.out.below hb (Nat.le_refl _))
        have HP13 := Lib.hid (HP12.out.kept hb)
        have HQ13 := Lib.hid (HQ12.out.kept hb)
        have HV13 := Lib.hid ho
        clear hb ho
        go_wp2_with fail
        refine (impl_aclset HAC.out _ (GIn.made HV13.out HSM.out) hs16).mono ?_
        rintro e w14 ⟨AU, NU, capU, rfl, ho, hb⟩
        have HB14 := Lib.hid (HB13.out.trans (hb.mono HB13.out.size))
        have HA14 := Lib.hid (HA13.out.below hb (Nat.le_refl _))
        have HP14 := Lib.hid (HP13.out.kept hb)
        have HQ14 := Lib.hid (HQ13.out.kept hb)
        have HV14 := Lib.hid (HV13.out.kept hb)
        have HU14 := Lib.hid ho
        clear hb ho
        obtain rfl : NU = NO := by rw [HU14.out.len.1, HP14.out.len.1]
        go_wp2_with fail
        refine (eq_grants _ (GIn.made HU14.out HSO.out) (GIn.made HP14.out HSO.out)).mono ?_
        rintro e w15 ⟨rfl, hb⟩
        have HB15 := Lib.hid (HB14.out.trans (hb.mono HB14.out.size))
        have HA15 := Lib.hid (HA14.out.below hb (Nat.le_refl _))
        have HP15 := Lib.hid (HP14.out.kept hb)
        have HQ15 := Lib.hid (HQ14.out.kept hb)
        have HU15 := Lib.hid (HU14.out.kept hb)
        clear hb
        go_wp2_with fail
        refine (held_one AO capO NU _ HQ15.out.at (by omega) HR2.out).mono ?_
        rintro e w16 ⟨rfl, hb⟩
        have HB16 := Lib.hid (HB15.out.trans (hb.mono HB15.out.size))
        have HA16 := Lib.hid (HA15.out.below hb (Nat.le_refl _))
        have HP16 := Lib.hid (HP15.out.kept hb)
        have HQ16 := Lib.hid (HQ15.out.kept hb)
        have HU16 := Lib.hid (HU15.out.kept hb)
        clear hb
        go_wp2
        go_ret
        exact ⟨rfl, HB16.out⟩
    ·
      have hlenI : (1048576 : Int) < (len : Int) := by omega
      go_enter Try.func19, Try.ntmps19
      go_wp2_with fail
      refine (sz_grants_no A len cap 1048576 _ (by omega) (by omega) hlenI HLM.out).mono ?_
      rintro e w1 ⟨rfl, hb⟩
      have HB1 := Lib.hid hb
      clear hb
      go_wp2
      go_ret
      exact ⟨rfl, HB1.out⟩
  ·
    have hss' : (1048576 : Int) < (s.size : Int) := by omega
    go_enter Try.func19, Try.ntmps19
    go_wp2
    go_ret
    exact ⟨rfl, Below.refl _ _⟩
end Go.Proofs.Ytnnmnphmbjfopaa
