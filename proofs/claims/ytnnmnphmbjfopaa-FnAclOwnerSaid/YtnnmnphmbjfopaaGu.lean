/-
  The walks of the laws FnAclOwner, FnAclAnyone and FnAclNone. Condition: the code can be read.
-/
import Derived.Test.YtnnmnphmbjfopaaGy
import Derived.Test.YtnnmnphmbjfopaaLawa
namespace Go.Proofs.Ytnnmnphmbjfopaa
open Go.RowKit
set_option linter.unusedVariables false

set_option maxRecDepth 20000 in
set_option maxHeartbeats 4000000 in
theorem law_FnAclOwner (A : Option Addr) (len cap : Nat) (w : World) (h : Coded w A len cap) : Calls Try.prog 13 #[.slice A len cap] w (Holds1 w) := by
  have HC := Lib.hid h
  clear h
  by_cases hl : len ≤ 1048576
  · have hl' : (len : Int) ≤ 1048576 := by omega
    go_enter Try.func13, Try.ntmps13
    go_wp2_with fail
    refine (draw_aclrights A len cap _ HC.out).mono ?_
    rintro e w1 ⟨A1, N1, cap1, L, o, u, rfl, ho, hu, hgr⟩
    have HB1 := Lib.hid hgr.2.2.2
    have HL1 := Lib.hid hgr.gin
    have HSM := Lib.hid hgr.gin.small
    clear hgr
    have ho16 : o.size ≤ 16777216 := by omega
    have hu16 : u.size ≤ 16777216 := by omega
    have hcs : (acR L o u = -1) ∨ (vG L = true ∧ nameB (kb o) = true ∧ nameB (kb u) = true) := by
      cases hc : (vG L && (nameB (kb o) && nameB (kb u))) with
      | false => exact .inl (acR_no hc)
      | true => simp only [Bool.and_eq_true] at hc; exact .inr ⟨hc.1, hc.2.1, hc.2.2⟩
    rcases hcs with hno | ⟨hv, hn, hm⟩
    ·
      have HNO := Lib.hid hno
      clear hno
      go_wp2_with fail
      refine (impl_aclrights HNO.out _ HL1.out ho16 hu16).mono ?_
      rintro e w2 ⟨rfl, hb⟩
      have HB2 := Lib.hid (HB1.out.trans (hb.mono HB1.out.size))
      have HL2 := Lib.hid (HL1.out.below hb (Nat.le_refl _))
      clear hb
      go_wp2_with fail
      refine (spec_aclrights HNO.out _ HL2.out ho16 hu16).mono ?_
      rintro e w3 ⟨rfl, hb⟩
      have HB3 := Lib.hid (HB2.out.trans (hb.mono HB2.out.size))
      have HL3 := Lib.hid (HL2.out.below hb (Nat.le_refl _))
      clear hb
      go_wp2
      go_ret
      exact ⟨rfl, HB3.out⟩
    ·
      by_cases he : u = o
      ·
        have HR := Lib.hid (acR_own hv hn hm he)
        subst he
        clear hv hn hm
        go_wp2_with fail
        refine (impl_aclrights HR.out _ HL1.out ho16 hu16).mono ?_
        rintro e w2 ⟨rfl, hb⟩
        have HB2 := Lib.hid (HB1.out.trans (hb.mono HB1.out.size))
        have HL2 := Lib.hid (HL1.out.below hb (Nat.le_refl _))
        clear hb
        go_wp2_with fail
        refine (spec_aclrights HR.out _ HL2.out ho16 hu16).mono ?_
        rintro e w3 ⟨rfl, hb⟩
        have HB3 := Lib.hid (HB2.out.trans (hb.mono HB2.out.size))
        have HL3 := Lib.hid (HL2.out.below hb (Nat.le_refl _))
        clear hb
        go_wp2
        go_ret
        exact ⟨rfl, HB3.out⟩
      ·
        have hR := acR_more hv hn hm he
        obtain ⟨x, hx⟩ : ∃ x, vN L u = x := ⟨_, rfl⟩
        obtain ⟨y, hy⟩ : ∃ y, vN L anyB = y := ⟨_, rfl⟩
        have hx6 := (vN_lt hv u).1
        have hy6 := (vN_lt hv anyB).1
        have hxv := (vN_lt hv u).2
        have hyv := (vN_lt hv anyB).2
        rw [hx] at hx6 hxv hR
        rw [hy] at hy6 hyv hR
        obtain ⟨z, hz⟩ : ∃ z, orK x y 6 = z := ⟨_, rfl⟩
        obtain ⟨o1, o2, o3, o4, _⟩ := or_all hx6 hy6
        rw [hz] at o1 o2 o3 o4 hR
        have HR := Lib.hid hR
        have HX := Lib.hid hxv
        have HY : Hid (valG L (⟨#[97, 110, 121, 111, 110, 101]⟩ : ByteArray) = (y : Int)) := Lib.hid hyv
        have HO1 := Lib.hid o1
        have HO2 := Lib.hid o2
        have z0 : ¬ (z : Int) < 0 := by omega
        have z1 : (z : Int) ≤ (x : Int) + (y : Int) := by omega
        have W1 : IntKind.i64.wrap ((x : Int) + (y : Int)) = (x : Int) + (y : Int) := IntWalk.i64_in _ (by omega)
        have hzz : ((z : Int) != (z : Int)) = false := by simp
        have hne : (u.toList == o.toList) = false := by rw [ByteArray.toList_eq, ByteArray.toList_eq]; exact ne_kb he
        have hne' : ¬ u.toList = o.toList := beq_eq_false_iff_ne.1 hne
        clear hv hn hm he hx hy hz hxv hyv hR o1 o2 o3
        go_wp2_with fail
        refine (impl_aclrights HR.out _ HL1.out ho16 hu16).mono ?_
        rintro e w2 ⟨rfl, hb⟩
        have HB2 := Lib.hid (HB1.out.trans (hb.mono HB1.out.size))
        have HL2 := Lib.hid (HL1.out.below hb (Nat.le_refl _))
        clear hb
        go_wp2_with fail
        refine (spec_aclrights HR.out _ HL2.out ho16 hu16).mono ?_
        rintro e w3 ⟨rfl, hb⟩
        have HB3 := Lib.hid (HB2.out.trans (hb.mono HB2.out.size))
        have HL3 := Lib.hid (HL2.out.below hb (Nat.le_refl _))
        clear hb
        go_wp2_with fail
        refine (grantof_at HX.out _ HL3.out).mono ?_
        rintro e w4 ⟨rfl, hb⟩
        have HB4 := Lib.hid (HB3.out.trans (hb.mono HB3.out.size))
        have HL4 := Lib.hid (HL3.out.below hb (Nat.le_refl _))
        clear hb
        go_wp2_with fail
        refine (grantof_at HY.out _ HL4.out).mono ?_
        rintro e w5 ⟨rfl, hb⟩
        have HB5 := Lib.hid (HB4.out.trans (hb.mono HB4.out.size))
        have HL5 := Lib.hid (HL4.out.below hb (Nat.le_refl _))
        clear hb
        go_wp2_with fail
        refine (all_of HO1.out _ o4 hx6).mono ?_
        rintro e w6 ⟨rfl, hb⟩
        have HB6 := Lib.hid (HB5.out.trans (hb.mono HB5.out.size))
        have HL6 := Lib.hid (HL5.out.below hb (Nat.le_refl _))
        clear hb
        go_wp2_with fail
        refine (all_of HO2.out _ o4 hy6).mono ?_
        rintro e w7 ⟨rfl, hb⟩
        have HB7 := Lib.hid (HB6.out.trans (hb.mono HB6.out.size))
        have HL7 := Lib.hid (HL6.out.below hb (Nat.le_refl _))
        clear hb
        go_wp2
        go_ret
        exact ⟨rfl, HB7.out⟩
  · have hl' : (1048576 : Int) < (len : Int) := by omega
    go_enter Try.func13, Try.ntmps13
    go_wp2
    go_ret
    exact ⟨rfl, Below.refl _ _⟩
set_option maxRecDepth 20000 in
set_option maxHeartbeats 4000000 in
theorem law_FnAclAnyone (A : Option Addr) (len cap : Nat) (w : World) (h : Coded w A len cap) : Calls Try.prog 14 #[.slice A len cap] w (Holds1 w) := by
  have HC := Lib.hid h
  clear h
  by_cases hl : len ≤ 1048576
  · have hl' : (len : Int) ≤ 1048576 := by omega
    go_enter Try.func14, Try.ntmps14
    go_wp2_with fail
    refine (draw_aclrights A len cap _ HC.out).mono ?_
    rintro e w1 ⟨A1, N1, cap1, L, o, u, rfl, ho, hu, hgr⟩
    have HB1 := Lib.hid hgr.2.2.2
    have HL1 := Lib.hid hgr.gin
    have HSM := Lib.hid hgr.gin.small
    clear hgr
    have ho16 : o.size ≤ 16777216 := by omega
    have hu16 : u.size ≤ 16777216 := by omega
    have hcs : (acR L o u = -1) ∨ (vG L = true ∧ nameB (kb o) = true ∧ nameB (kb u) = true) := by
      cases hc : (vG L && (nameB (kb o) && nameB (kb u))) with
      | false => exact .inl (acR_no hc)
      | true => simp only [Bool.and_eq_true] at hc; exact .inr ⟨hc.1, hc.2.1, hc.2.2⟩
    rcases hcs with hno | ⟨hv, hn, hm⟩
    ·
      have HNO := Lib.hid hno
      clear hno
      go_wp2_with fail
      refine (impl_aclrights HNO.out _ HL1.out ho16 hu16).mono ?_
      rintro e w2 ⟨rfl, hb⟩
      have HB2 := Lib.hid (HB1.out.trans (hb.mono HB1.out.size))
      have HL2 := Lib.hid (HL1.out.below hb (Nat.le_refl _))
      clear hb
      go_wp2_with fail
      refine (spec_aclrights HNO.out _ HL2.out ho16 hu16).mono ?_
      rintro e w3 ⟨rfl, hb⟩
      have HB3 := Lib.hid (HB2.out.trans (hb.mono HB2.out.size))
      have HL3 := Lib.hid (HL2.out.below hb (Nat.le_refl _))
      clear hb
      go_wp2
      go_ret
      exact ⟨rfl, HB3.out⟩
    ·
      obtain ⟨z, hzr, hz64⟩ : ∃ z : Nat, acR L o u = (z : Int) ∧ z < 64 := by
        by_cases he : u = o
        · exact ⟨63, acR_own hv hn hm he, by omega⟩
        · exact ⟨_, acR_more hv hn hm he, (or_all (vN_lt hv u).1 (vN_lt hv anyB).1).2.2.2.1⟩
      have HR := Lib.hid hzr
      have z0 : ¬ (z : Int) < 0 := by omega
      have hzz : ((z : Int) != (z : Int)) = false := by simp
      by_cases ha : o = anyB
      ·
        have hya := any_walk' ha
        have hya' : o.toList = [97, 110, 121, 111, 110, 101] := beq_iff_eq.1 hya
        clear hv hn hm ha hzr
        go_wp2_with fail
        refine (impl_aclrights HR.out _ HL1.out ho16 hu16).mono ?_
        rintro e w2 ⟨rfl, hb⟩
        have HB2 := Lib.hid (HB1.out.trans (hb.mono HB1.out.size))
        have HL2 := Lib.hid (HL1.out.below hb (Nat.le_refl _))
        clear hb
        go_wp2_with fail
        refine (spec_aclrights HR.out _ HL2.out ho16 hu16).mono ?_
        rintro e w3 ⟨rfl, hb⟩
        have HB3 := Lib.hid (HB2.out.trans (hb.mono HB2.out.size))
        have HL3 := Lib.hid (HL2.out.below hb (Nat.le_refl _))
        clear hb
        go_wp2
        go_ret
        exact ⟨rfl, HB3.out⟩
      ·
        obtain ⟨y, hyr, hy64, hal⟩ : ∃ y : Nat, acR L o (⟨#[97, 110, 121, 111, 110, 101]⟩ : ByteArray) = (y : Int) ∧ y < 64 ∧ alB z y = true := by
          have hma : nameB (kb anyB) = true := by decide
          have hb6 := (vN_lt hv anyB).1
          have hR := acR_more hv hn hma (fun e => ha e.symm)
          refine ⟨_, hR, (or_all hb6 hb6).2.2.2.1, ?_⟩
          by_cases he : u = o
          · rw [acR_own hv hn hm he] at hzr
            have : z = 63 := by omega
            rw [this]
            exact all_in (or_all hb6 hb6).2.2.2.1
          · rw [acR_more hv hn hm he] at hzr
            have : z = orK (vN L u) (vN L anyB) 6 := by omega
            rw [this]
            exact (or_all (vN_lt hv u).1 hb6).2.2.2.2
        have HY := Lib.hid hyr
        have HAL := Lib.hid hal
        have hya := any_walk ha
        have hya' : ¬ o.toList = [97, 110, 121, 111, 110, 101] := beq_eq_false_iff_ne.1 hya
        have ha16 : (⟨#[97, 110, 121, 111, 110, 101]⟩ : ByteArray).size ≤ 16777216 := by decide
        clear hv hn hm ha hzr hyr hal
        go_wp2_with fail
        refine (impl_aclrights HR.out _ HL1.out ho16 hu16).mono ?_
        rintro e w2 ⟨rfl, hb⟩
        have HB2 := Lib.hid (HB1.out.trans (hb.mono HB1.out.size))
        have HL2 := Lib.hid (HL1.out.below hb (Nat.le_refl _))
        clear hb
        go_wp2_with fail
        refine (spec_aclrights HR.out _ HL2.out ho16 hu16).mono ?_
        rintro e w3 ⟨rfl, hb⟩
        have HB3 := Lib.hid (HB2.out.trans (hb.mono HB2.out.size))
        have HL3 := Lib.hid (HL2.out.below hb (Nat.le_refl _))
        clear hb
        go_wp2_with fail
        refine (impl_aclrights HY.out _ HL3.out ho16 ha16).mono ?_
        rintro e w4 ⟨rfl, hb⟩
        have HB4 := Lib.hid (HB3.out.trans (hb.mono HB3.out.size))
        have HL4 := Lib.hid (HL3.out.below hb (Nat.le_refl _))
        clear hb
        go_wp2_with fail
        refine (all_of HAL.out _ hz64 hy64).mono ?_
        rintro e w5 ⟨rfl, hb⟩
        have HB5 := Lib.hid (HB4.out.trans (hb.mono HB4.out.size))
        have HL5 := Lib.hid (HL4.out.below hb (Nat.le_refl _))
        clear hb
        go_wp2
        go_ret
        exact ⟨rfl, HB5.out⟩
  · have hl' : (1048576 : Int) < (len : Int) := by omega
    go_enter Try.func14, Try.ntmps14
    go_wp2
    go_ret
    exact ⟨rfl, Below.refl _ _⟩
set_option maxRecDepth 20000 in
set_option maxHeartbeats 4000000 in
theorem law_FnAclNone (A : Option Addr) (len cap : Nat) (w : World) (h : Coded w A len cap) : Calls Try.prog 15 #[.slice A len cap] w (Holds1 w) := by
  have HC := Lib.hid h
  clear h
  by_cases hl : len ≤ 1048576
  · have hl' : (len : Int) ≤ 1048576 := by omega
    go_enter Try.func15, Try.ntmps15
    go_wp2_with fail
    refine (draw_aclrights A len cap _ HC.out).mono ?_
    rintro e w1 ⟨A1, N1, cap1, L, o, u, rfl, ho, hu, hgr⟩
    have HB1 := Lib.hid hgr.2.2.2
    have HL1 := Lib.hid hgr.gin
    have HSM := Lib.hid hgr.gin.small
    clear hgr
    have ho16 : o.size ≤ 16777216 := by omega
    have hu16 : u.size ≤ 16777216 := by omega
    obtain ⟨z, hz⟩ : ∃ z, acR L o u = z := ⟨_, rfl⟩
    have HZ := Lib.hid hz
    have hzz : (z != z) = false := by simp
    clear hz
    have hve : vG ([] : List Gr) = true := by decide
    cases hn : nameB (kb o) with
    | false =>
      have HN := Lib.hid hn
      have HQ : Hid (acR [] o u = -1) := Lib.hid (acR_no (by rw [hve, hn]; rfl))
      clear hn hve
      go_wp2_with fail
      refine (impl_aclrights HZ.out _ HL1.out ho16 hu16).mono ?_
      rintro e w2 ⟨rfl, hb⟩
      have HB2 := Lib.hid (HB1.out.trans (hb.mono HB1.out.size))
      have HL2 := Lib.hid (HL1.out.below hb (Nat.le_refl _))
      clear hb
      go_wp2_with fail
      refine (spec_aclrights HZ.out _ HL2.out ho16 hu16).mono ?_
      rintro e w3 ⟨rfl, hb⟩
      have HB3 := Lib.hid (HB2.out.trans (hb.mono HB2.out.size))
      have HL3 := Lib.hid (HL2.out.below hb (Nat.le_refl _))
      clear hb
      have HE3 : Hid (GIn (w3.alloc (.cells #[] 40)) (some ⟨w3.heap.size, 0, none⟩) 0 0 []) := Lib.hid (GIn.of (ROwn.lit w3 _ (Nat.le_refl _) rfl) (by omega) (fun g hg => by cases hg))
      have HBA3 := Lib.hid (HB3.out.alloc HB3.out.size (.cells #[] 40))
      obtain ⟨wa, hwa⟩ : ∃ wa, w3.alloc (.cells #[] 40) = wa := ⟨_, rfl⟩
      rw [hwa] at HE3 HBA3
      have HWA := Lib.hid hwa
      clear hwa
      go_wp2_with fail
      rw [HWA.out]
      refine (impl_aclrights HQ.out _ HE3.out ho16 hu16).mono ?_
      rintro e w4 ⟨rfl, hb⟩
      have HB4 := Lib.hid (HBA3.out.trans (hb.mono HBA3.out.size))
      have HE4 := Lib.hid (HE3.out.below hb (Nat.le_refl _))
      clear hb
      go_wp2_with fail
      refine (iname_at HN.out ho16 _).mono ?_
      rintro e w5 ⟨rfl, hb⟩
      have HB5 := Lib.hid (HB4.out.trans (hb.mono HB4.out.size))
      have HE5 := Lib.hid (HE4.out.below hb (Nat.le_refl _))
      clear hb
      go_wp2
      go_ret
      exact ⟨rfl, HB5.out⟩
    | true =>
      have HN := Lib.hid hn
      cases hm : nameB (kb u) with
      | false =>
        have HM := Lib.hid hm
        have HQ : Hid (acR [] o u = -1) := Lib.hid (acR_no (by rw [hve, hn, hm]; rfl))
        clear hn hm hve
        go_wp2_with fail
        refine (impl_aclrights HZ.out _ HL1.out ho16 hu16).mono ?_
        rintro e w2 ⟨rfl, hb⟩
        have HB2 := Lib.hid (HB1.out.trans (hb.mono HB1.out.size))
        have HL2 := Lib.hid (HL1.out.below hb (Nat.le_refl _))
        clear hb
        go_wp2_with fail
        refine (spec_aclrights HZ.out _ HL2.out ho16 hu16).mono ?_
        rintro e w3 ⟨rfl, hb⟩
        have HB3 := Lib.hid (HB2.out.trans (hb.mono HB2.out.size))
        have HL3 := Lib.hid (HL2.out.below hb (Nat.le_refl _))
        clear hb
        have HE3 : Hid (GIn (w3.alloc (.cells #[] 40)) (some ⟨w3.heap.size, 0, none⟩) 0 0 []) := Lib.hid (GIn.of (ROwn.lit w3 _ (Nat.le_refl _) rfl) (by omega) (fun g hg => by cases hg))
        have HBA3 := Lib.hid (HB3.out.alloc HB3.out.size (.cells #[] 40))
        obtain ⟨wa, hwa⟩ : ∃ wa, w3.alloc (.cells #[] 40) = wa := ⟨_, rfl⟩
        rw [hwa] at HE3 HBA3
        have HWA := Lib.hid hwa
        clear hwa
        go_wp2_with fail
        rw [HWA.out]
        refine (impl_aclrights HQ.out _ HE3.out ho16 hu16).mono ?_
        rintro e w4 ⟨rfl, hb⟩
        have HB4 := Lib.hid (HBA3.out.trans (hb.mono HBA3.out.size))
        have HE4 := Lib.hid (HE3.out.below hb (Nat.le_refl _))
        clear hb
        go_wp2_with fail
        refine (iname_at HN.out ho16 _).mono ?_
        rintro e w5 ⟨rfl, hb⟩
        have HB5 := Lib.hid (HB4.out.trans (hb.mono HB4.out.size))
        have HE5 := Lib.hid (HE4.out.below hb (Nat.le_refl _))
        clear hb
        go_wp2_with fail
        refine (iname_at HM.out hu16 _).mono ?_
        rintro e w6 ⟨rfl, hb⟩
        have HB6 := Lib.hid (HB5.out.trans (hb.mono HB5.out.size))
        have HE6 := Lib.hid (HE5.out.below hb (Nat.le_refl _))
        clear hb
        go_wp2
        go_ret
        exact ⟨rfl, HB6.out⟩
      | true =>
        have HM := Lib.hid hm
        by_cases he : u = o
        ·
          have HQ : Hid (acR [] o u = 63) := Lib.hid (acR_own hve hn hm he)
          subst he
          clear hn hm hve
          go_wp2_with fail
          refine (impl_aclrights HZ.out _ HL1.out ho16 hu16).mono ?_
          rintro e w2 ⟨rfl, hb⟩
          have HB2 := Lib.hid (HB1.out.trans (hb.mono HB1.out.size))
          have HL2 := Lib.hid (HL1.out.below hb (Nat.le_refl _))
          clear hb
          go_wp2_with fail
          refine (spec_aclrights HZ.out _ HL2.out ho16 hu16).mono ?_
          rintro e w3 ⟨rfl, hb⟩
          have HB3 := Lib.hid (HB2.out.trans (hb.mono HB2.out.size))
          have HL3 := Lib.hid (HL2.out.below hb (Nat.le_refl _))
          clear hb
          have HE3 : Hid (GIn (w3.alloc (.cells #[] 40)) (some ⟨w3.heap.size, 0, none⟩) 0 0 []) := Lib.hid (GIn.of (ROwn.lit w3 _ (Nat.le_refl _) rfl) (by omega) (fun g hg => by cases hg))
          have HBA3 := Lib.hid (HB3.out.alloc HB3.out.size (.cells #[] 40))
          obtain ⟨wa, hwa⟩ : ∃ wa, w3.alloc (.cells #[] 40) = wa := ⟨_, rfl⟩
          rw [hwa] at HE3 HBA3
          have HWA := Lib.hid hwa
          clear hwa
          go_wp2_with fail
          rw [HWA.out]
          refine (impl_aclrights HQ.out _ HE3.out ho16 hu16).mono ?_
          rintro e w4 ⟨rfl, hb⟩
          have HB4 := Lib.hid (HBA3.out.trans (hb.mono HBA3.out.size))
          have HE4 := Lib.hid (HE3.out.below hb (Nat.le_refl _))
          clear hb
          go_wp2_with fail
          refine (iname_at HN.out ho16 _).mono ?_
          rintro e w5 ⟨rfl, hb⟩
          have HB5 := Lib.hid (HB4.out.trans (hb.mono HB4.out.size))
          have HE5 := Lib.hid (HE4.out.below hb (Nat.le_refl _))
          clear hb
          go_wp2_with fail
          refine (iname_at HM.out hu16 _).mono ?_
          rintro e w6 ⟨rfl, hb⟩
          have HB6 := Lib.hid (HB5.out.trans (hb.mono HB5.out.size))
          have HE6 := Lib.hid (HE5.out.below hb (Nat.le_refl _))
          clear hb
          go_wp2
          go_ret
          exact ⟨rfl, HB6.out⟩
        ·
          have HQ : Hid (acR [] o u = 0) := Lib.hid ((acR_more hve hn hm he).trans (show ((orK 0 0 6 : Nat) : Int) = 0 by decide))
          have hne : (u.toList == o.toList) = false := by rw [ByteArray.toList_eq, ByteArray.toList_eq]; exact ne_kb he
          have hne' : ¬ u.toList = o.toList := beq_eq_false_iff_ne.1 hne
          have hnn : (u.toList != o.toList) = true := bne_iff_ne.2 hne'
          clear hn hm hve he
          go_wp2_with fail
          refine (impl_aclrights HZ.out _ HL1.out ho16 hu16).mono ?_
          rintro e w2 ⟨rfl, hb⟩
          have HB2 := Lib.hid (HB1.out.trans (hb.mono HB1.out.size))
          have HL2 := Lib.hid (HL1.out.below hb (Nat.le_refl _))
          clear hb
          go_wp2_with fail
          refine (spec_aclrights HZ.out _ HL2.out ho16 hu16).mono ?_
          rintro e w3 ⟨rfl, hb⟩
          have HB3 := Lib.hid (HB2.out.trans (hb.mono HB2.out.size))
          have HL3 := Lib.hid (HL2.out.below hb (Nat.le_refl _))
          clear hb
          have HE3 : Hid (GIn (w3.alloc (.cells #[] 40)) (some ⟨w3.heap.size, 0, none⟩) 0 0 []) := Lib.hid (GIn.of (ROwn.lit w3 _ (Nat.le_refl _) rfl) (by omega) (fun g hg => by cases hg))
          have HBA3 := Lib.hid (HB3.out.alloc HB3.out.size (.cells #[] 40))
          obtain ⟨wa, hwa⟩ : ∃ wa, w3.alloc (.cells #[] 40) = wa := ⟨_, rfl⟩
          rw [hwa] at HE3 HBA3
          have HWA := Lib.hid hwa
          clear hwa
          go_wp2_with fail
          rw [HWA.out]
          refine (impl_aclrights HQ.out _ HE3.out ho16 hu16).mono ?_
          rintro e w4 ⟨rfl, hb⟩
          have HB4 := Lib.hid (HBA3.out.trans (hb.mono HBA3.out.size))
          have HE4 := Lib.hid (HE3.out.below hb (Nat.le_refl _))
          clear hb
          go_wp2_with fail
          refine (iname_at HN.out ho16 _).mono ?_
          rintro e w5 ⟨rfl, hb⟩
          have HB5 := Lib.hid (HB4.out.trans (hb.mono HB4.out.size))
          have HE5 := Lib.hid (HE4.out.below hb (Nat.le_refl _))
          clear hb
          go_wp2_with fail
          refine (iname_at HM.out hu16 _).mono ?_
          rintro e w6 ⟨rfl, hb⟩
          have HB6 := Lib.hid (HB5.out.trans (hb.mono HB5.out.size))
          have HE6 := Lib.hid (HE5.out.below hb (Nat.le_refl _))
          clear hb
          go_wp2
          go_ret
          exact ⟨rfl, HB6.out⟩
  · have hl' : (1048576 : Int) < (len : Int) := by omega
    go_enter Try.func15, Try.ntmps15
    go_wp2
    go_ret
    exact ⟨rfl, Below.refl _ _⟩
end Go.Proofs.Ytnnmnphmbjfopaa
