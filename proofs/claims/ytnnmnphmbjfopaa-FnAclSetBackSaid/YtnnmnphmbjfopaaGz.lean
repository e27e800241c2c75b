/-
  The walks of the laws FnAclSet, FnAclSetTwice, FnAclSetBack and FnAclFull. Condition: the code can be read.
-/
import Derived.Test.YtnnmnphmbjfopaaGy
import Derived.Test.YtnnmnphmbjfopaaLawa
namespace Go.Proofs.Ytnnmnphmbjfopaa
open Go.RowKit
set_option linter.unusedVariables false

set_option maxRecDepth 20000 in
set_option maxHeartbeats 4000000 in
theorem law_FnAclSet (A : Option Addr) (len cap : Nat) (w : World) (h : Coded w A len cap) : Calls Try.prog 8 #[.slice A len cap] w (Holds1 w) := by
  have HC := Lib.hid h
  clear h
  by_cases hl : len ≤ 1048576
  · have hl' : (len : Int) ≤ 1048576 := by omega
    go_enter Try.func8, Try.ntmps8
    go_wp2_with fail
    refine (draw_aclset A len cap _ HC.out).mono ?_
    rintro e w1 ⟨A1, N1, cap1, L, s, x, rfl, hs, hgr⟩
    have HB1 := Lib.hid hgr.2.2.2
    have HL1 := Lib.hid hgr.gin
    have HSM := Lib.hid hgr.gin.small
    clear hgr
    have hs16 : s.size ≤ 16777216 := by omega
    obtain ⟨⟨M, z⟩, hac⟩ : ∃ y, aclG L s x = y := ⟨_, rfl⟩
    have HAC := Lib.hid hac
    have HSO := Lib.hid (aclG_small hac HSM.out hs16)
    clear hac
    cases z with
    | false =>
      go_wp2_with fail
      refine (impl_aclset HAC.out _ HL1.out hs16).mono ?_
      rintro e w2 ⟨A2, N2, cap2, rfl, ho, hb⟩
      have HB2 := Lib.hid (HB1.out.trans (hb.mono HB1.out.size))
      have HL2 := Lib.hid (HL1.out.below hb (Nat.le_refl _))
      have HO2 := Lib.hid (GIn.made ho HSO.out)
      clear ho
      clear hb
      go_wp2_with fail
      refine (spec_aclset HAC.out _ HL2.out hs16).mono ?_
      rintro e w3 ⟨A3, N3, cap3, rfl, ho, hb⟩
      have HB3 := Lib.hid (HB2.out.trans (hb.mono HB2.out.size))
      have HL3 := Lib.hid (HL2.out.below hb (Nat.le_refl _))
      have HO3 := Lib.hid (HO2.out.below hb (Nat.le_refl _))
      have HP3 := Lib.hid (GIn.made ho HSO.out)
      clear ho
      clear hb
      go_wp2_with fail
      refine (same_yes _ HO3.out HP3.out).mono ?_
      rintro e w4 ⟨rfl, hb⟩
      have HB4 := Lib.hid (HB3.out.trans (hb.mono HB3.out.size))
      have HL4 := Lib.hid (HL3.out.below hb (Nat.le_refl _))
      have HO4 := Lib.hid (HO3.out.below hb (Nat.le_refl _))
      have HP4 := Lib.hid (HP3.out.below hb (Nat.le_refl _))
      clear hb
      go_wp2_with fail
      refine (same_yes _ HO4.out HP4.out).mono ?_
      rintro e w5 ⟨rfl, hb⟩
      have HB5 := Lib.hid (HB4.out.trans (hb.mono HB4.out.size))
      have HL5 := Lib.hid (HL4.out.below hb (Nat.le_refl _))
      have HO5 := Lib.hid (HO4.out.below hb (Nat.le_refl _))
      have HP5 := Lib.hid (HP4.out.below hb (Nat.le_refl _))
      clear hb
      go_wp2
      go_ret
      exact ⟨rfl, HB5.out⟩
    | true =>
      obtain ⟨g1, g2, g3, g4⟩ := set_good HAC.out
      have HG1 := Lib.hid g1
      have HG2 := Lib.hid g2
      have hxx : (x == x) = true := by simp
      clear g1 g2 g3 g4
      go_wp2_with fail
      refine (impl_aclset HAC.out _ HL1.out hs16).mono ?_
      rintro e w2 ⟨A2, N2, cap2, rfl, ho, hb⟩
      have HB2 := Lib.hid (HB1.out.trans (hb.mono HB1.out.size))
      have HL2 := Lib.hid (HL1.out.below hb (Nat.le_refl _))
      have HO2 := Lib.hid (GIn.made ho HSO.out)
      clear ho
      clear hb
      go_wp2_with fail
      refine (spec_aclset HAC.out _ HL2.out hs16).mono ?_
      rintro e w3 ⟨A3, N3, cap3, rfl, ho, hb⟩
      have HB3 := Lib.hid (HB2.out.trans (hb.mono HB2.out.size))
      have HL3 := Lib.hid (HL2.out.below hb (Nat.le_refl _))
      have HO3 := Lib.hid (HO2.out.below hb (Nat.le_refl _))
      have HP3 := Lib.hid (GIn.made ho HSO.out)
      clear ho
      clear hb
      go_wp2_with fail
      refine (same_yes _ HO3.out HP3.out).mono ?_
      rintro e w4 ⟨rfl, hb⟩
      have HB4 := Lib.hid (HB3.out.trans (hb.mono HB3.out.size))
      have HL4 := Lib.hid (HL3.out.below hb (Nat.le_refl _))
      have HO4 := Lib.hid (HO3.out.below hb (Nat.le_refl _))
      have HP4 := Lib.hid (HP3.out.below hb (Nat.le_refl _))
      clear hb
      go_wp2_with fail
      refine (grantof_at HG2.out _ HO4.out).mono ?_
      rintro e w5 ⟨rfl, hb⟩
      have HB5 := Lib.hid (HB4.out.trans (hb.mono HB4.out.size))
      have HL5 := Lib.hid (HL4.out.below hb (Nat.le_refl _))
      have HO5 := Lib.hid (HO4.out.below hb (Nat.le_refl _))
      have HP5 := Lib.hid (HP4.out.below hb (Nat.le_refl _))
      clear hb
      go_wp2_with fail
      refine (aclv_at HG1.out _ HO5.out).mono ?_
      rintro e w6 ⟨rfl, hb⟩
      have HB6 := Lib.hid (HB5.out.trans (hb.mono HB5.out.size))
      have HL6 := Lib.hid (HL5.out.below hb (Nat.le_refl _))
      have HO6 := Lib.hid (HO5.out.below hb (Nat.le_refl _))
      have HP6 := Lib.hid (HP5.out.below hb (Nat.le_refl _))
      clear hb
      go_wp2
      go_ret
      exact ⟨rfl, HB6.out⟩
  · have hl' : (1048576 : Int) < (len : Int) := by omega
    go_enter Try.func8, Try.ntmps8
    go_wp2
    go_ret
    exact ⟨rfl, Below.refl _ _⟩
set_option maxRecDepth 20000 in
set_option maxHeartbeats 4000000 in
theorem law_FnAclSetTwice (A : Option Addr) (len cap : Nat) (w : World) (h : Coded w A len cap) : Calls Try.prog 10 #[.slice A len cap] w (Holds1 w) := by
  have HC := Lib.hid h
  clear h
  by_cases hl : len ≤ 1048576
  · have hl' : (len : Int) ≤ 1048576 := by omega
    go_enter Try.func10, Try.ntmps10
    go_wp2_with fail
    refine (draw_aclset A len cap _ HC.out).mono ?_
    rintro e w1 ⟨A1, N1, cap1, L, s, x, rfl, hs, hgr⟩
    have HB1 := Lib.hid hgr.2.2.2
    have HL1 := Lib.hid hgr.gin
    have HSM := Lib.hid hgr.gin.small
    clear hgr
    have hs16 : s.size ≤ 16777216 := by omega
    obtain ⟨⟨M, z⟩, hac⟩ : ∃ y, aclG L s x = y := ⟨_, rfl⟩
    have HAC := Lib.hid hac
    have HSO := Lib.hid (aclG_small hac HSM.out hs16)
    clear hac
    cases z with
    | false =>
      go_wp2_with fail
      refine (impl_aclset HAC.out _ HL1.out hs16).mono ?_
      rintro e w2 ⟨A2, N2, cap2, rfl, ho, hb⟩
      have HB2 := Lib.hid (HB1.out.trans (hb.mono HB1.out.size))
      have HL2 := Lib.hid (HL1.out.below hb (Nat.le_refl _))
      have HO2 := Lib.hid (GIn.made ho HSO.out)
      clear ho
      clear hb
      go_wp2_with fail
      refine (spec_aclset HAC.out _ HL2.out hs16).mono ?_
      rintro e w3 ⟨A3, N3, cap3, rfl, ho, hb⟩
      have HB3 := Lib.hid (HB2.out.trans (hb.mono HB2.out.size))
      have HL3 := Lib.hid (HL2.out.below hb (Nat.le_refl _))
      have HO3 := Lib.hid (HO2.out.below hb (Nat.le_refl _))
      have HP3 := Lib.hid (GIn.made ho HSO.out)
      clear ho
      clear hb
      go_wp2_with fail
      refine (same_yes _ HO3.out HP3.out).mono ?_
      rintro e w4 ⟨rfl, hb⟩
      have HB4 := Lib.hid (HB3.out.trans (hb.mono HB3.out.size))
      have HL4 := Lib.hid (HL3.out.below hb (Nat.le_refl _))
      have HO4 := Lib.hid (HO3.out.below hb (Nat.le_refl _))
      have HP4 := Lib.hid (HP3.out.below hb (Nat.le_refl _))
      clear hb
      go_wp2_with fail
      refine (same_yes _ HO4.out HP4.out).mono ?_
      rintro e w5 ⟨rfl, hb⟩
      have HB5 := Lib.hid (HB4.out.trans (hb.mono HB4.out.size))
      have HL5 := Lib.hid (HL4.out.below hb (Nat.le_refl _))
      have HO5 := Lib.hid (HO4.out.below hb (Nat.le_refl _))
      have HP5 := Lib.hid (HP4.out.below hb (Nat.le_refl _))
      clear hb
      go_wp2
      go_ret
      exact ⟨rfl, HB5.out⟩
    | true =>
      obtain ⟨g1, g2, g3, g4⟩ := set_good HAC.out
      have HG3 := Lib.hid g3
      clear g1 g2 g3 g4
      go_wp2_with fail
      refine (impl_aclset HAC.out _ HL1.out hs16).mono ?_
      rintro e w2 ⟨A2, N2, cap2, rfl, ho, hb⟩
      have HB2 := Lib.hid (HB1.out.trans (hb.mono HB1.out.size))
      have HL2 := Lib.hid (HL1.out.below hb (Nat.le_refl _))
      have HO2 := Lib.hid (GIn.made ho HSO.out)
      clear ho
      clear hb
      go_wp2_with fail
      refine (spec_aclset HAC.out _ HL2.out hs16).mono ?_
      rintro e w3 ⟨A3, N3, cap3, rfl, ho, hb⟩
      have HB3 := Lib.hid (HB2.out.trans (hb.mono HB2.out.size))
      have HL3 := Lib.hid (HL2.out.below hb (Nat.le_refl _))
      have HO3 := Lib.hid (HO2.out.below hb (Nat.le_refl _))
      have HP3 := Lib.hid (GIn.made ho HSO.out)
      clear ho
      clear hb
      go_wp2_with fail
      refine (same_yes _ HO3.out HP3.out).mono ?_
      rintro e w4 ⟨rfl, hb⟩
      have HB4 := Lib.hid (HB3.out.trans (hb.mono HB3.out.size))
      have HL4 := Lib.hid (HL3.out.below hb (Nat.le_refl _))
      have HO4 := Lib.hid (HO3.out.below hb (Nat.le_refl _))
      have HP4 := Lib.hid (HP3.out.below hb (Nat.le_refl _))
      clear hb
      go_wp2_with fail
      refine (impl_aclset HG3.out _ HO4.out hs16).mono ?_
      rintro e w5 ⟨A4, N4, cap4, rfl, ho, hb⟩
      have HB5 := Lib.hid (HB4.out.trans (hb.mono HB4.out.size))
      have HL5 := Lib.hid (HL4.out.below hb (Nat.le_refl _))
      have HO5 := Lib.hid (HO4.out.below hb (Nat.le_refl _))
      have HP5 := Lib.hid (HP4.out.below hb (Nat.le_refl _))
      have HQ5 := Lib.hid (GIn.made ho HSO.out)
      clear ho
      clear hb
      go_wp2_with fail
      refine (same_yes _ HQ5.out HO5.out).mono ?_
      rintro e w6 ⟨rfl, hb⟩
      have HB6 := Lib.hid (HB5.out.trans (hb.mono HB5.out.size))
      have HL6 := Lib.hid (HL5.out.below hb (Nat.le_refl _))
      have HO6 := Lib.hid (HO5.out.below hb (Nat.le_refl _))
      have HP6 := Lib.hid (HP5.out.below hb (Nat.le_refl _))
      have HQ6 := Lib.hid (HQ5.out.below hb (Nat.le_refl _))
      clear hb
      go_wp2
      go_ret
      exact ⟨rfl, HB6.out⟩
  · have hl' : (1048576 : Int) < (len : Int) := by omega
    go_enter Try.func10, Try.ntmps10
    go_wp2
    go_ret
    exact ⟨rfl, Below.refl _ _⟩
set_option maxRecDepth 20000 in
set_option maxHeartbeats 4000000 in
theorem law_FnAclSetBack (A : Option Addr) (len cap : Nat) (w : World) (h : Coded w A len cap) : Calls Try.prog 11 #[.slice A len cap] w (Holds1 w) := by
  have HC := Lib.hid h
  clear h
  by_cases hl : len ≤ 1048576
  · have hl' : (len : Int) ≤ 1048576 := by omega
    go_enter Try.func11, Try.ntmps11
    go_wp2_with fail
    refine (draw_aclset A len cap _ HC.out).mono ?_
    rintro e w1 ⟨A1, N1, cap1, L, s, x, rfl, hs, hgr⟩
    have HB1 := Lib.hid hgr.2.2.2
    have HL1 := Lib.hid hgr.gin
    have HSM := Lib.hid hgr.gin.small
    clear hgr
    have hs16 : s.size ≤ 16777216 := by omega
    obtain ⟨⟨M, z⟩, hac⟩ : ∃ y, aclG L s x = y := ⟨_, rfl⟩
    have HAC := Lib.hid hac
    have HSO := Lib.hid (aclG_small hac HSM.out hs16)
    clear hac
    cases z with
    | false =>
      go_wp2_with fail
      refine (impl_aclset HAC.out _ HL1.out hs16).mono ?_
      rintro e w2 ⟨A2, N2, cap2, rfl, ho, hb⟩
      have HB2 := Lib.hid (HB1.out.trans (hb.mono HB1.out.size))
      have HL2 := Lib.hid (HL1.out.below hb (Nat.le_refl _))
      have HO2 := Lib.hid (GIn.made ho HSO.out)
      clear ho
      clear hb
      go_wp2_with fail
      refine (spec_aclset HAC.out _ HL2.out hs16).mono ?_
      rintro e w3 ⟨A3, N3, cap3, rfl, ho, hb⟩
      have HB3 := Lib.hid (HB2.out.trans (hb.mono HB2.out.size))
      have HL3 := Lib.hid (HL2.out.below hb (Nat.le_refl _))
      have HO3 := Lib.hid (HO2.out.below hb (Nat.le_refl _))
      have HP3 := Lib.hid (GIn.made ho HSO.out)
      clear ho
      clear hb
      go_wp2_with fail
      refine (same_yes _ HO3.out HP3.out).mono ?_
      rintro e w4 ⟨rfl, hb⟩
      have HB4 := Lib.hid (HB3.out.trans (hb.mono HB3.out.size))
      have HL4 := Lib.hid (HL3.out.below hb (Nat.le_refl _))
      have HO4 := Lib.hid (HO3.out.below hb (Nat.le_refl _))
      have HP4 := Lib.hid (HP3.out.below hb (Nat.le_refl _))
      clear hb
      go_wp2_with fail
      refine (same_yes _ HO4.out HP4.out).mono ?_
      rintro e w5 ⟨rfl, hb⟩
      have HB5 := Lib.hid (HB4.out.trans (hb.mono HB4.out.size))
      have HL5 := Lib.hid (HL4.out.below hb (Nat.le_refl _))
      have HO5 := Lib.hid (HO4.out.below hb (Nat.le_refl _))
      have HP5 := Lib.hid (HP4.out.below hb (Nat.le_refl _))
      clear hb
      go_wp2
      go_ret
      exact ⟨rfl, HB5.out⟩
    | true =>
      obtain ⟨g1, g2, g3, g4⟩ := set_good HAC.out
      obtain ⟨y, hy⟩ : ∃ y, valG L s = y := ⟨_, rfl⟩
      rw [hy] at g4
      have HY := Lib.hid hy
      have HG4 := Lib.hid g4
      clear g1 g2 g3 g4 hy
      go_wp2_with fail
      refine (impl_aclset HAC.out _ HL1.out hs16).mono ?_
      rintro e w2 ⟨A2, N2, cap2, rfl, ho, hb⟩
      have HB2 := Lib.hid (HB1.out.trans (hb.mono HB1.out.size))
      have HL2 := Lib.hid (HL1.out.below hb (Nat.le_refl _))
      have HO2 := Lib.hid (GIn.made ho HSO.out)
      clear ho
      clear hb
      go_wp2_with fail
      refine (spec_aclset HAC.out _ HL2.out hs16).mono ?_
      rintro e w3 ⟨A3, N3, cap3, rfl, ho, hb⟩
      have HB3 := Lib.hid (HB2.out.trans (hb.mono HB2.out.size))
      have HL3 := Lib.hid (HL2.out.below hb (Nat.le_refl _))
      have HO3 := Lib.hid (HO2.out.below hb (Nat.le_refl _))
      have HP3 := Lib.hid (GIn.made ho HSO.out)
      clear ho
      clear hb
      go_wp2_with fail
      refine (same_yes _ HO3.out HP3.out).mono ?_
      rintro e w4 ⟨rfl, hb⟩
      have HB4 := Lib.hid (HB3.out.trans (hb.mono HB3.out.size))
      have HL4 := Lib.hid (HL3.out.below hb (Nat.le_refl _))
      have HO4 := Lib.hid (HO3.out.below hb (Nat.le_refl _))
      have HP4 := Lib.hid (HP3.out.below hb (Nat.le_refl _))
      clear hb
      go_wp2_with fail
      refine (grantof_at HY.out _ HL4.out).mono ?_
      rintro e w5 ⟨rfl, hb⟩
      have HB5 := Lib.hid (HB4.out.trans (hb.mono HB4.out.size))
      have HL5 := Lib.hid (HL4.out.below hb (Nat.le_refl _))
      have HO5 := Lib.hid (HO4.out.below hb (Nat.le_refl _))
      have HP5 := Lib.hid (HP4.out.below hb (Nat.le_refl _))
      clear hb
      go_wp2_with fail
      refine (impl_aclset HG4.out _ HO5.out hs16).mono ?_
      rintro e w6 ⟨A4, N4, cap4, rfl, ho, hb⟩
      have HB6 := Lib.hid (HB5.out.trans (hb.mono HB5.out.size))
      have HL6 := Lib.hid (HL5.out.below hb (Nat.le_refl _))
      have HO6 := Lib.hid (HO5.out.below hb (Nat.le_refl _))
      have HP6 := Lib.hid (HP5.out.below hb (Nat.le_refl _))
      have HQ6 := Lib.hid (GIn.made ho HSM.out)
      clear ho
      clear hb
      go_wp2_with fail
      refine (same_yes _ HQ6.out HL6.out).mono ?_
      rintro e w7 ⟨rfl, hb⟩
      have HB7 := Lib.hid (HB6.out.trans (hb.mono HB6.out.size))
      have HL7 := Lib.hid (HL6.out.below hb (Nat.le_refl _))
      have HO7 := Lib.hid (HO6.out.below hb (Nat.le_refl _))
      have HP7 := Lib.hid (HP6.out.below hb (Nat.le_refl _))
      have HQ7 := Lib.hid (HQ6.out.below hb (Nat.le_refl _))
      clear hb
      go_wp2
      go_ret
      exact ⟨rfl, HB7.out⟩
  · have hl' : (1048576 : Int) < (len : Int) := by omega
    go_enter Try.func11, Try.ntmps11
    go_wp2
    go_ret
    exact ⟨rfl, Below.refl _ _⟩
set_option maxRecDepth 20000 in
set_option maxHeartbeats 4000000 in
theorem law_FnAclFull (A : Option Addr) (len cap : Nat) (w : World) (h : Coded w A len cap) : Calls Try.prog 12 #[.slice A len cap] w (Holds1 w) := by
  have HC := Lib.hid h
  clear h
  by_cases hl : len ≤ 1048576
  · have hl' : (len : Int) ≤ 1048576 := by omega
    go_enter Try.func12, Try.ntmps12
    go_wp2_with fail
    refine (draw_aclset A len cap _ HC.out).mono ?_
    rintro e w1 ⟨A1, N1, cap1, L, s, x, rfl, hs, hgr⟩
    have HB1 := Lib.hid hgr.2.2.2
    have HL1 := Lib.hid hgr.gin
    have HSM := Lib.hid hgr.gin.small
    clear hgr
    have hs16 : s.size ≤ 16777216 := by omega
    obtain ⟨⟨M, z⟩, hac⟩ : ∃ y, aclG L s x = y := ⟨_, rfl⟩
    have HAC := Lib.hid hac
    have HSO := Lib.hid (aclG_small hac HSM.out hs16)
    clear hac
    cases z with
    | true =>
      go_wp2_with fail
      refine (impl_aclset HAC.out _ HL1.out hs16).mono ?_
      rintro e w2 ⟨A2, N2, cap2, rfl, ho, hb⟩
      have HB2 := Lib.hid (HB1.out.trans (hb.mono HB1.out.size))
      have HL2 := Lib.hid (HL1.out.below hb (Nat.le_refl _))
      have HO2 := Lib.hid (GIn.made ho HSO.out)
      clear ho
      clear hb
      go_wp2_with fail
      refine (spec_aclset HAC.out _ HL2.out hs16).mono ?_
      rintro e w3 ⟨A3, N3, cap3, rfl, ho, hb⟩
      have HB3 := Lib.hid (HB2.out.trans (hb.mono HB2.out.size))
      have HL3 := Lib.hid (HL2.out.below hb (Nat.le_refl _))
      have HO3 := Lib.hid (HO2.out.below hb (Nat.le_refl _))
      have HP3 := Lib.hid (GIn.made ho HSO.out)
      clear ho
      clear hb
      go_wp2_with fail
      refine (same_yes _ HO3.out HP3.out).mono ?_
      rintro e w4 ⟨rfl, hb⟩
      have HB4 := Lib.hid (HB3.out.trans (hb.mono HB3.out.size))
      have HL4 := Lib.hid (HL3.out.below hb (Nat.le_refl _))
      have HO4 := Lib.hid (HO3.out.below hb (Nat.le_refl _))
      have HP4 := Lib.hid (HP3.out.below hb (Nat.le_refl _))
      clear hb
      go_wp2_with fail
      refine (same_yes _ HO4.out HP4.out).mono ?_
      rintro e w5 ⟨rfl, hb⟩
      have HB5 := Lib.hid (HB4.out.trans (hb.mono HB4.out.size))
      have HL5 := Lib.hid (HL4.out.below hb (Nat.le_refl _))
      have HO5 := Lib.hid (HO4.out.below hb (Nat.le_refl _))
      have HP5 := Lib.hid (HP4.out.below hb (Nat.le_refl _))
      clear hb
      go_wp2
      go_ret
      exact ⟨rfl, HB5.out⟩
    | false =>
      cases hv : vG L with
      | false =>
        have HV := Lib.hid hv
        clear hv
        go_wp2_with fail
        refine (impl_aclset HAC.out _ HL1.out hs16).mono ?_
        rintro e w2 ⟨A2, N2, cap2, rfl, ho, hb⟩
        have HB2 := Lib.hid (HB1.out.trans (hb.mono HB1.out.size))
        have HL2 := Lib.hid (HL1.out.below hb (Nat.le_refl _))
        have HO2 := Lib.hid (GIn.made ho HSO.out)
        clear ho
        clear hb
        go_wp2_with fail
        refine (spec_aclset HAC.out _ HL2.out hs16).mono ?_
        rintro e w3 ⟨A3, N3, cap3, rfl, ho, hb⟩
        have HB3 := Lib.hid (HB2.out.trans (hb.mono HB2.out.size))
        have HL3 := Lib.hid (HL2.out.below hb (Nat.le_refl _))
        have HO3 := Lib.hid (HO2.out.below hb (Nat.le_refl _))
        have HP3 := Lib.hid (GIn.made ho HSO.out)
        clear ho
        clear hb
        go_wp2_with fail
        refine (same_yes _ HO3.out HP3.out).mono ?_
        rintro e w4 ⟨rfl, hb⟩
        have HB4 := Lib.hid (HB3.out.trans (hb.mono HB3.out.size))
        have HL4 := Lib.hid (HL3.out.below hb (Nat.le_refl _))
        have HO4 := Lib.hid (HO3.out.below hb (Nat.le_refl _))
        have HP4 := Lib.hid (HP3.out.below hb (Nat.le_refl _))
        clear hb
        go_wp2_with fail
        refine (aclsv_at HV.out _ HL4.out).mono ?_
        rintro e w5 ⟨rfl, hb⟩
        have HB5 := Lib.hid (HB4.out.trans (hb.mono HB4.out.size))
        have HL5 := Lib.hid (HL4.out.below hb (Nat.le_refl _))
        have HO5 := Lib.hid (HO4.out.below hb (Nat.le_refl _))
        have HP5 := Lib.hid (HP4.out.below hb (Nat.le_refl _))
        clear hb
        go_wp2_with fail
        refine (same_yes _ HO5.out HP5.out).mono ?_
        rintro e w6 ⟨rfl, hb⟩
        have HB6 := Lib.hid (HB5.out.trans (hb.mono HB5.out.size))
        have HL6 := Lib.hid (HL5.out.below hb (Nat.le_refl _))
        have HO6 := Lib.hid (HO5.out.below hb (Nat.le_refl _))
        have HP6 := Lib.hid (HP5.out.below hb (Nat.le_refl _))
        clear hb
        go_wp2
        go_ret
        exact ⟨rfl, HB6.out⟩
      | true =>
        have HV := Lib.hid hv
        cases hn : nameB (kb s) with
        | false =>
          have HN := Lib.hid hn
          clear hv hn
          go_wp2_with fail
          refine (impl_aclset HAC.out _ HL1.out hs16).mono ?_
          rintro e w2 ⟨A2, N2, cap2, rfl, ho, hb⟩
          have HB2 := Lib.hid (HB1.out.trans (hb.mono HB1.out.size))
          have HL2 := Lib.hid (HL1.out.below hb (Nat.le_refl _))
          have HO2 := Lib.hid (GIn.made ho HSO.out)
          clear ho
          clear hb
          go_wp2_with fail
          refine (spec_aclset HAC.out _ HL2.out hs16).mono ?_
          rintro e w3 ⟨A3, N3, cap3, rfl, ho, hb⟩
          have HB3 := Lib.hid (HB2.out.trans (hb.mono HB2.out.size))
          have HL3 := Lib.hid (HL2.out.below hb (Nat.le_refl _))
          have HO3 := Lib.hid (HO2.out.below hb (Nat.le_refl _))
          have HP3 := Lib.hid (GIn.made ho HSO.out)
          clear ho
          clear hb
          go_wp2_with fail
          refine (same_yes _ HO3.out HP3.out).mono ?_
          rintro e w4 ⟨rfl, hb⟩
          have HB4 := Lib.hid (HB3.out.trans (hb.mono HB3.out.size))
          have HL4 := Lib.hid (HL3.out.below hb (Nat.le_refl _))
          have HO4 := Lib.hid (HO3.out.below hb (Nat.le_refl _))
          have HP4 := Lib.hid (HP3.out.below hb (Nat.le_refl _))
          clear hb
          go_wp2_with fail
          refine (aclsv_at HV.out _ HL4.out).mono ?_
          rintro e w5 ⟨rfl, hb⟩
          have HB5 := Lib.hid (HB4.out.trans (hb.mono HB4.out.size))
          have HL5 := Lib.hid (HL4.out.below hb (Nat.le_refl _))
          have HO5 := Lib.hid (HO4.out.below hb (Nat.le_refl _))
          have HP5 := Lib.hid (HP4.out.below hb (Nat.le_refl _))
          clear hb
          go_wp2_with fail
          refine (sname_at HN.out hs16 _).mono ?_
          rintro e w6 ⟨rfl, hww⟩
          subst hww
          go_wp2_with fail
          refine (same_yes _ HO5.out HP5.out).mono ?_
          rintro e w7 ⟨rfl, hb⟩
          have HB7 := Lib.hid (HB5.out.trans (hb.mono HB5.out.size))
          have HL7 := Lib.hid (HL5.out.below hb (Nat.le_refl _))
          have HO7 := Lib.hid (HO5.out.below hb (Nat.le_refl _))
          have HP7 := Lib.hid (HP5.out.below hb (Nat.le_refl _))
          clear hb
          go_wp2
          go_ret
          exact ⟨rfl, HB7.out⟩
        | true =>
          have HN := Lib.hid hn
          cases hr : isR x with
          | false =>
            rcases isR_no hr with h0 | h0
            all_goals
              clear hv hn hr
              go_wp2_with fail
              refine (impl_aclset HAC.out _ HL1.out hs16).mono ?_
              rintro e w2 ⟨A2, N2, cap2, rfl, ho, hb⟩
              have HB2 := Lib.hid (HB1.out.trans (hb.mono HB1.out.size))
              have HL2 := Lib.hid (HL1.out.below hb (Nat.le_refl _))
              have HO2 := Lib.hid (GIn.made ho HSO.out)
              clear ho
              clear hb
              go_wp2_with fail
              refine (spec_aclset HAC.out _ HL2.out hs16).mono ?_
              rintro e w3 ⟨A3, N3, cap3, rfl, ho, hb⟩
              have HB3 := Lib.hid (HB2.out.trans (hb.mono HB2.out.size))
              have HL3 := Lib.hid (HL2.out.below hb (Nat.le_refl _))
              have HO3 := Lib.hid (HO2.out.below hb (Nat.le_refl _))
              have HP3 := Lib.hid (GIn.made ho HSO.out)
              clear ho
              clear hb
              go_wp2_with fail
              refine (same_yes _ HO3.out HP3.out).mono ?_
              rintro e w4 ⟨rfl, hb⟩
              have HB4 := Lib.hid (HB3.out.trans (hb.mono HB3.out.size))
              have HL4 := Lib.hid (HL3.out.below hb (Nat.le_refl _))
              have HO4 := Lib.hid (HO3.out.below hb (Nat.le_refl _))
              have HP4 := Lib.hid (HP3.out.below hb (Nat.le_refl _))
              clear hb
              go_wp2_with fail
              refine (aclsv_at HV.out _ HL4.out).mono ?_
              rintro e w5 ⟨rfl, hb⟩
              have HB5 := Lib.hid (HB4.out.trans (hb.mono HB4.out.size))
              have HL5 := Lib.hid (HL4.out.below hb (Nat.le_refl _))
              have HO5 := Lib.hid (HO4.out.below hb (Nat.le_refl _))
              have HP5 := Lib.hid (HP4.out.below hb (Nat.le_refl _))
              clear hb
              go_wp2_with fail
              refine (sname_at HN.out hs16 _).mono ?_
              rintro e w6 ⟨rfl, hww⟩
              subst hww
              go_wp2_with fail
              refine (same_yes _ HO5.out HP5.out).mono ?_
              rintro e w7 ⟨rfl, hb⟩
              have HB7 := Lib.hid (HB5.out.trans (hb.mono HB5.out.size))
              have HL7 := Lib.hid (HL5.out.below hb (Nat.le_refl _))
              have HO7 := Lib.hid (HO5.out.below hb (Nat.le_refl _))
              have HP7 := Lib.hid (HP5.out.below hb (Nat.le_refl _))
              clear hb
              go_wp2
              go_ret
              exact ⟨rfl, HB7.out⟩
          | true =>
            obtain ⟨rfl, f1, f2, f3⟩ := set_full HAC.out hv hn hr
            obtain ⟨y, hy, rfl⟩ := isR_nat hr
            have y0 : ¬ (y : Int) < 0 := by omega
            have y1 : ¬ (63 : Int) < (y : Int) := by omega
            have y2 : 0 < y := by omega
            have y3 : decide (0 < y) = true := decide_eq_true y2
            have HF2 := Lib.hid f2
            have n4 : N1 = 4 := by rw [← HL1.out.1]; exact f1
            subst n4
            clear hv hn hr f1 f2
            go_wp2_with fail
            refine (impl_aclset HAC.out _ HL1.out hs16).mono ?_
            rintro e w2 ⟨A2, N2, cap2, rfl, ho, hb⟩
            have HB2 := Lib.hid (HB1.out.trans (hb.mono HB1.out.size))
            have HL2 := Lib.hid (HL1.out.below hb (Nat.le_refl _))
            have HO2 := Lib.hid (GIn.made ho HSO.out)
            clear ho
            clear hb
            go_wp2_with fail
            refine (spec_aclset HAC.out _ HL2.out hs16).mono ?_
            rintro e w3 ⟨A3, N3, cap3, rfl, ho, hb⟩
            have HB3 := Lib.hid (HB2.out.trans (hb.mono HB2.out.size))
            have HL3 := Lib.hid (HL2.out.below hb (Nat.le_refl _))
            have HO3 := Lib.hid (HO2.out.below hb (Nat.le_refl _))
            have HP3 := Lib.hid (GIn.made ho HSO.out)
            clear ho
            clear hb
            go_wp2_with fail
            refine (same_yes _ HO3.out HP3.out).mono ?_
            rintro e w4 ⟨rfl, hb⟩
            have HB4 := Lib.hid (HB3.out.trans (hb.mono HB3.out.size))
            have HL4 := Lib.hid (HL3.out.below hb (Nat.le_refl _))
            have HO4 := Lib.hid (HO3.out.below hb (Nat.le_refl _))
            have HP4 := Lib.hid (HP3.out.below hb (Nat.le_refl _))
            clear hb
            go_wp2_with fail
            refine (aclsv_at HV.out _ HL4.out).mono ?_
            rintro e w5 ⟨rfl, hb⟩
            have HB5 := Lib.hid (HB4.out.trans (hb.mono HB4.out.size))
            have HL5 := Lib.hid (HL4.out.below hb (Nat.le_refl _))
            have HO5 := Lib.hid (HO4.out.below hb (Nat.le_refl _))
            have HP5 := Lib.hid (HP4.out.below hb (Nat.le_refl _))
            clear hb
            go_wp2_with fail
            refine (sname_at HN.out hs16 _).mono ?_
            rintro e w6 ⟨rfl, hww⟩
            subst hww
            go_wp2_with fail
            refine (same_yes _ HO5.out HL5.out).mono ?_
            rintro e w7 ⟨rfl, hb⟩
            have HB7 := Lib.hid (HB5.out.trans (hb.mono HB5.out.size))
            have HL7 := Lib.hid (HL5.out.below hb (Nat.le_refl _))
            have HO7 := Lib.hid (HO5.out.below hb (Nat.le_refl _))
            have HP7 := Lib.hid (HP5.out.below hb (Nat.le_refl _))
            clear hb
            go_wp2_with fail
            refine (grantof_at HF2.out _ HL7.out).mono ?_
            rintro e w8 ⟨rfl, hb⟩
            have HB8 := Lib.hid (HB7.out.trans (hb.mono HB7.out.size))
            have HL8 := Lib.hid (HL7.out.below hb (Nat.le_refl _))
            have HO8 := Lib.hid (HO7.out.below hb (Nat.le_refl _))
            have HP8 := Lib.hid (HP7.out.below hb (Nat.le_refl _))
            clear hb
            go_wp2
            go_ret
            exact ⟨rfl, HB8.out⟩
  · have hl' : (1048576 : Int) < (len : Int) := by omega
    go_enter Try.func12, Try.ntmps12
    go_wp2
    go_ret
    exact ⟨rfl, Below.refl _ _⟩
end Go.Proofs.Ytnnmnphmbjfopaa
