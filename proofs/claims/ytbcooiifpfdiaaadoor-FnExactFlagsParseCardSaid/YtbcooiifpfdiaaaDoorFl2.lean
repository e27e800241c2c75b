/-
  The walks of the laws FnFlagsText, FnChangeBad, FnHaveSelf and FnExactFlagsText. Condition: the code can be read; the table holds the five names.
-/
import Derived.Test.YtbcooiifpfdiaaaDoorFdraw
import Derived.Test.YtbcooiifpfdiaaaDoorFown
namespace Go.Proofs.YtbcooiifpfdiaaaDoor
open Go.RowKit
set_option linter.unusedVariables false

set_option maxHeartbeats 1000000 in
theorem law_FnExactFlagsText (f : Int) (w : World) (hL : Lst w) : Calls Tryd.prog 10 #[.int .i64 f] w (Holds1 w) := by
  have HL := Lib.hid hL
  obtain ⟨T, hT⟩ : ∃ T, ftI f = T := ⟨_, rfl⟩
  have HT := Lib.hid hT
  clear hL hT
  go_enter Tryd.func10, Tryd.ntmps10
  go_wp2_with fail
  refine (spec_ftext f _).mono ?_
  rintro e w1 ⟨rfl, hb⟩
  have HB1 := Lib.hid hb
  have HL1 := Lib.hid (HL.out.below hb (Nat.le_refl _))
  clear hb
  rw [HT.out]
  go_wp2_with fail
  refine (impl_ftext f _ HL1.out).mono ?_
  rintro e w2 ⟨rfl, hb⟩
  have HB2 := Lib.hid (HB1.out.trans (hb.mono HB1.out.size))
  clear hb
  rw [HT.out]
  go_wp2
  go_ret
  exact ⟨rfl, HB2.out⟩
theorem sB_get (L : List UInt8) (i : Nat) (h : i < (sB L).size) (hl : i < L.length) : (sB L)[i] = L[i] := rfl
theorem sB_toList (L : List UInt8) : (sB L).toList = L := by rw [ByteArray.toList_eq, sB_list]
theorem num_beq {a b : UInt8} {n : Int} (h : a = b) (hn : ((b.toNat : Int) == n) = true) : ((a.toNat : Int) == n) = true := by rw [h]; exact hn
theorem text_ends {a : Nat} (ha : a < 32) : ∃ v : ByteArray, sB (ftI (a : Int)) = v ∧ ∃ (h2 : 2 ≤ v.size), v.size ≤ 40 ∧ ((v[0].toNat : Int) == 40) = true ∧ ((v[v.size - 1].toNat : Int) == 41) = true ∧ ((v.toList == [40, 41]) == ((a : Int) == 0)) = true := by
  obtain ⟨s1, s2, s3, s4, s5⟩ := textF_shape ha
  rw [ftI_yes ha]
  have hz := sB_size (textF a)
  refine ⟨_, rfl, by rw [hz]; exact s1, by rw [hz]; exact s2, ?_, ?_, ?_⟩
  · refine num_beq (b := 40) ?_ rfl
    refine (sB_get (textF a) 0 (by omega) (by omega)).trans ?_
    rw [List.head?_eq_getElem?, List.getElem?_eq_getElem (by omega)] at s3
    exact Option.some.inj s3
  · refine num_beq (b := 41) ?_ rfl
    refine (sB_get (textF a) ((sB (textF a)).size - 1) (by omega) (by omega)).trans ?_
    rw [List.getLast?_eq_getElem?, List.getElem?_eq_getElem (by omega)] at s4
    have e := Option.some.inj s4
    simp only [hz]
    exact e
  · rw [sB_toList]
    cases h : (textF a == [40, 41])
    · have h1 := beq_eq_false_iff_ne.1 h
      have : a ≠ 0 := fun e => h1 (s5.2 e)
      have h0 : ((a : Int) == 0) = false := beq_eq_false_iff_ne.2 (by omega)
      rw [h0]
      rfl
    · have h1 := s5.1 (beq_iff_eq.1 h)
      subst h1
      rfl
set_option maxRecDepth 20000 in
set_option maxHeartbeats 2000000 in
theorem law_FnFlagsText (A : Option Addr) (len cap : Nat) (w : World) (h : Coded w A len cap) (hL : Lst w) : Calls Tryd.prog 4 #[.slice A len cap] w (Holds1 w) := by
  have HC := Lib.hid h
  have HL := Lib.hid hL
  clear h hL
  by_cases hl : len ≤ 1048576
  · have hl' : (len : Int) ≤ 1048576 := by omega
    go_enter Tryd.func4, Tryd.ntmps4
    go_wp2_with fail
    refine (draw_ftext A len cap _ HC.out).mono ?_
    rintro e w1 ⟨f, rfl, hb⟩
    have HB1 := Lib.hid hb
    have HL1 := Lib.hid (HL.out.below hb (Nat.le_refl _))
    clear hb
    cases hf : isF f with
    | true =>
      obtain ⟨a, ha, rfl⟩ := isF_nat hf
      obtain ⟨v, hv, h2, h40, e0, e1, e2⟩ := text_ends ha
      have HV := Lib.hid hv
      clear hv hf
      have a0 : ¬ (a : Int) < 0 := by omega
      have a31 : ¬ (31 : Int) < (a : Int) := by omega
      go_wp2_with fail
      refine (impl_ftext (a : Int) _ HL1.out).mono ?_
      rintro e w2 ⟨rfl, hb⟩
      have HB2 := Lib.hid (HB1.out.trans (hb.mono HB1.out.size))
      clear hb
      rw [HV.out]
      go_wp2_with fail
      refine (spec_ftext (a : Int) _).mono ?_
      rintro e w3 ⟨rfl, hb⟩
      have HB3 := Lib.hid (HB2.out.trans (hb.mono HB2.out.size))
      clear hb
      rw [HV.out]
      go_wp2
      go_ret
      exact ⟨rfl, HB3.out⟩
    | false =>
      have HV := Lib.hid (ftI_no hf)
      by_cases h0 : f < 0
      · clear hf
        go_wp2_with fail
        refine (impl_ftext f _ HL1.out).mono ?_
        rintro e w2 ⟨rfl, hb⟩
        have HB2 := Lib.hid (HB1.out.trans (hb.mono HB1.out.size))
        clear hb
        rw [HV.out, sB_nil]
        go_wp2_with fail
        refine (spec_ftext f _).mono ?_
        rintro e w3 ⟨rfl, hb⟩
        have HB3 := Lib.hid (HB2.out.trans (hb.mono HB2.out.size))
        clear hb
        rw [HV.out, sB_nil]
        go_wp2
        go_ret
        exact ⟨rfl, HB3.out⟩
      · have h31 : (31 : Int) < f := by rcases isF_no hf with h | h <;> omega
        clear hf
        go_wp2_with fail
        refine (impl_ftext f _ HL1.out).mono ?_
        rintro e w2 ⟨rfl, hb⟩
        have HB2 := Lib.hid (HB1.out.trans (hb.mono HB1.out.size))
        clear hb
        rw [HV.out, sB_nil]
        go_wp2_with fail
        refine (spec_ftext f _).mono ?_
        rintro e w3 ⟨rfl, hb⟩
        have HB3 := Lib.hid (HB2.out.trans (hb.mono HB2.out.size))
        clear hb
        rw [HV.out, sB_nil]
        go_wp2
        go_ret
        exact ⟨rfl, HB3.out⟩
  · have hl' : (1048576 : Int) < (len : Int) := by omega
    go_enter Tryd.func4, Tryd.ntmps4
    go_wp2
    go_ret
    exact ⟨rfl, Below.refl _ _⟩
set_option maxRecDepth 20000 in
set_option maxHeartbeats 2000000 in
theorem law_FnHaveSelf (A : Option Addr) (len cap : Nat) (w : World) (h : Coded w A len cap) (hL : Lst w) : Calls Tryd.prog 9 #[.slice A len cap] w (Holds1 w) := by
  have HC := Lib.hid h
  have HL := Lib.hid hL
  clear h hL
  by_cases hl : len ≤ 1048576
  · have hl' : (len : Int) ≤ 1048576 := by omega
    go_enter Tryd.func9, Tryd.ntmps9
    go_wp2_with fail
    refine (draw_have A len cap _ HC.out).mono ?_
    rintro e w1 ⟨f, o, rfl, hb⟩
    have HB1 := Lib.hid hb
    have HL1 := Lib.hid (HL.out.below hb (Nat.le_refl _))
    clear hb
    obtain ⟨z, hz⟩ : ∃ z, hvI f o = z := ⟨_, rfl⟩
    have HZ := Lib.hid hz
    clear hz
    cases hf : isF f with
    | false =>
      have HT := Lib.hid (ftI_no hf)
      have H1 := Lib.hid (hvI_no (f := f) (o := f) (by rw [hf]; rfl))
      have H2 := Lib.hid (hvI_no (f := f) (o := 0) (by rw [hf]; rfl))
      have H3 := Lib.hid (hvI_no (f := 31) (o := f) (by rw [hf]; simp))
      clear hf
      cases z
      all_goals
        go_wp2_with fail
        refine (impl_haveB f o _).mono ?_
        rintro e w2 ⟨rfl, hb⟩
        have HB2 := Lib.hid (HB1.out.trans (hb.mono HB1.out.size))
        have HL2 := Lib.hid (HL1.out.below hb (Nat.le_refl _))
        clear hb
        rw [HZ.out]
        go_wp2_with fail
        refine (spec_have f o _).mono ?_
        rintro e w3 ⟨rfl, hb⟩
        have HB3 := Lib.hid (HB2.out.trans (hb.mono HB2.out.size))
        have HL3 := Lib.hid (HL2.out.below hb (Nat.le_refl _))
        clear hb
        rw [HZ.out]
        go_wp2_with fail
        refine (impl_ftext f _ HL3.out).mono ?_
        rintro e w4 ⟨rfl, hb⟩
        have HB4 := Lib.hid (HB3.out.trans (hb.mono HB3.out.size))
        have HL4 := Lib.hid (HL3.out.below hb (Nat.le_refl _))
        clear hb
        rw [HT.out, sB_nil]
        go_wp2_with fail
        refine (impl_haveB f f _).mono ?_
        rintro e w5 ⟨rfl, hb⟩
        have HB5 := Lib.hid (HB4.out.trans (hb.mono HB4.out.size))
        have HL5 := Lib.hid (HL4.out.below hb (Nat.le_refl _))
        clear hb
        rw [H1.out]
        go_wp2_with fail
        refine (impl_haveB f 0 _).mono ?_
        rintro e w6 ⟨rfl, hb⟩
        have HB6 := Lib.hid (HB5.out.trans (hb.mono HB5.out.size))
        have HL6 := Lib.hid (HL5.out.below hb (Nat.le_refl _))
        clear hb
        rw [H2.out]
        go_wp2_with fail
        refine (impl_haveB 31 f _).mono ?_
        rintro e w7 ⟨rfl, hb⟩
        have HB7 := Lib.hid (HB6.out.trans (hb.mono HB6.out.size))
        have HL7 := Lib.hid (HL6.out.below hb (Nat.le_refl _))
        clear hb
        rw [H3.out]
        go_wp2
        go_ret
        exact ⟨rfl, HB7.out⟩
    | true =>
      obtain ⟨a, ha, rfl⟩ := isF_nat hf
      obtain ⟨T, hT, hT1, hT2⟩ := text_some ha
      have HT := Lib.hid hT
      obtain ⟨l1, l2, l3⟩ := self_law ha
      have H1 := Lib.hid (hv_true ha ha l1)
      have H2 := Lib.hid (show hvI (a : Int) 0 = true from hv_true (b := 0) ha (by omega) l2)
      have H3 := Lib.hid (show hvI 31 (a : Int) = true from hv_true (a := 31) (by omega) ha l3)
      clear hf hT l1 l2 l3
      cases z
      all_goals
        go_wp2_with fail
        refine (impl_haveB (a : Int) o _).mono ?_
        rintro e w2 ⟨rfl, hb⟩
        have HB2 := Lib.hid (HB1.out.trans (hb.mono HB1.out.size))
        have HL2 := Lib.hid (HL1.out.below hb (Nat.le_refl _))
        clear hb
        rw [HZ.out]
        go_wp2_with fail
        refine (spec_have (a : Int) o _).mono ?_
        rintro e w3 ⟨rfl, hb⟩
        have HB3 := Lib.hid (HB2.out.trans (hb.mono HB2.out.size))
        have HL3 := Lib.hid (HL2.out.below hb (Nat.le_refl _))
        clear hb
        rw [HZ.out]
        go_wp2_with fail
        refine (impl_ftext (a : Int) _ HL3.out).mono ?_
        rintro e w4 ⟨rfl, hb⟩
        have HB4 := Lib.hid (HB3.out.trans (hb.mono HB3.out.size))
        have HL4 := Lib.hid (HL3.out.below hb (Nat.le_refl _))
        clear hb
        rw [HT.out]
        go_wp2_with fail
        refine (impl_haveB (a : Int) (a : Int) _).mono ?_
        rintro e w5 ⟨rfl, hb⟩
        have HB5 := Lib.hid (HB4.out.trans (hb.mono HB4.out.size))
        have HL5 := Lib.hid (HL4.out.below hb (Nat.le_refl _))
        clear hb
        rw [H1.out]
        go_wp2_with fail
        refine (impl_haveB (a : Int) 0 _).mono ?_
        rintro e w6 ⟨rfl, hb⟩
        have HB6 := Lib.hid (HB5.out.trans (hb.mono HB5.out.size))
        have HL6 := Lib.hid (HL5.out.below hb (Nat.le_refl _))
        clear hb
        rw [H2.out]
        go_wp2_with fail
        refine (impl_haveB 31 (a : Int) _).mono ?_
        rintro e w7 ⟨rfl, hb⟩
        have HB7 := Lib.hid (HB6.out.trans (hb.mono HB6.out.size))
        have HL7 := Lib.hid (HL6.out.below hb (Nat.le_refl _))
        clear hb
        rw [H3.out]
        go_wp2
        go_ret
        exact ⟨rfl, HB7.out⟩
  · have hl' : (1048576 : Int) < (len : Int) := by omega
    go_enter Tryd.func9, Tryd.ntmps9
    go_wp2
    go_ret
    exact ⟨rfl, Below.refl _ _⟩
set_option maxRecDepth 20000 in
set_option maxHeartbeats 2000000 in
theorem law_FnChangeBad (A : Option Addr) (len cap : Nat) (w : World) (h : Coded w A len cap) (hL : Lst w) : Calls Tryd.prog 8 #[.slice A len cap] w (Holds1 w) := by
  have HC := Lib.hid h
  have HL := Lib.hid hL
  clear h hL
  by_cases hl : len ≤ 1048576
  · have hl' : (len : Int) ≤ 1048576 := by omega
    go_enter Tryd.func8, Tryd.ntmps8
    go_wp2_with fail
    refine (draw_change A len cap _ HC.out).mono ?_
    rintro e w1 ⟨f, h, o, rfl, hb⟩
    have HB1 := Lib.hid hb
    have HL1 := Lib.hid (HL.out.below hb (Nat.le_refl _))
    clear hb
    obtain ⟨z, hz⟩ : ∃ z, chI f h o = z := ⟨_, rfl⟩
    have HZ := Lib.hid hz
    by_cases h1 : h < -1
    · have hz1 : z = -1 := by rw [← hz, chI_no (by rw [show howB h = false by unfold howB; rw [decide_eq_false (p := -1 ≤ h) (by omega)]; rfl]; simp)]
      subst hz1
      clear hz
      go_wp2_with fail
      refine (impl_change f h o _).mono ?_
      rintro e w2 ⟨rfl, hb⟩
      have HB2 := Lib.hid (HB1.out.trans (hb.mono HB1.out.size))
      have HL2 := Lib.hid (HL1.out.below hb (Nat.le_refl _))
      clear hb
      rw [HZ.out]
      go_wp2_with fail
      refine (spec_change f h o _).mono ?_
      rintro e w3 ⟨rfl, hb⟩
      have HB3 := Lib.hid (HB2.out.trans (hb.mono HB2.out.size))
      have HL3 := Lib.hid (HL2.out.below hb (Nat.le_refl _))
      clear hb
      rw [HZ.out]
      go_wp2
      go_ret
      exact ⟨rfl, HB3.out⟩
    · by_cases h2 : 1 < h
      · have hz1 : z = -1 := by rw [← hz, chI_no (by rw [show howB h = false by unfold howB; rw [decide_eq_false (p := h ≤ 1) (by omega)]; simp]; simp)]
        subst hz1
        clear hz
        go_wp2_with fail
        refine (impl_change f h o _).mono ?_
        rintro e w2 ⟨rfl, hb⟩
        have HB2 := Lib.hid (HB1.out.trans (hb.mono HB1.out.size))
        have HL2 := Lib.hid (HL1.out.below hb (Nat.le_refl _))
        clear hb
        rw [HZ.out]
        go_wp2_with fail
        refine (spec_change f h o _).mono ?_
        rintro e w3 ⟨rfl, hb⟩
        have HB3 := Lib.hid (HB2.out.trans (hb.mono HB2.out.size))
        have HL3 := Lib.hid (HL2.out.below hb (Nat.le_refl _))
        clear hb
        rw [HZ.out]
        go_wp2
        go_ret
        exact ⟨rfl, HB3.out⟩
      · have hh : howB h = true := by unfold howB; rw [decide_eq_true (p := -1 ≤ h) (by omega), decide_eq_true (p := h ≤ 1) (by omega)]; rfl
        cases hf : isF f with
        | false =>
          have hz1 : z = -1 := by rw [← hz, chI_no (by rw [hf]; rfl)]
          subst hz1
          have HT := Lib.hid (ftI_no hf)
          clear hz hf hh
          go_wp2_with fail
          refine (impl_change f h o _).mono ?_
          rintro e w2 ⟨rfl, hb⟩
          have HB2 := Lib.hid (HB1.out.trans (hb.mono HB1.out.size))
          have HL2 := Lib.hid (HL1.out.below hb (Nat.le_refl _))
          clear hb
          rw [HZ.out]
          go_wp2_with fail
          refine (spec_change f h o _).mono ?_
          rintro e w3 ⟨rfl, hb⟩
          have HB3 := Lib.hid (HB2.out.trans (hb.mono HB2.out.size))
          have HL3 := Lib.hid (HL2.out.below hb (Nat.le_refl _))
          clear hb
          rw [HZ.out]
          go_wp2_with fail
          refine (impl_ftext f _ HL3.out).mono ?_
          rintro e w4 ⟨rfl, hb⟩
          have HB4 := Lib.hid (HB3.out.trans (hb.mono HB3.out.size))
          have HL4 := Lib.hid (HL3.out.below hb (Nat.le_refl _))
          clear hb
          rw [HT.out, sB_nil]
          go_wp2
          go_ret
          exact ⟨rfl, HB4.out⟩
        | true =>
          obtain ⟨a, ha, rfl⟩ := isF_nat hf
          obtain ⟨T, hT, hT1, hT2⟩ := text_some ha
          have HT := Lib.hid hT
          clear hT
          cases ho : isF o with
          | false =>
            have hz1 : z = -1 := by rw [← hz, chI_no (by rw [ho]; simp)]
            subst hz1
            have HU := Lib.hid (ftI_no ho)
            clear hz hf hh ho
            go_wp2_with fail
            refine (impl_change (a : Int) h o _).mono ?_
            rintro e w2 ⟨rfl, hb⟩
            have HB2 := Lib.hid (HB1.out.trans (hb.mono HB1.out.size))
            have HL2 := Lib.hid (HL1.out.below hb (Nat.le_refl _))
            clear hb
            rw [HZ.out]
            go_wp2_with fail
            refine (spec_change (a : Int) h o _).mono ?_
            rintro e w3 ⟨rfl, hb⟩
            have HB3 := Lib.hid (HB2.out.trans (hb.mono HB2.out.size))
            have HL3 := Lib.hid (HL2.out.below hb (Nat.le_refl _))
            clear hb
            rw [HZ.out]
            go_wp2_with fail
            refine (impl_ftext (a : Int) _ HL3.out).mono ?_
            rintro e w4 ⟨rfl, hb⟩
            have HB4 := Lib.hid (HB3.out.trans (hb.mono HB3.out.size))
            have HL4 := Lib.hid (HL3.out.below hb (Nat.le_refl _))
            clear hb
            rw [HT.out]
            go_wp2_with fail
            refine (impl_ftext o _ HL4.out).mono ?_
            rintro e w5 ⟨rfl, hb⟩
            have HB5 := Lib.hid (HB4.out.trans (hb.mono HB4.out.size))
            have HL5 := Lib.hid (HL4.out.below hb (Nat.le_refl _))
            clear hb
            rw [HU.out, sB_nil]
            go_wp2
            go_ret
            exact ⟨rfl, HB5.out⟩
          | true =>
            obtain ⟨b, hb, rfl⟩ := isF_nat ho
            obtain ⟨U, hU, hU1, hU2⟩ := text_some hb
            have HU := Lib.hid hU
            obtain ⟨c, hc⟩ : ∃ c, chN a h b = c := ⟨_, rfl⟩
            have hz1 : z = (c : Int) := by rw [← hz, chI_yes ha hb hh, hc]
            subst hz1
            have hc1 : ((c : Int) == -1) = false := beq_eq_false_iff_ne.2 (by omega)
            clear hz hf hh ho hU hc
            go_wp2_with fail
            refine (impl_change (a : Int) h (b : Int) _).mono ?_
            rintro e w2 ⟨rfl, hb⟩
            have HB2 := Lib.hid (HB1.out.trans (hb.mono HB1.out.size))
            have HL2 := Lib.hid (HL1.out.below hb (Nat.le_refl _))
            clear hb
            rw [HZ.out]
            go_wp2_with fail
            refine (spec_change (a : Int) h (b : Int) _).mono ?_
            rintro e w3 ⟨rfl, hb⟩
            have HB3 := Lib.hid (HB2.out.trans (hb.mono HB2.out.size))
            have HL3 := Lib.hid (HL2.out.below hb (Nat.le_refl _))
            clear hb
            rw [HZ.out]
            go_wp2_with fail
            refine (impl_ftext (a : Int) _ HL3.out).mono ?_
            rintro e w4 ⟨rfl, hb⟩
            have HB4 := Lib.hid (HB3.out.trans (hb.mono HB3.out.size))
            have HL4 := Lib.hid (HL3.out.below hb (Nat.le_refl _))
            clear hb
            rw [HT.out]
            go_wp2_with fail
            refine (impl_ftext (b : Int) _ HL4.out).mono ?_
            rintro e w5 ⟨rfl, hb⟩
            have HB5 := Lib.hid (HB4.out.trans (hb.mono HB4.out.size))
            have HL5 := Lib.hid (HL4.out.below hb (Nat.le_refl _))
            clear hb
            rw [HU.out]
            go_wp2
            go_ret
            exact ⟨ret_bool (by rw [decide_eq_false (p := h < -1) (by omega), decide_eq_false (p := 1 < h) (by omega)]; rfl), HB5.out⟩
  · have hl' : (1048576 : Int) < (len : Int) := by omega
    go_enter Tryd.func8, Tryd.ntmps8
    go_wp2
    go_ret
    exact ⟨rfl, Below.refl _ _⟩
end Go.Proofs.YtbcooiifpfdiaaaDoor
