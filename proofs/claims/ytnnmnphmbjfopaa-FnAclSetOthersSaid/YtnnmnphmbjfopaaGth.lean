/-
  The walks of the laws FnAclSetOthers. Condition: the code can be read.
-/
import Derived.Test.YtnnmnphmbjfopaaGy
import Derived.Test.YtnnmnphmbjfopaaLawa
namespace Go.Proofs.Ytnnmnphmbjfopaa
open Go.RowKit
set_option linter.unusedVariables false

set_option maxRecDepth 20000 in
set_option maxHeartbeats 4000000 in
theorem law_FnAclSetOthers (A : Option Addr) (len cap : Nat) (w : World) (h : Coded w A len cap) : Calls Try.prog 9 #[.slice A len cap] w (Holds1 w) := by
  have HC := Lib.hid h
  clear h
  by_cases hl : len ≤ 1048576
  · have hl' : (len : Int) ≤ 1048576 := by omega
    go_enter Try.func9, Try.ntmps9
    go_wp2_with fail
    refine (draw_aclset A len cap _ HC.out).mono ?_
    rintro e w1 ⟨A1, N1, cap1, L, s, x, rfl, hs, hgr⟩
    have HB1 := Lib.hid hgr.2.2.2
    have HL1 := Lib.hid hgr.gin
    have HSM := Lib.hid hgr.gin.small
    clear hgr
    have hs16 : s.size ≤ 16777216 := by omega
    obtain ⟨⟨M, z⟩, hac⟩ : ∃ y, aclG L s x = y := ⟨_, rfl⟩
    have HAC := Lib.hid hac
    have HSO := Lib.hid (aclG_small hac HSM.out hs16)
    clear hac
    cases z with
    | false =>
      go_wp2_with fail
      refine (impl_aclset HAC.out _ HL1.out hs16).mono ?_
      rintro e w2 ⟨A2, N2, cap2, rfl, ho, hb⟩
      have HB2 := Lib.hid (HB1.out.trans (hb.mono HB1.out.size))
      have HL2 := Lib.hid (HL1.out.below hb (Nat.le_refl _))
      have HO2 := Lib.hid (GIn.made ho HSO.out)
      clear ho
      clear hb
      go_wp2_with fail
      refine (spec_aclset HAC.out _ HL2.out hs16).mono ?_
      rintro e w3 ⟨A3, N3, cap3, rfl, ho, hb⟩
      have HB3 := Lib.hid (HB2.out.trans (hb.mono HB2.out.size))
      have HL3 := Lib.hid (HL2.out.below hb (Nat.le_refl _))
      have HO3 := Lib.hid (HO2.out.below hb (Nat.le_refl _))
      have HP3 := Lib.hid (GIn.made ho HSO.out)
      clear ho
      clear hb
      go_wp2_with fail
      refine (same_yes _ HO3.out HP3.out).mono ?_
      rintro e w4 ⟨rfl, hb⟩
      have HB4 := Lib.hid (HB3.out.trans (hb.mono HB3.out.size))
      have HL4 := Lib.hid (HL3.out.below hb (Nat.le_refl _))
      have HO4 := Lib.hid (HO3.out.below hb (Nat.le_refl _))
      have HP4 := Lib.hid (HP3.out.below hb (Nat.le_refl _))
      clear hb
      go_wp2_with fail
      refine (same_yes _ HO4.out HP4.out).mono ?_
      rintro e w5 ⟨rfl, hb⟩
      have HB5 := Lib.hid (HB4.out.trans (hb.mono HB4.out.size))
      have HL5 := Lib.hid (HL4.out.below hb (Nat.le_refl _))
      have HO5 := Lib.hid (HO4.out.below hb (Nat.le_refl _))
      have HP5 := Lib.hid (HP4.out.below hb (Nat.le_refl _))
      clear hb
      go_wp2
      go_ret
      exact ⟨rfl, HB5.out⟩
    | true =>
      obtain ⟨g1, g2, g3, g4⟩ := set_good HAC.out
      obtain ⟨hv, hn, hr, hM, hlm⟩ := aclG_true HAC.out
      have ha := (vG_iff.1 hv).2.2
      have HA := Lib.hid ha
      have HM := Lib.hid hM
      have HOL := Lib.hid (others_len ha s x)
      obtain ⟨xn, hxn, rfl⟩ := isR_nat hr
      have h4 : N1 ≤ 4 := by rw [← HL1.out.1]; exact (vG_iff.1 hv).1
      clear g1 g2 g3 g4 hv hn hr ha hM hlm
      go_wp2_with fail
      refine (impl_aclset HAC.out _ HL1.out hs16).mono ?_
      rintro e w2 ⟨A2, N2, cap2, rfl, ho, hb⟩
      have HB2 := Lib.hid (HB1.out.trans (hb.mono HB1.out.size))
      have HL2 := Lib.hid (HL1.out.below hb (Nat.le_refl _))
      have HO2 := Lib.hid (GIn.made ho HSO.out)
      clear ho
      clear hb
      go_wp2_with fail
      refine (spec_aclset HAC.out _ HL2.out hs16).mono ?_
      rintro e w3 ⟨A3, N3, cap3, rfl, ho, hb⟩
      have HB3 := Lib.hid (HB2.out.trans (hb.mono HB2.out.size))
      have HL3 := Lib.hid (HL2.out.below hb (Nat.le_refl _))
      have HO3 := Lib.hid (HO2.out.below hb (Nat.le_refl _))
      have HP3 := Lib.hid (GIn.made ho HSO.out)
      clear ho
      clear hb
      go_wp2_with fail
      refine (same_yes _ HO3.out HP3.out).mono ?_
      rintro e w4 ⟨rfl, hb⟩
      have HB4 := Lib.hid (HB3.out.trans (hb.mono HB3.out.size))
      have HL4 := Lib.hid (HL3.out.below hb (Nat.le_refl _))
      have HO4 := Lib.hid (HO3.out.below hb (Nat.le_refl _))
      have HP4 := Lib.hid (HP3.out.below hb (Nat.le_refl _))
      clear hb
      go_wp2
      go_loopw [10, 11] (fun m i wr => ∃ k : Nat, k ≤ N1 ∧ m = .int .i64 (((delG (L.take k) s).length : Nat) : Int) ∧ i = .int .i64 (k : Int) ∧ Hid (Below w4.heap.size w4 wr)) (fun _ i _ => N1 - (intOf i).toNat)
      case atStart => exact ⟨0, Nat.zero_le _, by rw [List.take_zero]; rfl, by go_num, Below.refl _ _⟩
      case round =>
        obtain ⟨k, hk, rfl, rfl, HBr⟩ := hrel
        have HLr := Lib.hid (HL4.out.below HBr.out (Nat.le_refl _))
        have HOr := Lib.hid (HO4.out.below HBr.out (Nat.le_refl _))
        have HBw := Lib.hid (HB4.out.trans (HBr.out.mono HB4.out.size))
        have hdk : (delG (L.take k) s).length ≤ k := Nat.le_trans (List.length_filter_le _ _) (by rw [List.length_take]; omega)
        obtain ⟨m, hm⟩ : ∃ m, (delG (L.take k) s).length = m := ⟨_, rfl⟩
        rw [hm] at hdk ⊢
        have HMK := Lib.hid hm
        clear hm
        by_cases hlt : k < N1
        · have h0 : (0 : Int) ≤ (k : Int) := by omega
          have h5 : (k : Int) < (N1 : Int) := by omega
          obtain ⟨⟨v, r⟩, hx⟩ : ∃ x, L[k]? = some x := ⟨_, List.getElem?_eq_getElem (by rw [HLr.out.1]; exact hlt)⟩
          have hd1 := delG_snoc (L.take k) (v, r) s
          rw [← take_snoc hx] at hd1
          obtain ⟨b, o, rfl, hb, c0, c1⟩ := grant_at HLr.out.2.2.1 hx
          by_cases hvs : v = s
          · rw [if_pos hvs] at hd1
            have HE : Hid ((delG (L.take (k + 1)) s).length = m) := Lib.hid (by rw [hd1]; exact HMK.out)
            subst hvs
            clear hx hd1
            go_wp2
            go_roundw
            case rel => exact ⟨k + 1, by omega, by rw [HE.out], by go_num, HBr⟩
            case measure => simp [intOf]; omega
          · rw [if_neg hvs] at hd1
            have HE : Hid ((delG (L.take (k + 1)) s).length = m + 1) := Lib.hid (by rw [hd1, List.length_append, HMK.out]; rfl)
            have HV : Hid (valG M v = r) := Lib.hid (by rw [HM.out]; exact others_val HA.out (g := (v, r)) (List.mem_of_getElem? hx) hvs)
            have hne : (v.toList == s.toList) = false := by rw [ByteArray.toList_eq, ByteArray.toList_eq]; exact ne_kb hvs
            have hne' : ¬ v.toList = s.toList := beq_eq_false_iff_ne.1 hne
            have hrr : (r != r) = false := by simp
            have l0 : ∀ x : Later wr.heap.size wr, x.v.cell? ⟨b, o + k * 2, none⟩ = some (.string v) := fun x => x.cell hb c0
            have l1 : ∀ x : Later wr.heap.size wr, x.v.cell? ⟨b, o + k * 2 + 1, none⟩ = some (.int .i64 r) := fun x => x.cell hb c1
            clear hx hd1 hvs
            go_wp2
            refine wp_region_later wr.heap.size wr (by kernel_rfl) (by kernel_rfl) ?_
            repeat (go_big_quiet_step ((go_at_call 34; refine (grantof_at HV.out _ (HOr.out.below (Later.h _) (Nat.le_refl _))).mono ?_; rintro e w2 ⟨rfl, hb2⟩; exact ⟨rfl, Later.call _ hb2 (Nat.le_refl _)⟩)))
            refine wpQuiet_nil ?_
            intro _ hw'
            obtain ⟨⟨w9, hb9⟩, rfl⟩ := hw'
            have HB9 := Lib.hid (HBr.out.trans (hb9.mono HBr.out.size))
            clear hb9
            go_wp2
            go_roundw
            case rel => exact ⟨k + 1, by omega, by rw [HE.out]; go_num, by go_num, HB9⟩
            case measure => simp [intOf]; omega
        · have h5 : ¬ (k : Int) < (N1 : Int) := by omega
          have HE : Hid (m = (delG L s).length) := Lib.hid (by rw [← HMK.out, List.take_of_length_le (by rw [HLr.out.1]; omega)])
          have hml : m ≤ 4 := by omega
          by_cases hx0 : xn = 0
          · have HN : Hid (N2 = m) := Lib.hid (by rw [← HOr.out.1, HM.out, HOL.out, HE.out, if_pos (by omega)]; rfl)
            have hnm := HN.out
            subst hnm
            subst hx0
            go_wp2
            go_ret
            exact ⟨rfl, HBw.out⟩
          · have hxp : (0 : Int) < (xn : Int) := by omega
            have HN : Hid (N2 = m + 1) := Lib.hid (by rw [← HOr.out.1, HM.out, HOL.out, HE.out, if_neg (by omega)])
            have hnm := HN.out
            subst hnm
            go_wp2
            go_ret
            exact ⟨rfl, HBw.out⟩
  · have hl' : (1048576 : Int) < (len : Int) := by omega
    go_enter Try.func9, Try.ntmps9
    go_wp2
    go_ret
    exact ⟨rfl, Below.refl _ _⟩
end Go.Proofs.Ytnnmnphmbjfopaa
