/-
  The walks of the laws FnUids. Condition: the code can be read.
-/
import Derived.Test.YtiidlkbfjhgbaaaLm
import Derived.Outline
namespace Go.Proofs.Ytiidlkbfjhgbaaa
open Go.RowKit
set_option linter.unusedVariables false

set_option maxRecDepth 20000 in
set_option maxHeartbeats 8000000 in
theorem law_FnUids (A : Option Addr) (len cap : Nat) (w : World) (h : Coded w A len cap) : Calls Try.prog 20 #[.slice A len cap] w (Holds1 w) := by
  have HC := Lib.hid h
  clear h
  by_cases hl : len ≤ 1048576
  · have hl' : (len : Int) ≤ 1048576 := by omega
    go_enter Try.func20, Try.ntmps20
    go_wp2_with fail
    refine (draw_buids A len cap _ HC.out).mono ?_
    rintro e w1 ⟨n, A1, N1, cap1, L, AU, NU, capU, U, rfl, hN1, hNU, hn1, hn2, hown, hownI, hb⟩
    obtain ⟨G, hG⟩ : ∃ r, bxUI n L U = r := ⟨_, rfl⟩
    have hGl : G.length ≤ 14 := by have h1 := bxUI_le hG; have h2 := hown.len.1; omega
    have HG := Lib.hid hG
    have HNL := Lib.hid hown.len.1
    clear hG
    obtain ⟨D1, hD1⟩ : ∃ D, w1.heap.size = D := ⟨_, rfl⟩
    have K1 := Lib.hid ((((((kp_start w).move hb).and (MIn.of hown (by omega)).keep).and (IIn.of hownI (by omega)).keep).alloc (.cells #[.int .i64 n, .slice A1 N1 cap1] 25)).and (kp_one w1 25 #[.int .i64 n, .slice A1 N1 cap1] hD1))
    clear hb hown hownI
    have zD10 := K1.out.here.2.2.1.cell 0
    have zD11 := K1.out.here.2.2.1.cell 1
    simp at zD10 zD11
    go_wp2_with fail
    refine (impl_uids_at HG.out A1 N1 cap1 AU NU capU _ K1.out.here.1.1.2 K1.out.here.1.2).mono ?_
    rintro e w2 ⟨A2, N2, cap2, rfl, hownI, hb⟩
    have hN2 : N2 ≤ 14 := by have := hownI.len.1; omega
    have HN2 := Lib.hid hownI.len.1
    have K2 := Lib.hid ((K1.out.move hb).and (IIn.of hownI (by omega)).keep)
    clear hb hownI
    clear zD10 zD11
    have zD10 := K2.out.here.1.2.2.1.cell 0
    have zD11 := K2.out.here.1.2.2.1.cell 1
    simp at zD10 zD11
    go_wp2_with fail
    refine (spec_uids_at HG.out A1 N1 cap1 AU NU capU _ K2.out.here.1.1.1.2 K2.out.here.1.1.2).mono ?_
    rintro e w3 ⟨A3, N3, cap3, rfl, hownI, hb⟩
    have hN3 : N3 ≤ 14 := by have := hownI.len.1; omega
    have K3 := Lib.hid ((K2.out.move hb).and (IIn.of hownI (by omega)).keep)
    clear hb hownI
    clear zD10 zD11
    have zD10 := K3.out.here.1.1.2.2.1.cell 0
    have zD11 := K3.out.here.1.1.2.2.1.cell 1
    simp at zD10 zD11
    go_wp2_with fail
    refine (same_nums_at (o := true) _ K3.out.here.1.2 K3.out.here.2 (by simp)).mono ?_
    rintro e w4 ⟨rfl, hb⟩
    have K4 := Lib.hid (K3.out.move hb)
    clear hb
    clear zD10 zD11
    have zD10 := K4.out.here.1.1.2.2.1.cell 0
    have zD11 := K4.out.here.1.1.2.2.1.cell 1
    simp at zD10 zD11
    obtain ⟨bv, hbv⟩ : ∃ b, bOk n L = b := ⟨_, rfl⟩
    go_wp2_with fail
    refine (boxvalid_at hbv A1 N1 cap1 _ K4.out.here.1.1.1.1.2).mono ?_
    rintro e w6 ⟨rfl, hb⟩
    have K5 := Lib.hid (K4.out.move hb)
    clear hb
    clear zD10 zD11
    have zD10 := K5.out.here.1.1.2.2.1.cell 0
    have zD11 := K5.out.here.1.1.2.2.1.cell 1
    simp at zD10 zD11
    have HBV := Lib.hid hbv
    clear hbv
    cases bv with
    | false =>
      go_wp2_with fail
      refine (same_nums_at (o := true) _ K5.out.here.1.2 K5.out.here.2 (by simp)).mono ?_
      rintro e w7 ⟨rfl, hb⟩
      have K6 := Lib.hid (K5.out.move hb)
      clear hb
      clear zD10 zD11
      have zD10 := K6.out.here.1.1.2.2.1.cell 0
      have zD11 := K6.out.here.1.1.2.2.1.cell 1
      simp at zD10 zD11
      go_wp2
      go_ret
      exact ⟨rfl, K6.out.here.1.1.1.1.1⟩
    | true =>
      have HGU : Hid (G = udI U L) := HG.out.symm.trans (bxUI_of HBV.out)
      clear zD10 zD11
      have hw6 : w6.heap.size ≤ w6.heap.size := Nat.le_refl _
      have HBS := Lib.hid (Below.refl w6.heap.size w6)
      have zD10 := K5.out.here.1.1.2.2.1.cell 0
      have zD11 := K5.out.here.1.1.2.2.1.cell 1
      simp at zD10 zD11
      go_wp2
      go_loopw [7, 8] (fun v i wr => ∃ k c : Nat, k ≤ N1 ∧ v = .int .i64 (c : Int) ∧ i = .int .i64 (k : Int) ∧ c ≤ k ∧ Hid ((udI U (L.take k)).length = c) ∧ Hid (Below w6.heap.size w6 wr)) (fun _ i _ => N1 - (intOf i).toNat)
      case atStart => exact ⟨0, 0, Nat.zero_le _, by go_num, by go_num, Nat.le_refl _, by show _ = _; rfl, HBS⟩
      case round =>
        obtain ⟨k, c, hk, rfl, rfl, hck, HCT, HB⟩ := hrel
        clear zD10 zD11
        have K6 := Lib.hid (K5.out.move HB.out)
        have zD10 := K6.out.here.1.1.2.2.1.cell 0
        have zD11 := K6.out.here.1.1.2.2.1.cell 1
        simp at zD10 zD11
        by_cases hlt : k < N1
        · have h0 : (0 : Int) ≤ (k : Int) := by omega
          have h5 : (k : Int) < (N1 : Int) := by omega
          obtain ⟨⟨u, f, t⟩, hx⟩ : ∃ x, L[k]? = some x := ⟨_, List.getElem?_eq_getElem (by rw [← HNL.out]; exact hlt)⟩
          obtain ⟨b, o, hAe, hbb, d0, -, -⟩ := mail_at K6.out.here.1.1.1.1.2.2.2.1 hx
          have HX := Lib.hid hx
          clear hx
          subst hAe
          cases hh : hasI U u with
          | false =>
            have HH := Lib.hid hh
            clear hh
            go_wp2_with fail
            refine (has_int_at _ K6.out.here.1.1.1.2 HH.out).mono ?_
            rintro e w7 ⟨rfl, hb⟩
            have HB7 := Lib.hid (HB.out.trans (hb.mono HB.out.size))
            clear hb
            go_wp2
            go_roundw
            case rel => exact ⟨k + 1, c, by omega, rfl, by go_num, by omega, (by show _ = _; rw [udI_no HX.out HH.out]; exact HCT.out), HB7⟩
            case measure => simp [intOf]; omega
          | true =>
            have HH := Lib.hid hh
            clear hh
            go_wp2_with fail
            refine (has_int_at _ K6.out.here.1.1.1.2 HH.out).mono ?_
            rintro e w7 ⟨rfl, hb⟩
            have HB7 := Lib.hid (HB.out.trans (hb.mono HB.out.size))
            have K7 := Lib.hid (K6.out.move hb)
            clear hb d0
            clear zD10 zD11
            have zD10 := K7.out.here.1.1.2.2.1.cell 0
            have zD11 := K7.out.here.1.1.2.2.1.cell 1
            simp at zD10 zD11
            have hg : G[c]? = some ((k + 1 : Nat) : Int) := by rw [HGU.out, ← HCT.out]; exact udI_get HX.out HH.out
            obtain ⟨k1, hk1⟩ : ∃ q, k + 1 = q := ⟨_, rfl⟩
            rw [hk1] at hg
            have hcN : c < N2 := by rw [HN2.out]; exact (List.getElem?_eq_some_iff.1 hg).1
            obtain ⟨b2, o2, hA2, hb2, d1⟩ := int_at K7.out.here.1.2.2.2.1 hg
            clear hg
            subst hA2
            have E1 : (k : Int) + 1 = (k1 : Int) := by omega
            have W1 : IntKind.i64.wrap ((k : Int) + 1) = (k1 : Int) := (IntWalk.i64_in _ (by omega)).trans E1
            have c0 : (0 : Int) ≤ (c : Int) := by omega
            have c1 : (c : Int) < (N2 : Int) := by omega
            have c2 : ¬ (N2 : Int) ≤ (c : Int) := by omega
            have c3 : ¬ N2 ≤ c := by omega
            go_wp2
            go_roundw
            case rel => exact ⟨k + 1, c + 1, by omega, by go_num, by go_num, by omega, (by show _ = _; rw [udI_yes HX.out HH.out, List.length_append, HCT.out]; rfl), HB7⟩
            case measure => simp [intOf]; omega
        · have h5 : ¬ (k : Int) < (N1 : Int) := by omega
          obtain rfl : k = N1 := by omega
          have hcN : c = N2 := by have h1 := HCT.out; rw [HNL.out, List.take_length] at h1; rw [HN2.out, HGU.out]; exact h1.symm
          subst hcN
          go_wp2
          go_ret
          exact ⟨rfl, K6.out.here.1.1.1.1.1⟩
  · have hl' : (1048576 : Int) < (len : Int) := by omega
    go_enter Try.func20, Try.ntmps20
    go_wp2
    go_ret
    exact ⟨rfl, Below.refl _ _⟩
end Go.Proofs.Ytiidlkbfjhgbaaa
