/-
  The walks of the laws FnBoxFlags. Condition: the code can be read.
-/
import Derived.Test.YtiidlkbfjhgbaaaLu
import Derived.BigQuiet
import Derived.Outline
namespace Go.Proofs.Ytiidlkbfjhgbaaa
open Go.RowKit
set_option linter.unusedVariables false

theorem chM_chI {u f0 h f : Int} {t : List UInt8} (hm : mOk (u, f0, t) = true) (hh : howB h = true) (hf : isF f = true) : chM h f (u, f0, t) = (u, chI f0 h f, t) := by
  obtain ⟨_, h2, _⟩ := mOk_iff.1 hm
  obtain ⟨a, ha, e⟩ := isF_nat h2
  obtain ⟨b, hb, rfl⟩ := isF_nat hf
  simp only at e
  subst e
  unfold chM
  rw [chI_yes ha hb hh]
  simp
theorem fl_get {L L2 : List ML} {P : List Int} {h f : Int} {k : Nat} {x : ML} (hr : L2 = flM P h f 1 L) (hx : L[k]? = some x) : L2[k]? = some (if hasI P ((k + 1 : Nat) : Int) then chM h f x else x) := by
  rw [hr, flM_get P h f 1 k L x hx, Nat.add_comm 1 k]
  rfl

set_option maxRecDepth 20000 in
set_option maxHeartbeats 3000000 in
theorem law_FnBoxFlags (A : Option Addr) (len cap : Nat) (w : World) (h : Coded w A len cap) : Calls Try.prog 9 #[.slice A len cap] w (Holds1 w) := by
  have HC := Lib.hid h
  clear h
  by_cases hl : len ≤ 1048576
  · have hl' : (len : Int) ≤ 1048576 := by omega
    go_enter Try.func9, Try.ntmps9
    go_wp2_with fail
    refine (draw_bflags A len cap _ HC.out).mono ?_
    rintro e w1 ⟨n, A1, N1, cap1, L, AP, NP, capP, P, h, f, rfl, hN1, hNP, hn1, hn2, hown, hownI, hb⟩
    obtain ⟨⟨n2, L2, ok⟩, hr⟩ : ∃ r, bxFl n L P h f = r := ⟨_, rfl⟩
    have hL2 : L2.length ≤ 14 := by have h1 := bxFl_len hr; have h2 := hown.len.1; omega
    have HR := Lib.hid hr
    have HNL := Lib.hid hown.len.1
    have HNP := Lib.hid hownI.len.1
    clear hr
    obtain ⟨D1, hD1⟩ : ∃ D, w1.heap.size = D := ⟨_, rfl⟩
    have K1 := Lib.hid ((((((kp_start w).move hb).and (MIn.of hown (by omega)).keep).and (IIn.of hownI (by omega)).keep).alloc (.cells #[.int .i64 n, .slice A1 N1 cap1] 25)).and (kp_one w1 25 #[.int .i64 n, .slice A1 N1 cap1] hD1))
    clear hb hown hownI
    have zD10 := K1.out.here.2.2.1.cell 0
    have zD11 := K1.out.here.2.2.1.cell 1
    simp at zD10 zD11
    go_wp2_with fail
    refine (impl_flags_at HR.out A1 N1 cap1 AP NP capP _ K1.out.here.1.1.2 K1.out.here.1.2).mono ?_
    rintro e w2 ⟨A2, N2, cap2, rfl, hown, hb⟩
    have hN2 : N2 ≤ 14 := by have := hown.len.1; omega
    have HNL2 := Lib.hid hown.len.1
    obtain ⟨D2, hD2⟩ : ∃ D, w2.heap.size = D := ⟨_, rfl⟩
    have K2 := Lib.hid ((((K1.out.move hb).and (MIn.of hown (by omega)).keep).alloc (.cells #[.int .i64 n2, .slice A2 N2 cap2] 25)).and (kp_one w2 25 #[.int .i64 n2, .slice A2 N2 cap2] hD2))
    clear hb hown
    clear zD10 zD11
    have zD10 := K2.out.here.1.1.2.2.1.cell 0
    have zD11 := K2.out.here.1.1.2.2.1.cell 1
    have zD20 := K2.out.here.2.2.1.cell 0
    have zD21 := K2.out.here.2.2.1.cell 1
    simp at zD10 zD11 zD20 zD21
    go_wp2_with fail
    refine (spec_flags_at HR.out A1 N1 cap1 AP NP capP _ K2.out.here.1.1.1.1.2 K2.out.here.1.1.1.2).mono ?_
    rintro e w3 ⟨A3, N3, cap3, rfl, hown, hb⟩
    have hN3 : N3 ≤ 14 := by have := hown.len.1; omega
    obtain ⟨D3, hD3⟩ : ∃ D, w3.heap.size = D := ⟨_, rfl⟩
    have K3 := Lib.hid ((((K2.out.move hb).and (MIn.of hown (by omega)).keep).alloc (.cells #[.int .i64 n2, .slice A3 N3 cap3] 25)).and (kp_one w3 25 #[.int .i64 n2, .slice A3 N3 cap3] hD3))
    clear hb hown
    clear zD10 zD11 zD20 zD21
    have zD10 := K3.out.here.1.1.1.1.2.2.1.cell 0
    have zD11 := K3.out.here.1.1.1.1.2.2.1.cell 1
    have zD20 := K3.out.here.1.1.2.2.1.cell 0
    have zD21 := K3.out.here.1.1.2.2.1.cell 1
    have zD30 := K3.out.here.2.2.1.cell 0
    have zD31 := K3.out.here.2.2.1.cell 1
    simp at zD10 zD11 zD20 zD21 zD30 zD31
    cases ok with
    | false =>
      go_wp2_with fail
      refine (same_box_at (o := true) n2 n2 _ K3.out.here.1.1.1.2 K3.out.here.1.2 (by simp)).mono ?_
      rintro e w4 ⟨rfl, hb⟩
      have K4 := Lib.hid (K3.out.move hb)
      clear hb
      clear zD10 zD11 zD20 zD21 zD30 zD31
      have zD10 := K4.out.here.1.1.1.1.2.2.1.cell 0
      have zD11 := K4.out.here.1.1.1.1.2.2.1.cell 1
      have zD20 := K4.out.here.1.1.2.2.1.cell 0
      have zD21 := K4.out.here.1.1.2.2.1.cell 1
      have zD30 := K4.out.here.2.2.1.cell 0
      have zD31 := K4.out.here.2.2.1.cell 1
      simp at zD10 zD11 zD20 zD21 zD30 zD31
      go_wp2_with fail
      refine (same_box_at (o := true) n2 n2 _ K4.out.here.1.1.1.2 K4.out.here.1.2 (by simp)).mono ?_
      rintro e w5 ⟨rfl, hb⟩
      have K5 := Lib.hid (K4.out.move hb)
      clear hb
      clear zD10 zD11 zD20 zD21 zD30 zD31
      have zD10 := K5.out.here.1.1.1.1.2.2.1.cell 0
      have zD11 := K5.out.here.1.1.1.1.2.2.1.cell 1
      have zD20 := K5.out.here.1.1.2.2.1.cell 0
      have zD21 := K5.out.here.1.1.2.2.1.cell 1
      have zD30 := K5.out.here.2.2.1.cell 0
      have zD31 := K5.out.here.2.2.1.cell 1
      simp at zD10 zD11 zD20 zD21 zD30 zD31
      go_wp2
      go_ret
      exact ⟨rfl, K5.out.here.1.1.1.1.1.1.1⟩
    | true =>
      go_wp2_with fail
      refine (same_box_at (o := true) n2 n2 _ K3.out.here.1.1.1.2 K3.out.here.1.2 (by simp)).mono ?_
      rintro e w4 ⟨rfl, hb⟩
      have K4 := Lib.hid (K3.out.move hb)
      clear hb
      clear zD10 zD11 zD20 zD21 zD30 zD31
      have zD10 := K4.out.here.1.1.1.1.2.2.1.cell 0
      have zD11 := K4.out.here.1.1.1.1.2.2.1.cell 1
      have zD20 := K4.out.here.1.1.2.2.1.cell 0
      have zD21 := K4.out.here.1.1.2.2.1.cell 1
      have zD30 := K4.out.here.2.2.1.cell 0
      have zD31 := K4.out.here.2.2.1.cell 1
      simp at zD10 zD11 zD20 zD21 zD30 zD31
      obtain ⟨hb1, hb2, hb3, hb4, hb5, hb6⟩ := bxFl_out HR.out
      have HBV := Lib.hid hb1
      have HHW := Lib.hid hb3
      have HFF := Lib.hid hb4
      have HE1 := Lib.hid hb5
      have HE2 := Lib.hid hb6
      have hN12 : N2 = N1 := by rw [HNL2.out, HNL.out, hb6, flM_len]
      have HN12 := Lib.hid hN12
      clear hb1 hb2 hb3 hb4 hb5 hb6
      obtain ⟨S, hS⟩ : ∃ S, w4.heap.size = S := ⟨_, rfl⟩
      have HBS := Lib.hid (Below.refl S w4)
      have hzS : S ≤ w4.heap.size := by omega
      go_wp2
      clear hN12
      go_loopw [11] (fun i wr => ∃ k : Nat, k ≤ N1 ∧ i = .int .i64 (k : Int) ∧ S ≤ wr.heap.size ∧ Hid (Below S w4 wr)) (fun i _ => N1 - (intOf i).toNat)
      case atStart => exact ⟨0, Nat.zero_le _, by go_num, hzS, HBS⟩
      case round =>
        obtain ⟨k, hk, rfl, hzr, HB⟩ := hrel
        clear zD10 zD11 zD20 zD21 zD30 zD31
        have K5 := Lib.hid (K4.out.move (hS ▸ HB.out))
        have zD10 := K5.out.here.1.1.1.1.2.2.1.cell 0
        have zD11 := K5.out.here.1.1.1.1.2.2.1.cell 1
        have zD20 := K5.out.here.1.1.2.2.1.cell 0
        have zD21 := K5.out.here.1.1.2.2.1.cell 1
        have zD30 := K5.out.here.2.2.1.cell 0
        have zD31 := K5.out.here.2.2.1.cell 1
        simp at zD10 zD11 zD20 zD21 zD30 zD31
        by_cases hlt : k < N1
        · have h0 : (0 : Int) ≤ (k : Int) := by omega
          have h6 : (k : Int) < (N1 : Int) := by omega
          have h5 : (k : Int) < (N2 : Int) := by have := HN12.out; omega
          obtain ⟨k1, hk1⟩ : ∃ q, k + 1 = q := ⟨_, rfl⟩
          have E1 : (k : Int) + 1 = (k1 : Int) := by omega
          have W1 : IntKind.i64.wrap ((k : Int) + 1) = (k1 : Int) := (IntWalk.i64_in _ (by omega)).trans E1
          have W2 : IntKind.i64.wrap (k1 : Int) = (k1 : Int) := IntWalk.i64_in _ (by omega)
          obtain ⟨⟨u, f0, t⟩, hx⟩ : ∃ x, L[k]? = some x := ⟨_, List.getElem?_eq_getElem (by rw [← HNL.out]; exact hlt)⟩
          obtain ⟨b, o, hAe, hbb, d0, d1, d2⟩ := mail_at K5.out.here.1.1.1.1.1.1.2.2.2.1 hx
          obtain ⟨vt, hvt⟩ : ∃ v, sB t = v := ⟨_, rfl⟩
          rw [hvt] at d2
          have HVT := Lib.hid hvt
          have hg := fl_get HE2.out hx
          rw [hk1] at hg
          have HG := Lib.hid hg
          have HCH := Lib.hid (chM_chI (h := h) (f := f) (bOk_get HBV.out hx).1 HHW.out HFF.out)
          clear hx hvt hg hk1
          subst hAe
          obtain ⟨E, hE⟩ : ∃ E, wr.heap.size = E := ⟨_, rfl⟩
          have HWM := Lib.hid (hE ▸ Whole.made wr 32 #[.int .i64 u, .int .i64 f0, .string vt])
          have HBM := Lib.hid (HB.out.alloc hzr (.cells #[.int .i64 u, .int .i64 f0, .string vt] 32))
          have hzm : (wr.alloc (.cells #[.int .i64 u, .int .i64 f0, .string vt] 32)).heap.size = E + 1 := by simp [hE]
          have hSE : S ≤ E := by omega
          go_wp2_with fail
          obtain ⟨wm, hwm⟩ : ∃ wm, wr.alloc (.cells #[.int .i64 u, .int .i64 f0, .string vt] 32) = wm := ⟨_, rfl⟩
          rw [hwm] at HWM HBM hzm ⊢
          clear hwm
          clear zD10 zD11 zD20 zD21 zD30 zD31 d0 d1 d2
          have K6 := Lib.hid (K4.out.move (hS ▸ HBM.out))
          cases hh : hasI P (k1 : Int) with
          | false =>
            have HH := Lib.hid hh
            clear hh
            rw [HH.out] at HG
            refine (has_int_at _ K6.out.here.1.1.1.1.1.2 HH.out).mono ?_
            rintro e w15 ⟨rfl, hb⟩
            have HB15 := Lib.hid (HBM.out.trans (hb.mono (by omega)))
            have HWE := Lib.hid (HWM.out.below hb (by omega))
            have hz15 : E + 1 ≤ w15.heap.size := by have := hb.size; omega
            clear hb
            have K7 := Lib.hid (K4.out.move (hS ▸ HB15.out))
            have zD10 := K7.out.here.1.1.1.1.2.2.1.cell 0
            have zD11 := K7.out.here.1.1.1.1.2.2.1.cell 1
            have zD20 := K7.out.here.1.1.2.2.1.cell 0
            have zD21 := K7.out.here.1.1.2.2.1.cell 1
            have zD30 := K7.out.here.2.2.1.cell 0
            have zD31 := K7.out.here.2.2.1.cell 1
            simp at zD10 zD11 zD20 zD21 zD30 zD31
            have m0 := HWE.out.cell 0
            have m1 := HWE.out.cell 1
            have m2 := HWE.out.cell 2
            simp at m0 m1 m2
            obtain ⟨b', o', hA2, hbb2, d0, d1, d2⟩ := mail_at (u := u) (f := f0) (t := t) K7.out.here.1.1.1.2.2.2.1 HG.out
            rw [HVT.out] at d2
            subst hA2
            go_wp2
            go_quiet (fail)
            go_wp2
            go_roundw
            case rel => exact ⟨k + 1, by omega, by go_num, (by show S ≤ w15.heap.size; omega), Lib.hid (below_drewN' HB15.out _)⟩
            case measure => simp [intOf]; omega
          | true =>
            have HH := Lib.hid hh
            clear hh
            rw [HH.out] at HG
            refine (has_int_at _ K6.out.here.1.1.1.1.1.2 HH.out).mono ?_
            rintro e w15 ⟨rfl, hb⟩
            have HB15 := Lib.hid (HBM.out.trans (hb.mono (by omega)))
            have HWE := Lib.hid (HWM.out.below hb (by omega))
            have hz15 : E + 1 ≤ w15.heap.size := by have := hb.size; omega
            clear hb
            have K7 := Lib.hid (K4.out.move (hS ▸ HB15.out))
            have zD10 := K7.out.here.1.1.1.1.2.2.1.cell 0
            have zD11 := K7.out.here.1.1.1.1.2.2.1.cell 1
            have zD20 := K7.out.here.1.1.2.2.1.cell 0
            have zD21 := K7.out.here.1.1.2.2.1.cell 1
            have zD30 := K7.out.here.2.2.1.cell 0
            have zD31 := K7.out.here.2.2.1.cell 1
            simp at zD10 zD11 zD20 zD21 zD30 zD31
            have m0 := HWE.out.cell 0
            have m1 := HWE.out.cell 1
            have m2 := HWE.out.cell 2
            simp at m0 m1 m2
            have hg2 := HG.out
            rw [if_pos rfl, HCH.out] at hg2
            obtain ⟨c, hc⟩ : ∃ c, chI f0 h f = c := ⟨_, rfl⟩
            rw [hc] at hg2
            have HG2 := Lib.hid hg2
            have HC2 := Lib.hid hc
            clear hg2 hc
            have mf := HWE.out.free 1
            go_wp2_with fail
            refine (impl_change f0 h f _).mono ?_
            rw [HC2.out]
            rintro e w16 ⟨rfl, hb⟩
            have HB16 := Lib.hid (HB15.out.trans (hb.mono (by omega)))
            have HWF := Lib.hid (HWE.out.below hb (by omega))
            have hz16 : E + 1 ≤ w16.heap.size := by have := hb.size; omega
            clear hb mf m0 m1 m2
            have K8 := Lib.hid (K4.out.move (hS ▸ HB16.out))
            clear zD10 zD11 zD20 zD21 zD30 zD31
            have zD10 := K8.out.here.1.1.1.1.2.2.1.cell 0
            have zD11 := K8.out.here.1.1.1.1.2.2.1.cell 1
            have zD20 := K8.out.here.1.1.2.2.1.cell 0
            have zD21 := K8.out.here.1.1.2.2.1.cell 1
            have zD30 := K8.out.here.2.2.1.cell 0
            have zD31 := K8.out.here.2.2.1.cell 1
            simp at zD10 zD11 zD20 zD21 zD30 zD31
            have m0 := HWF.out.cell 0
            have m1 := HWF.out.cell 1
            have m2 := HWF.out.cell 2
            simp at m0 m1 m2
            have mf := HWF.out.free 1
            have HB17 := Lib.hid (HB16.out.setCell (p := ⟨E, 1, none⟩) hSE (.int .i64 c))
            have HWG := Lib.hid (HWF.out.store 1 (.int .i64 c))
            have hz17 : E + 1 ≤ (w16.setCell ⟨E, 1, none⟩ (.int .i64 c)).heap.size := by simpa using hz16
            go_wp2_with fail
            obtain ⟨wz, hwz⟩ : ∃ wz, w16.setCell ⟨E, 1, none⟩ (.int .i64 c) = wz := ⟨_, rfl⟩
            rw [hwz] at HB17 HWG hz17 ⊢
            clear hwz mf m0 m1 m2
            have m0 := HWG.out.cell 0
            have m1 := HWG.out.cell 1
            have m2 := HWG.out.cell 2
            simp at m0 m1 m2
            have K9 := Lib.hid (K4.out.move (hS ▸ HB17.out))
            clear zD10 zD11 zD20 zD21 zD30 zD31
            have zD10 := K9.out.here.1.1.1.1.2.2.1.cell 0
            have zD11 := K9.out.here.1.1.1.1.2.2.1.cell 1
            have zD20 := K9.out.here.1.1.2.2.1.cell 0
            have zD21 := K9.out.here.1.1.2.2.1.cell 1
            have zD30 := K9.out.here.2.2.1.cell 0
            have zD31 := K9.out.here.2.2.1.cell 1
            simp at zD10 zD11 zD20 zD21 zD30 zD31
            obtain ⟨b', o', hA2, hbb2, d0, d1, d2⟩ := mail_at K9.out.here.1.1.1.2.2.2.1 HG2.out
            rw [HVT.out] at d2
            subst hA2
            go_quiet (fail)
            go_wp2
            go_roundw
            case rel => exact ⟨k + 1, by omega, by go_num, (by show S ≤ wz.heap.size; omega), Lib.hid (below_drewN' HB17.out _)⟩
            case measure => simp [intOf]; omega
        · have h5 : ¬ (k : Int) < (N2 : Int) := by have := HN12.out; omega
          have q1 : (n2 == n) = true := by rw [HE1.out]; simp
          have q2 : ((N2 : Int) == (N1 : Int)) = true := by rw [HN12.out]; simp
          go_wp2
          go_ret
          exact ⟨rfl, K5.out.here.1.1.1.1.1.1.1⟩
  · have hl' : (1048576 : Int) < (len : Int) := by omega
    go_enter Try.func9, Try.ntmps9
    go_wp2
    go_ret
    exact ⟨rfl, Below.refl _ _⟩
end Go.Proofs.Ytiidlkbfjhgbaaa
