/-
  The walks of the laws FnRcptUnknown. Condition: the code can be read.
-/
import Derived.Test.YtichajalinkcdaaGreatDoorQk
namespace Go.Proofs.YtichajalinkcdaaGreatDoor
open Go.RowKit
set_option linter.unusedVariables false

set_option maxRecDepth 20000 in
set_option maxHeartbeats 8000000 in
theorem law_FnRcptUnknown (A0 : Option Addr) (len cap0 : Nat) (w : World) (h : Coded w A0 len cap0) (hm : MxS w) : Calls Tryz.prog 13 #[.slice A0 len cap0] w (Holds1 w) := by
  have HC := Lib.hid h
  have HM := Lib.hid hm
  clear h hm
  by_cases hlen : 1048576 < len
  ·
    have hlenI : (1048576 : Int) < (len : Int) := by omega
    go_enter Tryz.func13, Tryz.ntmps13
    go_wp2
    go_ret
    exact ⟨rfl, Below.refl _ _⟩
  have hlenJ : ¬ (1048576 : Int) < (len : Int) := by omega
  go_enter Tryz.func13, Tryz.ntmps13
  go_wp2_with fail
  refine (draw_subline A0 len cap0 w HC.out).mono ?_
  rintro e w1 ⟨st, us, tx, d, l, A, AU, N, cap, NU, cU, T, L, rfl, hus, htx, hl, hT, ho, hu, hd, hll⟩
  obtain ⟨D, hD⟩ : ∃ D, w1.heap.size = D := ⟨_, rfl⟩
  obtain ⟨w2, hw2⟩ : ∃ w2, w1.alloc (.cells #[.int .i64 st, .string us, .slice A N cap, .string tx] 25) = w2 := ⟨_, rfl⟩
  have hs1 : SIn w1 A N cap T := SIn.made ho (by omega) (fun g hg => by have := hT g hg; omega)
  have hb2 : Below w1.heap.size w1 w2 := by rw [← hw2]; exact below_new _ _
  have K2 := Lib.hid (((UV.made hu.2.2.2.2 hu.uin HM.out).move hb2).and (SV.made (s := ⟨st, us, T, tx⟩) hs1 hD hw2))
  have HUS : Hid (us.size ≤ 30) := Lib.hid hus
  have HDS : Hid (d.size ≤ 30) := Lib.hid hd
  have HLS : Hid (l.size ≤ 200) := Lib.hid hll
  have HNU : Hid (1 ≤ NU ∧ NU ≤ 5) := Lib.hid ⟨hu.1, hu.2.1⟩
  have HUL : Hid (∀ g ∈ L, g.1.size ≤ 30 ∧ g.2.1.size ≤ 30) := Lib.hid hu.2.2.1
  have HTX : Hid (tx.size ≤ 30) := Lib.hid htx
  clear hus htx hl hT ho hu hd hll hs1 hb2
  obtain ⟨⟨⟨st1, us1, T1, tx1⟩, n1⟩, hr, hrv⟩ := lineIs_any ⟨st, us, T, tx⟩ L d l
  have HR := Lib.hid hr
  have HRV := Lib.hid hrv
  clear hr hrv
  have zs0 := K2.out.here.2.1.cell 0
  have zs1 := K2.out.here.2.1.cell 1
  have zs2 := K2.out.here.2.1.cell 2
  have zs3 := K2.out.here.2.1.cell 3
  simp only [List.getElem?_toArray, List.getElem?_cons_zero, List.getElem?_cons_succ] at zs0 zs1 zs2 zs3
  go_wp2_with fail
  refine (line_at HR.out _ K2.out.here.2.2 K2.out.here.1.2.1 K2.out.here.1.2.2 HUS.out HDS.out (by have := HLS.out; omega)).mono ?_
  rintro e w21 ⟨A21, N21, c21, rfl, hs, hb⟩
  obtain ⟨D21, hD⟩ : ∃ D, w21.heap.size = D := ⟨_, rfl⟩
  obtain ⟨v21, hw21⟩ : ∃ v, w21.alloc (.cells #[.int .i64 st1, .string us1, .slice A21 N21 c21, .string tx1] 25) = v := ⟨_, rfl⟩
  have hb2 : Below w21.heap.size w21 v21 := by rw [← hw21]; exact below_new _ _
  have K21 := Lib.hid (((K2.out.move hb).move hb2).and (SV.made (s := ⟨st1, us1, T1, tx1⟩) hs hD hw21))
  clear hb hb2 hs
  clear zs0 zs1 zs2 zs3
  have zs0 := K21.out.here.1.2.1.cell 0
  have zs1 := K21.out.here.1.2.1.cell 1
  have zs2 := K21.out.here.1.2.1.cell 2
  have zs3 := K21.out.here.1.2.1.cell 3
  simp only [List.getElem?_toArray, List.getElem?_cons_zero, List.getElem?_cons_succ] at zs0 zs1 zs2 zs3
  go_wp2_with fail
  refine (sline_at HR.out _ K21.out.here.1.2.2 K21.out.here.1.1.2.1 HUS.out HDS.out (by have := HLS.out; omega)).mono ?_
  rintro e w22 ⟨A22, N22, c22, rfl, hs, hb⟩
  obtain ⟨D22, hD⟩ : ∃ D, w22.heap.size = D := ⟨_, rfl⟩
  obtain ⟨v22, hw22⟩ : ∃ v, w22.alloc (.cells #[.int .i64 st1, .string us1, .slice A22 N22 c22, .string tx1] 25) = v := ⟨_, rfl⟩
  have hb2 : Below w22.heap.size w22 v22 := by rw [← hw22]; exact below_new _ _
  have K22 := Lib.hid (((K21.out.move hb).move hb2).and (SV.made (s := ⟨st1, us1, T1, tx1⟩) hs hD hw22))
  clear hb hb2 hs
  clear zs0 zs1 zs2 zs3
  have zo0 := K22.out.here.1.2.1.cell 0
  have zo1 := K22.out.here.1.2.1.cell 1
  have zo2 := K22.out.here.1.2.1.cell 2
  have zo3 := K22.out.here.1.2.1.cell 3
  have zt0 := K22.out.here.2.1.cell 0
  have zt1 := K22.out.here.2.1.cell 1
  have zt2 := K22.out.here.2.1.cell 2
  have zt3 := K22.out.here.2.1.cell 3
  simp only [List.getElem?_toArray, List.getElem?_cons_zero, List.getElem?_cons_succ] at zo0 zo1 zo2 zo3 zt0 zt1 zt2 zt3
  go_wp2_with fail
  refine (same_sub _ K22.out.here.1.2.2 K22.out.here.2.2).mono ?_
  rintro e x2w ⟨rfl, hb⟩
  have K23 := Lib.hid (K22.out.move hb)
  clear hb
  clear zo0 zo1 zo2 zo3 zt0 zt1 zt2 zt3
  cases hz : (sbV ⟨st, us, T, tx⟩ && (vU L && domB (kb d))) with
  | false =>
    have e0 : n1 = -1 := congrArg Prod.snd (HR.out.off hz)
    subst e0
    clear hz
    have zo0 := K23.out.here.1.2.1.cell 0
    have zo1 := K23.out.here.1.2.1.cell 1
    have zo2 := K23.out.here.1.2.1.cell 2
    have zo3 := K23.out.here.1.2.1.cell 3
    have zt0 := K23.out.here.2.1.cell 0
    have zt1 := K23.out.here.2.1.cell 1
    have zt2 := K23.out.here.2.1.cell 2
    have zt3 := K23.out.here.2.1.cell 3
    simp only [List.getElem?_toArray, List.getElem?_cons_zero, List.getElem?_cons_succ] at zo0 zo1 zo2 zo3 zt0 zt1 zt2 zt3
    go_wp2_with fail
    refine (same_sub _ K23.out.here.1.2.2 K23.out.here.2.2).mono ?_
    rintro e x3w ⟨rfl, hb⟩
    have K24 := Lib.hid (K23.out.move hb)
    clear hb
    clear zo0 zo1 zo2 zo3 zt0 zt1 zt2 zt3
    go_wp2
    go_ret
    exact ⟨rfl, K24.out.here.1.1.1.1⟩
  | true =>
    have h0 : ¬ n1 < 0 := by have h := HR.out.on hz; simp only at h; omega
    have HZ := Lib.hid hz
    clear hz
    by_cases h34 : ¬ (st = 3 ∨ st = 4)
    ·
      have h3' : (st != 3) = true := bne_iff_ne.2 (fun e => h34 (.inl e))
      have h4' : (st != 4) = true := bne_iff_ne.2 (fun e => h34 (.inr e))
      clear h34
      have zs0 := K23.out.here.1.1.2.1.cell 0
      have zs1 := K23.out.here.1.1.2.1.cell 1
      have zs2 := K23.out.here.1.1.2.1.cell 2
      have zs3 := K23.out.here.1.1.2.1.cell 3
      simp only [List.getElem?_toArray, List.getElem?_cons_zero, List.getElem?_cons_succ] at zs0 zs1 zs2 zs3
      have yo0 := K23.out.here.1.2.1.cell 0
      have yo1 := K23.out.here.1.2.1.cell 1
      have yo2 := K23.out.here.1.2.1.cell 2
      have yo3 := K23.out.here.1.2.1.cell 3
      have yt0 := K23.out.here.2.1.cell 0
      have yt1 := K23.out.here.2.1.cell 1
      have yt2 := K23.out.here.2.1.cell 2
      have yt3 := K23.out.here.2.1.cell 3
      simp only [List.getElem?_toArray, List.getElem?_cons_zero, List.getElem?_cons_succ] at yo0 yo1 yo2 yo3 yt0 yt1 yt2 yt3
      go_wp2_with fail
      refine (same_sub _ K23.out.here.1.2.2 K23.out.here.2.2).mono ?_
      rintro e x4w ⟨rfl, hb⟩
      have K25 := Lib.hid (K23.out.move hb)
      clear hb
      go_wp2
      go_ret
      exact ⟨rfl, K25.out.here.1.1.1.1⟩
    rcases (show st = 3 ∨ st = 4 by omega) with rfl | rfl
    ·
      clear h34
      cases hkn : (L.any fun u => decide (u.1 = (⟨#[122, 101, 100]⟩ : ByteArray))) with
      | true =>
        have HKN := Lib.hid hkn
        clear hkn
        have zs0 := K23.out.here.1.1.2.1.cell 0
        have zs1 := K23.out.here.1.1.2.1.cell 1
        have zs2 := K23.out.here.1.1.2.1.cell 2
        have zs3 := K23.out.here.1.1.2.1.cell 3
        simp only [List.getElem?_toArray, List.getElem?_cons_zero, List.getElem?_cons_succ] at zs0 zs1 zs2 zs3
        go_wp2_with fail
        refine (knows_at HKN.out _ K23.out.here.1.1.1.2.1).mono ?_
        rintro e xkn ⟨rfl, hkw⟩
        subst hkw
        clear zs0 zs1 zs2 zs3
        have zo0 := K23.out.here.1.2.1.cell 0
        have zo1 := K23.out.here.1.2.1.cell 1
        have zo2 := K23.out.here.1.2.1.cell 2
        have zo3 := K23.out.here.1.2.1.cell 3
        have zt0 := K23.out.here.2.1.cell 0
        have zt1 := K23.out.here.2.1.cell 1
        have zt2 := K23.out.here.2.1.cell 2
        have zt3 := K23.out.here.2.1.cell 3
        simp only [List.getElem?_toArray, List.getElem?_cons_zero, List.getElem?_cons_succ] at zo0 zo1 zo2 zo3 zt0 zt1 zt2 zt3
        go_wp2_with fail
        refine (same_sub _ K23.out.here.1.2.2 K23.out.here.2.2).mono ?_
        rintro e x5w ⟨rfl, hb⟩
        have K26 := Lib.hid (K23.out.move hb)
        clear hb
        clear zo0 zo1 zo2 zo3 zt0 zt1 zt2 zt3
        go_wp2
        go_ret
        exact ⟨rfl, K26.out.here.1.1.1.1⟩
      | false =>
        have HKN := Lib.hid hkn
        clear hkn
        by_cases hzd : d = ⟨#[122, 101, 100]⟩
        ·
          have hlit : d.toList = [122, 101, 100] := by rw [hzd, ByteArray.toList_eq]
          clear hzd
          have zs0 := K23.out.here.1.1.2.1.cell 0
          have zs1 := K23.out.here.1.1.2.1.cell 1
          have zs2 := K23.out.here.1.1.2.1.cell 2
          have zs3 := K23.out.here.1.1.2.1.cell 3
          simp only [List.getElem?_toArray, List.getElem?_cons_zero, List.getElem?_cons_succ] at zs0 zs1 zs2 zs3
          go_wp2_with fail
          refine (knows_at HKN.out _ K23.out.here.1.1.1.2.1).mono ?_
          rintro e xkn ⟨rfl, hkw⟩
          subst hkw
          clear zs0 zs1 zs2 zs3
          have zs0 := K23.out.here.1.1.2.1.cell 0
          have zs1 := K23.out.here.1.1.2.1.cell 1
          have zs2 := K23.out.here.1.1.2.1.cell 2
          have zs3 := K23.out.here.1.1.2.1.cell 3
          simp only [List.getElem?_toArray, List.getElem?_cons_zero, List.getElem?_cons_succ] at zs0 zs1 zs2 zs3
          clear zs0 zs1 zs2 zs3
          have zo0 := K23.out.here.1.2.1.cell 0
          have zo1 := K23.out.here.1.2.1.cell 1
          have zo2 := K23.out.here.1.2.1.cell 2
          have zo3 := K23.out.here.1.2.1.cell 3
          have zt0 := K23.out.here.2.1.cell 0
          have zt1 := K23.out.here.2.1.cell 1
          have zt2 := K23.out.here.2.1.cell 2
          have zt3 := K23.out.here.2.1.cell 3
          simp only [List.getElem?_toArray, List.getElem?_cons_zero, List.getElem?_cons_succ] at zo0 zo1 zo2 zo3 zt0 zt1 zt2 zt3
          go_wp2_with fail
          refine (same_sub _ K23.out.here.1.2.2 K23.out.here.2.2).mono ?_
          rintro e x6w ⟨rfl, hb⟩
          have K27 := Lib.hid (K23.out.move hb)
          clear hb
          clear zo0 zo1 zo2 zo3 zt0 zt1 zt2 zt3
          go_wp2
          go_ret
          exact ⟨rfl, K27.out.here.1.1.1.1⟩
        obtain ⟨d1, d2, d3⟩ := lit_walk (xs := [122, 101, 100]) rfl hzd
        have zs0 := K23.out.here.1.1.2.1.cell 0
        have zs1 := K23.out.here.1.1.2.1.cell 1
        have zs2 := K23.out.here.1.1.2.1.cell 2
        have zs3 := K23.out.here.1.1.2.1.cell 3
        simp only [List.getElem?_toArray, List.getElem?_cons_zero, List.getElem?_cons_succ] at zs0 zs1 zs2 zs3
        go_wp2_with fail
        refine (knows_at HKN.out _ K23.out.here.1.1.1.2.1).mono ?_
        rintro e xkn ⟨rfl, hkw⟩
        subst hkw
        clear zs0 zs1 zs2 zs3
        obtain ⟨⟨un, up, uq⟩, hx⟩ : ∃ u, L[0]? = some u := ⟨_, List.getElem?_eq_getElem (by have h := (vU_iff.1 (hz_v HZ.out).2.1).1.1; omega)⟩
        obtain ⟨bu, ou, hAU⟩ := user_some K23.out.here.1.1.1.2.1 hx
        subst hAU
        have HXU := Lib.hid hx
        obtain ⟨q1, q2, q3⟩ := hz_v HZ.out
        obtain ⟨m1, -, m3, -, m5, -, -⟩ := user_mem q2 hx
        have h0N : 0 < NU := HNU.out.1
        have hun : un.size ≤ 30 := by omega
        have hds : d.size ≤ 30 := HDS.out
        have hfz : (fU L ⟨#[122, 101, 100]⟩).isSome = false := fU_zed HKN.out
        obtain ⟨la0, hla0⟩ : ∃ x, (⟨#[82, 67, 80, 84, 32, 84, 79, 58, 60, 122, 101, 100, 64]⟩ ++ d : ByteArray) = x := ⟨_, rfl⟩
        have hla0s : la0.size ≤ 50 := by rw [← hla0]; exact sz_app (show (⟨#[82, 67, 80, 84, 32, 84, 79, 58, 60, 122, 101, 100, 64]⟩ : ByteArray).size ≤ 20 by decide) hds (by decide)
        have hla0c : ¬ 9223372036854775807 < 13 + d.size := by have := (show 0 ≤ 0 by decide); have := hds; omega
        have hla0d : ¬ 9223372036854775807 < (⟨#[82, 67, 80, 84, 32, 84, 79, 58, 60, 122, 101, 100, 64]⟩ : ByteArray).size + d.size := hla0c
        obtain ⟨la1, hla1⟩ : ∃ x, (la0 ++ ⟨#[62]⟩ : ByteArray) = x := ⟨_, rfl⟩
        have hla1s : la1.size ≤ 80 := by rw [← hla1]; exact sz_app hla0s (show (⟨#[62]⟩ : ByteArray).size ≤ 20 by decide) (by decide)
        have hla1c : ¬ 9223372036854775807 < la0.size + 1 := by have := hla0s; have := (show 0 ≤ 0 by decide); omega
        have hla1d : ¬ 9223372036854775807 < la0.size + (⟨#[62]⟩ : ByteArray).size := hla1c
        have lae : (⟨#[82, 67, 80, 84, 32, 84, 79, 58, 60, 122, 101, 100, 64]⟩ ++ d ++ ⟨#[62]⟩ : ByteArray) = la1 := by rw [hla0, hla1]
        obtain ⟨lb0, hlb0⟩ : ∃ x, (⟨#[82, 67, 80, 84, 32, 84, 79, 58, 60]⟩ ++ un : ByteArray) = x := ⟨_, rfl⟩
        have hlb0s : lb0.size ≤ 50 := by rw [← hlb0]; exact sz_app (show (⟨#[82, 67, 80, 84, 32, 84, 79, 58, 60]⟩ : ByteArray).size ≤ 20 by decide) hun (by decide)
        have hlb0c : ¬ 9223372036854775807 < 9 + un.size := by have := (show 0 ≤ 0 by decide); have := hun; omega
        have hlb0d : ¬ 9223372036854775807 < (⟨#[82, 67, 80, 84, 32, 84, 79, 58, 60]⟩ : ByteArray).size + un.size := hlb0c
        obtain ⟨lb1, hlb1⟩ : ∃ x, (lb0 ++ ⟨#[64, 122, 101, 100, 62]⟩ : ByteArray) = x := ⟨_, rfl⟩
        have hlb1s : lb1.size ≤ 80 := by rw [← hlb1]; exact sz_app hlb0s (show (⟨#[64, 122, 101, 100, 62]⟩ : ByteArray).size ≤ 20 by decide) (by decide)
        have hlb1c : ¬ 9223372036854775807 < lb0.size + 5 := by have := hlb0s; have := (show 0 ≤ 0 by decide); omega
        have hlb1d : ¬ 9223372036854775807 < lb0.size + (⟨#[64, 122, 101, 100, 62]⟩ : ByteArray).size := hlb1c
        have lbe : (⟨#[82, 67, 80, 84, 32, 84, 79, 58, 60]⟩ ++ un ++ ⟨#[64, 122, 101, 100, 62]⟩ : ByteArray) = lb1 := by rw [hlb0, hlb1]
        obtain ⟨lc0, hlc0⟩ : ∃ x, (⟨#[82, 67, 80, 84, 32, 84, 79, 58]⟩ ++ un : ByteArray) = x := ⟨_, rfl⟩
        have hlc0s : lc0.size ≤ 50 := by rw [← hlc0]; exact sz_app (show (⟨#[82, 67, 80, 84, 32, 84, 79, 58]⟩ : ByteArray).size ≤ 20 by decide) hun (by decide)
        have hlc0c : ¬ 9223372036854775807 < 8 + un.size := by have := (show 0 ≤ 0 by decide); have := hun; omega
        have hlc0d : ¬ 9223372036854775807 < (⟨#[82, 67, 80, 84, 32, 84, 79, 58]⟩ : ByteArray).size + un.size := hlc0c
        obtain ⟨lc1, hlc1⟩ : ∃ x, (lc0 ++ ⟨#[64]⟩ : ByteArray) = x := ⟨_, rfl⟩
        have hlc1s : lc1.size ≤ 80 := by rw [← hlc1]; exact sz_app hlc0s (show (⟨#[64]⟩ : ByteArray).size ≤ 20 by decide) (by decide)
        have hlc1c : ¬ 9223372036854775807 < lc0.size + 1 := by have := hlc0s; have := (show 0 ≤ 0 by decide); omega
        have hlc1d : ¬ 9223372036854775807 < lc0.size + (⟨#[64]⟩ : ByteArray).size := hlc1c
        obtain ⟨lc2, hlc2⟩ : ∃ x, (lc1 ++ d : ByteArray) = x := ⟨_, rfl⟩
        have hlc2s : lc2.size ≤ 110 := by rw [← hlc2]; exact sz_app hlc1s hds (by decide)
        have hlc2c : ¬ 9223372036854775807 < lc1.size + d.size := by have := hlc1s; have := hds; omega
        have lce : (⟨#[82, 67, 80, 84, 32, 84, 79, 58]⟩ ++ un ++ ⟨#[64]⟩ ++ d : ByteArray) = lc2 := by rw [hlc0, hlc1, hlc2]
        have HA : Hid (LineIs ⟨3, us, T, tx⟩ L d la1 (⟨3, us, T, tx⟩, 550)) := Lib.hid (by rw [show la1 = pathT bRCPT ⟨#[122, 101, 100]⟩ d from by rw [← lae]; exact kb_inj (by rw [kb_path]; simp only [kb_cat]; simp [kb, bRCPT])]; have h := li_to (L := L) (d := d) HZ.out (by simp) (by simp) (u := ⟨#[122, 101, 100]⟩) (by decide +kernel) q3; rw [if_neg (by simp), if_neg (by rw [hfz]; simp)] at h; exact h)
        have HB : Hid (LineIs ⟨3, us, T, tx⟩ L d lb1 (⟨3, us, T, tx⟩, 550)) := Lib.hid (by rw [show lb1 = pathT bRCPT un ⟨#[122, 101, 100]⟩ from by rw [← lbe]; exact kb_inj (by rw [kb_path]; simp only [kb_cat]; simp [kb, bRCPT])]; have h := li_to (L := L) (d := d) HZ.out (by simp) (by simp) (v := ⟨#[122, 101, 100]⟩) m1 (by decide +kernel); rw [if_neg (by simp), if_neg (fun e => hzd e.1.symm)] at h; exact h)
        have HX : Hid (LineIs ⟨3, us, T, tx⟩ L d ⟨#[82, 67, 80, 84, 32, 84, 79, 58, 60, 62]⟩ (⟨3, us, T, tx⟩, 501)) := Lib.hid (li_to0 HZ.out (by simp))
        have HY : Hid (LineIs ⟨3, us, T, tx⟩ L d lc2 (⟨3, us, T, tx⟩, 501)) := Lib.hid (by rw [← lce]; exact li_tobad HZ.out (by simp) m1)
        have HLA : Hid (la1.size ≤ 2000) := Lib.hid (show _ ≤ _ by omega)
        have HLB : Hid (lb1.size ≤ 2000) := Lib.hid (show _ ≤ _ by omega)
        have HLC : Hid (lc2.size ≤ 2000) := Lib.hid (show _ ≤ _ by omega)
        clear hzd hfz m1 m3 m5 q1 q2 q3 hx lae lbe lce
        have zs0 := K23.out.here.1.1.2.1.cell 0
        have zs1 := K23.out.here.1.1.2.1.cell 1
        have zs2 := K23.out.here.1.1.2.1.cell 2
        have zs3 := K23.out.here.1.1.2.1.cell 3
        simp only [List.getElem?_toArray, List.getElem?_cons_zero, List.getElem?_cons_succ] at zs0 zs1 zs2 zs3
        go_wp2_with fail
        refine (line_at HA.out _ K23.out.here.1.1.2.2 K23.out.here.1.1.1.2.1 K23.out.here.1.1.1.2.2 HUS.out HDS.out HLA.out).mono ?_
        rintro e w28 ⟨A28, N28, c28, rfl, hs, hb⟩
        obtain ⟨D28, hD⟩ : ∃ D, w28.heap.size = D := ⟨_, rfl⟩
        obtain ⟨v28, hw28⟩ : ∃ v, w28.alloc (.cells #[.int .i64 3, .string us, .slice A28 N28 c28, .string tx] 25) = v := ⟨_, rfl⟩
        have hb2 : Below w28.heap.size w28 v28 := by rw [← hw28]; exact below_new _ _
        have K28 := Lib.hid (((K23.out.move hb).move hb2).and (SV.made (s := ⟨3, us, T, tx⟩) hs hD hw28))
        clear hb hb2 hs
        clear zs0 zs1 zs2 zs3
        have ys0 := K28.out.here.1.1.1.2.1.cell 0
        have ys1 := K28.out.here.1.1.1.2.1.cell 1
        have ys2 := K28.out.here.1.1.1.2.1.cell 2
        have ys3 := K28.out.here.1.1.1.2.1.cell 3
        simp only [List.getElem?_toArray, List.getElem?_cons_zero, List.getElem?_cons_succ] at ys0 ys1 ys2 ys3
        go_upto_region 9 with fail
        clear ys0 ys1 ys2 ys3
        go_cut [13, 14] (fun sx sy wx => ∃ (X N' c' : Nat) (A' : Option Addr), sx = .pointer (some ⟨X, 0, none⟩) ∧ sy = .int .i64 550 ∧ Hid (Below v28.heap.size v28 wx) ∧ Hid (SV wx X ⟨3, us, T, tx⟩ A' N' c'))
        case first =>
          have HBd := Lib.hid (below_drew1 v28)
          have Kd := Lib.hid (K28.out.move HBd.out)
          obtain ⟨X, hX⟩ : ∃ X, v28.heap.size = X := ⟨_, rfl⟩
          obtain ⟨wy, hwy⟩ : ∃ wy, v28.alloc (.cells #[.int .i64 0, .string ⟨#[]⟩, .slice none 0 0, .string ⟨#[]⟩] 25) = wy := ⟨_, rfl⟩
          have HBy : Hid (Below v28.heap.size v28 wy) := Lib.hid (by rw [← hwy]; exact below_new _ _)
          have Ky := Lib.hid (K28.out.move HBy.out)
          have HBe : Hid (Below v28.heap.size v28 wy.drew) := Lib.hid (HBy.out.trans ((below_drew1 wy).mono HBy.out.size))
          have Ke := Lib.hid (K28.out.move HBe.out)
          have HXy : Hid (Whole wy.drew X 25 #[.int .i64 0, .string ⟨#[]⟩, .slice none 0 0, .string ⟨#[]⟩]) := Lib.hid (by rw [← hwy, ← hX]; exact (Whole.made v28 25 #[.int .i64 0, .string ⟨#[]⟩, .slice none 0 0, .string ⟨#[]⟩]).drew)
          have HXz : Hid (v28.heap.size ≤ X) := Lib.hid (by omega)
          have zs0 := K28.out.here.1.1.1.2.1.cell 0
          have zs1 := K28.out.here.1.1.1.2.1.cell 1
          have zs2 := K28.out.here.1.1.1.2.1.cell 2
          have zs3 := K28.out.here.1.1.1.2.1.cell 3
          simp only [List.getElem?_toArray, List.getElem?_cons_zero, List.getElem?_cons_succ] at zs0 zs1 zs2 zs3
          have xe0 := user_cell0 (K28.out.here.1.1.1.1).2.1 HXU.out
          go_region_held3 (fun w' => w'.cell? ⟨D, 0, none⟩ = some (.int .i64 3) ∧ w'.cell? ⟨D, 1, none⟩ = some (.string us) ∧ w'.cell? ⟨D, 2, none⟩ = some (.slice A N cap) ∧ w'.cell? ⟨D, 3, none⟩ = some (.string tx) ∧ w'.cell? ⟨bu, ou, none⟩ = some (.string un)) (first | exact ⟨(KWwb.out.here.1.1.1.2).1.cell 0, (KWwb.out.here.1.1.1.2).1.cell 1, (KWwb.out.here.1.1.1.2).1.cell 2, (KWwb.out.here.1.1.1.2).1.cell 3, user_cell0 (KWwb.out.here.1.1.1.1).2.1 HXU.out⟩ | exact ⟨((Kp.move K28.out HBwb.out).here.1.1.1.2).1.cell 0, ((Kp.move K28.out HBwb.out).here.1.1.1.2).1.cell 1, ((Kp.move K28.out HBwb.out).here.1.1.1.2).1.cell 2, ((Kp.move K28.out HBwb.out).here.1.1.1.2).1.cell 3, user_cell0 ((Kp.move K28.out HBwb.out).here.1.1.1.1).2.1 HXU.out⟩ | exact ⟨((Kwa.out.alloc _).here.1.1.1.2).1.cell 0, ((Kwa.out.alloc _).here.1.1.1.2).1.cell 1, ((Kwa.out.alloc _).here.1.1.1.2).1.cell 2, ((Kwa.out.alloc _).here.1.1.1.2).1.cell 3, user_cell0 ((Kwa.out.alloc _).here.1.1.1.1).2.1 HXU.out⟩ | exact ⟨(Kwa.out.here.1.1.1.2).1.cell 0, (Kwa.out.here.1.1.1.2).1.cell 1, (Kwa.out.here.1.1.1.2).1.cell 2, (Kwa.out.here.1.1.1.2).1.cell 3, user_cell0 (Kwa.out.here.1.1.1.1).2.1 HXU.out⟩ | exact ⟨(Ke.out.here.1.1.1.2).1.cell 0, (Ke.out.here.1.1.1.2).1.cell 1, (Ke.out.here.1.1.1.2).1.cell 2, (Ke.out.here.1.1.1.2).1.cell 3, user_cell0 (Ke.out.here.1.1.1.1).2.1 HXU.out⟩ | exact ⟨(Ky.out.here.1.1.1.2).1.cell 0, (Ky.out.here.1.1.1.2).1.cell 1, (Ky.out.here.1.1.1.2).1.cell 2, (Ky.out.here.1.1.1.2).1.cell 3, user_cell0 (Ky.out.here.1.1.1.1).2.1 HXU.out⟩ | exact ⟨(Kd.out.here.1.1.1.2).1.cell 0, (Kd.out.here.1.1.1.2).1.cell 1, (Kd.out.here.1.1.1.2).1.cell 2, (Kd.out.here.1.1.1.2).1.cell 3, user_cell0 (Kd.out.here.1.1.1.1).2.1 HXU.out⟩ | go_keep) (first
            | (go_at_call 22; refine (line_new HB.out wy.drew (Ke.out.here.1.1.1.2).2 (Ke.out.here.1.1.1.1).2.1 (Ke.out.here.1.1.1.1).2.2 HUS.out HDS.out HLB.out).mono ?_; rintro e wb ⟨A', N', c', rfl, hs, hb⟩; have HSwb := Lib.hid hs; have HBwb : Hid (Below v28.heap.size v28 wb) := Lib.hid (HBe.out.trans (hb.mono (by first | exact HBe.out.size | exact Nat.le_refl _))); have HXwb := Lib.hid (HXy.out.below hb HXy.out.lt); have HLwb : Hid (X < wy.drew.heap.size) := Lib.hid HXy.out.lt; have hx := HXwb.out; have y0 := hx.cell 0; have y1 := hx.cell 1; have y2 := hx.cell 2; have y3 := hx.cell 3; simp only [List.getElem?_toArray, List.getElem?_cons_zero, List.getElem?_cons_succ] at y0 y1 y2 y3; have f0 := hx.free 0; have f1 := hx.free 1; have f2 := hx.free 2; have f3 := hx.free 3; have KWwb : Hid (Kp ((((wb.setCell ⟨X, 0, none⟩ (.int .i64 3)).setCell ⟨X, 1, none⟩ (.string us)).setCell ⟨X, 2, none⟩ (.slice A' N' c')).setCell ⟨X, 3, none⟩ (.string tx)) _) := Lib.hid (K28.out.move (below_set4 HBwb.out HXz.out _ _ _ _)); clear hs hb hx)
            | (go_at_call 22; refine (line_new HB.out v28.drew (Kd.out.here.1.1.1.2).2 (Kd.out.here.1.1.1.1).2.1 (Kd.out.here.1.1.1.1).2.2 HUS.out HDS.out HLB.out).mono ?_; rintro e wa ⟨A', N', c', rfl, hs, hb⟩; have HSwa := Lib.hid hs; have HBwa : Hid (Below v28.heap.size v28 wa) := Lib.hid (HBd.out.trans (hb.mono (by first | exact HBd.out.size | exact Nat.le_refl _))); have Kwa := Lib.hid (K28.out.move HBwa.out); clear hs hb))
          all_goals go_wp2_with fail
          all_goals go_meet
          all_goals first
            | exact ⟨X, N', c', A', rfl, rfl, Lib.hid (below_set4 HBwb.out HXz.out _ _ _ _), Lib.hid (SV.put (s := ⟨3, us, T, tx⟩) HSwb.out.1 HXwb.out (fun q e => by have h1 := HSwb.out.2 q e; have h2 := HLwb.out; omega))⟩
            | exact ⟨wa.heap.size, N', c', A', rfl, rfl, Lib.hid (HBwa.out.trans ((below_new _ _).mono HBwa.out.size)), Lib.hid (SV.new (s := ⟨3, us, T, tx⟩) HSwa.out.1 rfl)⟩
        case rest =>
          obtain ⟨D29, N29, c29, A29, rfl, rfl, hb, hs⟩ := hcut
          have K29 := Lib.hid ((K28.out.move hb.out).and (SV.keep hs.out))
          clear hb hs
          have zs0 := K29.out.here.1.1.1.1.2.1.cell 0
          have zs1 := K29.out.here.1.1.1.1.2.1.cell 1
          have zs2 := K29.out.here.1.1.1.1.2.1.cell 2
          have zs3 := K29.out.here.1.1.1.1.2.1.cell 3
          simp only [List.getElem?_toArray, List.getElem?_cons_zero, List.getElem?_cons_succ] at zs0 zs1 zs2 zs3
          go_wp2_with fail
          refine (line_at HX.out _ K29.out.here.1.1.1.1.2.2 K29.out.here.1.1.1.1.1.2.1 K29.out.here.1.1.1.1.1.2.2 HUS.out HDS.out (by decide)).mono ?_
          rintro e w30 ⟨A30, N30, c30, rfl, hs, hb⟩
          obtain ⟨D30, hD⟩ : ∃ D, w30.heap.size = D := ⟨_, rfl⟩
          obtain ⟨v30, hw30⟩ : ∃ v, w30.alloc (.cells #[.int .i64 3, .string us, .slice A30 N30 c30, .string tx] 25) = v := ⟨_, rfl⟩
          have hb2 : Below w30.heap.size w30 v30 := by rw [← hw30]; exact below_new _ _
          have K30 := Lib.hid (((K29.out.move hb).move hb2).and (SV.made (s := ⟨3, us, T, tx⟩) hs hD hw30))
          clear hb hb2 hs
          clear zs0 zs1 zs2 zs3
          have ys0 := K30.out.here.1.1.1.1.1.2.1.cell 0
          have ys1 := K30.out.here.1.1.1.1.1.2.1.cell 1
          have ys2 := K30.out.here.1.1.1.1.1.2.1.cell 2
          have ys3 := K30.out.here.1.1.1.1.1.2.1.cell 3
          simp only [List.getElem?_toArray, List.getElem?_cons_zero, List.getElem?_cons_succ] at ys0 ys1 ys2 ys3
          go_upto_region 11 with fail
          clear ys0 ys1 ys2 ys3
          go_cut [17, 18] (fun sx sy wx => ∃ (X N' c' : Nat) (A' : Option Addr), sx = .pointer (some ⟨X, 0, none⟩) ∧ sy = .int .i64 501 ∧ Hid (Below v30.heap.size v30 wx) ∧ Hid (SV wx X ⟨3, us, T, tx⟩ A' N' c'))
          case first =>
            have HBd := Lib.hid (below_drew1 v30)
            have Kd := Lib.hid (K30.out.move HBd.out)
            obtain ⟨X, hX⟩ : ∃ X, v30.heap.size = X := ⟨_, rfl⟩
            obtain ⟨wy, hwy⟩ : ∃ wy, v30.alloc (.cells #[.int .i64 0, .string ⟨#[]⟩, .slice none 0 0, .string ⟨#[]⟩] 25) = wy := ⟨_, rfl⟩
            have HBy : Hid (Below v30.heap.size v30 wy) := Lib.hid (by rw [← hwy]; exact below_new _ _)
            have Ky := Lib.hid (K30.out.move HBy.out)
            have HBe : Hid (Below v30.heap.size v30 wy.drew) := Lib.hid (HBy.out.trans ((below_drew1 wy).mono HBy.out.size))
            have Ke := Lib.hid (K30.out.move HBe.out)
            have HXy : Hid (Whole wy.drew X 25 #[.int .i64 0, .string ⟨#[]⟩, .slice none 0 0, .string ⟨#[]⟩]) := Lib.hid (by rw [← hwy, ← hX]; exact (Whole.made v30 25 #[.int .i64 0, .string ⟨#[]⟩, .slice none 0 0, .string ⟨#[]⟩]).drew)
            have HXz : Hid (v30.heap.size ≤ X) := Lib.hid (by omega)
            have zs0 := K30.out.here.1.1.1.1.1.2.1.cell 0
            have zs1 := K30.out.here.1.1.1.1.1.2.1.cell 1
            have zs2 := K30.out.here.1.1.1.1.1.2.1.cell 2
            have zs3 := K30.out.here.1.1.1.1.1.2.1.cell 3
            simp only [List.getElem?_toArray, List.getElem?_cons_zero, List.getElem?_cons_succ] at zs0 zs1 zs2 zs3
            have xe0 := user_cell0 (K30.out.here.1.1.1.1.1.1).2.1 HXU.out
            go_region_held3 (fun w' => w'.cell? ⟨D, 0, none⟩ = some (.int .i64 3) ∧ w'.cell? ⟨D, 1, none⟩ = some (.string us) ∧ w'.cell? ⟨D, 2, none⟩ = some (.slice A N cap) ∧ w'.cell? ⟨D, 3, none⟩ = some (.string tx) ∧ w'.cell? ⟨bu, ou, none⟩ = some (.string un)) (first | exact ⟨(KWwb.out.here.1.1.1.1.1.2).1.cell 0, (KWwb.out.here.1.1.1.1.1.2).1.cell 1, (KWwb.out.here.1.1.1.1.1.2).1.cell 2, (KWwb.out.here.1.1.1.1.1.2).1.cell 3, user_cell0 (KWwb.out.here.1.1.1.1.1.1).2.1 HXU.out⟩ | exact ⟨((Kp.move K30.out HBwb.out).here.1.1.1.1.1.2).1.cell 0, ((Kp.move K30.out HBwb.out).here.1.1.1.1.1.2).1.cell 1, ((Kp.move K30.out HBwb.out).here.1.1.1.1.1.2).1.cell 2, ((Kp.move K30.out HBwb.out).here.1.1.1.1.1.2).1.cell 3, user_cell0 ((Kp.move K30.out HBwb.out).here.1.1.1.1.1.1).2.1 HXU.out⟩ | exact ⟨((Kwa.out.alloc _).here.1.1.1.1.1.2).1.cell 0, ((Kwa.out.alloc _).here.1.1.1.1.1.2).1.cell 1, ((Kwa.out.alloc _).here.1.1.1.1.1.2).1.cell 2, ((Kwa.out.alloc _).here.1.1.1.1.1.2).1.cell 3, user_cell0 ((Kwa.out.alloc _).here.1.1.1.1.1.1).2.1 HXU.out⟩ | exact ⟨(Kwa.out.here.1.1.1.1.1.2).1.cell 0, (Kwa.out.here.1.1.1.1.1.2).1.cell 1, (Kwa.out.here.1.1.1.1.1.2).1.cell 2, (Kwa.out.here.1.1.1.1.1.2).1.cell 3, user_cell0 (Kwa.out.here.1.1.1.1.1.1).2.1 HXU.out⟩ | exact ⟨(Ke.out.here.1.1.1.1.1.2).1.cell 0, (Ke.out.here.1.1.1.1.1.2).1.cell 1, (Ke.out.here.1.1.1.1.1.2).1.cell 2, (Ke.out.here.1.1.1.1.1.2).1.cell 3, user_cell0 (Ke.out.here.1.1.1.1.1.1).2.1 HXU.out⟩ | exact ⟨(Ky.out.here.1.1.1.1.1.2).1.cell 0, (Ky.out.here.1.1.1.1.1.2).1.cell 1, (Ky.out.here.1.1.1.1.1.2).1.cell 2, (Ky.out.here.1.1.1.1.1.2).1.cell 3, user_cell0 (Ky.out.here.1.1.1.1.1.1).2.1 HXU.out⟩ | exact ⟨(Kd.out.here.1.1.1.1.1.2).1.cell 0, (Kd.out.here.1.1.1.1.1.2).1.cell 1, (Kd.out.here.1.1.1.1.1.2).1.cell 2, (Kd.out.here.1.1.1.1.1.2).1.cell 3, user_cell0 (Kd.out.here.1.1.1.1.1.1).2.1 HXU.out⟩ | go_keep) (first
              | (go_at_call 22; refine (line_new HY.out wy.drew (Ke.out.here.1.1.1.1.1.2).2 (Ke.out.here.1.1.1.1.1.1).2.1 (Ke.out.here.1.1.1.1.1.1).2.2 HUS.out HDS.out HLC.out).mono ?_; rintro e wb ⟨A', N', c', rfl, hs, hb⟩; have HSwb := Lib.hid hs; have HBwb : Hid (Below v30.heap.size v30 wb) := Lib.hid (HBe.out.trans (hb.mono (by first | exact HBe.out.size | exact Nat.le_refl _))); have HXwb := Lib.hid (HXy.out.below hb HXy.out.lt); have HLwb : Hid (X < wy.drew.heap.size) := Lib.hid HXy.out.lt; have hx := HXwb.out; have y0 := hx.cell 0; have y1 := hx.cell 1; have y2 := hx.cell 2; have y3 := hx.cell 3; simp only [List.getElem?_toArray, List.getElem?_cons_zero, List.getElem?_cons_succ] at y0 y1 y2 y3; have f0 := hx.free 0; have f1 := hx.free 1; have f2 := hx.free 2; have f3 := hx.free 3; have KWwb : Hid (Kp ((((wb.setCell ⟨X, 0, none⟩ (.int .i64 3)).setCell ⟨X, 1, none⟩ (.string us)).setCell ⟨X, 2, none⟩ (.slice A' N' c')).setCell ⟨X, 3, none⟩ (.string tx)) _) := Lib.hid (K30.out.move (below_set4 HBwb.out HXz.out _ _ _ _)); clear hs hb hx)
              | (go_at_call 22; refine (line_new HY.out v30.drew (Kd.out.here.1.1.1.1.1.2).2 (Kd.out.here.1.1.1.1.1.1).2.1 (Kd.out.here.1.1.1.1.1.1).2.2 HUS.out HDS.out HLC.out).mono ?_; rintro e wa ⟨A', N', c', rfl, hs, hb⟩; have HSwa := Lib.hid hs; have HBwa : Hid (Below v30.heap.size v30 wa) := Lib.hid (HBd.out.trans (hb.mono (by first | exact HBd.out.size | exact Nat.le_refl _))); have Kwa := Lib.hid (K30.out.move HBwa.out); clear hs hb))
            all_goals go_wp2_with fail
            all_goals go_meet
            all_goals first
              | exact ⟨X, N', c', A', rfl, rfl, Lib.hid (below_set4 HBwb.out HXz.out _ _ _ _), Lib.hid (SV.put (s := ⟨3, us, T, tx⟩) HSwb.out.1 HXwb.out (fun q e => by have h1 := HSwb.out.2 q e; have h2 := HLwb.out; omega))⟩
              | exact ⟨wa.heap.size, N', c', A', rfl, rfl, Lib.hid (HBwa.out.trans ((below_new _ _).mono HBwa.out.size)), Lib.hid (SV.new (s := ⟨3, us, T, tx⟩) HSwa.out.1 rfl)⟩
          case rest =>
            obtain ⟨D31, N31, c31, A31, rfl, rfl, hb, hs⟩ := hcut
            have K31 := Lib.hid ((K30.out.move hb.out).and (SV.keep hs.out))
            clear hb hs
            have zx0 := K31.out.here.1.1.1.2.1.cell 0
            have zx1 := K31.out.here.1.1.1.2.1.cell 1
            have zx2 := K31.out.here.1.1.1.2.1.cell 2
            have zx3 := K31.out.here.1.1.1.2.1.cell 3
            have zs0 := K31.out.here.1.1.1.1.1.1.2.1.cell 0
            have zs1 := K31.out.here.1.1.1.1.1.1.2.1.cell 1
            have zs2 := K31.out.here.1.1.1.1.1.1.2.1.cell 2
            have zs3 := K31.out.here.1.1.1.1.1.1.2.1.cell 3
            simp only [List.getElem?_toArray, List.getElem?_cons_zero, List.getElem?_cons_succ] at zx0 zx1 zx2 zx3 zs0 zs1 zs2 zs3
            go_wp2_with fail
            refine (same_sub _ K31.out.here.1.1.1.2.2 K31.out.here.1.1.1.1.1.1.2.2).mono ?_
            rintro e x11w ⟨rfl, hb⟩
            have K32 := Lib.hid (K31.out.move hb)
            clear hb
            clear zx0 zx1 zx2 zx3 zs0 zs1 zs2 zs3
            go_wp2
            go_ret
            exact ⟨rfl, K32.out.here.1.1.1.1.1.1.1.1⟩
    ·
      clear h34
      cases hkn : (L.any fun u => decide (u.1 = (⟨#[122, 101, 100]⟩ : ByteArray))) with
      | true =>
        have HKN := Lib.hid hkn
        clear hkn
        have zs0 := K23.out.here.1.1.2.1.cell 0
        have zs1 := K23.out.here.1.1.2.1.cell 1
        have zs2 := K23.out.here.1.1.2.1.cell 2
        have zs3 := K23.out.here.1.1.2.1.cell 3
        simp only [List.getElem?_toArray, List.getElem?_cons_zero, List.getElem?_cons_succ] at zs0 zs1 zs2 zs3
        go_wp2_with fail
        refine (knows_at HKN.out _ K23.out.here.1.1.1.2.1).mono ?_
        rintro e xkn ⟨rfl, hkw⟩
        subst hkw
        clear zs0 zs1 zs2 zs3
        have zo0 := K23.out.here.1.2.1.cell 0
        have zo1 := K23.out.here.1.2.1.cell 1
        have zo2 := K23.out.here.1.2.1.cell 2
        have zo3 := K23.out.here.1.2.1.cell 3
        have zt0 := K23.out.here.2.1.cell 0
        have zt1 := K23.out.here.2.1.cell 1
        have zt2 := K23.out.here.2.1.cell 2
        have zt3 := K23.out.here.2.1.cell 3
        simp only [List.getElem?_toArray, List.getElem?_cons_zero, List.getElem?_cons_succ] at zo0 zo1 zo2 zo3 zt0 zt1 zt2 zt3
        go_wp2_with fail
        refine (same_sub _ K23.out.here.1.2.2 K23.out.here.2.2).mono ?_
        rintro e x12w ⟨rfl, hb⟩
        have K33 := Lib.hid (K23.out.move hb)
        clear hb
        clear zo0 zo1 zo2 zo3 zt0 zt1 zt2 zt3
        go_wp2
        go_ret
        exact ⟨rfl, K33.out.here.1.1.1.1⟩
      | false =>
        have HKN := Lib.hid hkn
        clear hkn
        by_cases hzd : d = ⟨#[122, 101, 100]⟩
        ·
          have hlit : d.toList = [122, 101, 100] := by rw [hzd, ByteArray.toList_eq]
          clear hzd
          have zs0 := K23.out.here.1.1.2.1.cell 0
          have zs1 := K23.out.here.1.1.2.1.cell 1
          have zs2 := K23.out.here.1.1.2.1.cell 2
          have zs3 := K23.out.here.1.1.2.1.cell 3
          simp only [List.getElem?_toArray, List.getElem?_cons_zero, List.getElem?_cons_succ] at zs0 zs1 zs2 zs3
          go_wp2_with fail
          refine (knows_at HKN.out _ K23.out.here.1.1.1.2.1).mono ?_
          rintro e xkn ⟨rfl, hkw⟩
          subst hkw
          clear zs0 zs1 zs2 zs3
          have zs0 := K23.out.here.1.1.2.1.cell 0
          have zs1 := K23.out.here.1.1.2.1.cell 1
          have zs2 := K23.out.here.1.1.2.1.cell 2
          have zs3 := K23.out.here.1.1.2.1.cell 3
          simp only [List.getElem?_toArray, List.getElem?_cons_zero, List.getElem?_cons_succ] at zs0 zs1 zs2 zs3
          clear zs0 zs1 zs2 zs3
          have zo0 := K23.out.here.1.2.1.cell 0
          have zo1 := K23.out.here.1.2.1.cell 1
          have zo2 := K23.out.here.1.2.1.cell 2
          have zo3 := K23.out.here.1.2.1.cell 3
          have zt0 := K23.out.here.2.1.cell 0
          have zt1 := K23.out.here.2.1.cell 1
          have zt2 := K23.out.here.2.1.cell 2
          have zt3 := K23.out.here.2.1.cell 3
          simp only [List.getElem?_toArray, List.getElem?_cons_zero, List.getElem?_cons_succ] at zo0 zo1 zo2 zo3 zt0 zt1 zt2 zt3
          go_wp2_with fail
          refine (same_sub _ K23.out.here.1.2.2 K23.out.here.2.2).mono ?_
          rintro e x13w ⟨rfl, hb⟩
          have K34 := Lib.hid (K23.out.move hb)
          clear hb
          clear zo0 zo1 zo2 zo3 zt0 zt1 zt2 zt3
          go_wp2
          go_ret
          exact ⟨rfl, K34.out.here.1.1.1.1⟩
        obtain ⟨d1, d2, d3⟩ := lit_walk (xs := [122, 101, 100]) rfl hzd
        have zs0 := K23.out.here.1.1.2.1.cell 0
        have zs1 := K23.out.here.1.1.2.1.cell 1
        have zs2 := K23.out.here.1.1.2.1.cell 2
        have zs3 := K23.out.here.1.1.2.1.cell 3
        simp only [List.getElem?_toArray, List.getElem?_cons_zero, List.getElem?_cons_succ] at zs0 zs1 zs2 zs3
        go_wp2_with fail
        refine (knows_at HKN.out _ K23.out.here.1.1.1.2.1).mono ?_
        rintro e xkn ⟨rfl, hkw⟩
        subst hkw
        clear zs0 zs1 zs2 zs3
        obtain ⟨⟨un, up, uq⟩, hx⟩ : ∃ u, L[0]? = some u := ⟨_, List.getElem?_eq_getElem (by have h := (vU_iff.1 (hz_v HZ.out).2.1).1.1; omega)⟩
        obtain ⟨bu, ou, hAU⟩ := user_some K23.out.here.1.1.1.2.1 hx
        subst hAU
        have HXU := Lib.hid hx
        obtain ⟨q1, q2, q3⟩ := hz_v HZ.out
        obtain ⟨m1, -, m3, -, m5, -, -⟩ := user_mem q2 hx
        have h0N : 0 < NU := HNU.out.1
        have hun : un.size ≤ 30 := by omega
        have hds : d.size ≤ 30 := HDS.out
        have hfz : (fU L ⟨#[122, 101, 100]⟩).isSome = false := fU_zed HKN.out
        obtain ⟨la0, hla0⟩ : ∃ x, (⟨#[82, 67, 80, 84, 32, 84, 79, 58, 60, 122, 101, 100, 64]⟩ ++ d : ByteArray) = x := ⟨_, rfl⟩
        have hla0s : la0.size ≤ 50 := by rw [← hla0]; exact sz_app (show (⟨#[82, 67, 80, 84, 32, 84, 79, 58, 60, 122, 101, 100, 64]⟩ : ByteArray).size ≤ 20 by decide) hds (by decide)
        have hla0c : ¬ 9223372036854775807 < 13 + d.size := by have := (show 0 ≤ 0 by decide); have := hds; omega
        have hla0d : ¬ 9223372036854775807 < (⟨#[82, 67, 80, 84, 32, 84, 79, 58, 60, 122, 101, 100, 64]⟩ : ByteArray).size + d.size := hla0c
        obtain ⟨la1, hla1⟩ : ∃ x, (la0 ++ ⟨#[62]⟩ : ByteArray) = x := ⟨_, rfl⟩
        have hla1s : la1.size ≤ 80 := by rw [← hla1]; exact sz_app hla0s (show (⟨#[62]⟩ : ByteArray).size ≤ 20 by decide) (by decide)
        have hla1c : ¬ 9223372036854775807 < la0.size + 1 := by have := hla0s; have := (show 0 ≤ 0 by decide); omega
        have hla1d : ¬ 9223372036854775807 < la0.size + (⟨#[62]⟩ : ByteArray).size := hla1c
        have lae : (⟨#[82, 67, 80, 84, 32, 84, 79, 58, 60, 122, 101, 100, 64]⟩ ++ d ++ ⟨#[62]⟩ : ByteArray) = la1 := by rw [hla0, hla1]
        obtain ⟨lb0, hlb0⟩ : ∃ x, (⟨#[82, 67, 80, 84, 32, 84, 79, 58, 60]⟩ ++ un : ByteArray) = x := ⟨_, rfl⟩
        have hlb0s : lb0.size ≤ 50 := by rw [← hlb0]; exact sz_app (show (⟨#[82, 67, 80, 84, 32, 84, 79, 58, 60]⟩ : ByteArray).size ≤ 20 by decide) hun (by decide)
        have hlb0c : ¬ 9223372036854775807 < 9 + un.size := by have := (show 0 ≤ 0 by decide); have := hun; omega
        have hlb0d : ¬ 9223372036854775807 < (⟨#[82, 67, 80, 84, 32, 84, 79, 58, 60]⟩ : ByteArray).size + un.size := hlb0c
        obtain ⟨lb1, hlb1⟩ : ∃ x, (lb0 ++ ⟨#[64, 122, 101, 100, 62]⟩ : ByteArray) = x := ⟨_, rfl⟩
        have hlb1s : lb1.size ≤ 80 := by rw [← hlb1]; exact sz_app hlb0s (show (⟨#[64, 122, 101, 100, 62]⟩ : ByteArray).size ≤ 20 by decide) (by decide)
        have hlb1c : ¬ 9223372036854775807 < lb0.size + 5 := by have := hlb0s; have := (show 0 ≤ 0 by decide); omega
        have hlb1d : ¬ 9223372036854775807 < lb0.size + (⟨#[64, 122, 101, 100, 62]⟩ : ByteArray).size := hlb1c
        have lbe : (⟨#[82, 67, 80, 84, 32, 84, 79, 58, 60]⟩ ++ un ++ ⟨#[64, 122, 101, 100, 62]⟩ : ByteArray) = lb1 := by rw [hlb0, hlb1]
        obtain ⟨lc0, hlc0⟩ : ∃ x, (⟨#[82, 67, 80, 84, 32, 84, 79, 58]⟩ ++ un : ByteArray) = x := ⟨_, rfl⟩
        have hlc0s : lc0.size ≤ 50 := by rw [← hlc0]; exact sz_app (show (⟨#[82, 67, 80, 84, 32, 84, 79, 58]⟩ : ByteArray).size ≤ 20 by decide) hun (by decide)
        have hlc0c : ¬ 9223372036854775807 < 8 + un.size := by have := (show 0 ≤ 0 by decide); have := hun; omega
        have hlc0d : ¬ 9223372036854775807 < (⟨#[82, 67, 80, 84, 32, 84, 79, 58]⟩ : ByteArray).size + un.size := hlc0c
        obtain ⟨lc1, hlc1⟩ : ∃ x, (lc0 ++ ⟨#[64]⟩ : ByteArray) = x := ⟨_, rfl⟩
        have hlc1s : lc1.size ≤ 80 := by rw [← hlc1]; exact sz_app hlc0s (show (⟨#[64]⟩ : ByteArray).size ≤ 20 by decide) (by decide)
        have hlc1c : ¬ 9223372036854775807 < lc0.size + 1 := by have := hlc0s; have := (show 0 ≤ 0 by decide); omega
        have hlc1d : ¬ 9223372036854775807 < lc0.size + (⟨#[64]⟩ : ByteArray).size := hlc1c
        obtain ⟨lc2, hlc2⟩ : ∃ x, (lc1 ++ d : ByteArray) = x := ⟨_, rfl⟩
        have hlc2s : lc2.size ≤ 110 := by rw [← hlc2]; exact sz_app hlc1s hds (by decide)
        have hlc2c : ¬ 9223372036854775807 < lc1.size + d.size := by have := hlc1s; have := hds; omega
        have lce : (⟨#[82, 67, 80, 84, 32, 84, 79, 58]⟩ ++ un ++ ⟨#[64]⟩ ++ d : ByteArray) = lc2 := by rw [hlc0, hlc1, hlc2]
        have HA : Hid (LineIs ⟨4, us, T, tx⟩ L d la1 (⟨4, us, T, tx⟩, 550)) := Lib.hid (by rw [show la1 = pathT bRCPT ⟨#[122, 101, 100]⟩ d from by rw [← lae]; exact kb_inj (by rw [kb_path]; simp only [kb_cat]; simp [kb, bRCPT])]; have h := li_to (L := L) (d := d) HZ.out (by simp) (by simp) (u := ⟨#[122, 101, 100]⟩) (by decide +kernel) q3; rw [if_neg (by simp), if_neg (by rw [hfz]; simp)] at h; exact h)
        have HB : Hid (LineIs ⟨4, us, T, tx⟩ L d lb1 (⟨4, us, T, tx⟩, 550)) := Lib.hid (by rw [show lb1 = pathT bRCPT un ⟨#[122, 101, 100]⟩ from by rw [← lbe]; exact kb_inj (by rw [kb_path]; simp only [kb_cat]; simp [kb, bRCPT])]; have h := li_to (L := L) (d := d) HZ.out (by simp) (by simp) (v := ⟨#[122, 101, 100]⟩) m1 (by decide +kernel); rw [if_neg (by simp), if_neg (fun e => hzd e.1.symm)] at h; exact h)
        have HX : Hid (LineIs ⟨4, us, T, tx⟩ L d ⟨#[82, 67, 80, 84, 32, 84, 79, 58, 60, 62]⟩ (⟨4, us, T, tx⟩, 501)) := Lib.hid (li_to0 HZ.out (by simp))
        have HY : Hid (LineIs ⟨4, us, T, tx⟩ L d lc2 (⟨4, us, T, tx⟩, 501)) := Lib.hid (by rw [← lce]; exact li_tobad HZ.out (by simp) m1)
        have HLA : Hid (la1.size ≤ 2000) := Lib.hid (show _ ≤ _ by omega)
        have HLB : Hid (lb1.size ≤ 2000) := Lib.hid (show _ ≤ _ by omega)
        have HLC : Hid (lc2.size ≤ 2000) := Lib.hid (show _ ≤ _ by omega)
        clear hzd hfz m1 m3 m5 q1 q2 q3 hx lae lbe lce
        have zs0 := K23.out.here.1.1.2.1.cell 0
        have zs1 := K23.out.here.1.1.2.1.cell 1
        have zs2 := K23.out.here.1.1.2.1.cell 2
        have zs3 := K23.out.here.1.1.2.1.cell 3
        simp only [List.getElem?_toArray, List.getElem?_cons_zero, List.getElem?_cons_succ] at zs0 zs1 zs2 zs3
        go_wp2_with fail
        refine (line_at HA.out _ K23.out.here.1.1.2.2 K23.out.here.1.1.1.2.1 K23.out.here.1.1.1.2.2 HUS.out HDS.out HLA.out).mono ?_
        rintro e w35 ⟨A35, N35, c35, rfl, hs, hb⟩
        obtain ⟨D35, hD⟩ : ∃ D, w35.heap.size = D := ⟨_, rfl⟩
        obtain ⟨v35, hw35⟩ : ∃ v, w35.alloc (.cells #[.int .i64 4, .string us, .slice A35 N35 c35, .string tx] 25) = v := ⟨_, rfl⟩
        have hb2 : Below w35.heap.size w35 v35 := by rw [← hw35]; exact below_new _ _
        have K35 := Lib.hid (((K23.out.move hb).move hb2).and (SV.made (s := ⟨4, us, T, tx⟩) hs hD hw35))
        clear hb hb2 hs
        clear zs0 zs1 zs2 zs3
        have ys0 := K35.out.here.1.1.1.2.1.cell 0
        have ys1 := K35.out.here.1.1.1.2.1.cell 1
        have ys2 := K35.out.here.1.1.1.2.1.cell 2
        have ys3 := K35.out.here.1.1.1.2.1.cell 3
        simp only [List.getElem?_toArray, List.getElem?_cons_zero, List.getElem?_cons_succ] at ys0 ys1 ys2 ys3
        go_upto_region 9 with fail
        clear ys0 ys1 ys2 ys3
        go_cut [13, 14] (fun sx sy wx => ∃ (X N' c' : Nat) (A' : Option Addr), sx = .pointer (some ⟨X, 0, none⟩) ∧ sy = .int .i64 550 ∧ Hid (Below v35.heap.size v35 wx) ∧ Hid (SV wx X ⟨4, us, T, tx⟩ A' N' c'))
        case first =>
          have HBd := Lib.hid (below_drew1 v35)
          have Kd := Lib.hid (K35.out.move HBd.out)
          obtain ⟨X, hX⟩ : ∃ X, v35.heap.size = X := ⟨_, rfl⟩
          obtain ⟨wy, hwy⟩ : ∃ wy, v35.alloc (.cells #[.int .i64 0, .string ⟨#[]⟩, .slice none 0 0, .string ⟨#[]⟩] 25) = wy := ⟨_, rfl⟩
          have HBy : Hid (Below v35.heap.size v35 wy) := Lib.hid (by rw [← hwy]; exact below_new _ _)
          have Ky := Lib.hid (K35.out.move HBy.out)
          have HBe : Hid (Below v35.heap.size v35 wy.drew) := Lib.hid (HBy.out.trans ((below_drew1 wy).mono HBy.out.size))
          have Ke := Lib.hid (K35.out.move HBe.out)
          have HXy : Hid (Whole wy.drew X 25 #[.int .i64 0, .string ⟨#[]⟩, .slice none 0 0, .string ⟨#[]⟩]) := Lib.hid (by rw [← hwy, ← hX]; exact (Whole.made v35 25 #[.int .i64 0, .string ⟨#[]⟩, .slice none 0 0, .string ⟨#[]⟩]).drew)
          have HXz : Hid (v35.heap.size ≤ X) := Lib.hid (by omega)
          have zs0 := K35.out.here.1.1.1.2.1.cell 0
          have zs1 := K35.out.here.1.1.1.2.1.cell 1
          have zs2 := K35.out.here.1.1.1.2.1.cell 2
          have zs3 := K35.out.here.1.1.1.2.1.cell 3
          simp only [List.getElem?_toArray, List.getElem?_cons_zero, List.getElem?_cons_succ] at zs0 zs1 zs2 zs3
          have xe0 := user_cell0 (K35.out.here.1.1.1.1).2.1 HXU.out
          go_region_held3 (fun w' => w'.cell? ⟨D, 0, none⟩ = some (.int .i64 4) ∧ w'.cell? ⟨D, 1, none⟩ = some (.string us) ∧ w'.cell? ⟨D, 2, none⟩ = some (.slice A N cap) ∧ w'.cell? ⟨D, 3, none⟩ = some (.string tx) ∧ w'.cell? ⟨bu, ou, none⟩ = some (.string un)) (first | exact ⟨(KWwb.out.here.1.1.1.2).1.cell 0, (KWwb.out.here.1.1.1.2).1.cell 1, (KWwb.out.here.1.1.1.2).1.cell 2, (KWwb.out.here.1.1.1.2).1.cell 3, user_cell0 (KWwb.out.here.1.1.1.1).2.1 HXU.out⟩ | exact ⟨((Kp.move K35.out HBwb.out).here.1.1.1.2).1.cell 0, ((Kp.move K35.out HBwb.out).here.1.1.1.2).1.cell 1, ((Kp.move K35.out HBwb.out).here.1.1.1.2).1.cell 2, ((Kp.move K35.out HBwb.out).here.1.1.1.2).1.cell 3, user_cell0 ((Kp.move K35.out HBwb.out).here.1.1.1.1).2.1 HXU.out⟩ | exact ⟨((Kwa.out.alloc _).here.1.1.1.2).1.cell 0, ((Kwa.out.alloc _).here.1.1.1.2).1.cell 1, ((Kwa.out.alloc _).here.1.1.1.2).1.cell 2, ((Kwa.out.alloc _).here.1.1.1.2).1.cell 3, user_cell0 ((Kwa.out.alloc _).here.1.1.1.1).2.1 HXU.out⟩ | exact ⟨(Kwa.out.here.1.1.1.2).1.cell 0, (Kwa.out.here.1.1.1.2).1.cell 1, (Kwa.out.here.1.1.1.2).1.cell 2, (Kwa.out.here.1.1.1.2).1.cell 3, user_cell0 (Kwa.out.here.1.1.1.1).2.1 HXU.out⟩ | exact ⟨(Ke.out.here.1.1.1.2).1.cell 0, (Ke.out.here.1.1.1.2).1.cell 1, (Ke.out.here.1.1.1.2).1.cell 2, (Ke.out.here.1.1.1.2).1.cell 3, user_cell0 (Ke.out.here.1.1.1.1).2.1 HXU.out⟩ | exact ⟨(Ky.out.here.1.1.1.2).1.cell 0, (Ky.out.here.1.1.1.2).1.cell 1, (Ky.out.here.1.1.1.2).1.cell 2, (Ky.out.here.1.1.1.2).1.cell 3, user_cell0 (Ky.out.here.1.1.1.1).2.1 HXU.out⟩ | exact ⟨(Kd.out.here.1.1.1.2).1.cell 0, (Kd.out.here.1.1.1.2).1.cell 1, (Kd.out.here.1.1.1.2).1.cell 2, (Kd.out.here.1.1.1.2).1.cell 3, user_cell0 (Kd.out.here.1.1.1.1).2.1 HXU.out⟩ | go_keep) (first
            | (go_at_call 22; refine (line_new HB.out wy.drew (Ke.out.here.1.1.1.2).2 (Ke.out.here.1.1.1.1).2.1 (Ke.out.here.1.1.1.1).2.2 HUS.out HDS.out HLB.out).mono ?_; rintro e wb ⟨A', N', c', rfl, hs, hb⟩; have HSwb := Lib.hid hs; have HBwb : Hid (Below v35.heap.size v35 wb) := Lib.hid (HBe.out.trans (hb.mono (by first | exact HBe.out.size | exact Nat.le_refl _))); have HXwb := Lib.hid (HXy.out.below hb HXy.out.lt); have HLwb : Hid (X < wy.drew.heap.size) := Lib.hid HXy.out.lt; have hx := HXwb.out; have y0 := hx.cell 0; have y1 := hx.cell 1; have y2 := hx.cell 2; have y3 := hx.cell 3; simp only [List.getElem?_toArray, List.getElem?_cons_zero, List.getElem?_cons_succ] at y0 y1 y2 y3; have f0 := hx.free 0; have f1 := hx.free 1; have f2 := hx.free 2; have f3 := hx.free 3; have KWwb : Hid (Kp ((((wb.setCell ⟨X, 0, none⟩ (.int .i64 4)).setCell ⟨X, 1, none⟩ (.string us)).setCell ⟨X, 2, none⟩ (.slice A' N' c')).setCell ⟨X, 3, none⟩ (.string tx)) _) := Lib.hid (K35.out.move (below_set4 HBwb.out HXz.out _ _ _ _)); clear hs hb hx)
            | (go_at_call 22; refine (line_new HB.out v35.drew (Kd.out.here.1.1.1.2).2 (Kd.out.here.1.1.1.1).2.1 (Kd.out.here.1.1.1.1).2.2 HUS.out HDS.out HLB.out).mono ?_; rintro e wa ⟨A', N', c', rfl, hs, hb⟩; have HSwa := Lib.hid hs; have HBwa : Hid (Below v35.heap.size v35 wa) := Lib.hid (HBd.out.trans (hb.mono (by first | exact HBd.out.size | exact Nat.le_refl _))); have Kwa := Lib.hid (K35.out.move HBwa.out); clear hs hb))
          all_goals go_wp2_with fail
          all_goals go_meet
          all_goals first
            | exact ⟨X, N', c', A', rfl, rfl, Lib.hid (below_set4 HBwb.out HXz.out _ _ _ _), Lib.hid (SV.put (s := ⟨4, us, T, tx⟩) HSwb.out.1 HXwb.out (fun q e => by have h1 := HSwb.out.2 q e; have h2 := HLwb.out; omega))⟩
            | exact ⟨wa.heap.size, N', c', A', rfl, rfl, Lib.hid (HBwa.out.trans ((below_new _ _).mono HBwa.out.size)), Lib.hid (SV.new (s := ⟨4, us, T, tx⟩) HSwa.out.1 rfl)⟩
        case rest =>
          obtain ⟨D36, N36, c36, A36, rfl, rfl, hb, hs⟩ := hcut
          have K36 := Lib.hid ((K35.out.move hb.out).and (SV.keep hs.out))
          clear hb hs
          have zs0 := K36.out.here.1.1.1.1.2.1.cell 0
          have zs1 := K36.out.here.1.1.1.1.2.1.cell 1
          have zs2 := K36.out.here.1.1.1.1.2.1.cell 2
          have zs3 := K36.out.here.1.1.1.1.2.1.cell 3
          simp only [List.getElem?_toArray, List.getElem?_cons_zero, List.getElem?_cons_succ] at zs0 zs1 zs2 zs3
          go_wp2_with fail
          refine (line_at HX.out _ K36.out.here.1.1.1.1.2.2 K36.out.here.1.1.1.1.1.2.1 K36.out.here.1.1.1.1.1.2.2 HUS.out HDS.out (by decide)).mono ?_
          rintro e w37 ⟨A37, N37, c37, rfl, hs, hb⟩
          obtain ⟨D37, hD⟩ : ∃ D, w37.heap.size = D := ⟨_, rfl⟩
          obtain ⟨v37, hw37⟩ : ∃ v, w37.alloc (.cells #[.int .i64 4, .string us, .slice A37 N37 c37, .string tx] 25) = v := ⟨_, rfl⟩
          have hb2 : Below w37.heap.size w37 v37 := by rw [← hw37]; exact below_new _ _
          have K37 := Lib.hid (((K36.out.move hb).move hb2).and (SV.made (s := ⟨4, us, T, tx⟩) hs hD hw37))
          clear hb hb2 hs
          clear zs0 zs1 zs2 zs3
          have ys0 := K37.out.here.1.1.1.1.1.2.1.cell 0
          have ys1 := K37.out.here.1.1.1.1.1.2.1.cell 1
          have ys2 := K37.out.here.1.1.1.1.1.2.1.cell 2
          have ys3 := K37.out.here.1.1.1.1.1.2.1.cell 3
          simp only [List.getElem?_toArray, List.getElem?_cons_zero, List.getElem?_cons_succ] at ys0 ys1 ys2 ys3
          go_upto_region 11 with fail
          clear ys0 ys1 ys2 ys3
          go_cut [17, 18] (fun sx sy wx => ∃ (X N' c' : Nat) (A' : Option Addr), sx = .pointer (some ⟨X, 0, none⟩) ∧ sy = .int .i64 501 ∧ Hid (Below v37.heap.size v37 wx) ∧ Hid (SV wx X ⟨4, us, T, tx⟩ A' N' c'))
          case first =>
            have HBd := Lib.hid (below_drew1 v37)
            have Kd := Lib.hid (K37.out.move HBd.out)
            obtain ⟨X, hX⟩ : ∃ X, v37.heap.size = X := ⟨_, rfl⟩
            obtain ⟨wy, hwy⟩ : ∃ wy, v37.alloc (.cells #[.int .i64 0, .string ⟨#[]⟩, .slice none 0 0, .string ⟨#[]⟩] 25) = wy := ⟨_, rfl⟩
            have HBy : Hid (Below v37.heap.size v37 wy) := Lib.hid (by rw [← hwy]; exact below_new _ _)
            have Ky := Lib.hid (K37.out.move HBy.out)
            have HBe : Hid (Below v37.heap.size v37 wy.drew) := Lib.hid (HBy.out.trans ((below_drew1 wy).mono HBy.out.size))
            have Ke := Lib.hid (K37.out.move HBe.out)
            have HXy : Hid (Whole wy.drew X 25 #[.int .i64 0, .string ⟨#[]⟩, .slice none 0 0, .string ⟨#[]⟩]) := Lib.hid (by rw [← hwy, ← hX]; exact (Whole.made v37 25 #[.int .i64 0, .string ⟨#[]⟩, .slice none 0 0, .string ⟨#[]⟩]).drew)
            have HXz : Hid (v37.heap.size ≤ X) := Lib.hid (by omega)
            have zs0 := K37.out.here.1.1.1.1.1.2.1.cell 0
            have zs1 := K37.out.here.1.1.1.1.1.2.1.cell 1
            have zs2 := K37.out.here.1.1.1.1.1.2.1.cell 2
            have zs3 := K37.out.here.1.1.1.1.1.2.1.cell 3
            simp only [List.getElem?_toArray, List.getElem?_cons_zero, List.getElem?_cons_succ] at zs0 zs1 zs2 zs3
            have xe0 := user_cell0 (K37.out.here.1.1.1.1.1.1).2.1 HXU.out
            go_region_held3 (fun w' => w'.cell? ⟨D, 0, none⟩ = some (.int .i64 4) ∧ w'.cell? ⟨D, 1, none⟩ = some (.string us) ∧ w'.cell? ⟨D, 2, none⟩ = some (.slice A N cap) ∧ w'.cell? ⟨D, 3, none⟩ = some (.string tx) ∧ w'.cell? ⟨bu, ou, none⟩ = some (.string un)) (first | exact ⟨(KWwb.out.here.1.1.1.1.1.2).1.cell 0, (KWwb.out.here.1.1.1.1.1.2).1.cell 1, (KWwb.out.here.1.1.1.1.1.2).1.cell 2, (KWwb.out.here.1.1.1.1.1.2).1.cell 3, user_cell0 (KWwb.out.here.1.1.1.1.1.1).2.1 HXU.out⟩ | exact ⟨((Kp.move K37.out HBwb.out).here.1.1.1.1.1.2).1.cell 0, ((Kp.move K37.out HBwb.out).here.1.1.1.1.1.2).1.cell 1, ((Kp.move K37.out HBwb.out).here.1.1.1.1.1.2).1.cell 2, ((Kp.move K37.out HBwb.out).here.1.1.1.1.1.2).1.cell 3, user_cell0 ((Kp.move K37.out HBwb.out).here.1.1.1.1.1.1).2.1 HXU.out⟩ | exact ⟨((Kwa.out.alloc _).here.1.1.1.1.1.2).1.cell 0, ((Kwa.out.alloc _).here.1.1.1.1.1.2).1.cell 1, ((Kwa.out.alloc _).here.1.1.1.1.1.2).1.cell 2, ((Kwa.out.alloc _).here.1.1.1.1.1.2).1.cell 3, user_cell0 ((Kwa.out.alloc _).here.1.1.1.1.1.1).2.1 HXU.out⟩ | exact ⟨(Kwa.out.here.1.1.1.1.1.2).1.cell 0, (Kwa.out.here.1.1.1.1.1.2).1.cell 1, (Kwa.out.here.1.1.1.1.1.2).1.cell 2, (Kwa.out.here.1.1.1.1.1.2).1.cell 3, user_cell0 (Kwa.out.here.1.1.1.1.1.1).2.1 HXU.out⟩ | exact ⟨(Ke.out.here.1.1.1.1.1.2).1.cell 0, (Ke.out.here.1.1.1.1.1.2).1.cell 1, (Ke.out.here.1.1.1.1.1.2).1.cell 2, (Ke.out.here.1.1.1.1.1.2).1.cell 3, user_cell0 (Ke.out.here.1.1.1.1.1.1).2.1 HXU.out⟩ | exact ⟨(Ky.out.here.1.1.1.1.1.2).1.cell 0, (Ky.out.here.1.1.1.1.1.2).1.cell 1, (Ky.out.here.1.1.1.1.1.2).1.cell 2, (Ky.out.here.1.1.1.1.1.2).1.cell 3, user_cell0 (Ky.out.here.1.1.1.1.1.1).2.1 HXU.out⟩ | exact ⟨(Kd.out.here.1.1.1.1.1.2).1.cell 0, (Kd.out.here.1.1.1.1.1.2).1.cell 1, (Kd.out.here.1.1.1.1.1.2).1.cell 2, (Kd.out.here.1.1.1.1.1.2).1.cell 3, user_cell0 (Kd.out.here.1.1.1.1.1.1).2.1 HXU.out⟩ | go_keep) (first
              | (go_at_call 22; refine (line_new HY.out wy.drew (Ke.out.here.1.1.1.1.1.2).2 (Ke.out.here.1.1.1.1.1.1).2.1 (Ke.out.here.1.1.1.1.1.1).2.2 HUS.out HDS.out HLC.out).mono ?_; rintro e wb ⟨A', N', c', rfl, hs, hb⟩; have HSwb := Lib.hid hs; have HBwb : Hid (Below v37.heap.size v37 wb) := Lib.hid (HBe.out.trans (hb.mono (by first | exact HBe.out.size | exact Nat.le_refl _))); have HXwb := Lib.hid (HXy.out.below hb HXy.out.lt); have HLwb : Hid (X < wy.drew.heap.size) := Lib.hid HXy.out.lt; have hx := HXwb.out; have y0 := hx.cell 0; have y1 := hx.cell 1; have y2 := hx.cell 2; have y3 := hx.cell 3; simp only [List.getElem?_toArray, List.getElem?_cons_zero, List.getElem?_cons_succ] at y0 y1 y2 y3; have f0 := hx.free 0; have f1 := hx.free 1; have f2 := hx.free 2; have f3 := hx.free 3; have KWwb : Hid (Kp ((((wb.setCell ⟨X, 0, none⟩ (.int .i64 4)).setCell ⟨X, 1, none⟩ (.string us)).setCell ⟨X, 2, none⟩ (.slice A' N' c')).setCell ⟨X, 3, none⟩ (.string tx)) _) := Lib.hid (K37.out.move (below_set4 HBwb.out HXz.out _ _ _ _)); clear hs hb hx)
              | (go_at_call 22; refine (line_new HY.out v37.drew (Kd.out.here.1.1.1.1.1.2).2 (Kd.out.here.1.1.1.1.1.1).2.1 (Kd.out.here.1.1.1.1.1.1).2.2 HUS.out HDS.out HLC.out).mono ?_; rintro e wa ⟨A', N', c', rfl, hs, hb⟩; have HSwa := Lib.hid hs; have HBwa : Hid (Below v37.heap.size v37 wa) := Lib.hid (HBd.out.trans (hb.mono (by first | exact HBd.out.size | exact Nat.le_refl _))); have Kwa := Lib.hid (K37.out.move HBwa.out); clear hs hb))
            all_goals go_wp2_with fail
            all_goals go_meet
            all_goals first
              | exact ⟨X, N', c', A', rfl, rfl, Lib.hid (below_set4 HBwb.out HXz.out _ _ _ _), Lib.hid (SV.put (s := ⟨4, us, T, tx⟩) HSwb.out.1 HXwb.out (fun q e => by have h1 := HSwb.out.2 q e; have h2 := HLwb.out; omega))⟩
              | exact ⟨wa.heap.size, N', c', A', rfl, rfl, Lib.hid (HBwa.out.trans ((below_new _ _).mono HBwa.out.size)), Lib.hid (SV.new (s := ⟨4, us, T, tx⟩) HSwa.out.1 rfl)⟩
          case rest =>
            obtain ⟨D38, N38, c38, A38, rfl, rfl, hb, hs⟩ := hcut
            have K38 := Lib.hid ((K37.out.move hb.out).and (SV.keep hs.out))
            clear hb hs
            have zx0 := K38.out.here.1.1.1.2.1.cell 0
            have zx1 := K38.out.here.1.1.1.2.1.cell 1
            have zx2 := K38.out.here.1.1.1.2.1.cell 2
            have zx3 := K38.out.here.1.1.1.2.1.cell 3
            have zs0 := K38.out.here.1.1.1.1.1.1.2.1.cell 0
            have zs1 := K38.out.here.1.1.1.1.1.1.2.1.cell 1
            have zs2 := K38.out.here.1.1.1.1.1.1.2.1.cell 2
            have zs3 := K38.out.here.1.1.1.1.1.1.2.1.cell 3
            simp only [List.getElem?_toArray, List.getElem?_cons_zero, List.getElem?_cons_succ] at zx0 zx1 zx2 zx3 zs0 zs1 zs2 zs3
            go_wp2_with fail
            refine (same_sub _ K38.out.here.1.1.1.2.2 K38.out.here.1.1.1.1.1.1.2.2).mono ?_
            rintro e x18w ⟨rfl, hb⟩
            have K39 := Lib.hid (K38.out.move hb)
            clear hb
            clear zx0 zx1 zx2 zx3 zs0 zs1 zs2 zs3
            go_wp2
            go_ret
            exact ⟨rfl, K39.out.here.1.1.1.1.1.1.1.1⟩
end Go.Proofs.YtichajalinkcdaaGreatDoor
