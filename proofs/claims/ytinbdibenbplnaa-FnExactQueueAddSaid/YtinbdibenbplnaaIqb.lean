/-
  The walks of the laws FnExactQueueTake. Condition: the code can be read.
-/
import Derived.Test.YtinbdibenbplnaaQi
import Derived.Test.YtinbdibenbplnaaIqa
import Derived.BigQuiet
namespace Go.Proofs.Ytinbdibenbplnaa
open Go.RowKit
set_option linter.unusedVariables false

theorem qt_key {n : Int} {L M : List QI} (hk : M.map keyI = L.map keyI) (id : Int) (u : ByteArray) : qtN n M = qtN n L ∧ qtK n M id u = qtK n L id u ∧ qtT n M id u = qtT n L id u ∧ qtO n M id u = qtO n L id u := by
  unfold qtN qtK qtT qtO
  rw [vQ_key hk, hk]
  exact ⟨rfl, rfl, rfl, rfl⟩
theorem qt_smK {n : Int} {L : List QI} {id : Int} {u : ByteArray} {z : Int} (h : ∀ g ∈ L, SmI z g) : ∀ k ∈ qtK n L id u, SmK z k := by
  unfold qtK
  split
  · exact smK_tk (smK_to h)
  · intro k hk; cases hk
theorem qt_tot {n : Int} {L : List QI} {id : Int} {u : ByteArray} : totK (qtK n L id u) ≤ totK (L.map keyI) ∧ (qtK n L id u).length ≤ L.length := by
  unfold qtK
  split
  · exact ⟨totK_tk _ _ _, by have := tkK_len (L.map keyI) id u; rwa [List.length_map] at this⟩
  · exact ⟨Nat.zero_le _, Nat.zero_le _⟩
theorem own_nT {w : World} {B N cap : Nat} {A : Option Addr} {L : List QI} (h : OwnQ w B A N cap L) : ∀ g ∈ L, g.T.length = g.N := fun g hg => (h.2.1 g hg).len.1.symm
/-- What is known of every list with these keys. -/
def Fine (K : List QK) : Prop := (∀ k ∈ K, SmK 1048576 k) ∧ totK K ≤ 8000000 ∧ K.length ≤ 2000000
theorem Fine.qin {w : World} {B N cap : Nat} {A : Option Addr} {L : List QI} (h : Fine (L.map keyI)) (ho : OwnQ w B A N cap L) : QIn w A N cap L := ho.qin (by have := h.2.2; rw [List.length_map] at this; omega) (smK_of h.1)
theorem Fine.nN {w : World} {B N cap : Nat} {A : Option Addr} {L : List QI} (h : Fine (L.map keyI)) (ho : OwnQ w B A N cap L) : ∀ g ∈ L, g.N ≤ 4000000 := fun g hg => by
  have h1 := own_nT ho g hg
  have h2 := (smK_of h.1 g hg).2.2.1
  omega
theorem Fine.fin {w : World} {B N cap : Nat} {A : Option Addr} {L : List QI} (h : Fine (L.map keyI)) (ho : OwnQ w B A N cap L) : endQ 1 L = 1 + totK (L.map keyI) := endQ_tot 1 L (own_nT ho)
theorem qin_len {w : World} {A : Option Addr} {N cap : Nat} {L : List QI} (h : QIn w A N cap L) : N = L.length := h.1.symm
set_option maxRecDepth 20000 in
set_option maxHeartbeats 60000000 in
theorem law_FnExactQueueTake (nx : Int) (A : Option Addr) (N cap : Nat) (id : Int) (u : ByteArray) (w : World) (h : QArgs w A N cap) (hus : u.size ≤ maxLen) : Calls Try.prog 16 #[.agg #[.int .i64 nx, .slice A N cap], .int .i64 id, .string u] w (Holds1 w) := by
  obtain ⟨L, hA⟩ := h
  have HN := Lib.hid hA.1
  obtain ⟨r, hr⟩ : ∃ r, szQ L 1048576 = r := ⟨_, rfl⟩
  have HR := Lib.hid hr
  have HRN : Hid (r < 0 → r = -1) := Lib.hid (fun h => by rw [← hr] at h ⊢; exact szQ_neg h)
  have hu2 : u.size ≤ 9223372036854775807 := by unfold maxLen at hus; omega
  obtain ⟨Da, hDa⟩ : ∃ D, w.heap.size = D := ⟨_, rfl⟩
  obtain ⟨w0, hw0⟩ : ∃ z, w.alloc (.cells #[.int .i64 nx, .slice A N cap] 54) = z := ⟨_, rfl⟩
  have hb0 : Below w.heap.size w w0 := by rw [← hw0]; exact below_new _ _
  have HB := Lib.hid hb0
  have HA := Lib.hid (hA.below hb0 (Nat.le_refl _))
  have HD := Lib.hid (show Whole w0 Da 54 #[.int .i64 nx, .slice A N cap] by rw [← hw0, ← hDa]; exact Whole.made _ _ _)
  clear hA hb0
  by_cases hul : (1048576 : Int) < (u.size : Int)
  · have hug : (u.size : Int) > 1048576 := hul
    go_enter Try.func16, Try.ntmps16
    go_wp2
    go_ret
    exact ⟨rfl, HB.out⟩
  have hug : ¬ (u.size : Int) > 1048576 := hul
  by_cases hr0 : r < 0
  · clear hr
    have HRE := Lib.hid (HRN.out hr0)
    have cHD0 := HD.out.cell 0
    have cHD1 := HD.out.cell 1
    simp only [List.getElem?_toArray, List.getElem?_cons_zero, List.getElem?_cons_succ] at cHD0 cHD1
    go_enter Try.func16, Try.ntmps16
    go_wp2_with fail
    refine (sz_queue nx A N cap 1048576 r L w0 HA.out (by omega) (by omega) HR.out HRN.out).mono ?_
    rintro e w1 ⟨rfl, hb⟩
    clear cHD0 cHD1
    have HB_1 := Lib.hid (HB.out.trans (hb.mono HB.out.size))
    have HA_1 := Lib.hid (HA.out.below hb (Nat.le_refl _))
    have HD_1 := Lib.hid (HD.out.below hb HD.out.lt)
    clear HD HA HB
    clear hb
    go_wp2
    go_ret
    exact ⟨rfl, HB_1.out⟩
  · have hsm := szQ_ok (L := L) (z := 1048576) (by omega) (by rw [hr]; omega)
    have HSM := Lib.hid hsm.2
    have hN : N ≤ 1048576 := by have := hsm.1; rw [HN.out] at this; omega
    have hT : Hid (∀ g ∈ L, g.T.length ≤ 1048576) := Lib.hid (fun g hg => by have := (HSM.out g hg).2.2.1; omega)
    have HTO := Lib.hid (szQ_tot (L := L) (by rw [hr]; omega))
    have HF0 : Hid (Fine (L.map keyI)) := Lib.hid ⟨smK_to HSM.out, by have := HTO.out; omega, by rw [List.length_map, HN.out]; omega⟩
    obtain ⟨n6, hn6⟩ : ∃ x, qtN nx L = x := ⟨_, rfl⟩
    obtain ⟨K6, hk6⟩ : ∃ x, qtK nx L id u = x := ⟨_, rfl⟩
    obtain ⟨t6, ht6⟩ : ∃ x, qtT nx L id u = x := ⟨_, rfl⟩
    obtain ⟨ok6, ho6⟩ : ∃ x, qtO nx L id u = x := ⟨_, rfl⟩
    have HQT : Hid (∀ M : List QI, M.map keyI = L.map keyI → qtN nx M = n6 ∧ qtK nx M id u = K6 ∧ qtT nx M id u = t6 ∧ qtO nx M id u = ok6) := Lib.hid (fun M hk => by
      obtain ⟨h1, h2, h3, h4⟩ := qt_key (n := nx) hk id u
      exact ⟨h1.trans hn6, h2.trans hk6, h3.trans ht6, h4.trans ho6⟩)
    have HFK : Hid (Fine K6) := Lib.hid (by
      rw [← hk6]
      have h1 := qt_tot (n := nx) (L := L) (id := id) (u := u)
      exact ⟨qt_smK HSM.out, by have := HTO.out; omega, by rw [HN.out] at h1; omega⟩)
    have hoo : (ok6 != ok6) = false := by simp
    clear hr hsm hn6 hk6 ht6 ho6
    have cHD0 := HD.out.cell 0
    have cHD1 := HD.out.cell 1
    simp only [List.getElem?_toArray, List.getElem?_cons_zero, List.getElem?_cons_succ] at cHD0 cHD1
    go_enter Try.func16, Try.ntmps16
    go_wp2_with fail
    refine (sz_queue nx A N cap 1048576 r L w0 HA.out (by omega) (by omega) HR.out HRN.out).mono ?_
    rintro e w1 ⟨rfl, hb⟩
    clear cHD0 cHD1
    have HB_1 := Lib.hid (HB.out.trans (hb.mono HB.out.size))
    have HA_1 := Lib.hid (HA.out.below hb (Nat.le_refl _))
    have HD_1 := Lib.hid (HD.out.below hb HD.out.lt)
    clear HD HA HB
    clear hb
    have cHD0 := HD_1.out.cell 0
    have cHD1 := HD_1.out.cell 1
    simp only [List.getElem?_toArray, List.getElem?_cons_zero, List.getElem?_cons_succ] at cHD0 cHD1
    go_wp2_with fail
    refine (to_queueA nx A N cap L w1 HA_1.out hN hT.out).mono ?_
    rintro e w2 ⟨g1, M1, rfl, hk, ho, hb⟩
    clear cHD0 cHD1
    have HB_2 := Lib.hid (HB_1.out.trans (hb.mono HB_1.out.size))
    have HA_2 := Lib.hid (HA_1.out.below hb (Nat.le_refl _))
    have HD_2 := Lib.hid (HD_1.out.below hb HD_1.out.lt)
    clear HD_1 HA_1 HB_1
    have HK1 := Lib.hid hk
    have HM := Lib.hid ((show Fine (M1.map keyI) by rw [hk]; exact HF0.out).qin ho)
    clear hk ho hb
    have cHD0 := HD_2.out.cell 0
    have cHD1 := HD_2.out.cell 1
    simp only [List.getElem?_toArray, List.getElem?_cons_zero, List.getElem?_cons_succ] at cHD0 cHD1
    go_wp2_with fail
    have HCA := spec_queuetake (n := nx) id u w2 HM.out
    rw [(HQT.out M1 HK1.out).1, (HQT.out M1 HK1.out).2.1, (HQT.out M1 HK1.out).2.2.1, (HQT.out M1 HK1.out).2.2.2] at HCA
    refine HCA.mono ?_
    rintro e w3 ⟨A6, N6, c6, L6, rfl, ho, hk, hb⟩
    clear HCA
    clear cHD0 cHD1
    clear HM
    have HB_3 := Lib.hid (HB_2.out.trans (hb.mono HB_2.out.size))
    have HA_3 := Lib.hid (HA_2.out.below hb (Nat.le_refl _))
    have HD_3 := Lib.hid (HD_2.out.below hb HD_2.out.lt)
    clear HD_2 HA_2 HB_2
    have HK6 := Lib.hid hk
    have HI6 := Lib.hid ((show Fine (L6.map keyI) by rw [hk]; exact HFK.out).qin ho)
    clear hk ho hb
    obtain ⟨D6, hD6⟩ : ∃ D, w3.heap.size = D := ⟨_, rfl⟩
    obtain ⟨wa, hwa⟩ : ∃ z, w3.alloc (.cells #[.int .i64 n6, .slice A6 N6 c6] 31) = z := ⟨_, rfl⟩
    have hbn : Below w3.heap.size w3 wa := by rw [← hwa]; exact below_new _ _
    have HB_4 := Lib.hid (HB_3.out.trans (hbn.mono HB_3.out.size))
    have HA_4 := Lib.hid (HA_3.out.below hbn (Nat.le_refl _))
    have HD_4 := Lib.hid (HD_3.out.below hbn HD_3.out.lt)
    have HI6_4 := Lib.hid (HI6.out.below hbn (Nat.le_refl _))
    clear HI6 HD_3 HA_3 HB_3
    have H6 := Lib.hid (show Whole wa D6 31 #[.int .i64 n6, .slice A6 N6 c6] by rw [← hwa, ← hD6]; exact Whole.made _ _ _)
    have HD6 := Lib.hid hD6
    clear hbn
    have HBb := Lib.hid HB_4.out
    have HAb := Lib.hid HA_4.out
    have HDb := Lib.hid HD_4.out
    have H6b := Lib.hid H6.out
    have HI6b := Lib.hid HI6_4.out
    have HBA := Lib.hid (Below.refl wa.heap.size wa)
    have cHD0 := HD_4.out.cell 0
    have cHD1 := HD_4.out.cell 1
    simp only [List.getElem?_toArray, List.getElem?_cons_zero, List.getElem?_cons_succ] at cHD0 cHD1
    go_wp2_with fail
    refine (to_queueA nx A N cap L wa HA_4.out hN hT.out).mono ?_
    rintro e w4 ⟨gx, M2, rfl, hk, ho, hb⟩
    clear cHD0 cHD1
    have HB_5 := Lib.hid (HB_4.out.trans (hb.mono HB_4.out.size))
    have HA_5 := Lib.hid (HA_4.out.below hb (Nat.le_refl _))
    have HD_5 := Lib.hid (HD_4.out.below hb HD_4.out.lt)
    have HI6_5 := Lib.hid (HI6_4.out.below hb (Nat.le_refl _))
    have H6_5 := Lib.hid (H6.out.below hb H6.out.lt)
    have HBA_5 := Lib.hid (HBA.out.trans (hb.mono HBA.out.size))
    clear HBA H6 HI6_4 HD_4 HA_4 HB_4
    have HZ4 := Lib.hid hb.size
    have HK2 := Lib.hid hk
    have HF2 : Hid (Fine (M2.map keyI)) := Lib.hid (by rw [hk]; exact HF0.out)
    have HIX := Lib.hid ho.inB
    have X0 := Lib.hid (ho)
    clear hk ho hb
    obtain ⟨D8, hD8⟩ : ∃ D, w4.heap.size = D := ⟨_, rfl⟩
    obtain ⟨wb, hwb⟩ : ∃ z, w4.alloc (.cells #[.int .i64 nx, .slice (some ⟨gx, 0, none⟩) N N] 31) = z := ⟨_, rfl⟩
    have hbn : Below w4.heap.size w4 wb := by rw [← hwb]; exact below_new _ _
    have HB_6 := Lib.hid (HB_5.out.trans (hbn.mono HB_5.out.size))
    have HA_6 := Lib.hid (HA_5.out.below hbn (Nat.le_refl _))
    have HD_6 := Lib.hid (HD_5.out.below hbn HD_5.out.lt)
    have HI6_6 := Lib.hid (HI6_5.out.below hbn (Nat.le_refl _))
    have H6_6 := Lib.hid (H6_5.out.below hbn H6_5.out.lt)
    have HBA_6 := Lib.hid (HBA_5.out.trans (hbn.mono HBA_5.out.size))
    have X0_6 := Lib.hid (X0.out.kept hbn)
    clear X0 HBA_5 H6_5 HI6_5 HD_5 HA_5 HB_5
    have H8 := Lib.hid (show Whole wb D8 31 #[.int .i64 nx, .slice (some ⟨gx, 0, none⟩) N N] by rw [← hwb, ← hD8]; exact Whole.made _ _ _)
    have HD8 := Lib.hid hD8
    have HZ8 := Lib.hid H8.out.lt
    clear hbn
    have cH80 := H8.out.cell 0
    have cH81 := H8.out.cell 1
    simp only [List.getElem?_toArray, List.getElem?_cons_zero, List.getElem?_cons_succ] at cH80 cH81
    go_wp2_with fail
    have HCA := impl_queuetake (n := nx) id u wb (HF2.out.qin X0_6.out)
    rw [(HQT.out M2 HK2.out).1, (HQT.out M2 HK2.out).2.1, (HQT.out M2 HK2.out).2.2.1, (HQT.out M2 HK2.out).2.2.2] at HCA
    refine HCA.mono ?_
    rintro e w5 ⟨Ag, Ng, cg, Lg, rfl, ho, hk, hb⟩
    clear HCA
    have hNg : Ng = N6 := by have h1 := ho.1.len.1; have h2 := key_len (hk.trans HK6.out.symm); have h3 := qin_len HI6_6.out; omega
    subst hNg
    clear cH80 cH81
    have HB_7 := Lib.hid (HB_6.out.trans (hb.mono HB_6.out.size))
    have HA_7 := Lib.hid (HA_6.out.below hb (Nat.le_refl _))
    have HD_7 := Lib.hid (HD_6.out.below hb HD_6.out.lt)
    have HI6_7 := Lib.hid (HI6_6.out.below hb (Nat.le_refl _))
    have H6_7 := Lib.hid (H6_6.out.below hb H6_6.out.lt)
    have HBA_7 := Lib.hid (HBA_6.out.trans (hb.mono HBA_6.out.size))
    have X0_7 := Lib.hid (X0_6.out.kept hb)
    have H8_7 := Lib.hid (H8.out.below hb H8.out.lt)
    clear H8 X0_6 HBA_6 H6_6 HI6_6 HD_6 HA_6 HB_6
    have HZ5 := Lib.hid hb.size
    have HKG := Lib.hid hk
    have HFG : Hid (Fine (Lg.map keyI)) := Lib.hid (by rw [hk]; exact HFK.out)
    have HIG := Lib.hid ho.inB
    have G0 := Lib.hid (ho)
    clear hk ho hb
    obtain ⟨D10, hD10⟩ : ∃ D, w5.heap.size = D := ⟨_, rfl⟩
    obtain ⟨wc, hwc⟩ : ∃ z, w5.alloc (.cells #[.int .i64 n6, .slice Ag Ng cg] 31) = z := ⟨_, rfl⟩
    have hbn : Below w5.heap.size w5 wc := by rw [← hwc]; exact below_new _ _
    have HB_8 := Lib.hid (HB_7.out.trans (hbn.mono HB_7.out.size))
    have HA_8 := Lib.hid (HA_7.out.below hbn (Nat.le_refl _))
    have HD_8 := Lib.hid (HD_7.out.below hbn HD_7.out.lt)
    have HI6_8 := Lib.hid (HI6_7.out.below hbn (Nat.le_refl _))
    have H6_8 := Lib.hid (H6_7.out.below hbn H6_7.out.lt)
    have HBA_8 := Lib.hid (HBA_7.out.trans (hbn.mono HBA_7.out.size))
    have X0_8 := Lib.hid (X0_7.out.kept hbn)
    have H8_8 := Lib.hid (H8_7.out.below hbn H8_7.out.lt)
    have G0_8 := Lib.hid (G0.out.kept hbn)
    clear G0 H8_7 X0_7 HBA_7 H6_7 HI6_7 HD_7 HA_7 HB_7
    have H10 := Lib.hid (show Whole wc D10 31 #[.int .i64 n6, .slice Ag Ng cg] by rw [← hwc, ← hD10]; exact Whole.made _ _ _)
    have HD10 := Lib.hid hD10
    clear hbn
    have cH100 := H10.out.cell 0
    have cH101 := H10.out.cell 1
    have cH60 := H6_8.out.cell 0
    have cH61 := H6_8.out.cell 1
    simp only [List.getElem?_toArray, List.getElem?_cons_zero, List.getElem?_cons_succ] at cH100 cH101 cH60 cH61
    go_wp2_with fail
    refine (eq_queue n6 Lg L6 Ag A6 Ng cg c6 wc (HFG.out.qin G0_8.out) HI6_8.out (HKG.out.trans HK6.out.symm)).mono ?_
    rintro e w6 ⟨rfl, hb⟩
    clear cH100 cH101 cH60 cH61
    have HB_9 := Lib.hid (HB_8.out.trans (hb.mono HB_8.out.size))
    have HA_9 := Lib.hid (HA_8.out.below hb (Nat.le_refl _))
    have HD_9 := Lib.hid (HD_8.out.below hb HD_8.out.lt)
    have HI6_9 := Lib.hid (HI6_8.out.below hb (Nat.le_refl _))
    have H6_9 := Lib.hid (H6_8.out.below hb H6_8.out.lt)
    have HBA_9 := Lib.hid (HBA_8.out.trans (hb.mono HBA_8.out.size))
    have X0_9 := Lib.hid (X0_8.out.kept hb)
    have H8_9 := Lib.hid (H8_8.out.below hb H8_8.out.lt)
    have G0_9 := Lib.hid (G0_8.out.kept hb)
    have H10_9 := Lib.hid (H10.out.below hb H10.out.lt)
    clear H10 G0_8 H8_8 X0_8 HBA_8 H6_8 HI6_8 HD_8 HA_8 HB_8
    clear hb
    obtain ⟨wz12, hwz⟩ : ∃ z, w6.drew = z := ⟨_, rfl⟩
    have hbd : Below w6.heap.size w6 wz12 := by rw [← hwz]; exact below_drew1 _
    have HWZ12 := Lib.hid hwz
    clear hwz
    have HB_10 := Lib.hid (HB_9.out.trans (hbd.mono HB_9.out.size))
    have HA_10 := Lib.hid (HA_9.out.below hbd (Nat.le_refl _))
    have HD_10 := Lib.hid (HD_9.out.below hbd HD_9.out.lt)
    have HI6_10 := Lib.hid (HI6_9.out.below hbd (Nat.le_refl _))
    have H6_10 := Lib.hid (H6_9.out.below hbd H6_9.out.lt)
    have HBA_10 := Lib.hid (HBA_9.out.trans (hbd.mono HBA_9.out.size))
    have X0_10 := Lib.hid (X0_9.out.kept hbd)
    have H8_10 := Lib.hid (H8_9.out.below hbd H8_9.out.lt)
    have G0_10 := Lib.hid (G0_9.out.kept hbd)
    have H10_10 := Lib.hid (H10_9.out.below hbd H10_9.out.lt)
    clear H10_9 G0_9 H8_9 X0_9 HBA_9 H6_9 HI6_9 HD_9 HA_9 HB_9
    clear hbd
    have cHD0 := HD_10.out.cell 0
    have cHD1 := HD_10.out.cell 1
    have cH80 := H8_10.out.cell 0
    have cH81 := H8_10.out.cell 1
    simp only [List.getElem?_toArray, List.getElem?_cons_zero, List.getElem?_cons_succ] at cHD0 cHD1 cH80 cH81
    go_upto_region 12 with fail
    refine wp_region_late (fun w' => w'.cell? ⟨Da, 0, none⟩ = some (.int .i64 nx) ∧ w'.cell? ⟨Da, 1, none⟩ = some (.slice A N cap) ∧ w'.cell? ⟨D8, 0, none⟩ = some (.int .i64 nx) ∧ w'.cell? ⟨D8, 1, none⟩ = some (.slice (some ⟨gx, 0, none⟩) N N)) 4 (by kernel_rfl) ?_
    rw [HWZ12.out]
    refine wpLate_take (i := 0) (v := ?v0r12) rfl (by kernel_rfl) (by kernel_rfl) (by kernel_rfl) (by kernel_rfl) (by kernel_rfl) (fun _ _ _ h => h) ⟨cHD0, cHD1, cH80, cH81⟩ (by rfl) ?hy0r12 ?r0r12
    case hy0r12 =>
      rintro wz ⟨z0, z1, z2, z3⟩
      go_simp
      try with_reducible rfl
    try simp only [Act.put]
    refine wpLate_take (i := 1) (v := ?v1r12) rfl (by kernel_rfl) (by kernel_rfl) (by kernel_rfl) (by kernel_rfl) (by kernel_rfl) (fun _ _ _ h => h) ⟨cHD0, cHD1, cH80, cH81⟩ (by rfl) ?hy1r12 ?r1r12
    case hy1r12 =>
      rintro wz ⟨z0, z1, z2, z3⟩
      go_simp
      try with_reducible rfl
    try simp only [Act.put]
    refine wpLate_one (i := 2) (by kernel_rfl) rfl (fun K hK => ?_)
    go_simp
    refine (to_queueA nx A N cap L wz12 HA_10.out hN hT.out).mono ?_
    rintro e w7 ⟨gy, M3, rfl, hk, ho, hb⟩
    clear cHD0 cHD1 cH80 cH81
    have HB_11 := Lib.hid (HB_10.out.trans (hb.mono HB_10.out.size))
    have HA_11 := Lib.hid (HA_10.out.below hb (Nat.le_refl _))
    have HD_11 := Lib.hid (HD_10.out.below hb HD_10.out.lt)
    have HI6_11 := Lib.hid (HI6_10.out.below hb (Nat.le_refl _))
    have H6_11 := Lib.hid (H6_10.out.below hb H6_10.out.lt)
    have HBA_11 := Lib.hid (HBA_10.out.trans (hb.mono HBA_10.out.size))
    have X0_11 := Lib.hid (X0_10.out.kept hb)
    have H8_11 := Lib.hid (H8_10.out.below hb H8_10.out.lt)
    have G0_11 := Lib.hid (G0_10.out.kept hb)
    have H10_11 := Lib.hid (H10_10.out.below hb H10_10.out.lt)
    clear H10_10 G0_10 H8_10 X0_10 HBA_10 H6_10 HI6_10 HD_10 HA_10 HB_10
    have HK3 := Lib.hid hk
    have HM3 := Lib.hid ((show Fine (M3.map keyI) by rw [hk]; exact HF0.out).qin ho)
    clear hk ho hb
    have cHD0 := HD_11.out.cell 0
    have cHD1 := HD_11.out.cell 1
    have cH80 := H8_11.out.cell 0
    have cH81 := H8_11.out.cell 1
    simp only [List.getElem?_toArray, List.getElem?_cons_zero, List.getElem?_cons_succ] at cHD0 cHD1 cH80 cH81
    refine hK.out _ _ (fun _ => ⟨cHD0, cHD1, cH80, cH81⟩) ?_
    clear hK K
    try simp only [Act.put]
    refine wpLate_one (i := 3) (by kernel_rfl) rfl (fun K hK => ?_)
    go_simp
    refine (eq_queue nx M2 M3 (some ⟨gx, 0, none⟩) (some ⟨gy, 0, none⟩) N N N w7 (HF2.out.qin X0_11.out) HM3.out (HK2.out.trans HK3.out.symm)).mono ?_
    rintro e w8 ⟨rfl, hb⟩
    clear cHD0 cHD1 cH80 cH81
    clear HM3
    have HB_12 := Lib.hid (HB_11.out.trans (hb.mono HB_11.out.size))
    have HA_12 := Lib.hid (HA_11.out.below hb (Nat.le_refl _))
    have HD_12 := Lib.hid (HD_11.out.below hb HD_11.out.lt)
    have HI6_12 := Lib.hid (HI6_11.out.below hb (Nat.le_refl _))
    have H6_12 := Lib.hid (H6_11.out.below hb H6_11.out.lt)
    have HBA_12 := Lib.hid (HBA_11.out.trans (hb.mono HBA_11.out.size))
    have X0_12 := Lib.hid (X0_11.out.kept hb)
    have H8_12 := Lib.hid (H8_11.out.below hb H8_11.out.lt)
    have G0_12 := Lib.hid (G0_11.out.kept hb)
    have H10_12 := Lib.hid (H10_11.out.below hb H10_11.out.lt)
    clear H10_11 G0_11 H8_11 X0_11 HBA_11 H6_11 HI6_11 HD_11 HA_11 HB_11
    clear hb
    have cHD0 := HD_12.out.cell 0
    have cHD1 := HD_12.out.cell 1
    have cH80 := H8_12.out.cell 0
    have cH81 := H8_12.out.cell 1
    simp only [List.getElem?_toArray, List.getElem?_cons_zero, List.getElem?_cons_succ] at cHD0 cHD1 cH80 cH81
    refine hK.out _ _ (fun _ => ⟨cHD0, cHD1, cH80, cH81⟩) ?_
    clear hK K
    try simp only [Act.put]
    refine wpLate_one (i := 4) (by kernel_rfl) rfl (fun K hK => ?_)
    go_simp
    refine hK.out _ _ (fun h => absurd rfl h) ?_
    clear hK K
    try simp only [Act.put]
    refine wpLate_done (by kernel_rfl) ?_ _
    clear cHD0 cHD1 cH80 cH81
    have cH80 := H8_12.out.cell 0
    have cH81 := H8_12.out.cell 1
    simp only [List.getElem?_toArray, List.getElem?_cons_zero, List.getElem?_cons_succ] at cH80 cH81
    obtain ⟨q1, hq1⟩ : ∃ q, endQ 1 M2 = q := ⟨_, rfl⟩
    obtain ⟨q2, hq2⟩ : ∃ q, endQ 1 Lg = q := ⟨_, rfl⟩
    have HQ1 := Lib.hid hq1
    have HQ2 := Lib.hid hq2
    have hq1b : q1 ≤ 8000001 := by rw [← hq1, HF2.out.fin X0_12.out]; have := HF2.out.2.1; omega
    have hq2b : q2 ≤ 8000001 := by rw [← hq2, HFG.out.fin G0_12.out]; have := HFG.out.2.1; omega
    have p1 : ¬ (q1 : Int) < 0 := by omega
    have p1d : decide ((q1 : Int) < 0) = false := decide_eq_false p1
    have p2 : ¬ (q2 : Int) < 0 := by omega
    have p2d : decide ((q2 : Int) < 0) = false := decide_eq_false p2
    have p3 : ((q2 : Int) != (q2 : Int)) = false := by simp
    have hNgb : Ng ≤ 90000000 := by have h1 := HFG.out.2.2; have h2 := (G0_12.out).1.len.1; rw [List.length_map] at h1; omega
    have HX8 : Hid (InB (fun g => wa.heap.size ≤ g ∧ g < D8) (some ⟨gx, 0, none⟩) N N M2) := Lib.hid (by rw [← HD8.out]; exact HIX.out)
    have HWB : Hid (wa.heap.size ≤ D8 ∧ D8 < wb.heap.size ∧ wb.heap.size ≤ D10 ∧ D8 < D10) := Lib.hid ⟨by rw [← HD8.out]; exact HZ4.out, HZ8.out, by rw [← HD10.out]; exact HZ5.out, Nat.lt_of_lt_of_le HZ8.out (by rw [← HD10.out]; exact HZ5.out)⟩
    have HX10 : Hid (InB (fun g => wa.heap.size ≤ g ∧ g < D10) Ag Ng cg Lg) := Lib.hid (HIG.out.mono (fun g h => ⟨by have := HWB.out; omega, by rw [← HD10.out]; exact h.2⟩))
    have HY10 : Hid (InB (fun g => ¬ (wa.heap.size ≤ g ∧ g < D8)) Ag Ng cg Lg) := Lib.hid (HIG.out.mono (fun g h => by have := HWB.out; omega))
    clear hq1 hq2
    go_wp2_with fail
    refine (mark_queue (fun g => wa.heap.size ≤ g ∧ g < D8) 1 q1 nx (some ⟨gx, 0, none⟩) N N wa.heap.size M2 w8 X0_12.out HX8.out (by omega) HQ1.out (by omega) (HF2.out.nN X0_12.out)).mono ?_
    rintro e w9 ⟨rfl, hom, hwr⟩
    clear cH80 cH81
    have HBA_13 := Lib.hid (hwr.under HBA_12.out HBA_12.out.size (fun g e => e.1))
    have HB_13 := Lib.hid (HBb.out.trans (HBA_13.out.mono HBb.out.size))
    have HA_13 := Lib.hid (HAb.out.below HBA_13.out (Nat.le_refl _))
    have HD_13 := Lib.hid (HDb.out.below HBA_13.out HDb.out.lt)
    have HI6_13 := Lib.hid (HI6b.out.below HBA_13.out (Nat.le_refl _))
    have H6_13 := Lib.hid (H6b.out.below HBA_13.out H6b.out.lt)
    have G0_13 := Lib.hid (G0_12.out.writ hwr HY10.out)
    have H10_13 := Lib.hid (H10_12.out.writ hwr (by have := HWB.out; omega))
    clear H10_12 G0_12 H8_12 X0_12 HBA_12 H6_12 HI6_12 HD_12 HA_12 HB_12
    clear hom hwr
    have cH100 := H10_13.out.cell 0
    have cH101 := H10_13.out.cell 1
    have cH60 := H6_13.out.cell 0
    have cH61 := H6_13.out.cell 1
    simp only [List.getElem?_toArray, List.getElem?_cons_zero, List.getElem?_cons_succ] at cH100 cH101 cH60 cH61
    go_wp2_with fail
    refine (eq_queue n6 Lg L6 Ag A6 Ng cg c6 w9 (HFG.out.qin G0_13.out) HI6_13.out (HKG.out.trans HK6.out.symm)).mono ?_
    rintro e w10 ⟨rfl, hb⟩
    clear cH100 cH101 cH60 cH61
    have HBA_14 := Lib.hid (HBA_13.out.trans (hb.mono HBA_13.out.size))
    have HB_14 := Lib.hid (HB_13.out.trans (hb.mono HB_13.out.size))
    have HA_14 := Lib.hid (HA_13.out.below hb (Nat.le_refl _))
    have HD_14 := Lib.hid (HD_13.out.below hb HD_13.out.lt)
    have HI6_14 := Lib.hid (HI6_13.out.below hb (Nat.le_refl _))
    have H6_14 := Lib.hid (H6_13.out.below hb H6_13.out.lt)
    have G0_14 := Lib.hid (G0_13.out.kept hb)
    have H10_14 := Lib.hid (H10_13.out.below hb H10_13.out.lt)
    clear H10_13 G0_13 H6_13 HI6_13 HD_13 HA_13 HB_13 HBA_13
    clear hb
    have cH100 := H10_14.out.cell 0
    have cH101 := H10_14.out.cell 1
    simp only [List.getElem?_toArray, List.getElem?_cons_zero, List.getElem?_cons_succ] at cH100 cH101
    go_wp2_with fail
    refine (mark_queue (fun g => wa.heap.size ≤ g ∧ g < D10) 1 q2 n6 Ag cg Ng wb.heap.size Lg w10 G0_14.out HX10.out (by omega) HQ2.out (by omega) (HFG.out.nN G0_14.out)).mono ?_
    rintro e w11 ⟨rfl, hom, hwr⟩
    have HNN := Lib.hid (HFG.out.nN G0_14.out)
    clear cH100 cH101
    have HBA_15 := Lib.hid (hwr.under HBA_14.out HBA_14.out.size (fun g e => e.1))
    have HB_15 := Lib.hid (HBb.out.trans (HBA_15.out.mono HBb.out.size))
    have HA_15 := Lib.hid (HAb.out.below HBA_15.out (Nat.le_refl _))
    have HD_15 := Lib.hid (HDb.out.below HBA_15.out HDb.out.lt)
    have HI6_15 := Lib.hid (HI6b.out.below HBA_15.out (Nat.le_refl _))
    have H6_15 := Lib.hid (H6b.out.below HBA_15.out H6b.out.lt)
    have H10_15 := Lib.hid (H10_14.out.writ hwr (by omega))
    have G0_15 := Lib.hid (hom)
    clear H10_14 G0_14 H6_14 HI6_14 HD_14 HA_14 HB_14 HBA_14
    clear hom hwr
    have cH100 := H10_15.out.cell 0
    have cH101 := H10_15.out.cell 1
    simp only [List.getElem?_toArray, List.getElem?_cons_zero, List.getElem?_cons_succ] at cH100 cH101
    go_wp2_with fail
    refine (held_queue 1 q2 n6 Ag cg Ng wb.heap.size Lg w11 G0_15.out (by omega) HQ2.out (by omega) hNgb HNN.out).mono ?_
    rintro e w12 ⟨rfl, hb⟩
    clear cH100 cH101
    have HBA_16 := Lib.hid (HBA_15.out.trans (hb.mono HBA_15.out.size))
    have HB_16 := Lib.hid (HB_15.out.trans (hb.mono HB_15.out.size))
    have HA_16 := Lib.hid (HA_15.out.below hb (Nat.le_refl _))
    have HD_16 := Lib.hid (HD_15.out.below hb HD_15.out.lt)
    have HI6_16 := Lib.hid (HI6_15.out.below hb (Nat.le_refl _))
    have H6_16 := Lib.hid (H6_15.out.below hb H6_15.out.lt)
    have H10_16 := Lib.hid (H10_15.out.below hb H10_15.out.lt)
    have G0_16 := Lib.hid (G0_15.out.kept hb)
    clear G0_15 H10_15 H6_15 HI6_15 HD_15 HA_15 HB_15 HBA_15
    clear hb
    have cHD0 := HD_16.out.cell 0
    have cHD1 := HD_16.out.cell 1
    simp only [List.getElem?_toArray, List.getElem?_cons_zero, List.getElem?_cons_succ] at cHD0 cHD1
    go_wp2_with fail
    refine (to_queueA nx A N cap L w12 HA_16.out hN hT.out).mono ?_
    rintro e w13 ⟨gz, M4, rfl, hk, ho, hb⟩
    clear cHD0 cHD1
    have HBA_17 := Lib.hid (HBA_16.out.trans (hb.mono HBA_16.out.size))
    have HB_17 := Lib.hid (HB_16.out.trans (hb.mono HB_16.out.size))
    have HA_17 := Lib.hid (HA_16.out.below hb (Nat.le_refl _))
    have HD_17 := Lib.hid (HD_16.out.below hb HD_16.out.lt)
    have HI6_17 := Lib.hid (HI6_16.out.below hb (Nat.le_refl _))
    have H6_17 := Lib.hid (H6_16.out.below hb H6_16.out.lt)
    have H10_17 := Lib.hid (H10_16.out.below hb H10_16.out.lt)
    have G0_17 := Lib.hid (G0_16.out.kept hb)
    clear G0_16 H10_16 H6_16 HI6_16 HD_16 HA_16 HB_16 HBA_16
    have HK4 := Lib.hid hk
    have HM4 := Lib.hid ((show Fine (M4.map keyI) by rw [hk]; exact HF0.out).qin ho)
    clear hk ho hb
    go_wp2_with fail
    have HCA := impl_queuetake (n := nx) id u w13 HM4.out
    rw [(HQT.out M4 HK4.out).1, (HQT.out M4 HK4.out).2.1, (HQT.out M4 HK4.out).2.2.1, (HQT.out M4 HK4.out).2.2.2] at HCA
    refine HCA.mono ?_
    rintro e w14 ⟨Ah, Nh, ch, Lh, rfl, ho, hk, hb⟩
    clear HCA
    have hNh : Nh = Ng := by have h1 := ho.1.len.1; have h2 := key_len (hk.trans HK6.out.symm); have h3 := qin_len HI6_17.out; omega
    subst hNh
    clear HM4
    have HBA_18 := Lib.hid (HBA_17.out.trans (hb.mono HBA_17.out.size))
    have HB_18 := Lib.hid (HB_17.out.trans (hb.mono HB_17.out.size))
    have HA_18 := Lib.hid (HA_17.out.below hb (Nat.le_refl _))
    have HD_18 := Lib.hid (HD_17.out.below hb HD_17.out.lt)
    have HI6_18 := Lib.hid (HI6_17.out.below hb (Nat.le_refl _))
    have H6_18 := Lib.hid (H6_17.out.below hb H6_17.out.lt)
    have H10_18 := Lib.hid (H10_17.out.below hb H10_17.out.lt)
    have G0_18 := Lib.hid (G0_17.out.kept hb)
    clear G0_17 H10_17 H6_17 HI6_17 HD_17 HA_17 HB_17 HBA_17
    have HKH := Lib.hid hk
    have HIH := Lib.hid ((show Fine (Lh.map keyI) by rw [hk]; exact HFK.out).qin ho)
    clear hk ho hb
    obtain ⟨D15, hD15⟩ : ∃ D, w14.heap.size = D := ⟨_, rfl⟩
    obtain ⟨wd, hwd⟩ : ∃ z, w14.alloc (.cells #[.int .i64 n6, .slice Ah Nh ch] 31) = z := ⟨_, rfl⟩
    have hbn : Below w14.heap.size w14 wd := by rw [← hwd]; exact below_new _ _
    have HBA_19 := Lib.hid (HBA_18.out.trans (hbn.mono HBA_18.out.size))
    have HB_19 := Lib.hid (HB_18.out.trans (hbn.mono HB_18.out.size))
    have HA_19 := Lib.hid (HA_18.out.below hbn (Nat.le_refl _))
    have HD_19 := Lib.hid (HD_18.out.below hbn HD_18.out.lt)
    have HI6_19 := Lib.hid (HI6_18.out.below hbn (Nat.le_refl _))
    have H6_19 := Lib.hid (H6_18.out.below hbn H6_18.out.lt)
    have H10_19 := Lib.hid (H10_18.out.below hbn H10_18.out.lt)
    have G0_19 := Lib.hid (G0_18.out.kept hbn)
    have HIH_19 := Lib.hid (HIH.out.below hbn (Nat.le_refl _))
    clear HIH G0_18 H10_18 H6_18 HI6_18 HD_18 HA_18 HB_18 HBA_18
    have H15 := Lib.hid (show Whole wd D15 31 #[.int .i64 n6, .slice Ah Nh ch] by rw [← hwd, ← hD15]; exact Whole.made _ _ _)
    have HD15 := Lib.hid hD15
    clear hbn
    have cH150 := H15.out.cell 0
    have cH151 := H15.out.cell 1
    have cH60 := H6_19.out.cell 0
    have cH61 := H6_19.out.cell 1
    simp only [List.getElem?_toArray, List.getElem?_cons_zero, List.getElem?_cons_succ] at cH150 cH151 cH60 cH61
    go_wp2_with fail
    refine (eq_queue n6 Lh L6 Ah A6 Nh ch c6 wd HIH_19.out HI6_19.out (HKH.out.trans HK6.out.symm)).mono ?_
    rintro e w15 ⟨rfl, hb⟩
    clear cH150 cH151 cH60 cH61
    have HBA_20 := Lib.hid (HBA_19.out.trans (hb.mono HBA_19.out.size))
    have HB_20 := Lib.hid (HB_19.out.trans (hb.mono HB_19.out.size))
    have HA_20 := Lib.hid (HA_19.out.below hb (Nat.le_refl _))
    have HD_20 := Lib.hid (HD_19.out.below hb HD_19.out.lt)
    have HI6_20 := Lib.hid (HI6_19.out.below hb (Nat.le_refl _))
    have H6_20 := Lib.hid (H6_19.out.below hb H6_19.out.lt)
    have H10_20 := Lib.hid (H10_19.out.below hb H10_19.out.lt)
    have G0_20 := Lib.hid (G0_19.out.kept hb)
    have HIH_20 := Lib.hid (HIH_19.out.below hb (Nat.le_refl _))
    have H15_20 := Lib.hid (H15.out.below hb H15.out.lt)
    clear H15 HIH_19 G0_19 H10_19 H6_19 HI6_19 HD_19 HA_19 HB_19 HBA_19
    clear hb
    have cH100 := H10_20.out.cell 0
    have cH101 := H10_20.out.cell 1
    simp only [List.getElem?_toArray, List.getElem?_cons_zero, List.getElem?_cons_succ] at cH100 cH101
    go_wp2_with fail
    refine (held_queue 1 q2 n6 Ag cg Nh wb.heap.size Lg w15 G0_20.out (by omega) HQ2.out (by omega) hNgb HNN.out).mono ?_
    rintro e w16 ⟨rfl, hb⟩
    clear cH100 cH101
    have HBA_21 := Lib.hid (HBA_20.out.trans (hb.mono HBA_20.out.size))
    have HB_21 := Lib.hid (HB_20.out.trans (hb.mono HB_20.out.size))
    have HA_21 := Lib.hid (HA_20.out.below hb (Nat.le_refl _))
    have HD_21 := Lib.hid (HD_20.out.below hb HD_20.out.lt)
    have HI6_21 := Lib.hid (HI6_20.out.below hb (Nat.le_refl _))
    have H6_21 := Lib.hid (H6_20.out.below hb H6_20.out.lt)
    have H10_21 := Lib.hid (H10_20.out.below hb H10_20.out.lt)
    have G0_21 := Lib.hid (G0_20.out.kept hb)
    have HIH_21 := Lib.hid (HIH_20.out.below hb (Nat.le_refl _))
    have H15_21 := Lib.hid (H15_20.out.below hb H15_20.out.lt)
    clear H15_20 HIH_20 G0_20 H10_20 H6_20 HI6_20 HD_20 HA_20 HB_20 HBA_20
    clear hb
    go_wp2
    go_ret
    exact ⟨rfl, HB_21.out⟩
end Go.Proofs.Ytinbdibenbplnaa
