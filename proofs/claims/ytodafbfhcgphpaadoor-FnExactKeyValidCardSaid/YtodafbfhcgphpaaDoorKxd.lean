/-
  The walk of the law FnExactKeyValid. Conditions: the argument can be read; the tables hold what the program lays there.
-/
import Derived.Test.YtodafbfhcgphpaaDoorKxc
import Derived.Test.YtodafbfhcgphpaaDoorKz
import Derived.Test.YtodafbfhcgphpaaDoorLawa
import Derived.Test.YtodafbfhcgphpaaDoorKeep
import Derived.BigQuiet
namespace Go.Proofs.YtodafbfhcgphpaaDoor
open Go.RowKit
set_option linter.unusedVariables false

set_option maxRecDepth 20000 in
set_option maxHeartbeats 8000000 in
theorem law_FnExactKeyValid (v : Value) (w : World) (h : ∃ k, KZ w k v) (hSh : Shp w) (hLs : Lst w) : Calls Tryd.prog 4 #[v] w (Holds1 w) := by
  obtain ⟨k, hk⟩ := h
  have hk0 := hk
  obtain ⟨kd, f, t, S, ks⟩ := k
  rw [KZ] at hk0
  obtain ⟨AS, nS, cS, AK, nK, cK, rfl, -⟩ := hk0
  have HSH := Lib.hid hSh
  have HLS := Lib.hid hLs
  obtain ⟨q, hq⟩ : ∃ q : KT, .mk kd f t S ks = q := ⟨_, rfl⟩
  rw [hq] at hk
  obtain ⟨m, hm⟩ : ∃ m, nodesT q = m := ⟨_, rfl⟩
  obtain ⟨r, hr⟩ : ∃ r : Int, lft (1048576 - (szT q : Int)) = r := ⟨_, rfl⟩
  have HM := Lib.hid (Nat.le_of_eq hm)
  have HR := Lib.hid hr
  obtain ⟨Da, hDa⟩ : ∃ D, w.heap.size = D := ⟨_, rfl⟩
  obtain ⟨w0, hw0⟩ : ∃ z, w.alloc (.cells #[.int .i64 kd, .int .i64 f, .string t, .slice AS nS cS, .slice AK nK cK] 36) = z := ⟨_, rfl⟩
  have hb0 : Below w.heap.size w w0 := by rw [← hw0]; exact below_newK w _
  have HB := Lib.hid hb0
  have HZ := Lib.hid (KZ.below hb0 (Nat.le_refl _) _ _ hk)
  have HD := Lib.hid (show Whole w0 Da 36 #[.int .i64 kd, .int .i64 f, .string t, .slice AS nS cS, .slice AK nK cK] by rw [← hw0, ← hDa]; exact Whole.made w _ _)
  clear hk hb0 hSh hLs
  by_cases hr0 : r < 0
  · clear hr hm hq
    have cHD0 := HD.out.cell 0
    have cHD1 := HD.out.cell 1
    have cHD2 := HD.out.cell 2
    have cHD3 := HD.out.cell 3
    have cHD4 := HD.out.cell 4
    simp only [List.getElem?_toArray, List.getElem?_cons_zero, List.getElem?_cons_succ] at cHD0 cHD1 cHD2 cHD3 cHD4
    go_enter Tryd.func4, Tryd.ntmps4
    go_wp2_with fail
    have HCA := sz_key m q (.agg #[.int .i64 kd, .int .i64 f, .string t, .slice AS nS cS, .slice AK nK cK]) w0 1048576 HM.out (by omega) (by omega) HZ.out
    unfold SzK at HCA
    rw [HR.out] at HCA
    refine HCA.mono ?_
    rintro e w1 ⟨rfl, hb⟩
    clear HCA
    clear cHD0 cHD1 cHD2 cHD3 cHD4
    have HB_1 := Lib.hid (HB.out.trans (hb.mono HB.out.size))
    have HZ_1 := Lib.hid (KZ.below hb (Nat.le_refl _) _ _ HZ.out)
    have HD_1 := Lib.hid (HD.out.below hb HD.out.lt)
    clear HD HZ HB
    clear hb
    go_wp2
    go_ret
    exact ⟨rfl, HB_1.out⟩
  · have hz : szT q ≤ 1048576 := by
      rcases Nat.lt_or_ge 1048576 (szT q) with h | h
      · rw [lft_no (by omega)] at hr; omega
      · exact h
    have hm2 : m ≤ 1048577 := by have := nodes_sz q; omega
    have HZT := Lib.hid hz
    obtain ⟨o, ho⟩ : ∃ o, keyB q = o := ⟨_, rfl⟩
    have HO := Lib.hid ho
    have hoo : (o != o) = false := by simp
    clear hr hm hz ho hq
    have cHD0 := HD.out.cell 0
    have cHD1 := HD.out.cell 1
    have cHD2 := HD.out.cell 2
    have cHD3 := HD.out.cell 3
    have cHD4 := HD.out.cell 4
    simp only [List.getElem?_toArray, List.getElem?_cons_zero, List.getElem?_cons_succ] at cHD0 cHD1 cHD2 cHD3 cHD4
    go_enter Tryd.func4, Tryd.ntmps4
    go_wp2_with fail
    have HCA := sz_key m q (.agg #[.int .i64 kd, .int .i64 f, .string t, .slice AS nS cS, .slice AK nK cK]) w0 1048576 HM.out (by omega) (by omega) HZ.out
    unfold SzK at HCA
    rw [HR.out] at HCA
    refine HCA.mono ?_
    rintro e w1 ⟨rfl, hb⟩
    clear HCA
    clear cHD0 cHD1 cHD2 cHD3 cHD4
    have HB_1 := Lib.hid (HB.out.trans (hb.mono HB.out.size))
    have HZ_1 := Lib.hid (KZ.below hb (Nat.le_refl _) _ _ HZ.out)
    have HD_1 := Lib.hid (HD.out.below hb HD.out.lt)
    clear HD HZ HB
    clear hb
    have HV := Lib.hid (kv_of q (.agg #[.int .i64 kd, .int .i64 f, .string t, .slice AS nS cS, .slice AK nK cK]) HZ_1.out HZT.out)
    clear HZ_1
    have cHD0 := HD_1.out.cell 0
    have cHD1 := HD_1.out.cell 1
    have cHD2 := HD_1.out.cell 2
    have cHD3 := HD_1.out.cell 3
    have cHD4 := HD_1.out.cell 4
    simp only [List.getElem?_toArray, List.getElem?_cons_zero, List.getElem?_cons_succ] at cHD0 cHD1 cHD2 cHD3 cHD4
    go_wp2_with fail
    refine (to_key m q (.agg #[.int .i64 kd, .int .i64 f, .string t, .slice AS nS cS, .slice AK nK cK]) w1 HM.out HZT.out HV.out).mono ?_
    rintro e w2 ⟨⟨a0, a1, a2, ⟨a3, a4, a5⟩, ⟨a6, a7, a8⟩⟩, rfl, hka, hb⟩
    clear cHD0 cHD1 cHD2 cHD3 cHD4
    have HB_2 := Lib.hid (HB_1.out.trans (hb.mono HB_1.out.size))
    have HD_2 := Lib.hid (HD_1.out.below hb HD_1.out.lt)
    have HV_2 := Lib.hid (KV.below hb (Nat.le_refl _) _ _ HV.out)
    clear HV HD_1 HB_1
    have HKa := Lib.hid (hka.kv)
    clear hka hb
    go_wp2_with fail
    refine (spec_key HKa.out (Nat.le_trans HM.out (by omega)) HO.out).mono ?_
    rintro e w3 ⟨rfl, hb⟩
    clear HKa
    have HB_3 := Lib.hid (HB_2.out.trans (hb.mono HB_2.out.size))
    have HD_3 := Lib.hid (HD_2.out.below hb HD_2.out.lt)
    have HV_3 := Lib.hid (KV.below hb (Nat.le_refl _) _ _ HV_2.out)
    clear HV_2 HD_2 HB_2
    clear hb
    have cHD0 := HD_3.out.cell 0
    have cHD1 := HD_3.out.cell 1
    have cHD2 := HD_3.out.cell 2
    have cHD3 := HD_3.out.cell 3
    have cHD4 := HD_3.out.cell 4
    simp only [List.getElem?_toArray, List.getElem?_cons_zero, List.getElem?_cons_succ] at cHD0 cHD1 cHD2 cHD3 cHD4
    go_wp2_with fail
    refine (to_key m q (.agg #[.int .i64 kd, .int .i64 f, .string t, .slice AS nS cS, .slice AK nK cK]) w3 HM.out HZT.out HV_3.out).mono ?_
    rintro e w4 ⟨⟨b0, b1, b2, ⟨b3, b4, b5⟩, ⟨b6, b7, b8⟩⟩, rfl, hka, hb⟩
    clear cHD0 cHD1 cHD2 cHD3 cHD4
    have HB_4 := Lib.hid (HB_3.out.trans (hb.mono HB_3.out.size))
    have HD_4 := Lib.hid (HD_3.out.below hb HD_3.out.lt)
    have HV_4 := Lib.hid (KV.below hb (Nat.le_refl _) _ _ HV_3.out)
    clear HV_3 HD_3 HB_3
    have HKb := Lib.hid (hka.kv)
    clear hka hb
    obtain ⟨D5, hD5⟩ : ∃ D, w4.heap.size = D := ⟨_, rfl⟩
    obtain ⟨w5, hw5⟩ : ∃ z, w4.alloc (.cells #[.int .i64 b0, .int .i64 b1, .string b2, .slice b3 b4 b5, .slice b6 b7 b8] 26) = z := ⟨_, rfl⟩
    have hbn : Below w4.heap.size w4 w5 := by rw [← hw5]; exact below_new _ _
    have HB_5 := Lib.hid (HB_4.out.trans (hbn.mono HB_4.out.size))
    have HD_5 := Lib.hid (HD_4.out.below hbn HD_4.out.lt)
    have HV_5 := Lib.hid (KV.below hbn (Nat.le_refl _) _ _ HV_4.out)
    have HKb_5 := Lib.hid (KV.below hbn (Nat.le_refl _) _ _ HKb.out)
    clear HKb HV_4 HD_4 HB_4
    have H5 := Lib.hid (show Whole w5 D5 26 #[.int .i64 b0, .int .i64 b1, .string b2, .slice b3 b4 b5, .slice b6 b7 b8] by rw [← hw5, ← hD5]; exact Whole.made _ _ _)
    have HD5 := Lib.hid hD5
    clear hbn
    have cH50 := H5.out.cell 0
    have cH51 := H5.out.cell 1
    have cH52 := H5.out.cell 2
    have cH53 := H5.out.cell 3
    have cH54 := H5.out.cell 4
    simp only [List.getElem?_toArray, List.getElem?_cons_zero, List.getElem?_cons_succ] at cH50 cH51 cH52 cH53 cH54
    go_wp2_with fail
    refine (impl_key HO.out w5 (HSH.out.below HB_5.out (Nat.le_refl _)) (HLS.out.below HB_5.out (Nat.le_refl _)) HKb_5.out).mono ?_
    rintro e w6 ⟨rfl, hb⟩
    clear cH50 cH51 cH52 cH53 cH54
    have HB_6 := Lib.hid (HB_5.out.trans (hb.mono HB_5.out.size))
    have HD_6 := Lib.hid (HD_5.out.below hb HD_5.out.lt)
    have HV_6 := Lib.hid (KV.below hb (Nat.le_refl _) _ _ HV_5.out)
    have HKb_6 := Lib.hid (KV.below hb (Nat.le_refl _) _ _ HKb_5.out)
    have H5_6 := Lib.hid (H5.out.below hb H5.out.lt)
    clear H5 HKb_5 HV_5 HD_5 HB_5
    clear hb
    obtain ⟨wz, hwz⟩ : ∃ z, w6.drew = z := ⟨_, rfl⟩
    have hbd : Below w6.heap.size w6 wz := by rw [← hwz]; exact below_drew1 _
    have HWZ := Lib.hid hwz
    clear hwz
    have HB_7 := Lib.hid (HB_6.out.trans (hbd.mono HB_6.out.size))
    have HD_7 := Lib.hid (HD_6.out.below hbd HD_6.out.lt)
    have HV_7 := Lib.hid (KV.below hbd (Nat.le_refl _) _ _ HV_6.out)
    have HKb_7 := Lib.hid (KV.below hbd (Nat.le_refl _) _ _ HKb_6.out)
    have H5_7 := Lib.hid (H5_6.out.below hbd H5_6.out.lt)
    clear H5_6 HKb_6 HV_6 HD_6 HB_6
    clear hbd
    have cHD0 := HD_7.out.cell 0
    have cHD1 := HD_7.out.cell 1
    have cHD2 := HD_7.out.cell 2
    have cHD3 := HD_7.out.cell 3
    have cHD4 := HD_7.out.cell 4
    have cH50 := H5_7.out.cell 0
    have cH51 := H5_7.out.cell 1
    have cH52 := H5_7.out.cell 2
    have cH53 := H5_7.out.cell 3
    have cH54 := H5_7.out.cell 4
    simp only [List.getElem?_toArray, List.getElem?_cons_zero, List.getElem?_cons_succ] at cHD0 cHD1 cHD2 cHD3 cHD4 cH50 cH51 cH52 cH53 cH54
    go_upto_region 10 with fail
    refine wp_region_late (fun w' => w'.cell? ⟨Da, 0, none⟩ = some (.int .i64 kd) ∧ w'.cell? ⟨Da, 1, none⟩ = some (.int .i64 f) ∧ w'.cell? ⟨Da, 2, none⟩ = some (.string t) ∧ w'.cell? ⟨Da, 3, none⟩ = some (.slice AS nS cS) ∧ w'.cell? ⟨Da, 4, none⟩ = some (.slice AK nK cK) ∧ w'.cell? ⟨D5, 0, none⟩ = some (.int .i64 b0) ∧ w'.cell? ⟨D5, 1, none⟩ = some (.int .i64 b1) ∧ w'.cell? ⟨D5, 2, none⟩ = some (.string b2) ∧ w'.cell? ⟨D5, 3, none⟩ = some (.slice b3 b4 b5) ∧ w'.cell? ⟨D5, 4, none⟩ = some (.slice b6 b7 b8)) 4 (by kernel_rfl) ?_
    rw [HWZ.out]
    refine wpLate_take (i := 0) (v := ?v0r) rfl (by kernel_rfl) (by kernel_rfl) (by kernel_rfl) (by kernel_rfl) (by kernel_rfl) (fun _ _ _ h => h) ⟨cHD0, cHD1, cHD2, cHD3, cHD4, cH50, cH51, cH52, cH53, cH54⟩ (by rfl) ?hy0r ?r0r
    case hy0r =>
      rintro wz ⟨z0, z1, z2, z3, z4, z5, z6, z7, z8, z9⟩
      go_simp
      try with_reducible rfl
    try simp only [Act.put]
    refine wpLate_take (i := 1) (v := ?v1r) rfl (by kernel_rfl) (by kernel_rfl) (by kernel_rfl) (by kernel_rfl) (by kernel_rfl) (fun _ _ _ h => h) ⟨cHD0, cHD1, cHD2, cHD3, cHD4, cH50, cH51, cH52, cH53, cH54⟩ (by rfl) ?hy1r ?r1r
    case hy1r =>
      rintro wz ⟨z0, z1, z2, z3, z4, z5, z6, z7, z8, z9⟩
      go_simp
      try with_reducible rfl
    try simp only [Act.put]
    refine wpLate_one (i := 2) (by kernel_rfl) rfl (fun K hK => ?_)
    go_simp
    refine (to_key m q (.agg #[.int .i64 kd, .int .i64 f, .string t, .slice AS nS cS, .slice AK nK cK]) wz HM.out HZT.out HV_7.out).mono ?_
    rintro e w7 ⟨⟨d0, d1, d2, ⟨d3, d4, d5⟩, ⟨d6, d7, d8⟩⟩, rfl, hka, hb⟩
    clear cHD0 cHD1 cHD2 cHD3 cHD4 cH50 cH51 cH52 cH53 cH54
    have HB_8 := Lib.hid (HB_7.out.trans (hb.mono HB_7.out.size))
    have HD_8 := Lib.hid (HD_7.out.below hb HD_7.out.lt)
    have HV_8 := Lib.hid (KV.below hb (Nat.le_refl _) _ _ HV_7.out)
    have HKb_8 := Lib.hid (KV.below hb (Nat.le_refl _) _ _ HKb_7.out)
    have H5_8 := Lib.hid (H5_7.out.below hb H5_7.out.lt)
    clear H5_7 HKb_7 HV_7 HD_7 HB_7
    have HKd := Lib.hid (hka.kv)
    clear hka hb
    have cHD0 := HD_8.out.cell 0
    have cHD1 := HD_8.out.cell 1
    have cHD2 := HD_8.out.cell 2
    have cHD3 := HD_8.out.cell 3
    have cHD4 := HD_8.out.cell 4
    have cH50 := H5_8.out.cell 0
    have cH51 := H5_8.out.cell 1
    have cH52 := H5_8.out.cell 2
    have cH53 := H5_8.out.cell 3
    have cH54 := H5_8.out.cell 4
    simp only [List.getElem?_toArray, List.getElem?_cons_zero, List.getElem?_cons_succ] at cHD0 cHD1 cHD2 cHD3 cHD4 cH50 cH51 cH52 cH53 cH54
    refine hK.out _ _ (fun _ => ⟨cHD0, cHD1, cHD2, cHD3, cHD4, cH50, cH51, cH52, cH53, cH54⟩) ?_
    clear hK K
    try simp only [Act.put]
    refine wpLate_one (i := 3) (by kernel_rfl) rfl (fun K hK => ?_)
    go_simp
    refine (eq_key m q _ _ w7 HM.out (by omega) HKb_8.out HKd.out).mono ?_
    rintro e w8 ⟨rfl, hb⟩
    clear cHD0 cHD1 cHD2 cHD3 cHD4 cH50 cH51 cH52 cH53 cH54
    have HB_9 := Lib.hid (HB_8.out.trans (hb.mono HB_8.out.size))
    have HD_9 := Lib.hid (HD_8.out.below hb HD_8.out.lt)
    have HV_9 := Lib.hid (KV.below hb (Nat.le_refl _) _ _ HV_8.out)
    have HKb_9 := Lib.hid (KV.below hb (Nat.le_refl _) _ _ HKb_8.out)
    have H5_9 := Lib.hid (H5_8.out.below hb H5_8.out.lt)
    have HKd_9 := Lib.hid (KV.below hb (Nat.le_refl _) _ _ HKd.out)
    clear HKd H5_8 HKb_8 HV_8 HD_8 HB_8
    clear hb
    have cHD0 := HD_9.out.cell 0
    have cHD1 := HD_9.out.cell 1
    have cHD2 := HD_9.out.cell 2
    have cHD3 := HD_9.out.cell 3
    have cHD4 := HD_9.out.cell 4
    have cH50 := H5_9.out.cell 0
    have cH51 := H5_9.out.cell 1
    have cH52 := H5_9.out.cell 2
    have cH53 := H5_9.out.cell 3
    have cH54 := H5_9.out.cell 4
    simp only [List.getElem?_toArray, List.getElem?_cons_zero, List.getElem?_cons_succ] at cHD0 cHD1 cHD2 cHD3 cHD4 cH50 cH51 cH52 cH53 cH54
    refine hK.out _ _ (fun _ => ⟨cHD0, cHD1, cHD2, cHD3, cHD4, cH50, cH51, cH52, cH53, cH54⟩) ?_
    clear hK K
    try simp only [Act.put]
    refine wpLate_one (i := 4) (by kernel_rfl) rfl (fun K hK => ?_)
    go_simp
    refine hK.out _ _ (fun h => absurd rfl h) ?_
    clear hK K
    try simp only [Act.put]
    refine wpLate_done (by kernel_rfl) ?_ _
    go_wp2
    go_ret
    exact ⟨rfl, HB_9.out⟩
end Go.Proofs.YtodafbfhcgphpaaDoor
