/-
  The walk of the law FnKeyNodes. Conditions: the code can be read; the tables hold what the program lays there.
-/
import Derived.Test.YtpihibconbejlaaDoorKl
import Derived.Deep.RegionHeld3
namespace Go.Proofs.YtpihibconbejlaaDoor
open Go.RowKit
set_option linter.unusedVariables false

theorem kv_not {W : World} {g a4 a5 a7 a8 : Nat} {k : KT} {a0 a1 : Int} {a2 : ByteArray} {a3 a6 : Option Addr} (hk : KV W k (kval (a0, a1, a2, (a3, a4, a5), (a6, a7, a8)))) (hr : RAt keyR W (some ⟨g, 0, none⟩) [(a0, a1, a2, (a3, a4, a5), (a6, a7, a8))]) :
    KV W (.mk 5 0 ⟨#[]⟩ [] [k]) (.agg #[.int .i64 5, .int .i64 0, .string ⟨#[]⟩, .slice none 0 0, .slice (some ⟨g, 0, none⟩) 1 1]) := by
  rw [KV]
  exact ⟨none, 0, 0, some ⟨g, 0, none⟩, 1, 1, rfl, rfl, by omega, by decide, SpA.nil _ _, rfl, RAt.kvs (rs := [_]) (i := 0) hr (fun j r hj => by rw [Nat.zero_add]; exact hj) ⟨_, [], rfl, hk, rfl⟩⟩
set_option maxRecDepth 20000 in
set_option maxHeartbeats 8000000 in
theorem law_FnKeyNodes (A : Option Addr) (len cap : Nat) (w : World) (h : Coded w A len cap) (hSh : Shp w) (hLs : Lst w) : Calls Tryd.prog 4 #[.slice A len cap] w (Holds1 w) := by
  have HC := Lib.hid h
  have HSH := Lib.hid hSh
  have HLS := Lib.hid hLs
  clear h hSh hLs
  by_cases hl : len ≤ 1048576
  · have hl' : (len : Int) ≤ 1048576 := by omega
    go_enter Tryd.func4, Tryd.ntmps4
    go_wp2_with fail
    refine (draw_key kd3 A len cap w HC.out).mono ?_
    rintro e w1 ⟨k, ⟨a0, a1, a2, ⟨a3, a4, a5⟩, ⟨a6, a7, a8⟩⟩, rfl, hk, hni, hn, hb0⟩
    obtain ⟨kd, f, t, S, ks⟩ := k
    have HN := Lib.hid hn
    have HK1 := Lib.hid hk
    have HB1 := Lib.hid hb0
    obtain ⟨D, hD⟩ : ∃ D, w1.heap.size = D := ⟨_, rfl⟩
    have HDD := Lib.hid hD
    obtain ⟨w2, hw2⟩ : ∃ w2, w1.alloc (.cells #[.int .i64 a0, .int .i64 a1, .string a2, .slice a3 a4 a5, .slice a6 a7 a8] 26) = w2 := ⟨_, rfl⟩
    have HW2 := Lib.hid hw2
    have hbk : Below w1.heap.size w1 w2 := by rw [← hw2]; exact below_newK w1 _
    have HX2 : Hid (Whole w2 D 26 #[.int .i64 a0, .int .i64 a1, .string a2, .slice a3 a4 a5, .slice a6 a7 a8]) := Lib.hid (by rw [← hw2, ← hD]; exact Whole.made w1 _ _)
    have HB2 := Lib.hid (HB1.out.trans (hbk.mono HB1.out.size))
    have HK2 := Lib.hid (KV.below hbk (Nat.le_refl _) _ _ hk)
    clear hk hni hn hb0 hD hw2 hbk
    have z0 := HX2.out.cell 0
    have z1 := HX2.out.cell 1
    have z2 := HX2.out.cell 2
    have z3 := HX2.out.cell 3
    have z4 := HX2.out.cell 4
    simp at z0 z1 z2 z3 z4
    obtain ⟨o, ho⟩ : ∃ o, keyB (.mk kd f t S ks) = o := ⟨_, rfl⟩
    have HO := Lib.hid ho
    clear ho
    have HC2 := Lib.hid (impl_key HO.out w2 (HSH.out.below HB2.out (Nat.le_refl _)) (HLS.out.below HB2.out (Nat.le_refl _)) HK2.out)
    go_wp2_with fail
    rw [HW2.out, HDD.out]
    refine HC2.out.mono ?_
    rintro e w3 ⟨rfl, hb⟩
    have HX3 := Lib.hid (HX2.out.below hb HX2.out.lt)
    have HB3 := Lib.hid (HB2.out.trans (hb.mono HB2.out.size))
    have HK3 := Lib.hid (KV.below hb (Nat.le_refl _) _ _ HK2.out)
    clear hb z0 z1 z2 z3 z4
    have z0 := HX3.out.cell 0
    have z1 := HX3.out.cell 1
    have z2 := HX3.out.cell 2
    have z3 := HX3.out.cell 3
    have z4 := HX3.out.cell 4
    simp at z0 z1 z2 z3 z4
    have HC3 := Lib.hid (spec_key HK3.out (by have := HN.out; omega) HO.out)
    go_wp2_with fail
    refine HC3.out.mono ?_
    rintro e w4 ⟨rfl, hb⟩
    have HX4 := Lib.hid (HX3.out.below hb HX3.out.lt)
    have HB4 := Lib.hid (HB3.out.trans (hb.mono HB3.out.size))
    have HK4 := Lib.hid (KV.below hb (Nat.le_refl _) _ _ HK3.out)
    clear hb z0 z1 z2 z3 z4
    cases o with
    | false =>
      go_wp2
      go_ret
      exact ⟨rfl, HB4.out⟩
    | true =>
      obtain ⟨m, hm⟩ : ∃ m, nodesT (.mk kd f t S ks) = m := ⟨_, rfl⟩
      have hm9 : m ≤ 9 := by
        have := HO.out
        unfold keyB at this
        rw [Bool.and_eq_true, decide_eq_true_eq, hm] at this
        exact this.2
      have hat : allT (.mk kd f t S ks) = true := by
        have := HO.out
        unfold keyB at this
        rw [Bool.and_eq_true] at this
        exact this.1
      have HM := Lib.hid hm
      have hnm : nodesT (.mk kd f t S ks) ≤ 9 := by rw [hm]; exact hm9
      have HNM := Lib.hid hnm
      obtain ⟨o2, ho2⟩ : ∃ o2, keyB (.mk 5 0 ⟨#[]⟩ [] [.mk kd f t S ks]) = o2 := ⟨_, rfl⟩
      have hoo : decide (m < 9) = o2 := by
        rw [← ho2, keyB, allT, allL, allL, hat]
        show _ = ((true && true && nodeB 5 0 ⟨#[]⟩ [] 1) && decide (nodesT (KT.mk kd f t S ks) + 0 + 1 ≤ 9))
        rw [hm, show nodeB 5 0 ⟨#[]⟩ [] 1 = true from rfl, Bool.true_and, Bool.true_and]
        by_cases h9 : m < 9
        · rw [decide_eq_true h9, decide_eq_true (by omega)]; rfl
        · rw [decide_eq_false h9, decide_eq_false (by omega)]; rfl
      have HO2 := Lib.hid ho2
      have hz4 : w.heap.size ≤ w4.heap.size := HB4.out.size
      have HBd : Hid (Below w.heap.size w w4.drew) := Lib.hid (Below.drew HB4.out)
      have HKd : Hid (KV w4.drew (.mk kd f t S ks) (kval (a0, a1, a2, (a3, a4, a5), (a6, a7, a8)))) := Lib.hid (KV.below (Below.drew (Below.refl w4.heap.size w4)) (Nat.le_refl _) _ _ HK4.out)
      have HAl : Hid (Below w4.drew.heap.size w4.drew (w4.drew.alloc (.cells #[.int .i64 a0, .int .i64 a1, .string a2, .slice a3 a4 a5, .slice a6 a7 a8] 26))) := Lib.hid (below_newK w4.drew _)
      have HBa : Hid (Below w.heap.size w (w4.drew.alloc (.cells #[.int .i64 a0, .int .i64 a1, .string a2, .slice a3 a4 a5, .slice a6 a7 a8] 26))) := Lib.hid (HBd.out.trans (HAl.out.mono hz4))
      have HKa : Hid (KV (w4.drew.alloc (.cells #[.int .i64 a0, .int .i64 a1, .string a2, .slice a3 a4 a5, .slice a6 a7 a8] 26)) (.mk kd f t S ks) (kval (a0, a1, a2, (a3, a4, a5), (a6, a7, a8)))) := Lib.hid (KV.below HAl.out (Nat.le_refl _) _ _ HKd.out)
      have HRa : Hid (RAt keyR (w4.drew.alloc (.cells #[.int .i64 a0, .int .i64 a1, .string a2, .slice a3 a4 a5, .slice a6 a7 a8] 26)) (some ⟨w4.heap.size, 0, none⟩) [(a0, a1, a2, (a3, a4, a5), (a6, a7, a8))]) := Lib.hid (RAt.made keyR w4.drew [(a0, a1, a2, (a3, a4, a5), (a6, a7, a8))] _ rfl)
      have HCK1 := Lib.hid (impl_key HO2.out (w4.drew.alloc (.cells #[.int .i64 a0, .int .i64 a1, .string a2, .slice a3 a4 a5, .slice a6 a7 a8] 26)) (HSH.out.below HBa.out (Nat.le_refl _)) (HLS.out.below HBa.out (Nat.le_refl _)) (kv_not HKa.out HRa.out))
      have HCN0 := Lib.hid (laws_nodes_n 9 _ _ w4.drew HNM.out (by omega) HKd.out)
      have HCN1 := Lib.hid (laws_nodes_n 9 _ _ (w4.drew.alloc (.cells #[.int .i64 a0, .int .i64 a1, .string a2, .slice a3 a4 a5, .slice a6 a7 a8] 26)) HNM.out (by omega) HKa.out)
      rw [hm] at HCN0 HCN1
      have HXd : Hid (Whole w4.drew D 26 #[.int .i64 a0, .int .i64 a1, .string a2, .slice a3 a4 a5, .slice a6 a7 a8]) := HX4
      have HXa : Hid (Whole (w4.drew.alloc (.cells #[.int .i64 a0, .int .i64 a1, .string a2, .slice a3 a4 a5, .slice a6 a7 a8] 26)) D 26 #[.int .i64 a0, .int .i64 a1, .string a2, .slice a3 a4 a5, .slice a6 a7 a8]) := Lib.hid (HXd.out.alloc _)
      have z0 := (HX4.out).cell 0
      have z1 := (HX4.out).cell 1
      have z2 := (HX4.out).cell 2
      have z3 := (HX4.out).cell 3
      have z4 := (HX4.out).cell 4
      simp at z0 z1 z2 z3 z4
      have za0 := (HXa.out).cell 0
      have za1 := (HXa.out).cell 1
      have za2 := (HXa.out).cell 2
      have za3 := (HXa.out).cell 3
      have za4 := (HXa.out).cell 4
      simp at za0 za1 za2 za3 za4
      clear hm hat hnm ho2
      by_cases h9 : m < 9
      · obtain rfl : o2 = true := by rw [← hoo]; exact decide_eq_true h9
        have h9' : (m : Int) < 9 := by omega
        clear hoo
        go_wp2
        go_region_held3 (fun w' => w'.cell? ⟨D, 0, none⟩ = some (.int .i64 a0) ∧ w'.cell? ⟨D, 1, none⟩ = some (.int .i64 a1) ∧ w'.cell? ⟨D, 2, none⟩ = some (.string a2) ∧ w'.cell? ⟨D, 3, none⟩ = some (.slice a3 a4 a5) ∧ w'.cell? ⟨D, 4, none⟩ = some (.slice a6 a7 a8)) (go_keep) (first
          | (go_at_call 25
             refine (HCK1.out).mono ?_
             rintro e w6 ⟨rfl, hb⟩
             have HB6 := Lib.hid (HBa.out.trans (hb.mono HBa.out.size))
             have HX6 := Lib.hid (HXa.out.below hb HXa.out.lt)
             have HCN6 := Lib.hid (laws_nodes_n 9 _ _ w6 HNM.out (by omega) (KV.below hb (Nat.le_refl _) _ _ HKa.out))
             rw [HM.out] at HCN6
             have y0 := (HX6.out).cell 0
             have y1 := (HX6.out).cell 1
             have y2 := (HX6.out).cell 2
             have y3 := (HX6.out).cell 3
             have y4 := (HX6.out).cell 4
             simp at y0 y1 y2 y3 y4
             clear hb)
          | (go_at_call 27
             refine (HCN6.out).mono ?_
             rintro e w7 ⟨rfl, hb⟩
             have HBe1 := Lib.hid (HB6.out.trans (hb.mono HB6.out.size))
             have HX7 := Lib.hid (HX6.out.below hb HX6.out.lt)
             have v0 := (HX7.out).cell 0
             have v1 := (HX7.out).cell 1
             have v2 := (HX7.out).cell 2
             have v3 := (HX7.out).cell 3
             have v4 := (HX7.out).cell 4
             simp at v0 v1 v2 v3 v4
             clear hb))
        all_goals (
          go_wp2
          go_ret
          first
            | exact ⟨rfl, HBe1.out⟩
            | exact ⟨by show Ending.returned (Value.bool (!decide ((m : Int) < 9))) = _; rw [decide_eq_false (show ¬ (m : Int) < 9 by omega)]; rfl, HBe1.out⟩)
      · obtain rfl : o2 = false := by rw [← hoo]; exact decide_eq_false h9
        have h9' : ¬ (m : Int) < 9 := by omega
        clear hoo
        go_wp2
        go_region_held3 (fun w' => w'.cell? ⟨D, 0, none⟩ = some (.int .i64 a0) ∧ w'.cell? ⟨D, 1, none⟩ = some (.int .i64 a1) ∧ w'.cell? ⟨D, 2, none⟩ = some (.string a2) ∧ w'.cell? ⟨D, 3, none⟩ = some (.slice a3 a4 a5) ∧ w'.cell? ⟨D, 4, none⟩ = some (.slice a6 a7 a8)) (go_keep) (first
          | (go_at_call 25
             refine (HCK1.out).mono ?_
             rintro e w6 ⟨rfl, hb⟩
             have HB6 := Lib.hid (HBa.out.trans (hb.mono HBa.out.size))
             have HX6 := Lib.hid (HXa.out.below hb HXa.out.lt)
             have HCN6 := Lib.hid (laws_nodes_n 9 _ _ w6 HNM.out (by omega) (KV.below hb (Nat.le_refl _) _ _ HKa.out))
             rw [HM.out] at HCN6
             have y0 := (HX6.out).cell 0
             have y1 := (HX6.out).cell 1
             have y2 := (HX6.out).cell 2
             have y3 := (HX6.out).cell 3
             have y4 := (HX6.out).cell 4
             simp at y0 y1 y2 y3 y4
             clear hb)
          | (go_at_call 27
             refine (HCN6.out).mono ?_
             rintro e w7 ⟨rfl, hb⟩
             have HBe1 := Lib.hid (HB6.out.trans (hb.mono HB6.out.size))
             have HX7 := Lib.hid (HX6.out.below hb HX6.out.lt)
             have v0 := (HX7.out).cell 0
             have v1 := (HX7.out).cell 1
             have v2 := (HX7.out).cell 2
             have v3 := (HX7.out).cell 3
             have v4 := (HX7.out).cell 4
             simp at v0 v1 v2 v3 v4
             clear hb))
        all_goals (
          go_wp2
          go_ret
          first
            | exact ⟨rfl, HBe1.out⟩
            | exact ⟨by show Ending.returned (Value.bool (!decide ((m : Int) < 9))) = _; rw [decide_eq_false (show ¬ (m : Int) < 9 by omega)]; rfl, HBe1.out⟩)
  · have hl' : ¬ (len : Int) ≤ 1048576 := by omega
    go_enter Tryd.func4, Tryd.ntmps4
    go_wp2
    go_ret
    exact ⟨rfl, Below.refl _ _⟩
end Go.Proofs.YtpihibconbejlaaDoor
