/-
  The contracts of the model's l12All and KeyValid. Condition: the key can be read, and has not too many nodes.
-/
import Derived.Test.YtnfigpknejmkmaaGreatDoorKv
namespace Go.Proofs.YtnfigpknejmkmaaGreatDoor
open Go.RowKit
set_option linter.unusedVariables false

theorem spec_node_at {kd f : Int} {t : ByteArray} {S : List (Int × Int)} {ks : List KT} {v : Value} {w : World} {o : Bool} (h : KV w (.mk kd f t S ks) v) (ho : nodeB kd f t S ks.length = o) :
    Calls Tryz.prog 91 #[v] w fun e w' => e = .returned (.bool o) ∧ Below w.heap.size w w' := by
  obtain ⟨AS, nS, cS, AK, nK, cK, rfl, h2, h3, h4, h5, h6, h7⟩ := h.open
  rw [h6] at ho
  by_cases k0 : kd = 0
  · subst k0; exact spec_node_0 f t S AS nS cS AK nK cK w h2 h3 h4 h5 o ho
  by_cases k1 : kd = 1
  · subst k1; exact spec_node_1 f t S AS nS cS AK nK cK w h2 h3 h4 h5 o ho
  by_cases k2 : kd = 2
  · subst k2; exact spec_node_2 f t S AS nS cS AK nK cK w h2 h3 h4 h5 o ho
  by_cases k3 : kd = 3
  · subst k3; exact spec_node_3 f t S AS nS cS AK nK cK w h2 h3 h4 h5 o ho
  by_cases k4 : kd = 4
  · subst k4; exact spec_node_4 f t S AS nS cS AK nK cK w h2 h3 h4 h5 o ho
  by_cases k5 : kd = 5
  · subst k5; exact spec_node_5 f t S AS nS cS AK nK cK w h2 h3 h4 h5 o ho
  by_cases k6 : kd = 6
  · subst k6; exact spec_node_6 f t S AS nS cS AK nK cK w h2 h3 h4 h5 o ho
  by_cases k7 : kd = 7
  · subst k7; exact spec_node_7 f t S AS nS cS AK nK cK w h2 h3 h4 h5 o ho
  · exact spec_node_o kd (fun c h0 h1 => beq_eq_false_iff_ne.2 (by omega)) f t S AS nS cS AK nK cK w h2 h3 h4 h5 o ho
set_option maxHeartbeats 2000000 in
theorem spec_all_n : ∀ (n : Nat) (k : KT) (v : Value) (w : World), nodesT k ≤ n → n ≤ 4000000 → KV w k v →
    Calls Tryz.prog 66 #[v] w fun e w' => e = .returned (.bool (allT k)) ∧ Below w.heap.size w w'
  | 0, k, v, w, hn, _, _ => by have := nodesT_pos k; omega
  | n + 1, .mk kd f t S ks, v, w, hn, hm, h => by
    have ih := fun (k' : KT) (v' : Value) (w1 : World) (h1 : nodesT k' ≤ n) (h2 : KV w1 k' v') => spec_all_n n k' v' w1 h1 (by omega) h2
    have H0 := Lib.hid h
    obtain ⟨AS, nS, cS, AK, nK, cK, rfl, h2, h3, h4, h5, h6, h7⟩ := h.open
    have hT : nodesT (.mk kd f t S ks) = nodesL ks + 1 := by rw [nodesT]
    rw [hT] at hn
    have hA : allT (.mk kd f t S ks) = (allL ks && nodeB kd f t S ks.length) := by rw [allT]
    rw [hA]
    have hln := nodesL_len ks
    have HKS := Lib.hid h7
    have HN6 := Lib.hid h6
    have HNN := Lib.hid hn
    have hnK : nK ≤ 4000000 := by omega
    obtain ⟨B, hB⟩ : ∃ B, w.heap.size = B := ⟨_, rfl⟩
    have HBB := Lib.hid hB
    have HW0 := Lib.hid (hB ▸ Whole.made w 27 #[.int .i64 kd, .int .i64 f, .string t, .slice AS nS cS, .slice AK nK cK])
    have HB0 : Hid (Below B w (w.alloc (.cells #[.int .i64 kd, .int .i64 f, .string t, .slice AS nS cS, .slice AK nK cK] 27))) := (Below.refl _ _).alloc (Nat.le_of_eq hB.symm) _
    have HIH := Lib.hid ih
    obtain ⟨o, ho⟩ : ∃ o, (allL ks && nodeB kd f t S ks.length) = o := ⟨_, rfl⟩
    have HO := Lib.hid ho
    rw [ho]
    clear h h2 h3 h4 h5 h6 h7 hT hA hn hln hm ih ho
    have z4 := HW0.out.cell 4
    simp at z4
    go_enter Tryz.func66, Tryz.ntmps66
    go_wp2
    clear z4
    go_loopw [3] (fun iv wr => ∃ (i : Nat), i ≤ nK ∧ iv = .int .i64 (i : Int) ∧ Hid (allL (ks.take i) = true) ∧ Hid (Below B w wr) ∧ Hid (Whole wr B 27 #[.int .i64 kd, .int .i64 f, .string t, .slice AS nS cS, .slice AK nK cK])) (fun iv _ => nK - (intOf iv).toNat)
    case atStart => exact ⟨0, Nat.zero_le _, by go_num, rfl, HB0, HW0⟩
    case round =>
      obtain ⟨i, hi, rfl, HL, HB, HW⟩ := hrel
      have z0 := HW.out.cell 0
      have z1 := HW.out.cell 1
      have z2 := HW.out.cell 2
      have z3 := HW.out.cell 3
      have z4 := HW.out.cell 4
      simp at z0 z1 z2 z3 z4
      by_cases hlt : i < nK
      · have h0 : (0 : Int) ≤ (i : Int) := by omega
        have h5 : (i : Int) < (nK : Int) := by omega
        obtain ⟨k, hk⟩ : ∃ k, ks[i]? = some k := ⟨_, List.getElem?_eq_getElem (by rw [HN6.out]; exact hlt)⟩
        obtain ⟨b, o', v0, v1, v2, v3, v4, rfl, hbz, c0, c1, c2, c3, c4, hkv⟩ := (KVs.below HB.out (Nat.le_of_eq HBB.out) AK 0 ks HKS.out).get hk
        rw [Nat.zero_add] at c0 c1 c2 c3 c4
        have hnl := nodesL_lt hk
        have hnn := HNN.out
        have HK := Lib.hid hk
        have HC := Lib.hid (HIH.out k (.agg #[v0, v1, v2, v3, v4]) wr (by omega) hkv)
        have HSZ := Lib.hid HB.out.size
        cases ha : allT k with
        | false =>
          have hof : o = false := by rw [← HO.out, allL_no hk ha]; rfl
          subst hof
          rw [ha] at HC
          clear hk hkv hnl hnn ha
          go_wp2_with fail
          refine HC.out.mono ?_
          rintro e w2 ⟨rfl, hb⟩
          have HB2 := Lib.hid (HB.out.trans (hb.mono (HBB.out ▸ HSZ.out)))
          clear hb
          go_wp2
          go_ret
          exact ⟨rfl, HBB.out ▸ HB2.out⟩
        | true =>
          have HT : Hid (allL (ks.take (i + 1)) = true) := by show _ = _; rw [allL_take hk, ha, HL.out]; rfl
          rw [ha] at HC
          clear hk hkv hnl hnn ha
          go_wp2_with fail
          refine HC.out.mono ?_
          rintro e w2 ⟨rfl, hb⟩
          have HB2 := Lib.hid (HB.out.trans (hb.mono (HBB.out ▸ HSZ.out)))
          have HW2 := Lib.hid (HW.out.below hb HW.out.lt)
          clear hb
          go_wp2
          go_roundw
          case rel => exact ⟨i + 1, by omega, by go_num, HT, HB2, HW2⟩
          case measure => simp [intOf]; omega
      · have h5 : ¬ (i : Int) < (nK : Int) := by omega
        have hoo : nodeB kd f t S ks.length = o := by
          have h1 := HL.out
          rw [List.take_of_length_le (by rw [HN6.out]; omega)] at h1
          rw [← HO.out, h1]
          rfl
        have HOO := Lib.hid hoo
        have HKV := Lib.hid (KV.below HB.out (Nat.le_of_eq HBB.out) _ _ H0.out)
        have HSZ := Lib.hid HB.out.size
        clear hoo
        go_wp2_with fail
        refine (spec_node_at HKV.out HOO.out).mono ?_
        rintro e w2 ⟨rfl, hb⟩
        have HB2 := Lib.hid (HB.out.trans (hb.mono (HBB.out ▸ HSZ.out)))
        clear hb
        go_wp2
        go_ret
        exact ⟨rfl, HBB.out ▸ HB2.out⟩
/-- The model's KeyValid. -/
theorem spec_key {k : KT} {v : Value} {w : World} {o : Bool} (h : KV w k v) (hn : nodesT k ≤ 4000000) (ho : keyB k = o) : Calls Tryz.prog 34 #[v] w fun e w' => e = .returned (.bool o) ∧ Below w.heap.size w w' := by
  obtain ⟨kd, f, t, S, ks⟩ := k
  have H0 := Lib.hid h
  obtain ⟨AS, nS, cS, AK, nK, cK, rfl, h2, h3, h4, h5, h6, h7⟩ := h.open
  obtain ⟨B, hB⟩ : ∃ B, w.heap.size = B := ⟨_, rfl⟩
  have HBB := Lib.hid hB
  obtain ⟨w1, hw1⟩ : ∃ w1, w.alloc (.cells #[.int .i64 kd, .int .i64 f, .string t, .slice AS nS cS, .slice AK nK cK] 27) = w1 := ⟨_, rfl⟩
  have HW0 : Hid (Whole w1 B 27 #[.int .i64 kd, .int .i64 f, .string t, .slice AS nS cS, .slice AK nK cK]) := by rw [← hw1, ← hB]; exact Whole.made w 27 _
  have HB0 : Hid (Below B w w1) := by rw [← hw1]; exact (Below.refl _ _).alloc (Nat.le_of_eq hB.symm) _
  have HK1 := Lib.hid (KV.below HB0.out (Nat.le_of_eq hB) _ _ H0.out)
  obtain ⟨a, ha⟩ : ∃ a, allT (.mk kd f t S ks) = a := ⟨_, rfl⟩
  obtain ⟨m, hm⟩ : ∃ m, nodesT (.mk kd f t S ks) = m := ⟨_, rfl⟩
  have HC := Lib.hid (spec_all_n 4000000 _ _ w1 hn (Nat.le_refl _) HK1.out)
  rw [ha] at HC
  have hm9 : m ≤ 4000000 := by rw [← hm]; exact hn
  have HM := Lib.hid hm
  have HA := Lib.hid ha
  have HO := Lib.hid ho
  have z0 := HW0.out.cell 0
  have z1 := HW0.out.cell 1
  have z2 := HW0.out.cell 2
  have z3 := HW0.out.cell 3
  have z4 := HW0.out.cell 4
  simp at z0 z1 z2 z3 z4
  clear h h2 h3 h4 h5 h6 h7 hn ho ha hm
  cases a with
  | false =>
    have hoo : o = false := by rw [← HO.out]; unfold keyB; rw [HA.out]; rfl
    subst hoo
    go_enter Tryz.func34, Tryz.ntmps34
    go_wp2_with fail
    refine HC.out.mono ?_
    rintro e w2 ⟨rfl, hb⟩
    have HB2 := Lib.hid (HB0.out.trans (hb.mono (HBB.out ▸ HB0.out.size)))
    clear hb
    go_wp2
    go_ret
    exact ⟨rfl, HBB.out ▸ HB2.out⟩
  | true =>
    have hoo : decide ((m : Int) ≤ 9) = o := by
      rw [← HO.out]
      unfold keyB
      rw [HA.out, HM.out, Bool.true_and]
      by_cases h9 : m ≤ 9
      · rw [decide_eq_true h9]; exact decide_eq_true (by omega)
      · rw [decide_eq_false h9]; exact decide_eq_false (by omega)
    have hoo2 : decide (m ≤ 9) = o := by
      rw [← hoo]
      by_cases h9 : m ≤ 9
      · rw [decide_eq_true h9]; exact (decide_eq_true (by omega)).symm
      · rw [decide_eq_false h9]; exact (decide_eq_false (by omega)).symm
    go_enter Tryz.func34, Tryz.ntmps34
    go_wp2_with fail
    refine HC.out.mono ?_
    rintro e w2 ⟨rfl, hb⟩
    have HB2 := Lib.hid (HB0.out.trans (hb.mono (HBB.out ▸ HB0.out.size)))
    have HW2 := Lib.hid (HW0.out.below hb HW0.out.lt)
    have HK2 := Lib.hid (KV.below hb (Nat.le_refl _) _ _ HK1.out)
    have HC2 := Lib.hid (spec_nodes_n 4000000 _ _ w2 (by rw [HM.out]; exact hm9) (Nat.le_refl _) HK2.out)
    rw [HM.out] at HC2
    clear hb z0 z1 z2 z3 z4
    have y0 := HW2.out.cell 0
    have y1 := HW2.out.cell 1
    have y2 := HW2.out.cell 2
    have y3 := HW2.out.cell 3
    have y4 := HW2.out.cell 4
    simp at y0 y1 y2 y3 y4
    go_wp2_with fail
    refine HC2.out.mono ?_
    rintro e w3 ⟨rfl, hb⟩
    have HB3 := Lib.hid (HB2.out.trans (hb.mono (HBB.out ▸ HB2.out.size)))
    clear hb
    go_wp2
    go_ret
    exact ⟨rfl, HBB.out ▸ HB3.out⟩
end Go.Proofs.YtnfigpknejmkmaaGreatDoor
