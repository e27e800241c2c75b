/-
  The contracts of the code's keyQuery and KeyValid. Condition: the key lies in memory; the tables hold what the program lays there.
-/
import Derived.Test.YtpihibconbejlaaDoorKy
namespace Go.Proofs.YtpihibconbejlaaDoor
open Go.RowKit
set_option linter.unusedVariables false

def KQ (w : World) (k : KT) (e : Ending) (w' : World) : Prop := ∃ (q : Value) (o : Bool), e = .returned (.tuple #[q, .bool o]) ∧ keyB k = o ∧ (o = true → QV w k q) ∧ Below w.heap.size w w'
set_option maxRecDepth 20000 in
set_option maxHeartbeats 4000000 in
theorem impl_keyquery {k : KT} {v : Value} (w : World) (hSh : Shp w) (hLs : Lst w) (h : KV w k v) : Calls Tryd.prog 45 #[v] w (KQ w k) := by
  obtain ⟨kd, f, t, S, ks⟩ := k
  obtain ⟨AS, nS, cS, AK, nK, cK, rfl, -⟩ := h.open
  have HV := Lib.hid h
  obtain ⟨B, hB⟩ : ∃ B, w.heap.size = B := ⟨_, rfl⟩
  have HBB := Lib.hid hB
  obtain ⟨wa, hwa⟩ : ∃ wa, w.alloc (.cells #[.int .i64 kd, .int .i64 f, .string t, .slice AS nS cS, .slice AK nK cK] 26) = wa := ⟨_, rfl⟩
  have hsa : wa.heap.size = B + 1 := by rw [← hwa, ← hB]; simp
  obtain ⟨wb, hwb⟩ : ∃ wb, wa.alloc (.cells #[.int .i64 9] 72) = wb := ⟨_, rfl⟩
  have HWA := Lib.hid hwa
  have HWB := Lib.hid hwb
  have HBa : Hid (Below w.heap.size w wa) := Lib.hid (by rw [← hwa]; exact (Below.refl _ _).alloc (Nat.le_refl _) _)
  have HBb : Hid (Below w.heap.size w wb) := Lib.hid (by rw [← hwb]; exact HBa.out.alloc HBa.out.size _)
  have HKa : Hid (Whole wa B 26 #[.int .i64 kd, .int .i64 f, .string t, .slice AS nS cS, .slice AK nK cK]) := Lib.hid (by rw [← hwa, ← hB]; exact Whole.made w _ _)
  have HKb : Hid (Whole wb B 26 #[.int .i64 kd, .int .i64 f, .string t, .slice AS nS cS, .slice AK nK cK]) := Lib.hid (by rw [← hwb]; exact HKa.out.alloc _)
  have HGb : Hid (Whole wb (B + 1) 72 #[.int .i64 ((9 : Nat) : Int)]) := Lib.hid (by rw [← hwb, ← hsa]; exact Whole.made wa _ _)
  have HC := Lib.hid (impl_query_n w (B + 1) hSh hLs (by omega) (nodesT (.mk kd f t S ks)) _ _ wb 9 (Nat.le_refl _) h HBb.out HGb.out (by omega))
  have z0 := HKb.out.cell 0
  have z1 := HKb.out.cell 1
  have z2 := HKb.out.cell 2
  have z3 := HKb.out.cell 3
  have z4 := HKb.out.cell 4
  simp at z0 z1 z2 z3 z4
  clear h hwa hwb hSh hLs hB
  go_enter Tryd.func45, Tryd.ntmps45
  go_wp2_with fail
  rw [HWA.out, HBB.out, HWB.out]
  refine HC.out.mono ?_
  rintro e w2 ⟨q, o, m', rfl, ho, hm', hW, hG, hY⟩
  have HO := Lib.hid ho
  have HY := Lib.hid hY
  have HB2 := Lib.hid (below_gr HBb.out hG HBb.out.size (by rw [HBB.out]; omega))
  clear ho hW hG hY
  go_wp2
  go_ret2
  exact ⟨q, o, rfl, HO.out, fun e => (HY.out e).2, HB2.out⟩
set_option maxRecDepth 20000 in
set_option maxHeartbeats 4000000 in
theorem impl_key {k : KT} {v : Value} {o : Bool} (ho : keyB k = o) (w : World) (hSh : Shp w) (hLs : Lst w) (h : KV w k v) : Calls Tryd.prog 25 #[v] w fun e w' => e = .returned (.bool o) ∧ Below w.heap.size w w' := by
  obtain ⟨kd, f, t, S, ks⟩ := k
  obtain ⟨AS, nS, cS, AK, nK, cK, rfl, -⟩ := h.open
  have HO := Lib.hid ho
  obtain ⟨B, hB⟩ : ∃ B, w.heap.size = B := ⟨_, rfl⟩
  have HBB := Lib.hid hB
  obtain ⟨wa, hwa⟩ : ∃ wa, w.alloc (.cells #[.int .i64 kd, .int .i64 f, .string t, .slice AS nS cS, .slice AK nK cK] 26) = wa := ⟨_, rfl⟩
  have HWA := Lib.hid hwa
  have HBa : Hid (Below w.heap.size w wa) := Lib.hid (by rw [← hwa]; exact (Below.refl _ _).alloc (Nat.le_refl _) _)
  have HKa : Hid (Whole wa B 26 #[.int .i64 kd, .int .i64 f, .string t, .slice AS nS cS, .slice AK nK cK]) := Lib.hid (by rw [← hwa, ← hB]; exact Whole.made w _ _)
  have HC := Lib.hid (impl_keyquery wa (hSh.below HBa.out (Nat.le_refl _)) (hLs.below HBa.out (Nat.le_refl _)) (KV.below HBa.out (Nat.le_refl _) _ _ h))
  have z0 := HKa.out.cell 0
  have z1 := HKa.out.cell 1
  have z2 := HKa.out.cell 2
  have z3 := HKa.out.cell 3
  have z4 := HKa.out.cell 4
  simp at z0 z1 z2 z3 z4
  clear h hwa hSh hLs hB ho
  go_enter Tryd.func25, Tryd.ntmps25
  go_wp2_with fail
  rw [HWA.out]
  refine HC.out.mono ?_
  rintro e w2 ⟨q, o2, rfl, ho2, -, hb2⟩
  obtain rfl : o2 = o := ho2.symm.trans HO.out
  have HB2 := Lib.hid (HBa.out.trans (hb2.mono HBa.out.size))
  clear hb2 ho2
  go_wp2
  go_ret
  exact ⟨rfl, HB2.out⟩
set_option maxHeartbeats 1000000 in
theorem laws_nodes_n : ∀ (n : Nat) (k : KT) (v : Value) (w : World), nodesT k ≤ n → n ≤ 4000000 → KV w k v →
    Calls Tryd.prog 27 #[v] w fun e w' => e = .returned (.int .i64 (nodesT k : Int)) ∧ Below w.heap.size w w'
  | 0, k, v, w, hn, _, _ => by have := nodesT_pos k; omega
  | n + 1, .mk kd f t S ks, v, w, hn, hm, h => by
    have ih := fun (k' : KT) (v' : Value) (w1 : World) (h1 : nodesT k' ≤ n) (h2 : KV w1 k' v') => laws_nodes_n n k' v' w1 h1 (by omega) h2
    obtain ⟨AS, nS, cS, AK, nK, cK, rfl, h2, h3, h4, h5, h6, h7⟩ := h.open
    have hT : nodesT (.mk kd f t S ks) = nodesL ks + 1 := by rw [nodesT]
    rw [hT] at hn ⊢
    have hln := nodesL_len ks
    have HKS := Lib.hid h7
    have HN6 := Lib.hid h6
    have hnK : nK ≤ 4000000 := by omega
    obtain ⟨B, hB⟩ : ∃ B, w.heap.size = B := ⟨_, rfl⟩
    have HBB := Lib.hid hB
    have HW0 := Lib.hid (hB ▸ Whole.made w 26 #[.int .i64 kd, .int .i64 f, .string t, .slice AS nS cS, .slice AK nK cK])
    have HB0 : Hid (Below B w (w.alloc (.cells #[.int .i64 kd, .int .i64 f, .string t, .slice AS nS cS, .slice AK nK cK] 26))) := (Below.refl _ _).alloc (Nat.le_of_eq hB.symm) _
    obtain ⟨m, hmm⟩ : ∃ m, nodesL ks + 1 = m := ⟨_, rfl⟩
    have HMM := Lib.hid hmm
    have HIH := Lib.hid ih
    have hm2 : m ≤ 4000000 := by omega
    have hmn : m ≤ n + 1 := by omega
    rw [hmm]
    clear h h2 h3 h4 h5 h6 h7 hT hn hln hm hmm ih
    have z4 := HW0.out.cell 4
    simp at z4
    go_enter Tryd.func27, Tryd.ntmps27
    go_wp2
    clear z4
    go_loopw [3, 4] (fun nv iv wr => ∃ (i s : Nat), i ≤ nK ∧ s ≤ m ∧ nv = .int .i64 (s : Int) ∧ iv = .int .i64 (i : Int) ∧ Hid (nodesL (ks.take i) + 1 = s) ∧ Hid (Below B w wr) ∧ Hid (Whole wr B 26 #[.int .i64 kd, .int .i64 f, .string t, .slice AS nS cS, .slice AK nK cK])) (fun _ iv _ => nK - (intOf iv).toNat)
    case atStart => exact ⟨0, 1, Nat.zero_le _, by have := HMM.out; omega, by go_num, by go_num, rfl, HB0, HW0⟩
    case round =>
      obtain ⟨i, s, hi, hsm, rfl, rfl, HS, HB, HW⟩ := hrel
      have z4 := HW.out.cell 4
      simp at z4
      by_cases hlt : i < nK
      · have h0 : (0 : Int) ≤ (i : Int) := by omega
        have h5 : (i : Int) < (nK : Int) := by omega
        obtain ⟨k, hk⟩ : ∃ k, ks[i]? = some k := ⟨_, List.getElem?_eq_getElem (by rw [HN6.out]; exact hlt)⟩
        obtain ⟨b, o, v0, v1, v2, v3, v4, rfl, hbz, c0, c1, c2, c3, c4, hkv⟩ := (KVs.below HB.out (Nat.le_of_eq HBB.out) AK 0 ks HKS.out).get hk
        rw [Nat.zero_add] at c0 c1 c2 c3 c4
        have hnl := nodesL_lt hk
        have hnt := nodesL_take hk
        obtain ⟨q, hq⟩ : ∃ q, nodesT k = q := ⟨_, rfl⟩
        have hqp := nodesT_pos k
        rw [hq] at hnl hnt hqp
        have hs1 := HS.out
        have hmo := HMM.out
        obtain ⟨s2, hs2⟩ : ∃ y, s + q = y := ⟨_, rfl⟩
        have hs2m : s2 ≤ m := by omega
        have E1 : (s : Int) + (q : Int) = (s2 : Int) := by omega
        have W1 : IntKind.i64.wrap ((s : Int) + (q : Int)) = (s2 : Int) := (IntWalk.i64_in _ (by omega)).trans E1
        have HS2 : Hid (nodesL (ks.take (i + 1)) + 1 = s2) := by show _ = _; omega
        have HC := Lib.hid (HIH.out k (.agg #[v0, v1, v2, v3, v4]) wr (by omega) hkv)
        rw [hq] at HC
        have HSZ := Lib.hid HB.out.size
        clear hk hkv hnl hnt hq hqp hs1 hmo hs2
        go_wp2_with fail
        refine HC.out.mono ?_
        rintro e w2 ⟨rfl, hb⟩
        have HB2 := Lib.hid (HB.out.trans (hb.mono (HBB.out ▸ HSZ.out)))
        have HW2 := Lib.hid (HW.out.below hb HW.out.lt)
        clear hb
        go_wp2
        go_roundw
        case rel => exact ⟨i + 1, s2, by omega, hs2m, rfl, by go_num, HS2, HB2, HW2⟩
        case measure => simp [intOf]; omega
      · have h5 : ¬ (i : Int) < (nK : Int) := by omega
        have hsm2 : s = m := by
          have h1 := HS.out
          rw [List.take_of_length_le (by rw [HN6.out]; omega)] at h1
          rw [← h1, HMM.out]
        subst hsm2
        go_wp2
        go_ret
        exact ⟨rfl, HBB.out ▸ HB.out⟩
end Go.Proofs.YtpihibconbejlaaDoor
