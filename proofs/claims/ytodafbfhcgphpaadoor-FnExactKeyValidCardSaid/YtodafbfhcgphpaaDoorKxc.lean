/-
  Copies of a key argument: toKeyS, toKey; comparisons of a key with itself: eqKeyS, eqKey. Condition: the key lies in memory.
-/
import Derived.Test.YtodafbfhcgphpaaDoorKxb
import Derived.Test.YtodafbfhcgphpaaDoorKxs
import Derived.Test.YtodafbfhcgphpaaDoorKc
import Derived.Test.YtodafbfhcgphpaaDoorTim
import Derived.Deep.Cut
import Derived.Deep.CutRange
import Derived.BigQuiet
namespace Go.Proofs.YtodafbfhcgphpaaDoor
open Go.RowKit
set_option linter.unusedVariables false

mutual
/-- A key that is not too large reads as the contracts want it. -/
theorem kv_of {w : World} : ∀ (k : KT) (v : Value), KZ w k v → szT k ≤ 1048576 → KV w k v
  | .mk kd f t S ks, v, h, hs => by
    rw [KZ] at h
    rw [KV]
    rw [szT] at hs
    obtain ⟨AS, nS, cS, AK, nK, cK, h1, h2, h3, h4, h5, h6, h7, h8⟩ := h
    exact ⟨AS, nS, cS, AK, nK, cK, h1, h2, by omega, by omega, h5, h6, kvs_of ks 0 h8 (by omega)⟩
theorem kvs_of {w : World} {AK : Option Addr} : ∀ (ks : List KT) (i : Nat), KZs w AK i ks → szL ks ≤ 1048576 → KVs w AK i ks
  | [], i, h, _ => by rw [KVs]; trivial
  | k :: r, i, h, hs => by
    rw [KZs] at h
    rw [KVs]
    rw [szL] at hs
    obtain ⟨⟨b, o, v0, v1, v2, v3, v4, h1, h2, c0, c1, c2, c3, c4, h3⟩, h4⟩ := h
    exact ⟨⟨b, o, v0, v1, v2, v3, v4, h1, h2, c0, c1, c2, c3, c4, kv_of k _ h3 (by omega)⟩, kvs_of r (i + 1) h4 (by omega)⟩
end
mutual
theorem nodes_sz : ∀ k : KT, nodesT k ≤ szT k + 1
  | .mk kd f t S ks => by
    have := nodes_szL ks
    rw [nodesT, szT]
    omega
theorem nodes_szL : ∀ ks : List KT, nodesL ks ≤ szL ks + ks.length
  | [] => by rw [nodesL]; omega
  | k :: r => by
    have h1 := nodes_sz k
    have h2 := nodes_szL r
    rw [nodesL, szL, List.length_cons]
    omega
end
theorem szT_get : ∀ {ks : List KT} {i : Nat} {k : KT}, ks[i]? = some k → szT k ≤ szL ks
  | [], i, k, h => by simp at h
  | x :: r, 0, k, h => by cases h; rw [szL]; omega
  | x :: r, i + 1, k, h => by have := szT_get (ks := r) h; rw [szL]; omega
/-- What is in a key's row of nought. -/
def zR : KR := (0, 0, ⟨#[]⟩, (none, 0, 0), (none, 0, 0))
theorem gr_belowK {w w' : World} {row : Option Nat} (h : Below w.heap.size w w') : w.grownBy w' row := ⟨h.os, h.tape, h.output, h.size, fun b hb _ => h.block b hb⟩
theorem put_key {w : World} {B g n cap k : Nat} {L : List KR} {y : KR} (h : ROwn keyR w B (.slice (some ⟨g, 0, none⟩) n cap) L) (hy : L[k]? = some y) (x : KR) :
    ROwn keyR (((((w.setCell ⟨g, k * 5, none⟩ (.int .i64 x.1)).setCell ⟨g, k * 5 + 1, none⟩ (.int .i64 x.2.1)).setCell ⟨g, k * 5 + 2, none⟩ (.string x.2.2.1)).setCell ⟨g, k * 5 + 3, none⟩ (.slice x.2.2.2.1.1 x.2.2.2.1.2.1 x.2.2.2.1.2.2)).setCell ⟨g, k * 5 + 4, none⟩ (.slice x.2.2.2.2.1 x.2.2.2.2.2.1 x.2.2.2.2.2.2)) B (.slice (some ⟨g, 0, none⟩) n cap) (L.set k x) := by
  have hk : k < L.length := (List.getElem?_eq_some_iff.1 hy).1
  obtain ⟨y0, y1, y2, y3, y4⟩ := y
  obtain ⟨x0, x1, x2, x3, x4⟩ := x
  have h1 := (h.stored (y := (x0, y1, y2, y3, y4)) (j := 0) (u := .int .i64 x0) hy (by decide) rfl).1
  have h2 := (h1.stored (x := (x0, y1, y2, y3, y4)) (y := (x0, x1, y2, y3, y4)) (j := 1) (u := .int .i64 x1) (by rw [List.getElem?_set_self hk]) (by decide) rfl).1
  rw [List.set_set] at h2
  have h3 := (h2.stored (x := (x0, x1, y2, y3, y4)) (y := (x0, x1, x2, y3, y4)) (j := 2) (u := .string x2) (by rw [List.getElem?_set_self hk]) (by decide) rfl).1
  rw [List.set_set] at h3
  have h4 := (h3.stored (x := (x0, x1, x2, y3, y4)) (y := (x0, x1, x2, x3, y4)) (j := 3) (u := .slice x3.1 x3.2.1 x3.2.2) (by rw [List.getElem?_set_self hk]) (by decide) rfl).1
  rw [List.set_set] at h4
  have h5 := (h4.stored (x := (x0, x1, x2, x3, y4)) (y := (x0, x1, x2, x3, x4)) (j := 4) (u := .slice x4.1 x4.2.1 x4.2.2) (by rw [List.getElem?_set_self hk]) (by decide) rfl).1
  rw [List.set_set] at h5
  exact h5
theorem set_tailK {α : Type} {M : List α} {n k : Nat} {x z : α} (hm : M.length = k) (hk : k < n) : (M ++ List.replicate (n - k) z).set k x = (M ++ [x]) ++ List.replicate (n - (k + 1)) z := by
  obtain ⟨d, hd⟩ : ∃ d, n - k = d + 1 := ⟨n - k - 1, by omega⟩
  rw [hd, show n - (k + 1) = d by omega, List.replicate_succ, List.set_append_right k x (by omega), hm, Nat.sub_self, List.append_assoc]
  rfl
theorem takeK {α : Type} {L : List α} {k : Nat} {x : α} (h : L[k]? = some x) : L.take (k + 1) = L.take k ++ [x] := by rw [List.take_add_one, h]; rfl
/-- A key that was copied: its value, its memory in new blocks. -/
def ToK (w : World) (k : KT) (e : Ending) (w' : World) : Prop := ∃ r : KR, e = .returned (kval r) ∧ KA w.heap.size w'.heap.size w' k (kval r) ∧ Below w.heap.size w w'
set_option maxRecDepth 20000 in
set_option maxHeartbeats 8000000 in
theorem to_keys_step {n : Nat} (ih : ∀ (k : KT) (v : Value) (w1 : World), nodesT k ≤ n → szT k ≤ 1048576 → KV w1 k v → Calls Tryd.prog 13 #[v] w1 (ToK w1 k))
    {ks : List KT} (hks : ∀ k ∈ ks, nodesT k ≤ n) (hsz : ∀ k ∈ ks, szT k ≤ 1048576) {AK : Option Addr} {nK : Nat} (cK : Nat) (w : World) (h : KVs w AK 0 ks) (hn : ks.length = nK) (hm : nK ≤ 1048576) :
    Calls Tryd.prog 27 #[.slice AK nK cK] w fun e w' => ∃ g rs, e = .returned (.slice (some ⟨g, 0, none⟩) nK nK) ∧ ROwn keyR w' w.heap.size (.slice (some ⟨g, 0, none⟩) nK nK) rs ∧ KRs (KA w.heap.size w'.heap.size w') ks rs ∧ Below w.heap.size w w' := by
  obtain ⟨i0, hi, hq0, hq1, hq2⟩ := info_parts Tryd.infoKey
  have HIH := Lib.hid ih
  have HKS := Lib.hid h
  have HN := Lib.hid hn
  have HAL := Lib.hid hks
  have HSL := Lib.hid hsz
  clear ih h hn hks hsz
  have hb2 : i0.bytes * nK ≤ 281474976710656 := by rw [hq2]; omega
  have hb3 : nK ≤ maxLen := by unfold maxLen; omega
  go_enter Tryd.func27, Tryd.ntmps27
  go_wp2_with (at_make; refine wpList_make_full _ rfl _ _ 24 rfl w.heap.size 26 i0 (.agg #[.int .i64 0, .int .i64 0, .string ⟨#[]⟩, .slice none 0 0, .slice none 0 0]) 5 Tryd.underlying24 hi hq0 hq1 .i64 .i64 (nK : Int) (nK : Int) nK rfl rfl rfl rfl hb2 hb3 (Nat.le_refl _) ?_)
  intro w1 hown hgrow
  obtain ⟨N, hN⟩ : ∃ N, w.heap.size = N := ⟨_, rfl⟩
  have HNN := Lib.hid hN
  have HB1 : Hid (Below N w w1) := hN ▸ (Below.refl _ _).grown hgrow (Nat.le_refl _) (fun z hz => by cases hz)
  have ho1 : ROwn keyR w1 N (.slice (some ⟨N, 0, none⟩) nK nK) (List.replicate nK zR) := by
    unfold ROwn
    rw [List.length_replicate, ← made_rows keyR (.agg #[.int .i64 0, .int .i64 0, .string ⟨#[]⟩, .slice none 0 0, .slice none 0 0]) zR rfl (by decide), ← hN]
    exact hown
  have HO1 := Lib.hid ho1
  have hN1 : N + 1 ≤ w1.heap.size := by
    have := (World.ownsRow.lt ho1 N rfl).2
    omega
  rw [hN]
  clear hown hgrow ho1 hN
  go_wp2
  go_loopw [4] (fun i wr => ∃ (k : Nat) (rs : List KR), k ≤ nK ∧ i = .int .i64 (k : Int) ∧ N + 1 ≤ wr.heap.size ∧ Hid (rs.length = k) ∧ Hid (Below N w wr) ∧ Hid (KRs (KA (N + 1) wr.heap.size wr) (ks.take k) rs) ∧ Hid (ROwn keyR wr N (.slice (some ⟨N, 0, none⟩) nK nK) (rs ++ List.replicate (nK - k) zR))) (fun i _ => nK - (intOf i).toNat)
  case atStart => exact ⟨0, [], Nat.zero_le _, by go_num, hN1, rfl, HB1, rfl, by rw [List.nil_append, Nat.sub_zero]; exact HO1⟩
  case round =>
    obtain ⟨k, rs, hk, rfl, hNr, HL, HB, HK, HO⟩ := hrel
    by_cases hlt : k < nK
    · have h0 : (0 : Int) ≤ (k : Int) := by omega
      have h5 : (k : Int) < (nK : Int) := by omega
      obtain ⟨x, hx⟩ : ∃ x, ks[k]? = some x := ⟨_, List.getElem?_eq_getElem (by rw [HN.out]; exact hlt)⟩
      obtain ⟨b, o, v0, v1, v2, v3, v4, rfl, hbz, c0, c1, c2, c3, c4, hkv⟩ := (KVs.below HB.out (Nat.le_of_eq HNN.out) _ _ _ HKS.out).get hx
      rw [Nat.zero_add] at c0 c1 c2 c3 c4
      have HC := Lib.hid (HIH.out x _ wr (HAL.out x (List.mem_of_getElem? hx)) (HSL.out x (List.mem_of_getElem? hx)) hkv)
      have HTK := Lib.hid (takeK hx)
      clear hx hkv
      go_wp2_with fail
      refine HC.out.mono ?_
      rintro e w2 ⟨r, rfl, hka, hb⟩
      have HB2 := Lib.hid (HB.out.trans (hb.mono (Nat.le_trans (Nat.le_succ N) hNr)))
      have HO2 := Lib.hid (HO.out.kept hb)
      have hz2 := Nat.le_trans hNr hb.size
      have HK2 : Hid (KRs (KA (N + 1) w2.heap.size w2) (ks.take (k + 1)) (rs ++ [r])) := Lib.hid (by
        rw [HTK.out]
        exact KRs.push (KRs.imp (fun k' v' h' => (h'.grown (gr_belowK (row := none) hb) (fun g e => by cases e)).widen (Nat.le_refl _) hb.size) HK.out) (hka.widen hNr (Nat.le_refl _)))
      obtain ⟨y, hy⟩ : ∃ y, (rs ++ List.replicate (nK - k) zR)[k]? = some y := ⟨_, List.getElem?_eq_getElem (by rw [List.length_append, List.length_replicate, HL.out]; omega)⟩
      have d0 := HO2.out.cell hy (j := 0) rfl
      have d1 := HO2.out.cell hy (j := 1) rfl
      have d2 := HO2.out.cell hy (j := 2) rfl
      have d3 := HO2.out.cell hy (j := 3) rfl
      have d4 := HO2.out.cell hy (j := 4) rfl
      have f0 := HO2.out.free (k * 5)
      have f1 := HO2.out.free (k * 5 + 1)
      have f2 := HO2.out.free (k * 5 + 2)
      have f3 := HO2.out.free (k * 5 + 3)
      have f4 := HO2.out.free (k * 5 + 4)
      have hst := put_key HO2.out hy r
      obtain ⟨r0, r1, r2, ⟨r3, r4, r5⟩, ⟨r6, r7, r8⟩⟩ := r
      obtain ⟨ws, hws⟩ : ∃ z, (((((w2.setCell ⟨N, k * 5, none⟩ (.int .i64 r0)).setCell ⟨N, k * 5 + 1, none⟩ (.int .i64 r1)).setCell ⟨N, k * 5 + 2, none⟩ (.string r2)).setCell ⟨N, k * 5 + 3, none⟩ (.slice r3 r4 r5)).setCell ⟨N, k * 5 + 4, none⟩ (.slice r6 r7 r8)) = z := ⟨_, rfl⟩
      have hgs : w2.grownBy ws (some N) := by rw [← hws]; exact gr_one (gr_one (gr_one (gr_one (gr_one (gr_refl _ _) _ _) _ _) _ _) _ _) _ _
      have HST : Hid (ROwn keyR ws N (.slice (some ⟨N, 0, none⟩) nK nK) ((rs ++ [(r0, r1, r2, (r3, r4, r5), (r6, r7, r8))]) ++ List.replicate (nK - (k + 1)) zR)) := Lib.hid (by
        rw [← hws, ← set_tailK HL.out hlt]
        exact hst)
      have HBS : Hid (Below N w ws) := Lib.hid (HB2.out.grown hgs (by omega) (fun g e => by have := Option.some.inj e; omega))
      have HKS2 : Hid (KRs (KA (N + 1) ws.heap.size ws) (ks.take (k + 1)) (rs ++ [(r0, r1, r2, (r3, r4, r5), (r6, r7, r8))])) := Lib.hid (KRs.imp (fun k' v' h' => (h'.grown hgs (fun g e => by have := Option.some.inj e; omega)).widen (Nat.le_refl _) hgs.size) HK2.out)
      have HLS : Hid ((rs ++ [(r0, r1, r2, (r3, r4, r5), (r6, r7, r8))]).length = k + 1) := Lib.hid (by rw [List.length_append, HL.out]; rfl)
      have hzs : N + 1 ≤ ws.heap.size := Nat.le_trans hz2 hgs.size
      have HWS := Lib.hid hws
      simp only [keyR, Nat.add_zero] at d0 d1 d2 d3 d4
      clear hy hst hka hb hgs hws c0 c1 c2 c3 c4
      go_wp2
      try rw [HWS.out]
      go_roundw
      case rel => exact ⟨k + 1, _, by omega, by go_num, hzs, HLS, HBS, HKS2, HST⟩
      case measure => simp [intOf]; omega
    · have h5 : ¬ (k : Int) < (nK : Int) := by omega
      have hkn : k = nK := by omega
      have ho := HO.out
      have hkk := HK.out
      rw [hkn, Nat.sub_self, List.replicate_zero, List.append_nil] at ho
      rw [hkn, List.take_of_length_le (by rw [HN.out]; exact Nat.le_refl _)] at hkk
      have HOE := Lib.hid ho
      have HKE := Lib.hid (KRs.imp (fun k' v' h' => KA.widen h' (Nat.le_succ N) (Nat.le_refl _)) hkk)
      clear ho hkn hkk
      go_wp2
      go_ret
      exact ⟨N, rfl, rs, HNN.out ▸ HOE.out, HNN.out ▸ HKE.out, HNN.out ▸ HB.out⟩
set_option maxRecDepth 20000 in
set_option maxHeartbeats 4000000 in
theorem to_key_step {n : Nat} (ih : ∀ (k : KT) (v : Value) (w1 : World), nodesT k ≤ n → szT k ≤ 1048576 → KV w1 k v → Calls Tryd.prog 13 #[v] w1 (ToK w1 k))
    {kd f : Int} {t : ByteArray} {S : List (Int × Int)} {ks : List KT} {v : Value} (hks : ∀ k ∈ ks, nodesT k ≤ n) (hsz : szT (.mk kd f t S ks) ≤ 1048576) (w : World) (h : KV w (.mk kd f t S ks) v) :
    Calls Tryd.prog 13 #[v] w (ToK w (.mk kd f t S ks)) := by
  obtain ⟨AS, nS, cS, AK, nK, cK, rfl, h2, h3, h4, h5, h6, h7⟩ := h.open
  rw [szT] at hsz
  have hnS : nS ≤ 1048576 := by omega
  have hnK : nK ≤ 1048576 := by omega
  have hsk : ∀ k ∈ ks, szT k ≤ 1048576 := fun k hk => by
    obtain ⟨i, hi⟩ := List.mem_iff_getElem?.1 hk
    have := szT_get hi
    omega
  have HIH := Lib.hid ih
  have HKS := Lib.hid hks
  have HSK := Lib.hid hsk
  have HL := Lib.hid h2
  have HT := Lib.hid h4
  have HLK := Lib.hid h6
  obtain ⟨B, hB⟩ : ∃ B, w.heap.size = B := ⟨_, rfl⟩
  have HBB := Lib.hid hB
  obtain ⟨wq, hwq⟩ : ∃ wq, (((w.alloc (.cells #[.int .i64 kd, .int .i64 f, .string t, .slice AS nS cS, .slice AK nK cK] 36)).alloc (.cells #[.int .i64 0, .int .i64 0, .string ⟨#[]⟩, .slice none 0 0, .slice none 0 0] 26)).alloc (.cells #[.int .i64 kd, .int .i64 f, .string t, .slice none 0 0, .slice none 0 0] 26)) = wq := ⟨_, rfl⟩
  have HBA : Hid (Below B w wq) := Lib.hid (by rw [← hwq, ← hB]; exact (((Below.refl _ _).alloc (Nat.le_refl _) _).alloc (by simp) _).alloc (by simp; omega) _)
  have HW0 : Hid (Whole wq B 36 #[.int .i64 kd, .int .i64 f, .string t, .slice AS nS cS, .slice AK nK cK]) := Lib.hid (by
    rw [← hwq, ← hB]
    exact ((Whole.made w _ _).alloc _).alloc _)
  have HW1 : Hid (Whole wq (B + 1) 26 #[.int .i64 0, .int .i64 0, .string ⟨#[]⟩, .slice none 0 0, .slice none 0 0]) := Lib.hid (by
    rw [← hwq, ← hB]
    have h2 := Whole.made (w.alloc (.cells #[.int .i64 kd, .int .i64 f, .string t, .slice AS nS cS, .slice AK nK cK] 36)) 26 #[.int .i64 0, .int .i64 0, .string ⟨#[]⟩, .slice none 0 0, .slice none 0 0]
    rw [show (w.alloc (.cells #[.int .i64 kd, .int .i64 f, .string t, .slice AS nS cS, .slice AK nK cK] 36)).heap.size = w.heap.size + 1 by simp] at h2
    exact h2.alloc _)
  have HW2 : Hid (Whole wq (B + 1 + 1) 26 #[.int .i64 kd, .int .i64 f, .string t, .slice none 0 0, .slice none 0 0]) := Lib.hid (by
    rw [← hwq, ← hB]
    have h2 := Whole.made ((w.alloc (.cells #[.int .i64 kd, .int .i64 f, .string t, .slice AS nS cS, .slice AK nK cK] 36)).alloc (.cells #[.int .i64 0, .int .i64 0, .string ⟨#[]⟩, .slice none 0 0, .slice none 0 0] 26)) 26 #[.int .i64 kd, .int .i64 f, .string t, .slice none 0 0, .slice none 0 0]
    rw [show ((w.alloc (.cells #[.int .i64 kd, .int .i64 f, .string t, .slice AS nS cS, .slice AK nK cK] 36)).alloc (.cells #[.int .i64 0, .int .i64 0, .string ⟨#[]⟩, .slice none 0 0, .slice none 0 0] 26)).heap.size = w.heap.size + 1 + 1 by simp] at h2
    exact h2)
  have hzq : B + 1 + 1 < wq.heap.size := HW2.out.lt
  have HA := Lib.hid (h5.below HBA.out (Nat.le_of_eq hB))
  have HQ := Lib.hid h7
  clear h h2 h3 h4 h5 h6 h7 hsz hsk hks ih
  have c0 := HW0.out.cell 0
  have c1 := HW0.out.cell 1
  have c2 := HW0.out.cell 2
  have c3 := HW0.out.cell 3
  have c4 := HW0.out.cell 4
  simp at c0 c1 c2 c3 c4
  have HWQ := Lib.hid hwq
  go_enter Tryd.func13, Tryd.ntmps13
  go_wp2_with fail
  clear hwq
  refine (to_spans AS cS nS S wq HL.out HA.out hnS).mono ?_
  rintro e w2 ⟨g, rfl, hown, hb⟩
  have hgz : wq.heap.size ≤ g := (World.ownsRow.lt hown g rfl).1
  have HB2 := Lib.hid (HBA.out.trans (hb.mono (show B ≤ wq.heap.size by omega)))
  have HV0 := Lib.hid (HW0.out.below hb HW0.out.lt)
  have HV1 := Lib.hid (HW1.out.below hb HW1.out.lt)
  have HV2 := Lib.hid (HW2.out.below hb HW2.out.lt)
  have hz2 : wq.heap.size ≤ w2.heap.size := hb.size
  obtain ⟨w3, hw3⟩ : ∃ z, w2.setCell ⟨B + 1 + 1, 3, none⟩ (.slice (some ⟨g, 0, none⟩) nS nS) = z := ⟨_, rfl⟩
  have hg3 : w2.grownBy w3 (some (B + 1 + 1)) := by rw [← hw3]; exact gr_one (gr_refl _ _) _ _
  have HO3 : Hid (Own w3 wq.heap.size (.slice (some ⟨g, 0, none⟩) nS nS) S) := Lib.hid (World.ownsRow.kept hown hg3 (.inr (fun e => by have := Option.some.inj (show some g = some (B + 1 + 1) from e); omega)))
  have HU0 := Lib.hid (HV0.out.grown hg3 (fun e => by have := Option.some.inj e; omega))
  have HU1 := Lib.hid (HV1.out.grown hg3 (fun e => by have := Option.some.inj e; omega))
  have HU2 : Hid (Whole w3 (B + 1 + 1) 26 #[.int .i64 kd, .int .i64 f, .string t, .slice (some ⟨g, 0, none⟩) nS nS, .slice none 0 0]) := Lib.hid (by rw [← hw3]; exact HV2.out.store 3 _)
  have HB3 := Lib.hid (HB2.out.grown hg3 (by omega) (fun k e => by have := Option.some.inj e; omega))
  have HW3 := Lib.hid hw3
  have b3 := HV2.out.cell 3
  have e3 := HV2.out.free 3
  have hz3 : wq.heap.size ≤ w3.heap.size := Nat.le_trans hz2 hg3.size
  have q0 := HU0.out.cell 4
  simp at b3 q0
  clear hown hb hg3 c0 c1 c2 c3 c4
  go_wp2_with fail
  try rw [HW3.out]
  clear hw3
  refine (to_keys_step HIH.out HKS.out HSK.out cK w3 (KVs.below HB3.out (Nat.le_of_eq HBB.out) _ _ _ HQ.out) HLK.out hnK).mono ?_
  rintro e w4 ⟨g2, rs, rfl, hok, hkr, hb⟩
  have hg2 : w3.heap.size ≤ g2 := (World.ownsRow.lt hok g2 rfl).1
  have HO4 := Lib.hid (HO3.out.kept hb)
  have HB4 := Lib.hid (HB3.out.trans (hb.mono (show B ≤ w3.heap.size by omega)))
  have HX0 := Lib.hid (HU0.out.below hb HU0.out.lt)
  have HX1 := Lib.hid (HU1.out.below hb HU1.out.lt)
  have HX2 := Lib.hid (HU2.out.below hb HU2.out.lt)
  have hz4 : w3.heap.size ≤ w4.heap.size := hb.size
  obtain ⟨w5, hw5⟩ : ∃ z, w4.setCell ⟨B + 1 + 1, 4, none⟩ (.slice (some ⟨g2, 0, none⟩) nK nK) = z := ⟨_, rfl⟩
  have hg5 : w4.grownBy w5 (some (B + 1 + 1)) := by rw [← hw5]; exact gr_one (gr_refl _ _) _ _
  obtain ⟨w6, hw6⟩ : ∃ z, (((((w5.setCell ⟨B + 1, 0, none⟩ (.int .i64 kd)).setCell ⟨B + 1, 1, none⟩ (.int .i64 f)).setCell ⟨B + 1, 2, none⟩ (.string t)).setCell ⟨B + 1, 3, none⟩ (.slice (some ⟨g, 0, none⟩) nS nS)).setCell ⟨B + 1, 4, none⟩ (.slice (some ⟨g2, 0, none⟩) nK nK)) = z := ⟨_, rfl⟩
  have hg6 : w5.grownBy w6 (some (B + 1)) := by rw [← hw6]; exact gr_one (gr_one (gr_one (gr_one (gr_one (gr_refl _ _) _ _) _ _) _ _) _ _) _ _
  have HO6 : Hid (Own w6 wq.heap.size (.slice (some ⟨g, 0, none⟩) nS nS) S) := Lib.hid (World.ownsRow.kept (World.ownsRow.kept HO4.out hg5 (.inr (fun e => by have := Option.some.inj (show some g = some (B + 1 + 1) from e); omega))) hg6 (.inr (fun e => by have := Option.some.inj (show some g = some (B + 1) from e); omega)))
  have HR6 : Hid (ROwn keyR w6 w3.heap.size (.slice (some ⟨g2, 0, none⟩) nK nK) rs) := Lib.hid ((hok.apart hg5 (.inr (fun e => by have := Option.some.inj (show some g2 = some (B + 1 + 1) from e); omega))).apart hg6 (.inr (fun e => by have := Option.some.inj (show some g2 = some (B + 1) from e); omega)))
  have HK6 : Hid (KRs (KA B w6.heap.size w6) ks rs) := Lib.hid (KRs.imp (fun k' v' h' => ((h'.grown hg5 (fun g' e => by have := Option.some.inj e; omega)).grown hg6 (fun g' e => by have := Option.some.inj e; omega)).widen (by omega) (Nat.le_trans hg5.size hg6.size)) hkr)
  have HB6 := Lib.hid ((HB4.out.grown hg5 (by omega) (fun k e => by have := Option.some.inj e; omega)).grown hg6 (by have := hg5.size; omega) (fun k e => by have := Option.some.inj e; omega))
  have HY2 := Lib.hid (HX2.out.store 4 (.slice (some ⟨g2, 0, none⟩) nK nK))
  have HY1 := Lib.hid (HX1.out.grown hg5 (fun e => by have := Option.some.inj e; omega))
  rw [hw5] at HY2
  have x0 := HX2.out.cell 4
  have y0 := HX2.out.free 4
  have u0 := HY2.out.cell 0
  have u1 := HY2.out.cell 1
  have u2 := HY2.out.cell 2
  have u3 := HY2.out.cell 3
  have u4 := HY2.out.cell 4
  have j0 := HY1.out.cell 0
  have j1 := HY1.out.cell 1
  have j2 := HY1.out.cell 2
  have j3 := HY1.out.cell 3
  have j4 := HY1.out.cell 4
  have l0 := HY1.out.free 0
  have l1 := HY1.out.free 1
  have l2 := HY1.out.free 2
  have l3 := HY1.out.free 3
  have l4 := HY1.out.free 4
  simp at x0 u0 u1 u2 u3 u4 j0 j1 j2 j3 j4
  have HFIN : Hid (KA w.heap.size w6.heap.size w6 (.mk kd f t S ks) (kval (kd, f, t, (some ⟨g, 0, none⟩, nS, nS), (some ⟨g2, 0, none⟩, nK, nK)))) := Lib.hid (by
    rw [HBB.out]
    unfold KA
    rw [KV]
    exact ⟨_, _, _, _, _, _, rfl, HL.out, (show nS ≤ 33554432 by omega), HT.out, spa_own HO6.out (by omega), HLK.out, kvs_own HR6.out (by omega) HK6.out (Nat.le_refl _)⟩)
  have HB7 : Hid (Below w.heap.size w w6) := Lib.hid (by rw [HBB.out]; exact HB6.out)
  have HW5 := Lib.hid hw5
  have HW6 := Lib.hid hw6
  have hz1 := ((((HY1.out.store 0 (.int .i64 kd)).store 1 (.int .i64 f)).store 2 (.string t)).store 3 (.slice (some ⟨g, 0, none⟩) nS nS)).store 4 (.slice (some ⟨g2, 0, none⟩) nK nK)
  rw [hw6] at hz1
  have r0 := hz1.cell 0
  have r1 := hz1.cell 1
  have r2 := hz1.cell 2
  have r3 := hz1.cell 3
  have r4 := hz1.cell 4
  simp at r0 r1 r2 r3 r4
  clear hok hkr hb hg5 hg6 hw6 hz1 b3 e3 q0
  go_wp2
  try rw [HW6.out]
  refine bodyPost_ret (v := .agg #[.int .i64 kd, .int .i64 f, .string t, .slice (some ⟨g, 0, none⟩) nS nS, .slice (some ⟨g2, 0, none⟩) nK nK]) (by simp [results, Tryd.results13, go_sem, *]) rfl ?_
  exact ⟨(kd, f, t, (some ⟨g, 0, none⟩, nS, nS), (some ⟨g2, 0, none⟩, nK, nK)), rfl, HFIN.out, HB7.out⟩
theorem nodes_mem {ks : List KT} {n : Nat} (h : nodesL ks ≤ n) : ∀ k ∈ ks, nodesT k ≤ n := fun k hk => by
  obtain ⟨i, hi⟩ := List.mem_iff_getElem?.1 hk
  have := nodesL_lt hi
  omega
theorem to_key : ∀ (n : Nat) (k : KT) (v : Value) (w : World), nodesT k ≤ n → szT k ≤ 1048576 → KV w k v → Calls Tryd.prog 13 #[v] w (ToK w k)
  | 0, k, v, w, hn, _, _ => by have := nodesT_pos k; omega
  | n + 1, .mk kd f t S ks, v, w, hn, hs, h => by
    rw [nodesT] at hn
    exact to_key_step (n := n) (fun k' v' w1 h1 h2 h3 => to_key n k' v' w1 h1 h2 h3) (nodes_mem (by omega)) hs w h
set_option maxRecDepth 20000 in
set_option maxHeartbeats 8000000 in
theorem eq_keys_step {n : Nat} (ih : ∀ (k : KT) (v1 v2 : Value) (w1 : World), nodesT k ≤ n → KV w1 k v1 → KV w1 k v2 → Calls Tryd.prog 15 #[v1, v2] w1 fun e w' => e = .returned (.bool true) ∧ Below w1.heap.size w1 w')
    {ks : List KT} (hks : ∀ k ∈ ks, nodesT k ≤ n) {AK AL : Option Addr} {nK : Nat} (cK cL : Nat) (w : World) (h : KVs w AK 0 ks) (h2 : KVs w AL 0 ks) (hn : ks.length = nK) (hm : nK ≤ 33554432) :
    Calls Tryd.prog 29 #[.slice AK nK cK, .slice AL nK cL] w fun e w' => e = .returned (.bool true) ∧ Below w.heap.size w w' := by
  have HIH := Lib.hid ih
  have HKS := Lib.hid h
  have HLS := Lib.hid h2
  have HN := Lib.hid hn
  have HAL := Lib.hid hks
  have hnn : ((nK : Int) != (nK : Int)) = false := by simp
  clear ih h h2 hn hks
  go_enter Tryd.func29, Tryd.ntmps29
  go_wp2
  go_loopw [5] (fun i wr => ∃ k : Nat, k ≤ nK ∧ i = .int .i64 (k : Int) ∧ Hid (Below w.heap.size w wr)) (fun i _ => nK - (intOf i).toNat)
  case atStart => exact ⟨0, Nat.zero_le _, by go_num, Below.refl _ _⟩
  case round =>
    obtain ⟨k, hk, rfl, HB⟩ := hrel
    by_cases hlt : k < nK
    · have h0 : (0 : Int) ≤ (k : Int) := by omega
      have h5 : (k : Int) < (nK : Int) := by omega
      obtain ⟨x, hx⟩ : ∃ x, ks[k]? = some x := ⟨_, List.getElem?_eq_getElem (by rw [HN.out]; exact hlt)⟩
      have HBD : Hid (Below w.heap.size w wr.drew) := Lib.hid HB.out.drew
      obtain ⟨wd, hwd⟩ : ∃ z, wr.drew = z := ⟨_, rfl⟩
      rw [hwd] at HBD
      obtain ⟨b, o, v0, v1, v2, v3, v4, rfl, hbz, c0, c1, c2, c3, c4, hkv⟩ := (KVs.below HBD.out (Nat.le_refl _) _ _ _ HKS.out).get hx
      obtain ⟨b', o', u0, u1, u2, u3, u4, rfl, hbz', d0, d1, d2, d3, d4, hkv'⟩ := (KVs.below HBD.out (Nat.le_refl _) _ _ _ HLS.out).get hx
      rw [Nat.zero_add] at c0 c1 c2 c3 c4 d0 d1 d2 d3 d4
      have HC := Lib.hid (HIH.out x _ _ wd (HAL.out x (List.mem_of_getElem? hx)) hkv hkv')
      have HWD := Lib.hid hwd
      have HBZ := Lib.hid (And.intro hbz hbz')
      clear hx hkv hkv' hbz hbz' hwd
      go_upto_region 6 with fail
      refine wp_region_late (fun w' => w'.cell? ⟨b, o + k * 5, none⟩ = some v0 ∧ w'.cell? ⟨b, o + k * 5 + 1, none⟩ = some v1 ∧ w'.cell? ⟨b, o + k * 5 + 2, none⟩ = some v2 ∧ w'.cell? ⟨b, o + k * 5 + 3, none⟩ = some v3 ∧ w'.cell? ⟨b, o + k * 5 + 4, none⟩ = some v4 ∧ w'.cell? ⟨b', o' + k * 5, none⟩ = some u0 ∧ w'.cell? ⟨b', o' + k * 5 + 1, none⟩ = some u1 ∧ w'.cell? ⟨b', o' + k * 5 + 2, none⟩ = some u2 ∧ w'.cell? ⟨b', o' + k * 5 + 3, none⟩ = some u3 ∧ w'.cell? ⟨b', o' + k * 5 + 4, none⟩ = some u4) 9 (by kernel_rfl) ?_
      rw [HWD.out]
      refine wpLate_take (i := 0) (v := ?v0) rfl (by kernel_rfl) (by kernel_rfl) (by kernel_rfl) (by kernel_rfl) (by kernel_rfl) (fun _ _ _ h => h) ⟨c0, c1, c2, c3, c4, d0, d1, d2, d3, d4⟩ (by rfl) ?hy0 ?r0
      case hy0 =>
        rintro wz ⟨z0, z1, z2, z3, z4, z5, z6, z7, z8, z9⟩
        go_simp
        try with_reducible rfl
      try simp only [Act.put]
      refine wpLate_take (i := 1) (v := ?v1) rfl (by kernel_rfl) (by kernel_rfl) (by kernel_rfl) (by kernel_rfl) (by kernel_rfl) (fun _ _ _ h => h) ⟨c0, c1, c2, c3, c4, d0, d1, d2, d3, d4⟩ (by rfl) ?hy1 ?r1
      case hy1 =>
        rintro wz ⟨z0, z1, z2, z3, z4, z5, z6, z7, z8, z9⟩
        go_simp
        try with_reducible rfl
      try simp only [Act.put]
      refine wpLate_take (i := 2) (v := ?v2) rfl (by kernel_rfl) (by kernel_rfl) (by kernel_rfl) (by kernel_rfl) (by kernel_rfl) (fun _ _ _ h => h) ⟨c0, c1, c2, c3, c4, d0, d1, d2, d3, d4⟩ (by rfl) ?hy2 ?r2
      case hy2 =>
        rintro wz ⟨z0, z1, z2, z3, z4, z5, z6, z7, z8, z9⟩
        go_simp
        try with_reducible rfl
      try simp only [Act.put]
      refine wpLate_take (i := 3) (v := ?v3) rfl (by kernel_rfl) (by kernel_rfl) (by kernel_rfl) (by kernel_rfl) (by kernel_rfl) (fun _ _ _ h => h) ⟨c0, c1, c2, c3, c4, d0, d1, d2, d3, d4⟩ (by rfl) ?hy3 ?r3
      case hy3 =>
        rintro wz ⟨z0, z1, z2, z3, z4, z5, z6, z7, z8, z9⟩
        go_simp
        try with_reducible rfl
      try simp only [Act.put]
      refine wpLate_take (i := 4) (v := ?v4) rfl (by kernel_rfl) (by kernel_rfl) (by kernel_rfl) (by kernel_rfl) (by kernel_rfl) (fun _ _ _ h => h) ⟨c0, c1, c2, c3, c4, d0, d1, d2, d3, d4⟩ (by rfl) ?hy4 ?r4
      case hy4 =>
        rintro wz ⟨z0, z1, z2, z3, z4, z5, z6, z7, z8, z9⟩
        go_simp
        try with_reducible rfl
      try simp only [Act.put]
      refine wpLate_take (i := 5) (v := ?v5) rfl (by kernel_rfl) (by kernel_rfl) (by kernel_rfl) (by kernel_rfl) (by kernel_rfl) (fun _ _ _ h => h) ⟨c0, c1, c2, c3, c4, d0, d1, d2, d3, d4⟩ (by rfl) ?hy5 ?r5
      case hy5 =>
        rintro wz ⟨z0, z1, z2, z3, z4, z5, z6, z7, z8, z9⟩
        go_simp
        try with_reducible rfl
      try simp only [Act.put]
      refine wpLate_take (i := 6) (v := ?v6) rfl (by kernel_rfl) (by kernel_rfl) (by kernel_rfl) (by kernel_rfl) (by kernel_rfl) (fun _ _ _ h => h) ⟨c0, c1, c2, c3, c4, d0, d1, d2, d3, d4⟩ (by rfl) ?hy6 ?r6
      case hy6 =>
        rintro wz ⟨z0, z1, z2, z3, z4, z5, z6, z7, z8, z9⟩
        go_simp
        try with_reducible rfl
      try simp only [Act.put]
      refine wpLate_take (i := 7) (v := ?v7) rfl (by kernel_rfl) (by kernel_rfl) (by kernel_rfl) (by kernel_rfl) (by kernel_rfl) (fun _ _ _ h => h) ⟨c0, c1, c2, c3, c4, d0, d1, d2, d3, d4⟩ (by rfl) ?hy7 ?r7
      case hy7 =>
        rintro wz ⟨z0, z1, z2, z3, z4, z5, z6, z7, z8, z9⟩
        go_simp
        try with_reducible rfl
      try simp only [Act.put]
      refine wpLate_one (i := 8) (by kernel_rfl) rfl (fun K hK => ?_)
      go_simp
      refine HC.out.mono ?_
      rintro e w3 ⟨rfl, hb⟩
      refine hK.out _ _ (fun _ => ⟨(hb.cell (p := ⟨b, o + k * 5, none⟩) HBZ.out.1).trans c0, (hb.cell (p := ⟨b, o + k * 5 + 1, none⟩) HBZ.out.1).trans c1, (hb.cell (p := ⟨b, o + k * 5 + 2, none⟩) HBZ.out.1).trans c2, (hb.cell (p := ⟨b, o + k * 5 + 3, none⟩) HBZ.out.1).trans c3, (hb.cell (p := ⟨b, o + k * 5 + 4, none⟩) HBZ.out.1).trans c4, (hb.cell (p := ⟨b', o' + k * 5, none⟩) HBZ.out.2).trans d0, (hb.cell (p := ⟨b', o' + k * 5 + 1, none⟩) HBZ.out.2).trans d1, (hb.cell (p := ⟨b', o' + k * 5 + 2, none⟩) HBZ.out.2).trans d2, (hb.cell (p := ⟨b', o' + k * 5 + 3, none⟩) HBZ.out.2).trans d3, (hb.cell (p := ⟨b', o' + k * 5 + 4, none⟩) HBZ.out.2).trans d4⟩) ?_
      clear hK K
      try simp only [Act.put]
      refine wpLate_one (i := 9) (by kernel_rfl) rfl (fun K hK => ?_)
      go_simp
      refine hK.out _ _ (fun h => absurd rfl h) ?_
      clear hK K
      try simp only [Act.put]
      refine wpLate_done (by kernel_rfl) ?_ _
      have HBE := Lib.hid (HBD.out.trans (hb.mono HBD.out.size))
      clear hb c0 c1 c2 c3 c4 d0 d1 d2 d3 d4
      go_wp2
      go_roundw
      case rel => exact ⟨k + 1, by omega, by go_num, HBE⟩
      case measure => simp [intOf]; omega
    · have h5 : ¬ (k : Int) < (nK : Int) := by omega
      go_wp2
      go_ret
      exact ⟨rfl, HB.out⟩
set_option maxRecDepth 20000 in
set_option maxHeartbeats 4000000 in
theorem eq_key_step {n : Nat} (ih : ∀ (k : KT) (v1 v2 : Value) (w1 : World), nodesT k ≤ n → KV w1 k v1 → KV w1 k v2 → Calls Tryd.prog 15 #[v1, v2] w1 fun e w' => e = .returned (.bool true) ∧ Below w1.heap.size w1 w')
    {kd f : Int} {t : ByteArray} {S : List (Int × Int)} {ks : List KT} {v1 v2 : Value} (hks : ∀ k ∈ ks, nodesT k ≤ n) (hm : ks.length ≤ 33554432) (w : World) (h : KV w (.mk kd f t S ks) v1) (h2 : KV w (.mk kd f t S ks) v2) :
    Calls Tryd.prog 15 #[v1, v2] w fun e w' => e = .returned (.bool true) ∧ Below w.heap.size w w' := by
  obtain ⟨AS, nS, cS, AK, nK, cK, rfl, a2, a3, a4, a5, a6, a7⟩ := h.open
  obtain ⟨AT, nT, cT, AL, nL, cL, rfl, b2, b3, b4, b5, b6, b7⟩ := h2.open
  obtain rfl : nS = nT := a2.symm.trans b2
  obtain rfl : nK = nL := a6.symm.trans b6
  have hnK : nK ≤ 33554432 := by omega
  have hkd : (kd != kd) = false := by simp
  have hff : (f != f) = false := by simp
  have HIH := Lib.hid ih
  have HKS := Lib.hid hks
  have HL := Lib.hid a2
  have HLK := Lib.hid a6
  obtain ⟨B, hB⟩ : ∃ B, w.heap.size = B := ⟨_, rfl⟩
  obtain ⟨wq, hwq⟩ : ∃ wq, ((w.alloc (.cells #[.int .i64 kd, .int .i64 f, .string t, .slice AS nS cS, .slice AK nK cK] 26)).alloc (.cells #[.int .i64 kd, .int .i64 f, .string t, .slice AT nS cT, .slice AL nK cL] 26)) = wq := ⟨_, rfl⟩
  have e1 : (w.alloc (.cells #[.int .i64 kd, .int .i64 f, .string t, .slice AS nS cS, .slice AK nK cK] 26)).heap.size = B + 1 := by simp [hB]
  have HBA : Hid (Below w.heap.size w wq) := Lib.hid (by rw [← hwq]; exact ((Below.refl w.heap.size w).alloc (Nat.le_refl _) _).alloc (by simp) _)
  have HW0 : Hid (Whole wq B 26 #[.int .i64 kd, .int .i64 f, .string t, .slice AS nS cS, .slice AK nK cK]) := Lib.hid (by rw [← hwq, ← hB]; exact (Whole.made w _ _).alloc _)
  have HW1 : Hid (Whole wq (B + 1) 26 #[.int .i64 kd, .int .i64 f, .string t, .slice AT nS cT, .slice AL nK cL]) := Lib.hid (by rw [← hwq, ← e1]; exact Whole.made _ _ _)
  have HA := Lib.hid (a5.below HBA.out (Nat.le_refl _))
  have HA2 := Lib.hid (b5.below HBA.out (Nat.le_refl _))
  have HQ := Lib.hid (KVs.below HBA.out (Nat.le_refl _) _ _ _ a7)
  have HQ2 := Lib.hid (KVs.below HBA.out (Nat.le_refl _) _ _ _ b7)
  have HBB := Lib.hid hB
  have HWQ := Lib.hid hwq
  clear h h2 a2 a4 a5 a6 a7 b2 b3 b4 b5 b6 b7 hks ih e1 hB hwq
  have c0 := HW0.out.cell 0
  have c1 := HW0.out.cell 1
  have c2 := HW0.out.cell 2
  have c3 := HW0.out.cell 3
  have d0 := HW1.out.cell 0
  have d1 := HW1.out.cell 1
  have d2 := HW1.out.cell 2
  have d3 := HW1.out.cell 3
  simp only [List.getElem?_toArray, List.getElem?_cons_zero, List.getElem?_cons_succ] at c0 c1 c2 c3 d0 d1 d2 d3
  go_enter Tryd.func15, Tryd.ntmps15
  go_wp2_with fail
  rw [HBB.out, HWQ.out]
  go_wp2_with fail
  have HE := eq_spans AS AT cS cT S S wq HA.out HA2.out (by rw [HL.out]; exact a3) (by rw [HL.out]; exact a3)
  rw [decide_eq_true (rfl : S = S), HL.out] at HE
  refine HE.mono ?_
  rintro e w2 ⟨rfl, hb⟩
  have HB2 := Lib.hid (HBA.out.trans (hb.mono HBA.out.size))
  have HV0 := Lib.hid (HW0.out.below hb HW0.out.lt)
  have HV1 := Lib.hid (HW1.out.below hb HW1.out.lt)
  have HP := Lib.hid (KVs.below hb (Nat.le_refl _) _ _ _ HQ.out)
  have HP2 := Lib.hid (KVs.below hb (Nat.le_refl _) _ _ _ HQ2.out)
  clear hb c0 c1 c2 c3 d0 d1 d2 d3 HE
  have c4 := HV0.out.cell 4
  have d4 := HV1.out.cell 4
  simp only [List.getElem?_toArray, List.getElem?_cons_zero, List.getElem?_cons_succ] at c4 d4
  go_wp2_with fail
  refine (eq_keys_step HIH.out HKS.out cK cL w2 HP.out HP2.out HLK.out hnK).mono ?_
  rintro e w3 ⟨rfl, hb⟩
  have HB3 := Lib.hid (HB2.out.trans (hb.mono HB2.out.size))
  clear hb
  go_wp2
  go_ret
  exact ⟨rfl, HB3.out⟩
theorem eq_key : ∀ (n : Nat) (k : KT) (v1 v2 : Value) (w : World), nodesT k ≤ n → n ≤ 33554432 → KV w k v1 → KV w k v2 → Calls Tryd.prog 15 #[v1, v2] w fun e w' => e = .returned (.bool true) ∧ Below w.heap.size w w'
  | 0, k, v1, v2, w, hn, _, _, _ => by have := nodesT_pos k; omega
  | n + 1, .mk kd f t S ks, v1, v2, w, hn, hm, h, h2 => by
    rw [nodesT] at hn
    have hl := nodesL_len ks
    exact eq_key_step (n := n) (fun k' u1 u2 w1 h1 h3 h4 => eq_key n k' u1 u2 w1 h1 (by omega) h3 h4) (nodes_mem (by omega)) (by omega) w h h2
end Go.Proofs.YtodafbfhcgphpaaDoor
