/-
  Kss, Krf, Krg in one text. Conditions: each contract's own.
-/
import Derived.Test.YtnfigpknejmkmaaGreatDoorKmy
import Derived.BigQuiet
import Derived.Deep.Cut
namespace Go.Proofs.YtnfigpknejmkmaaGreatDoor
open Go.RowKit
set_option linter.unusedVariables false
set_option linter.unusedSimpArgs false

set_option maxHeartbeats 2000000 in
theorem same_spans (A A2 : Option Addr) (cap cap2 : Nat) (L M : List (Int × Int)) (w : World) (h : SpA w A L) (h2 : SpA w A2 M) (hl : L.length ≤ 33554432) (hl2 : M.length ≤ 33554432) :
    Calls Tryz.prog 36 #[.slice A L.length cap, .slice A2 M.length cap2] w (Tests w (decide (L = M))) := by
  have H := Lib.hid h
  have H2 := Lib.hid h2
  clear h h2
  by_cases hlen : L.length = M.length
  · have hlb : ((L.length : Int) != (M.length : Int)) = false := by rw [hlen]; simp
    obtain ⟨m, hm⟩ : ∃ m, L.length = m := ⟨_, rfl⟩
    have hm2 : M.length = m := by rw [← hlen, hm]
    have HM := Lib.hid hm
    have HM2 := Lib.hid hm2
    rw [hm, hm2] at hlb
    rw [hm] at hl
    rw [hm, hm2]
    clear hlen hl2 hm hm2
    go_enter Tryz.func36, Tryz.ntmps36
    go_wp2
    go_loopw [5] (fun i wr => ∃ k : Nat, k ≤ m ∧ i = .int .i64 (k : Int) ∧ Hid (L.take k = M.take k) ∧ Hid (Below w.heap.size w wr)) (fun i _ => m - (intOf i).toNat)
    case atStart => exact ⟨0, Nat.zero_le _, by go_num, rfl, Below.refl _ _⟩
    case round =>
      obtain ⟨k, hk, rfl, HT, HB⟩ := hrel
      by_cases hlt : k < m
      · have h0 : (0 : Int) ≤ (k : Int) := by omega
        have h5 : (k : Int) < (m : Int) := by omega
        obtain ⟨⟨x1, x2⟩, hx⟩ : ∃ x, L[k]? = some x := ⟨_, List.getElem?_eq_getElem (by rw [HM.out]; exact hlt)⟩
        obtain ⟨⟨y1, y2⟩, hy⟩ : ∃ x, M[k]? = some x := ⟨_, List.getElem?_eq_getElem (by rw [HM2.out]; exact hlt)⟩
        obtain ⟨b, o, rfl, hb, c1, c2⟩ := (H.out.below HB.out (Nat.le_refl _)) k _ hx
        obtain ⟨b', o', rfl, hb', d1, d2⟩ := (H2.out.below HB.out (Nat.le_refl _)) k _ hy
        have HX := Lib.hid hx
        have HY := Lib.hid hy
        clear hx hy
        by_cases e1 : x1 = y1
        · by_cases e2 : x2 = y2
          · subst e1
            subst e2
            go_wp2
            go_quiet (fail)
            go_wp2
            go_roundw
            case rel => exact ⟨k + 1, by omega, by go_num, take_same HT.out HX.out HY.out, below_drewN' HB.out _⟩
            case measure => simp [intOf]; omega
          · have hne : (x2 == y2) = false := beq_eq_false_iff_ne.2 e2
            have HNE : Hid (L ≠ M) := take_diff HX.out HY.out (by intro e; exact e2 (Prod.mk.inj e).2)
            subst e1
            clear e2
            go_wp2
            go_quiet (fail)
            go_wp2
            go_ret
            exact tests_mk (dec_no HNE.out) (below_drewN' HB.out _)
        · have hne : (x1 == y1) = false := beq_eq_false_iff_ne.2 e1
          have HNE : Hid (L ≠ M) := take_diff HX.out HY.out (by intro e; exact e1 (Prod.mk.inj e).1)
          clear e1
          go_wp2
          go_quiet (fail)
          go_wp2
          go_ret
          exact tests_mk (dec_no HNE.out) (below_drewN' HB.out _)
      · have h5 : ¬ (k : Int) < (m : Int) := by omega
        have HE : Hid (L = M) := by
          have h := HT.out
          rw [List.take_of_length_le (by rw [HM.out]; omega), List.take_of_length_le (by rw [HM2.out]; omega)] at h
          exact h
        go_wp2
        go_ret
        exact tests_mk (dec_yes HE.out) HB.out
  · have hlb : ((L.length : Int) != (M.length : Int)) = true := by simp; omega
    have HNE := Lib.hid (len_diff hlen)
    clear hlen
    go_enter Tryz.func36, Tryz.ntmps36
    go_wp2
    go_ret
    exact tests_mk (dec_no HNE.out) (Below.refl _ _)
set_option maxRecDepth 20000 in
set_option maxHeartbeats 8000000 in
theorem same_key_step {n : Nat} (ih : ∀ (k : KT) (v1 v2 : Value) (w1 : World), nodesT k ≤ n → KV w1 k v1 → KV w1 k v2 → Calls Tryz.prog 10 #[v1, v2] w1 fun e w' => e = .returned (.bool true) ∧ Below w1.heap.size w1 w')
    {kd f : Int} {t : ByteArray} {S : List (Int × Int)} {ks : List KT} {v1 v2 : Value} (hks : ∀ k ∈ ks, nodesT k ≤ n) (hm : ks.length ≤ 33554432) (w : World) (h : KV w (.mk kd f t S ks) v1) (h2 : KV w (.mk kd f t S ks) v2) :
    Calls Tryz.prog 10 #[v1, v2] w fun e w' => e = .returned (.bool true) ∧ Below w.heap.size w w' := by
  obtain ⟨AS, nS, cS, AK, nK, cK, rfl, a2, a3, a4, a5, a6, a7⟩ := h.open
  obtain ⟨AT, nT, cT, AL, nL, cL, rfl, b2, b3, b4, b5, b6, b7⟩ := h2.open
  obtain rfl : nS = nT := a2.symm.trans b2
  obtain rfl : nK = nL := a6.symm.trans b6
  have hnK : nK ≤ 33554432 := by omega
  have hkd : (kd != kd) = false := by simp
  have hff : (f != f) = false := by simp
  have HIH := Lib.hid ih
  have HKS := Lib.hid hks
  have HL := Lib.hid a2
  have HLK := Lib.hid a6
  obtain ⟨B, hB⟩ : ∃ B, w.heap.size = B := ⟨_, rfl⟩
  obtain ⟨wq, hwq⟩ : ∃ wq, ((w.alloc (.cells #[.int .i64 kd, .int .i64 f, .string t, .slice AS nS cS, .slice AK nK cK] 27)).alloc (.cells #[.int .i64 kd, .int .i64 f, .string t, .slice AT nS cT, .slice AL nK cL] 27)) = wq := ⟨_, rfl⟩
  have e1 : (w.alloc (.cells #[.int .i64 kd, .int .i64 f, .string t, .slice AS nS cS, .slice AK nK cK] 27)).heap.size = B + 1 := by simp [hB]
  have HBA : Hid (Below w.heap.size w wq) := Lib.hid (by rw [← hwq]; exact ((Below.refl w.heap.size w).alloc (Nat.le_refl _) _).alloc (by simp) _)
  have HW0 : Hid (Whole wq B 27 #[.int .i64 kd, .int .i64 f, .string t, .slice AS nS cS, .slice AK nK cK]) := Lib.hid (by rw [← hwq, ← hB]; exact (Whole.made w _ _).alloc _)
  have HW1 : Hid (Whole wq (B + 1) 27 #[.int .i64 kd, .int .i64 f, .string t, .slice AT nS cT, .slice AL nK cL]) := Lib.hid (by rw [← hwq, ← e1]; exact Whole.made _ _ _)
  have HA := Lib.hid (a5.below HBA.out (Nat.le_refl _))
  have HA2 := Lib.hid (b5.below HBA.out (Nat.le_refl _))
  have HQ := Lib.hid (KVs.below HBA.out (Nat.le_refl _) _ _ _ a7)
  have HQ2 := Lib.hid (KVs.below HBA.out (Nat.le_refl _) _ _ _ b7)
  have HBB := Lib.hid hB
  have HWQ := Lib.hid hwq
  clear h h2 a2 a4 a5 a6 a7 b2 b3 b4 b5 b6 b7 hks ih e1 hB hwq
  have c0 := HW0.out.cell 0
  have c1 := HW0.out.cell 1
  have c2 := HW0.out.cell 2
  have c3 := HW0.out.cell 3
  have d0 := HW1.out.cell 0
  have d1 := HW1.out.cell 1
  have d2 := HW1.out.cell 2
  have d3 := HW1.out.cell 3
  simp only [List.getElem?_toArray, List.getElem?_cons_zero, List.getElem?_cons_succ] at c0 c1 c2 c3 d0 d1 d2 d3
  go_enter Tryz.func10, Tryz.ntmps10
  go_wp2_with fail
  rw [HBB.out, HWQ.out]
  go_wp2_with fail
  have HE := same_spans AS AT cS cT S S wq HA.out HA2.out (by rw [HL.out]; exact a3) (by rw [HL.out]; exact a3)
  rw [decide_eq_true (rfl : S = S), HL.out] at HE
  refine HE.mono ?_
  rintro e w2 ⟨rfl, hb⟩
  have HB2 := Lib.hid (HBA.out.trans (hb.mono HBA.out.size))
  have HV0 := Lib.hid (HW0.out.below hb HW0.out.lt)
  have HV1 := Lib.hid (HW1.out.below hb HW1.out.lt)
  have HP := Lib.hid (KVs.below hb (Nat.le_refl _) _ _ _ HQ.out)
  have HP2 := Lib.hid (KVs.below hb (Nat.le_refl _) _ _ _ HQ2.out)
  clear hb c0 c1 c2 c3 d0 d1 d2 d3 HE
  have c4 := HV0.out.cell 4
  have d4 := HV1.out.cell 4
  simp only [List.getElem?_toArray, List.getElem?_cons_zero, List.getElem?_cons_succ] at c4 d4
  have hnn : ((nK : Int) != (nK : Int)) = false := by simp
  go_wp2
  clear c4 d4
  go_loopw [5] (fun i wr => ∃ k : Nat, k ≤ nK ∧ i = .int .i64 (k : Int) ∧ Hid (Below w2.heap.size w2 wr)) (fun i _ => nK - (intOf i).toNat)
  case atStart => exact ⟨0, Nat.zero_le _, by go_num, Below.refl _ _⟩
  case round =>
    obtain ⟨k, hk, rfl, HB⟩ := hrel
    have HU0 := Lib.hid (HV0.out.below HB.out HV0.out.lt)
    have y4 := HU0.out.cell 4
    simp only [List.getElem?_toArray, List.getElem?_cons_zero, List.getElem?_cons_succ] at y4
    by_cases hlt : k < nK
    · have h0 : (0 : Int) ≤ (k : Int) := by omega
      have h5 : (k : Int) < (nK : Int) := by omega
      obtain ⟨x, hx⟩ : ∃ x, ks[k]? = some x := ⟨_, List.getElem?_eq_getElem (by rw [HLK.out]; exact hlt)⟩
      have HBD : Hid (Below w2.heap.size w2 wr.drew) := Lib.hid HB.out.drew
      obtain ⟨wd, hwd⟩ : ∃ z, wr.drew = z := ⟨_, rfl⟩
      rw [hwd] at HBD
      have HT0 := Lib.hid (HV0.out.below HBD.out HV0.out.lt)
      have HT1 := Lib.hid (HV1.out.below HBD.out HV1.out.lt)
      have g4 := HT0.out.cell 4
      have p4 := HT1.out.cell 4
      simp only [List.getElem?_toArray, List.getElem?_cons_zero, List.getElem?_cons_succ] at g4 p4
      obtain ⟨b, o, v0, v1, v2, v3, v4, rfl, hbz, c0, c1, c2, c3, c4, hkv⟩ := (KVs.below HBD.out (Nat.le_refl _) _ _ _ HP.out).get hx
      obtain ⟨b', o', u0, u1, u2, u3, u4, rfl, hbz', d0, d1, d2, d3, d4, hkv'⟩ := (KVs.below HBD.out (Nat.le_refl _) _ _ _ HP2.out).get hx
      rw [Nat.zero_add] at c0 c1 c2 c3 c4 d0 d1 d2 d3 d4
      have HC := Lib.hid (HIH.out x _ _ wd (HKS.out x (List.mem_of_getElem? hx)) hkv hkv')
      have HWD := Lib.hid hwd
      have HBZ := Lib.hid (And.intro hbz hbz')
      clear hx hkv hkv' hbz hbz' hwd
      go_upto_region 6 with fail
      refine wp_region_late (fun w' => w'.cell? ⟨b, o + k * 5, none⟩ = some v0 ∧ w'.cell? ⟨b, o + k * 5 + 1, none⟩ = some v1 ∧ w'.cell? ⟨b, o + k * 5 + 2, none⟩ = some v2 ∧ w'.cell? ⟨b, o + k * 5 + 3, none⟩ = some v3 ∧ w'.cell? ⟨b, o + k * 5 + 4, none⟩ = some v4 ∧ w'.cell? ⟨b', o' + k * 5, none⟩ = some u0 ∧ w'.cell? ⟨b', o' + k * 5 + 1, none⟩ = some u1 ∧ w'.cell? ⟨b', o' + k * 5 + 2, none⟩ = some u2 ∧ w'.cell? ⟨b', o' + k * 5 + 3, none⟩ = some u3 ∧ w'.cell? ⟨b', o' + k * 5 + 4, none⟩ = some u4 ∧ w'.cell? ⟨B, 4, none⟩ = some (.slice (some ⟨b, o, none⟩) nK cK) ∧ w'.cell? ⟨B + 1, 4, none⟩ = some (.slice (some ⟨b', o', none⟩) nK cL)) 11 (by kernel_rfl) ?_
      rw [HWD.out]
      refine wpLate_take (i := 0) (v := ?v0) rfl (by kernel_rfl) (by kernel_rfl) (by kernel_rfl) (by kernel_rfl) (by kernel_rfl) (fun _ _ _ h => h) ⟨c0, c1, c2, c3, c4, d0, d1, d2, d3, d4, g4, p4⟩ (by rfl) ?hy0 ?r0
      case hy0 =>
        rintro wz ⟨z0, z1, z2, z3, z4, z5, z6, z7, z8, z9, z10, z11⟩
        go_simp
        try with_reducible rfl
      try simp only [Act.put]
      refine wpLate_take (i := 1) (v := ?v1) rfl (by kernel_rfl) (by kernel_rfl) (by kernel_rfl) (by kernel_rfl) (by kernel_rfl) (fun _ _ _ h => h) ⟨c0, c1, c2, c3, c4, d0, d1, d2, d3, d4, g4, p4⟩ (by rfl) ?hy1 ?r1
      case hy1 =>
        rintro wz ⟨z0, z1, z2, z3, z4, z5, z6, z7, z8, z9, z10, z11⟩
        go_simp
        try with_reducible rfl
      try simp only [Act.put]
      refine wpLate_take (i := 2) (v := ?v2) rfl (by kernel_rfl) (by kernel_rfl) (by kernel_rfl) (by kernel_rfl) (by kernel_rfl) (fun _ _ _ h => h) ⟨c0, c1, c2, c3, c4, d0, d1, d2, d3, d4, g4, p4⟩ (by rfl) ?hy2 ?r2
      case hy2 =>
        rintro wz ⟨z0, z1, z2, z3, z4, z5, z6, z7, z8, z9, z10, z11⟩
        go_simp
        try with_reducible rfl
      try simp only [Act.put]
      refine wpLate_take (i := 3) (v := ?v3) rfl (by kernel_rfl) (by kernel_rfl) (by kernel_rfl) (by kernel_rfl) (by kernel_rfl) (fun _ _ _ h => h) ⟨c0, c1, c2, c3, c4, d0, d1, d2, d3, d4, g4, p4⟩ (by rfl) ?hy3 ?r3
      case hy3 =>
        rintro wz ⟨z0, z1, z2, z3, z4, z5, z6, z7, z8, z9, z10, z11⟩
        go_simp
        try with_reducible rfl
      try simp only [Act.put]
      refine wpLate_take (i := 4) (v := ?v4) rfl (by kernel_rfl) (by kernel_rfl) (by kernel_rfl) (by kernel_rfl) (by kernel_rfl) (fun _ _ _ h => h) ⟨c0, c1, c2, c3, c4, d0, d1, d2, d3, d4, g4, p4⟩ (by rfl) ?hy4 ?r4
      case hy4 =>
        rintro wz ⟨z0, z1, z2, z3, z4, z5, z6, z7, z8, z9, z10, z11⟩
        go_simp
        try with_reducible rfl
      try simp only [Act.put]
      refine wpLate_take (i := 5) (v := ?v5) rfl (by kernel_rfl) (by kernel_rfl) (by kernel_rfl) (by kernel_rfl) (by kernel_rfl) (fun _ _ _ h => h) ⟨c0, c1, c2, c3, c4, d0, d1, d2, d3, d4, g4, p4⟩ (by rfl) ?hy5 ?r5
      case hy5 =>
        rintro wz ⟨z0, z1, z2, z3, z4, z5, z6, z7, z8, z9, z10, z11⟩
        go_simp
        try with_reducible rfl
      try simp only [Act.put]
      refine wpLate_take (i := 6) (v := ?v6) rfl (by kernel_rfl) (by kernel_rfl) (by kernel_rfl) (by kernel_rfl) (by kernel_rfl) (fun _ _ _ h => h) ⟨c0, c1, c2, c3, c4, d0, d1, d2, d3, d4, g4, p4⟩ (by rfl) ?hy6 ?r6
      case hy6 =>
        rintro wz ⟨z0, z1, z2, z3, z4, z5, z6, z7, z8, z9, z10, z11⟩
        go_simp
        try with_reducible rfl
      try simp only [Act.put]
      refine wpLate_take (i := 7) (v := ?v7) rfl (by kernel_rfl) (by kernel_rfl) (by kernel_rfl) (by kernel_rfl) (by kernel_rfl) (fun _ _ _ h => h) ⟨c0, c1, c2, c3, c4, d0, d1, d2, d3, d4, g4, p4⟩ (by rfl) ?hy7 ?r7
      case hy7 =>
        rintro wz ⟨z0, z1, z2, z3, z4, z5, z6, z7, z8, z9, z10, z11⟩
        go_simp
        try with_reducible rfl
      try simp only [Act.put]
      refine wpLate_take (i := 8) (v := ?v8) rfl (by kernel_rfl) (by kernel_rfl) (by kernel_rfl) (by kernel_rfl) (by kernel_rfl) (fun _ _ _ h => h) ⟨c0, c1, c2, c3, c4, d0, d1, d2, d3, d4, g4, p4⟩ (by rfl) ?hy8 ?r8
      case hy8 =>
        rintro wz ⟨z0, z1, z2, z3, z4, z5, z6, z7, z8, z9, z10, z11⟩
        go_simp
        try with_reducible rfl
      try simp only [Act.put]
      refine wpLate_take (i := 9) (v := ?v9) rfl (by kernel_rfl) (by kernel_rfl) (by kernel_rfl) (by kernel_rfl) (by kernel_rfl) (fun _ _ _ h => h) ⟨c0, c1, c2, c3, c4, d0, d1, d2, d3, d4, g4, p4⟩ (by rfl) ?hy9 ?r9
      case hy9 =>
        rintro wz ⟨z0, z1, z2, z3, z4, z5, z6, z7, z8, z9, z10, z11⟩
        go_simp
        try with_reducible rfl
      try simp only [Act.put]
      refine wpLate_one (i := 10) (by kernel_rfl) rfl (fun K hK => ?_)
      go_simp
      refine HC.out.mono ?_
      rintro e w3 ⟨rfl, hb⟩
      refine hK.out _ _ (fun _ => ⟨(hb.cell (p := ⟨b, o + k * 5, none⟩) HBZ.out.1).trans c0, (hb.cell (p := ⟨b, o + k * 5 + 1, none⟩) HBZ.out.1).trans c1, (hb.cell (p := ⟨b, o + k * 5 + 2, none⟩) HBZ.out.1).trans c2, (hb.cell (p := ⟨b, o + k * 5 + 3, none⟩) HBZ.out.1).trans c3, (hb.cell (p := ⟨b, o + k * 5 + 4, none⟩) HBZ.out.1).trans c4, (hb.cell (p := ⟨b', o' + k * 5, none⟩) HBZ.out.2).trans d0, (hb.cell (p := ⟨b', o' + k * 5 + 1, none⟩) HBZ.out.2).trans d1, (hb.cell (p := ⟨b', o' + k * 5 + 2, none⟩) HBZ.out.2).trans d2, (hb.cell (p := ⟨b', o' + k * 5 + 3, none⟩) HBZ.out.2).trans d3, (hb.cell (p := ⟨b', o' + k * 5 + 4, none⟩) HBZ.out.2).trans d4, (hb.cell (p := ⟨B, 4, none⟩) HT0.out.lt).trans g4, (hb.cell (p := ⟨B + 1, 4, none⟩) HT1.out.lt).trans p4⟩) ?_
      clear hK K
      try simp only [Act.put]
      refine wpLate_one (i := 11) (by kernel_rfl) rfl (fun K hK => ?_)
      go_simp
      refine hK.out _ _ (fun h => absurd rfl h) ?_
      clear hK K
      try simp only [Act.put]
      refine wpLate_done (by kernel_rfl) ?_ _
      have HBE := Lib.hid (HBD.out.trans (hb.mono HBD.out.size))
      clear hb c0 c1 c2 c3 c4 d0 d1 d2 d3 d4 g4 p4 y4
      go_wp2
      go_roundw
      case rel => exact ⟨k + 1, by omega, by go_num, HBE⟩
      case measure => simp [intOf]; omega
    · have h5 : ¬ (k : Int) < (nK : Int) := by omega
      have HBF := Lib.hid (HB2.out.trans (HB.out.mono HB2.out.size))
      go_wp2
      go_ret
      exact ⟨rfl, HBF.out⟩
theorem same_key : ∀ (n : Nat) (k : KT) (v1 v2 : Value) (w : World), nodesT k ≤ n → n ≤ 33554432 → KV w k v1 → KV w k v2 → Calls Tryz.prog 10 #[v1, v2] w fun e w' => e = .returned (.bool true) ∧ Below w.heap.size w w'
  | 0, k, v1, v2, w, hn, _, _, _ => by have := nodesT_pos k; omega
  | n + 1, .mk kd f t S ks, v1, v2, w, hn, hm, h, h2 => by
    rw [nodesT] at hn
    have hl := nodesL_len ks
    exact same_key_step (n := n) (fun k' u1 u2 w1 h1 h3 h4 => same_key n k' u1 u2 w1 h1 (by omega) h3 h4) (nodes_mem (by omega)) (by omega) w h h2
end Go.Proofs.YtnfigpknejmkmaaGreatDoor
namespace Go.Proofs.YtnfigpknejmkmaaGreatDoor
open Go.RowKit
set_option linter.unusedVariables false
set_option linter.unusedSimpArgs false

set_option maxRecDepth 20000 in
set_option maxHeartbeats 16000000 in
theorem rkey_step_no {m R k : Nat} {s : ByteArray} (w : World) (hs : s.size ≤ 16777216) (hm : m ≤ 9) (hR1 : 0 < R) (hR2 : 1 < R) (hk : k ≤ s.size) (h : CurK m w R s k) (hSh : Shp w) (hLs : Lst w)
    (ih : ∀ (m1 k1 : Nat) (w1 : World), m1 < m → k1 ≤ s.size → CurK m1 w1 R s k1 → Shp w1 → Lst w1 → Calls Tryz.prog 31 #[.pointer (some ⟨R, 0, none⟩)] w1 (RdK m1 R s k1 w1)) {kd f : Int} (hwk : wk (s.extract k (k + wl s.data.toList k)).data.toList = (kd, f, false)) :
    Calls Tryz.prog 31 #[.pointer (some ⟨R, 0, none⟩)] w (RdK m R s k w) := by
  have hl : s.data.toList.length = s.size := by simp
  obtain ⟨S0, hSS⟩ : ∃ B, w.heap.size = B := ⟨_, rfl⟩
  have HSS := Lib.hid hSS
  have hRS : R < S0 := by have := Whole.lt h; omega
  obtain ⟨wa, hwa⟩ : ∃ wa, w.alloc (.cells #[.int .i64 0, .int .i64 0, .string ⟨#[]⟩, .slice none 0 0, .slice none 0 0] 27) = wa := ⟨_, rfl⟩
  have HWA := Lib.hid hwa
  have HCa : Hid (CurK m wa R s k) := Lib.hid (by rw [← hwa]; exact Whole.alloc h _)
  have HZa : Hid (Whole wa S0 27 #[.int .i64 0, .int .i64 0, .string ⟨#[]⟩, .slice none 0 0, .slice none 0 0]) := Lib.hid (by rw [← hwa, ← hSS]; exact Whole.made w _ _)
  have HGa : Hid (w.grownBy wa (some R)) := Lib.hid (by rw [← hwa]; exact gr_alloc (gr_refl _ _) _)
  have HLa := Lib.hid (hLs.grownR HGa.out hR2)
  have HSa := Lib.hid (hSh.grownR HGa.out hR1)
  have HIH := Lib.hid ih
  have hk1le : k + wl s.data.toList k ≤ s.size := by have := wl_le s.data.toList k (by omega); omega
  have HC0 := word_any R k s wa HCa.out hs hk
  unfold Worded at HC0
  obtain ⟨k1, hk1⟩ : ∃ z, k + wl s.data.toList k = z := ⟨_, rfl⟩
  rw [hk1] at HC0 hk1le hwk
  obtain ⟨tw, htw⟩ : ∃ z, s.extract k k1 = z := ⟨_, rfl⟩
  rw [htw] at HC0 hwk
  have HK1 := Lib.hid hk1
  have HWK0 := Lib.hid hwk
  have HWRD : Hid (∀ K2 R2, At s.data.toList k m K2 R2 → false = true ∧ ∃ t2 S2 ks2, K2 = .mk kd f t2 S2 ks2) := Lib.hid (at_word (by rw [hk1, htw]; exact hwk))
  clear hwa h hSh hLs ih hSS htw hk1 hl hwk
  go_enter Tryz.func31, Tryz.ntmps31
  go_wp2_with fail
  try rw [HSS.out, HWA.out]
  refine HC0.mono ?_
  rintro e w1 ⟨rfl, hc, hg⟩
  clear HC0
  have HC1 := Lib.hid hc
  have HG1 := Lib.hid (gr_trans HGa.out hg)
  have HZ1 := Lib.hid (HZa.out.grown hg (fun e => by cases e; omega))
  have HL1 := Lib.hid (HLa.out.grownR hg hR2)
  have HS1 := Lib.hid (HSa.out.grownR hg hR1)
  clear hc hg
  go_wp2_with fail
  refine (wordkey_any (t := tw) w1 HL1.out).mono ?_
  rintro e w2 ⟨kd', f', o', hwk2, rfl, hb⟩
  obtain ⟨hwk4, hwk3⟩ := Prod.mk.inj (hwk2.symm.trans HWK0.out)
  obtain ⟨hwk5, hwk6⟩ := Prod.mk.inj hwk3
  subst hwk4
  subst hwk5
  subst hwk6
  have HC2 : Hid (CurK m w2 R s k1) := Lib.hid (Whole.below HC1.out hb (Whole.lt HC1.out))
  have HG2 := Lib.hid (gr_trans HG1.out (gr_below hb (some R)))
  have HZ2 := Lib.hid (HZ1.out.below hb HZ1.out.lt)
  have HS2 := Lib.hid (HS1.out.below hb (Nat.le_refl _))
  have HL2 := Lib.hid (HL1.out.below hb (Nat.le_refl _))
  clear hb hwk2
  obtain ⟨D, hD⟩ : ∃ D, w2.heap.size = D := ⟨_, rfl⟩
  have HDD := Lib.hid hD
  have hSD : S0 < D := by have := HZ2.out.lt; omega
  obtain ⟨w3, hw3⟩ : ∃ z, w2.alloc (.cells #[.int .i64 kd', .int .i64 f', .string ⟨#[]⟩, .slice none 0 0, .slice none 0 0] 27) = z := ⟨_, rfl⟩
  have HW3 := Lib.hid hw3
  have HX3 : Hid (Whole w3 D 27 #[.int .i64 kd', .int .i64 f', .string ⟨#[]⟩, .slice none 0 0, .slice none 0 0]) := Lib.hid (by rw [← hw3, ← hD]; exact Whole.made w2 _ _)
  have HC3 : Hid (CurK m w3 R s k1) := Lib.hid (by rw [← hw3]; exact Whole.alloc HC2.out _)
  have HG3 : Hid (w.grownBy w3 (some R)) := Lib.hid (by rw [← hw3]; exact gr_alloc HG2.out _)
  have HZ3 : Hid (Whole w3 S0 27 #[.int .i64 0, .int .i64 0, .string ⟨#[]⟩, .slice none 0 0, .slice none 0 0]) := Lib.hid (by rw [← hw3]; exact HZ2.out.alloc _)
  have HS3 : Hid (Shp w3) := Lib.hid (by rw [← hw3]; exact HS2.out.below (below_new w2 _) (Nat.le_refl _))
  have HL3 : Hid (Lst w3) := Lib.hid (by rw [← hw3]; exact HL2.out.below (below_new w2 _) (Nat.le_refl _))
  clear hD hw3
  go_upto_region 2 with fail
  rw [HDD.out, HW3.out]
  have zc0 := HZ3.out.cell 0
  have zc1 := HZ3.out.cell 1
  have zc2 := HZ3.out.cell 2
  have zc3 := HZ3.out.cell 3
  have zc4 := HZ3.out.cell 4
  have zf0 := HZ3.out.free 0
  have zf1 := HZ3.out.free 1
  have zf2 := HZ3.out.free 2
  have zf3 := HZ3.out.free 3
  have zf4 := HZ3.out.free 4
  simp only [List.getElem?_toArray, List.getElem?_cons_zero, List.getElem?_cons_succ] at zc0 zc1 zc2 zc3 zc4
  go_wp2
  refine bodyPost_ret (v := .tuple #[.agg #[.int .i64 0, .int .i64 0, .string ⟨#[]⟩, .slice none 0 0, .slice none 0 0], .bool false]) (by rw [results_cell_tmp Tryz.results31]; go_simp) rfl ?_
  exact rdk_fail HSS.out hRS HZ3.out.lt HC3.out hk1le (Nat.le_refl _) HG3.out (fun K k' m' => comp_none fun K2 R2 ha => by cases (HWRD.out K2 R2 ha).1) _ _ _ _ _
set_option maxRecDepth 20000 in
set_option maxHeartbeats 16000000 in
theorem rkey_step_nos {R k : Nat} {s : ByteArray} (w : World) (hs : s.size ≤ 16777216) (hm : 0 ≤ 9) (hR1 : 0 < R) (hR2 : 1 < R) (hk : k ≤ s.size) (h : CurK 0 w R s k) (hSh : Shp w) (hLs : Lst w)
    (ih : ∀ (m1 k1 : Nat) (w1 : World), m1 < 0 → k1 ≤ s.size → CurK m1 w1 R s k1 → Shp w1 → Lst w1 → Calls Tryz.prog 31 #[.pointer (some ⟨R, 0, none⟩)] w1 (RdK m1 R s k1 w1)) {kd f : Int} (hwk : wk (s.extract k (k + wl s.data.toList k)).data.toList = (kd, f, true)) :
    Calls Tryz.prog 31 #[.pointer (some ⟨R, 0, none⟩)] w (RdK 0 R s k w) := by
  have hl : s.data.toList.length = s.size := by simp
  obtain ⟨S0, hSS⟩ : ∃ B, w.heap.size = B := ⟨_, rfl⟩
  have HSS := Lib.hid hSS
  have hRS : R < S0 := by have := Whole.lt h; omega
  obtain ⟨wa, hwa⟩ : ∃ wa, w.alloc (.cells #[.int .i64 0, .int .i64 0, .string ⟨#[]⟩, .slice none 0 0, .slice none 0 0] 27) = wa := ⟨_, rfl⟩
  have HWA := Lib.hid hwa
  have HCa : Hid (CurK 0 wa R s k) := Lib.hid (by rw [← hwa]; exact Whole.alloc h _)
  have HZa : Hid (Whole wa S0 27 #[.int .i64 0, .int .i64 0, .string ⟨#[]⟩, .slice none 0 0, .slice none 0 0]) := Lib.hid (by rw [← hwa, ← hSS]; exact Whole.made w _ _)
  have HGa : Hid (w.grownBy wa (some R)) := Lib.hid (by rw [← hwa]; exact gr_alloc (gr_refl _ _) _)
  have HLa := Lib.hid (hLs.grownR HGa.out hR2)
  have HSa := Lib.hid (hSh.grownR HGa.out hR1)
  have HIH := Lib.hid ih
  have hk1le : k + wl s.data.toList k ≤ s.size := by have := wl_le s.data.toList k (by omega); omega
  have HC0 := word_any R k s wa HCa.out hs hk
  unfold Worded at HC0
  obtain ⟨k1, hk1⟩ : ∃ z, k + wl s.data.toList k = z := ⟨_, rfl⟩
  rw [hk1] at HC0 hk1le hwk
  obtain ⟨tw, htw⟩ : ∃ z, s.extract k k1 = z := ⟨_, rfl⟩
  rw [htw] at HC0 hwk
  have HK1 := Lib.hid hk1
  have HWK0 := Lib.hid hwk
  have HWRD : Hid (∀ K2 R2, At s.data.toList k 0 K2 R2 → true = true ∧ ∃ t2 S2 ks2, K2 = .mk kd f t2 S2 ks2) := Lib.hid (at_word (by rw [hk1, htw]; exact hwk))
  clear hwa h hSh hLs ih hSS htw hk1 hl hwk
  go_enter Tryz.func31, Tryz.ntmps31
  go_wp2_with fail
  try rw [HSS.out, HWA.out]
  refine HC0.mono ?_
  rintro e w1 ⟨rfl, hc, hg⟩
  clear HC0
  have HC1 := Lib.hid hc
  have HG1 := Lib.hid (gr_trans HGa.out hg)
  have HZ1 := Lib.hid (HZa.out.grown hg (fun e => by cases e; omega))
  have HL1 := Lib.hid (HLa.out.grownR hg hR2)
  have HS1 := Lib.hid (HSa.out.grownR hg hR1)
  clear hc hg
  go_wp2_with fail
  refine (wordkey_any (t := tw) w1 HL1.out).mono ?_
  rintro e w2 ⟨kd', f', o', hwk2, rfl, hb⟩
  obtain ⟨hwk4, hwk3⟩ := Prod.mk.inj (hwk2.symm.trans HWK0.out)
  obtain ⟨hwk5, hwk6⟩ := Prod.mk.inj hwk3
  subst hwk4
  subst hwk5
  subst hwk6
  have HC2 : Hid (CurK 0 w2 R s k1) := Lib.hid (Whole.below HC1.out hb (Whole.lt HC1.out))
  have HG2 := Lib.hid (gr_trans HG1.out (gr_below hb (some R)))
  have HZ2 := Lib.hid (HZ1.out.below hb HZ1.out.lt)
  have HS2 := Lib.hid (HS1.out.below hb (Nat.le_refl _))
  have HL2 := Lib.hid (HL1.out.below hb (Nat.le_refl _))
  clear hb hwk2
  obtain ⟨D, hD⟩ : ∃ D, w2.heap.size = D := ⟨_, rfl⟩
  have HDD := Lib.hid hD
  have hSD : S0 < D := by have := HZ2.out.lt; omega
  obtain ⟨w3, hw3⟩ : ∃ z, w2.alloc (.cells #[.int .i64 kd', .int .i64 f', .string ⟨#[]⟩, .slice none 0 0, .slice none 0 0] 27) = z := ⟨_, rfl⟩
  have HW3 := Lib.hid hw3
  have HX3 : Hid (Whole w3 D 27 #[.int .i64 kd', .int .i64 f', .string ⟨#[]⟩, .slice none 0 0, .slice none 0 0]) := Lib.hid (by rw [← hw3, ← hD]; exact Whole.made w2 _ _)
  have HC3 : Hid (CurK 0 w3 R s k1) := Lib.hid (by rw [← hw3]; exact Whole.alloc HC2.out _)
  have HG3 : Hid (w.grownBy w3 (some R)) := Lib.hid (by rw [← hw3]; exact gr_alloc HG2.out _)
  have HZ3 : Hid (Whole w3 S0 27 #[.int .i64 0, .int .i64 0, .string ⟨#[]⟩, .slice none 0 0, .slice none 0 0]) := Lib.hid (by rw [← hw3]; exact HZ2.out.alloc _)
  have HS3 : Hid (Shp w3) := Lib.hid (by rw [← hw3]; exact HS2.out.below (below_new w2 _) (Nat.le_refl _))
  have HL3 : Hid (Lst w3) := Lib.hid (by rw [← hw3]; exact HL2.out.below (below_new w2 _) (Nat.le_refl _))
  clear hD hw3
  go_upto_region 2 with fail
  rw [HDD.out, HW3.out]
  have zc0 := HZ3.out.cell 0
  have zc1 := HZ3.out.cell 1
  have zc2 := HZ3.out.cell 2
  have zc3 := HZ3.out.cell 3
  have zc4 := HZ3.out.cell 4
  have zf0 := HZ3.out.free 0
  have zf1 := HZ3.out.free 1
  have zf2 := HZ3.out.free 2
  have zf3 := HZ3.out.free 3
  have zf4 := HZ3.out.free 4
  simp only [List.getElem?_toArray, List.getElem?_cons_zero, List.getElem?_cons_succ] at zc0 zc1 zc2 zc3 zc4
  have HC3c := HC3
  go_wp2_with fail
  refine (spendK R 0 k1 s w3 HC3.out hm).mono ?_
  rintro e w4 ⟨rfl, hc, hg⟩
  clear zc0 zc1 zc2 zc3 zc4 zf0 zf1 zf2 zf3 zf4
  have HC4 := Lib.hid hc
  have HG4 := Lib.hid (gr_trans HG3.out hg)
  have HZ4 := Lib.hid (HZ3.out.grown hg (fun e => by cases e; omega))
  clear hc hg
  have hd0 : decide (0 < 0) = false := by decide
  try rw [hd0]
  have zc0 := HZ4.out.cell 0
  have zc1 := HZ4.out.cell 1
  have zc2 := HZ4.out.cell 2
  have zc3 := HZ4.out.cell 3
  have zc4 := HZ4.out.cell 4
  have zf0 := HZ4.out.free 0
  have zf1 := HZ4.out.free 1
  have zf2 := HZ4.out.free 2
  have zf3 := HZ4.out.free 3
  have zf4 := HZ4.out.free 4
  simp only [List.getElem?_toArray, List.getElem?_cons_zero, List.getElem?_cons_succ] at zc0 zc1 zc2 zc3 zc4
  go_wp2
  refine bodyPost_ret (v := .tuple #[.agg #[.int .i64 0, .int .i64 0, .string ⟨#[]⟩, .slice none 0 0, .slice none 0 0], .bool false]) (by rw [results_cell_tmp Tryz.results31]; go_simp) rfl ?_
  exact rdk_fail HSS.out hRS HZ4.out.lt HC4.out hk1le (by omega) HG4.out (fun K k' m' => comp_none fun K2 R2 ha => by have h1 := ha.2.1; have h2 := nodesT_pos K2; omega) _ _ _ _ _
set_option maxRecDepth 20000 in
set_option maxHeartbeats 16000000 in
theorem rkey_step_0 {m R k : Nat} {s : ByteArray} (w : World) (hs : s.size ≤ 16777216) (hm : m ≤ 9) (hR1 : 0 < R) (hR2 : 1 < R) (hk : k ≤ s.size) (h : CurK m w R s k) (hSh : Shp w) (hLs : Lst w)
    (ih : ∀ (m1 k1 : Nat) (w1 : World), m1 < m → k1 ≤ s.size → CurK m1 w1 R s k1 → Shp w1 → Lst w1 → Calls Tryz.prog 31 #[.pointer (some ⟨R, 0, none⟩)] w1 (RdK m1 R s k1 w1)) {f : Int} (hwk : wk (s.extract k (k + wl s.data.toList k)).data.toList = (0, f, true)) (hm0 : 0 < m) :
    Calls Tryz.prog 31 #[.pointer (some ⟨R, 0, none⟩)] w (RdK m R s k w) := by
  have HSZ : Hid (0 < s.size) := Lib.hid (by
    rcases Nat.eq_zero_or_pos s.size with h0 | h0
    · have h1 : (s.extract k (k + wl s.data.toList k)).data.toList = [] := List.length_eq_zero_iff.1 (by rw [← size_txt, ByteArray.size_extract]; omega)
      have h2 : wk [] = (0, 0, false) := by decide
      rw [h1, h2] at hwk
      have h3 := (Prod.mk.inj (Prod.mk.inj hwk).2).2
      cases h3
    · exact h0)
  have hl : s.data.toList.length = s.size := by simp
  obtain ⟨S0, hSS⟩ : ∃ B, w.heap.size = B := ⟨_, rfl⟩
  have HSS := Lib.hid hSS
  have hRS : R < S0 := by have := Whole.lt h; omega
  obtain ⟨wa, hwa⟩ : ∃ wa, w.alloc (.cells #[.int .i64 0, .int .i64 0, .string ⟨#[]⟩, .slice none 0 0, .slice none 0 0] 27) = wa := ⟨_, rfl⟩
  have HWA := Lib.hid hwa
  have HCa : Hid (CurK m wa R s k) := Lib.hid (by rw [← hwa]; exact Whole.alloc h _)
  have HZa : Hid (Whole wa S0 27 #[.int .i64 0, .int .i64 0, .string ⟨#[]⟩, .slice none 0 0, .slice none 0 0]) := Lib.hid (by rw [← hwa, ← hSS]; exact Whole.made w _ _)
  have HGa : Hid (w.grownBy wa (some R)) := Lib.hid (by rw [← hwa]; exact gr_alloc (gr_refl _ _) _)
  have HLa := Lib.hid (hLs.grownR HGa.out hR2)
  have HSa := Lib.hid (hSh.grownR HGa.out hR1)
  have HIH := Lib.hid ih
  have HSw := Lib.hid hSh
  have HLw := Lib.hid hLs
  have hk1le : k + wl s.data.toList k ≤ s.size := by have := wl_le s.data.toList k (by omega); omega
  have HC0 := word_any R k s wa HCa.out hs hk
  unfold Worded at HC0
  obtain ⟨k1, hk1⟩ : ∃ z, k + wl s.data.toList k = z := ⟨_, rfl⟩
  rw [hk1] at HC0 hk1le hwk
  obtain ⟨tw, htw⟩ : ∃ z, s.extract k k1 = z := ⟨_, rfl⟩
  rw [htw] at HC0 hwk
  have HK1 := Lib.hid hk1
  have HWK0 := Lib.hid hwk
  have HWRD : Hid (∀ K2 R2, At s.data.toList k m K2 R2 → true = true ∧ ∃ t2 S2 ks2, K2 = .mk 0 f t2 S2 ks2) := Lib.hid (at_word (by rw [hk1, htw]; exact hwk))
  clear hwa h hSh hLs ih hSS htw hk1 hl hwk
  go_enter Tryz.func31, Tryz.ntmps31
  go_wp2_with fail
  try rw [HSS.out, HWA.out]
  refine HC0.mono ?_
  rintro e w1 ⟨rfl, hc, hg⟩
  clear HC0
  have HC1 := Lib.hid hc
  have HG1 := Lib.hid (gr_trans HGa.out hg)
  have HZ1 := Lib.hid (HZa.out.grown hg (fun e => by cases e; omega))
  have HL1 := Lib.hid (HLa.out.grownR hg hR2)
  have HS1 := Lib.hid (HSa.out.grownR hg hR1)
  clear hc hg
  go_wp2_with fail
  refine (wordkey_any (t := tw) w1 HL1.out).mono ?_
  rintro e w2 ⟨kd', f', o', hwk2, rfl, hb⟩
  obtain ⟨hwk4, hwk3⟩ := Prod.mk.inj (hwk2.symm.trans HWK0.out)
  obtain ⟨hwk5, hwk6⟩ := Prod.mk.inj hwk3
  subst hwk4
  subst hwk5
  subst hwk6
  have HC2 : Hid (CurK m w2 R s k1) := Lib.hid (Whole.below HC1.out hb (Whole.lt HC1.out))
  have HG2 := Lib.hid (gr_trans HG1.out (gr_below hb (some R)))
  have HZ2 := Lib.hid (HZ1.out.below hb HZ1.out.lt)
  have HS2 := Lib.hid (HS1.out.below hb (Nat.le_refl _))
  have HL2 := Lib.hid (HL1.out.below hb (Nat.le_refl _))
  clear hb hwk2
  obtain ⟨D, hD⟩ : ∃ D, w2.heap.size = D := ⟨_, rfl⟩
  have HDD := Lib.hid hD
  have hSD : S0 < D := by have := HZ2.out.lt; omega
  obtain ⟨w3, hw3⟩ : ∃ z, w2.alloc (.cells #[.int .i64 0, .int .i64 f', .string ⟨#[]⟩, .slice none 0 0, .slice none 0 0] 27) = z := ⟨_, rfl⟩
  have HW3 := Lib.hid hw3
  have HX3 : Hid (Whole w3 D 27 #[.int .i64 0, .int .i64 f', .string ⟨#[]⟩, .slice none 0 0, .slice none 0 0]) := Lib.hid (by rw [← hw3, ← hD]; exact Whole.made w2 _ _)
  have HC3 : Hid (CurK m w3 R s k1) := Lib.hid (by rw [← hw3]; exact Whole.alloc HC2.out _)
  have HG3 : Hid (w.grownBy w3 (some R)) := Lib.hid (by rw [← hw3]; exact gr_alloc HG2.out _)
  have HZ3 : Hid (Whole w3 S0 27 #[.int .i64 0, .int .i64 0, .string ⟨#[]⟩, .slice none 0 0, .slice none 0 0]) := Lib.hid (by rw [← hw3]; exact HZ2.out.alloc _)
  have HS3 : Hid (Shp w3) := Lib.hid (by rw [← hw3]; exact HS2.out.below (below_new w2 _) (Nat.le_refl _))
  have HL3 : Hid (Lst w3) := Lib.hid (by rw [← hw3]; exact HL2.out.below (below_new w2 _) (Nat.le_refl _))
  clear hD hw3
  go_upto_region 2 with fail
  rw [HDD.out, HW3.out]
  have hdm : decide (0 < m) = true := decide_eq_true hm0
  go_wp2_with fail
  refine (spendK R m k1 s w3 HC3.out hm).mono ?_
  rintro e w4 ⟨he, hc, hg⟩
  rw [hdm] at he
  subst he
  have HC4 := Lib.hid hc
  have HG4 := Lib.hid (gr_trans HG3.out hg)
  have HZ4 := Lib.hid (HZ3.out.grown hg (fun e => by cases e; omega))
  have HX4 := Lib.hid (HX3.out.grown hg (fun e => by cases e; omega))
  have HS4 := Lib.hid (HS3.out.grownR hg hR1)
  clear hc hg hdm
  have sz : 0 < w4.heap.size := HS4.out.1
  have s0 : w4.cell? ⟨0, 0, none⟩ = some (.bool false) := HS4.out.2 0 (by decide)
  have s1 : w4.cell? ⟨0, 1, none⟩ = some (.bool false) := HS4.out.2 1 (by decide)
  have s2 : w4.cell? ⟨0, 2, none⟩ = some (.bool false) := HS4.out.2 2 (by decide)
  have s3 : w4.cell? ⟨0, 3, none⟩ = some (.int .i64 0) := HS4.out.2 3 (by decide)
  have xc0 := HX4.out.cell 0
  simp only [List.getElem?_toArray, List.getElem?_cons_zero, List.getElem?_cons_succ] at xc0
  obtain ⟨D6, hD6⟩ : ∃ D, w4.heap.size = D := ⟨_, rfl⟩
  have HDD6 := Lib.hid hD6
  have hDD6 : D < D6 := by have := HX4.out.lt; omega
  obtain ⟨w5, hw5⟩ : ∃ z, w4.alloc (.cells #[.bool false, .bool false, .bool false, .int .i64 0] 99) = z := ⟨_, rfl⟩
  have HW5 := Lib.hid hw5
  have H65 : Hid (Whole w5 D6 99 #[.bool false, .bool false, .bool false, .int .i64 ((0 : Nat) : Int)]) := Lib.hid (by rw [← hw5, ← hD6]; exact Whole.made w4 _ _)
  have HC5 : Hid (CurK (m - 1) w5 R s k1) := Lib.hid (by rw [← hw5]; exact Whole.alloc HC4.out _)
  have HG5 : Hid (w.grownBy w5 (some R)) := Lib.hid (by rw [← hw5]; exact gr_alloc HG4.out _)
  have HZ5 : Hid (Whole w5 S0 27 #[.int .i64 0, .int .i64 0, .string ⟨#[]⟩, .slice none 0 0, .slice none 0 0]) := Lib.hid (by rw [← hw5]; exact HZ4.out.alloc _)
  have HX5 : Hid (Whole w5 D 27 #[.int .i64 0, .int .i64 f', .string ⟨#[]⟩, .slice none 0 0, .slice none 0 0]) := Lib.hid (by rw [← hw5]; exact HX4.out.alloc _)
  clear hD6 hw5
  go_upto_region 5 with fail
  rw [HDD6.out, HW5.out]
  clear sz s0 s1 s2 s3 xc0
  have yc1 := H65.out.cell 1
  have yc2 := H65.out.cell 2
  simp only [List.getElem?_toArray, List.getElem?_cons_zero, List.getElem?_cons_succ] at yc1 yc2
  have hRD : R < D := by omega
  clear yc1 yc2
  have yc1 := H65.out.cell 1
  have yc2 := H65.out.cell 2
  simp only [List.getElem?_toArray, List.getElem?_cons_zero, List.getElem?_cons_succ] at yc1 yc2
  go_upto_region 9 with fail
  clear yc1 yc2
  have HLf := Lib.hid (ka_leaf (lo := D + 1) (hi := w5.heap.size) (w := w5) (kd := 0) (f := f') (t := ⟨#[]⟩) (by decide) (S := []) (A := none) (n := 0) (c := 0) rfl (by decide) (SpA.nil _ _))
  have HCI := Lib.hid (show CI s.data.toList k m 0 f' ⟨#[]⟩ [] [] 0 k1 (m - 1) by rw [← HK1.out]; exact ci_plain (by decide) (by decide) (by decide))
  obtain ⟨E, hE⟩ : ∃ E, w5.heap.size = E := ⟨_, rfl⟩
  have h6E : D6 < E := by have := H65.out.lt; omega
  rw [hE] at HLf
  have HB0 : Hid (RdL w R S0 D D6 E 0 s k m 0 f' ⟨#[]⟩ [] none 0 0 false false false 0 w5) := Lib.hid (rdl_begin hE hk1le (by omega) HC5.out HG5.out HZ5.out HX5.out H65.out HLf.out HCI.out)
  have yc3 := H65.out.cell 3
  simp only [List.getElem?_toArray, List.getElem?_cons_zero, List.getElem?_cons_succ, Int.natCast_zero, Int.cast_ofNat_Int] at yc3
  clear hE
  go_wp2
  clear yc3
  go_loopw [7, 8, 45] (fun _ _ iv wr => ∃ i : Nat, i ≤ 0 ∧ iv = .int .i64 (i : Int) ∧ Hid (RdL w R S0 D D6 E 0 s k m 0 f' ⟨#[]⟩ [] none 0 0 false false false i wr)) (fun _ _ iv _ => 0 - (intOf iv).toNat)
  case atStart => exact ⟨0, Nat.zero_le _, by go_num, HB0⟩
  case round =>
    obtain ⟨i, hin, rfl, HREL⟩ := hrel
    obtain ⟨A, cap, base, h, k', m', ks, rs, hba, hEh, hhw, hbw, hk', hm', hA0, hOB, HC, HG, HZ, HX, H6, HO, HK, HL, HCI⟩ := HREL.out
    obtain rfl : i = 0 := by omega
    have h5 : ¬ ((0 : Nat) : Int) < 0 := by decide
    have xc0 := HX.out.cell 0
    have xc1 := HX.out.cell 1
    have xc2 := HX.out.cell 2
    have xc3 := HX.out.cell 3
    have xc4 := HX.out.cell 4
    simp only [List.getElem?_toArray, List.getElem?_cons_zero, List.getElem?_cons_succ] at xc0 xc1 xc2 xc3 xc4
    have zc0 := HZ.out.cell 0
    have zc1 := HZ.out.cell 1
    have zc2 := HZ.out.cell 2
    have zc3 := HZ.out.cell 3
    have zc4 := HZ.out.cell 4
    have zf0 := HZ.out.free 0
    have zf1 := HZ.out.free 1
    have zf2 := HZ.out.free 2
    have zf3 := HZ.out.free 3
    have zf4 := HZ.out.free 4
    simp only [List.getElem?_toArray, List.getElem?_cons_zero, List.getElem?_cons_succ] at zc0 zc1 zc2 zc3 zc4
    go_wp2
    refine bodyPost_ret (v := .tuple #[.agg #[.int .i64 0, .int .i64 f', .string ⟨#[]⟩, .slice none 0 0, .slice A 0 cap], .bool true]) (by rw [results_cell_tmp Tryz.results31]; go_simp) rfl ?_
    exact rdk_end HSS.out hRS hSD (by omega) hba hEh hhw hk' hm' HC.out HG.out HO.out HK.out HL.out rfl HCI.out (fun K2 R2 ha => (HWRD.out K2 R2 ha).2) HSZ.out _ _ _ _ _
set_option maxRecDepth 20000 in
set_option maxHeartbeats 16000000 in
theorem rkey_step_1 {m R k : Nat} {s : ByteArray} (w : World) (hs : s.size ≤ 16777216) (hm : m ≤ 9) (hR1 : 0 < R) (hR2 : 1 < R) (hk : k ≤ s.size) (h : CurK m w R s k) (hSh : Shp w) (hLs : Lst w)
    (ih : ∀ (m1 k1 : Nat) (w1 : World), m1 < m → k1 ≤ s.size → CurK m1 w1 R s k1 → Shp w1 → Lst w1 → Calls Tryz.prog 31 #[.pointer (some ⟨R, 0, none⟩)] w1 (RdK m1 R s k1 w1)) {f : Int} (hwk : wk (s.extract k (k + wl s.data.toList k)).data.toList = (1, f, true)) (hm0 : 0 < m) :
    Calls Tryz.prog 31 #[.pointer (some ⟨R, 0, none⟩)] w (RdK m R s k w) := by
  have HSZ : Hid (0 < s.size) := Lib.hid (by
    rcases Nat.eq_zero_or_pos s.size with h0 | h0
    · have h1 : (s.extract k (k + wl s.data.toList k)).data.toList = [] := List.length_eq_zero_iff.1 (by rw [← size_txt, ByteArray.size_extract]; omega)
      have h2 : wk [] = (0, 0, false) := by decide
      rw [h1, h2] at hwk
      have h3 := (Prod.mk.inj (Prod.mk.inj hwk).2).2
      cases h3
    · exact h0)
  have hl : s.data.toList.length = s.size := by simp
  obtain ⟨S0, hSS⟩ : ∃ B, w.heap.size = B := ⟨_, rfl⟩
  have HSS := Lib.hid hSS
  have hRS : R < S0 := by have := Whole.lt h; omega
  obtain ⟨wa, hwa⟩ : ∃ wa, w.alloc (.cells #[.int .i64 0, .int .i64 0, .string ⟨#[]⟩, .slice none 0 0, .slice none 0 0] 27) = wa := ⟨_, rfl⟩
  have HWA := Lib.hid hwa
  have HCa : Hid (CurK m wa R s k) := Lib.hid (by rw [← hwa]; exact Whole.alloc h _)
  have HZa : Hid (Whole wa S0 27 #[.int .i64 0, .int .i64 0, .string ⟨#[]⟩, .slice none 0 0, .slice none 0 0]) := Lib.hid (by rw [← hwa, ← hSS]; exact Whole.made w _ _)
  have HGa : Hid (w.grownBy wa (some R)) := Lib.hid (by rw [← hwa]; exact gr_alloc (gr_refl _ _) _)
  have HLa := Lib.hid (hLs.grownR HGa.out hR2)
  have HSa := Lib.hid (hSh.grownR HGa.out hR1)
  have HIH := Lib.hid ih
  have HSw := Lib.hid hSh
  have HLw := Lib.hid hLs
  have hk1le : k + wl s.data.toList k ≤ s.size := by have := wl_le s.data.toList k (by omega); omega
  have HC0 := word_any R k s wa HCa.out hs hk
  unfold Worded at HC0
  obtain ⟨k1, hk1⟩ : ∃ z, k + wl s.data.toList k = z := ⟨_, rfl⟩
  rw [hk1] at HC0 hk1le hwk
  obtain ⟨tw, htw⟩ : ∃ z, s.extract k k1 = z := ⟨_, rfl⟩
  rw [htw] at HC0 hwk
  have HK1 := Lib.hid hk1
  have HWK0 := Lib.hid hwk
  have HWRD : Hid (∀ K2 R2, At s.data.toList k m K2 R2 → true = true ∧ ∃ t2 S2 ks2, K2 = .mk 1 f t2 S2 ks2) := Lib.hid (at_word (by rw [hk1, htw]; exact hwk))
  clear hwa h hSh hLs ih hSS htw hk1 hl hwk
  go_enter Tryz.func31, Tryz.ntmps31
  go_wp2_with fail
  try rw [HSS.out, HWA.out]
  refine HC0.mono ?_
  rintro e w1 ⟨rfl, hc, hg⟩
  clear HC0
  have HC1 := Lib.hid hc
  have HG1 := Lib.hid (gr_trans HGa.out hg)
  have HZ1 := Lib.hid (HZa.out.grown hg (fun e => by cases e; omega))
  have HL1 := Lib.hid (HLa.out.grownR hg hR2)
  have HS1 := Lib.hid (HSa.out.grownR hg hR1)
  clear hc hg
  go_wp2_with fail
  refine (wordkey_any (t := tw) w1 HL1.out).mono ?_
  rintro e w2 ⟨kd', f', o', hwk2, rfl, hb⟩
  obtain ⟨hwk4, hwk3⟩ := Prod.mk.inj (hwk2.symm.trans HWK0.out)
  obtain ⟨hwk5, hwk6⟩ := Prod.mk.inj hwk3
  subst hwk4
  subst hwk5
  subst hwk6
  have HC2 : Hid (CurK m w2 R s k1) := Lib.hid (Whole.below HC1.out hb (Whole.lt HC1.out))
  have HG2 := Lib.hid (gr_trans HG1.out (gr_below hb (some R)))
  have HZ2 := Lib.hid (HZ1.out.below hb HZ1.out.lt)
  have HS2 := Lib.hid (HS1.out.below hb (Nat.le_refl _))
  have HL2 := Lib.hid (HL1.out.below hb (Nat.le_refl _))
  clear hb hwk2
  obtain ⟨D, hD⟩ : ∃ D, w2.heap.size = D := ⟨_, rfl⟩
  have HDD := Lib.hid hD
  have hSD : S0 < D := by have := HZ2.out.lt; omega
  obtain ⟨w3, hw3⟩ : ∃ z, w2.alloc (.cells #[.int .i64 1, .int .i64 f', .string ⟨#[]⟩, .slice none 0 0, .slice none 0 0] 27) = z := ⟨_, rfl⟩
  have HW3 := Lib.hid hw3
  have HX3 : Hid (Whole w3 D 27 #[.int .i64 1, .int .i64 f', .string ⟨#[]⟩, .slice none 0 0, .slice none 0 0]) := Lib.hid (by rw [← hw3, ← hD]; exact Whole.made w2 _ _)
  have HC3 : Hid (CurK m w3 R s k1) := Lib.hid (by rw [← hw3]; exact Whole.alloc HC2.out _)
  have HG3 : Hid (w.grownBy w3 (some R)) := Lib.hid (by rw [← hw3]; exact gr_alloc HG2.out _)
  have HZ3 : Hid (Whole w3 S0 27 #[.int .i64 0, .int .i64 0, .string ⟨#[]⟩, .slice none 0 0, .slice none 0 0]) := Lib.hid (by rw [← hw3]; exact HZ2.out.alloc _)
  have HS3 : Hid (Shp w3) := Lib.hid (by rw [← hw3]; exact HS2.out.below (below_new w2 _) (Nat.le_refl _))
  have HL3 : Hid (Lst w3) := Lib.hid (by rw [← hw3]; exact HL2.out.below (below_new w2 _) (Nat.le_refl _))
  clear hD hw3
  go_upto_region 2 with fail
  rw [HDD.out, HW3.out]
  have hdm : decide (0 < m) = true := decide_eq_true hm0
  go_wp2_with fail
  refine (spendK R m k1 s w3 HC3.out hm).mono ?_
  rintro e w4 ⟨he, hc, hg⟩
  rw [hdm] at he
  subst he
  have HC4 := Lib.hid hc
  have HG4 := Lib.hid (gr_trans HG3.out hg)
  have HZ4 := Lib.hid (HZ3.out.grown hg (fun e => by cases e; omega))
  have HX4 := Lib.hid (HX3.out.grown hg (fun e => by cases e; omega))
  have HS4 := Lib.hid (HS3.out.grownR hg hR1)
  clear hc hg hdm
  have sz : 0 < w4.heap.size := HS4.out.1
  have s0 : w4.cell? ⟨0, 4, none⟩ = some (.bool true) := HS4.out.2 4 (by decide)
  have s1 : w4.cell? ⟨0, 5, none⟩ = some (.bool false) := HS4.out.2 5 (by decide)
  have s2 : w4.cell? ⟨0, 6, none⟩ = some (.bool false) := HS4.out.2 6 (by decide)
  have s3 : w4.cell? ⟨0, 7, none⟩ = some (.int .i64 0) := HS4.out.2 7 (by decide)
  have xc0 := HX4.out.cell 0
  simp only [List.getElem?_toArray, List.getElem?_cons_zero, List.getElem?_cons_succ] at xc0
  obtain ⟨D6, hD6⟩ : ∃ D, w4.heap.size = D := ⟨_, rfl⟩
  have HDD6 := Lib.hid hD6
  have hDD6 : D < D6 := by have := HX4.out.lt; omega
  obtain ⟨w5, hw5⟩ : ∃ z, w4.alloc (.cells #[.bool true, .bool false, .bool false, .int .i64 0] 99) = z := ⟨_, rfl⟩
  have HW5 := Lib.hid hw5
  have H65 : Hid (Whole w5 D6 99 #[.bool true, .bool false, .bool false, .int .i64 ((0 : Nat) : Int)]) := Lib.hid (by rw [← hw5, ← hD6]; exact Whole.made w4 _ _)
  have HC5 : Hid (CurK (m - 1) w5 R s k1) := Lib.hid (by rw [← hw5]; exact Whole.alloc HC4.out _)
  have HG5 : Hid (w.grownBy w5 (some R)) := Lib.hid (by rw [← hw5]; exact gr_alloc HG4.out _)
  have HZ5 : Hid (Whole w5 S0 27 #[.int .i64 0, .int .i64 0, .string ⟨#[]⟩, .slice none 0 0, .slice none 0 0]) := Lib.hid (by rw [← hw5]; exact HZ4.out.alloc _)
  have HX5 : Hid (Whole w5 D 27 #[.int .i64 1, .int .i64 f', .string ⟨#[]⟩, .slice none 0 0, .slice none 0 0]) := Lib.hid (by rw [← hw5]; exact HX4.out.alloc _)
  clear hD6 hw5
  go_upto_region 5 with fail
  rw [HDD6.out, HW5.out]
  clear sz s0 s1 s2 s3 xc0
  have yc1 := H65.out.cell 1
  have yc2 := H65.out.cell 2
  simp only [List.getElem?_toArray, List.getElem?_cons_zero, List.getElem?_cons_succ] at yc1 yc2
  have hRD : R < D := by omega
  clear yc1 yc2
  have yc1 := H65.out.cell 1
  have yc2 := H65.out.cell 2
  simp only [List.getElem?_toArray, List.getElem?_cons_zero, List.getElem?_cons_succ] at yc1 yc2
  go_upto_region 9 with fail
  clear yc1 yc2
  have HLf := Lib.hid (ka_leaf (lo := D + 1) (hi := w5.heap.size) (w := w5) (kd := 1) (f := f') (t := ⟨#[]⟩) (by decide) (S := []) (A := none) (n := 0) (c := 0) rfl (by decide) (SpA.nil _ _))
  have HCI := Lib.hid (show CI s.data.toList k m 1 f' ⟨#[]⟩ [] [] 0 k1 (m - 1) by rw [← HK1.out]; exact ci_plain (by decide) (by decide) (by decide))
  obtain ⟨E, hE⟩ : ∃ E, w5.heap.size = E := ⟨_, rfl⟩
  have h6E : D6 < E := by have := H65.out.lt; omega
  rw [hE] at HLf
  have HB0 : Hid (RdL w R S0 D D6 E 0 s k m 1 f' ⟨#[]⟩ [] none 0 0 true false false 0 w5) := Lib.hid (rdl_begin hE hk1le (by omega) HC5.out HG5.out HZ5.out HX5.out H65.out HLf.out HCI.out)
  have yc3 := H65.out.cell 3
  simp only [List.getElem?_toArray, List.getElem?_cons_zero, List.getElem?_cons_succ, Int.natCast_zero, Int.cast_ofNat_Int] at yc3
  clear hE
  go_wp2
  clear yc3
  go_loopw [7, 8, 45] (fun _ _ iv wr => ∃ i : Nat, i ≤ 0 ∧ iv = .int .i64 (i : Int) ∧ Hid (RdL w R S0 D D6 E 0 s k m 1 f' ⟨#[]⟩ [] none 0 0 true false false i wr)) (fun _ _ iv _ => 0 - (intOf iv).toNat)
  case atStart => exact ⟨0, Nat.zero_le _, by go_num, HB0⟩
  case round =>
    obtain ⟨i, hin, rfl, HREL⟩ := hrel
    obtain ⟨A, cap, base, h, k', m', ks, rs, hba, hEh, hhw, hbw, hk', hm', hA0, hOB, HC, HG, HZ, HX, H6, HO, HK, HL, HCI⟩ := HREL.out
    obtain rfl : i = 0 := by omega
    have h5 : ¬ ((0 : Nat) : Int) < 0 := by decide
    have xc0 := HX.out.cell 0
    have xc1 := HX.out.cell 1
    have xc2 := HX.out.cell 2
    have xc3 := HX.out.cell 3
    have xc4 := HX.out.cell 4
    simp only [List.getElem?_toArray, List.getElem?_cons_zero, List.getElem?_cons_succ] at xc0 xc1 xc2 xc3 xc4
    have zc0 := HZ.out.cell 0
    have zc1 := HZ.out.cell 1
    have zc2 := HZ.out.cell 2
    have zc3 := HZ.out.cell 3
    have zc4 := HZ.out.cell 4
    have zf0 := HZ.out.free 0
    have zf1 := HZ.out.free 1
    have zf2 := HZ.out.free 2
    have zf3 := HZ.out.free 3
    have zf4 := HZ.out.free 4
    simp only [List.getElem?_toArray, List.getElem?_cons_zero, List.getElem?_cons_succ] at zc0 zc1 zc2 zc3 zc4
    go_wp2
    refine bodyPost_ret (v := .tuple #[.agg #[.int .i64 1, .int .i64 f', .string ⟨#[]⟩, .slice none 0 0, .slice A 0 cap], .bool true]) (by rw [results_cell_tmp Tryz.results31]; go_simp) rfl ?_
    exact rdk_end HSS.out hRS hSD (by omega) hba hEh hhw hk' hm' HC.out HG.out HO.out HK.out HL.out rfl HCI.out (fun K2 R2 ha => (HWRD.out K2 R2 ha).2) HSZ.out _ _ _ _ _
set_option maxRecDepth 20000 in
set_option maxHeartbeats 16000000 in
theorem rkey_step_2 {m R k : Nat} {s : ByteArray} (w : World) (hs : s.size ≤ 16777216) (hm : m ≤ 9) (hR1 : 0 < R) (hR2 : 1 < R) (hk : k ≤ s.size) (h : CurK m w R s k) (hSh : Shp w) (hLs : Lst w)
    (ih : ∀ (m1 k1 : Nat) (w1 : World), m1 < m → k1 ≤ s.size → CurK m1 w1 R s k1 → Shp w1 → Lst w1 → Calls Tryz.prog 31 #[.pointer (some ⟨R, 0, none⟩)] w1 (RdK m1 R s k1 w1)) {f : Int} (hwk : wk (s.extract k (k + wl s.data.toList k)).data.toList = (2, f, true)) (hm0 : 0 < m) :
    Calls Tryz.prog 31 #[.pointer (some ⟨R, 0, none⟩)] w (RdK m R s k w) := by
  have HSZ : Hid (0 < s.size) := Lib.hid (by
    rcases Nat.eq_zero_or_pos s.size with h0 | h0
    · have h1 : (s.extract k (k + wl s.data.toList k)).data.toList = [] := List.length_eq_zero_iff.1 (by rw [← size_txt, ByteArray.size_extract]; omega)
      have h2 : wk [] = (0, 0, false) := by decide
      rw [h1, h2] at hwk
      have h3 := (Prod.mk.inj (Prod.mk.inj hwk).2).2
      cases h3
    · exact h0)
  have hl : s.data.toList.length = s.size := by simp
  obtain ⟨S0, hSS⟩ : ∃ B, w.heap.size = B := ⟨_, rfl⟩
  have HSS := Lib.hid hSS
  have hRS : R < S0 := by have := Whole.lt h; omega
  obtain ⟨wa, hwa⟩ : ∃ wa, w.alloc (.cells #[.int .i64 0, .int .i64 0, .string ⟨#[]⟩, .slice none 0 0, .slice none 0 0] 27) = wa := ⟨_, rfl⟩
  have HWA := Lib.hid hwa
  have HCa : Hid (CurK m wa R s k) := Lib.hid (by rw [← hwa]; exact Whole.alloc h _)
  have HZa : Hid (Whole wa S0 27 #[.int .i64 0, .int .i64 0, .string ⟨#[]⟩, .slice none 0 0, .slice none 0 0]) := Lib.hid (by rw [← hwa, ← hSS]; exact Whole.made w _ _)
  have HGa : Hid (w.grownBy wa (some R)) := Lib.hid (by rw [← hwa]; exact gr_alloc (gr_refl _ _) _)
  have HLa := Lib.hid (hLs.grownR HGa.out hR2)
  have HSa := Lib.hid (hSh.grownR HGa.out hR1)
  have HIH := Lib.hid ih
  have HSw := Lib.hid hSh
  have HLw := Lib.hid hLs
  have hk1le : k + wl s.data.toList k ≤ s.size := by have := wl_le s.data.toList k (by omega); omega
  have HC0 := word_any R k s wa HCa.out hs hk
  unfold Worded at HC0
  obtain ⟨k1, hk1⟩ : ∃ z, k + wl s.data.toList k = z := ⟨_, rfl⟩
  rw [hk1] at HC0 hk1le hwk
  obtain ⟨tw, htw⟩ : ∃ z, s.extract k k1 = z := ⟨_, rfl⟩
  rw [htw] at HC0 hwk
  have HK1 := Lib.hid hk1
  have HWK0 := Lib.hid hwk
  have HWRD : Hid (∀ K2 R2, At s.data.toList k m K2 R2 → true = true ∧ ∃ t2 S2 ks2, K2 = .mk 2 f t2 S2 ks2) := Lib.hid (at_word (by rw [hk1, htw]; exact hwk))
  clear hwa h hSh hLs ih hSS htw hk1 hl hwk
  go_enter Tryz.func31, Tryz.ntmps31
  go_wp2_with fail
  try rw [HSS.out, HWA.out]
  refine HC0.mono ?_
  rintro e w1 ⟨rfl, hc, hg⟩
  clear HC0
  have HC1 := Lib.hid hc
  have HG1 := Lib.hid (gr_trans HGa.out hg)
  have HZ1 := Lib.hid (HZa.out.grown hg (fun e => by cases e; omega))
  have HL1 := Lib.hid (HLa.out.grownR hg hR2)
  have HS1 := Lib.hid (HSa.out.grownR hg hR1)
  clear hc hg
  go_wp2_with fail
  refine (wordkey_any (t := tw) w1 HL1.out).mono ?_
  rintro e w2 ⟨kd', f', o', hwk2, rfl, hb⟩
  obtain ⟨hwk4, hwk3⟩ := Prod.mk.inj (hwk2.symm.trans HWK0.out)
  obtain ⟨hwk5, hwk6⟩ := Prod.mk.inj hwk3
  subst hwk4
  subst hwk5
  subst hwk6
  have HC2 : Hid (CurK m w2 R s k1) := Lib.hid (Whole.below HC1.out hb (Whole.lt HC1.out))
  have HG2 := Lib.hid (gr_trans HG1.out (gr_below hb (some R)))
  have HZ2 := Lib.hid (HZ1.out.below hb HZ1.out.lt)
  have HS2 := Lib.hid (HS1.out.below hb (Nat.le_refl _))
  have HL2 := Lib.hid (HL1.out.below hb (Nat.le_refl _))
  clear hb hwk2
  obtain ⟨D, hD⟩ : ∃ D, w2.heap.size = D := ⟨_, rfl⟩
  have HDD := Lib.hid hD
  have hSD : S0 < D := by have := HZ2.out.lt; omega
  obtain ⟨w3, hw3⟩ : ∃ z, w2.alloc (.cells #[.int .i64 2, .int .i64 f', .string ⟨#[]⟩, .slice none 0 0, .slice none 0 0] 27) = z := ⟨_, rfl⟩
  have HW3 := Lib.hid hw3
  have HX3 : Hid (Whole w3 D 27 #[.int .i64 2, .int .i64 f', .string ⟨#[]⟩, .slice none 0 0, .slice none 0 0]) := Lib.hid (by rw [← hw3, ← hD]; exact Whole.made w2 _ _)
  have HC3 : Hid (CurK m w3 R s k1) := Lib.hid (by rw [← hw3]; exact Whole.alloc HC2.out _)
  have HG3 : Hid (w.grownBy w3 (some R)) := Lib.hid (by rw [← hw3]; exact gr_alloc HG2.out _)
  have HZ3 : Hid (Whole w3 S0 27 #[.int .i64 0, .int .i64 0, .string ⟨#[]⟩, .slice none 0 0, .slice none 0 0]) := Lib.hid (by rw [← hw3]; exact HZ2.out.alloc _)
  have HS3 : Hid (Shp w3) := Lib.hid (by rw [← hw3]; exact HS2.out.below (below_new w2 _) (Nat.le_refl _))
  have HL3 : Hid (Lst w3) := Lib.hid (by rw [← hw3]; exact HL2.out.below (below_new w2 _) (Nat.le_refl _))
  clear hD hw3
  go_upto_region 2 with fail
  rw [HDD.out, HW3.out]
  have hdm : decide (0 < m) = true := decide_eq_true hm0
  go_wp2_with fail
  refine (spendK R m k1 s w3 HC3.out hm).mono ?_
  rintro e w4 ⟨he, hc, hg⟩
  rw [hdm] at he
  subst he
  have HC4 := Lib.hid hc
  have HG4 := Lib.hid (gr_trans HG3.out hg)
  have HZ4 := Lib.hid (HZ3.out.grown hg (fun e => by cases e; omega))
  have HX4 := Lib.hid (HX3.out.grown hg (fun e => by cases e; omega))
  have HS4 := Lib.hid (HS3.out.grownR hg hR1)
  clear hc hg hdm
  have sz : 0 < w4.heap.size := HS4.out.1
  have s0 : w4.cell? ⟨0, 8, none⟩ = some (.bool false) := HS4.out.2 8 (by decide)
  have s1 : w4.cell? ⟨0, 9, none⟩ = some (.bool true) := HS4.out.2 9 (by decide)
  have s2 : w4.cell? ⟨0, 10, none⟩ = some (.bool false) := HS4.out.2 10 (by decide)
  have s3 : w4.cell? ⟨0, 11, none⟩ = some (.int .i64 0) := HS4.out.2 11 (by decide)
  have xc0 := HX4.out.cell 0
  simp only [List.getElem?_toArray, List.getElem?_cons_zero, List.getElem?_cons_succ] at xc0
  obtain ⟨D6, hD6⟩ : ∃ D, w4.heap.size = D := ⟨_, rfl⟩
  have HDD6 := Lib.hid hD6
  have hDD6 : D < D6 := by have := HX4.out.lt; omega
  obtain ⟨w5, hw5⟩ : ∃ z, w4.alloc (.cells #[.bool false, .bool true, .bool false, .int .i64 0] 99) = z := ⟨_, rfl⟩
  have HW5 := Lib.hid hw5
  have H65 : Hid (Whole w5 D6 99 #[.bool false, .bool true, .bool false, .int .i64 ((0 : Nat) : Int)]) := Lib.hid (by rw [← hw5, ← hD6]; exact Whole.made w4 _ _)
  have HC5 : Hid (CurK (m - 1) w5 R s k1) := Lib.hid (by rw [← hw5]; exact Whole.alloc HC4.out _)
  have HG5 : Hid (w.grownBy w5 (some R)) := Lib.hid (by rw [← hw5]; exact gr_alloc HG4.out _)
  have HZ5 : Hid (Whole w5 S0 27 #[.int .i64 0, .int .i64 0, .string ⟨#[]⟩, .slice none 0 0, .slice none 0 0]) := Lib.hid (by rw [← hw5]; exact HZ4.out.alloc _)
  have HX5 : Hid (Whole w5 D 27 #[.int .i64 2, .int .i64 f', .string ⟨#[]⟩, .slice none 0 0, .slice none 0 0]) := Lib.hid (by rw [← hw5]; exact HX4.out.alloc _)
  clear hD6 hw5
  go_upto_region 5 with fail
  rw [HDD6.out, HW5.out]
  clear sz s0 s1 s2 s3 xc0
  have yc1 := H65.out.cell 1
  have yc2 := H65.out.cell 2
  simp only [List.getElem?_toArray, List.getElem?_cons_zero, List.getElem?_cons_succ] at yc1 yc2
  have hRD : R < D := by omega
  have hl : s.data.toList.length = s.size := by simp
  have hq : skp s.data.toList k1 ≤ s.size := by have := skp_le (L := s.data.toList) (k := k1) (by omega); omega
  have hk2le : skp s.data.toList k1 + wl s.data.toList (skp s.data.toList k1) ≤ s.size := by have := wl_le s.data.toList (skp s.data.toList k1) (by omega); omega
  have HN0 := nextword_any R k1 s w5 HC5.out hs hk1le
  unfold Worded at HN0
  obtain ⟨kq, hkq⟩ : ∃ z, skp s.data.toList k1 = z := ⟨_, rfl⟩
  rw [hkq] at HN0 hk2le
  obtain ⟨k2, hk2⟩ : ∃ z, kq + wl s.data.toList kq = z := ⟨_, rfl⟩
  rw [hk2] at HN0 hk2le
  obtain ⟨tx, htx⟩ : ∃ z, s.extract kq k2 = z := ⟨_, rfl⟩
  rw [htx] at HN0
  have HTX : Hid (tx.size ≤ 16777216) := Lib.hid (by rw [← htx, ByteArray.size_extract]; omega)
  have HKQ := Lib.hid hkq
  have HK2 := Lib.hid hk2
  have HTE := Lib.hid htx
  clear hl hq hkq hk2 htx
  go_wp2_with fail
  refine HN0.mono ?_
  rintro e w6 ⟨rfl, hc, hg⟩
  clear HN0 yc1 yc2
  have HC6 := Lib.hid hc
  have HG6 := Lib.hid (gr_trans HG5.out hg)
  have HZ6 := Lib.hid (HZ5.out.grown hg (fun e => by cases e; omega))
  have HX6 := Lib.hid (HX5.out.grown hg (fun e => by cases e; omega))
  have H66 := Lib.hid (H65.out.grown hg (fun e => by cases e; omega))
  clear hc hg
  have xc2 := HX6.out.cell 2
  have xf2 := HX6.out.free 2
  have yc2 := H66.out.cell 2
  simp only [List.getElem?_toArray, List.getElem?_cons_zero, List.getElem?_cons_succ] at xc2 yc2
  obtain ⟨w7, hw7⟩ : ∃ z, w6.setCell ⟨D, 2, none⟩ (.string tx) = z := ⟨_, rfl⟩
  have HW7 := Lib.hid hw7
  have hgs : w6.grownBy w7 (some D) := by rw [← hw7]; exact gr_one (gr_refl _ _) _ _
  have HC7 : Hid (CurK (m - 1) w7 R s k2) := Lib.hid (Whole.grown HC6.out hgs (fun e => by cases e; omega))
  have HG7 := Lib.hid (gr_row1 HG6.out hgs (fun g e => by cases e; have := HSS.out; omega))
  have HZ7 := Lib.hid (HZ6.out.grown hgs (fun e => by cases e; omega))
  have HX7 : Hid (Whole w7 D 27 #[.int .i64 2, .int .i64 f', .string tx, .slice none 0 0, .slice none 0 0]) := Lib.hid (by rw [← hw7]; exact HX6.out.store 2 _)
  have H67 := Lib.hid (H66.out.grown hgs (fun e => by cases e; omega))
  clear hw7 hgs
  go_upto_region 9 with fail
  rw [HW7.out]
  clear xc2 xf2 yc2
  have HLf := Lib.hid (ka_leaf (lo := D + 1) (hi := w7.heap.size) (w := w7) (kd := 2) (f := f') (t := tx) HTX.out (S := []) (A := none) (n := 0) (c := 0) rfl (by decide) (SpA.nil _ _))
  have HCI := Lib.hid (show CI s.data.toList k m 2 f' tx [] [] 0 k2 (m - 1) from ci_text HK1.out (by rw [HKQ.out]; exact HK2.out) (by rw [HKQ.out]; exact HTE.out))
  obtain ⟨E, hE⟩ : ∃ E, w7.heap.size = E := ⟨_, rfl⟩
  have h6E : D6 < E := by have := H67.out.lt; omega
  rw [hE] at HLf
  have HB0 : Hid (RdL w R S0 D D6 E 0 s k m 2 f' tx [] none 0 0 false true false 0 w7) := Lib.hid (rdl_begin hE hk2le (by omega) HC7.out HG7.out HZ7.out HX7.out H67.out HLf.out HCI.out)
  have yc3 := H67.out.cell 3
  simp only [List.getElem?_toArray, List.getElem?_cons_zero, List.getElem?_cons_succ, Int.natCast_zero, Int.cast_ofNat_Int] at yc3
  clear hE
  go_wp2
  clear yc3
  go_loopw [7, 8, 45] (fun _ _ iv wr => ∃ i : Nat, i ≤ 0 ∧ iv = .int .i64 (i : Int) ∧ Hid (RdL w R S0 D D6 E 0 s k m 2 f' tx [] none 0 0 false true false i wr)) (fun _ _ iv _ => 0 - (intOf iv).toNat)
  case atStart => exact ⟨0, Nat.zero_le _, by go_num, HB0⟩
  case round =>
    obtain ⟨i, hin, rfl, HREL⟩ := hrel
    obtain ⟨A, cap, base, h, k', m', ks, rs, hba, hEh, hhw, hbw, hk', hm', hA0, hOB, HC, HG, HZ, HX, H6, HO, HK, HL, HCI⟩ := HREL.out
    obtain rfl : i = 0 := by omega
    have h5 : ¬ ((0 : Nat) : Int) < 0 := by decide
    have xc0 := HX.out.cell 0
    have xc1 := HX.out.cell 1
    have xc2 := HX.out.cell 2
    have xc3 := HX.out.cell 3
    have xc4 := HX.out.cell 4
    simp only [List.getElem?_toArray, List.getElem?_cons_zero, List.getElem?_cons_succ] at xc0 xc1 xc2 xc3 xc4
    have zc0 := HZ.out.cell 0
    have zc1 := HZ.out.cell 1
    have zc2 := HZ.out.cell 2
    have zc3 := HZ.out.cell 3
    have zc4 := HZ.out.cell 4
    have zf0 := HZ.out.free 0
    have zf1 := HZ.out.free 1
    have zf2 := HZ.out.free 2
    have zf3 := HZ.out.free 3
    have zf4 := HZ.out.free 4
    simp only [List.getElem?_toArray, List.getElem?_cons_zero, List.getElem?_cons_succ] at zc0 zc1 zc2 zc3 zc4
    go_wp2
    refine bodyPost_ret (v := .tuple #[.agg #[.int .i64 2, .int .i64 f', .string tx, .slice none 0 0, .slice A 0 cap], .bool true]) (by rw [results_cell_tmp Tryz.results31]; go_simp) rfl ?_
    exact rdk_end HSS.out hRS hSD (by omega) hba hEh hhw hk' hm' HC.out HG.out HO.out HK.out HL.out rfl HCI.out (fun K2 R2 ha => (HWRD.out K2 R2 ha).2) HSZ.out _ _ _ _ _
set_option maxRecDepth 20000 in
set_option maxHeartbeats 16000000 in
theorem rkey_step_3 {m R k : Nat} {s : ByteArray} (w : World) (hs : s.size ≤ 16777216) (hm : m ≤ 9) (hR1 : 0 < R) (hR2 : 1 < R) (hk : k ≤ s.size) (h : CurK m w R s k) (hSh : Shp w) (hLs : Lst w)
    (ih : ∀ (m1 k1 : Nat) (w1 : World), m1 < m → k1 ≤ s.size → CurK m1 w1 R s k1 → Shp w1 → Lst w1 → Calls Tryz.prog 31 #[.pointer (some ⟨R, 0, none⟩)] w1 (RdK m1 R s k1 w1)) {f : Int} (hwk : wk (s.extract k (k + wl s.data.toList k)).data.toList = (3, f, true)) (hm0 : 0 < m) :
    Calls Tryz.prog 31 #[.pointer (some ⟨R, 0, none⟩)] w (RdK m R s k w) := by
  have HSZ : Hid (0 < s.size) := Lib.hid (by
    rcases Nat.eq_zero_or_pos s.size with h0 | h0
    · have h1 : (s.extract k (k + wl s.data.toList k)).data.toList = [] := List.length_eq_zero_iff.1 (by rw [← size_txt, ByteArray.size_extract]; omega)
      have h2 : wk [] = (0, 0, false) := by decide
      rw [h1, h2] at hwk
      have h3 := (Prod.mk.inj (Prod.mk.inj hwk).2).2
      cases h3
    · exact h0)
  have hl : s.data.toList.length = s.size := by simp
  obtain ⟨S0, hSS⟩ : ∃ B, w.heap.size = B := ⟨_, rfl⟩
  have HSS := Lib.hid hSS
  have hRS : R < S0 := by have := Whole.lt h; omega
  obtain ⟨wa, hwa⟩ : ∃ wa, w.alloc (.cells #[.int .i64 0, .int .i64 0, .string ⟨#[]⟩, .slice none 0 0, .slice none 0 0] 27) = wa := ⟨_, rfl⟩
  have HWA := Lib.hid hwa
  have HCa : Hid (CurK m wa R s k) := Lib.hid (by rw [← hwa]; exact Whole.alloc h _)
  have HZa : Hid (Whole wa S0 27 #[.int .i64 0, .int .i64 0, .string ⟨#[]⟩, .slice none 0 0, .slice none 0 0]) := Lib.hid (by rw [← hwa, ← hSS]; exact Whole.made w _ _)
  have HGa : Hid (w.grownBy wa (some R)) := Lib.hid (by rw [← hwa]; exact gr_alloc (gr_refl _ _) _)
  have HLa := Lib.hid (hLs.grownR HGa.out hR2)
  have HSa := Lib.hid (hSh.grownR HGa.out hR1)
  have HIH := Lib.hid ih
  have HSw := Lib.hid hSh
  have HLw := Lib.hid hLs
  have hk1le : k + wl s.data.toList k ≤ s.size := by have := wl_le s.data.toList k (by omega); omega
  have HC0 := word_any R k s wa HCa.out hs hk
  unfold Worded at HC0
  obtain ⟨k1, hk1⟩ : ∃ z, k + wl s.data.toList k = z := ⟨_, rfl⟩
  rw [hk1] at HC0 hk1le hwk
  obtain ⟨tw, htw⟩ : ∃ z, s.extract k k1 = z := ⟨_, rfl⟩
  rw [htw] at HC0 hwk
  have HK1 := Lib.hid hk1
  have HWK0 := Lib.hid hwk
  have HWRD : Hid (∀ K2 R2, At s.data.toList k m K2 R2 → true = true ∧ ∃ t2 S2 ks2, K2 = .mk 3 f t2 S2 ks2) := Lib.hid (at_word (by rw [hk1, htw]; exact hwk))
  clear hwa h hSh hLs ih hSS htw hk1 hl hwk
  go_enter Tryz.func31, Tryz.ntmps31
  go_wp2_with fail
  try rw [HSS.out, HWA.out]
  refine HC0.mono ?_
  rintro e w1 ⟨rfl, hc, hg⟩
  clear HC0
  have HC1 := Lib.hid hc
  have HG1 := Lib.hid (gr_trans HGa.out hg)
  have HZ1 := Lib.hid (HZa.out.grown hg (fun e => by cases e; omega))
  have HL1 := Lib.hid (HLa.out.grownR hg hR2)
  have HS1 := Lib.hid (HSa.out.grownR hg hR1)
  clear hc hg
  go_wp2_with fail
  refine (wordkey_any (t := tw) w1 HL1.out).mono ?_
  rintro e w2 ⟨kd', f', o', hwk2, rfl, hb⟩
  obtain ⟨hwk4, hwk3⟩ := Prod.mk.inj (hwk2.symm.trans HWK0.out)
  obtain ⟨hwk5, hwk6⟩ := Prod.mk.inj hwk3
  subst hwk4
  subst hwk5
  subst hwk6
  have HC2 : Hid (CurK m w2 R s k1) := Lib.hid (Whole.below HC1.out hb (Whole.lt HC1.out))
  have HG2 := Lib.hid (gr_trans HG1.out (gr_below hb (some R)))
  have HZ2 := Lib.hid (HZ1.out.below hb HZ1.out.lt)
  have HS2 := Lib.hid (HS1.out.below hb (Nat.le_refl _))
  have HL2 := Lib.hid (HL1.out.below hb (Nat.le_refl _))
  clear hb hwk2
  obtain ⟨D, hD⟩ : ∃ D, w2.heap.size = D := ⟨_, rfl⟩
  have HDD := Lib.hid hD
  have hSD : S0 < D := by have := HZ2.out.lt; omega
  obtain ⟨w3, hw3⟩ : ∃ z, w2.alloc (.cells #[.int .i64 3, .int .i64 f', .string ⟨#[]⟩, .slice none 0 0, .slice none 0 0] 27) = z := ⟨_, rfl⟩
  have HW3 := Lib.hid hw3
  have HX3 : Hid (Whole w3 D 27 #[.int .i64 3, .int .i64 f', .string ⟨#[]⟩, .slice none 0 0, .slice none 0 0]) := Lib.hid (by rw [← hw3, ← hD]; exact Whole.made w2 _ _)
  have HC3 : Hid (CurK m w3 R s k1) := Lib.hid (by rw [← hw3]; exact Whole.alloc HC2.out _)
  have HG3 : Hid (w.grownBy w3 (some R)) := Lib.hid (by rw [← hw3]; exact gr_alloc HG2.out _)
  have HZ3 : Hid (Whole w3 S0 27 #[.int .i64 0, .int .i64 0, .string ⟨#[]⟩, .slice none 0 0, .slice none 0 0]) := Lib.hid (by rw [← hw3]; exact HZ2.out.alloc _)
  have HS3 : Hid (Shp w3) := Lib.hid (by rw [← hw3]; exact HS2.out.below (below_new w2 _) (Nat.le_refl _))
  have HL3 : Hid (Lst w3) := Lib.hid (by rw [← hw3]; exact HL2.out.below (below_new w2 _) (Nat.le_refl _))
  clear hD hw3
  go_upto_region 2 with fail
  rw [HDD.out, HW3.out]
  have hdm : decide (0 < m) = true := decide_eq_true hm0
  go_wp2_with fail
  refine (spendK R m k1 s w3 HC3.out hm).mono ?_
  rintro e w4 ⟨he, hc, hg⟩
  rw [hdm] at he
  subst he
  have HC4 := Lib.hid hc
  have HG4 := Lib.hid (gr_trans HG3.out hg)
  have HZ4 := Lib.hid (HZ3.out.grown hg (fun e => by cases e; omega))
  have HX4 := Lib.hid (HX3.out.grown hg (fun e => by cases e; omega))
  have HS4 := Lib.hid (HS3.out.grownR hg hR1)
  clear hc hg hdm
  have sz : 0 < w4.heap.size := HS4.out.1
  have s0 : w4.cell? ⟨0, 12, none⟩ = some (.bool false) := HS4.out.2 12 (by decide)
  have s1 : w4.cell? ⟨0, 13, none⟩ = some (.bool false) := HS4.out.2 13 (by decide)
  have s2 : w4.cell? ⟨0, 14, none⟩ = some (.bool true) := HS4.out.2 14 (by decide)
  have s3 : w4.cell? ⟨0, 15, none⟩ = some (.int .i64 0) := HS4.out.2 15 (by decide)
  have xc0 := HX4.out.cell 0
  simp only [List.getElem?_toArray, List.getElem?_cons_zero, List.getElem?_cons_succ] at xc0
  obtain ⟨D6, hD6⟩ : ∃ D, w4.heap.size = D := ⟨_, rfl⟩
  have HDD6 := Lib.hid hD6
  have hDD6 : D < D6 := by have := HX4.out.lt; omega
  obtain ⟨w5, hw5⟩ : ∃ z, w4.alloc (.cells #[.bool false, .bool false, .bool true, .int .i64 0] 99) = z := ⟨_, rfl⟩
  have HW5 := Lib.hid hw5
  have H65 : Hid (Whole w5 D6 99 #[.bool false, .bool false, .bool true, .int .i64 ((0 : Nat) : Int)]) := Lib.hid (by rw [← hw5, ← hD6]; exact Whole.made w4 _ _)
  have HC5 : Hid (CurK (m - 1) w5 R s k1) := Lib.hid (by rw [← hw5]; exact Whole.alloc HC4.out _)
  have HG5 : Hid (w.grownBy w5 (some R)) := Lib.hid (by rw [← hw5]; exact gr_alloc HG4.out _)
  have HZ5 : Hid (Whole w5 S0 27 #[.int .i64 0, .int .i64 0, .string ⟨#[]⟩, .slice none 0 0, .slice none 0 0]) := Lib.hid (by rw [← hw5]; exact HZ4.out.alloc _)
  have HX5 : Hid (Whole w5 D 27 #[.int .i64 3, .int .i64 f', .string ⟨#[]⟩, .slice none 0 0, .slice none 0 0]) := Lib.hid (by rw [← hw5]; exact HX4.out.alloc _)
  clear hD6 hw5
  go_upto_region 5 with fail
  rw [HDD6.out, HW5.out]
  clear sz s0 s1 s2 s3 xc0
  have yc1 := H65.out.cell 1
  have yc2 := H65.out.cell 2
  simp only [List.getElem?_toArray, List.getElem?_cons_zero, List.getElem?_cons_succ] at yc1 yc2
  have hRD : R < D := by omega
  have hl : s.data.toList.length = s.size := by simp
  have hq : skp s.data.toList k1 ≤ s.size := by have := skp_le (L := s.data.toList) (k := k1) (by omega); omega
  have hk2le : skp s.data.toList k1 + wl s.data.toList (skp s.data.toList k1) ≤ s.size := by have := wl_le s.data.toList (skp s.data.toList k1) (by omega); omega
  have HN0 := nextword_any R k1 s w5 HC5.out hs hk1le
  unfold Worded at HN0
  obtain ⟨kq, hkq⟩ : ∃ z, skp s.data.toList k1 = z := ⟨_, rfl⟩
  rw [hkq] at HN0 hk2le
  obtain ⟨k2, hk2⟩ : ∃ z, kq + wl s.data.toList kq = z := ⟨_, rfl⟩
  rw [hk2] at HN0 hk2le
  obtain ⟨tx, htx⟩ : ∃ z, s.extract kq k2 = z := ⟨_, rfl⟩
  rw [htx] at HN0
  have HTX : Hid (tx.size ≤ 16777216) := Lib.hid (by rw [← htx, ByteArray.size_extract]; omega)
  have HKQ := Lib.hid hkq
  have HK2 := Lib.hid hk2
  have HTE := Lib.hid htx
  clear hl hq hkq hk2 htx
  go_wp2_with fail
  refine HN0.mono ?_
  rintro e w6 ⟨rfl, hc, hg⟩
  clear HN0 yc1 yc2
  have HC6 := Lib.hid hc
  have HG6 := Lib.hid (gr_trans HG5.out hg)
  have HZ6 := Lib.hid (HZ5.out.grown hg (fun e => by cases e; omega))
  have HX6 := Lib.hid (HX5.out.grown hg (fun e => by cases e; omega))
  have H66 := Lib.hid (H65.out.grown hg (fun e => by cases e; omega))
  clear hc hg
  go_wp2_with fail
  refine (impl_setparse tx w6 HTX.out).mono ?_
  rintro e w7 ⟨v, rfl, hown, hb⟩
  obtain ⟨AS, nS, cS, rfl⟩ := own_slice hown
  obtain ⟨SS, hSSe⟩ : ∃ z, up ((setO tx.data.toList).getD []) = z := ⟨_, rfl⟩
  rw [hSSe] at hown
  have HSE := Lib.hid hSSe
  obtain ⟨os, hos⟩ : ∃ z, (setO tx.data.toList).isSome = z := ⟨_, rfl⟩
  try rw [hos]
  have hB6 : D + 1 ≤ w6.heap.size := HX6.out.lt
  have HLf7 : Hid (KA (D + 1) w7.heap.size w7 (.mk 3 f' ⟨#[]⟩ SS []) (kval (3, f', ⟨#[]⟩, (AS, nS, cS), (none, 0, 0)))) := Lib.hid (by
    obtain ⟨h1, h2⟩ := spa_own1 hown hB6
    refine ka_leaf (by decide) h2 ?_ h1
    rw [← h2, ← hSSe]
    have : (up ((setO tx.data.toList).getD [])).length ≤ 6 := by
      cases hh : setO tx.data.toList with
      | none => decide
      | some l => rw [Option.getD_some, up_len]; exact (set_mem hh).2.1
    omega)
  have HC7 : Hid (CurK (m - 1) w7 R s k2) := Lib.hid (Whole.below HC6.out hb (Whole.lt HC6.out))
  have HG7 := Lib.hid (gr_trans HG6.out (gr_below hb (some R)))
  have HZ7 := Lib.hid (HZ6.out.below hb HZ6.out.lt)
  have HX7 := Lib.hid (HX6.out.below hb HX6.out.lt)
  have H67 := Lib.hid (H66.out.below hb H66.out.lt)
  clear hb hown hSSe hos
  have xc3 := HX7.out.cell 3
  have xf3 := HX7.out.free 3
  simp only [List.getElem?_toArray, List.getElem?_cons_zero, List.getElem?_cons_succ] at xc3
  obtain ⟨w8, hw8⟩ : ∃ z, w7.setCell ⟨D, 3, none⟩ (.slice AS nS cS) = z := ⟨_, rfl⟩
  have HW8 := Lib.hid hw8
  have hgs : w7.grownBy w8 (some D) := by rw [← hw8]; exact gr_one (gr_refl _ _) _ _
  have HC8 : Hid (CurK (m - 1) w8 R s k2) := Lib.hid (Whole.grown HC7.out hgs (fun e => by cases e; omega))
  have HG8 := Lib.hid (gr_row1 HG7.out hgs (fun g e => by cases e; have := HSS.out; omega))
  have HZ8 := Lib.hid (HZ7.out.grown hgs (fun e => by cases e; omega))
  have HX8 : Hid (Whole w8 D 27 #[.int .i64 3, .int .i64 f', .string ⟨#[]⟩, .slice AS nS cS, .slice none 0 0]) := Lib.hid (by rw [← hw8]; exact HX7.out.store 3 _)
  have H68 := Lib.hid (H67.out.grown hgs (fun e => by cases e; omega))
  have HLf := Lib.hid ((HLf7.out.grown hgs (fun g e => by cases e; omega)).widen (Nat.le_refl _) hgs.size)
  clear hw8 hgs HLf7
  go_upto_region 9 with fail
  rw [HW8.out]
  clear xc3 xf3
  have HCI := Lib.hid (show CI s.data.toList k m 3 f' ⟨#[]⟩ SS [] 0 k2 (m - 1) from ci_set (by decide) HK1.out (by rw [HKQ.out]; exact HK2.out) (by rw [HKQ.out]; exact HTE.out) HSE.out)
  obtain ⟨E, hE⟩ : ∃ E, w8.heap.size = E := ⟨_, rfl⟩
  have h6E : D6 < E := by have := H68.out.lt; omega
  rw [hE] at HLf
  have HB0 : Hid (RdL w R S0 D D6 E 0 s k m 3 f' ⟨#[]⟩ SS AS nS cS false false true 0 w8) := Lib.hid (rdl_begin hE hk2le (by omega) HC8.out HG8.out HZ8.out HX8.out H68.out HLf.out HCI.out)
  have yc3 := H68.out.cell 3
  simp only [List.getElem?_toArray, List.getElem?_cons_zero, List.getElem?_cons_succ, Int.natCast_zero, Int.cast_ofNat_Int] at yc3
  clear hE
  go_wp2
  clear yc3
  go_loopw [7, 8, 45] (fun _ _ iv wr => ∃ i : Nat, i ≤ 0 ∧ iv = .int .i64 (i : Int) ∧ Hid (RdL w R S0 D D6 E 0 s k m 3 f' ⟨#[]⟩ SS AS nS cS false false true i wr)) (fun _ _ iv _ => 0 - (intOf iv).toNat)
  case atStart => exact ⟨0, Nat.zero_le _, by go_num, HB0⟩
  case round =>
    obtain ⟨i, hin, rfl, HREL⟩ := hrel
    obtain ⟨A, cap, base, h, k', m', ks, rs, hba, hEh, hhw, hbw, hk', hm', hA0, hOB, HC, HG, HZ, HX, H6, HO, HK, HL, HCI⟩ := HREL.out
    obtain rfl : i = 0 := by omega
    have h5 : ¬ ((0 : Nat) : Int) < 0 := by decide
    have xc0 := HX.out.cell 0
    have xc1 := HX.out.cell 1
    have xc2 := HX.out.cell 2
    have xc3 := HX.out.cell 3
    have xc4 := HX.out.cell 4
    simp only [List.getElem?_toArray, List.getElem?_cons_zero, List.getElem?_cons_succ] at xc0 xc1 xc2 xc3 xc4
    have zc0 := HZ.out.cell 0
    have zc1 := HZ.out.cell 1
    have zc2 := HZ.out.cell 2
    have zc3 := HZ.out.cell 3
    have zc4 := HZ.out.cell 4
    have zf0 := HZ.out.free 0
    have zf1 := HZ.out.free 1
    have zf2 := HZ.out.free 2
    have zf3 := HZ.out.free 3
    have zf4 := HZ.out.free 4
    simp only [List.getElem?_toArray, List.getElem?_cons_zero, List.getElem?_cons_succ] at zc0 zc1 zc2 zc3 zc4
    go_wp2
    refine bodyPost_ret (v := .tuple #[.agg #[.int .i64 3, .int .i64 f', .string ⟨#[]⟩, .slice AS nS cS, .slice A 0 cap], .bool true]) (by rw [results_cell_tmp Tryz.results31]; go_simp) rfl ?_
    exact rdk_end HSS.out hRS hSD (by omega) hba hEh hhw hk' hm' HC.out HG.out HO.out HK.out HL.out rfl HCI.out (fun K2 R2 ha => (HWRD.out K2 R2 ha).2) HSZ.out _ _ _ _ _
set_option maxRecDepth 20000 in
set_option maxHeartbeats 16000000 in
theorem rkey_step_4 {m R k : Nat} {s : ByteArray} (w : World) (hs : s.size ≤ 16777216) (hm : m ≤ 9) (hR1 : 0 < R) (hR2 : 1 < R) (hk : k ≤ s.size) (h : CurK m w R s k) (hSh : Shp w) (hLs : Lst w)
    (ih : ∀ (m1 k1 : Nat) (w1 : World), m1 < m → k1 ≤ s.size → CurK m1 w1 R s k1 → Shp w1 → Lst w1 → Calls Tryz.prog 31 #[.pointer (some ⟨R, 0, none⟩)] w1 (RdK m1 R s k1 w1)) {f : Int} (hwk : wk (s.extract k (k + wl s.data.toList k)).data.toList = (4, f, true)) (hm0 : 0 < m) :
    Calls Tryz.prog 31 #[.pointer (some ⟨R, 0, none⟩)] w (RdK m R s k w) := by
  have HSZ : Hid (0 < s.size) := Lib.hid (by
    rcases Nat.eq_zero_or_pos s.size with h0 | h0
    · have h1 : (s.extract k (k + wl s.data.toList k)).data.toList = [] := List.length_eq_zero_iff.1 (by rw [← size_txt, ByteArray.size_extract]; omega)
      have h2 : wk [] = (0, 0, false) := by decide
      rw [h1, h2] at hwk
      have h3 := (Prod.mk.inj (Prod.mk.inj hwk).2).2
      cases h3
    · exact h0)
  have hl : s.data.toList.length = s.size := by simp
  obtain ⟨S0, hSS⟩ : ∃ B, w.heap.size = B := ⟨_, rfl⟩
  have HSS := Lib.hid hSS
  have hRS : R < S0 := by have := Whole.lt h; omega
  obtain ⟨wa, hwa⟩ : ∃ wa, w.alloc (.cells #[.int .i64 0, .int .i64 0, .string ⟨#[]⟩, .slice none 0 0, .slice none 0 0] 27) = wa := ⟨_, rfl⟩
  have HWA := Lib.hid hwa
  have HCa : Hid (CurK m wa R s k) := Lib.hid (by rw [← hwa]; exact Whole.alloc h _)
  have HZa : Hid (Whole wa S0 27 #[.int .i64 0, .int .i64 0, .string ⟨#[]⟩, .slice none 0 0, .slice none 0 0]) := Lib.hid (by rw [← hwa, ← hSS]; exact Whole.made w _ _)
  have HGa : Hid (w.grownBy wa (some R)) := Lib.hid (by rw [← hwa]; exact gr_alloc (gr_refl _ _) _)
  have HLa := Lib.hid (hLs.grownR HGa.out hR2)
  have HSa := Lib.hid (hSh.grownR HGa.out hR1)
  have HIH := Lib.hid ih
  have HSw := Lib.hid hSh
  have HLw := Lib.hid hLs
  have hk1le : k + wl s.data.toList k ≤ s.size := by have := wl_le s.data.toList k (by omega); omega
  have HC0 := word_any R k s wa HCa.out hs hk
  unfold Worded at HC0
  obtain ⟨k1, hk1⟩ : ∃ z, k + wl s.data.toList k = z := ⟨_, rfl⟩
  rw [hk1] at HC0 hk1le hwk
  obtain ⟨tw, htw⟩ : ∃ z, s.extract k k1 = z := ⟨_, rfl⟩
  rw [htw] at HC0 hwk
  have HK1 := Lib.hid hk1
  have HWK0 := Lib.hid hwk
  have HWRD : Hid (∀ K2 R2, At s.data.toList k m K2 R2 → true = true ∧ ∃ t2 S2 ks2, K2 = .mk 4 f t2 S2 ks2) := Lib.hid (at_word (by rw [hk1, htw]; exact hwk))
  clear hwa h hSh hLs ih hSS htw hk1 hl hwk
  go_enter Tryz.func31, Tryz.ntmps31
  go_wp2_with fail
  try rw [HSS.out, HWA.out]
  refine HC0.mono ?_
  rintro e w1 ⟨rfl, hc, hg⟩
  clear HC0
  have HC1 := Lib.hid hc
  have HG1 := Lib.hid (gr_trans HGa.out hg)
  have HZ1 := Lib.hid (HZa.out.grown hg (fun e => by cases e; omega))
  have HL1 := Lib.hid (HLa.out.grownR hg hR2)
  have HS1 := Lib.hid (HSa.out.grownR hg hR1)
  clear hc hg
  go_wp2_with fail
  refine (wordkey_any (t := tw) w1 HL1.out).mono ?_
  rintro e w2 ⟨kd', f', o', hwk2, rfl, hb⟩
  obtain ⟨hwk4, hwk3⟩ := Prod.mk.inj (hwk2.symm.trans HWK0.out)
  obtain ⟨hwk5, hwk6⟩ := Prod.mk.inj hwk3
  subst hwk4
  subst hwk5
  subst hwk6
  have HC2 : Hid (CurK m w2 R s k1) := Lib.hid (Whole.below HC1.out hb (Whole.lt HC1.out))
  have HG2 := Lib.hid (gr_trans HG1.out (gr_below hb (some R)))
  have HZ2 := Lib.hid (HZ1.out.below hb HZ1.out.lt)
  have HS2 := Lib.hid (HS1.out.below hb (Nat.le_refl _))
  have HL2 := Lib.hid (HL1.out.below hb (Nat.le_refl _))
  clear hb hwk2
  obtain ⟨D, hD⟩ : ∃ D, w2.heap.size = D := ⟨_, rfl⟩
  have HDD := Lib.hid hD
  have hSD : S0 < D := by have := HZ2.out.lt; omega
  obtain ⟨w3, hw3⟩ : ∃ z, w2.alloc (.cells #[.int .i64 4, .int .i64 f', .string ⟨#[]⟩, .slice none 0 0, .slice none 0 0] 27) = z := ⟨_, rfl⟩
  have HW3 := Lib.hid hw3
  have HX3 : Hid (Whole w3 D 27 #[.int .i64 4, .int .i64 f', .string ⟨#[]⟩, .slice none 0 0, .slice none 0 0]) := Lib.hid (by rw [← hw3, ← hD]; exact Whole.made w2 _ _)
  have HC3 : Hid (CurK m w3 R s k1) := Lib.hid (by rw [← hw3]; exact Whole.alloc HC2.out _)
  have HG3 : Hid (w.grownBy w3 (some R)) := Lib.hid (by rw [← hw3]; exact gr_alloc HG2.out _)
  have HZ3 : Hid (Whole w3 S0 27 #[.int .i64 0, .int .i64 0, .string ⟨#[]⟩, .slice none 0 0, .slice none 0 0]) := Lib.hid (by rw [← hw3]; exact HZ2.out.alloc _)
  have HS3 : Hid (Shp w3) := Lib.hid (by rw [← hw3]; exact HS2.out.below (below_new w2 _) (Nat.le_refl _))
  have HL3 : Hid (Lst w3) := Lib.hid (by rw [← hw3]; exact HL2.out.below (below_new w2 _) (Nat.le_refl _))
  clear hD hw3
  go_upto_region 2 with fail
  rw [HDD.out, HW3.out]
  have hdm : decide (0 < m) = true := decide_eq_true hm0
  go_wp2_with fail
  refine (spendK R m k1 s w3 HC3.out hm).mono ?_
  rintro e w4 ⟨he, hc, hg⟩
  rw [hdm] at he
  subst he
  have HC4 := Lib.hid hc
  have HG4 := Lib.hid (gr_trans HG3.out hg)
  have HZ4 := Lib.hid (HZ3.out.grown hg (fun e => by cases e; omega))
  have HX4 := Lib.hid (HX3.out.grown hg (fun e => by cases e; omega))
  have HS4 := Lib.hid (HS3.out.grownR hg hR1)
  clear hc hg hdm
  have sz : 0 < w4.heap.size := HS4.out.1
  have s0 : w4.cell? ⟨0, 16, none⟩ = some (.bool false) := HS4.out.2 16 (by decide)
  have s1 : w4.cell? ⟨0, 17, none⟩ = some (.bool false) := HS4.out.2 17 (by decide)
  have s2 : w4.cell? ⟨0, 18, none⟩ = some (.bool true) := HS4.out.2 18 (by decide)
  have s3 : w4.cell? ⟨0, 19, none⟩ = some (.int .i64 0) := HS4.out.2 19 (by decide)
  have xc0 := HX4.out.cell 0
  simp only [List.getElem?_toArray, List.getElem?_cons_zero, List.getElem?_cons_succ] at xc0
  obtain ⟨D6, hD6⟩ : ∃ D, w4.heap.size = D := ⟨_, rfl⟩
  have HDD6 := Lib.hid hD6
  have hDD6 : D < D6 := by have := HX4.out.lt; omega
  obtain ⟨w5, hw5⟩ : ∃ z, w4.alloc (.cells #[.bool false, .bool false, .bool true, .int .i64 0] 99) = z := ⟨_, rfl⟩
  have HW5 := Lib.hid hw5
  have H65 : Hid (Whole w5 D6 99 #[.bool false, .bool false, .bool true, .int .i64 ((0 : Nat) : Int)]) := Lib.hid (by rw [← hw5, ← hD6]; exact Whole.made w4 _ _)
  have HC5 : Hid (CurK (m - 1) w5 R s k1) := Lib.hid (by rw [← hw5]; exact Whole.alloc HC4.out _)
  have HG5 : Hid (w.grownBy w5 (some R)) := Lib.hid (by rw [← hw5]; exact gr_alloc HG4.out _)
  have HZ5 : Hid (Whole w5 S0 27 #[.int .i64 0, .int .i64 0, .string ⟨#[]⟩, .slice none 0 0, .slice none 0 0]) := Lib.hid (by rw [← hw5]; exact HZ4.out.alloc _)
  have HX5 : Hid (Whole w5 D 27 #[.int .i64 4, .int .i64 f', .string ⟨#[]⟩, .slice none 0 0, .slice none 0 0]) := Lib.hid (by rw [← hw5]; exact HX4.out.alloc _)
  clear hD6 hw5
  go_upto_region 5 with fail
  rw [HDD6.out, HW5.out]
  clear sz s0 s1 s2 s3 xc0
  have yc1 := H65.out.cell 1
  have yc2 := H65.out.cell 2
  simp only [List.getElem?_toArray, List.getElem?_cons_zero, List.getElem?_cons_succ] at yc1 yc2
  have hRD : R < D := by omega
  have hl : s.data.toList.length = s.size := by simp
  have hq : skp s.data.toList k1 ≤ s.size := by have := skp_le (L := s.data.toList) (k := k1) (by omega); omega
  have hk2le : skp s.data.toList k1 + wl s.data.toList (skp s.data.toList k1) ≤ s.size := by have := wl_le s.data.toList (skp s.data.toList k1) (by omega); omega
  have HN0 := nextword_any R k1 s w5 HC5.out hs hk1le
  unfold Worded at HN0
  obtain ⟨kq, hkq⟩ : ∃ z, skp s.data.toList k1 = z := ⟨_, rfl⟩
  rw [hkq] at HN0 hk2le
  obtain ⟨k2, hk2⟩ : ∃ z, kq + wl s.data.toList kq = z := ⟨_, rfl⟩
  rw [hk2] at HN0 hk2le
  obtain ⟨tx, htx⟩ : ∃ z, s.extract kq k2 = z := ⟨_, rfl⟩
  rw [htx] at HN0
  have HTX : Hid (tx.size ≤ 16777216) := Lib.hid (by rw [← htx, ByteArray.size_extract]; omega)
  have HKQ := Lib.hid hkq
  have HK2 := Lib.hid hk2
  have HTE := Lib.hid htx
  clear hl hq hkq hk2 htx
  go_wp2_with fail
  refine HN0.mono ?_
  rintro e w6 ⟨rfl, hc, hg⟩
  clear HN0 yc1 yc2
  have HC6 := Lib.hid hc
  have HG6 := Lib.hid (gr_trans HG5.out hg)
  have HZ6 := Lib.hid (HZ5.out.grown hg (fun e => by cases e; omega))
  have HX6 := Lib.hid (HX5.out.grown hg (fun e => by cases e; omega))
  have H66 := Lib.hid (H65.out.grown hg (fun e => by cases e; omega))
  clear hc hg
  go_wp2_with fail
  refine (impl_setparse tx w6 HTX.out).mono ?_
  rintro e w7 ⟨v, rfl, hown, hb⟩
  obtain ⟨AS, nS, cS, rfl⟩ := own_slice hown
  obtain ⟨SS, hSSe⟩ : ∃ z, up ((setO tx.data.toList).getD []) = z := ⟨_, rfl⟩
  rw [hSSe] at hown
  have HSE := Lib.hid hSSe
  obtain ⟨os, hos⟩ : ∃ z, (setO tx.data.toList).isSome = z := ⟨_, rfl⟩
  try rw [hos]
  have hB6 : D + 1 ≤ w6.heap.size := HX6.out.lt
  have HLf7 : Hid (KA (D + 1) w7.heap.size w7 (.mk 4 f' ⟨#[]⟩ SS []) (kval (4, f', ⟨#[]⟩, (AS, nS, cS), (none, 0, 0)))) := Lib.hid (by
    obtain ⟨h1, h2⟩ := spa_own1 hown hB6
    refine ka_leaf (by decide) h2 ?_ h1
    rw [← h2, ← hSSe]
    have : (up ((setO tx.data.toList).getD [])).length ≤ 6 := by
      cases hh : setO tx.data.toList with
      | none => decide
      | some l => rw [Option.getD_some, up_len]; exact (set_mem hh).2.1
    omega)
  have HC7 : Hid (CurK (m - 1) w7 R s k2) := Lib.hid (Whole.below HC6.out hb (Whole.lt HC6.out))
  have HG7 := Lib.hid (gr_trans HG6.out (gr_below hb (some R)))
  have HZ7 := Lib.hid (HZ6.out.below hb HZ6.out.lt)
  have HX7 := Lib.hid (HX6.out.below hb HX6.out.lt)
  have H67 := Lib.hid (H66.out.below hb H66.out.lt)
  clear hb hown hSSe hos
  have xc3 := HX7.out.cell 3
  have xf3 := HX7.out.free 3
  simp only [List.getElem?_toArray, List.getElem?_cons_zero, List.getElem?_cons_succ] at xc3
  obtain ⟨w8, hw8⟩ : ∃ z, w7.setCell ⟨D, 3, none⟩ (.slice AS nS cS) = z := ⟨_, rfl⟩
  have HW8 := Lib.hid hw8
  have hgs : w7.grownBy w8 (some D) := by rw [← hw8]; exact gr_one (gr_refl _ _) _ _
  have HC8 : Hid (CurK (m - 1) w8 R s k2) := Lib.hid (Whole.grown HC7.out hgs (fun e => by cases e; omega))
  have HG8 := Lib.hid (gr_row1 HG7.out hgs (fun g e => by cases e; have := HSS.out; omega))
  have HZ8 := Lib.hid (HZ7.out.grown hgs (fun e => by cases e; omega))
  have HX8 : Hid (Whole w8 D 27 #[.int .i64 4, .int .i64 f', .string ⟨#[]⟩, .slice AS nS cS, .slice none 0 0]) := Lib.hid (by rw [← hw8]; exact HX7.out.store 3 _)
  have H68 := Lib.hid (H67.out.grown hgs (fun e => by cases e; omega))
  have HLf := Lib.hid ((HLf7.out.grown hgs (fun g e => by cases e; omega)).widen (Nat.le_refl _) hgs.size)
  clear hw8 hgs HLf7
  go_upto_region 9 with fail
  rw [HW8.out]
  clear xc3 xf3
  have HCI := Lib.hid (show CI s.data.toList k m 4 f' ⟨#[]⟩ SS [] 0 k2 (m - 1) from ci_set (by decide) HK1.out (by rw [HKQ.out]; exact HK2.out) (by rw [HKQ.out]; exact HTE.out) HSE.out)
  obtain ⟨E, hE⟩ : ∃ E, w8.heap.size = E := ⟨_, rfl⟩
  have h6E : D6 < E := by have := H68.out.lt; omega
  rw [hE] at HLf
  have HB0 : Hid (RdL w R S0 D D6 E 0 s k m 4 f' ⟨#[]⟩ SS AS nS cS false false true 0 w8) := Lib.hid (rdl_begin hE hk2le (by omega) HC8.out HG8.out HZ8.out HX8.out H68.out HLf.out HCI.out)
  have yc3 := H68.out.cell 3
  simp only [List.getElem?_toArray, List.getElem?_cons_zero, List.getElem?_cons_succ, Int.natCast_zero, Int.cast_ofNat_Int] at yc3
  clear hE
  go_wp2
  clear yc3
  go_loopw [7, 8, 45] (fun _ _ iv wr => ∃ i : Nat, i ≤ 0 ∧ iv = .int .i64 (i : Int) ∧ Hid (RdL w R S0 D D6 E 0 s k m 4 f' ⟨#[]⟩ SS AS nS cS false false true i wr)) (fun _ _ iv _ => 0 - (intOf iv).toNat)
  case atStart => exact ⟨0, Nat.zero_le _, by go_num, HB0⟩
  case round =>
    obtain ⟨i, hin, rfl, HREL⟩ := hrel
    obtain ⟨A, cap, base, h, k', m', ks, rs, hba, hEh, hhw, hbw, hk', hm', hA0, hOB, HC, HG, HZ, HX, H6, HO, HK, HL, HCI⟩ := HREL.out
    obtain rfl : i = 0 := by omega
    have h5 : ¬ ((0 : Nat) : Int) < 0 := by decide
    have xc0 := HX.out.cell 0
    have xc1 := HX.out.cell 1
    have xc2 := HX.out.cell 2
    have xc3 := HX.out.cell 3
    have xc4 := HX.out.cell 4
    simp only [List.getElem?_toArray, List.getElem?_cons_zero, List.getElem?_cons_succ] at xc0 xc1 xc2 xc3 xc4
    have zc0 := HZ.out.cell 0
    have zc1 := HZ.out.cell 1
    have zc2 := HZ.out.cell 2
    have zc3 := HZ.out.cell 3
    have zc4 := HZ.out.cell 4
    have zf0 := HZ.out.free 0
    have zf1 := HZ.out.free 1
    have zf2 := HZ.out.free 2
    have zf3 := HZ.out.free 3
    have zf4 := HZ.out.free 4
    simp only [List.getElem?_toArray, List.getElem?_cons_zero, List.getElem?_cons_succ] at zc0 zc1 zc2 zc3 zc4
    go_wp2
    refine bodyPost_ret (v := .tuple #[.agg #[.int .i64 4, .int .i64 f', .string ⟨#[]⟩, .slice AS nS cS, .slice A 0 cap], .bool true]) (by rw [results_cell_tmp Tryz.results31]; go_simp) rfl ?_
    exact rdk_end HSS.out hRS hSD (by omega) hba hEh hhw hk' hm' HC.out HG.out HO.out HK.out HL.out rfl HCI.out (fun K2 R2 ha => (HWRD.out K2 R2 ha).2) HSZ.out _ _ _ _ _
set_option maxRecDepth 20000 in
set_option maxHeartbeats 16000000 in
theorem rkey_step_5 {m R k : Nat} {s : ByteArray} (w : World) (hs : s.size ≤ 16777216) (hm : m ≤ 9) (hR1 : 0 < R) (hR2 : 1 < R) (hk : k ≤ s.size) (h : CurK m w R s k) (hSh : Shp w) (hLs : Lst w)
    (ih : ∀ (m1 k1 : Nat) (w1 : World), m1 < m → k1 ≤ s.size → CurK m1 w1 R s k1 → Shp w1 → Lst w1 → Calls Tryz.prog 31 #[.pointer (some ⟨R, 0, none⟩)] w1 (RdK m1 R s k1 w1)) {f : Int} (hwk : wk (s.extract k (k + wl s.data.toList k)).data.toList = (5, f, true)) (hm0 : 0 < m) :
    Calls Tryz.prog 31 #[.pointer (some ⟨R, 0, none⟩)] w (RdK m R s k w) := by
  have HSZ : Hid (0 < s.size) := Lib.hid (by
    rcases Nat.eq_zero_or_pos s.size with h0 | h0
    · have h1 : (s.extract k (k + wl s.data.toList k)).data.toList = [] := List.length_eq_zero_iff.1 (by rw [← size_txt, ByteArray.size_extract]; omega)
      have h2 : wk [] = (0, 0, false) := by decide
      rw [h1, h2] at hwk
      have h3 := (Prod.mk.inj (Prod.mk.inj hwk).2).2
      cases h3
    · exact h0)
  have hl : s.data.toList.length = s.size := by simp
  obtain ⟨S0, hSS⟩ : ∃ B, w.heap.size = B := ⟨_, rfl⟩
  have HSS := Lib.hid hSS
  have hRS : R < S0 := by have := Whole.lt h; omega
  obtain ⟨wa, hwa⟩ : ∃ wa, w.alloc (.cells #[.int .i64 0, .int .i64 0, .string ⟨#[]⟩, .slice none 0 0, .slice none 0 0] 27) = wa := ⟨_, rfl⟩
  have HWA := Lib.hid hwa
  have HCa : Hid (CurK m wa R s k) := Lib.hid (by rw [← hwa]; exact Whole.alloc h _)
  have HZa : Hid (Whole wa S0 27 #[.int .i64 0, .int .i64 0, .string ⟨#[]⟩, .slice none 0 0, .slice none 0 0]) := Lib.hid (by rw [← hwa, ← hSS]; exact Whole.made w _ _)
  have HGa : Hid (w.grownBy wa (some R)) := Lib.hid (by rw [← hwa]; exact gr_alloc (gr_refl _ _) _)
  have HLa := Lib.hid (hLs.grownR HGa.out hR2)
  have HSa := Lib.hid (hSh.grownR HGa.out hR1)
  have HIH := Lib.hid ih
  have HSw := Lib.hid hSh
  have HLw := Lib.hid hLs
  have hk1le : k + wl s.data.toList k ≤ s.size := by have := wl_le s.data.toList k (by omega); omega
  have HC0 := word_any R k s wa HCa.out hs hk
  unfold Worded at HC0
  obtain ⟨k1, hk1⟩ : ∃ z, k + wl s.data.toList k = z := ⟨_, rfl⟩
  rw [hk1] at HC0 hk1le hwk
  obtain ⟨tw, htw⟩ : ∃ z, s.extract k k1 = z := ⟨_, rfl⟩
  rw [htw] at HC0 hwk
  have HK1 := Lib.hid hk1
  have HWK0 := Lib.hid hwk
  have HWRD : Hid (∀ K2 R2, At s.data.toList k m K2 R2 → true = true ∧ ∃ t2 S2 ks2, K2 = .mk 5 f t2 S2 ks2) := Lib.hid (at_word (by rw [hk1, htw]; exact hwk))
  clear hwa h hSh hLs ih hSS htw hk1 hl hwk
  go_enter Tryz.func31, Tryz.ntmps31
  go_wp2_with fail
  try rw [HSS.out, HWA.out]
  refine HC0.mono ?_
  rintro e w1 ⟨rfl, hc, hg⟩
  clear HC0
  have HC1 := Lib.hid hc
  have HG1 := Lib.hid (gr_trans HGa.out hg)
  have HZ1 := Lib.hid (HZa.out.grown hg (fun e => by cases e; omega))
  have HL1 := Lib.hid (HLa.out.grownR hg hR2)
  have HS1 := Lib.hid (HSa.out.grownR hg hR1)
  clear hc hg
  go_wp2_with fail
  refine (wordkey_any (t := tw) w1 HL1.out).mono ?_
  rintro e w2 ⟨kd', f', o', hwk2, rfl, hb⟩
  obtain ⟨hwk4, hwk3⟩ := Prod.mk.inj (hwk2.symm.trans HWK0.out)
  obtain ⟨hwk5, hwk6⟩ := Prod.mk.inj hwk3
  subst hwk4
  subst hwk5
  subst hwk6
  have HC2 : Hid (CurK m w2 R s k1) := Lib.hid (Whole.below HC1.out hb (Whole.lt HC1.out))
  have HG2 := Lib.hid (gr_trans HG1.out (gr_below hb (some R)))
  have HZ2 := Lib.hid (HZ1.out.below hb HZ1.out.lt)
  have HS2 := Lib.hid (HS1.out.below hb (Nat.le_refl _))
  have HL2 := Lib.hid (HL1.out.below hb (Nat.le_refl _))
  clear hb hwk2
  obtain ⟨D, hD⟩ : ∃ D, w2.heap.size = D := ⟨_, rfl⟩
  have HDD := Lib.hid hD
  have hSD : S0 < D := by have := HZ2.out.lt; omega
  obtain ⟨w3, hw3⟩ : ∃ z, w2.alloc (.cells #[.int .i64 5, .int .i64 f', .string ⟨#[]⟩, .slice none 0 0, .slice none 0 0] 27) = z := ⟨_, rfl⟩
  have HW3 := Lib.hid hw3
  have HX3 : Hid (Whole w3 D 27 #[.int .i64 5, .int .i64 f', .string ⟨#[]⟩, .slice none 0 0, .slice none 0 0]) := Lib.hid (by rw [← hw3, ← hD]; exact Whole.made w2 _ _)
  have HC3 : Hid (CurK m w3 R s k1) := Lib.hid (by rw [← hw3]; exact Whole.alloc HC2.out _)
  have HG3 : Hid (w.grownBy w3 (some R)) := Lib.hid (by rw [← hw3]; exact gr_alloc HG2.out _)
  have HZ3 : Hid (Whole w3 S0 27 #[.int .i64 0, .int .i64 0, .string ⟨#[]⟩, .slice none 0 0, .slice none 0 0]) := Lib.hid (by rw [← hw3]; exact HZ2.out.alloc _)
  have HS3 : Hid (Shp w3) := Lib.hid (by rw [← hw3]; exact HS2.out.below (below_new w2 _) (Nat.le_refl _))
  have HL3 : Hid (Lst w3) := Lib.hid (by rw [← hw3]; exact HL2.out.below (below_new w2 _) (Nat.le_refl _))
  clear hD hw3
  go_upto_region 2 with fail
  rw [HDD.out, HW3.out]
  have hdm : decide (0 < m) = true := decide_eq_true hm0
  go_wp2_with fail
  refine (spendK R m k1 s w3 HC3.out hm).mono ?_
  rintro e w4 ⟨he, hc, hg⟩
  rw [hdm] at he
  subst he
  have HC4 := Lib.hid hc
  have HG4 := Lib.hid (gr_trans HG3.out hg)
  have HZ4 := Lib.hid (HZ3.out.grown hg (fun e => by cases e; omega))
  have HX4 := Lib.hid (HX3.out.grown hg (fun e => by cases e; omega))
  have HS4 := Lib.hid (HS3.out.grownR hg hR1)
  clear hc hg hdm
  have sz : 0 < w4.heap.size := HS4.out.1
  have s0 : w4.cell? ⟨0, 20, none⟩ = some (.bool false) := HS4.out.2 20 (by decide)
  have s1 : w4.cell? ⟨0, 21, none⟩ = some (.bool false) := HS4.out.2 21 (by decide)
  have s2 : w4.cell? ⟨0, 22, none⟩ = some (.bool false) := HS4.out.2 22 (by decide)
  have s3 : w4.cell? ⟨0, 23, none⟩ = some (.int .i64 1) := HS4.out.2 23 (by decide)
  have xc0 := HX4.out.cell 0
  simp only [List.getElem?_toArray, List.getElem?_cons_zero, List.getElem?_cons_succ] at xc0
  obtain ⟨D6, hD6⟩ : ∃ D, w4.heap.size = D := ⟨_, rfl⟩
  have HDD6 := Lib.hid hD6
  have hDD6 : D < D6 := by have := HX4.out.lt; omega
  obtain ⟨w5, hw5⟩ : ∃ z, w4.alloc (.cells #[.bool false, .bool false, .bool false, .int .i64 1] 99) = z := ⟨_, rfl⟩
  have HW5 := Lib.hid hw5
  have H65 : Hid (Whole w5 D6 99 #[.bool false, .bool false, .bool false, .int .i64 ((1 : Nat) : Int)]) := Lib.hid (by rw [← hw5, ← hD6]; exact Whole.made w4 _ _)
  have HC5 : Hid (CurK (m - 1) w5 R s k1) := Lib.hid (by rw [← hw5]; exact Whole.alloc HC4.out _)
  have HG5 : Hid (w.grownBy w5 (some R)) := Lib.hid (by rw [← hw5]; exact gr_alloc HG4.out _)
  have HZ5 : Hid (Whole w5 S0 27 #[.int .i64 0, .int .i64 0, .string ⟨#[]⟩, .slice none 0 0, .slice none 0 0]) := Lib.hid (by rw [← hw5]; exact HZ4.out.alloc _)
  have HX5 : Hid (Whole w5 D 27 #[.int .i64 5, .int .i64 f', .string ⟨#[]⟩, .slice none 0 0, .slice none 0 0]) := Lib.hid (by rw [← hw5]; exact HX4.out.alloc _)
  clear hD6 hw5
  go_upto_region 5 with fail
  rw [HDD6.out, HW5.out]
  clear sz s0 s1 s2 s3 xc0
  have yc1 := H65.out.cell 1
  have yc2 := H65.out.cell 2
  simp only [List.getElem?_toArray, List.getElem?_cons_zero, List.getElem?_cons_succ] at yc1 yc2
  have hRD : R < D := by omega
  clear yc1 yc2
  have yc1 := H65.out.cell 1
  have yc2 := H65.out.cell 2
  simp only [List.getElem?_toArray, List.getElem?_cons_zero, List.getElem?_cons_succ] at yc1 yc2
  go_upto_region 9 with fail
  clear yc1 yc2
  have HLf := Lib.hid (ka_leaf (lo := D + 1) (hi := w5.heap.size) (w := w5) (kd := 5) (f := f') (t := ⟨#[]⟩) (by decide) (S := []) (A := none) (n := 0) (c := 0) rfl (by decide) (SpA.nil _ _))
  have HCI := Lib.hid (show CI s.data.toList k m 5 f' ⟨#[]⟩ [] [] 0 k1 (m - 1) by rw [← HK1.out]; exact ci_plain (by decide) (by decide) (by decide))
  obtain ⟨E, hE⟩ : ∃ E, w5.heap.size = E := ⟨_, rfl⟩
  have h6E : D6 < E := by have := H65.out.lt; omega
  rw [hE] at HLf
  have HB0 : Hid (RdL w R S0 D D6 E 1 s k m 5 f' ⟨#[]⟩ [] none 0 0 false false false 0 w5) := Lib.hid (rdl_begin hE hk1le (by omega) HC5.out HG5.out HZ5.out HX5.out H65.out HLf.out HCI.out)
  have yc3 := H65.out.cell 3
  simp only [List.getElem?_toArray, List.getElem?_cons_zero, List.getElem?_cons_succ, Int.natCast_zero, Int.cast_ofNat_Int] at yc3
  clear hE
  go_wp2
  clear yc3
  go_loopw [7, 8, 45] (fun _ _ iv wr => ∃ i : Nat, i ≤ 1 ∧ iv = .int .i64 (i : Int) ∧ Hid (RdL w R S0 D D6 E 1 s k m 5 f' ⟨#[]⟩ [] none 0 0 false false false i wr)) (fun _ _ iv _ => 1 - (intOf iv).toNat)
  case atStart => exact ⟨0, Nat.zero_le _, by go_num, HB0⟩
  case round =>
    obtain ⟨i, hin, rfl, HREL⟩ := hrel
    obtain ⟨A, cap, base, h, k', m', ks, rs, hba, hEh, hhw, hbw, hk', hm', hA0, hOB, HC, HG, HZ, HX, H6, HO, HK, HL, HCI⟩ := HREL.out
    by_cases hlt : i < 1
    · have h5 : (i : Int) < 1 := by omega
      have hl : s.data.toList.length = s.size := by simp
      have hq : skp s.data.toList k' ≤ s.size := by have := skp_le (L := s.data.toList) (k := k') (by omega); omega
      have HT0 := take_anyK R k' s 32 wr HC.out hs hk'
      rw [show (if nextIs s.data.toList k' 32 = true then k' + 1 else k') = skp s.data.toList k' from rfl] at HT0
      obtain ⟨kq', hkq⟩ : ∃ q, skp s.data.toList k' = q := ⟨_, rfl⟩
      obtain ⟨zz, hz⟩ : ∃ z, nextIs s.data.toList k' 32 = z := ⟨_, rfl⟩
      rw [hkq] at HT0 hq
      rw [hz] at HT0
      have HT := Lib.hid HT0
      have HKQ' := Lib.hid hkq
      clear HT0 hkq hz hl
      have hmlE : i + 1 ≤ maxLen := by unfold maxLen; omega
      have hbyE : (i + 1) * 80 ≤ 140737488355328 := by omega
      go_wp2_with fail
      refine HT.out.mono ?_
      rintro e wt ⟨rfl, hc, hg⟩
      have hgt := gr_trans HG.out hg
      have HIC := Lib.hid (HIH.out m' kq' wt hm' hq hc (HSw.out.grownR hgt hR1) (HLw.out.grownR hgt hR2))
      have HGT := Lib.hid hg
      clear hc hg hgt
      go_wp2_with fail
      refine HIC.out.mono ?_
      rintro e w6' ⟨K6, ⟨a0, a1, a2, ⟨a3, a4, a5⟩, ⟨a6, a7, a8⟩⟩, o6, k6, m6, rfl, hc6, hk6, hm6, hg6, hka6, hcomp6, -⟩
      have HG16 := Lib.hid (gr_trans HGT.out hg6)
      have HC6' := Lib.hid hc6
      have HKA6 := Lib.hid (hka6.widen HGT.out.size (Nat.le_refl _))
      have HCO6 := Lib.hid hcomp6
      have hm6m : m6 < m := by omega
      clear hc6 hg6 hka6 hcomp6
      obtain ⟨base2, hO6, hb1, hb2, hb3⟩ := own_base2 HO.out hA0 HG16.out (by omega) hba (by omega)
      have HO6 := Lib.hid hO6
      clear hO6
      obtain ⟨D7, hD7⟩ : ∃ D, w6'.heap.size = D := ⟨_, rfl⟩
      have HDD7 := Lib.hid hD7
      obtain ⟨w7', hw7'⟩ : ∃ z, w6'.alloc (.cells #[.int .i64 a0, .int .i64 a1, .string a2, .slice a3 a4 a5, .slice a6 a7 a8] 27) = z := ⟨_, rfl⟩
      have HW7' := Lib.hid hw7'
      have HZ7' : Hid (Whole w7' S0 27 #[.int .i64 0, .int .i64 0, .string ⟨#[]⟩, .slice none 0 0, .slice none 0 0]) := Lib.hid (by rw [← hw7']; exact (HZ.out.grown HG16.out (fun e => by cases e; omega)).alloc _)
      have HX7' := Lib.hid (show Whole w7' D 27 #[.int .i64 5, .int .i64 f', .string ⟨#[]⟩, .slice none 0 0, .slice A i cap] by rw [← hw7']; exact (HX.out.grown HG16.out (fun e => by cases e; omega)).alloc _)
      have HR7' : Hid (Whole w7' D7 27 #[.int .i64 a0, .int .i64 a1, .string a2, .slice a3 a4 a5, .slice a6 a7 a8]) := Lib.hid (by rw [← hw7', ← hD7]; exact Whole.made w6' _ _)
      have HO7' : Hid (ROwn keyR w7' base2 (.slice A i cap) rs) := Lib.hid (by rw [← hw7']; exact HO6.out.alloc _)
      have HG7' : Hid (w.grownBy w7' (some R)) := Lib.hid (by rw [← hw7']; exact gr_alloc (gr_trans HG.out HG16.out) _)
      have HC7' : Hid (CurK m6 w7' R s k6) := Lib.hid (by rw [← hw7']; exact Whole.alloc HC6'.out _)
      have hb27 : base2 ≤ w7'.heap.size := by rw [← hw7']; simp; omega
      clear hD7 hw7'
      go_upto_region 13 with fail
      rw [HDD7.out, HW7'.out]
      cases o6 with
      | false =>
        have zc0 := HZ7'.out.cell 0
        have zc1 := HZ7'.out.cell 1
        have zc2 := HZ7'.out.cell 2
        have zc3 := HZ7'.out.cell 3
        have zc4 := HZ7'.out.cell 4
        have zf0 := HZ7'.out.free 0
        have zf1 := HZ7'.out.free 1
        have zf2 := HZ7'.out.free 2
        have zf3 := HZ7'.out.free 3
        have zf4 := HZ7'.out.free 4
        simp only [List.getElem?_toArray, List.getElem?_cons_zero, List.getElem?_cons_succ] at zc0 zc1 zc2 zc3 zc4
        go_wp2
        refine bodyPost_ret (v := .tuple #[.agg #[.int .i64 0, .int .i64 0, .string ⟨#[]⟩, .slice none 0 0, .slice none 0 0], .bool false]) (by rw [results_cell_tmp Tryz.results31]; go_simp) rfl ?_
        exact rdk_fail HSS.out hRS HZ7'.out.lt HC7'.out hk6 (by omega) HG7'.out (fun K a b => ci_stop HCI.out (show i < nOf 5 by show i < 1; omega) (by rw [HKQ'.out]; exact HCO6.out) (fun K2 R2 ha => (HWRD.out K2 R2 ha).2)) _ _ _ _ _
      | true =>
        obtain ⟨i0, hi, hq0, hq1, hq2⟩ := info_parts Tryz.infoKey
        have HLN : Hid (rs.length = i) := Lib.hid HO.out.len.1.symm
        have xc4 := HX7'.out.cell 4
        have rc0 := HR7'.out.cell 0
        have rc1 := HR7'.out.cell 1
        have rc2 := HR7'.out.cell 2
        have rc3 := HR7'.out.cell 3
        have rc4 := HR7'.out.cell 4
        simp only [List.getElem?_toArray, List.getElem?_cons_zero, List.getElem?_cons_succ] at rc0 rc1 rc2 rc3 rc4
        simp only [List.getElem?_toArray, List.getElem?_cons_zero, List.getElem?_cons_succ] at xc4
        go_wp2_with (at_builtin; refine wpList_append_rows rfl (.tmp 60) (.tmp 62) 25 rfl keyR base2 i0 _ 80 Tryz.underlying25 hi hq0 hq1 hq2 rfl (by decide) _ rs [(a0, a1, a2, (a3, a4, a5), (a6, a7, a8))] i HLN.out rfl (HO7'.out.alloc _) (some ⟨w7'.heap.size, 0, none⟩) 1 1 rfl rfl (RAt.made keyR w7' [(a0, a1, a2, (a3, a4, a5), (a6, a7, a8))] _ rfl) (fun e => by cases e) (fun q e => by cases e; rfl) hmlE hbyE (by simp; omega) ?_)
        intro v' w9 hown hgrow hnn
        obtain ⟨A9, N9, c9, rfl⟩ := hown.val
        have hN9 : N9 = i + 1 := by
          have := hown.len.1
          rw [List.length_append, HLN.out] at this
          exact this
        subst hN9
        have HOW := Lib.hid hown
        have HGW := Lib.hid hgrow
        have hx9 := (HX7'.out.alloc (.cells #[.int .i64 a0, .int .i64 a1, .string a2, .slice a3 a4 a5, .slice a6 a7 a8] 27)).grown hgrow (fun e => by have := (World.ownsRow.lt HO6.out D e.symm).1; omega)
        have xc94 := hx9.cell 4
        have xf94 := hx9.free 4
        simp only [List.getElem?_toArray, List.getElem?_cons_zero, List.getElem?_cons_succ] at xc94
        clear hown hgrow hnn hx9 xc4 rc0 rc1 rc2 rc3 rc4
        go_wp2
        go_roundw
        case rel => exact ⟨i + 1, by omega, by go_num, Lib.hid (rdl_next (k' := k') (m' := m') hRS hSD hDD6 h6E HSS.out hlt (by omega) hba hEh hhw hOB HG.out HZ.out HX.out H6.out HO.out HK.out HL.out HG16.out HC6'.out hk6 hm6m HKA6.out HO6.out hb1 hb2 hb3 (by rw [HW7'.out]; exact HGW.out) HOW.out (ci_next HCI.out (show i < nOf 5 by show i < 1; omega) (by rw [HKQ'.out]; exact HCO6.out)))⟩
        case measure => simp [intOf]; omega
    · have h5 : ¬ (i : Int) < 1 := by omega
      obtain rfl : i = 1 := by omega
      have xc0 := HX.out.cell 0
      have xc1 := HX.out.cell 1
      have xc2 := HX.out.cell 2
      have xc3 := HX.out.cell 3
      have xc4 := HX.out.cell 4
      simp only [List.getElem?_toArray, List.getElem?_cons_zero, List.getElem?_cons_succ] at xc0 xc1 xc2 xc3 xc4
      have zc0 := HZ.out.cell 0
      have zc1 := HZ.out.cell 1
      have zc2 := HZ.out.cell 2
      have zc3 := HZ.out.cell 3
      have zc4 := HZ.out.cell 4
      have zf0 := HZ.out.free 0
      have zf1 := HZ.out.free 1
      have zf2 := HZ.out.free 2
      have zf3 := HZ.out.free 3
      have zf4 := HZ.out.free 4
      simp only [List.getElem?_toArray, List.getElem?_cons_zero, List.getElem?_cons_succ] at zc0 zc1 zc2 zc3 zc4
      go_wp2
      refine bodyPost_ret (v := .tuple #[.agg #[.int .i64 5, .int .i64 f', .string ⟨#[]⟩, .slice none 0 0, .slice A 1 cap], .bool true]) (by rw [results_cell_tmp Tryz.results31]; go_simp) rfl ?_
      exact rdk_end HSS.out hRS hSD (by omega) hba hEh hhw hk' hm' HC.out HG.out HO.out HK.out HL.out rfl HCI.out (fun K2 R2 ha => (HWRD.out K2 R2 ha).2) HSZ.out _ _ _ _ _
set_option maxRecDepth 20000 in
set_option maxHeartbeats 16000000 in
theorem rkey_step_6 {m R k : Nat} {s : ByteArray} (w : World) (hs : s.size ≤ 16777216) (hm : m ≤ 9) (hR1 : 0 < R) (hR2 : 1 < R) (hk : k ≤ s.size) (h : CurK m w R s k) (hSh : Shp w) (hLs : Lst w)
    (ih : ∀ (m1 k1 : Nat) (w1 : World), m1 < m → k1 ≤ s.size → CurK m1 w1 R s k1 → Shp w1 → Lst w1 → Calls Tryz.prog 31 #[.pointer (some ⟨R, 0, none⟩)] w1 (RdK m1 R s k1 w1)) {f : Int} (hwk : wk (s.extract k (k + wl s.data.toList k)).data.toList = (6, f, true)) (hm0 : 0 < m) :
    Calls Tryz.prog 31 #[.pointer (some ⟨R, 0, none⟩)] w (RdK m R s k w) := by
  have HSZ : Hid (0 < s.size) := Lib.hid (by
    rcases Nat.eq_zero_or_pos s.size with h0 | h0
    · have h1 : (s.extract k (k + wl s.data.toList k)).data.toList = [] := List.length_eq_zero_iff.1 (by rw [← size_txt, ByteArray.size_extract]; omega)
      have h2 : wk [] = (0, 0, false) := by decide
      rw [h1, h2] at hwk
      have h3 := (Prod.mk.inj (Prod.mk.inj hwk).2).2
      cases h3
    · exact h0)
  have hl : s.data.toList.length = s.size := by simp
  obtain ⟨S0, hSS⟩ : ∃ B, w.heap.size = B := ⟨_, rfl⟩
  have HSS := Lib.hid hSS
  have hRS : R < S0 := by have := Whole.lt h; omega
  obtain ⟨wa, hwa⟩ : ∃ wa, w.alloc (.cells #[.int .i64 0, .int .i64 0, .string ⟨#[]⟩, .slice none 0 0, .slice none 0 0] 27) = wa := ⟨_, rfl⟩
  have HWA := Lib.hid hwa
  have HCa : Hid (CurK m wa R s k) := Lib.hid (by rw [← hwa]; exact Whole.alloc h _)
  have HZa : Hid (Whole wa S0 27 #[.int .i64 0, .int .i64 0, .string ⟨#[]⟩, .slice none 0 0, .slice none 0 0]) := Lib.hid (by rw [← hwa, ← hSS]; exact Whole.made w _ _)
  have HGa : Hid (w.grownBy wa (some R)) := Lib.hid (by rw [← hwa]; exact gr_alloc (gr_refl _ _) _)
  have HLa := Lib.hid (hLs.grownR HGa.out hR2)
  have HSa := Lib.hid (hSh.grownR HGa.out hR1)
  have HIH := Lib.hid ih
  have HSw := Lib.hid hSh
  have HLw := Lib.hid hLs
  have hk1le : k + wl s.data.toList k ≤ s.size := by have := wl_le s.data.toList k (by omega); omega
  have HC0 := word_any R k s wa HCa.out hs hk
  unfold Worded at HC0
  obtain ⟨k1, hk1⟩ : ∃ z, k + wl s.data.toList k = z := ⟨_, rfl⟩
  rw [hk1] at HC0 hk1le hwk
  obtain ⟨tw, htw⟩ : ∃ z, s.extract k k1 = z := ⟨_, rfl⟩
  rw [htw] at HC0 hwk
  have HK1 := Lib.hid hk1
  have HWK0 := Lib.hid hwk
  have HWRD : Hid (∀ K2 R2, At s.data.toList k m K2 R2 → true = true ∧ ∃ t2 S2 ks2, K2 = .mk 6 f t2 S2 ks2) := Lib.hid (at_word (by rw [hk1, htw]; exact hwk))
  clear hwa h hSh hLs ih hSS htw hk1 hl hwk
  go_enter Tryz.func31, Tryz.ntmps31
  go_wp2_with fail
  try rw [HSS.out, HWA.out]
  refine HC0.mono ?_
  rintro e w1 ⟨rfl, hc, hg⟩
  clear HC0
  have HC1 := Lib.hid hc
  have HG1 := Lib.hid (gr_trans HGa.out hg)
  have HZ1 := Lib.hid (HZa.out.grown hg (fun e => by cases e; omega))
  have HL1 := Lib.hid (HLa.out.grownR hg hR2)
  have HS1 := Lib.hid (HSa.out.grownR hg hR1)
  clear hc hg
  go_wp2_with fail
  refine (wordkey_any (t := tw) w1 HL1.out).mono ?_
  rintro e w2 ⟨kd', f', o', hwk2, rfl, hb⟩
  obtain ⟨hwk4, hwk3⟩ := Prod.mk.inj (hwk2.symm.trans HWK0.out)
  obtain ⟨hwk5, hwk6⟩ := Prod.mk.inj hwk3
  subst hwk4
  subst hwk5
  subst hwk6
  have HC2 : Hid (CurK m w2 R s k1) := Lib.hid (Whole.below HC1.out hb (Whole.lt HC1.out))
  have HG2 := Lib.hid (gr_trans HG1.out (gr_below hb (some R)))
  have HZ2 := Lib.hid (HZ1.out.below hb HZ1.out.lt)
  have HS2 := Lib.hid (HS1.out.below hb (Nat.le_refl _))
  have HL2 := Lib.hid (HL1.out.below hb (Nat.le_refl _))
  clear hb hwk2
  obtain ⟨D, hD⟩ : ∃ D, w2.heap.size = D := ⟨_, rfl⟩
  have HDD := Lib.hid hD
  have hSD : S0 < D := by have := HZ2.out.lt; omega
  obtain ⟨w3, hw3⟩ : ∃ z, w2.alloc (.cells #[.int .i64 6, .int .i64 f', .string ⟨#[]⟩, .slice none 0 0, .slice none 0 0] 27) = z := ⟨_, rfl⟩
  have HW3 := Lib.hid hw3
  have HX3 : Hid (Whole w3 D 27 #[.int .i64 6, .int .i64 f', .string ⟨#[]⟩, .slice none 0 0, .slice none 0 0]) := Lib.hid (by rw [← hw3, ← hD]; exact Whole.made w2 _ _)
  have HC3 : Hid (CurK m w3 R s k1) := Lib.hid (by rw [← hw3]; exact Whole.alloc HC2.out _)
  have HG3 : Hid (w.grownBy w3 (some R)) := Lib.hid (by rw [← hw3]; exact gr_alloc HG2.out _)
  have HZ3 : Hid (Whole w3 S0 27 #[.int .i64 0, .int .i64 0, .string ⟨#[]⟩, .slice none 0 0, .slice none 0 0]) := Lib.hid (by rw [← hw3]; exact HZ2.out.alloc _)
  have HS3 : Hid (Shp w3) := Lib.hid (by rw [← hw3]; exact HS2.out.below (below_new w2 _) (Nat.le_refl _))
  have HL3 : Hid (Lst w3) := Lib.hid (by rw [← hw3]; exact HL2.out.below (below_new w2 _) (Nat.le_refl _))
  clear hD hw3
  go_upto_region 2 with fail
  rw [HDD.out, HW3.out]
  have hdm : decide (0 < m) = true := decide_eq_true hm0
  go_wp2_with fail
  refine (spendK R m k1 s w3 HC3.out hm).mono ?_
  rintro e w4 ⟨he, hc, hg⟩
  rw [hdm] at he
  subst he
  have HC4 := Lib.hid hc
  have HG4 := Lib.hid (gr_trans HG3.out hg)
  have HZ4 := Lib.hid (HZ3.out.grown hg (fun e => by cases e; omega))
  have HX4 := Lib.hid (HX3.out.grown hg (fun e => by cases e; omega))
  have HS4 := Lib.hid (HS3.out.grownR hg hR1)
  clear hc hg hdm
  have sz : 0 < w4.heap.size := HS4.out.1
  have s0 : w4.cell? ⟨0, 24, none⟩ = some (.bool false) := HS4.out.2 24 (by decide)
  have s1 : w4.cell? ⟨0, 25, none⟩ = some (.bool false) := HS4.out.2 25 (by decide)
  have s2 : w4.cell? ⟨0, 26, none⟩ = some (.bool false) := HS4.out.2 26 (by decide)
  have s3 : w4.cell? ⟨0, 27, none⟩ = some (.int .i64 2) := HS4.out.2 27 (by decide)
  have xc0 := HX4.out.cell 0
  simp only [List.getElem?_toArray, List.getElem?_cons_zero, List.getElem?_cons_succ] at xc0
  obtain ⟨D6, hD6⟩ : ∃ D, w4.heap.size = D := ⟨_, rfl⟩
  have HDD6 := Lib.hid hD6
  have hDD6 : D < D6 := by have := HX4.out.lt; omega
  obtain ⟨w5, hw5⟩ : ∃ z, w4.alloc (.cells #[.bool false, .bool false, .bool false, .int .i64 2] 99) = z := ⟨_, rfl⟩
  have HW5 := Lib.hid hw5
  have H65 : Hid (Whole w5 D6 99 #[.bool false, .bool false, .bool false, .int .i64 ((2 : Nat) : Int)]) := Lib.hid (by rw [← hw5, ← hD6]; exact Whole.made w4 _ _)
  have HC5 : Hid (CurK (m - 1) w5 R s k1) := Lib.hid (by rw [← hw5]; exact Whole.alloc HC4.out _)
  have HG5 : Hid (w.grownBy w5 (some R)) := Lib.hid (by rw [← hw5]; exact gr_alloc HG4.out _)
  have HZ5 : Hid (Whole w5 S0 27 #[.int .i64 0, .int .i64 0, .string ⟨#[]⟩, .slice none 0 0, .slice none 0 0]) := Lib.hid (by rw [← hw5]; exact HZ4.out.alloc _)
  have HX5 : Hid (Whole w5 D 27 #[.int .i64 6, .int .i64 f', .string ⟨#[]⟩, .slice none 0 0, .slice none 0 0]) := Lib.hid (by rw [← hw5]; exact HX4.out.alloc _)
  clear hD6 hw5
  go_upto_region 5 with fail
  rw [HDD6.out, HW5.out]
  clear sz s0 s1 s2 s3 xc0
  have yc1 := H65.out.cell 1
  have yc2 := H65.out.cell 2
  simp only [List.getElem?_toArray, List.getElem?_cons_zero, List.getElem?_cons_succ] at yc1 yc2
  have hRD : R < D := by omega
  clear yc1 yc2
  have yc1 := H65.out.cell 1
  have yc2 := H65.out.cell 2
  simp only [List.getElem?_toArray, List.getElem?_cons_zero, List.getElem?_cons_succ] at yc1 yc2
  go_upto_region 9 with fail
  clear yc1 yc2
  have HLf := Lib.hid (ka_leaf (lo := D + 1) (hi := w5.heap.size) (w := w5) (kd := 6) (f := f') (t := ⟨#[]⟩) (by decide) (S := []) (A := none) (n := 0) (c := 0) rfl (by decide) (SpA.nil _ _))
  have HCI := Lib.hid (show CI s.data.toList k m 6 f' ⟨#[]⟩ [] [] 0 k1 (m - 1) by rw [← HK1.out]; exact ci_plain (by decide) (by decide) (by decide))
  obtain ⟨E, hE⟩ : ∃ E, w5.heap.size = E := ⟨_, rfl⟩
  have h6E : D6 < E := by have := H65.out.lt; omega
  rw [hE] at HLf
  have HB0 : Hid (RdL w R S0 D D6 E 2 s k m 6 f' ⟨#[]⟩ [] none 0 0 false false false 0 w5) := Lib.hid (rdl_begin hE hk1le (by omega) HC5.out HG5.out HZ5.out HX5.out H65.out HLf.out HCI.out)
  have yc3 := H65.out.cell 3
  simp only [List.getElem?_toArray, List.getElem?_cons_zero, List.getElem?_cons_succ, Int.natCast_zero, Int.cast_ofNat_Int] at yc3
  clear hE
  go_wp2
  clear yc3
  go_loopw [7, 8, 45] (fun _ _ iv wr => ∃ i : Nat, i ≤ 2 ∧ iv = .int .i64 (i : Int) ∧ Hid (RdL w R S0 D D6 E 2 s k m 6 f' ⟨#[]⟩ [] none 0 0 false false false i wr)) (fun _ _ iv _ => 2 - (intOf iv).toNat)
  case atStart => exact ⟨0, Nat.zero_le _, by go_num, HB0⟩
  case round =>
    obtain ⟨i, hin, rfl, HREL⟩ := hrel
    obtain ⟨A, cap, base, h, k', m', ks, rs, hba, hEh, hhw, hbw, hk', hm', hA0, hOB, HC, HG, HZ, HX, H6, HO, HK, HL, HCI⟩ := HREL.out
    by_cases hlt : i < 2
    · have h5 : (i : Int) < 2 := by omega
      have hl : s.data.toList.length = s.size := by simp
      have hq : skp s.data.toList k' ≤ s.size := by have := skp_le (L := s.data.toList) (k := k') (by omega); omega
      have HT0 := take_anyK R k' s 32 wr HC.out hs hk'
      rw [show (if nextIs s.data.toList k' 32 = true then k' + 1 else k') = skp s.data.toList k' from rfl] at HT0
      obtain ⟨kq', hkq⟩ : ∃ q, skp s.data.toList k' = q := ⟨_, rfl⟩
      obtain ⟨zz, hz⟩ : ∃ z, nextIs s.data.toList k' 32 = z := ⟨_, rfl⟩
      rw [hkq] at HT0 hq
      rw [hz] at HT0
      have HT := Lib.hid HT0
      have HKQ' := Lib.hid hkq
      clear HT0 hkq hz hl
      have hmlE : i + 1 ≤ maxLen := by unfold maxLen; omega
      have hbyE : (i + 1) * 80 ≤ 140737488355328 := by omega
      go_wp2_with fail
      refine HT.out.mono ?_
      rintro e wt ⟨rfl, hc, hg⟩
      have hgt := gr_trans HG.out hg
      have HIC := Lib.hid (HIH.out m' kq' wt hm' hq hc (HSw.out.grownR hgt hR1) (HLw.out.grownR hgt hR2))
      have HGT := Lib.hid hg
      clear hc hg hgt
      go_wp2_with fail
      refine HIC.out.mono ?_
      rintro e w6' ⟨K6, ⟨a0, a1, a2, ⟨a3, a4, a5⟩, ⟨a6, a7, a8⟩⟩, o6, k6, m6, rfl, hc6, hk6, hm6, hg6, hka6, hcomp6, -⟩
      have HG16 := Lib.hid (gr_trans HGT.out hg6)
      have HC6' := Lib.hid hc6
      have HKA6 := Lib.hid (hka6.widen HGT.out.size (Nat.le_refl _))
      have HCO6 := Lib.hid hcomp6
      have hm6m : m6 < m := by omega
      clear hc6 hg6 hka6 hcomp6
      obtain ⟨base2, hO6, hb1, hb2, hb3⟩ := own_base2 HO.out hA0 HG16.out (by omega) hba (by omega)
      have HO6 := Lib.hid hO6
      clear hO6
      obtain ⟨D7, hD7⟩ : ∃ D, w6'.heap.size = D := ⟨_, rfl⟩
      have HDD7 := Lib.hid hD7
      obtain ⟨w7', hw7'⟩ : ∃ z, w6'.alloc (.cells #[.int .i64 a0, .int .i64 a1, .string a2, .slice a3 a4 a5, .slice a6 a7 a8] 27) = z := ⟨_, rfl⟩
      have HW7' := Lib.hid hw7'
      have HZ7' : Hid (Whole w7' S0 27 #[.int .i64 0, .int .i64 0, .string ⟨#[]⟩, .slice none 0 0, .slice none 0 0]) := Lib.hid (by rw [← hw7']; exact (HZ.out.grown HG16.out (fun e => by cases e; omega)).alloc _)
      have HX7' := Lib.hid (show Whole w7' D 27 #[.int .i64 6, .int .i64 f', .string ⟨#[]⟩, .slice none 0 0, .slice A i cap] by rw [← hw7']; exact (HX.out.grown HG16.out (fun e => by cases e; omega)).alloc _)
      have HR7' : Hid (Whole w7' D7 27 #[.int .i64 a0, .int .i64 a1, .string a2, .slice a3 a4 a5, .slice a6 a7 a8]) := Lib.hid (by rw [← hw7', ← hD7]; exact Whole.made w6' _ _)
      have HO7' : Hid (ROwn keyR w7' base2 (.slice A i cap) rs) := Lib.hid (by rw [← hw7']; exact HO6.out.alloc _)
      have HG7' : Hid (w.grownBy w7' (some R)) := Lib.hid (by rw [← hw7']; exact gr_alloc (gr_trans HG.out HG16.out) _)
      have HC7' : Hid (CurK m6 w7' R s k6) := Lib.hid (by rw [← hw7']; exact Whole.alloc HC6'.out _)
      have hb27 : base2 ≤ w7'.heap.size := by rw [← hw7']; simp; omega
      clear hD7 hw7'
      go_upto_region 13 with fail
      rw [HDD7.out, HW7'.out]
      cases o6 with
      | false =>
        have zc0 := HZ7'.out.cell 0
        have zc1 := HZ7'.out.cell 1
        have zc2 := HZ7'.out.cell 2
        have zc3 := HZ7'.out.cell 3
        have zc4 := HZ7'.out.cell 4
        have zf0 := HZ7'.out.free 0
        have zf1 := HZ7'.out.free 1
        have zf2 := HZ7'.out.free 2
        have zf3 := HZ7'.out.free 3
        have zf4 := HZ7'.out.free 4
        simp only [List.getElem?_toArray, List.getElem?_cons_zero, List.getElem?_cons_succ] at zc0 zc1 zc2 zc3 zc4
        go_wp2
        refine bodyPost_ret (v := .tuple #[.agg #[.int .i64 0, .int .i64 0, .string ⟨#[]⟩, .slice none 0 0, .slice none 0 0], .bool false]) (by rw [results_cell_tmp Tryz.results31]; go_simp) rfl ?_
        exact rdk_fail HSS.out hRS HZ7'.out.lt HC7'.out hk6 (by omega) HG7'.out (fun K a b => ci_stop HCI.out (show i < nOf 6 by show i < 2; omega) (by rw [HKQ'.out]; exact HCO6.out) (fun K2 R2 ha => (HWRD.out K2 R2 ha).2)) _ _ _ _ _
      | true =>
        obtain ⟨i0, hi, hq0, hq1, hq2⟩ := info_parts Tryz.infoKey
        have HLN : Hid (rs.length = i) := Lib.hid HO.out.len.1.symm
        have xc4 := HX7'.out.cell 4
        have rc0 := HR7'.out.cell 0
        have rc1 := HR7'.out.cell 1
        have rc2 := HR7'.out.cell 2
        have rc3 := HR7'.out.cell 3
        have rc4 := HR7'.out.cell 4
        simp only [List.getElem?_toArray, List.getElem?_cons_zero, List.getElem?_cons_succ] at rc0 rc1 rc2 rc3 rc4
        simp only [List.getElem?_toArray, List.getElem?_cons_zero, List.getElem?_cons_succ] at xc4
        go_wp2_with (at_builtin; refine wpList_append_rows rfl (.tmp 60) (.tmp 62) 25 rfl keyR base2 i0 _ 80 Tryz.underlying25 hi hq0 hq1 hq2 rfl (by decide) _ rs [(a0, a1, a2, (a3, a4, a5), (a6, a7, a8))] i HLN.out rfl (HO7'.out.alloc _) (some ⟨w7'.heap.size, 0, none⟩) 1 1 rfl rfl (RAt.made keyR w7' [(a0, a1, a2, (a3, a4, a5), (a6, a7, a8))] _ rfl) (fun e => by cases e) (fun q e => by cases e; rfl) hmlE hbyE (by simp; omega) ?_)
        intro v' w9 hown hgrow hnn
        obtain ⟨A9, N9, c9, rfl⟩ := hown.val
        have hN9 : N9 = i + 1 := by
          have := hown.len.1
          rw [List.length_append, HLN.out] at this
          exact this
        subst hN9
        have HOW := Lib.hid hown
        have HGW := Lib.hid hgrow
        have hx9 := (HX7'.out.alloc (.cells #[.int .i64 a0, .int .i64 a1, .string a2, .slice a3 a4 a5, .slice a6 a7 a8] 27)).grown hgrow (fun e => by have := (World.ownsRow.lt HO6.out D e.symm).1; omega)
        have xc94 := hx9.cell 4
        have xf94 := hx9.free 4
        simp only [List.getElem?_toArray, List.getElem?_cons_zero, List.getElem?_cons_succ] at xc94
        clear hown hgrow hnn hx9 xc4 rc0 rc1 rc2 rc3 rc4
        go_wp2
        go_roundw
        case rel => exact ⟨i + 1, by omega, by go_num, Lib.hid (rdl_next (k' := k') (m' := m') hRS hSD hDD6 h6E HSS.out hlt (by omega) hba hEh hhw hOB HG.out HZ.out HX.out H6.out HO.out HK.out HL.out HG16.out HC6'.out hk6 hm6m HKA6.out HO6.out hb1 hb2 hb3 (by rw [HW7'.out]; exact HGW.out) HOW.out (ci_next HCI.out (show i < nOf 6 by show i < 2; omega) (by rw [HKQ'.out]; exact HCO6.out)))⟩
        case measure => simp [intOf]; omega
    · have h5 : ¬ (i : Int) < 2 := by omega
      obtain rfl : i = 2 := by omega
      have xc0 := HX.out.cell 0
      have xc1 := HX.out.cell 1
      have xc2 := HX.out.cell 2
      have xc3 := HX.out.cell 3
      have xc4 := HX.out.cell 4
      simp only [List.getElem?_toArray, List.getElem?_cons_zero, List.getElem?_cons_succ] at xc0 xc1 xc2 xc3 xc4
      have zc0 := HZ.out.cell 0
      have zc1 := HZ.out.cell 1
      have zc2 := HZ.out.cell 2
      have zc3 := HZ.out.cell 3
      have zc4 := HZ.out.cell 4
      have zf0 := HZ.out.free 0
      have zf1 := HZ.out.free 1
      have zf2 := HZ.out.free 2
      have zf3 := HZ.out.free 3
      have zf4 := HZ.out.free 4
      simp only [List.getElem?_toArray, List.getElem?_cons_zero, List.getElem?_cons_succ] at zc0 zc1 zc2 zc3 zc4
      go_wp2
      refine bodyPost_ret (v := .tuple #[.agg #[.int .i64 6, .int .i64 f', .string ⟨#[]⟩, .slice none 0 0, .slice A 2 cap], .bool true]) (by rw [results_cell_tmp Tryz.results31]; go_simp) rfl ?_
      exact rdk_end HSS.out hRS hSD (by omega) hba hEh hhw hk' hm' HC.out HG.out HO.out HK.out HL.out rfl HCI.out (fun K2 R2 ha => (HWRD.out K2 R2 ha).2) HSZ.out _ _ _ _ _
set_option maxRecDepth 20000 in
set_option maxHeartbeats 16000000 in
theorem rkey_step_7 {m R k : Nat} {s : ByteArray} (w : World) (hs : s.size ≤ 16777216) (hm : m ≤ 9) (hR1 : 0 < R) (hR2 : 1 < R) (hk : k ≤ s.size) (h : CurK m w R s k) (hSh : Shp w) (hLs : Lst w)
    (ih : ∀ (m1 k1 : Nat) (w1 : World), m1 < m → k1 ≤ s.size → CurK m1 w1 R s k1 → Shp w1 → Lst w1 → Calls Tryz.prog 31 #[.pointer (some ⟨R, 0, none⟩)] w1 (RdK m1 R s k1 w1)) {f : Int} (hwk : wk (s.extract k (k + wl s.data.toList k)).data.toList = (7, f, true)) (hm0 : 0 < m) :
    Calls Tryz.prog 31 #[.pointer (some ⟨R, 0, none⟩)] w (RdK m R s k w) := by
  have HSZ : Hid (0 < s.size) := Lib.hid (by
    rcases Nat.eq_zero_or_pos s.size with h0 | h0
    · have h1 : (s.extract k (k + wl s.data.toList k)).data.toList = [] := List.length_eq_zero_iff.1 (by rw [← size_txt, ByteArray.size_extract]; omega)
      have h2 : wk [] = (0, 0, false) := by decide
      rw [h1, h2] at hwk
      have h3 := (Prod.mk.inj (Prod.mk.inj hwk).2).2
      cases h3
    · exact h0)
  have hl : s.data.toList.length = s.size := by simp
  obtain ⟨S0, hSS⟩ : ∃ B, w.heap.size = B := ⟨_, rfl⟩
  have HSS := Lib.hid hSS
  have hRS : R < S0 := by have := Whole.lt h; omega
  obtain ⟨wa, hwa⟩ : ∃ wa, w.alloc (.cells #[.int .i64 0, .int .i64 0, .string ⟨#[]⟩, .slice none 0 0, .slice none 0 0] 27) = wa := ⟨_, rfl⟩
  have HWA := Lib.hid hwa
  have HCa : Hid (CurK m wa R s k) := Lib.hid (by rw [← hwa]; exact Whole.alloc h _)
  have HZa : Hid (Whole wa S0 27 #[.int .i64 0, .int .i64 0, .string ⟨#[]⟩, .slice none 0 0, .slice none 0 0]) := Lib.hid (by rw [← hwa, ← hSS]; exact Whole.made w _ _)
  have HGa : Hid (w.grownBy wa (some R)) := Lib.hid (by rw [← hwa]; exact gr_alloc (gr_refl _ _) _)
  have HLa := Lib.hid (hLs.grownR HGa.out hR2)
  have HSa := Lib.hid (hSh.grownR HGa.out hR1)
  have HIH := Lib.hid ih
  have HSw := Lib.hid hSh
  have HLw := Lib.hid hLs
  have hk1le : k + wl s.data.toList k ≤ s.size := by have := wl_le s.data.toList k (by omega); omega
  have HC0 := word_any R k s wa HCa.out hs hk
  unfold Worded at HC0
  obtain ⟨k1, hk1⟩ : ∃ z, k + wl s.data.toList k = z := ⟨_, rfl⟩
  rw [hk1] at HC0 hk1le hwk
  obtain ⟨tw, htw⟩ : ∃ z, s.extract k k1 = z := ⟨_, rfl⟩
  rw [htw] at HC0 hwk
  have HK1 := Lib.hid hk1
  have HWK0 := Lib.hid hwk
  have HWRD : Hid (∀ K2 R2, At s.data.toList k m K2 R2 → true = true ∧ ∃ t2 S2 ks2, K2 = .mk 7 f t2 S2 ks2) := Lib.hid (at_word (by rw [hk1, htw]; exact hwk))
  clear hwa h hSh hLs ih hSS htw hk1 hl hwk
  go_enter Tryz.func31, Tryz.ntmps31
  go_wp2_with fail
  try rw [HSS.out, HWA.out]
  refine HC0.mono ?_
  rintro e w1 ⟨rfl, hc, hg⟩
  clear HC0
  have HC1 := Lib.hid hc
  have HG1 := Lib.hid (gr_trans HGa.out hg)
  have HZ1 := Lib.hid (HZa.out.grown hg (fun e => by cases e; omega))
  have HL1 := Lib.hid (HLa.out.grownR hg hR2)
  have HS1 := Lib.hid (HSa.out.grownR hg hR1)
  clear hc hg
  go_wp2_with fail
  refine (wordkey_any (t := tw) w1 HL1.out).mono ?_
  rintro e w2 ⟨kd', f', o', hwk2, rfl, hb⟩
  obtain ⟨hwk4, hwk3⟩ := Prod.mk.inj (hwk2.symm.trans HWK0.out)
  obtain ⟨hwk5, hwk6⟩ := Prod.mk.inj hwk3
  subst hwk4
  subst hwk5
  subst hwk6
  have HC2 : Hid (CurK m w2 R s k1) := Lib.hid (Whole.below HC1.out hb (Whole.lt HC1.out))
  have HG2 := Lib.hid (gr_trans HG1.out (gr_below hb (some R)))
  have HZ2 := Lib.hid (HZ1.out.below hb HZ1.out.lt)
  have HS2 := Lib.hid (HS1.out.below hb (Nat.le_refl _))
  have HL2 := Lib.hid (HL1.out.below hb (Nat.le_refl _))
  clear hb hwk2
  obtain ⟨D, hD⟩ : ∃ D, w2.heap.size = D := ⟨_, rfl⟩
  have HDD := Lib.hid hD
  have hSD : S0 < D := by have := HZ2.out.lt; omega
  obtain ⟨w3, hw3⟩ : ∃ z, w2.alloc (.cells #[.int .i64 7, .int .i64 f', .string ⟨#[]⟩, .slice none 0 0, .slice none 0 0] 27) = z := ⟨_, rfl⟩
  have HW3 := Lib.hid hw3
  have HX3 : Hid (Whole w3 D 27 #[.int .i64 7, .int .i64 f', .string ⟨#[]⟩, .slice none 0 0, .slice none 0 0]) := Lib.hid (by rw [← hw3, ← hD]; exact Whole.made w2 _ _)
  have HC3 : Hid (CurK m w3 R s k1) := Lib.hid (by rw [← hw3]; exact Whole.alloc HC2.out _)
  have HG3 : Hid (w.grownBy w3 (some R)) := Lib.hid (by rw [← hw3]; exact gr_alloc HG2.out _)
  have HZ3 : Hid (Whole w3 S0 27 #[.int .i64 0, .int .i64 0, .string ⟨#[]⟩, .slice none 0 0, .slice none 0 0]) := Lib.hid (by rw [← hw3]; exact HZ2.out.alloc _)
  have HS3 : Hid (Shp w3) := Lib.hid (by rw [← hw3]; exact HS2.out.below (below_new w2 _) (Nat.le_refl _))
  have HL3 : Hid (Lst w3) := Lib.hid (by rw [← hw3]; exact HL2.out.below (below_new w2 _) (Nat.le_refl _))
  clear hD hw3
  go_upto_region 2 with fail
  rw [HDD.out, HW3.out]
  have hdm : decide (0 < m) = true := decide_eq_true hm0
  go_wp2_with fail
  refine (spendK R m k1 s w3 HC3.out hm).mono ?_
  rintro e w4 ⟨he, hc, hg⟩
  rw [hdm] at he
  subst he
  have HC4 := Lib.hid hc
  have HG4 := Lib.hid (gr_trans HG3.out hg)
  have HZ4 := Lib.hid (HZ3.out.grown hg (fun e => by cases e; omega))
  have HX4 := Lib.hid (HX3.out.grown hg (fun e => by cases e; omega))
  have HS4 := Lib.hid (HS3.out.grownR hg hR1)
  clear hc hg hdm
  have sz : 0 < w4.heap.size := HS4.out.1
  have s0 : w4.cell? ⟨0, 28, none⟩ = some (.bool false) := HS4.out.2 28 (by decide)
  have s1 : w4.cell? ⟨0, 29, none⟩ = some (.bool false) := HS4.out.2 29 (by decide)
  have s2 : w4.cell? ⟨0, 30, none⟩ = some (.bool false) := HS4.out.2 30 (by decide)
  have s3 : w4.cell? ⟨0, 31, none⟩ = some (.int .i64 2) := HS4.out.2 31 (by decide)
  have xc0 := HX4.out.cell 0
  simp only [List.getElem?_toArray, List.getElem?_cons_zero, List.getElem?_cons_succ] at xc0
  obtain ⟨D6, hD6⟩ : ∃ D, w4.heap.size = D := ⟨_, rfl⟩
  have HDD6 := Lib.hid hD6
  have hDD6 : D < D6 := by have := HX4.out.lt; omega
  obtain ⟨w5, hw5⟩ : ∃ z, w4.alloc (.cells #[.bool false, .bool false, .bool false, .int .i64 2] 99) = z := ⟨_, rfl⟩
  have HW5 := Lib.hid hw5
  have H65 : Hid (Whole w5 D6 99 #[.bool false, .bool false, .bool false, .int .i64 ((2 : Nat) : Int)]) := Lib.hid (by rw [← hw5, ← hD6]; exact Whole.made w4 _ _)
  have HC5 : Hid (CurK (m - 1) w5 R s k1) := Lib.hid (by rw [← hw5]; exact Whole.alloc HC4.out _)
  have HG5 : Hid (w.grownBy w5 (some R)) := Lib.hid (by rw [← hw5]; exact gr_alloc HG4.out _)
  have HZ5 : Hid (Whole w5 S0 27 #[.int .i64 0, .int .i64 0, .string ⟨#[]⟩, .slice none 0 0, .slice none 0 0]) := Lib.hid (by rw [← hw5]; exact HZ4.out.alloc _)
  have HX5 : Hid (Whole w5 D 27 #[.int .i64 7, .int .i64 f', .string ⟨#[]⟩, .slice none 0 0, .slice none 0 0]) := Lib.hid (by rw [← hw5]; exact HX4.out.alloc _)
  clear hD6 hw5
  go_upto_region 5 with fail
  rw [HDD6.out, HW5.out]
  clear sz s0 s1 s2 s3 xc0
  have yc1 := H65.out.cell 1
  have yc2 := H65.out.cell 2
  simp only [List.getElem?_toArray, List.getElem?_cons_zero, List.getElem?_cons_succ] at yc1 yc2
  have hRD : R < D := by omega
  clear yc1 yc2
  have yc1 := H65.out.cell 1
  have yc2 := H65.out.cell 2
  simp only [List.getElem?_toArray, List.getElem?_cons_zero, List.getElem?_cons_succ] at yc1 yc2
  go_upto_region 9 with fail
  clear yc1 yc2
  have HLf := Lib.hid (ka_leaf (lo := D + 1) (hi := w5.heap.size) (w := w5) (kd := 7) (f := f') (t := ⟨#[]⟩) (by decide) (S := []) (A := none) (n := 0) (c := 0) rfl (by decide) (SpA.nil _ _))
  have HCI := Lib.hid (show CI s.data.toList k m 7 f' ⟨#[]⟩ [] [] 0 k1 (m - 1) by rw [← HK1.out]; exact ci_plain (by decide) (by decide) (by decide))
  obtain ⟨E, hE⟩ : ∃ E, w5.heap.size = E := ⟨_, rfl⟩
  have h6E : D6 < E := by have := H65.out.lt; omega
  rw [hE] at HLf
  have HB0 : Hid (RdL w R S0 D D6 E 2 s k m 7 f' ⟨#[]⟩ [] none 0 0 false false false 0 w5) := Lib.hid (rdl_begin hE hk1le (by omega) HC5.out HG5.out HZ5.out HX5.out H65.out HLf.out HCI.out)
  have yc3 := H65.out.cell 3
  simp only [List.getElem?_toArray, List.getElem?_cons_zero, List.getElem?_cons_succ, Int.natCast_zero, Int.cast_ofNat_Int] at yc3
  clear hE
  go_wp2
  clear yc3
  go_loopw [7, 8, 45] (fun _ _ iv wr => ∃ i : Nat, i ≤ 2 ∧ iv = .int .i64 (i : Int) ∧ Hid (RdL w R S0 D D6 E 2 s k m 7 f' ⟨#[]⟩ [] none 0 0 false false false i wr)) (fun _ _ iv _ => 2 - (intOf iv).toNat)
  case atStart => exact ⟨0, Nat.zero_le _, by go_num, HB0⟩
  case round =>
    obtain ⟨i, hin, rfl, HREL⟩ := hrel
    obtain ⟨A, cap, base, h, k', m', ks, rs, hba, hEh, hhw, hbw, hk', hm', hA0, hOB, HC, HG, HZ, HX, H6, HO, HK, HL, HCI⟩ := HREL.out
    by_cases hlt : i < 2
    · have h5 : (i : Int) < 2 := by omega
      have hl : s.data.toList.length = s.size := by simp
      have hq : skp s.data.toList k' ≤ s.size := by have := skp_le (L := s.data.toList) (k := k') (by omega); omega
      have HT0 := take_anyK R k' s 32 wr HC.out hs hk'
      rw [show (if nextIs s.data.toList k' 32 = true then k' + 1 else k') = skp s.data.toList k' from rfl] at HT0
      obtain ⟨kq', hkq⟩ : ∃ q, skp s.data.toList k' = q := ⟨_, rfl⟩
      obtain ⟨zz, hz⟩ : ∃ z, nextIs s.data.toList k' 32 = z := ⟨_, rfl⟩
      rw [hkq] at HT0 hq
      rw [hz] at HT0
      have HT := Lib.hid HT0
      have HKQ' := Lib.hid hkq
      clear HT0 hkq hz hl
      have hmlE : i + 1 ≤ maxLen := by unfold maxLen; omega
      have hbyE : (i + 1) * 80 ≤ 140737488355328 := by omega
      go_wp2_with fail
      refine HT.out.mono ?_
      rintro e wt ⟨rfl, hc, hg⟩
      have hgt := gr_trans HG.out hg
      have HIC := Lib.hid (HIH.out m' kq' wt hm' hq hc (HSw.out.grownR hgt hR1) (HLw.out.grownR hgt hR2))
      have HGT := Lib.hid hg
      clear hc hg hgt
      go_wp2_with fail
      refine HIC.out.mono ?_
      rintro e w6' ⟨K6, ⟨a0, a1, a2, ⟨a3, a4, a5⟩, ⟨a6, a7, a8⟩⟩, o6, k6, m6, rfl, hc6, hk6, hm6, hg6, hka6, hcomp6, -⟩
      have HG16 := Lib.hid (gr_trans HGT.out hg6)
      have HC6' := Lib.hid hc6
      have HKA6 := Lib.hid (hka6.widen HGT.out.size (Nat.le_refl _))
      have HCO6 := Lib.hid hcomp6
      have hm6m : m6 < m := by omega
      clear hc6 hg6 hka6 hcomp6
      obtain ⟨base2, hO6, hb1, hb2, hb3⟩ := own_base2 HO.out hA0 HG16.out (by omega) hba (by omega)
      have HO6 := Lib.hid hO6
      clear hO6
      obtain ⟨D7, hD7⟩ : ∃ D, w6'.heap.size = D := ⟨_, rfl⟩
      have HDD7 := Lib.hid hD7
      obtain ⟨w7', hw7'⟩ : ∃ z, w6'.alloc (.cells #[.int .i64 a0, .int .i64 a1, .string a2, .slice a3 a4 a5, .slice a6 a7 a8] 27) = z := ⟨_, rfl⟩
      have HW7' := Lib.hid hw7'
      have HZ7' : Hid (Whole w7' S0 27 #[.int .i64 0, .int .i64 0, .string ⟨#[]⟩, .slice none 0 0, .slice none 0 0]) := Lib.hid (by rw [← hw7']; exact (HZ.out.grown HG16.out (fun e => by cases e; omega)).alloc _)
      have HX7' := Lib.hid (show Whole w7' D 27 #[.int .i64 7, .int .i64 f', .string ⟨#[]⟩, .slice none 0 0, .slice A i cap] by rw [← hw7']; exact (HX.out.grown HG16.out (fun e => by cases e; omega)).alloc _)
      have HR7' : Hid (Whole w7' D7 27 #[.int .i64 a0, .int .i64 a1, .string a2, .slice a3 a4 a5, .slice a6 a7 a8]) := Lib.hid (by rw [← hw7', ← hD7]; exact Whole.made w6' _ _)
      have HO7' : Hid (ROwn keyR w7' base2 (.slice A i cap) rs) := Lib.hid (by rw [← hw7']; exact HO6.out.alloc _)
      have HG7' : Hid (w.grownBy w7' (some R)) := Lib.hid (by rw [← hw7']; exact gr_alloc (gr_trans HG.out HG16.out) _)
      have HC7' : Hid (CurK m6 w7' R s k6) := Lib.hid (by rw [← hw7']; exact Whole.alloc HC6'.out _)
      have hb27 : base2 ≤ w7'.heap.size := by rw [← hw7']; simp; omega
      clear hD7 hw7'
      go_upto_region 13 with fail
      rw [HDD7.out, HW7'.out]
      cases o6 with
      | false =>
        have zc0 := HZ7'.out.cell 0
        have zc1 := HZ7'.out.cell 1
        have zc2 := HZ7'.out.cell 2
        have zc3 := HZ7'.out.cell 3
        have zc4 := HZ7'.out.cell 4
        have zf0 := HZ7'.out.free 0
        have zf1 := HZ7'.out.free 1
        have zf2 := HZ7'.out.free 2
        have zf3 := HZ7'.out.free 3
        have zf4 := HZ7'.out.free 4
        simp only [List.getElem?_toArray, List.getElem?_cons_zero, List.getElem?_cons_succ] at zc0 zc1 zc2 zc3 zc4
        go_wp2
        refine bodyPost_ret (v := .tuple #[.agg #[.int .i64 0, .int .i64 0, .string ⟨#[]⟩, .slice none 0 0, .slice none 0 0], .bool false]) (by rw [results_cell_tmp Tryz.results31]; go_simp) rfl ?_
        exact rdk_fail HSS.out hRS HZ7'.out.lt HC7'.out hk6 (by omega) HG7'.out (fun K a b => ci_stop HCI.out (show i < nOf 7 by show i < 2; omega) (by rw [HKQ'.out]; exact HCO6.out) (fun K2 R2 ha => (HWRD.out K2 R2 ha).2)) _ _ _ _ _
      | true =>
        obtain ⟨i0, hi, hq0, hq1, hq2⟩ := info_parts Tryz.infoKey
        have HLN : Hid (rs.length = i) := Lib.hid HO.out.len.1.symm
        have xc4 := HX7'.out.cell 4
        have rc0 := HR7'.out.cell 0
        have rc1 := HR7'.out.cell 1
        have rc2 := HR7'.out.cell 2
        have rc3 := HR7'.out.cell 3
        have rc4 := HR7'.out.cell 4
        simp only [List.getElem?_toArray, List.getElem?_cons_zero, List.getElem?_cons_succ] at rc0 rc1 rc2 rc3 rc4
        simp only [List.getElem?_toArray, List.getElem?_cons_zero, List.getElem?_cons_succ] at xc4
        go_wp2_with (at_builtin; refine wpList_append_rows rfl (.tmp 60) (.tmp 62) 25 rfl keyR base2 i0 _ 80 Tryz.underlying25 hi hq0 hq1 hq2 rfl (by decide) _ rs [(a0, a1, a2, (a3, a4, a5), (a6, a7, a8))] i HLN.out rfl (HO7'.out.alloc _) (some ⟨w7'.heap.size, 0, none⟩) 1 1 rfl rfl (RAt.made keyR w7' [(a0, a1, a2, (a3, a4, a5), (a6, a7, a8))] _ rfl) (fun e => by cases e) (fun q e => by cases e; rfl) hmlE hbyE (by simp; omega) ?_)
        intro v' w9 hown hgrow hnn
        obtain ⟨A9, N9, c9, rfl⟩ := hown.val
        have hN9 : N9 = i + 1 := by
          have := hown.len.1
          rw [List.length_append, HLN.out] at this
          exact this
        subst hN9
        have HOW := Lib.hid hown
        have HGW := Lib.hid hgrow
        have hx9 := (HX7'.out.alloc (.cells #[.int .i64 a0, .int .i64 a1, .string a2, .slice a3 a4 a5, .slice a6 a7 a8] 27)).grown hgrow (fun e => by have := (World.ownsRow.lt HO6.out D e.symm).1; omega)
        have xc94 := hx9.cell 4
        have xf94 := hx9.free 4
        simp only [List.getElem?_toArray, List.getElem?_cons_zero, List.getElem?_cons_succ] at xc94
        clear hown hgrow hnn hx9 xc4 rc0 rc1 rc2 rc3 rc4
        go_wp2
        go_roundw
        case rel => exact ⟨i + 1, by omega, by go_num, Lib.hid (rdl_next (k' := k') (m' := m') hRS hSD hDD6 h6E HSS.out hlt (by omega) hba hEh hhw hOB HG.out HZ.out HX.out H6.out HO.out HK.out HL.out HG16.out HC6'.out hk6 hm6m HKA6.out HO6.out hb1 hb2 hb3 (by rw [HW7'.out]; exact HGW.out) HOW.out (ci_next HCI.out (show i < nOf 7 by show i < 2; omega) (by rw [HKQ'.out]; exact HCO6.out)))⟩
        case measure => simp [intOf]; omega
    · have h5 : ¬ (i : Int) < 2 := by omega
      obtain rfl : i = 2 := by omega
      have xc0 := HX.out.cell 0
      have xc1 := HX.out.cell 1
      have xc2 := HX.out.cell 2
      have xc3 := HX.out.cell 3
      have xc4 := HX.out.cell 4
      simp only [List.getElem?_toArray, List.getElem?_cons_zero, List.getElem?_cons_succ] at xc0 xc1 xc2 xc3 xc4
      have zc0 := HZ.out.cell 0
      have zc1 := HZ.out.cell 1
      have zc2 := HZ.out.cell 2
      have zc3 := HZ.out.cell 3
      have zc4 := HZ.out.cell 4
      have zf0 := HZ.out.free 0
      have zf1 := HZ.out.free 1
      have zf2 := HZ.out.free 2
      have zf3 := HZ.out.free 3
      have zf4 := HZ.out.free 4
      simp only [List.getElem?_toArray, List.getElem?_cons_zero, List.getElem?_cons_succ] at zc0 zc1 zc2 zc3 zc4
      go_wp2
      refine bodyPost_ret (v := .tuple #[.agg #[.int .i64 7, .int .i64 f', .string ⟨#[]⟩, .slice none 0 0, .slice A 2 cap], .bool true]) (by rw [results_cell_tmp Tryz.results31]; go_simp) rfl ?_
      exact rdk_end HSS.out hRS hSD (by omega) hba hEh hhw hk' hm' HC.out HG.out HO.out HK.out HL.out rfl HCI.out (fun K2 R2 ha => (HWRD.out K2 R2 ha).2) HSZ.out _ _ _ _ _
end Go.Proofs.YtnfigpknejmkmaaGreatDoor
namespace Go.Proofs.YtnfigpknejmkmaaGreatDoor
open Go.RowKit
set_option linter.unusedVariables false
set_option linter.unusedSimpArgs false

theorem rkey {R : Nat} {s : ByteArray} (hs : s.size ≤ 16777216) (hR1 : 0 < R) (hR2 : 1 < R) : ∀ (n m k : Nat) (w : World), m ≤ n → m ≤ 9 → k ≤ s.size → CurK m w R s k → Shp w → Lst w →
    Calls Tryz.prog 31 #[.pointer (some ⟨R, 0, none⟩)] w (RdK m R s k w)
  | n, m, k, w, hn, hm, hk, h, hSh, hLs => by
    have ih : ∀ (m1 k1 : Nat) (w1 : World), m1 < m → k1 ≤ s.size → CurK m1 w1 R s k1 → Shp w1 → Lst w1 → Calls Tryz.prog 31 #[.pointer (some ⟨R, 0, none⟩)] w1 (RdK m1 R s k1 w1) := fun m1 k1 w1 h1 h2 h3 h4 h5 => by
      match n, hn with
      | 0, hn => omega
      | n + 1, hn => exact rkey hs hR1 hR2 n m1 k1 w1 (by omega) (by omega) h2 h3 h4 h5
    obtain ⟨⟨kd, f, o⟩, hwk⟩ : ∃ z, wk (s.extract k (k + wl s.data.toList k)).data.toList = z := ⟨_, rfl⟩
    cases o with
    | false => exact rkey_step_no w hs hm hR1 hR2 hk h hSh hLs ih hwk
    | true =>
      by_cases hm0 : m = 0
      · subst hm0
        exact rkey_step_nos w hs hm hR1 hR2 hk h hSh hLs ih hwk
      · have hm1 : 0 < m := by omega
        rcases wk_kd hwk with rfl | rfl | rfl | rfl | rfl | rfl | rfl | rfl
        · exact rkey_step_0 w hs hm hR1 hR2 hk h hSh hLs ih hwk hm1
        · exact rkey_step_1 w hs hm hR1 hR2 hk h hSh hLs ih hwk hm1
        · exact rkey_step_2 w hs hm hR1 hR2 hk h hSh hLs ih hwk hm1
        · exact rkey_step_3 w hs hm hR1 hR2 hk h hSh hLs ih hwk hm1
        · exact rkey_step_4 w hs hm hR1 hR2 hk h hSh hLs ih hwk hm1
        · exact rkey_step_5 w hs hm hR1 hR2 hk h hSh hLs ih hwk hm1
        · exact rkey_step_6 w hs hm hR1 hR2 hk h hSh hLs ih hwk hm1
        · exact rkey_step_7 w hs hm hR1 hR2 hk h hSh hLs ih hwk hm1
/-- What KeyParse leaves. -/
def PKy (w : World) (t : ByteArray) (e : Ending) (w' : World) : Prop :=
  ∃ (K : KT) (r : KR) (o : Bool), e = .returned (.tuple #[kval r, .bool o]) ∧ KA w.heap.size w'.heap.size w' K (kval r) ∧ Below w.heap.size w w' ∧ (o = true → keyB K = true ∧ fmtT K = t.data.toList) ∧ (∀ K2, keyB K2 = true → fmtT K2 = t.data.toList → o = true ∧ K = K2) ∧ (o = false → K = .mk 0 0 ⟨#[]⟩ [] [])
theorem below_grR {w wr w' : World} {R : Nat} (hR : w.heap.size ≤ R) (hb : Below w.heap.size w wr) (hg : wr.grownBy w' (some R)) : Below w.heap.size w w' :=
  ⟨hg.os.trans hb.os, hg.tape.trans hb.tape, hg.output.trans hb.output, Nat.le_trans hb.size hg.size, fun i hi => (hg.block i (Nat.lt_of_lt_of_le hi hb.size) (fun e => by have := Option.some.inj e; omega)).trans (hb.block i hi)⟩
theorem fmt_pos {K : KT} (h : allT K = true) : 0 < (fmtT K).length := by
  obtain ⟨kd, f, t, S, ks⟩ := K
  rw [allT, Bool.and_eq_true] at h
  have h1 := wk_hw h.2
  rw [fmtT, headW_hw]
  rcases Nat.eq_zero_or_pos (hw kd f).length with h2 | h2
  · rw [List.length_eq_zero_iff.1 h2] at h1
    have h3 : wk [] = (0, 0, false) := by decide
    rw [h3] at h1
    have h4 := (Prod.mk.inj (Prod.mk.inj h1).2).2
    cases h4
  · simp only [List.length_append]; omega
theorem pk_fail {w w' : World} {t : ByteArray} {S0 : Nat} (hSS : w.heap.size = S0) (hb : Below w.heap.size w w') (hc : ∀ K2, keyB K2 = true → fmtT K2 ≠ t.data.toList) (a0 a1 a2 a3 a4 : Value) :
    PKy w t (.returned (.tuple #[kval (0, 0, ⟨#[]⟩, (none, 0, 0), (none, 0, 0)), .bool false])) (st5 w' S0 a0 a1 a2 a3 a4) :=
  ⟨.mk 0 0 ⟨#[]⟩ [] [], _, false, rfl, ka_leaf (by decide) rfl (by decide) (SpA.nil _ _), below_st5 hb (Nat.le_of_eq hSS) _ _ _ _ _, fun e => (by cases e), fun K2 h1 h2 => absurd h2 (hc K2 h1), fun _ => rfl⟩
theorem pk_end {w w' : World} {t : ByteArray} {S0 : Nat} {K : KT} {r : KR} (hSS : w.heap.size = S0) (hb : Below w.heap.size w w') (hk : KA (S0 + 1) w'.heap.size w' K (kval r)) (h1 : keyB K = true) (h2 : fmtT K = t.data.toList) (hc : ∀ K2, keyB K2 = true → fmtT K2 = t.data.toList → K = K2) (a0 a1 a2 a3 a4 : Value) :
    PKy w t (.returned (.tuple #[kval r, .bool true])) (st5 w' S0 a0 a1 a2 a3 a4) :=
  ⟨K, r, true, rfl, (hk.grown (gr_st5 _ _ _ _ _ _ _) (fun g e => by cases e; omega)).widen (by omega) (gr_st5 w' S0 a0 a1 a2 a3 a4).size, below_st5 hb (Nat.le_of_eq hSS) _ _ _ _ _, fun _ => ⟨h1, h2⟩, fun K2 h3 h4 => ⟨rfl, hc K2 h3 h4⟩, fun e => by cases e⟩
set_option maxRecDepth 20000 in
set_option maxHeartbeats 8000000 in
theorem impl_keyparse {t : ByteArray} (w : World) (ht : t.size ≤ 16777216) (hSh : Shp w) (hLs : Lst w) : Calls Tryz.prog 8 #[.string t] w (PKy w t) := by
  obtain ⟨S0, hSS⟩ : ∃ B, w.heap.size = B := ⟨_, rfl⟩
  have HSS := Lib.hid hSS
  obtain ⟨wa, hwa⟩ : ∃ wa, w.alloc (.cells #[.int .i64 0, .int .i64 0, .string ⟨#[]⟩, .slice none 0 0, .slice none 0 0] 27) = wa := ⟨_, rfl⟩
  have HWA := Lib.hid hwa
  have HBa : Hid (Below w.heap.size w wa) := Lib.hid (by rw [← hwa]; exact below_new _ _)
  have HZa : Hid (Whole wa S0 27 #[.int .i64 0, .int .i64 0, .string ⟨#[]⟩, .slice none 0 0, .slice none 0 0]) := Lib.hid (by rw [← hwa, ← hSS]; exact Whole.made w _ _)
  obtain ⟨R, hR⟩ : ∃ B, wa.heap.size = B := ⟨_, rfl⟩
  have HRR := Lib.hid hR
  have HRE : Hid (S0 + 1 = R) := Lib.hid (by rw [← hR, ← hwa, ← hSS]; simp)
  have hSR : S0 < R := by have := HZa.out.lt; omega
  obtain ⟨wb, hwb⟩ : ∃ wb, wa.alloc (.cells #[.string t, .int .i64 0, .int .i64 9] 67) = wb := ⟨_, rfl⟩
  have HWB := Lib.hid hwb
  have HCb : Hid (CurK 9 wb R t 0) := Lib.hid (by rw [← hwb, ← hR]; exact Whole.made wa _ _)
  have hbab : Below wa.heap.size wa wb := by rw [← hwb]; exact below_new _ _
  have HBb : Hid (Below w.heap.size w wb) := Lib.hid (HBa.out.trans (hbab.mono HBa.out.size))
  have HZb := Lib.hid (HZa.out.below hbab HZa.out.lt)
  have hR1 : 0 < R := by have := hSh.1; omega
  have hR2 : 1 < R := by have := hLs.1; omega
  have HSb := Lib.hid (hSh.below HBb.out (Nat.le_refl _))
  have HLb := Lib.hid (hLs.below HBb.out (Nat.le_refl _))
  have HSw := Lib.hid hSh
  have HLw := Lib.hid hLs
  have HC0 := Lib.hid (rkey ht hR1 hR2 9 9 0 wb (by omega) (by omega) (Nat.zero_le _) HCb.out HSb.out HLb.out)
  clear hwa hwb hR hSh hLs hSS hbab
  go_enter Tryz.func8, Tryz.ntmps8
  go_upto_region 2 with fail
  rw [HSS.out, HWA.out]
  first | rw [HRR.out] | rw [HRE.out]
  rw [HWB.out]
  go_wp2_with fail
  refine HC0.out.mono ?_
  rintro e w2 ⟨K, ⟨a0, a1, a2, ⟨a3, a4, a5⟩, ⟨a6, a7, a8⟩⟩, o, k', m', rfl, hc, hk', hm', hg, hka, hcomp, hpos⟩
  have HB2 := Lib.hid (below_grR (by have := HSS.out; omega) HBb.out hg)
  have HZ2 := Lib.hid (HZb.out.grown hg (fun e => by cases e; omega))
  have hbs : S0 + 1 ≤ wb.heap.size := by have := HZb.out.lt; omega
  have HKA := Lib.hid (hka.widen hbs (Nat.le_refl _))
  have HCO : Hid (∀ K2, keyB K2 = true → fmtT K2 = t.data.toList → o = true ∧ K = K2) := Lib.hid (fun K2 h1 h2 => by
    unfold keyB at h1
    rw [Bool.and_eq_true, decide_eq_true_eq] at h1
    obtain ⟨c1, c2, _, _⟩ := hcomp K2 [] ⟨h1.1, h1.2, by rw [List.drop_zero, List.append_nil, h2], .inl rfl⟩
    exact ⟨c1, c2⟩)
  have HPO := Lib.hid hpos
  clear hc hg hka hcomp hpos
  obtain ⟨D, hD⟩ : ∃ B, w2.heap.size = B := ⟨_, rfl⟩
  have HDD := Lib.hid hD
  obtain ⟨w3, hw3⟩ : ∃ z, w2.alloc (.cells #[.int .i64 a0, .int .i64 a1, .string a2, .slice a3 a4 a5, .slice a6 a7 a8] 27) = z := ⟨_, rfl⟩
  have HW3 := Lib.hid hw3
  have HX3 : Hid (Whole w3 D 27 #[.int .i64 a0, .int .i64 a1, .string a2, .slice a3 a4 a5, .slice a6 a7 a8]) := Lib.hid (by rw [← hw3, ← hD]; exact Whole.made w2 _ _)
  have hb3 : Below w2.heap.size w2 w3 := by rw [← hw3]; exact below_new _ _
  have HB3 := Lib.hid (HB2.out.trans (hb3.mono HB2.out.size))
  have HZ3 := Lib.hid (HZ2.out.below hb3 HZ2.out.lt)
  have HKA3 := Lib.hid ((HKA.out.grown (gr_below hb3 none) (fun g e => by cases e)).widen (Nat.le_refl _) hb3.size)
  have HS3 := Lib.hid (HSw.out.below HB3.out (Nat.le_refl _))
  have HL3 := Lib.hid (HLw.out.below HB3.out (Nat.le_refl _))
  clear hD hw3 hb3
  go_upto_region 3 with fail
  rw [HDD.out, HW3.out]
  cases o with
  | false =>
    have zc0 := HZ3.out.cell 0
    have zc1 := HZ3.out.cell 1
    have zc2 := HZ3.out.cell 2
    have zc3 := HZ3.out.cell 3
    have zc4 := HZ3.out.cell 4
    have zf0 := HZ3.out.free 0
    have zf1 := HZ3.out.free 1
    have zf2 := HZ3.out.free 2
    have zf3 := HZ3.out.free 3
    have zf4 := HZ3.out.free 4
    simp only [List.getElem?_toArray, List.getElem?_cons_zero, List.getElem?_cons_succ] at zc0 zc1 zc2 zc3 zc4
    go_wp2
    refine bodyPost_ret (v := .tuple #[.agg #[.int .i64 0, .int .i64 0, .string ⟨#[]⟩, .slice none 0 0, .slice none 0 0], .bool false]) (by rw [results_cell_tmp Tryz.results8]; go_simp) rfl ?_
    exact pk_fail HSS.out HB3.out (fun K2 h1 h2 => by cases (HCO.out K2 h1 h2).1) _ _ _ _ _
  | true =>
    obtain ⟨Y, hY⟩ : ∃ Y, fmtY K = Y := ⟨_, rfl⟩
    have HYY := Lib.hid hY
    have HF := Lib.hid (impl_keyformat hY w3 HS3.out HL3.out HKA3.out.kv)
    clear hY
    have xc0 := HX3.out.cell 0
    have xc1 := HX3.out.cell 1
    have xc2 := HX3.out.cell 2
    have xc3 := HX3.out.cell 3
    have xc4 := HX3.out.cell 4
    simp only [List.getElem?_toArray, List.getElem?_cons_zero, List.getElem?_cons_succ] at xc0 xc1 xc2 xc3 xc4
    go_wp2_with fail
    refine HF.out.mono ?_
    rintro e w4 ⟨rfl, hb⟩
    have HB4 := Lib.hid (HB3.out.trans (hb.mono HB3.out.size))
    have HZ4 := Lib.hid (HZ3.out.below hb HZ3.out.lt)
    have HX4 := Lib.hid (HX3.out.below hb HX3.out.lt)
    have HKA4 := Lib.hid ((HKA3.out.grown (gr_below hb none) (fun g e => by cases e)).widen (Nat.le_refl _) hb.size)
    clear hb xc0 xc1 xc2 xc3 xc4
    by_cases he : Y = t
    · have heq : (Y.toList == t.toList) = true := by rw [he]; simp
      have HKB : Hid (keyB K = true) := Lib.hid (by
        rcases Bool.eq_false_or_eq_true (keyB K) with h | h
        · exact h
        · exfalso
          have h1 := HYY.out
          rw [fmtY, if_neg (by rw [h]; decide)] at h1
          have h2 := HPO.out (by first | trivial | rfl)
          rw [← he, ← h1] at h2
          exact absurd h2 (by decide))
      have HFT : Hid (fmtT K = t.data.toList) := Lib.hid (by
        have h1 := HYY.out
        rw [fmtY, if_pos HKB.out] at h1
        rw [← he, ← h1]
        rfl)
      clear he
      have zc0 := HZ4.out.cell 0
      have zc1 := HZ4.out.cell 1
      have zc2 := HZ4.out.cell 2
      have zc3 := HZ4.out.cell 3
      have zc4 := HZ4.out.cell 4
      have zf0 := HZ4.out.free 0
      have zf1 := HZ4.out.free 1
      have zf2 := HZ4.out.free 2
      have zf3 := HZ4.out.free 3
      have zf4 := HZ4.out.free 4
      simp only [List.getElem?_toArray, List.getElem?_cons_zero, List.getElem?_cons_succ] at zc0 zc1 zc2 zc3 zc4
      have xc0 := HX4.out.cell 0
      have xc1 := HX4.out.cell 1
      have xc2 := HX4.out.cell 2
      have xc3 := HX4.out.cell 3
      have xc4 := HX4.out.cell 4
      simp only [List.getElem?_toArray, List.getElem?_cons_zero, List.getElem?_cons_succ] at xc0 xc1 xc2 xc3 xc4
      go_wp2
      refine bodyPost_ret (v := .tuple #[.agg #[.int .i64 a0, .int .i64 a1, .string a2, .slice a3 a4 a5, .slice a6 a7 a8], .bool true]) (by rw [results_cell_tmp Tryz.results8]; go_simp) rfl ?_
      exact pk_end HSS.out HB4.out HKA4.out HKB.out HFT.out (fun K2 h1 h2 => (HCO.out K2 h1 h2).2) _ _ _ _ _
    · have heq : (Y.toList == t.toList) = false := by
        rw [ByteArray.toList_eq, ByteArray.toList_eq]
        exact beq_eq_false_iff_ne.2 (fun h => he ((txt_is h).trans (txt_is rfl).symm))
      have HNO : Hid (∀ K2, keyB K2 = true → fmtT K2 ≠ t.data.toList) := Lib.hid (fun K2 h1 h2 => by
        obtain ⟨_, rfl⟩ := HCO.out K2 h1 h2
        have h3 := HYY.out
        rw [fmtY, if_pos h1, h2] at h3
        exact he (h3.symm.trans (txt_is rfl).symm))
      clear he
      have zc0 := HZ4.out.cell 0
      have zc1 := HZ4.out.cell 1
      have zc2 := HZ4.out.cell 2
      have zc3 := HZ4.out.cell 3
      have zc4 := HZ4.out.cell 4
      have zf0 := HZ4.out.free 0
      have zf1 := HZ4.out.free 1
      have zf2 := HZ4.out.free 2
      have zf3 := HZ4.out.free 3
      have zf4 := HZ4.out.free 4
      simp only [List.getElem?_toArray, List.getElem?_cons_zero, List.getElem?_cons_succ] at zc0 zc1 zc2 zc3 zc4
      go_wp2
      refine bodyPost_ret (v := .tuple #[.agg #[.int .i64 0, .int .i64 0, .string ⟨#[]⟩, .slice none 0 0, .slice none 0 0], .bool false]) (by rw [results_cell_tmp Tryz.results8]; go_simp) rfl ?_
      exact pk_fail HSS.out HB4.out HNO.out _ _ _ _ _
end Go.Proofs.YtnfigpknejmkmaaGreatDoor
