/-
  The size of a key argument: szSpanS, szKeyS, szKey. Condition: the key lies in memory.
-/
import Derived.Test.YtodafbfhcgphpaaDoorKxa
namespace Go.Proofs.YtodafbfhcgphpaaDoor
open Go.RowKit
set_option linter.unusedVariables false

mutual
theorem KZ.below {w w' : World} {B : Nat} (hb : Below B w w') (hB : w.heap.size ≤ B) : ∀ (k : KT) (v : Value), KZ w k v → KZ w' k v
  | .mk kd f t S ks, v, h => by
    rw [KZ] at h ⊢
    obtain ⟨AS, nS, cS, AK, nK, cK, h1, h2, h3, h4, h5, h6, h7, h8⟩ := h
    exact ⟨AS, nS, cS, AK, nK, cK, h1, h2, h3, h4, h5.below hb hB, h6, h7, KZs.below hb hB AK 0 ks h8⟩
theorem KZs.below {w w' : World} {B : Nat} (hb : Below B w w') (hB : w.heap.size ≤ B) (AK : Option Addr) : ∀ (i : Nat) (ks : List KT), KZs w AK i ks → KZs w' AK i ks
  | i, [], h => by rw [KZs]; trivial
  | i, k :: r, h => by
    rw [KZs] at h ⊢
    obtain ⟨⟨b, o, v0, v1, v2, v3, v4, h1, h2, c0, c1, c2, c3, c4, h3⟩, h4⟩ := h
    have hc : ∀ j, w'.cell? ⟨b, j, none⟩ = w.cell? ⟨b, j, none⟩ := fun j => hb.cell (by show b < B; omega)
    exact ⟨⟨b, o, v0, v1, v2, v3, v4, h1, Nat.lt_of_lt_of_le h2 hb.size, (hc _).trans c0, (hc _).trans c1, (hc _).trans c2, (hc _).trans c3, (hc _).trans c4, KZ.below hb hB k _ h3⟩, KZs.below hb hB AK (i + 1) r h4⟩
end
theorem KZs.get {w : World} {AK : Option Addr} : ∀ {i : Nat} {ks : List KT} {j : Nat} {k : KT}, KZs w AK i ks → ks[j]? = some k →
    ∃ (b o : Nat) (v0 v1 v2 v3 v4 : Value), AK = some ⟨b, o, none⟩ ∧ b < w.heap.size ∧ w.cell? ⟨b, o + (i + j) * 5, none⟩ = some v0 ∧ w.cell? ⟨b, o + (i + j) * 5 + 1, none⟩ = some v1 ∧ w.cell? ⟨b, o + (i + j) * 5 + 2, none⟩ = some v2 ∧
      w.cell? ⟨b, o + (i + j) * 5 + 3, none⟩ = some v3 ∧ w.cell? ⟨b, o + (i + j) * 5 + 4, none⟩ = some v4 ∧ KZ w k (.agg #[v0, v1, v2, v3, v4])
  | i, [], j, k, h, hk => by simp at hk
  | i, x :: r, 0, k, h, hk => by
    rw [KZs] at h
    cases hk
    exact h.1
  | i, x :: r, j + 1, k, h, hk => by
    rw [KZs] at h
    have h1 := KZs.get h.2 hk
    rw [show i + 1 + j = i + (j + 1) by omega] at h1
    exact h1
mutual
/-- The size of a tree. -/
def szT : KT → Nat
  | .mk kd f t S ks => t.size + S.length + ks.length + szL ks
def szL : List KT → Nat
  | [] => 0
  | k :: r => szT k + szL r
end
theorem szL_take {k : KT} : ∀ {ks : List KT} {i : Nat}, ks[i]? = some k → szL (ks.take (i + 1)) = szL (ks.take i) + szT k
  | [], i, h => by simp at h
  | x :: r, 0, h => by
    cases h
    simp [szL]
  | x :: r, i + 1, h => by
    have h1 := szL_take (ks := r) h
    rw [List.take_succ_cons, List.take_succ_cons, szL, szL, h1]
    omega
theorem szL_le : ∀ (ks : List KT) (i : Nat), szL (ks.take i) ≤ szL ks
  | [], i => by simp
  | x :: r, 0 => by simp [szL]
  | x :: r, i + 1 => by
    have h1 := szL_le r i
    rw [List.take_succ_cons, szL, szL]
    omega
/-- What is left. -/
def lft (x : Int) : Int := if x < 0 then -1 else x
theorem lft_no {x : Int} (h : x < 0) : lft x = -1 := if_pos h
theorem lft_yes {x : Int} (h : 0 ≤ x) : lft x = x := if_neg (by omega)
theorem szk_spans {left : Int} {n : Nat} (A : Option Addr) (c : Nat) (w : World) (h0 : 0 ≤ left) (h1 : left ≤ 1048576) (hn : n ≤ maxLen) :
    Calls Tryd.prog 22 #[.slice A n c, .int .i64 left] w fun e w' => e = .returned (.int .i64 (lft (left - n))) ∧ Below w.heap.size w w' := by
  have hM : (n : Int) ≤ 9223372036854775807 := by unfold maxLen at hn; omega
  obtain ⟨x, hx⟩ : ∃ x, left - (n : Int) = x := ⟨_, rfl⟩
  have W : IntKind.i64.wrap (left - (n : Int)) = x := (IntWalk.i64_in _ (by omega)).trans hx
  rw [hx]
  by_cases hl : x < 0
  · rw [lft_no hl]
    clear hx hn
    go_enter Tryd.func22, Tryd.ntmps22
    go_wp2
    go_ret
    exact ⟨rfl, Below.refl _ _⟩
  · rw [lft_yes (by omega)]
    clear hx hn
    go_enter Tryd.func22, Tryd.ntmps22
    go_wp2
    go_ret
    exact ⟨rfl, Below.refl _ _⟩
/-- What szKey answers for a key. -/
def SzK (w : World) (k : KT) (l : Int) (e : Ending) (w' : World) : Prop := e = .returned (.int .i64 (lft (l - (szT k : Int)))) ∧ Below w.heap.size w w'
set_option maxRecDepth 20000 in
set_option maxHeartbeats 2000000 in
theorem sz_keys_step {n : Nat} (ih : ∀ (k : KT) (v : Value) (w1 : World) (l : Int), nodesT k ≤ n → 0 ≤ l → l ≤ 1048576 → KZ w1 k v → Calls Tryd.prog 11 #[v, .int .i64 l] w1 (SzK w1 k l))
    {ks : List KT} (hks : ∀ k ∈ ks, nodesT k ≤ n) {AK : Option Addr} {nK : Nat} (cK : Nat) (w : World) (h : KZs w AK 0 ks) (hn : ks.length = nK) (hm : nK ≤ maxLen) {left : Int} (h0 : 0 ≤ left) (h1 : left ≤ 1048576) :
    Calls Tryd.prog 23 #[.slice AK nK cK, .int .i64 left] w fun e w' => e = .returned (.int .i64 (lft (left - ((nK + szL ks : Nat) : Int)))) ∧ Below w.heap.size w w' := by
  have hM : (nK : Int) ≤ 9223372036854775807 := by unfold maxLen at hm; omega
  obtain ⟨R, hR⟩ : ∃ R, lft (left - ((nK + szL ks : Nat) : Int)) = R := ⟨_, rfl⟩
  have HNO : Hid (left < (nK : Int) + szL ks → R = -1) := Lib.hid fun hl => by rw [← hR]; exact lft_no (by omega)
  have HYES : Hid ((nK : Int) + szL ks ≤ left → R = left - nK - szL ks) := Lib.hid fun hl => by rw [← hR, lft_yes (by omega)]; omega
  obtain ⟨x, hx⟩ : ∃ x, left - (nK : Int) = x := ⟨_, rfl⟩
  have W : IntKind.i64.wrap (left - (nK : Int)) = x := (IntWalk.i64_in _ (by omega)).trans hx
  have HIH := Lib.hid ih
  have HKS := Lib.hid h
  have HNK := Lib.hid hn
  have HAL := Lib.hid hks
  rw [hR]
  clear ih h hn hks hR hm
  by_cases hl : x < 0
  · have HRR : Hid (R = -1) := Lib.hid (HNO.out (by omega))
    clear hx
    go_enter Tryd.func23, Tryd.ntmps23
    go_wp2
    go_ret
    exact ⟨by rw [HRR.out]; rfl, Below.refl _ _⟩
  · obtain ⟨s0, rfl⟩ : ∃ s0 : Nat, x = (s0 : Int) := ⟨x.toNat, by omega⟩
    have hs0 : s0 ≤ 1048576 := by omega
    have hnk : nK ≤ 1048576 := by omega
    have HX := Lib.hid hx
    have HBW := Lib.hid (Below.refl w.heap.size w)
    clear hx
    go_enter Tryd.func23, Tryd.ntmps23
    go_wp2
    go_loopw [1, 5] (fun lv iv wr => ∃ (i s : Nat), i ≤ nK ∧ s ≤ 1048576 ∧ lv = .int .i64 (s : Int) ∧ iv = .int .i64 (i : Int) ∧ Hid (s + szL (ks.take i) = s0) ∧ Hid (Below w.heap.size w wr)) (fun _ iv _ => nK - (intOf iv).toNat)
    case atStart => exact ⟨0, s0, Nat.zero_le _, hs0, by go_num, by go_num, Lib.hid (by simp [szL]), HBW⟩
    case round =>
      obtain ⟨i, s, hi, hs, rfl, rfl, HSR, HBr⟩ := hrel
      by_cases hlt : i < nK
      · have i0 : (0 : Int) ≤ (i : Int) := by omega
        have i5 : (i : Int) < (nK : Int) := by omega
        obtain ⟨k, hk⟩ : ∃ x, ks[i]? = some x := ⟨_, List.getElem?_eq_getElem (by rw [HNK.out]; exact hlt)⟩
        obtain ⟨b, o, v0, v1, v2, v3, v4, rfl, hbz, c0, c1, c2, c3, c4, hkz⟩ := (KZs.below HBr.out (Nat.le_refl _) _ _ _ HKS.out).get hk
        rw [Nat.zero_add] at c0 c1 c2 c3 c4
        have HC := Lib.hid (HIH.out k _ wr (s : Int) (HAL.out k (List.mem_of_getElem? hk)) (by omega) (by omega) hkz)
        have HT := Lib.hid (szL_take hk)
        have HLE := Lib.hid (szL_le ks (i + 1))
        have W1 : IntKind.i64.wrap ((i : Int) + 1) = (i : Int) + 1 := IntWalk.i64_in _ (by omega)
        clear hk hkz hbz
        go_wp2_with fail
        refine HC.out.mono ?_
        rintro e w2 ⟨rfl, hb⟩
        have HB2 := Lib.hid (HBr.out.trans (hb.mono HBr.out.size))
        clear hb c0 c1 c2 c3 c4
        obtain ⟨y, hy⟩ : ∃ y, lft ((s : Int) - (szT k : Int)) = y := ⟨_, rfl⟩
        rw [hy]
        by_cases hy0 : y < 0
        · have hlt2 : s < szT k := by
            rcases Nat.lt_or_ge s (szT k) with h | h
            · exact h
            · rw [lft_yes (by omega)] at hy; omega
          have HRR : Hid (R = -1) := Lib.hid (HNO.out (by have := HSR.out; have := HT.out; have := HLE.out; have := HX.out; omega))
          clear hy hlt2
          go_wp2
          go_ret
          exact ⟨by rw [HRR.out]; rfl, HB2.out⟩
        · have hge : szT k ≤ s := by
            rcases Nat.lt_or_ge s (szT k) with h | h
            · rw [lft_no (by omega)] at hy; omega
            · exact h
          obtain ⟨t, ht⟩ : ∃ t, s - szT k = t := ⟨_, rfl⟩
          have hyt : y = (t : Int) := by rw [← hy, lft_yes (by omega)]; omega
          subst hyt
          have HS2 : Hid (t + szL (ks.take (i + 1)) = s0) := Lib.hid (by rw [HT.out]; have := HSR.out; omega)
          have ht2 : t ≤ 1048576 := by omega
          clear hy hge ht
          go_wp2
          go_roundw
          case rel => exact ⟨i + 1, t, by omega, ht2, by go_num, by go_num, HS2, HB2⟩
          case measure => simp [intOf]; omega
      · have i5 : ¬ (i : Int) < (nK : Int) := by omega
        have hin : i = nK := by omega
        subst hin
        have HRR : Hid (R = (s : Int)) := Lib.hid (by
          have h1 := HSR.out
          rw [List.take_of_length_le (Nat.le_of_eq HNK.out)] at h1
          have h2 := HX.out
          rw [HYES.out (by omega)]
          omega)
        go_wp2
        go_ret
        exact ⟨by rw [HRR.out]; rfl, HBr.out⟩
set_option maxHeartbeats 2000000 in
theorem sz_key_step {n : Nat} (ih : ∀ (k : KT) (v : Value) (w1 : World) (l : Int), nodesT k ≤ n → 0 ≤ l → l ≤ 1048576 → KZ w1 k v → Calls Tryd.prog 11 #[v, .int .i64 l] w1 (SzK w1 k l))
    (k : KT) (v : Value) (w : World) {left : Int} (hn : nodesT k ≤ n + 1) (h0 : 0 ≤ left) (h1 : left ≤ 1048576) (h : KZ w k v) : Calls Tryd.prog 11 #[v, .int .i64 left] w (SzK w k left) := by
  obtain ⟨kd, f, t, S, ks⟩ := k
  rw [KZ] at h
  obtain ⟨AS, nS, cS, AK, nK, cK, rfl, h2, h3, h4, h5, h6, h7, h8⟩ := h
  have hT : szT (.mk kd f t S ks) = t.size + nS + (nK + szL ks) := by rw [szT, h2, h6]; omega
  have hall : ∀ k ∈ ks, nodesT k ≤ n := fun k hk => by
    rw [nodesT] at hn
    obtain ⟨i, hi⟩ := List.getElem?_of_mem hk
    have := nodesL_lt hi
    omega
  obtain ⟨B, hB⟩ : ∃ B, w.heap.size = B := ⟨_, rfl⟩
  obtain ⟨wa, hwa⟩ : ∃ wa, w.alloc (.cells #[.int .i64 kd, .int .i64 f, .string t, .slice AS nS cS, .slice AK nK cK] 36) = wa := ⟨_, rfl⟩
  have HC := Lib.hid (show Whole wa B 36 #[.int .i64 kd, .int .i64 f, .string t, .slice AS nS cS, .slice AK nK cK] by rw [← hwa]; exact hB ▸ Whole.made w _ _)
  have HBa := Lib.hid (show Below w.heap.size w wa by rw [← hwa]; exact below_newK w _)
  have HKS := Lib.hid (KZs.below HBa.out (Nat.le_refl _) _ _ _ h8)
  have HWA := Lib.hid hwa
  have HBB := Lib.hid hB
  have HNS := Lib.hid h3
  have HNK := Lib.hid h6
  have HNM := Lib.hid h7
  have HIH := Lib.hid ih
  have HALL := Lib.hid hall
  have htz : (t.size : Int) ≤ 9223372036854775807 := by unfold maxLen at h4; omega
  obtain ⟨R, hR⟩ : ∃ R, lft (left - (szT (.mk kd f t S ks) : Int)) = R := ⟨_, rfl⟩
  obtain ⟨x, hx⟩ : ∃ x, left - (t.size : Int) = x := ⟨_, rfl⟩
  have W : IntKind.i64.wrap (left - (t.size : Int)) = x := (IntWalk.i64_in _ (by omega)).trans hx
  have HNO : Hid (x - nS - (nK + szL ks) < 0 → R = -1) := Lib.hid fun hl => by rw [← hR]; exact lft_no (by rw [hT]; omega)
  have HYES : Hid (0 ≤ x - nS - (nK + szL ks) → R = x - nS - (nK + szL ks)) := Lib.hid fun hl => by rw [← hR, lft_yes (by rw [hT]; omega), hT]; omega
  have hx1 : x ≤ 1048576 := by omega
  unfold SzK
  rw [hR]
  clear hn h2 h3 h4 h5 h6 h7 h8 hT hall hwa hB ih hR
  have z2 : (w.alloc (.cells #[.int .i64 kd, .int .i64 f, .string t, .slice AS nS cS, .slice AK nK cK] 36)).cell? ⟨w.heap.size, 2, none⟩ = some (.string t) := by rw [HWA.out, HBB.out]; exact HC.out.cell 2
  have z3 : (w.alloc (.cells #[.int .i64 kd, .int .i64 f, .string t, .slice AS nS cS, .slice AK nK cK] 36)).cell? ⟨w.heap.size, 3, none⟩ = some (.slice AS nS cS) := by rw [HWA.out, HBB.out]; exact HC.out.cell 3
  by_cases hl : x < 0
  · have HRR : Hid (R = -1) := Lib.hid (HNO.out (by omega))
    clear hx
    go_enter Tryd.func11, Tryd.ntmps11
    go_wp2
    go_ret
    exact ⟨by rw [HRR.out]; rfl, HWA.out ▸ HBa.out⟩
  · have hl0 : 0 ≤ x := by omega
    clear hx
    go_enter Tryd.func11, Tryd.ntmps11
    go_wp2_with fail
    rw [HWA.out, HBB.out]
    refine (szk_spans AS cS wa hl0 hx1 HNS.out).mono ?_
    rintro e w2 ⟨rfl, hb⟩
    have HB2 := Lib.hid (HBa.out.trans (hb.mono HBa.out.size))
    have HC2 := Lib.hid (HC.out.below hb HC.out.lt)
    have HKS2 := Lib.hid (KZs.below hb (Nat.le_refl _) _ _ _ HKS.out)
    clear hb z2 z3
    obtain ⟨y, hy⟩ : ∃ y, lft (x - (nS : Int)) = y := ⟨_, rfl⟩
    rw [hy]
    by_cases hy0 : y < 0
    · have HRR : Hid (R = -1) := Lib.hid (HNO.out (by
        rcases Int.lt_or_le (x - nS) 0 with h | h
        · omega
        · rw [lft_yes h] at hy; omega))
      clear hy
      go_wp2
      go_ret
      exact ⟨by rw [HRR.out]; rfl, HB2.out⟩
    · have hyx : y = x - nS := by
        rcases Int.lt_or_le (x - nS) 0 with h | h
        · rw [lft_no h] at hy; omega
        · rw [← hy, lft_yes h]
      have HYX := Lib.hid hyx
      have hy1 : y ≤ 1048576 := by omega
      have hy00 : 0 ≤ y := by omega
      clear hy hyx
      have z4 : w2.cell? ⟨B, 4, none⟩ = some (.slice AK nK cK) := HC2.out.cell 4
      go_wp2_with fail
      refine (sz_keys_step HIH.out HALL.out cK w2 HKS2.out HNK.out HNM.out hy00 hy1).mono ?_
      rintro e w3 ⟨rfl, hb⟩
      have HB3 := Lib.hid (HB2.out.trans (hb.mono HB2.out.size))
      clear hb z4
      obtain ⟨u, hu⟩ : ∃ u, lft (y - ((nK + szL ks : Nat) : Int)) = u := ⟨_, rfl⟩
      rw [hu]
      have HRU : Hid (R = u) := Lib.hid (by
        have h1 := HYX.out
        rcases Int.lt_or_le (y - ((nK + szL ks : Nat) : Int)) 0 with h | h
        · rw [lft_no h] at hu
          rw [HNO.out (by omega)]
          exact hu
        · rw [lft_yes h] at hu
          rw [HYES.out (by omega)]
          omega)
      by_cases hu0 : u < 0
      · have hu1 : u = -1 := by
          rcases Int.lt_or_le (y - ((nK + szL ks : Nat) : Int)) 0 with h | h
          · rw [← hu]; exact lft_no h
          · rw [lft_yes h] at hu; omega
        have HUU := Lib.hid hu1
        clear hu hu1
        go_wp2
        go_ret
        exact ⟨by rw [HRU.out, HUU.out]; rfl, HB3.out⟩
      · clear hu
        go_wp2
        go_ret
        exact ⟨by rw [HRU.out]; rfl, HB3.out⟩
theorem sz_key : ∀ (n : Nat) (k : KT) (v : Value) (w : World) (l : Int), nodesT k ≤ n → 0 ≤ l → l ≤ 1048576 → KZ w k v → Calls Tryd.prog 11 #[v, .int .i64 l] w (SzK w k l)
  | 0, k, v, w, l, hn, _, _, _ => by have := nodesT_pos k; omega
  | n + 1, k, v, w, l, hn, h0, h1, h => sz_key_step (fun k v w1 l a b c d => sz_key n k v w1 l a b c d) k v w hn h0 h1 h
end Go.Proofs.YtodafbfhcgphpaaDoor
