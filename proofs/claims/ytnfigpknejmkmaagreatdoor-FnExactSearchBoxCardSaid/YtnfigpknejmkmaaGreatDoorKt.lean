/-
  Keys of a search as trees: their nodes, which are valid, how they lie in memory. Plain lemmas; no condition.
-/
import Derived.Test.YtnfigpknejmkmaaGreatDoorSval
import Derived.Test.YtnfigpknejmkmaaGreatDoorSmath
namespace Go.Proofs.YtnfigpknejmkmaaGreatDoor
open Go.RowKit
set_option linter.unusedVariables false

/-- A key: its kind, flag, text, set and keys. -/
inductive KT where
  | mk (kind flag : Int) (text : ByteArray) (set : List (Int × Int)) (keys : List KT)
mutual
def nodesT : KT → Nat
  | .mk _ _ _ _ ks => nodesL ks + 1
def nodesL : List KT → Nat
  | [] => 0
  | k :: r => nodesT k + nodesL r
end
/-- One of the five flags. -/
def flag1 (f : Int) : Bool := f == 1 || f == 2 || f == 4 || f == 8 || f == 16
/-- The fields of a node are those of its kind. -/
def nodeB (kd f : Int) (t : ByteArray) (S : List (Int × Int)) (n : Nat) : Bool :=
  if kd = 0 then f == 0 && t.size == 0 && S.length == 0 && n == 0
  else if kd = 1 then flag1 f && t.size == 0 && S.length == 0 && n == 0
  else if kd = 2 then f == 0 && nameB t.data.toList && S.length == 0 && n == 0
  else if kd = 3 ∨ kd = 4 then f == 0 && t.size == 0 && setB S && n == 0
  else if kd = 5 then f == 0 && t.size == 0 && S.length == 0 && n == 1
  else if kd = 6 ∨ kd = 7 then f == 0 && t.size == 0 && S.length == 0 && n == 2
  else false
mutual
def allT : KT → Bool
  | .mk kd f t S ks => allL ks && nodeB kd f t S ks.length
def allL : List KT → Bool
  | [] => true
  | k :: r => allT k && allL r
end
/-- A valid key. -/
def keyB (k : KT) : Bool := allT k && decide (nodesT k ≤ 9)
theorem nodesT_pos : ∀ k : KT, 0 < nodesT k
  | .mk _ _ _ _ ks => by rw [nodesT]; omega
theorem nodesL_app : ∀ (a b : List KT), nodesL (a ++ b) = nodesL a + nodesL b
  | [], b => by simp [nodesL]
  | k :: a, b => by rw [List.cons_append, nodesL, nodesL, nodesL_app a b]; omega
theorem allL_app : ∀ (a b : List KT), allL (a ++ b) = (allL a && allL b)
  | [], b => by simp [allL]
  | k :: a, b => by rw [List.cons_append, allL, allL, allL_app a b, Bool.and_assoc]
theorem nodesL_take {ks : List KT} {i : Nat} {k : KT} (h : ks[i]? = some k) : nodesL (ks.take (i + 1)) = nodesL (ks.take i) + nodesT k := by
  rw [List.take_add_one, h, nodesL_app]
  show _ + (nodesT k + 0) = _
  omega
theorem nodesL_le {ks : List KT} (i : Nat) : nodesL (ks.take i) ≤ nodesL ks := by
  have := nodesL_app (ks.take i) (ks.drop i)
  rw [List.take_append_drop] at this
  omega
theorem nodesL_lt {ks : List KT} {i : Nat} {k : KT} (h : ks[i]? = some k) : nodesL (ks.take i) + nodesT k ≤ nodesL ks := by
  rw [← nodesL_take h]
  exact nodesL_le _
theorem allL_take {ks : List KT} {i : Nat} {k : KT} (h : ks[i]? = some k) : allL (ks.take (i + 1)) = (allL (ks.take i) && allT k) := by
  rw [List.take_add_one, h, allL_app]
  show (_ && (allT k && true)) = _
  rw [Bool.and_true]
theorem allL_no {ks : List KT} {i : Nat} {k : KT} (h : ks[i]? = some k) (hk : allT k = false) : allL ks = false := by
  have h1 := allL_app (ks.take (i + 1)) (ks.drop (i + 1))
  rw [List.take_append_drop, allL_take h, hk, Bool.and_false, Bool.false_and] at h1
  exact h1
theorem nodesL_len : ∀ ks : List KT, ks.length ≤ nodesL ks
  | [] => Nat.le_refl _
  | k :: r => by
    have h1 := nodesL_len r
    have h2 := nodesT_pos k
    rw [List.length_cons, nodesL]
    omega

mutual
/-- What a key's value is, and what can be read behind it. -/
def KV (w : World) : KT → Value → Prop
  | .mk kd f t S ks, v => ∃ (AS : Option Addr) (nS cS : Nat) (AK : Option Addr) (nK cK : Nat), v = .agg #[.int .i64 kd, .int .i64 f, .string t, .slice AS nS cS, .slice AK nK cK] ∧ S.length = nS ∧ nS ≤ 33554432 ∧ t.size ≤ 16777216 ∧ SpA w AS S ∧ ks.length = nK ∧ KVs w AK 0 ks
def KVs (w : World) (AK : Option Addr) : Nat → List KT → Prop
  | _, [] => True
  | i, k :: r => (∃ (b o : Nat) (v0 v1 v2 v3 v4 : Value), AK = some ⟨b, o, none⟩ ∧ b < w.heap.size ∧ w.cell? ⟨b, o + i * 5, none⟩ = some v0 ∧ w.cell? ⟨b, o + i * 5 + 1, none⟩ = some v1 ∧ w.cell? ⟨b, o + i * 5 + 2, none⟩ = some v2 ∧
      w.cell? ⟨b, o + i * 5 + 3, none⟩ = some v3 ∧ w.cell? ⟨b, o + i * 5 + 4, none⟩ = some v4 ∧ KV w k (.agg #[v0, v1, v2, v3, v4])) ∧ KVs w AK (i + 1) r
end
mutual
theorem KV.below {w w' : World} {B : Nat} (hb : Below B w w') (hB : w.heap.size ≤ B) : ∀ (k : KT) (v : Value), KV w k v → KV w' k v
  | .mk kd f t S ks, v, h => by
    rw [KV] at h ⊢
    obtain ⟨AS, nS, cS, AK, nK, cK, h1, h2, h3, h4, h5, h6, h7⟩ := h
    exact ⟨AS, nS, cS, AK, nK, cK, h1, h2, h3, h4, h5.below hb hB, h6, KVs.below hb hB AK 0 ks h7⟩
theorem KVs.below {w w' : World} {B : Nat} (hb : Below B w w') (hB : w.heap.size ≤ B) (AK : Option Addr) : ∀ (i : Nat) (ks : List KT), KVs w AK i ks → KVs w' AK i ks
  | i, [], h => by rw [KVs]; trivial
  | i, k :: r, h => by
    rw [KVs] at h ⊢
    obtain ⟨⟨b, o, v0, v1, v2, v3, v4, h1, h2, c0, c1, c2, c3, c4, h3⟩, h4⟩ := h
    have hc : ∀ j, w'.cell? ⟨b, j, none⟩ = w.cell? ⟨b, j, none⟩ := fun j => hb.cell (by show b < B; omega)
    exact ⟨⟨b, o, v0, v1, v2, v3, v4, h1, Nat.lt_of_lt_of_le h2 hb.size, (hc _).trans c0, (hc _).trans c1, (hc _).trans c2, (hc _).trans c3, (hc _).trans c4, KV.below hb hB k _ h3⟩, KVs.below hb hB AK (i + 1) r h4⟩
end
theorem KVs.get {w : World} {AK : Option Addr} : ∀ {i : Nat} {ks : List KT} {j : Nat} {k : KT}, KVs w AK i ks → ks[j]? = some k →
    ∃ (b o : Nat) (v0 v1 v2 v3 v4 : Value), AK = some ⟨b, o, none⟩ ∧ b < w.heap.size ∧ w.cell? ⟨b, o + (i + j) * 5, none⟩ = some v0 ∧ w.cell? ⟨b, o + (i + j) * 5 + 1, none⟩ = some v1 ∧ w.cell? ⟨b, o + (i + j) * 5 + 2, none⟩ = some v2 ∧
      w.cell? ⟨b, o + (i + j) * 5 + 3, none⟩ = some v3 ∧ w.cell? ⟨b, o + (i + j) * 5 + 4, none⟩ = some v4 ∧ KV w k (.agg #[v0, v1, v2, v3, v4])
  | i, [], j, k, h, hk => by simp at hk
  | i, x :: r, 0, k, h, hk => by
    simp at hk
    subst hk
    rw [KVs] at h
    exact h.1
  | i, x :: r, j + 1, k, h, hk => by
    rw [KVs] at h
    have := KVs.get h.2 (by simpa using hk)
    rw [show i + 1 + j = i + (j + 1) by omega] at this
    exact this
/-- The contract of a key's node: what is known of its value, opened. -/
theorem KV.open {w : World} {kd f : Int} {t : ByteArray} {S : List (Int × Int)} {ks : List KT} {v : Value} (h : KV w (.mk kd f t S ks) v) :
    ∃ (AS : Option Addr) (nS cS : Nat) (AK : Option Addr) (nK cK : Nat), v = .agg #[.int .i64 kd, .int .i64 f, .string t, .slice AS nS cS, .slice AK nK cK] ∧ S.length = nS ∧ nS ≤ 33554432 ∧ t.size ≤ 16777216 ∧ SpA w AS S ∧ ks.length = nK ∧ KVs w AK 0 ks := by rw [KV] at h; exact h

set_option maxHeartbeats 1000000 in
theorem spec_nodes_n : ∀ (n : Nat) (k : KT) (v : Value) (w : World), nodesT k ≤ n → n ≤ 4000000 → KV w k v →
    Calls Tryz.prog 67 #[v] w fun e w' => e = .returned (.int .i64 (nodesT k : Int)) ∧ Below w.heap.size w w'
  | 0, k, v, w, hn, _, _ => by have := nodesT_pos k; omega
  | n + 1, .mk kd f t S ks, v, w, hn, hm, h => by
    have ih := fun (k' : KT) (v' : Value) (w1 : World) (h1 : nodesT k' ≤ n) (h2 : KV w1 k' v') => spec_nodes_n n k' v' w1 h1 (by omega) h2
    obtain ⟨AS, nS, cS, AK, nK, cK, rfl, h2, h3, h4, h5, h6, h7⟩ := h.open
    have hT : nodesT (.mk kd f t S ks) = nodesL ks + 1 := by rw [nodesT]
    rw [hT] at hn ⊢
    have hln := nodesL_len ks
    have HKS := Lib.hid h7
    have HN6 := Lib.hid h6
    have hnK : nK ≤ 4000000 := by omega
    obtain ⟨B, hB⟩ : ∃ B, w.heap.size = B := ⟨_, rfl⟩
    have HBB := Lib.hid hB
    have HW0 := Lib.hid (hB ▸ Whole.made w 27 #[.int .i64 kd, .int .i64 f, .string t, .slice AS nS cS, .slice AK nK cK])
    have HB0 : Hid (Below B w (w.alloc (.cells #[.int .i64 kd, .int .i64 f, .string t, .slice AS nS cS, .slice AK nK cK] 27))) := (Below.refl _ _).alloc (Nat.le_of_eq hB.symm) _
    obtain ⟨m, hmm⟩ : ∃ m, nodesL ks + 1 = m := ⟨_, rfl⟩
    have HMM := Lib.hid hmm
    have HIH := Lib.hid ih
    have hm2 : m ≤ 4000000 := by omega
    have hmn : m ≤ n + 1 := by omega
    rw [hmm]
    clear h h2 h3 h4 h5 h6 h7 hT hn hln hm hmm ih
    have z4 := HW0.out.cell 4
    simp at z4
    go_enter Tryz.func67, Tryz.ntmps67
    go_wp2
    clear z4
    go_loopw [3, 4] (fun nv iv wr => ∃ (i s : Nat), i ≤ nK ∧ s ≤ m ∧ nv = .int .i64 (s : Int) ∧ iv = .int .i64 (i : Int) ∧ Hid (nodesL (ks.take i) + 1 = s) ∧ Hid (Below B w wr) ∧ Hid (Whole wr B 27 #[.int .i64 kd, .int .i64 f, .string t, .slice AS nS cS, .slice AK nK cK])) (fun _ iv _ => nK - (intOf iv).toNat)
    case atStart => exact ⟨0, 1, Nat.zero_le _, by have := HMM.out; omega, by go_num, by go_num, rfl, HB0, HW0⟩
    case round =>
      obtain ⟨i, s, hi, hsm, rfl, rfl, HS, HB, HW⟩ := hrel
      have z4 := HW.out.cell 4
      simp at z4
      by_cases hlt : i < nK
      · have h0 : (0 : Int) ≤ (i : Int) := by omega
        have h5 : (i : Int) < (nK : Int) := by omega
        obtain ⟨k, hk⟩ : ∃ k, ks[i]? = some k := ⟨_, List.getElem?_eq_getElem (by rw [HN6.out]; exact hlt)⟩
        obtain ⟨b, o, v0, v1, v2, v3, v4, rfl, hbz, c0, c1, c2, c3, c4, hkv⟩ := (KVs.below HB.out (Nat.le_of_eq HBB.out) AK 0 ks HKS.out).get hk
        rw [Nat.zero_add] at c0 c1 c2 c3 c4
        have hnl := nodesL_lt hk
        have hnt := nodesL_take hk
        obtain ⟨q, hq⟩ : ∃ q, nodesT k = q := ⟨_, rfl⟩
        have hqp := nodesT_pos k
        rw [hq] at hnl hnt hqp
        have hs1 := HS.out
        have hmo := HMM.out
        obtain ⟨s2, hs2⟩ : ∃ y, s + q = y := ⟨_, rfl⟩
        have hs2m : s2 ≤ m := by omega
        have E1 : (s : Int) + (q : Int) = (s2 : Int) := by omega
        have W1 : IntKind.i64.wrap ((s : Int) + (q : Int)) = (s2 : Int) := (IntWalk.i64_in _ (by omega)).trans E1
        have HS2 : Hid (nodesL (ks.take (i + 1)) + 1 = s2) := by show _ = _; omega
        have HC := Lib.hid (HIH.out k (.agg #[v0, v1, v2, v3, v4]) wr (by omega) hkv)
        rw [hq] at HC
        have HSZ := Lib.hid HB.out.size
        clear hk hkv hnl hnt hq hqp hs1 hmo hs2
        go_wp2_with fail
        refine HC.out.mono ?_
        rintro e w2 ⟨rfl, hb⟩
        have HB2 := Lib.hid (HB.out.trans (hb.mono (HBB.out ▸ HSZ.out)))
        have HW2 := Lib.hid (HW.out.below hb HW.out.lt)
        clear hb
        go_wp2
        go_roundw
        case rel => exact ⟨i + 1, s2, by omega, hs2m, rfl, by go_num, HS2, HB2, HW2⟩
        case measure => simp [intOf]; omega
      · have h5 : ¬ (i : Int) < (nK : Int) := by omega
        have hsm2 : s = m := by
          have h1 := HS.out
          rw [List.take_of_length_le (by rw [HN6.out]; omega)] at h1
          rw [← h1, HMM.out]
        subst hsm2
        go_wp2
        go_ret
        exact ⟨rfl, HBB.out ▸ HB.out⟩
end Go.Proofs.YtnfigpknejmkmaaGreatDoor
