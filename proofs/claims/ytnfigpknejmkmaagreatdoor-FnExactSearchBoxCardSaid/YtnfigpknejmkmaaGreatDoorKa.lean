/-
  Keys that lie in a window of memory; keys' rows: an own slice of keys. Plain lemmas; no condition.
-/
import Derived.Test.YtnfigpknejmkmaaGreatDoorKz
import Derived.Test.YtnfigpknejmkmaaGreatDoorSdrk
namespace Go.Proofs.YtnfigpknejmkmaaGreatDoor
open Go.RowKit
set_option linter.unusedVariables false

/-- A world of which only the blocks of a window can be read. -/
def low (lo hi : Nat) (w : World) : World := { w with heap := w.heap.mapIdx fun i o => if lo ≤ i ∧ i < hi then o else .cells #[] 0 (0, 0) }
theorem low_size (lo hi : Nat) (w : World) : (low lo hi w).heap.size = w.heap.size := by simp [low]
theorem low_in {lo hi : Nat} {w : World} {p : Addr} (h1 : lo ≤ p.block) (h2 : p.block < hi) : (low lo hi w).cell? p = w.cell? p := by
  unfold World.cell? low
  simp only [Array.getElem?_mapIdx]
  cases w.heap[p.block]? with
  | none => rfl
  | some o => simp [h1, h2]
theorem low_out {lo hi : Nat} {w : World} {p : Addr} {u : Value} (h : (low lo hi w).cell? p = some u) : lo ≤ p.block ∧ p.block < hi ∧ p.block < w.heap.size ∧ w.cell? p = some u := by
  by_cases hh : lo ≤ p.block ∧ p.block < hi
  · rw [low_in hh.1 hh.2] at h
    refine ⟨hh.1, hh.2, ?_, h⟩
    unfold World.cell? at h
    by_cases hs : p.block < w.heap.size
    · exact hs
    · rw [Array.getElem?_eq_none (by omega)] at h
      cases h
  · unfold World.cell? low at h
    simp only [Array.getElem?_mapIdx] at h
    cases hw : w.heap[p.block]? with
    | none => rw [hw] at h; cases h
    | some o =>
      rw [hw] at h
      simp [hh] at h
theorem SpA.mono {w w' : World} {A : Option Addr} {L : List (Int × Int)} (hz : w.heap.size ≤ w'.heap.size) (hc : ∀ p u, w.cell? p = some u → w'.cell? p = some u) (h : SpA w A L) : SpA w' A L := fun i x hx => by
  obtain ⟨b, o, hA, hb, h1, h2⟩ := h i x hx
  exact ⟨b, o, hA, by omega, hc _ _ h1, hc _ _ h2⟩
mutual
theorem KV.mono {w w' : World} (hz : w.heap.size ≤ w'.heap.size) (hc : ∀ p u, w.cell? p = some u → w'.cell? p = some u) : ∀ (k : KT) (v : Value), KV w k v → KV w' k v
  | .mk kd f t S ks, v, h => by
    rw [KV] at h ⊢
    obtain ⟨AS, nS, cS, AK, nK, cK, h1, h2, h3, h4, h5, h6, h7⟩ := h
    exact ⟨AS, nS, cS, AK, nK, cK, h1, h2, h3, h4, h5.mono hz hc, h6, KVs.mono hz hc AK 0 ks h7⟩
theorem KVs.mono {w w' : World} (hz : w.heap.size ≤ w'.heap.size) (hc : ∀ p u, w.cell? p = some u → w'.cell? p = some u) (AK : Option Addr) : ∀ (i : Nat) (ks : List KT), KVs w AK i ks → KVs w' AK i ks
  | i, [], h => by rw [KVs]; trivial
  | i, k :: r, h => by
    rw [KVs] at h ⊢
    obtain ⟨⟨b, o, v0, v1, v2, v3, v4, h1, h2, c0, c1, c2, c3, c4, h3⟩, h4⟩ := h
    exact ⟨⟨b, o, v0, v1, v2, v3, v4, h1, Nat.lt_of_lt_of_le h2 hz, hc _ _ c0, hc _ _ c1, hc _ _ c2, hc _ _ c3, hc _ _ c4, KV.mono hz hc k _ h3⟩, KVs.mono hz hc AK (i + 1) r h4⟩
end
/-- A key whose memory lies in a window. -/
def KA (lo hi : Nat) (w : World) (k : KT) (v : Value) : Prop := KV (low lo hi w) k v
theorem KA.kv {lo hi : Nat} {w : World} {k : KT} {v : Value} (h : KA lo hi w k v) : KV w k v := KV.mono (Nat.le_of_eq (low_size _ _ _)) (fun p u hp => (low_out hp).2.2.2) k v h
theorem KA.grown {lo hi : Nat} {w w' : World} {row : Option Nat} {k : KT} {v : Value} (h : KA lo hi w k v) (hg : w.grownBy w' row) (hr : ∀ g, row = some g → g < lo ∨ hi ≤ g) : KA lo hi w' k v :=
  KV.mono (by rw [low_size, low_size]; exact hg.size) (fun p u hp => by
    obtain ⟨h1, h2, h3, h4⟩ := low_out hp
    rw [low_in h1 h2]
    exact (World.cell?_of_block (hg.block p.block h3 (fun e => by have := hr p.block e.symm; omega))).trans h4) k v h
theorem KA.widen {lo hi lo' hi' : Nat} {w : World} {k : KT} {v : Value} (h : KA lo hi w k v) (h1 : lo' ≤ lo) (h2 : hi ≤ hi') : KA lo' hi' w k v :=
  KV.mono (by rw [low_size, low_size]; exact Nat.le_refl _) (fun p u hp => by
    obtain ⟨h3, h4, h5, h6⟩ := low_out hp
    rw [low_in (by omega) (by omega)]
    exact h6) k v h

/-- A row of a key's cells. -/
abbrev KR := Int × Int × ByteArray × (Option Addr × Nat × Nat) × (Option Addr × Nat × Nat)
abbrev kcells (x : KR) : List Value := [.int .i64 x.1, .int .i64 x.2.1, .string x.2.2.1, .slice x.2.2.2.1.1 x.2.2.2.1.2.1 x.2.2.2.1.2.2, .slice x.2.2.2.2.1 x.2.2.2.2.2.1 x.2.2.2.2.2.2]
abbrev kval (x : KR) : Value := .agg #[.int .i64 x.1, .int .i64 x.2.1, .string x.2.2.1, .slice x.2.2.2.1.1 x.2.2.2.1.2.1 x.2.2.2.1.2.2, .slice x.2.2.2.2.1 x.2.2.2.2.2.1 x.2.2.2.2.2.2]
def keyR : RowT KR where
  t := 27
  sz := 5
  enc := kcells
  len := fun _ => rfl
  one := fun x u hu => by
    simp at hu
    rcases hu with rfl | rfl | rfl | rfl | rfl <;> rfl
theorem Tryz.infoKey : (Tryz.prog.info? 27).map (fun i => (i.zero, i.size, i.bytes)) = some (some (.agg #[.int .i64 0, .int .i64 0, .string ⟨#[]⟩, .slice none 0 0, .slice none 0 0]), 5, 80) := by kernel_rfl
/-- Rows that hold keys. -/
def KRs (P : KT → Value → Prop) : List KT → List KR → Prop
  | [], rs => rs = []
  | k :: ks, rs => ∃ r s, rs = r :: s ∧ P k (kval r) ∧ KRs P ks s
theorem KRs.imp {P Q : KT → Value → Prop} (hi : ∀ k v, P k v → Q k v) : ∀ {ks : List KT} {rs : List KR}, KRs P ks rs → KRs Q ks rs
  | [], rs, h => h
  | k :: ks, rs, ⟨r, s, h1, h2, h3⟩ => ⟨r, s, h1, hi _ _ h2, KRs.imp hi h3⟩
theorem KRs.len {P : KT → Value → Prop} : ∀ {ks : List KT} {rs : List KR}, KRs P ks rs → ks.length = rs.length
  | [], rs, h => by rw [show rs = [] from h]; rfl
  | k :: ks, rs, ⟨r, s, h1, h2, h3⟩ => by rw [h1, List.length_cons, List.length_cons, KRs.len h3]
theorem KRs.push {P : KT → Value → Prop} : ∀ {ks : List KT} {rs : List KR} {k : KT} {r : KR}, KRs P ks rs → P k (kval r) → KRs P (ks ++ [k]) (rs ++ [r])
  | [], rs, k, r, h, hp => by
    rw [show rs = [] from h]
    exact ⟨r, [], rfl, hp, rfl⟩
  | x :: ks, rs, k, r, ⟨r0, s, h1, h2, h3⟩, hp => by
    subst h1
    exact ⟨r0, s ++ [r], rfl, h2, KRs.push h3 hp⟩
theorem RAt.kvs {w : World} {A : Option Addr} : ∀ {ks : List KT} {rs all : List KR} {i : Nat}, RAt keyR w A all → (∀ j r, rs[j]? = some r → all[i + j]? = some r) → KRs (KV w) ks rs → KVs w A i ks
  | [], rs, all, i, _, _, _ => by rw [KVs]; trivial
  | k :: ks, rs, all, i, hat, hall, ⟨r, s, h1, h2, h3⟩ => by
    subst h1
    rw [KVs]
    obtain ⟨b, o, hA, hb, hc⟩ := hat i r (hall 0 r rfl)
    refine ⟨⟨b, o, _, _, _, _, _, hA, hb, hc 0 _ rfl, hc 1 _ rfl, hc 2 _ rfl, hc 3 _ rfl, hc 4 _ rfl, h2⟩, RAt.kvs hat (fun j x hx => ?_) h3⟩
    have := hall (j + 1) x hx
    rw [show i + 1 + j = i + (j + 1) by omega]
    exact this
theorem kvs_rows {w : World} {A : Option Addr} : ∀ {ks : List KT} {i : Nat}, KVs w A i ks → ∃ rs : List KR, KRs (KV w) ks rs ∧ ∀ j r, rs[j]? = some r → ∃ b o, A = some ⟨b, o, none⟩ ∧ b < w.heap.size ∧ ∀ l u, (kcells r)[l]? = some u → w.cell? ⟨b, o + (i + j) * 5 + l, none⟩ = some u
  | [], i, h => ⟨[], rfl, fun j r hj => by simp at hj⟩
  | k :: ks, i, h => by
    rw [KVs] at h
    obtain ⟨⟨b, o, v0, v1, v2, v3, v4, hA, hb, c0, c1, c2, c3, c4, hv⟩, h4⟩ := h
    obtain ⟨a0, a1, a2, a3, a4, a5, a6, a7, a8, rfl, rfl, rfl, rfl, rfl⟩ := kv_five hv
    obtain ⟨rs, h5, h6⟩ := kvs_rows h4
    refine ⟨(a0, a1, a2, (a3, a4, a5), (a6, a7, a8)) :: rs, ⟨_, _, rfl, hv, h5⟩, fun j r hj => ?_⟩
    cases j with
    | zero =>
      simp at hj
      subst hj
      refine ⟨b, o, hA, hb, fun l u hl => ?_⟩
      match l, hl with
      | 0, hl => simp at hl; subst hl; simpa using c0
      | 1, hl => simp at hl; subst hl; simpa using c1
      | 2, hl => simp at hl; subst hl; simpa using c2
      | 3, hl => simp at hl; subst hl; simpa using c3
      | 4, hl => simp at hl; subst hl; simpa using c4
      | l + 5, hl => simp at hl
    | succ j =>
      obtain ⟨b2, o2, hA2, hb2, hc⟩ := h6 j r (by simpa using hj)
      refine ⟨b2, o2, hA2, hb2, fun l u hl => ?_⟩
      have := hc l u hl
      rw [show i + 1 + j = i + (j + 1) by omega] at this
      exact this
theorem kvs_at {w : World} {A : Option Addr} {ks : List KT} (h : KVs w A 0 ks) : ∃ rs : List KR, KRs (KV w) ks rs ∧ RAt keyR w A rs := by
  obtain ⟨rs, h1, h2⟩ := kvs_rows h
  refine ⟨rs, h1, fun j r hj => ?_⟩
  obtain ⟨b, o, hA, hb, hc⟩ := h2 j r hj
  refine ⟨b, o, hA, hb, fun l u hl => ?_⟩
  have := hc l u hl
  rw [Nat.zero_add] at this
  exact this
/-- An own slice of keys in a window. -/
theorem kvs_own {w : World} {S B hi n cap : Nat} {A : Option Addr} {ks : List KT} {rs : List KR} (ho : ROwn keyR w B (.slice A n cap) rs) (hB : S ≤ B) (hk : KRs (KA S hi w) ks rs) (hw : hi ≤ w.heap.size) : KVs (low S w.heap.size w) A 0 ks := by
  have hat := ho.at
  have hat2 : RAt keyR (low S w.heap.size w) A rs := fun i x hx => by
    obtain ⟨b, o, hA, hb, hc⟩ := hat i x hx
    have hbb : B ≤ b := by
      subst hA
      exact (World.ownsRow.lt ho b rfl).1
    refine ⟨b, o, hA, by rw [low_size]; exact hb, fun j u hj => ?_⟩
    rw [low_in (by show S ≤ b; omega) hb]
    exact hc j u hj
  exact RAt.kvs (i := 0) hat2 (fun j r hj => by rw [Nat.zero_add]; exact hj) (KRs.imp (fun k v h => KA.widen h (Nat.le_refl _) hw) hk)
theorem spa_own {w : World} {S B n cap : Nat} {A : Option Addr} {L : List (Int × Int)} (ho : Own w B (.slice A n cap) L) (hB : S ≤ B) : SpA (low S w.heap.size w) A L := by
  obtain ⟨A2, c2, he, -, -, hs⟩ := ho.form
  simp at he
  obtain ⟨rfl, -, -⟩ := he
  intro i x hx
  obtain ⟨b, o, hA, hb, h1, h2⟩ := hs i x hx
  have hbb : B ≤ b := by
    subst hA
    exact (World.ownsRow.lt ho b (by obtain ⟨g, hg⟩ : ∃ g, (Value.slice (some ⟨b, o, none⟩) n cap).ownBlock = some g := ⟨_, rfl⟩; exact rfl)).1
  refine ⟨b, o, hA, by rw [low_size]; exact hb, ?_, ?_⟩
  · rw [low_in (by show S ≤ b; omega) hb]; exact h1
  · rw [low_in (by show S ≤ b; omega) hb]; exact h2
end Go.Proofs.YtnfigpknejmkmaaGreatDoor
