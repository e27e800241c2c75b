/-
  Koa, Kob, Koc, Kod, Koe, Koh, Koi in one text. Conditions: each contract's own.
-/
import Derived.Test.YtnfigpknejmkmaaGreatDoorKmy
import Derived.Maps.AppendAt
import Derived.Deep.Cut
import Derived.BigQuiet
import Derived.Test.YtnfigpknejmkmaaGreatDoorKny
import Derived.OwnWalk
import Derived.Laws.OwnMore
import Derived.Deep.RegionHeld3
import Derived.Outline
namespace Go.Proofs.YtnfigpknejmkmaaGreatDoor
open Go.RowKit
set_option linter.unusedVariables false

/-- What is written lies in some blocks alone: step by step. -/
inductive Writ (S : Nat → Prop) : World → World → Prop
  | refl (w : World) : Writ S w w
  | step {w w1 w2 : World} {row : Option Nat} (h : w.grownBy w1 row) (hr : ∀ g, row = some g → S g) (h2 : Writ S w1 w2) : Writ S w w2
section
variable {S S' : Nat → Prop} {w w' w2 : World}
theorem Writ.trans (h : Writ S w w') (h2 : Writ S w' w2) : Writ S w w2 := by
  induction h with
  | refl _ => exact h2
  | step hg hr _ ih => exact .step hg hr (ih h2)
theorem Writ.one {row : Option Nat} (h : w.grownBy w' row) (hr : ∀ g, row = some g → S g) : Writ S w w' := .step h hr (.refl _)
theorem Writ.mono (h : Writ S w w') (hs : ∀ g, S g → S' g) : Writ S' w w' := by
  induction h with
  | refl _ => exact .refl _
  | step hg hr _ ih => exact .step hg (fun g e => hs g (hr g e)) ih
theorem Writ.under {w0 : World} {B : Nat} (h : Writ S w w') (hb : Below B w0 w) (hB : B ≤ w.heap.size) (hs : ∀ g, S g → B ≤ g) : Below B w0 w' := by
  induction h with
  | refl _ => exact hb
  | step hg hr _ ih => exact ih (hb.grown hg hB (fun k e => hs k (hr k e))) (Nat.le_trans hB hg.size)
theorem Writ.size (h : Writ S w w') : w.heap.size ≤ w'.heap.size := by
  induction h with
  | refl _ => exact Nat.le_refl _
  | step hg _ _ ih => exact Nat.le_trans hg.size ih
theorem Whole.writ {b : Nat} {t : TypeId} {cs : Array Value} (h : Whole w b t cs) (hc : Writ S w w') (hs : ¬ S b) : Whole w' b t cs := by
  induction hc with
  | refl _ => exact h
  | step hg hr _ ih => exact ih (h.grown hg (fun e => hs (hr b e.symm)))
theorem ROwn.writ {α : Type} {R : RowT α} {B : Nat} {v : Value} {K : List α} (h : ROwn R w B v K) (hc : Writ S w w') (hs : ∀ g, v.ownBlock = some g → ¬ S g) : ROwn R w' B v K := by
  induction hc with
  | refl _ => exact h
  | step hg hr _ ih =>
    refine ih (h.apart hg ?_)
    cases hv : v.ownBlock with
    | none => exact .inl rfl
    | some g => exact .inr (fun e => hs g hv (hr g e.symm))
theorem Own.writ {B : Nat} {v : Value} {K : List (Int × Int)} (h : Own w B v K) (hc : Writ S w w') (hs : ∀ g, v.ownBlock = some g → ¬ S g) : Own w' B v K := by
  induction hc with
  | refl _ => exact h
  | step hg hr _ ih =>
    refine ih (World.ownsRow.kept h hg ?_)
    cases hv : v.ownBlock with
    | none => exact .inl rfl
    | some g => exact .inr (fun e => hs g hv (hr g e.symm))
theorem KA.writ {lo hi : Nat} {k : KT} {v : Value} (h : KA lo hi w k v) (hc : Writ S w w') (hs : ∀ g, S g → g < lo ∨ hi ≤ g) : KA lo hi w' k v := by
  induction hc with
  | refl _ => exact h
  | step hg hr _ ih => exact ih (h.grown hg (fun g e => hs g (hr g e)))
end
mutual
/-- A key whose memory is the call's own and lies in some blocks, no two of its rows in one block. -/
def KO (w : World) : (Nat → Prop) → KT → Value → Prop
  | P, .mk kd f t S ks, v => ∃ (AS : Option Addr) (nS cS : Nat) (AK : Option Addr) (nK cK : Nat) (rs : List KR) (Q : Nat → Prop), v = kval (kd, f, t, (AS, nS, cS), (AK, nK, cK)) ∧ nS ≤ 33554432 ∧ t.size ≤ 16777216 ∧ Own w 0 (.slice AS nS cS) S ∧ ROwn keyR w 0 (.slice AK nK cK) rs ∧
      (∀ g, Value.ownBlock (.slice AS nS cS) = some g → P g ∧ ¬ Q g) ∧ (∀ g, Value.ownBlock (.slice AK nK cK) = some g → P g ∧ ¬ Q g ∧ Value.ownBlock (.slice AS nS cS) ≠ some g) ∧ (∀ b, Q b → P b) ∧ KOs w Q ks rs
def KOs (w : World) : (Nat → Prop) → List KT → List KR → Prop
  | _, [], rs => rs = []
  | Q, k :: ks, rs => ∃ (r : KR) (s : List KR) (Q1 Q2 : Nat → Prop), rs = r :: s ∧ (∀ b, Q1 b → Q b ∧ ¬ Q2 b) ∧ (∀ b, Q2 b → Q b) ∧ KO w Q1 k (kval r) ∧ KOs w Q2 ks s
end
theorem KO.mono {w : World} {P P' : Nat → Prop} (hp : ∀ b, P b → P' b) : ∀ {k : KT} {v : Value}, KO w P k v → KO w P' k v
  | .mk kd f t S ks, v, h => by
    rw [KO] at h ⊢
    obtain ⟨AS, nS, cS, AK, nK, cK, rs, Q, h1, h2, h3, h4, h5, h6, h7, h8, h9⟩ := h
    exact ⟨AS, nS, cS, AK, nK, cK, rs, Q, h1, h2, h3, h4, h5, fun g e => ⟨hp g (h6 g e).1, (h6 g e).2⟩, fun g e => ⟨hp g (h7 g e).1, (h7 g e).2⟩, fun b hb => hp b (h8 b hb), h9⟩
theorem KOs.mono {w : World} {P P' : Nat → Prop} (hp : ∀ b, P b → P' b) : ∀ {ks : List KT} {rs : List KR}, KOs w P ks rs → KOs w P' ks rs
  | [], rs, h => by
    rw [KOs] at h ⊢
    exact h
  | k :: ks, rs, h => by
    rw [KOs] at h ⊢
    obtain ⟨r, s, Q1, Q2, h1, h2, h3, h4, h5⟩ := h
    exact ⟨r, s, Q1, Q2, h1, fun b hb => ⟨hp b (h2 b hb).1, (h2 b hb).2⟩, fun b hb => hp b (h3 b hb), h4, h5⟩
mutual
theorem KO.writ {w w' : World} {S : Nat → Prop} (hc : Writ S w w') : ∀ (k : KT) (v : Value) (P : Nat → Prop), (∀ b, P b → ¬ S b) → KO w P k v → KO w' P k v
  | .mk kd f t Sp ks, v, P, hs, h => by
    rw [KO] at h ⊢
    obtain ⟨AS, nS, cS, AK, nK, cK, rs, Q, h1, h2, h3, h4, h5, h6, h7, h8, h9⟩ := h
    exact ⟨AS, nS, cS, AK, nK, cK, rs, Q, h1, h2, h3, h4.writ hc (fun g e => hs g (h6 g e).1), h5.writ hc (fun g e => hs g (h7 g e).1), h6, h7, h8, KOs.writ hc ks rs Q (fun b hb => hs b (h8 b hb)) h9⟩
theorem KOs.writ {w w' : World} {S : Nat → Prop} (hc : Writ S w w') : ∀ (ks : List KT) (rs : List KR) (P : Nat → Prop), (∀ b, P b → ¬ S b) → KOs w P ks rs → KOs w' P ks rs
  | [], rs, P, hs, h => by
    rw [KOs] at h ⊢
    exact h
  | k :: ks, rs, P, hs, h => by
    rw [KOs] at h ⊢
    obtain ⟨r, s, Q1, Q2, h1, h2, h3, h4, h5⟩ := h
    exact ⟨r, s, Q1, Q2, h1, h2, h3, KO.writ hc k _ Q1 (fun b hb => hs b (h2 b hb).1) h4, KOs.writ hc ks s Q2 (fun b hb => hs b (h3 b hb)) h5⟩
end
theorem KOs.len {w : World} : ∀ {ks : List KT} {rs : List KR} {P : Nat → Prop}, KOs w P ks rs → ks.length = rs.length
  | [], rs, P, h => by
    rw [KOs] at h
    rw [h]
    rfl
  | k :: ks, rs, P, h => by
    rw [KOs] at h
    obtain ⟨r, s, Q1, Q2, h1, h2, h3, h4, h5⟩ := h
    rw [h1, List.length_cons, List.length_cons, KOs.len h5]
mutual
theorem KO.kv {w : World} : ∀ (k : KT) (v : Value) (P : Nat → Prop), KO w P k v → KV w k v
  | .mk kd f t S ks, v, P, h => by
    rw [KO] at h
    rw [KV]
    obtain ⟨AS, nS, cS, AK, nK, cK, rs, Q, h1, h2, h3, h4, h5, h6, h7, h8, h9⟩ := h
    have hk := KOs.krs ks rs Q h9
    obtain ⟨A2, c2, he, -, -, hs⟩ := h4.form
    simp only [Value.slice.injEq] at he
    obtain ⟨rfl, e2, rfl⟩ := he
    exact ⟨AS, nS, cS, AK, nK, cK, h1, e2.symm, h2, h3, hs, by rw [hk.len]; exact h5.len.1.symm, RAt.kvs h5.at (fun j r hj => by rw [Nat.zero_add]; exact hj) hk⟩
theorem KOs.krs {w : World} : ∀ (ks : List KT) (rs : List KR) (P : Nat → Prop), KOs w P ks rs → KRs (KV w) ks rs
  | [], rs, P, h => by
    rw [KOs] at h
    exact h
  | k :: ks, rs, P, h => by
    rw [KOs] at h
    obtain ⟨r, s, Q1, Q2, h1, h2, h3, h4, h5⟩ := h
    exact ⟨r, s, h1, KO.kv k _ Q1 h4, KOs.krs ks s Q2 h5⟩
end
theorem KOs.push {w : World} : ∀ {ks : List KT} {rs : List KR} {P P1 : Nat → Prop} {k : KT} {r : KR}, KOs w P ks rs → KO w P1 k (kval r) → (∀ b, P b → ¬ P1 b) → KOs w (fun b => P b ∨ P1 b) (ks ++ [k]) (rs ++ [r])
  | [], rs, P, P1, k, r, h, h1, hd => by
    rw [KOs] at h
    subst h
    show KOs w _ [k] [r]
    rw [KOs]
    exact ⟨r, [], P1, fun _ => False, rfl, fun b hb => ⟨.inr hb, id⟩, fun b hb => hb.elim, h1, by rw [KOs]⟩
  | y :: ks, rs, P, P1, k, r, h, h1, hd => by
    rw [KOs] at h
    obtain ⟨r0, s, Q1, Q2, rfl, h2, h3, h4, h5⟩ := h
    show KOs w _ (y :: (ks ++ [k])) (r0 :: (s ++ [r]))
    rw [KOs]
    exact ⟨r0, s ++ [r], Q1, fun b => Q2 b ∨ P1 b, rfl, fun b hb => ⟨.inl (h2 b hb).1, fun h => h.elim (h2 b hb).2 (hd b (h2 b hb).1)⟩, fun b hb => hb.elim (fun h => .inl (h3 b h)) .inr, h4, KOs.push h5 h1 (fun b hb => hd b (h3 b hb))⟩
/-- One of the keys in focus: it may be written to, and the others stay. -/
theorem KOs.focus {w : World} : ∀ {ks : List KT} {rs : List KR} {Q : Nat → Prop} {i : Nat} {k : KT}, KOs w Q ks rs → ks[i]? = some k →
    ∃ (r : KR) (Qi : Nat → Prop), rs[i]? = some r ∧ (∀ b, Qi b → Q b) ∧ KO w Qi k (kval r) ∧ ∀ (w' : World) (k' : KT) (r' : KR) (S : Nat → Prop), Writ S w w' → (∀ b, S b → Q b → Qi b) → KO w' Qi k' (kval r') → KOs w' Q (ks.set i k') (rs.set i r')
  | [], rs, Q, i, k, h, hi => by simp at hi
  | y :: ks, rs, Q, 0, k, h, hi => by
    rw [KOs] at h
    obtain ⟨r0, s, Q1, Q2, rfl, h2, h3, h4, h5⟩ := h
    simp only [List.getElem?_cons_zero, Option.some.injEq] at hi
    subst hi
    refine ⟨r0, Q1, rfl, fun b hb => (h2 b hb).1, h4, fun w' k' r' S hc hS hk => ?_⟩
    show KOs w' Q (k' :: ks) (r' :: s)
    rw [KOs]
    exact ⟨r', s, Q1, Q2, rfl, h2, h3, hk, KOs.writ hc ks s Q2 (fun b hb hs => (h2 b (hS b hs (h3 b hb))).2 hb) h5⟩
  | y :: ks, rs, Q, i + 1, k, h, hi => by
    rw [KOs] at h
    obtain ⟨r0, s, Q1, Q2, rfl, h2, h3, h4, h5⟩ := h
    obtain ⟨r, Qi, h6, h7, h8, h9⟩ := KOs.focus h5 (show ks[i]? = some k by simpa using hi)
    refine ⟨r, Qi, by simpa using h6, fun b hb => h3 b (h7 b hb), h8, fun w' k' r' S hc hS hk => ?_⟩
    show KOs w' Q (y :: ks.set i k') (r0 :: s.set i r')
    rw [KOs]
    refine ⟨r0, s.set i r', Q1, Q2, rfl, h2, h3, KO.writ hc y _ Q1 (fun b hb hs => ?_) h4, h9 w' k' r' S hc (fun b hs hb => hS b hs (h3 b hb)) hk⟩
    exact (h2 b hb).2 (h7 b (hS b hs (h2 b hb).1))
/-- The key's own memory lies in a window. -/
def KW (lo hi : Nat) (w : World) (k : KT) (v : Value) : Prop := KO w (fun b => lo ≤ b ∧ b < hi) k v
theorem KW.grown {lo hi : Nat} {w w' : World} {row : Option Nat} {k : KT} {v : Value} (h : KW lo hi w k v) (hg : w.grownBy w' row) (hr : ∀ g, row = some g → g < lo ∨ hi ≤ g) : KW lo hi w' k v :=
  KO.writ (Writ.one (S := fun b => b < lo ∨ hi ≤ b) hg hr) k v _ (fun b hb hs => by omega) h
theorem KW.widen {lo hi lo' hi' : Nat} {w : World} {k : KT} {v : Value} (h : KW lo hi w k v) (h1 : lo' ≤ lo) (h2 : hi ≤ hi') : KW lo' hi' w k v := KO.mono (fun b hb => ⟨by omega, by omega⟩) h
theorem KW.kv {lo hi : Nat} {w : World} {k : KT} {v : Value} (h : KW lo hi w k v) : KV w k v := KO.kv k v _ h
theorem kw_leaf {lo hi : Nat} {w : World} {kd f : Int} {t : ByteArray} {S : List (Int × Int)} {A : Option Addr} {n c : Nat} (ht : t.size ≤ 16777216) (hn : n ≤ 33554432) (hs : Own w lo (.slice A n c) S) (hw : w.heap.size ≤ hi) : KW lo hi w (.mk kd f t S []) (kval (kd, f, t, (A, n, c), (none, 0, 0))) := by
  unfold KW
  rw [KO]
  exact ⟨A, n, c, none, 0, 0, [], fun _ => False, rfl, hn, ht, hs.from (Nat.zero_le _), ROwn.nil _ _, fun g e => ⟨by have := World.ownsRow.lt hs g e; omega, id⟩, fun g e => (by cases e), fun b hb => hb.elim, by rw [KOs]⟩
theorem own_none (w : World) (B : Nat) : Own w B (.slice none 0 0) [] := World.ownsRow_nil w B _ _
/-- One append for all, with the place of what comes out. -/
theorem wpList_append_rows_at {α : Type} {w : World} {P : Program} {ops : Array Oper} {rest : List Oper} {o : Oper} {a : Act} {Q : Exit → Act → World → Prop} (hgd : o.guard = none) (s x : Operand) (t : TypeId)
    (ho : o.op = .call { callee := .builtin .append, args := #[s, x], argTypes := #[t, t] })
    (R : RowT α) (base : Nat) (i : TypeInfo) (z : Value) (bytes : Nat) (ht : P.underlying t = some (.slice R.t)) (hi : P.info? R.t = some i) (hz : i.zero = some z)
    (hsize : i.size = R.sz) (hby : i.bytes = bytes) (hzs : z.cells.size = R.sz) (hsz : 0 < R.sz)
    (v : Value) (L : List α) (y : α) (n : Nat) (hn : L.length = n) (hs : a.eval s = v) (hown : ROwn R w base v L)
    (b c : Nat) (hx : a.eval x = .slice (some ⟨b, 0, none⟩) 1 c) (hat : RAt R w (some ⟨b, 0, none⟩) [y])
    (h63 : n + 1 ≤ maxLen) (hbytes : (n + 1) * bytes ≤ 140737488355328) (hbase : base ≤ w.heap.size)
    (h : ∀ v' w', ROwn R w' base v' (L ++ [y]) → w.grownBy w' v.ownBlock → (v'.ownBlock = v.ownBlock ∨ v'.ownBlock = some w.heap.size) → wpList P ops Q rest (a.put o.dst v') w') : wpList P ops Q (o :: rest) a w := by
  refine wpList_append_own_at w hgd s x t ho base R.t i z R.sz bytes ht hi hz hsize hby hzs hsz v n (rcells R L) hs (hown.row hn) ⟨b, 0, none⟩ 1 c (rcells R [y]) hx (by rw [rcells_len]; rfl) ?_ (rcells_cell R [y]) h63 hbytes hbase ?_
  · intro j u hu
    obtain ⟨b', o2, he, _, h1⟩ := hat 0 y rfl
    cases he
    rw [rcells_one] at hu
    have := h1 j u hu
    rw [radd]
    simpa using this
  · intro v' w' hown' hg hnil hpl
    exact h v' w' (ROwn.cat hown' (by rw [hn]; rfl)) hg hpl
end Go.Proofs.YtnfigpknejmkmaaGreatDoor
namespace Go.Proofs.YtnfigpknejmkmaaGreatDoor
open Go.RowKit
set_option linter.unusedVariables false

def OwK (m R : Nat) (s : ByteArray) (k : Nat) (w : World) (e : Ending) (w' : World) : Prop :=
  ∃ (K : KT) (r : KR) (o : Bool) (k' m' : Nat), e = .returned (.tuple #[kval r, .bool o]) ∧ CurK m' w' R s k' ∧ k' ≤ s.size ∧ m' ≤ m ∧ w.grownBy w' (some R) ∧ KW w.heap.size w'.heap.size w' K (kval r) ∧ CompK s.data.toList k m o K k' m' ∧ (o = true → 0 < s.size)
/-- The loop over a key's keys. -/
def OwL (w : World) (R S0 D D6 E NN : Nat) (s : ByteArray) (k m : Nat) (kd f : Int) (t : ByteArray) (S : List (Int × Int)) (AS : Option Addr) (nS cS : Nat) (b1 b2 b3 : Bool) (i : Nat) (wr : World) : Prop :=
  ∃ (A : Option Addr) (cap base h k' m' : Nat) (ks : List KT) (rs : List KR), E ≤ base ∧ E ≤ h ∧ h ≤ wr.heap.size ∧ base ≤ wr.heap.size ∧ k' ≤ s.size ∧ m' < m ∧ (i = 0 → A = none ∧ cap = 0) ∧ (i < 2 → ∀ g, Value.ownBlock (.slice A i cap) = some g → h ≤ g) ∧
    Hid (CurK m' wr R s k') ∧ Hid (w.grownBy wr (some R)) ∧ Hid (Whole wr S0 27 #[.int .i64 0, .int .i64 0, .string ⟨#[]⟩, .slice none 0 0, .slice none 0 0]) ∧ Hid (Whole wr D 27 #[.int .i64 kd, .int .i64 f, .string t, .slice AS nS cS, .slice A i cap]) ∧
    Hid (Whole wr D6 99 #[.bool b1, .bool b2, .bool b3, .int .i64 (NN : Int)]) ∧ Hid (ROwn keyR wr base (.slice A i cap) rs) ∧ Hid (∃ Q : Nat → Prop, (∀ b, Q b → E ≤ b ∧ b < h) ∧ (∀ g, Value.ownBlock (.slice A i cap) = some g → ¬ Q g) ∧ KOs wr Q ks rs) ∧
    Hid (KW (D + 1) E wr (.mk kd f t S []) (kval (kd, f, t, (AS, nS, cS), (none, 0, 0)))) ∧ Hid (CI s.data.toList k m kd f t S ks i k' m')
theorem owl_next {w wr w6 w9 : World} {R S0 D D6 E NN i k m k' m' k6 m6 base base2 h cap c9 nS cS : Nat} {A A9 AS : Option Addr} {s t : ByteArray} {S : List (Int × Int)} {kd f : Int} {ks : List KT} {rs : List KR} {K6 : KT} {r6 : KR} {b1 b2 b3 : Bool}
    (hRS : R < S0) (hSD : S0 < D) (hD6 : D < D6) (h6E : D6 < E) (hSS : w.heap.size = S0) (hlt : i < NN) (hN : NN ≤ 2) (hba : E ≤ base) (hEh : E ≤ h) (hhw : h ≤ wr.heap.size)
    (hOB : i < 2 → ∀ g, Value.ownBlock (.slice A i cap) = some g → h ≤ g) (hG : w.grownBy wr (some R)) (hZ : Whole wr S0 27 #[.int .i64 0, .int .i64 0, .string ⟨#[]⟩, .slice none 0 0, .slice none 0 0])
    (hX : Whole wr D 27 #[.int .i64 kd, .int .i64 f, .string t, .slice AS nS cS, .slice A i cap]) (h6 : Whole wr D6 99 #[.bool b1, .bool b2, .bool b3, .int .i64 (NN : Int)])
    (hO : ROwn keyR wr base (.slice A i cap) rs) (hK : ∃ Q : Nat → Prop, (∀ b, Q b → E ≤ b ∧ b < h) ∧ (∀ g, Value.ownBlock (.slice A i cap) = some g → ¬ Q g) ∧ KOs wr Q ks rs) (hL : KW (D + 1) E wr (.mk kd f t S []) (kval (kd, f, t, (AS, nS, cS), (none, 0, 0))))
    (hg : wr.grownBy w6 (some R)) (hC6 : CurK m6 w6 R s k6) (hk6 : k6 ≤ s.size) (hm6 : m6 < m) (hK6 : KW wr.heap.size w6.heap.size w6 K6 (kval r6))
    (hO6 : ROwn keyR w6 base2 (.slice A i cap) rs) (hb1 : E ≤ base2) (hb2 : base2 ≤ w6.heap.size) (hb3 : i = 0 → base2 = w6.heap.size)
    (hGW : ((w6.alloc (.cells (kcells r6).toArray 27)).alloc (.cells (kcells r6).toArray 27)).grownBy w9 (Value.ownBlock (.slice A i cap))) (hOW : ROwn keyR w9 base2 (.slice A9 (i + 1) c9) (rs ++ [r6])) (hAT : Value.ownBlock (.slice A9 (i + 1) c9) = Value.ownBlock (.slice A i cap) ∨ ∃ z, Value.ownBlock (.slice A9 (i + 1) c9) = some z ∧ w6.heap.size ≤ z)
    (hCI : CI s.data.toList k m kd f t S (ks ++ [K6]) (i + 1) k6 m6) :
    OwL w R S0 D D6 E NN s k m kd f t S AS nS cS b1 b2 b3 (i + 1) (w9.setCell ⟨D, 4, none⟩ (.slice A9 (i + 1) c9)) := by
  have hrow : ∀ g, Value.ownBlock (.slice A i cap) = some g → base2 ≤ g ∧ g < w6.heap.size := fun g hg => World.ownsRow.lt hO6 g hg
  have hrow0 : ∀ g, Value.ownBlock (.slice A i cap) = some g → base ≤ g ∧ g < wr.heap.size := fun g hg => World.ownsRow.lt hO g hg
  have hrow9 : ∀ g, Value.ownBlock (.slice A9 (i + 1) c9) = some g → base2 ≤ g ∧ g < w9.heap.size := fun g hg => World.ownsRow.lt hOW g hg
  have hz6 : wr.heap.size ≤ w6.heap.size := hg.size
  have hz9 : w6.heap.size + 2 ≤ w9.heap.size := by have := hGW.size; simpa using this
  have al : w6.grownBy ((w6.alloc (.cells (kcells r6).toArray 27)).alloc (.cells (kcells r6).toArray 27)) none := gr_alloc (gr_alloc (gr_refl _ _) _) _
  have g1 : w.grownBy w6 (some R) := gr_trans hG hg
  have g2 : w.grownBy w9 (some R) := gr_row1 (gr_alloc (gr_alloc g1 _) _) hGW (fun g hg => by have := hrow g hg; omega)
  have sD : w9.grownBy (w9.setCell ⟨D, 4, none⟩ (.slice A9 (i + 1) c9)) (some D) := gr_one (gr_refl _ _) _ _
  have hXl := hX.lt
  have h9 : (w9.setCell ⟨D, 4, none⟩ (.slice A9 (i + 1) c9)).heap.size = w9.heap.size := by simp [World.setCell]
  refine ⟨A9, c9, base2, w6.heap.size, k6, m6, ks ++ [K6], rs ++ [r6], hb1, by omega, by omega, by omega, hk6, hm6, fun e => by omega, fun hi g hg => ?_, ?_, ?_, ?_, ?_, ?_, ?_, ?_, ?_, hCI⟩
  · have := hrow9 g hg
    have := hb3 (by omega)
    omega
  · exact ((Whole.grown (Whole.alloc (Whole.alloc hC6 _) _) hGW (fun e => by have := hrow R e.symm; omega)).apart (by show R ≠ D; omega) _)
  · exact gr_row1 g2 sD (fun g e => by cases e; omega)
  · exact (((((hZ.grown hg (fun e => by cases e; omega)).alloc _).alloc _).grown hGW (fun e => by have := hrow S0 e.symm; omega)).apart (by show S0 ≠ D; omega) _)
  · exact (((((hX.grown hg (fun e => by cases e; omega)).alloc _).alloc _).grown hGW (fun e => by have := hrow D e.symm; omega)).store 4 _)
  · exact (((((h6.grown hg (fun e => by cases e; omega)).alloc _).alloc _).grown hGW (fun e => by have := hrow D6 e.symm; omega)).apart (by show D6 ≠ D; omega) _)
  · exact hOW.store (fun e => by have := hrow9 D e; omega) _
  · obtain ⟨Q, hq1, hq2, hq3⟩ := hK
    refine ⟨fun b => Q b ∨ (wr.heap.size ≤ b ∧ b < w6.heap.size), fun b hb => ?_, fun g hg9 hb => ?_, ?_⟩
    · rcases hb with hb | hb
      · have := hq1 b hb; omega
      · omega
    · rcases hAT with h | ⟨z, h, hz⟩
      · rw [hg9] at h
        have h1 := hq2 g h.symm
        have h2 := hrow0 g h.symm
        rcases hb with hb | hb
        · exact h1 hb
        · omega
      · rw [hg9] at h
        cases h
        rcases hb with hb | hb
        · have := hq1 g hb; omega
        · omega
    · have k1 : KOs w9 Q ks rs := KOs.writ (S := fun b => ¬ Q b) (((Writ.one hg (fun g e => by cases e; intro h; have := hq1 _ h; omega)).trans (Writ.one al (fun g e => by cases e))).trans (Writ.one hGW (fun g e => hq2 g e))) ks rs Q (fun b hb hn => hn hb) hq3
      have k2 : KW wr.heap.size w6.heap.size w9 K6 (kval r6) := (hK6.grown al (fun g e => by cases e)).grown hGW (fun g e => .inl (hrow0 g e).2)
      have k3 := KOs.push k1 k2 (fun b hb hn => by have := hq1 b hb; omega)
      exact KOs.writ (S := fun b => b = D) (Writ.one sD (fun g e => by cases e; rfl)) _ _ _ (fun b hb hd => by
        subst hd
        rcases hb with hb | hb
        · have := hq1 _ hb; omega
        · omega) k3
  · exact (((hL.grown hg (fun g e => by cases e; omega)).grown al (fun g e => by cases e)).grown hGW (fun g e => .inr (by have := hrow g e; omega))).grown sD (fun g e => by cases e; omega)
theorem ko_full {w : World} {B lo h n cap nS cS E : Nat} {A AS : Option Addr} {ks : List KT} {rs : List KR} {kd f : Int} {t : ByteArray} {S : List (Int × Int)} (ho : ROwn keyR w B (.slice A n cap) rs) (hB : E ≤ B)
    (hk : ∃ Q : Nat → Prop, (∀ b, Q b → E ≤ b ∧ b < h) ∧ (∀ g, Value.ownBlock (.slice A n cap) = some g → ¬ Q g) ∧ KOs w Q ks rs) (hh : h ≤ w.heap.size)
    (hL : KW lo E w (.mk kd f t S []) (kval (kd, f, t, (AS, nS, cS), (none, 0, 0)))) (hE : lo ≤ E ∧ E ≤ w.heap.size) : KW lo w.heap.size w (.mk kd f t S ks) (kval (kd, f, t, (AS, nS, cS), (A, n, cap))) := by
  unfold KW at hL ⊢
  rw [KO] at hL ⊢
  obtain ⟨A1, n1, c1, A2, n2, c2, rs2, Q2, he, h2, h3, h4, h5, h6, h7, h8, h9⟩ := hL
  simp only [Value.agg.injEq, Array.mk.injEq, List.cons.injEq, Value.slice.injEq, and_true, true_and] at he
  obtain ⟨⟨rfl, rfl, rfl⟩, -⟩ := he
  obtain ⟨Q, q1, q2, q3⟩ := hk
  refine ⟨AS, nS, cS, A, n, cap, rs, Q, rfl, h2, h3, h4, ho.from (Nat.zero_le _), fun g e => ⟨?_, fun hq => ?_⟩, fun g e => ⟨?_, q2 g e, fun e2 => ?_⟩, fun b hb => ?_, q3⟩
  · have := (h6 g e).1; omega
  · have := (h6 g e).1; have := q1 g hq; omega
  · have := World.ownsRow.lt ho g e; omega
  · have := (h6 g e2).1; have := World.ownsRow.lt ho g e; omega
  · have := q1 b hb; omega
theorem owk_fail {w w' : World} {m m' R S0 k k' : Nat} {s : ByteArray} (hSS : w.heap.size = S0) (hRS : R < S0) (hS : S0 < w'.heap.size) (hC : CurK m' w' R s k') (hk : k' ≤ s.size) (hm : m' ≤ m) (hg : w.grownBy w' (some R)) (hc : ∀ K k' m', CompK s.data.toList k m false K k' m') (a0 a1 a2 a3 a4 : Value) :
    OwK m R s k w (.returned (.tuple #[kval (0, 0, ⟨#[]⟩, (none, 0, 0), (none, 0, 0)), .bool false])) (st5 w' S0 a0 a1 a2 a3 a4) :=
  ⟨.mk 0 0 ⟨#[]⟩ [] [], _, false, k', m', rfl, cur5 hC hRS _ _ _ _ _, hk, hm, gr_row1 hg (gr_st5 _ _ _ _ _ _ _) (fun g e => by cases e; omega), kw_leaf (by decide) (by decide) (own_none _ _) (Nat.le_refl _), hc _ _ _, fun e => by cases e⟩
theorem owk_end {w wr : World} {R S0 D E k m k' m' base h cap nS cS NN : Nat} {A AS : Option Addr} {s t : ByteArray} {S : List (Int × Int)} {kd f : Int} {ks : List KT} {rs : List KR}
    (hSS : w.heap.size = S0) (hRS : R < S0) (hSD : S0 < D) (hDE : D < E) (hba : E ≤ base) (hEh : E ≤ h) (hhw : h ≤ wr.heap.size) (hk : k' ≤ s.size) (hm : m' < m) (hC : CurK m' wr R s k') (hG : w.grownBy wr (some R))
    (hO : ROwn keyR wr base (.slice A NN cap) rs) (hK : ∃ Q : Nat → Prop, (∀ b, Q b → E ≤ b ∧ b < h) ∧ (∀ g, Value.ownBlock (.slice A NN cap) = some g → ¬ Q g) ∧ KOs wr Q ks rs) (hL : KW (D + 1) E wr (.mk kd f t S []) (kval (kd, f, t, (AS, nS, cS), (none, 0, 0)))) (hN : NN = nOf kd) (hCI : CI s.data.toList k m kd f t S ks NN k' m')
    (hw : ∀ K2 R2, At s.data.toList k m K2 R2 → ∃ t2 S2 ks2, K2 = .mk kd f t2 S2 ks2) (hz : 0 < s.size) (a0 a1 a2 a3 a4 : Value) :
    OwK m R s k w (.returned (.tuple #[kval (kd, f, t, (AS, nS, cS), (A, NN, cap)), .bool true])) (st5 wr S0 a0 a1 a2 a3 a4) := by
  have h5 := gr_st5 wr S0 a0 a1 a2 a3 a4
  subst hN
  refine ⟨.mk kd f t S ks, _, true, k', m', rfl, cur5 hC hRS _ _ _ _ _, hk, by omega, gr_row1 hG h5 (fun g e => by cases e; omega), ?_, ci_end hCI hw, fun _ => hz⟩
  have h1 := ko_full hO hba hK hhw hL (by omega)
  exact (h1.grown h5 (fun g e => by cases e; omega)).widen (by omega) h5.size
theorem owl_begin {w wr : World} {R S0 D D6 E NN k m k' m' nS cS : Nat} {AS : Option Addr} {s t : ByteArray} {S : List (Int × Int)} {kd f : Int} {b1 b2 b3 : Bool} (hE : wr.heap.size = E) (hk : k' ≤ s.size) (hm : m' < m)
    (hC : CurK m' wr R s k') (hG : w.grownBy wr (some R)) (hZ : Whole wr S0 27 #[.int .i64 0, .int .i64 0, .string ⟨#[]⟩, .slice none 0 0, .slice none 0 0]) (hX : Whole wr D 27 #[.int .i64 kd, .int .i64 f, .string t, .slice AS nS cS, .slice none 0 0])
    (h6 : Whole wr D6 99 #[.bool b1, .bool b2, .bool b3, .int .i64 (NN : Int)]) (hL : KW (D + 1) E wr (.mk kd f t S []) (kval (kd, f, t, (AS, nS, cS), (none, 0, 0)))) (hCI : CI s.data.toList k m kd f t S [] 0 k' m') :
    OwL w R S0 D D6 E NN s k m kd f t S AS nS cS b1 b2 b3 0 wr :=
  ⟨none, 0, E, E, k', m', [], [], Nat.le_refl _, Nat.le_refl _, by omega, by omega, hk, hm, fun _ => ⟨rfl, rfl⟩, fun _ g hg => (by cases hg), Lib.hid hC, Lib.hid hG, Lib.hid hZ, Lib.hid hX, Lib.hid h6, Lib.hid (ROwn.nil _ _), Lib.hid ⟨fun _ => False, fun b hb => hb.elim, fun g hg => (by cases hg), (by rw [KOs])⟩, Lib.hid hL, Lib.hid hCI⟩
end Go.Proofs.YtnfigpknejmkmaaGreatDoor
namespace Go.Proofs.YtnfigpknejmkmaaGreatDoor
open Go.RowKit
set_option linter.unusedVariables false
set_option linter.unusedSimpArgs false

set_option maxRecDepth 20000 in
set_option maxHeartbeats 16000000 in
theorem okey_step_no {m R k : Nat} {s : ByteArray} (w : World) (hs : s.size ≤ 16777216) (hm : m ≤ 9) (hR1 : 0 < R) (hR2 : 1 < R) (hk : k ≤ s.size) (h : CurK m w R s k) (hSh : Shp w) (hLs : Lst w)
    (ih : ∀ (m1 k1 : Nat) (w1 : World), m1 < m → k1 ≤ s.size → CurK m1 w1 R s k1 → Shp w1 → Lst w1 → Calls Tryz.prog 31 #[.pointer (some ⟨R, 0, none⟩)] w1 (OwK m1 R s k1 w1)) {kd f : Int} (hwk : wk (s.extract k (k + wl s.data.toList k)).data.toList = (kd, f, false)) :
    Calls Tryz.prog 31 #[.pointer (some ⟨R, 0, none⟩)] w (OwK m R s k w) := by
  have hl : s.data.toList.length = s.size := by simp
  obtain ⟨S0, hSS⟩ : ∃ B, w.heap.size = B := ⟨_, rfl⟩
  have HSS := Lib.hid hSS
  have hRS : R < S0 := by have := Whole.lt h; omega
  obtain ⟨wa, hwa⟩ : ∃ wa, w.alloc (.cells #[.int .i64 0, .int .i64 0, .string ⟨#[]⟩, .slice none 0 0, .slice none 0 0] 27) = wa := ⟨_, rfl⟩
  have HWA := Lib.hid hwa
  have HCa : Hid (CurK m wa R s k) := Lib.hid (by rw [← hwa]; exact Whole.alloc h _)
  have HZa : Hid (Whole wa S0 27 #[.int .i64 0, .int .i64 0, .string ⟨#[]⟩, .slice none 0 0, .slice none 0 0]) := Lib.hid (by rw [← hwa, ← hSS]; exact Whole.made w _ _)
  have HGa : Hid (w.grownBy wa (some R)) := Lib.hid (by rw [← hwa]; exact gr_alloc (gr_refl _ _) _)
  have HLa := Lib.hid (hLs.grownR HGa.out hR2)
  have HSa := Lib.hid (hSh.grownR HGa.out hR1)
  have HIH := Lib.hid ih
  have hk1le : k + wl s.data.toList k ≤ s.size := by have := wl_le s.data.toList k (by omega); omega
  have HC0 := word_any R k s wa HCa.out hs hk
  unfold Worded at HC0
  obtain ⟨k1, hk1⟩ : ∃ z, k + wl s.data.toList k = z := ⟨_, rfl⟩
  rw [hk1] at HC0 hk1le hwk
  obtain ⟨tw, htw⟩ : ∃ z, s.extract k k1 = z := ⟨_, rfl⟩
  rw [htw] at HC0 hwk
  have HK1 := Lib.hid hk1
  have HWK0 := Lib.hid hwk
  have HWRD : Hid (∀ K2 R2, At s.data.toList k m K2 R2 → false = true ∧ ∃ t2 S2 ks2, K2 = .mk kd f t2 S2 ks2) := Lib.hid (at_word (by rw [hk1, htw]; exact hwk))
  clear hwa h hSh hLs ih hSS htw hk1 hl hwk
  go_enter Tryz.func31, Tryz.ntmps31
  go_wp2_with fail
  try rw [HSS.out, HWA.out]
  refine HC0.mono ?_
  rintro e w1 ⟨rfl, hc, hg⟩
  clear HC0
  have HC1 := Lib.hid hc
  have HG1 := Lib.hid (gr_trans HGa.out hg)
  have HZ1 := Lib.hid (HZa.out.grown hg (fun e => by cases e; omega))
  have HL1 := Lib.hid (HLa.out.grownR hg hR2)
  have HS1 := Lib.hid (HSa.out.grownR hg hR1)
  clear hc hg
  go_wp2_with fail
  refine (wordkey_any (t := tw) w1 HL1.out).mono ?_
  rintro e w2 ⟨kd', f', o', hwk2, rfl, hb⟩
  obtain ⟨hwk4, hwk3⟩ := Prod.mk.inj (hwk2.symm.trans HWK0.out)
  obtain ⟨hwk5, hwk6⟩ := Prod.mk.inj hwk3
  subst hwk4
  subst hwk5
  subst hwk6
  have HC2 : Hid (CurK m w2 R s k1) := Lib.hid (Whole.below HC1.out hb (Whole.lt HC1.out))
  have HG2 := Lib.hid (gr_trans HG1.out (gr_below hb (some R)))
  have HZ2 := Lib.hid (HZ1.out.below hb HZ1.out.lt)
  have HS2 := Lib.hid (HS1.out.below hb (Nat.le_refl _))
  have HL2 := Lib.hid (HL1.out.below hb (Nat.le_refl _))
  clear hb hwk2
  obtain ⟨D, hD⟩ : ∃ D, w2.heap.size = D := ⟨_, rfl⟩
  have HDD := Lib.hid hD
  have hSD : S0 < D := by have := HZ2.out.lt; omega
  obtain ⟨w3, hw3⟩ : ∃ z, w2.alloc (.cells #[.int .i64 kd', .int .i64 f', .string ⟨#[]⟩, .slice none 0 0, .slice none 0 0] 27) = z := ⟨_, rfl⟩
  have HW3 := Lib.hid hw3
  have HX3 : Hid (Whole w3 D 27 #[.int .i64 kd', .int .i64 f', .string ⟨#[]⟩, .slice none 0 0, .slice none 0 0]) := Lib.hid (by rw [← hw3, ← hD]; exact Whole.made w2 _ _)
  have HC3 : Hid (CurK m w3 R s k1) := Lib.hid (by rw [← hw3]; exact Whole.alloc HC2.out _)
  have HG3 : Hid (w.grownBy w3 (some R)) := Lib.hid (by rw [← hw3]; exact gr_alloc HG2.out _)
  have HZ3 : Hid (Whole w3 S0 27 #[.int .i64 0, .int .i64 0, .string ⟨#[]⟩, .slice none 0 0, .slice none 0 0]) := Lib.hid (by rw [← hw3]; exact HZ2.out.alloc _)
  have HS3 : Hid (Shp w3) := Lib.hid (by rw [← hw3]; exact HS2.out.below (below_new w2 _) (Nat.le_refl _))
  have HL3 : Hid (Lst w3) := Lib.hid (by rw [← hw3]; exact HL2.out.below (below_new w2 _) (Nat.le_refl _))
  clear hD hw3
  go_upto_region 2 with fail
  rw [HDD.out, HW3.out]
  have zc0 := HZ3.out.cell 0
  have zc1 := HZ3.out.cell 1
  have zc2 := HZ3.out.cell 2
  have zc3 := HZ3.out.cell 3
  have zc4 := HZ3.out.cell 4
  have zf0 := HZ3.out.free 0
  have zf1 := HZ3.out.free 1
  have zf2 := HZ3.out.free 2
  have zf3 := HZ3.out.free 3
  have zf4 := HZ3.out.free 4
  simp only [List.getElem?_toArray, List.getElem?_cons_zero, List.getElem?_cons_succ] at zc0 zc1 zc2 zc3 zc4
  go_wp2
  refine bodyPost_ret (v := .tuple #[.agg #[.int .i64 0, .int .i64 0, .string ⟨#[]⟩, .slice none 0 0, .slice none 0 0], .bool false]) (by rw [results_cell_tmp Tryz.results31]; go_simp) rfl ?_
  exact owk_fail HSS.out hRS HZ3.out.lt HC3.out hk1le (Nat.le_refl _) HG3.out (fun K k' m' => comp_none fun K2 R2 ha => by cases (HWRD.out K2 R2 ha).1) _ _ _ _ _
set_option maxRecDepth 20000 in
set_option maxHeartbeats 16000000 in
theorem okey_step_nos {R k : Nat} {s : ByteArray} (w : World) (hs : s.size ≤ 16777216) (hm : 0 ≤ 9) (hR1 : 0 < R) (hR2 : 1 < R) (hk : k ≤ s.size) (h : CurK 0 w R s k) (hSh : Shp w) (hLs : Lst w)
    (ih : ∀ (m1 k1 : Nat) (w1 : World), m1 < 0 → k1 ≤ s.size → CurK m1 w1 R s k1 → Shp w1 → Lst w1 → Calls Tryz.prog 31 #[.pointer (some ⟨R, 0, none⟩)] w1 (OwK m1 R s k1 w1)) {kd f : Int} (hwk : wk (s.extract k (k + wl s.data.toList k)).data.toList = (kd, f, true)) :
    Calls Tryz.prog 31 #[.pointer (some ⟨R, 0, none⟩)] w (OwK 0 R s k w) := by
  have hl : s.data.toList.length = s.size := by simp
  obtain ⟨S0, hSS⟩ : ∃ B, w.heap.size = B := ⟨_, rfl⟩
  have HSS := Lib.hid hSS
  have hRS : R < S0 := by have := Whole.lt h; omega
  obtain ⟨wa, hwa⟩ : ∃ wa, w.alloc (.cells #[.int .i64 0, .int .i64 0, .string ⟨#[]⟩, .slice none 0 0, .slice none 0 0] 27) = wa := ⟨_, rfl⟩
  have HWA := Lib.hid hwa
  have HCa : Hid (CurK 0 wa R s k) := Lib.hid (by rw [← hwa]; exact Whole.alloc h _)
  have HZa : Hid (Whole wa S0 27 #[.int .i64 0, .int .i64 0, .string ⟨#[]⟩, .slice none 0 0, .slice none 0 0]) := Lib.hid (by rw [← hwa, ← hSS]; exact Whole.made w _ _)
  have HGa : Hid (w.grownBy wa (some R)) := Lib.hid (by rw [← hwa]; exact gr_alloc (gr_refl _ _) _)
  have HLa := Lib.hid (hLs.grownR HGa.out hR2)
  have HSa := Lib.hid (hSh.grownR HGa.out hR1)
  have HIH := Lib.hid ih
  have hk1le : k + wl s.data.toList k ≤ s.size := by have := wl_le s.data.toList k (by omega); omega
  have HC0 := word_any R k s wa HCa.out hs hk
  unfold Worded at HC0
  obtain ⟨k1, hk1⟩ : ∃ z, k + wl s.data.toList k = z := ⟨_, rfl⟩
  rw [hk1] at HC0 hk1le hwk
  obtain ⟨tw, htw⟩ : ∃ z, s.extract k k1 = z := ⟨_, rfl⟩
  rw [htw] at HC0 hwk
  have HK1 := Lib.hid hk1
  have HWK0 := Lib.hid hwk
  have HWRD : Hid (∀ K2 R2, At s.data.toList k 0 K2 R2 → true = true ∧ ∃ t2 S2 ks2, K2 = .mk kd f t2 S2 ks2) := Lib.hid (at_word (by rw [hk1, htw]; exact hwk))
  clear hwa h hSh hLs ih hSS htw hk1 hl hwk
  go_enter Tryz.func31, Tryz.ntmps31
  go_wp2_with fail
  try rw [HSS.out, HWA.out]
  refine HC0.mono ?_
  rintro e w1 ⟨rfl, hc, hg⟩
  clear HC0
  have HC1 := Lib.hid hc
  have HG1 := Lib.hid (gr_trans HGa.out hg)
  have HZ1 := Lib.hid (HZa.out.grown hg (fun e => by cases e; omega))
  have HL1 := Lib.hid (HLa.out.grownR hg hR2)
  have HS1 := Lib.hid (HSa.out.grownR hg hR1)
  clear hc hg
  go_wp2_with fail
  refine (wordkey_any (t := tw) w1 HL1.out).mono ?_
  rintro e w2 ⟨kd', f', o', hwk2, rfl, hb⟩
  obtain ⟨hwk4, hwk3⟩ := Prod.mk.inj (hwk2.symm.trans HWK0.out)
  obtain ⟨hwk5, hwk6⟩ := Prod.mk.inj hwk3
  subst hwk4
  subst hwk5
  subst hwk6
  have HC2 : Hid (CurK 0 w2 R s k1) := Lib.hid (Whole.below HC1.out hb (Whole.lt HC1.out))
  have HG2 := Lib.hid (gr_trans HG1.out (gr_below hb (some R)))
  have HZ2 := Lib.hid (HZ1.out.below hb HZ1.out.lt)
  have HS2 := Lib.hid (HS1.out.below hb (Nat.le_refl _))
  have HL2 := Lib.hid (HL1.out.below hb (Nat.le_refl _))
  clear hb hwk2
  obtain ⟨D, hD⟩ : ∃ D, w2.heap.size = D := ⟨_, rfl⟩
  have HDD := Lib.hid hD
  have hSD : S0 < D := by have := HZ2.out.lt; omega
  obtain ⟨w3, hw3⟩ : ∃ z, w2.alloc (.cells #[.int .i64 kd', .int .i64 f', .string ⟨#[]⟩, .slice none 0 0, .slice none 0 0] 27) = z := ⟨_, rfl⟩
  have HW3 := Lib.hid hw3
  have HX3 : Hid (Whole w3 D 27 #[.int .i64 kd', .int .i64 f', .string ⟨#[]⟩, .slice none 0 0, .slice none 0 0]) := Lib.hid (by rw [← hw3, ← hD]; exact Whole.made w2 _ _)
  have HC3 : Hid (CurK 0 w3 R s k1) := Lib.hid (by rw [← hw3]; exact Whole.alloc HC2.out _)
  have HG3 : Hid (w.grownBy w3 (some R)) := Lib.hid (by rw [← hw3]; exact gr_alloc HG2.out _)
  have HZ3 : Hid (Whole w3 S0 27 #[.int .i64 0, .int .i64 0, .string ⟨#[]⟩, .slice none 0 0, .slice none 0 0]) := Lib.hid (by rw [← hw3]; exact HZ2.out.alloc _)
  have HS3 : Hid (Shp w3) := Lib.hid (by rw [← hw3]; exact HS2.out.below (below_new w2 _) (Nat.le_refl _))
  have HL3 : Hid (Lst w3) := Lib.hid (by rw [← hw3]; exact HL2.out.below (below_new w2 _) (Nat.le_refl _))
  clear hD hw3
  go_upto_region 2 with fail
  rw [HDD.out, HW3.out]
  have zc0 := HZ3.out.cell 0
  have zc1 := HZ3.out.cell 1
  have zc2 := HZ3.out.cell 2
  have zc3 := HZ3.out.cell 3
  have zc4 := HZ3.out.cell 4
  have zf0 := HZ3.out.free 0
  have zf1 := HZ3.out.free 1
  have zf2 := HZ3.out.free 2
  have zf3 := HZ3.out.free 3
  have zf4 := HZ3.out.free 4
  simp only [List.getElem?_toArray, List.getElem?_cons_zero, List.getElem?_cons_succ] at zc0 zc1 zc2 zc3 zc4
  have HC3c := HC3
  go_wp2_with fail
  refine (spendK R 0 k1 s w3 HC3.out hm).mono ?_
  rintro e w4 ⟨rfl, hc, hg⟩
  clear zc0 zc1 zc2 zc3 zc4 zf0 zf1 zf2 zf3 zf4
  have HC4 := Lib.hid hc
  have HG4 := Lib.hid (gr_trans HG3.out hg)
  have HZ4 := Lib.hid (HZ3.out.grown hg (fun e => by cases e; omega))
  clear hc hg
  have hd0 : decide (0 < 0) = false := by decide
  try rw [hd0]
  have zc0 := HZ4.out.cell 0
  have zc1 := HZ4.out.cell 1
  have zc2 := HZ4.out.cell 2
  have zc3 := HZ4.out.cell 3
  have zc4 := HZ4.out.cell 4
  have zf0 := HZ4.out.free 0
  have zf1 := HZ4.out.free 1
  have zf2 := HZ4.out.free 2
  have zf3 := HZ4.out.free 3
  have zf4 := HZ4.out.free 4
  simp only [List.getElem?_toArray, List.getElem?_cons_zero, List.getElem?_cons_succ] at zc0 zc1 zc2 zc3 zc4
  go_wp2
  refine bodyPost_ret (v := .tuple #[.agg #[.int .i64 0, .int .i64 0, .string ⟨#[]⟩, .slice none 0 0, .slice none 0 0], .bool false]) (by rw [results_cell_tmp Tryz.results31]; go_simp) rfl ?_
  exact owk_fail HSS.out hRS HZ4.out.lt HC4.out hk1le (by omega) HG4.out (fun K k' m' => comp_none fun K2 R2 ha => by have h1 := ha.2.1; have h2 := nodesT_pos K2; omega) _ _ _ _ _
set_option maxRecDepth 20000 in
set_option maxHeartbeats 16000000 in
theorem okey_step_0 {m R k : Nat} {s : ByteArray} (w : World) (hs : s.size ≤ 16777216) (hm : m ≤ 9) (hR1 : 0 < R) (hR2 : 1 < R) (hk : k ≤ s.size) (h : CurK m w R s k) (hSh : Shp w) (hLs : Lst w)
    (ih : ∀ (m1 k1 : Nat) (w1 : World), m1 < m → k1 ≤ s.size → CurK m1 w1 R s k1 → Shp w1 → Lst w1 → Calls Tryz.prog 31 #[.pointer (some ⟨R, 0, none⟩)] w1 (OwK m1 R s k1 w1)) {f : Int} (hwk : wk (s.extract k (k + wl s.data.toList k)).data.toList = (0, f, true)) (hm0 : 0 < m) :
    Calls Tryz.prog 31 #[.pointer (some ⟨R, 0, none⟩)] w (OwK m R s k w) := by
  have HSZ : Hid (0 < s.size) := Lib.hid (by
    rcases Nat.eq_zero_or_pos s.size with h0 | h0
    · have h1 : (s.extract k (k + wl s.data.toList k)).data.toList = [] := List.length_eq_zero_iff.1 (by rw [← size_txt, ByteArray.size_extract]; omega)
      have h2 : wk [] = (0, 0, false) := by decide
      rw [h1, h2] at hwk
      have h3 := (Prod.mk.inj (Prod.mk.inj hwk).2).2
      cases h3
    · exact h0)
  have hl : s.data.toList.length = s.size := by simp
  obtain ⟨S0, hSS⟩ : ∃ B, w.heap.size = B := ⟨_, rfl⟩
  have HSS := Lib.hid hSS
  have hRS : R < S0 := by have := Whole.lt h; omega
  obtain ⟨wa, hwa⟩ : ∃ wa, w.alloc (.cells #[.int .i64 0, .int .i64 0, .string ⟨#[]⟩, .slice none 0 0, .slice none 0 0] 27) = wa := ⟨_, rfl⟩
  have HWA := Lib.hid hwa
  have HCa : Hid (CurK m wa R s k) := Lib.hid (by rw [← hwa]; exact Whole.alloc h _)
  have HZa : Hid (Whole wa S0 27 #[.int .i64 0, .int .i64 0, .string ⟨#[]⟩, .slice none 0 0, .slice none 0 0]) := Lib.hid (by rw [← hwa, ← hSS]; exact Whole.made w _ _)
  have HGa : Hid (w.grownBy wa (some R)) := Lib.hid (by rw [← hwa]; exact gr_alloc (gr_refl _ _) _)
  have HLa := Lib.hid (hLs.grownR HGa.out hR2)
  have HSa := Lib.hid (hSh.grownR HGa.out hR1)
  have HIH := Lib.hid ih
  have HSw := Lib.hid hSh
  have HLw := Lib.hid hLs
  have hk1le : k + wl s.data.toList k ≤ s.size := by have := wl_le s.data.toList k (by omega); omega
  have HC0 := word_any R k s wa HCa.out hs hk
  unfold Worded at HC0
  obtain ⟨k1, hk1⟩ : ∃ z, k + wl s.data.toList k = z := ⟨_, rfl⟩
  rw [hk1] at HC0 hk1le hwk
  obtain ⟨tw, htw⟩ : ∃ z, s.extract k k1 = z := ⟨_, rfl⟩
  rw [htw] at HC0 hwk
  have HK1 := Lib.hid hk1
  have HWK0 := Lib.hid hwk
  have HWRD : Hid (∀ K2 R2, At s.data.toList k m K2 R2 → true = true ∧ ∃ t2 S2 ks2, K2 = .mk 0 f t2 S2 ks2) := Lib.hid (at_word (by rw [hk1, htw]; exact hwk))
  clear hwa h hSh hLs ih hSS htw hk1 hl hwk
  go_enter Tryz.func31, Tryz.ntmps31
  go_wp2_with fail
  try rw [HSS.out, HWA.out]
  refine HC0.mono ?_
  rintro e w1 ⟨rfl, hc, hg⟩
  clear HC0
  have HC1 := Lib.hid hc
  have HG1 := Lib.hid (gr_trans HGa.out hg)
  have HZ1 := Lib.hid (HZa.out.grown hg (fun e => by cases e; omega))
  have HL1 := Lib.hid (HLa.out.grownR hg hR2)
  have HS1 := Lib.hid (HSa.out.grownR hg hR1)
  clear hc hg
  go_wp2_with fail
  refine (wordkey_any (t := tw) w1 HL1.out).mono ?_
  rintro e w2 ⟨kd', f', o', hwk2, rfl, hb⟩
  obtain ⟨hwk4, hwk3⟩ := Prod.mk.inj (hwk2.symm.trans HWK0.out)
  obtain ⟨hwk5, hwk6⟩ := Prod.mk.inj hwk3
  subst hwk4
  subst hwk5
  subst hwk6
  have HC2 : Hid (CurK m w2 R s k1) := Lib.hid (Whole.below HC1.out hb (Whole.lt HC1.out))
  have HG2 := Lib.hid (gr_trans HG1.out (gr_below hb (some R)))
  have HZ2 := Lib.hid (HZ1.out.below hb HZ1.out.lt)
  have HS2 := Lib.hid (HS1.out.below hb (Nat.le_refl _))
  have HL2 := Lib.hid (HL1.out.below hb (Nat.le_refl _))
  clear hb hwk2
  obtain ⟨D, hD⟩ : ∃ D, w2.heap.size = D := ⟨_, rfl⟩
  have HDD := Lib.hid hD
  have hSD : S0 < D := by have := HZ2.out.lt; omega
  obtain ⟨w3, hw3⟩ : ∃ z, w2.alloc (.cells #[.int .i64 0, .int .i64 f', .string ⟨#[]⟩, .slice none 0 0, .slice none 0 0] 27) = z := ⟨_, rfl⟩
  have HW3 := Lib.hid hw3
  have HX3 : Hid (Whole w3 D 27 #[.int .i64 0, .int .i64 f', .string ⟨#[]⟩, .slice none 0 0, .slice none 0 0]) := Lib.hid (by rw [← hw3, ← hD]; exact Whole.made w2 _ _)
  have HC3 : Hid (CurK m w3 R s k1) := Lib.hid (by rw [← hw3]; exact Whole.alloc HC2.out _)
  have HG3 : Hid (w.grownBy w3 (some R)) := Lib.hid (by rw [← hw3]; exact gr_alloc HG2.out _)
  have HZ3 : Hid (Whole w3 S0 27 #[.int .i64 0, .int .i64 0, .string ⟨#[]⟩, .slice none 0 0, .slice none 0 0]) := Lib.hid (by rw [← hw3]; exact HZ2.out.alloc _)
  have HS3 : Hid (Shp w3) := Lib.hid (by rw [← hw3]; exact HS2.out.below (below_new w2 _) (Nat.le_refl _))
  have HL3 : Hid (Lst w3) := Lib.hid (by rw [← hw3]; exact HL2.out.below (below_new w2 _) (Nat.le_refl _))
  clear hD hw3
  go_upto_region 2 with fail
  rw [HDD.out, HW3.out]
  have hdm : decide (0 < m) = true := decide_eq_true hm0
  go_wp2_with fail
  refine (spendK R m k1 s w3 HC3.out hm).mono ?_
  rintro e w4 ⟨he, hc, hg⟩
  rw [hdm] at he
  subst he
  have HC4 := Lib.hid hc
  have HG4 := Lib.hid (gr_trans HG3.out hg)
  have HZ4 := Lib.hid (HZ3.out.grown hg (fun e => by cases e; omega))
  have HX4 := Lib.hid (HX3.out.grown hg (fun e => by cases e; omega))
  have HS4 := Lib.hid (HS3.out.grownR hg hR1)
  clear hc hg hdm
  have sz : 0 < w4.heap.size := HS4.out.1
  have s0 : w4.cell? ⟨0, 0, none⟩ = some (.bool false) := HS4.out.2 0 (by decide)
  have s1 : w4.cell? ⟨0, 1, none⟩ = some (.bool false) := HS4.out.2 1 (by decide)
  have s2 : w4.cell? ⟨0, 2, none⟩ = some (.bool false) := HS4.out.2 2 (by decide)
  have s3 : w4.cell? ⟨0, 3, none⟩ = some (.int .i64 0) := HS4.out.2 3 (by decide)
  have xc0 := HX4.out.cell 0
  simp only [List.getElem?_toArray, List.getElem?_cons_zero, List.getElem?_cons_succ] at xc0
  obtain ⟨D6, hD6⟩ : ∃ D, w4.heap.size = D := ⟨_, rfl⟩
  have HDD6 := Lib.hid hD6
  have hDD6 : D < D6 := by have := HX4.out.lt; omega
  obtain ⟨w5, hw5⟩ : ∃ z, w4.alloc (.cells #[.bool false, .bool false, .bool false, .int .i64 0] 99) = z := ⟨_, rfl⟩
  have HW5 := Lib.hid hw5
  have H65 : Hid (Whole w5 D6 99 #[.bool false, .bool false, .bool false, .int .i64 ((0 : Nat) : Int)]) := Lib.hid (by rw [← hw5, ← hD6]; exact Whole.made w4 _ _)
  have HC5 : Hid (CurK (m - 1) w5 R s k1) := Lib.hid (by rw [← hw5]; exact Whole.alloc HC4.out _)
  have HG5 : Hid (w.grownBy w5 (some R)) := Lib.hid (by rw [← hw5]; exact gr_alloc HG4.out _)
  have HZ5 : Hid (Whole w5 S0 27 #[.int .i64 0, .int .i64 0, .string ⟨#[]⟩, .slice none 0 0, .slice none 0 0]) := Lib.hid (by rw [← hw5]; exact HZ4.out.alloc _)
  have HX5 : Hid (Whole w5 D 27 #[.int .i64 0, .int .i64 f', .string ⟨#[]⟩, .slice none 0 0, .slice none 0 0]) := Lib.hid (by rw [← hw5]; exact HX4.out.alloc _)
  clear hD6 hw5
  go_upto_region 5 with fail
  rw [HDD6.out, HW5.out]
  clear sz s0 s1 s2 s3 xc0
  have yc1 := H65.out.cell 1
  have yc2 := H65.out.cell 2
  simp only [List.getElem?_toArray, List.getElem?_cons_zero, List.getElem?_cons_succ] at yc1 yc2
  have hRD : R < D := by omega
  clear yc1 yc2
  have yc1 := H65.out.cell 1
  have yc2 := H65.out.cell 2
  simp only [List.getElem?_toArray, List.getElem?_cons_zero, List.getElem?_cons_succ] at yc1 yc2
  go_upto_region 9 with fail
  clear yc1 yc2
  have HLf := Lib.hid (kw_leaf (lo := D + 1) (hi := w5.heap.size) (w := w5) (kd := 0) (f := f') (t := ⟨#[]⟩) (by decide) (S := []) (A := none) (n := 0) (c := 0) (by decide) (own_none _ _) (Nat.le_refl _))
  have HCI := Lib.hid (show CI s.data.toList k m 0 f' ⟨#[]⟩ [] [] 0 k1 (m - 1) by rw [← HK1.out]; exact ci_plain (by decide) (by decide) (by decide))
  obtain ⟨E, hE⟩ : ∃ E, w5.heap.size = E := ⟨_, rfl⟩
  have h6E : D6 < E := by have := H65.out.lt; omega
  rw [hE] at HLf
  have HB0 : Hid (OwL w R S0 D D6 E 0 s k m 0 f' ⟨#[]⟩ [] none 0 0 false false false 0 w5) := Lib.hid (owl_begin hE hk1le (by omega) HC5.out HG5.out HZ5.out HX5.out H65.out HLf.out HCI.out)
  have yc3 := H65.out.cell 3
  simp only [List.getElem?_toArray, List.getElem?_cons_zero, List.getElem?_cons_succ, Int.natCast_zero, Int.cast_ofNat_Int] at yc3
  clear hE
  go_wp2
  clear yc3
  go_loopw [7, 8, 45] (fun _ _ iv wr => ∃ i : Nat, i ≤ 0 ∧ iv = .int .i64 (i : Int) ∧ Hid (OwL w R S0 D D6 E 0 s k m 0 f' ⟨#[]⟩ [] none 0 0 false false false i wr)) (fun _ _ iv _ => 0 - (intOf iv).toNat)
  case atStart => exact ⟨0, Nat.zero_le _, by go_num, HB0⟩
  case round =>
    obtain ⟨i, hin, rfl, HREL⟩ := hrel
    obtain ⟨A, cap, base, h, k', m', ks, rs, hba, hEh, hhw, hbw, hk', hm', hA0, hOB, HC, HG, HZ, HX, H6, HO, HK, HL, HCI⟩ := HREL.out
    obtain rfl : i = 0 := by omega
    have h5 : ¬ ((0 : Nat) : Int) < 0 := by decide
    have xc0 := HX.out.cell 0
    have xc1 := HX.out.cell 1
    have xc2 := HX.out.cell 2
    have xc3 := HX.out.cell 3
    have xc4 := HX.out.cell 4
    simp only [List.getElem?_toArray, List.getElem?_cons_zero, List.getElem?_cons_succ] at xc0 xc1 xc2 xc3 xc4
    have zc0 := HZ.out.cell 0
    have zc1 := HZ.out.cell 1
    have zc2 := HZ.out.cell 2
    have zc3 := HZ.out.cell 3
    have zc4 := HZ.out.cell 4
    have zf0 := HZ.out.free 0
    have zf1 := HZ.out.free 1
    have zf2 := HZ.out.free 2
    have zf3 := HZ.out.free 3
    have zf4 := HZ.out.free 4
    simp only [List.getElem?_toArray, List.getElem?_cons_zero, List.getElem?_cons_succ] at zc0 zc1 zc2 zc3 zc4
    go_wp2
    refine bodyPost_ret (v := .tuple #[.agg #[.int .i64 0, .int .i64 f', .string ⟨#[]⟩, .slice none 0 0, .slice A 0 cap], .bool true]) (by rw [results_cell_tmp Tryz.results31]; go_simp) rfl ?_
    exact owk_end HSS.out hRS hSD (by omega) hba hEh hhw hk' hm' HC.out HG.out HO.out HK.out HL.out rfl HCI.out (fun K2 R2 ha => (HWRD.out K2 R2 ha).2) HSZ.out _ _ _ _ _
set_option maxRecDepth 20000 in
set_option maxHeartbeats 16000000 in
theorem okey_step_1 {m R k : Nat} {s : ByteArray} (w : World) (hs : s.size ≤ 16777216) (hm : m ≤ 9) (hR1 : 0 < R) (hR2 : 1 < R) (hk : k ≤ s.size) (h : CurK m w R s k) (hSh : Shp w) (hLs : Lst w)
    (ih : ∀ (m1 k1 : Nat) (w1 : World), m1 < m → k1 ≤ s.size → CurK m1 w1 R s k1 → Shp w1 → Lst w1 → Calls Tryz.prog 31 #[.pointer (some ⟨R, 0, none⟩)] w1 (OwK m1 R s k1 w1)) {f : Int} (hwk : wk (s.extract k (k + wl s.data.toList k)).data.toList = (1, f, true)) (hm0 : 0 < m) :
    Calls Tryz.prog 31 #[.pointer (some ⟨R, 0, none⟩)] w (OwK m R s k w) := by
  have HSZ : Hid (0 < s.size) := Lib.hid (by
    rcases Nat.eq_zero_or_pos s.size with h0 | h0
    · have h1 : (s.extract k (k + wl s.data.toList k)).data.toList = [] := List.length_eq_zero_iff.1 (by rw [← size_txt, ByteArray.size_extract]; omega)
      have h2 : wk [] = (0, 0, false) := by decide
      rw [h1, h2] at hwk
      have h3 := (Prod.mk.inj (Prod.mk.inj hwk).2).2
      cases h3
    · exact h0)
  have hl : s.data.toList.length = s.size := by simp
  obtain ⟨S0, hSS⟩ : ∃ B, w.heap.size = B := ⟨_, rfl⟩
  have HSS := Lib.hid hSS
  have hRS : R < S0 := by have := Whole.lt h; omega
  obtain ⟨wa, hwa⟩ : ∃ wa, w.alloc (.cells #[.int .i64 0, .int .i64 0, .string ⟨#[]⟩, .slice none 0 0, .slice none 0 0] 27) = wa := ⟨_, rfl⟩
  have HWA := Lib.hid hwa
  have HCa : Hid (CurK m wa R s k) := Lib.hid (by rw [← hwa]; exact Whole.alloc h _)
  have HZa : Hid (Whole wa S0 27 #[.int .i64 0, .int .i64 0, .string ⟨#[]⟩, .slice none 0 0, .slice none 0 0]) := Lib.hid (by rw [← hwa, ← hSS]; exact Whole.made w _ _)
  have HGa : Hid (w.grownBy wa (some R)) := Lib.hid (by rw [← hwa]; exact gr_alloc (gr_refl _ _) _)
  have HLa := Lib.hid (hLs.grownR HGa.out hR2)
  have HSa := Lib.hid (hSh.grownR HGa.out hR1)
  have HIH := Lib.hid ih
  have HSw := Lib.hid hSh
  have HLw := Lib.hid hLs
  have hk1le : k + wl s.data.toList k ≤ s.size := by have := wl_le s.data.toList k (by omega); omega
  have HC0 := word_any R k s wa HCa.out hs hk
  unfold Worded at HC0
  obtain ⟨k1, hk1⟩ : ∃ z, k + wl s.data.toList k = z := ⟨_, rfl⟩
  rw [hk1] at HC0 hk1le hwk
  obtain ⟨tw, htw⟩ : ∃ z, s.extract k k1 = z := ⟨_, rfl⟩
  rw [htw] at HC0 hwk
  have HK1 := Lib.hid hk1
  have HWK0 := Lib.hid hwk
  have HWRD : Hid (∀ K2 R2, At s.data.toList k m K2 R2 → true = true ∧ ∃ t2 S2 ks2, K2 = .mk 1 f t2 S2 ks2) := Lib.hid (at_word (by rw [hk1, htw]; exact hwk))
  clear hwa h hSh hLs ih hSS htw hk1 hl hwk
  go_enter Tryz.func31, Tryz.ntmps31
  go_wp2_with fail
  try rw [HSS.out, HWA.out]
  refine HC0.mono ?_
  rintro e w1 ⟨rfl, hc, hg⟩
  clear HC0
  have HC1 := Lib.hid hc
  have HG1 := Lib.hid (gr_trans HGa.out hg)
  have HZ1 := Lib.hid (HZa.out.grown hg (fun e => by cases e; omega))
  have HL1 := Lib.hid (HLa.out.grownR hg hR2)
  have HS1 := Lib.hid (HSa.out.grownR hg hR1)
  clear hc hg
  go_wp2_with fail
  refine (wordkey_any (t := tw) w1 HL1.out).mono ?_
  rintro e w2 ⟨kd', f', o', hwk2, rfl, hb⟩
  obtain ⟨hwk4, hwk3⟩ := Prod.mk.inj (hwk2.symm.trans HWK0.out)
  obtain ⟨hwk5, hwk6⟩ := Prod.mk.inj hwk3
  subst hwk4
  subst hwk5
  subst hwk6
  have HC2 : Hid (CurK m w2 R s k1) := Lib.hid (Whole.below HC1.out hb (Whole.lt HC1.out))
  have HG2 := Lib.hid (gr_trans HG1.out (gr_below hb (some R)))
  have HZ2 := Lib.hid (HZ1.out.below hb HZ1.out.lt)
  have HS2 := Lib.hid (HS1.out.below hb (Nat.le_refl _))
  have HL2 := Lib.hid (HL1.out.below hb (Nat.le_refl _))
  clear hb hwk2
  obtain ⟨D, hD⟩ : ∃ D, w2.heap.size = D := ⟨_, rfl⟩
  have HDD := Lib.hid hD
  have hSD : S0 < D := by have := HZ2.out.lt; omega
  obtain ⟨w3, hw3⟩ : ∃ z, w2.alloc (.cells #[.int .i64 1, .int .i64 f', .string ⟨#[]⟩, .slice none 0 0, .slice none 0 0] 27) = z := ⟨_, rfl⟩
  have HW3 := Lib.hid hw3
  have HX3 : Hid (Whole w3 D 27 #[.int .i64 1, .int .i64 f', .string ⟨#[]⟩, .slice none 0 0, .slice none 0 0]) := Lib.hid (by rw [← hw3, ← hD]; exact Whole.made w2 _ _)
  have HC3 : Hid (CurK m w3 R s k1) := Lib.hid (by rw [← hw3]; exact Whole.alloc HC2.out _)
  have HG3 : Hid (w.grownBy w3 (some R)) := Lib.hid (by rw [← hw3]; exact gr_alloc HG2.out _)
  have HZ3 : Hid (Whole w3 S0 27 #[.int .i64 0, .int .i64 0, .string ⟨#[]⟩, .slice none 0 0, .slice none 0 0]) := Lib.hid (by rw [← hw3]; exact HZ2.out.alloc _)
  have HS3 : Hid (Shp w3) := Lib.hid (by rw [← hw3]; exact HS2.out.below (below_new w2 _) (Nat.le_refl _))
  have HL3 : Hid (Lst w3) := Lib.hid (by rw [← hw3]; exact HL2.out.below (below_new w2 _) (Nat.le_refl _))
  clear hD hw3
  go_upto_region 2 with fail
  rw [HDD.out, HW3.out]
  have hdm : decide (0 < m) = true := decide_eq_true hm0
  go_wp2_with fail
  refine (spendK R m k1 s w3 HC3.out hm).mono ?_
  rintro e w4 ⟨he, hc, hg⟩
  rw [hdm] at he
  subst he
  have HC4 := Lib.hid hc
  have HG4 := Lib.hid (gr_trans HG3.out hg)
  have HZ4 := Lib.hid (HZ3.out.grown hg (fun e => by cases e; omega))
  have HX4 := Lib.hid (HX3.out.grown hg (fun e => by cases e; omega))
  have HS4 := Lib.hid (HS3.out.grownR hg hR1)
  clear hc hg hdm
  have sz : 0 < w4.heap.size := HS4.out.1
  have s0 : w4.cell? ⟨0, 4, none⟩ = some (.bool true) := HS4.out.2 4 (by decide)
  have s1 : w4.cell? ⟨0, 5, none⟩ = some (.bool false) := HS4.out.2 5 (by decide)
  have s2 : w4.cell? ⟨0, 6, none⟩ = some (.bool false) := HS4.out.2 6 (by decide)
  have s3 : w4.cell? ⟨0, 7, none⟩ = some (.int .i64 0) := HS4.out.2 7 (by decide)
  have xc0 := HX4.out.cell 0
  simp only [List.getElem?_toArray, List.getElem?_cons_zero, List.getElem?_cons_succ] at xc0
  obtain ⟨D6, hD6⟩ : ∃ D, w4.heap.size = D := ⟨_, rfl⟩
  have HDD6 := Lib.hid hD6
  have hDD6 : D < D6 := by have := HX4.out.lt; omega
  obtain ⟨w5, hw5⟩ : ∃ z, w4.alloc (.cells #[.bool true, .bool false, .bool false, .int .i64 0] 99) = z := ⟨_, rfl⟩
  have HW5 := Lib.hid hw5
  have H65 : Hid (Whole w5 D6 99 #[.bool true, .bool false, .bool false, .int .i64 ((0 : Nat) : Int)]) := Lib.hid (by rw [← hw5, ← hD6]; exact Whole.made w4 _ _)
  have HC5 : Hid (CurK (m - 1) w5 R s k1) := Lib.hid (by rw [← hw5]; exact Whole.alloc HC4.out _)
  have HG5 : Hid (w.grownBy w5 (some R)) := Lib.hid (by rw [← hw5]; exact gr_alloc HG4.out _)
  have HZ5 : Hid (Whole w5 S0 27 #[.int .i64 0, .int .i64 0, .string ⟨#[]⟩, .slice none 0 0, .slice none 0 0]) := Lib.hid (by rw [← hw5]; exact HZ4.out.alloc _)
  have HX5 : Hid (Whole w5 D 27 #[.int .i64 1, .int .i64 f', .string ⟨#[]⟩, .slice none 0 0, .slice none 0 0]) := Lib.hid (by rw [← hw5]; exact HX4.out.alloc _)
  clear hD6 hw5
  go_upto_region 5 with fail
  rw [HDD6.out, HW5.out]
  clear sz s0 s1 s2 s3 xc0
  have yc1 := H65.out.cell 1
  have yc2 := H65.out.cell 2
  simp only [List.getElem?_toArray, List.getElem?_cons_zero, List.getElem?_cons_succ] at yc1 yc2
  have hRD : R < D := by omega
  clear yc1 yc2
  have yc1 := H65.out.cell 1
  have yc2 := H65.out.cell 2
  simp only [List.getElem?_toArray, List.getElem?_cons_zero, List.getElem?_cons_succ] at yc1 yc2
  go_upto_region 9 with fail
  clear yc1 yc2
  have HLf := Lib.hid (kw_leaf (lo := D + 1) (hi := w5.heap.size) (w := w5) (kd := 1) (f := f') (t := ⟨#[]⟩) (by decide) (S := []) (A := none) (n := 0) (c := 0) (by decide) (own_none _ _) (Nat.le_refl _))
  have HCI := Lib.hid (show CI s.data.toList k m 1 f' ⟨#[]⟩ [] [] 0 k1 (m - 1) by rw [← HK1.out]; exact ci_plain (by decide) (by decide) (by decide))
  obtain ⟨E, hE⟩ : ∃ E, w5.heap.size = E := ⟨_, rfl⟩
  have h6E : D6 < E := by have := H65.out.lt; omega
  rw [hE] at HLf
  have HB0 : Hid (OwL w R S0 D D6 E 0 s k m 1 f' ⟨#[]⟩ [] none 0 0 true false false 0 w5) := Lib.hid (owl_begin hE hk1le (by omega) HC5.out HG5.out HZ5.out HX5.out H65.out HLf.out HCI.out)
  have yc3 := H65.out.cell 3
  simp only [List.getElem?_toArray, List.getElem?_cons_zero, List.getElem?_cons_succ, Int.natCast_zero, Int.cast_ofNat_Int] at yc3
  clear hE
  go_wp2
  clear yc3
  go_loopw [7, 8, 45] (fun _ _ iv wr => ∃ i : Nat, i ≤ 0 ∧ iv = .int .i64 (i : Int) ∧ Hid (OwL w R S0 D D6 E 0 s k m 1 f' ⟨#[]⟩ [] none 0 0 true false false i wr)) (fun _ _ iv _ => 0 - (intOf iv).toNat)
  case atStart => exact ⟨0, Nat.zero_le _, by go_num, HB0⟩
  case round =>
    obtain ⟨i, hin, rfl, HREL⟩ := hrel
    obtain ⟨A, cap, base, h, k', m', ks, rs, hba, hEh, hhw, hbw, hk', hm', hA0, hOB, HC, HG, HZ, HX, H6, HO, HK, HL, HCI⟩ := HREL.out
    obtain rfl : i = 0 := by omega
    have h5 : ¬ ((0 : Nat) : Int) < 0 := by decide
    have xc0 := HX.out.cell 0
    have xc1 := HX.out.cell 1
    have xc2 := HX.out.cell 2
    have xc3 := HX.out.cell 3
    have xc4 := HX.out.cell 4
    simp only [List.getElem?_toArray, List.getElem?_cons_zero, List.getElem?_cons_succ] at xc0 xc1 xc2 xc3 xc4
    have zc0 := HZ.out.cell 0
    have zc1 := HZ.out.cell 1
    have zc2 := HZ.out.cell 2
    have zc3 := HZ.out.cell 3
    have zc4 := HZ.out.cell 4
    have zf0 := HZ.out.free 0
    have zf1 := HZ.out.free 1
    have zf2 := HZ.out.free 2
    have zf3 := HZ.out.free 3
    have zf4 := HZ.out.free 4
    simp only [List.getElem?_toArray, List.getElem?_cons_zero, List.getElem?_cons_succ] at zc0 zc1 zc2 zc3 zc4
    go_wp2
    refine bodyPost_ret (v := .tuple #[.agg #[.int .i64 1, .int .i64 f', .string ⟨#[]⟩, .slice none 0 0, .slice A 0 cap], .bool true]) (by rw [results_cell_tmp Tryz.results31]; go_simp) rfl ?_
    exact owk_end HSS.out hRS hSD (by omega) hba hEh hhw hk' hm' HC.out HG.out HO.out HK.out HL.out rfl HCI.out (fun K2 R2 ha => (HWRD.out K2 R2 ha).2) HSZ.out _ _ _ _ _
set_option maxRecDepth 20000 in
set_option maxHeartbeats 16000000 in
theorem okey_step_2 {m R k : Nat} {s : ByteArray} (w : World) (hs : s.size ≤ 16777216) (hm : m ≤ 9) (hR1 : 0 < R) (hR2 : 1 < R) (hk : k ≤ s.size) (h : CurK m w R s k) (hSh : Shp w) (hLs : Lst w)
    (ih : ∀ (m1 k1 : Nat) (w1 : World), m1 < m → k1 ≤ s.size → CurK m1 w1 R s k1 → Shp w1 → Lst w1 → Calls Tryz.prog 31 #[.pointer (some ⟨R, 0, none⟩)] w1 (OwK m1 R s k1 w1)) {f : Int} (hwk : wk (s.extract k (k + wl s.data.toList k)).data.toList = (2, f, true)) (hm0 : 0 < m) :
    Calls Tryz.prog 31 #[.pointer (some ⟨R, 0, none⟩)] w (OwK m R s k w) := by
  have HSZ : Hid (0 < s.size) := Lib.hid (by
    rcases Nat.eq_zero_or_pos s.size with h0 | h0
    · have h1 : (s.extract k (k + wl s.data.toList k)).data.toList = [] := List.length_eq_zero_iff.1 (by rw [← size_txt, ByteArray.size_extract]; omega)
      have h2 : wk [] = (0, 0, false) := by decide
      rw [h1, h2] at hwk
      have h3 := (Prod.mk.inj (Prod.mk.inj hwk).2).2
      cases h3
    · exact h0)
  have hl : s.data.toList.length = s.size := by simp
  obtain ⟨S0, hSS⟩ : ∃ B, w.heap.size = B := ⟨_, rfl⟩
  have HSS := Lib.hid hSS
  have hRS : R < S0 := by have := Whole.lt h; omega
  obtain ⟨wa, hwa⟩ : ∃ wa, w.alloc (.cells #[.int .i64 0, .int .i64 0, .string ⟨#[]⟩, .slice none 0 0, .slice none 0 0] 27) = wa := ⟨_, rfl⟩
  have HWA := Lib.hid hwa
  have HCa : Hid (CurK m wa R s k) := Lib.hid (by rw [← hwa]; exact Whole.alloc h _)
  have HZa : Hid (Whole wa S0 27 #[.int .i64 0, .int .i64 0, .string ⟨#[]⟩, .slice none 0 0, .slice none 0 0]) := Lib.hid (by rw [← hwa, ← hSS]; exact Whole.made w _ _)
  have HGa : Hid (w.grownBy wa (some R)) := Lib.hid (by rw [← hwa]; exact gr_alloc (gr_refl _ _) _)
  have HLa := Lib.hid (hLs.grownR HGa.out hR2)
  have HSa := Lib.hid (hSh.grownR HGa.out hR1)
  have HIH := Lib.hid ih
  have HSw := Lib.hid hSh
  have HLw := Lib.hid hLs
  have hk1le : k + wl s.data.toList k ≤ s.size := by have := wl_le s.data.toList k (by omega); omega
  have HC0 := word_any R k s wa HCa.out hs hk
  unfold Worded at HC0
  obtain ⟨k1, hk1⟩ : ∃ z, k + wl s.data.toList k = z := ⟨_, rfl⟩
  rw [hk1] at HC0 hk1le hwk
  obtain ⟨tw, htw⟩ : ∃ z, s.extract k k1 = z := ⟨_, rfl⟩
  rw [htw] at HC0 hwk
  have HK1 := Lib.hid hk1
  have HWK0 := Lib.hid hwk
  have HWRD : Hid (∀ K2 R2, At s.data.toList k m K2 R2 → true = true ∧ ∃ t2 S2 ks2, K2 = .mk 2 f t2 S2 ks2) := Lib.hid (at_word (by rw [hk1, htw]; exact hwk))
  clear hwa h hSh hLs ih hSS htw hk1 hl hwk
  go_enter Tryz.func31, Tryz.ntmps31
  go_wp2_with fail
  try rw [HSS.out, HWA.out]
  refine HC0.mono ?_
  rintro e w1 ⟨rfl, hc, hg⟩
  clear HC0
  have HC1 := Lib.hid hc
  have HG1 := Lib.hid (gr_trans HGa.out hg)
  have HZ1 := Lib.hid (HZa.out.grown hg (fun e => by cases e; omega))
  have HL1 := Lib.hid (HLa.out.grownR hg hR2)
  have HS1 := Lib.hid (HSa.out.grownR hg hR1)
  clear hc hg
  go_wp2_with fail
  refine (wordkey_any (t := tw) w1 HL1.out).mono ?_
  rintro e w2 ⟨kd', f', o', hwk2, rfl, hb⟩
  obtain ⟨hwk4, hwk3⟩ := Prod.mk.inj (hwk2.symm.trans HWK0.out)
  obtain ⟨hwk5, hwk6⟩ := Prod.mk.inj hwk3
  subst hwk4
  subst hwk5
  subst hwk6
  have HC2 : Hid (CurK m w2 R s k1) := Lib.hid (Whole.below HC1.out hb (Whole.lt HC1.out))
  have HG2 := Lib.hid (gr_trans HG1.out (gr_below hb (some R)))
  have HZ2 := Lib.hid (HZ1.out.below hb HZ1.out.lt)
  have HS2 := Lib.hid (HS1.out.below hb (Nat.le_refl _))
  have HL2 := Lib.hid (HL1.out.below hb (Nat.le_refl _))
  clear hb hwk2
  obtain ⟨D, hD⟩ : ∃ D, w2.heap.size = D := ⟨_, rfl⟩
  have HDD := Lib.hid hD
  have hSD : S0 < D := by have := HZ2.out.lt; omega
  obtain ⟨w3, hw3⟩ : ∃ z, w2.alloc (.cells #[.int .i64 2, .int .i64 f', .string ⟨#[]⟩, .slice none 0 0, .slice none 0 0] 27) = z := ⟨_, rfl⟩
  have HW3 := Lib.hid hw3
  have HX3 : Hid (Whole w3 D 27 #[.int .i64 2, .int .i64 f', .string ⟨#[]⟩, .slice none 0 0, .slice none 0 0]) := Lib.hid (by rw [← hw3, ← hD]; exact Whole.made w2 _ _)
  have HC3 : Hid (CurK m w3 R s k1) := Lib.hid (by rw [← hw3]; exact Whole.alloc HC2.out _)
  have HG3 : Hid (w.grownBy w3 (some R)) := Lib.hid (by rw [← hw3]; exact gr_alloc HG2.out _)
  have HZ3 : Hid (Whole w3 S0 27 #[.int .i64 0, .int .i64 0, .string ⟨#[]⟩, .slice none 0 0, .slice none 0 0]) := Lib.hid (by rw [← hw3]; exact HZ2.out.alloc _)
  have HS3 : Hid (Shp w3) := Lib.hid (by rw [← hw3]; exact HS2.out.below (below_new w2 _) (Nat.le_refl _))
  have HL3 : Hid (Lst w3) := Lib.hid (by rw [← hw3]; exact HL2.out.below (below_new w2 _) (Nat.le_refl _))
  clear hD hw3
  go_upto_region 2 with fail
  rw [HDD.out, HW3.out]
  have hdm : decide (0 < m) = true := decide_eq_true hm0
  go_wp2_with fail
  refine (spendK R m k1 s w3 HC3.out hm).mono ?_
  rintro e w4 ⟨he, hc, hg⟩
  rw [hdm] at he
  subst he
  have HC4 := Lib.hid hc
  have HG4 := Lib.hid (gr_trans HG3.out hg)
  have HZ4 := Lib.hid (HZ3.out.grown hg (fun e => by cases e; omega))
  have HX4 := Lib.hid (HX3.out.grown hg (fun e => by cases e; omega))
  have HS4 := Lib.hid (HS3.out.grownR hg hR1)
  clear hc hg hdm
  have sz : 0 < w4.heap.size := HS4.out.1
  have s0 : w4.cell? ⟨0, 8, none⟩ = some (.bool false) := HS4.out.2 8 (by decide)
  have s1 : w4.cell? ⟨0, 9, none⟩ = some (.bool true) := HS4.out.2 9 (by decide)
  have s2 : w4.cell? ⟨0, 10, none⟩ = some (.bool false) := HS4.out.2 10 (by decide)
  have s3 : w4.cell? ⟨0, 11, none⟩ = some (.int .i64 0) := HS4.out.2 11 (by decide)
  have xc0 := HX4.out.cell 0
  simp only [List.getElem?_toArray, List.getElem?_cons_zero, List.getElem?_cons_succ] at xc0
  obtain ⟨D6, hD6⟩ : ∃ D, w4.heap.size = D := ⟨_, rfl⟩
  have HDD6 := Lib.hid hD6
  have hDD6 : D < D6 := by have := HX4.out.lt; omega
  obtain ⟨w5, hw5⟩ : ∃ z, w4.alloc (.cells #[.bool false, .bool true, .bool false, .int .i64 0] 99) = z := ⟨_, rfl⟩
  have HW5 := Lib.hid hw5
  have H65 : Hid (Whole w5 D6 99 #[.bool false, .bool true, .bool false, .int .i64 ((0 : Nat) : Int)]) := Lib.hid (by rw [← hw5, ← hD6]; exact Whole.made w4 _ _)
  have HC5 : Hid (CurK (m - 1) w5 R s k1) := Lib.hid (by rw [← hw5]; exact Whole.alloc HC4.out _)
  have HG5 : Hid (w.grownBy w5 (some R)) := Lib.hid (by rw [← hw5]; exact gr_alloc HG4.out _)
  have HZ5 : Hid (Whole w5 S0 27 #[.int .i64 0, .int .i64 0, .string ⟨#[]⟩, .slice none 0 0, .slice none 0 0]) := Lib.hid (by rw [← hw5]; exact HZ4.out.alloc _)
  have HX5 : Hid (Whole w5 D 27 #[.int .i64 2, .int .i64 f', .string ⟨#[]⟩, .slice none 0 0, .slice none 0 0]) := Lib.hid (by rw [← hw5]; exact HX4.out.alloc _)
  clear hD6 hw5
  go_upto_region 5 with fail
  rw [HDD6.out, HW5.out]
  clear sz s0 s1 s2 s3 xc0
  have yc1 := H65.out.cell 1
  have yc2 := H65.out.cell 2
  simp only [List.getElem?_toArray, List.getElem?_cons_zero, List.getElem?_cons_succ] at yc1 yc2
  have hRD : R < D := by omega
  have hl : s.data.toList.length = s.size := by simp
  have hq : skp s.data.toList k1 ≤ s.size := by have := skp_le (L := s.data.toList) (k := k1) (by omega); omega
  have hk2le : skp s.data.toList k1 + wl s.data.toList (skp s.data.toList k1) ≤ s.size := by have := wl_le s.data.toList (skp s.data.toList k1) (by omega); omega
  have HN0 := nextword_any R k1 s w5 HC5.out hs hk1le
  unfold Worded at HN0
  obtain ⟨kq, hkq⟩ : ∃ z, skp s.data.toList k1 = z := ⟨_, rfl⟩
  rw [hkq] at HN0 hk2le
  obtain ⟨k2, hk2⟩ : ∃ z, kq + wl s.data.toList kq = z := ⟨_, rfl⟩
  rw [hk2] at HN0 hk2le
  obtain ⟨tx, htx⟩ : ∃ z, s.extract kq k2 = z := ⟨_, rfl⟩
  rw [htx] at HN0
  have HTX : Hid (tx.size ≤ 16777216) := Lib.hid (by rw [← htx, ByteArray.size_extract]; omega)
  have HKQ := Lib.hid hkq
  have HK2 := Lib.hid hk2
  have HTE := Lib.hid htx
  clear hl hq hkq hk2 htx
  go_wp2_with fail
  refine HN0.mono ?_
  rintro e w6 ⟨rfl, hc, hg⟩
  clear HN0 yc1 yc2
  have HC6 := Lib.hid hc
  have HG6 := Lib.hid (gr_trans HG5.out hg)
  have HZ6 := Lib.hid (HZ5.out.grown hg (fun e => by cases e; omega))
  have HX6 := Lib.hid (HX5.out.grown hg (fun e => by cases e; omega))
  have H66 := Lib.hid (H65.out.grown hg (fun e => by cases e; omega))
  clear hc hg
  have xc2 := HX6.out.cell 2
  have xf2 := HX6.out.free 2
  have yc2 := H66.out.cell 2
  simp only [List.getElem?_toArray, List.getElem?_cons_zero, List.getElem?_cons_succ] at xc2 yc2
  obtain ⟨w7, hw7⟩ : ∃ z, w6.setCell ⟨D, 2, none⟩ (.string tx) = z := ⟨_, rfl⟩
  have HW7 := Lib.hid hw7
  have hgs : w6.grownBy w7 (some D) := by rw [← hw7]; exact gr_one (gr_refl _ _) _ _
  have HC7 : Hid (CurK (m - 1) w7 R s k2) := Lib.hid (Whole.grown HC6.out hgs (fun e => by cases e; omega))
  have HG7 := Lib.hid (gr_row1 HG6.out hgs (fun g e => by cases e; have := HSS.out; omega))
  have HZ7 := Lib.hid (HZ6.out.grown hgs (fun e => by cases e; omega))
  have HX7 : Hid (Whole w7 D 27 #[.int .i64 2, .int .i64 f', .string tx, .slice none 0 0, .slice none 0 0]) := Lib.hid (by rw [← hw7]; exact HX6.out.store 2 _)
  have H67 := Lib.hid (H66.out.grown hgs (fun e => by cases e; omega))
  clear hw7 hgs
  go_upto_region 9 with fail
  rw [HW7.out]
  clear xc2 xf2 yc2
  have HLf := Lib.hid (kw_leaf (lo := D + 1) (hi := w7.heap.size) (w := w7) (kd := 2) (f := f') (t := tx) HTX.out (S := []) (A := none) (n := 0) (c := 0) (by decide) (own_none _ _) (Nat.le_refl _))
  have HCI := Lib.hid (show CI s.data.toList k m 2 f' tx [] [] 0 k2 (m - 1) from ci_text HK1.out (by rw [HKQ.out]; exact HK2.out) (by rw [HKQ.out]; exact HTE.out))
  obtain ⟨E, hE⟩ : ∃ E, w7.heap.size = E := ⟨_, rfl⟩
  have h6E : D6 < E := by have := H67.out.lt; omega
  rw [hE] at HLf
  have HB0 : Hid (OwL w R S0 D D6 E 0 s k m 2 f' tx [] none 0 0 false true false 0 w7) := Lib.hid (owl_begin hE hk2le (by omega) HC7.out HG7.out HZ7.out HX7.out H67.out HLf.out HCI.out)
  have yc3 := H67.out.cell 3
  simp only [List.getElem?_toArray, List.getElem?_cons_zero, List.getElem?_cons_succ, Int.natCast_zero, Int.cast_ofNat_Int] at yc3
  clear hE
  go_wp2
  clear yc3
  go_loopw [7, 8, 45] (fun _ _ iv wr => ∃ i : Nat, i ≤ 0 ∧ iv = .int .i64 (i : Int) ∧ Hid (OwL w R S0 D D6 E 0 s k m 2 f' tx [] none 0 0 false true false i wr)) (fun _ _ iv _ => 0 - (intOf iv).toNat)
  case atStart => exact ⟨0, Nat.zero_le _, by go_num, HB0⟩
  case round =>
    obtain ⟨i, hin, rfl, HREL⟩ := hrel
    obtain ⟨A, cap, base, h, k', m', ks, rs, hba, hEh, hhw, hbw, hk', hm', hA0, hOB, HC, HG, HZ, HX, H6, HO, HK, HL, HCI⟩ := HREL.out
    obtain rfl : i = 0 := by omega
    have h5 : ¬ ((0 : Nat) : Int) < 0 := by decide
    have xc0 := HX.out.cell 0
    have xc1 := HX.out.cell 1
    have xc2 := HX.out.cell 2
    have xc3 := HX.out.cell 3
    have xc4 := HX.out.cell 4
    simp only [List.getElem?_toArray, List.getElem?_cons_zero, List.getElem?_cons_succ] at xc0 xc1 xc2 xc3 xc4
    have zc0 := HZ.out.cell 0
    have zc1 := HZ.out.cell 1
    have zc2 := HZ.out.cell 2
    have zc3 := HZ.out.cell 3
    have zc4 := HZ.out.cell 4
    have zf0 := HZ.out.free 0
    have zf1 := HZ.out.free 1
    have zf2 := HZ.out.free 2
    have zf3 := HZ.out.free 3
    have zf4 := HZ.out.free 4
    simp only [List.getElem?_toArray, List.getElem?_cons_zero, List.getElem?_cons_succ] at zc0 zc1 zc2 zc3 zc4
    go_wp2
    refine bodyPost_ret (v := .tuple #[.agg #[.int .i64 2, .int .i64 f', .string tx, .slice none 0 0, .slice A 0 cap], .bool true]) (by rw [results_cell_tmp Tryz.results31]; go_simp) rfl ?_
    exact owk_end HSS.out hRS hSD (by omega) hba hEh hhw hk' hm' HC.out HG.out HO.out HK.out HL.out rfl HCI.out (fun K2 R2 ha => (HWRD.out K2 R2 ha).2) HSZ.out _ _ _ _ _
set_option maxRecDepth 20000 in
set_option maxHeartbeats 16000000 in
theorem okey_step_3 {m R k : Nat} {s : ByteArray} (w : World) (hs : s.size ≤ 16777216) (hm : m ≤ 9) (hR1 : 0 < R) (hR2 : 1 < R) (hk : k ≤ s.size) (h : CurK m w R s k) (hSh : Shp w) (hLs : Lst w)
    (ih : ∀ (m1 k1 : Nat) (w1 : World), m1 < m → k1 ≤ s.size → CurK m1 w1 R s k1 → Shp w1 → Lst w1 → Calls Tryz.prog 31 #[.pointer (some ⟨R, 0, none⟩)] w1 (OwK m1 R s k1 w1)) {f : Int} (hwk : wk (s.extract k (k + wl s.data.toList k)).data.toList = (3, f, true)) (hm0 : 0 < m) :
    Calls Tryz.prog 31 #[.pointer (some ⟨R, 0, none⟩)] w (OwK m R s k w) := by
  have HSZ : Hid (0 < s.size) := Lib.hid (by
    rcases Nat.eq_zero_or_pos s.size with h0 | h0
    · have h1 : (s.extract k (k + wl s.data.toList k)).data.toList = [] := List.length_eq_zero_iff.1 (by rw [← size_txt, ByteArray.size_extract]; omega)
      have h2 : wk [] = (0, 0, false) := by decide
      rw [h1, h2] at hwk
      have h3 := (Prod.mk.inj (Prod.mk.inj hwk).2).2
      cases h3
    · exact h0)
  have hl : s.data.toList.length = s.size := by simp
  obtain ⟨S0, hSS⟩ : ∃ B, w.heap.size = B := ⟨_, rfl⟩
  have HSS := Lib.hid hSS
  have hRS : R < S0 := by have := Whole.lt h; omega
  obtain ⟨wa, hwa⟩ : ∃ wa, w.alloc (.cells #[.int .i64 0, .int .i64 0, .string ⟨#[]⟩, .slice none 0 0, .slice none 0 0] 27) = wa := ⟨_, rfl⟩
  have HWA := Lib.hid hwa
  have HCa : Hid (CurK m wa R s k) := Lib.hid (by rw [← hwa]; exact Whole.alloc h _)
  have HZa : Hid (Whole wa S0 27 #[.int .i64 0, .int .i64 0, .string ⟨#[]⟩, .slice none 0 0, .slice none 0 0]) := Lib.hid (by rw [← hwa, ← hSS]; exact Whole.made w _ _)
  have HGa : Hid (w.grownBy wa (some R)) := Lib.hid (by rw [← hwa]; exact gr_alloc (gr_refl _ _) _)
  have HLa := Lib.hid (hLs.grownR HGa.out hR2)
  have HSa := Lib.hid (hSh.grownR HGa.out hR1)
  have HIH := Lib.hid ih
  have HSw := Lib.hid hSh
  have HLw := Lib.hid hLs
  have hk1le : k + wl s.data.toList k ≤ s.size := by have := wl_le s.data.toList k (by omega); omega
  have HC0 := word_any R k s wa HCa.out hs hk
  unfold Worded at HC0
  obtain ⟨k1, hk1⟩ : ∃ z, k + wl s.data.toList k = z := ⟨_, rfl⟩
  rw [hk1] at HC0 hk1le hwk
  obtain ⟨tw, htw⟩ : ∃ z, s.extract k k1 = z := ⟨_, rfl⟩
  rw [htw] at HC0 hwk
  have HK1 := Lib.hid hk1
  have HWK0 := Lib.hid hwk
  have HWRD : Hid (∀ K2 R2, At s.data.toList k m K2 R2 → true = true ∧ ∃ t2 S2 ks2, K2 = .mk 3 f t2 S2 ks2) := Lib.hid (at_word (by rw [hk1, htw]; exact hwk))
  clear hwa h hSh hLs ih hSS htw hk1 hl hwk
  go_enter Tryz.func31, Tryz.ntmps31
  go_wp2_with fail
  try rw [HSS.out, HWA.out]
  refine HC0.mono ?_
  rintro e w1 ⟨rfl, hc, hg⟩
  clear HC0
  have HC1 := Lib.hid hc
  have HG1 := Lib.hid (gr_trans HGa.out hg)
  have HZ1 := Lib.hid (HZa.out.grown hg (fun e => by cases e; omega))
  have HL1 := Lib.hid (HLa.out.grownR hg hR2)
  have HS1 := Lib.hid (HSa.out.grownR hg hR1)
  clear hc hg
  go_wp2_with fail
  refine (wordkey_any (t := tw) w1 HL1.out).mono ?_
  rintro e w2 ⟨kd', f', o', hwk2, rfl, hb⟩
  obtain ⟨hwk4, hwk3⟩ := Prod.mk.inj (hwk2.symm.trans HWK0.out)
  obtain ⟨hwk5, hwk6⟩ := Prod.mk.inj hwk3
  subst hwk4
  subst hwk5
  subst hwk6
  have HC2 : Hid (CurK m w2 R s k1) := Lib.hid (Whole.below HC1.out hb (Whole.lt HC1.out))
  have HG2 := Lib.hid (gr_trans HG1.out (gr_below hb (some R)))
  have HZ2 := Lib.hid (HZ1.out.below hb HZ1.out.lt)
  have HS2 := Lib.hid (HS1.out.below hb (Nat.le_refl _))
  have HL2 := Lib.hid (HL1.out.below hb (Nat.le_refl _))
  clear hb hwk2
  obtain ⟨D, hD⟩ : ∃ D, w2.heap.size = D := ⟨_, rfl⟩
  have HDD := Lib.hid hD
  have hSD : S0 < D := by have := HZ2.out.lt; omega
  obtain ⟨w3, hw3⟩ : ∃ z, w2.alloc (.cells #[.int .i64 3, .int .i64 f', .string ⟨#[]⟩, .slice none 0 0, .slice none 0 0] 27) = z := ⟨_, rfl⟩
  have HW3 := Lib.hid hw3
  have HX3 : Hid (Whole w3 D 27 #[.int .i64 3, .int .i64 f', .string ⟨#[]⟩, .slice none 0 0, .slice none 0 0]) := Lib.hid (by rw [← hw3, ← hD]; exact Whole.made w2 _ _)
  have HC3 : Hid (CurK m w3 R s k1) := Lib.hid (by rw [← hw3]; exact Whole.alloc HC2.out _)
  have HG3 : Hid (w.grownBy w3 (some R)) := Lib.hid (by rw [← hw3]; exact gr_alloc HG2.out _)
  have HZ3 : Hid (Whole w3 S0 27 #[.int .i64 0, .int .i64 0, .string ⟨#[]⟩, .slice none 0 0, .slice none 0 0]) := Lib.hid (by rw [← hw3]; exact HZ2.out.alloc _)
  have HS3 : Hid (Shp w3) := Lib.hid (by rw [← hw3]; exact HS2.out.below (below_new w2 _) (Nat.le_refl _))
  have HL3 : Hid (Lst w3) := Lib.hid (by rw [← hw3]; exact HL2.out.below (below_new w2 _) (Nat.le_refl _))
  clear hD hw3
  go_upto_region 2 with fail
  rw [HDD.out, HW3.out]
  have hdm : decide (0 < m) = true := decide_eq_true hm0
  go_wp2_with fail
  refine (spendK R m k1 s w3 HC3.out hm).mono ?_
  rintro e w4 ⟨he, hc, hg⟩
  rw [hdm] at he
  subst he
  have HC4 := Lib.hid hc
  have HG4 := Lib.hid (gr_trans HG3.out hg)
  have HZ4 := Lib.hid (HZ3.out.grown hg (fun e => by cases e; omega))
  have HX4 := Lib.hid (HX3.out.grown hg (fun e => by cases e; omega))
  have HS4 := Lib.hid (HS3.out.grownR hg hR1)
  clear hc hg hdm
  have sz : 0 < w4.heap.size := HS4.out.1
  have s0 : w4.cell? ⟨0, 12, none⟩ = some (.bool false) := HS4.out.2 12 (by decide)
  have s1 : w4.cell? ⟨0, 13, none⟩ = some (.bool false) := HS4.out.2 13 (by decide)
  have s2 : w4.cell? ⟨0, 14, none⟩ = some (.bool true) := HS4.out.2 14 (by decide)
  have s3 : w4.cell? ⟨0, 15, none⟩ = some (.int .i64 0) := HS4.out.2 15 (by decide)
  have xc0 := HX4.out.cell 0
  simp only [List.getElem?_toArray, List.getElem?_cons_zero, List.getElem?_cons_succ] at xc0
  obtain ⟨D6, hD6⟩ : ∃ D, w4.heap.size = D := ⟨_, rfl⟩
  have HDD6 := Lib.hid hD6
  have hDD6 : D < D6 := by have := HX4.out.lt; omega
  obtain ⟨w5, hw5⟩ : ∃ z, w4.alloc (.cells #[.bool false, .bool false, .bool true, .int .i64 0] 99) = z := ⟨_, rfl⟩
  have HW5 := Lib.hid hw5
  have H65 : Hid (Whole w5 D6 99 #[.bool false, .bool false, .bool true, .int .i64 ((0 : Nat) : Int)]) := Lib.hid (by rw [← hw5, ← hD6]; exact Whole.made w4 _ _)
  have HC5 : Hid (CurK (m - 1) w5 R s k1) := Lib.hid (by rw [← hw5]; exact Whole.alloc HC4.out _)
  have HG5 : Hid (w.grownBy w5 (some R)) := Lib.hid (by rw [← hw5]; exact gr_alloc HG4.out _)
  have HZ5 : Hid (Whole w5 S0 27 #[.int .i64 0, .int .i64 0, .string ⟨#[]⟩, .slice none 0 0, .slice none 0 0]) := Lib.hid (by rw [← hw5]; exact HZ4.out.alloc _)
  have HX5 : Hid (Whole w5 D 27 #[.int .i64 3, .int .i64 f', .string ⟨#[]⟩, .slice none 0 0, .slice none 0 0]) := Lib.hid (by rw [← hw5]; exact HX4.out.alloc _)
  clear hD6 hw5
  go_upto_region 5 with fail
  rw [HDD6.out, HW5.out]
  clear sz s0 s1 s2 s3 xc0
  have yc1 := H65.out.cell 1
  have yc2 := H65.out.cell 2
  simp only [List.getElem?_toArray, List.getElem?_cons_zero, List.getElem?_cons_succ] at yc1 yc2
  have hRD : R < D := by omega
  have hl : s.data.toList.length = s.size := by simp
  have hq : skp s.data.toList k1 ≤ s.size := by have := skp_le (L := s.data.toList) (k := k1) (by omega); omega
  have hk2le : skp s.data.toList k1 + wl s.data.toList (skp s.data.toList k1) ≤ s.size := by have := wl_le s.data.toList (skp s.data.toList k1) (by omega); omega
  have HN0 := nextword_any R k1 s w5 HC5.out hs hk1le
  unfold Worded at HN0
  obtain ⟨kq, hkq⟩ : ∃ z, skp s.data.toList k1 = z := ⟨_, rfl⟩
  rw [hkq] at HN0 hk2le
  obtain ⟨k2, hk2⟩ : ∃ z, kq + wl s.data.toList kq = z := ⟨_, rfl⟩
  rw [hk2] at HN0 hk2le
  obtain ⟨tx, htx⟩ : ∃ z, s.extract kq k2 = z := ⟨_, rfl⟩
  rw [htx] at HN0
  have HTX : Hid (tx.size ≤ 16777216) := Lib.hid (by rw [← htx, ByteArray.size_extract]; omega)
  have HKQ := Lib.hid hkq
  have HK2 := Lib.hid hk2
  have HTE := Lib.hid htx
  clear hl hq hkq hk2 htx
  go_wp2_with fail
  refine HN0.mono ?_
  rintro e w6 ⟨rfl, hc, hg⟩
  clear HN0 yc1 yc2
  have HC6 := Lib.hid hc
  have HG6 := Lib.hid (gr_trans HG5.out hg)
  have HZ6 := Lib.hid (HZ5.out.grown hg (fun e => by cases e; omega))
  have HX6 := Lib.hid (HX5.out.grown hg (fun e => by cases e; omega))
  have H66 := Lib.hid (H65.out.grown hg (fun e => by cases e; omega))
  clear hc hg
  go_wp2_with fail
  refine (impl_setparse tx w6 HTX.out).mono ?_
  rintro e w7 ⟨v, rfl, hown, hb⟩
  obtain ⟨AS, nS, cS, rfl⟩ := own_slice hown
  obtain ⟨SS, hSSe⟩ : ∃ z, up ((setO tx.data.toList).getD []) = z := ⟨_, rfl⟩
  rw [hSSe] at hown
  have HSE := Lib.hid hSSe
  obtain ⟨os, hos⟩ : ∃ z, (setO tx.data.toList).isSome = z := ⟨_, rfl⟩
  try rw [hos]
  have hB6 : D + 1 ≤ w6.heap.size := HX6.out.lt
  have HLf7 : Hid (KW (D + 1) w7.heap.size w7 (.mk 3 f' ⟨#[]⟩ SS []) (kval (3, f', ⟨#[]⟩, (AS, nS, cS), (none, 0, 0)))) := Lib.hid (by
    have h2 := (spa_own1 hown hB6).2
    refine kw_leaf (by decide) ?_ (hown.from hB6) (Nat.le_refl _)
    rw [← h2, ← hSSe]
    have : (up ((setO tx.data.toList).getD [])).length ≤ 6 := by
      cases hh : setO tx.data.toList with
      | none => decide
      | some l => rw [Option.getD_some, up_len]; exact (set_mem hh).2.1
    omega)
  have HC7 : Hid (CurK (m - 1) w7 R s k2) := Lib.hid (Whole.below HC6.out hb (Whole.lt HC6.out))
  have HG7 := Lib.hid (gr_trans HG6.out (gr_below hb (some R)))
  have HZ7 := Lib.hid (HZ6.out.below hb HZ6.out.lt)
  have HX7 := Lib.hid (HX6.out.below hb HX6.out.lt)
  have H67 := Lib.hid (H66.out.below hb H66.out.lt)
  clear hb hown hSSe hos
  have xc3 := HX7.out.cell 3
  have xf3 := HX7.out.free 3
  simp only [List.getElem?_toArray, List.getElem?_cons_zero, List.getElem?_cons_succ] at xc3
  obtain ⟨w8, hw8⟩ : ∃ z, w7.setCell ⟨D, 3, none⟩ (.slice AS nS cS) = z := ⟨_, rfl⟩
  have HW8 := Lib.hid hw8
  have hgs : w7.grownBy w8 (some D) := by rw [← hw8]; exact gr_one (gr_refl _ _) _ _
  have HC8 : Hid (CurK (m - 1) w8 R s k2) := Lib.hid (Whole.grown HC7.out hgs (fun e => by cases e; omega))
  have HG8 := Lib.hid (gr_row1 HG7.out hgs (fun g e => by cases e; have := HSS.out; omega))
  have HZ8 := Lib.hid (HZ7.out.grown hgs (fun e => by cases e; omega))
  have HX8 : Hid (Whole w8 D 27 #[.int .i64 3, .int .i64 f', .string ⟨#[]⟩, .slice AS nS cS, .slice none 0 0]) := Lib.hid (by rw [← hw8]; exact HX7.out.store 3 _)
  have H68 := Lib.hid (H67.out.grown hgs (fun e => by cases e; omega))
  have HLf := Lib.hid ((HLf7.out.grown hgs (fun g e => by cases e; omega)).widen (Nat.le_refl _) hgs.size)
  clear hw8 hgs HLf7
  go_upto_region 9 with fail
  rw [HW8.out]
  clear xc3 xf3
  have HCI := Lib.hid (show CI s.data.toList k m 3 f' ⟨#[]⟩ SS [] 0 k2 (m - 1) from ci_set (by decide) HK1.out (by rw [HKQ.out]; exact HK2.out) (by rw [HKQ.out]; exact HTE.out) HSE.out)
  obtain ⟨E, hE⟩ : ∃ E, w8.heap.size = E := ⟨_, rfl⟩
  have h6E : D6 < E := by have := H68.out.lt; omega
  rw [hE] at HLf
  have HB0 : Hid (OwL w R S0 D D6 E 0 s k m 3 f' ⟨#[]⟩ SS AS nS cS false false true 0 w8) := Lib.hid (owl_begin hE hk2le (by omega) HC8.out HG8.out HZ8.out HX8.out H68.out HLf.out HCI.out)
  have yc3 := H68.out.cell 3
  simp only [List.getElem?_toArray, List.getElem?_cons_zero, List.getElem?_cons_succ, Int.natCast_zero, Int.cast_ofNat_Int] at yc3
  clear hE
  go_wp2
  clear yc3
  go_loopw [7, 8, 45] (fun _ _ iv wr => ∃ i : Nat, i ≤ 0 ∧ iv = .int .i64 (i : Int) ∧ Hid (OwL w R S0 D D6 E 0 s k m 3 f' ⟨#[]⟩ SS AS nS cS false false true i wr)) (fun _ _ iv _ => 0 - (intOf iv).toNat)
  case atStart => exact ⟨0, Nat.zero_le _, by go_num, HB0⟩
  case round =>
    obtain ⟨i, hin, rfl, HREL⟩ := hrel
    obtain ⟨A, cap, base, h, k', m', ks, rs, hba, hEh, hhw, hbw, hk', hm', hA0, hOB, HC, HG, HZ, HX, H6, HO, HK, HL, HCI⟩ := HREL.out
    obtain rfl : i = 0 := by omega
    have h5 : ¬ ((0 : Nat) : Int) < 0 := by decide
    have xc0 := HX.out.cell 0
    have xc1 := HX.out.cell 1
    have xc2 := HX.out.cell 2
    have xc3 := HX.out.cell 3
    have xc4 := HX.out.cell 4
    simp only [List.getElem?_toArray, List.getElem?_cons_zero, List.getElem?_cons_succ] at xc0 xc1 xc2 xc3 xc4
    have zc0 := HZ.out.cell 0
    have zc1 := HZ.out.cell 1
    have zc2 := HZ.out.cell 2
    have zc3 := HZ.out.cell 3
    have zc4 := HZ.out.cell 4
    have zf0 := HZ.out.free 0
    have zf1 := HZ.out.free 1
    have zf2 := HZ.out.free 2
    have zf3 := HZ.out.free 3
    have zf4 := HZ.out.free 4
    simp only [List.getElem?_toArray, List.getElem?_cons_zero, List.getElem?_cons_succ] at zc0 zc1 zc2 zc3 zc4
    go_wp2
    refine bodyPost_ret (v := .tuple #[.agg #[.int .i64 3, .int .i64 f', .string ⟨#[]⟩, .slice AS nS cS, .slice A 0 cap], .bool true]) (by rw [results_cell_tmp Tryz.results31]; go_simp) rfl ?_
    exact owk_end HSS.out hRS hSD (by omega) hba hEh hhw hk' hm' HC.out HG.out HO.out HK.out HL.out rfl HCI.out (fun K2 R2 ha => (HWRD.out K2 R2 ha).2) HSZ.out _ _ _ _ _
set_option maxRecDepth 20000 in
set_option maxHeartbeats 16000000 in
theorem okey_step_4 {m R k : Nat} {s : ByteArray} (w : World) (hs : s.size ≤ 16777216) (hm : m ≤ 9) (hR1 : 0 < R) (hR2 : 1 < R) (hk : k ≤ s.size) (h : CurK m w R s k) (hSh : Shp w) (hLs : Lst w)
    (ih : ∀ (m1 k1 : Nat) (w1 : World), m1 < m → k1 ≤ s.size → CurK m1 w1 R s k1 → Shp w1 → Lst w1 → Calls Tryz.prog 31 #[.pointer (some ⟨R, 0, none⟩)] w1 (OwK m1 R s k1 w1)) {f : Int} (hwk : wk (s.extract k (k + wl s.data.toList k)).data.toList = (4, f, true)) (hm0 : 0 < m) :
    Calls Tryz.prog 31 #[.pointer (some ⟨R, 0, none⟩)] w (OwK m R s k w) := by
  have HSZ : Hid (0 < s.size) := Lib.hid (by
    rcases Nat.eq_zero_or_pos s.size with h0 | h0
    · have h1 : (s.extract k (k + wl s.data.toList k)).data.toList = [] := List.length_eq_zero_iff.1 (by rw [← size_txt, ByteArray.size_extract]; omega)
      have h2 : wk [] = (0, 0, false) := by decide
      rw [h1, h2] at hwk
      have h3 := (Prod.mk.inj (Prod.mk.inj hwk).2).2
      cases h3
    · exact h0)
  have hl : s.data.toList.length = s.size := by simp
  obtain ⟨S0, hSS⟩ : ∃ B, w.heap.size = B := ⟨_, rfl⟩
  have HSS := Lib.hid hSS
  have hRS : R < S0 := by have := Whole.lt h; omega
  obtain ⟨wa, hwa⟩ : ∃ wa, w.alloc (.cells #[.int .i64 0, .int .i64 0, .string ⟨#[]⟩, .slice none 0 0, .slice none 0 0] 27) = wa := ⟨_, rfl⟩
  have HWA := Lib.hid hwa
  have HCa : Hid (CurK m wa R s k) := Lib.hid (by rw [← hwa]; exact Whole.alloc h _)
  have HZa : Hid (Whole wa S0 27 #[.int .i64 0, .int .i64 0, .string ⟨#[]⟩, .slice none 0 0, .slice none 0 0]) := Lib.hid (by rw [← hwa, ← hSS]; exact Whole.made w _ _)
  have HGa : Hid (w.grownBy wa (some R)) := Lib.hid (by rw [← hwa]; exact gr_alloc (gr_refl _ _) _)
  have HLa := Lib.hid (hLs.grownR HGa.out hR2)
  have HSa := Lib.hid (hSh.grownR HGa.out hR1)
  have HIH := Lib.hid ih
  have HSw := Lib.hid hSh
  have HLw := Lib.hid hLs
  have hk1le : k + wl s.data.toList k ≤ s.size := by have := wl_le s.data.toList k (by omega); omega
  have HC0 := word_any R k s wa HCa.out hs hk
  unfold Worded at HC0
  obtain ⟨k1, hk1⟩ : ∃ z, k + wl s.data.toList k = z := ⟨_, rfl⟩
  rw [hk1] at HC0 hk1le hwk
  obtain ⟨tw, htw⟩ : ∃ z, s.extract k k1 = z := ⟨_, rfl⟩
  rw [htw] at HC0 hwk
  have HK1 := Lib.hid hk1
  have HWK0 := Lib.hid hwk
  have HWRD : Hid (∀ K2 R2, At s.data.toList k m K2 R2 → true = true ∧ ∃ t2 S2 ks2, K2 = .mk 4 f t2 S2 ks2) := Lib.hid (at_word (by rw [hk1, htw]; exact hwk))
  clear hwa h hSh hLs ih hSS htw hk1 hl hwk
  go_enter Tryz.func31, Tryz.ntmps31
  go_wp2_with fail
  try rw [HSS.out, HWA.out]
  refine HC0.mono ?_
  rintro e w1 ⟨rfl, hc, hg⟩
  clear HC0
  have HC1 := Lib.hid hc
  have HG1 := Lib.hid (gr_trans HGa.out hg)
  have HZ1 := Lib.hid (HZa.out.grown hg (fun e => by cases e; omega))
  have HL1 := Lib.hid (HLa.out.grownR hg hR2)
  have HS1 := Lib.hid (HSa.out.grownR hg hR1)
  clear hc hg
  go_wp2_with fail
  refine (wordkey_any (t := tw) w1 HL1.out).mono ?_
  rintro e w2 ⟨kd', f', o', hwk2, rfl, hb⟩
  obtain ⟨hwk4, hwk3⟩ := Prod.mk.inj (hwk2.symm.trans HWK0.out)
  obtain ⟨hwk5, hwk6⟩ := Prod.mk.inj hwk3
  subst hwk4
  subst hwk5
  subst hwk6
  have HC2 : Hid (CurK m w2 R s k1) := Lib.hid (Whole.below HC1.out hb (Whole.lt HC1.out))
  have HG2 := Lib.hid (gr_trans HG1.out (gr_below hb (some R)))
  have HZ2 := Lib.hid (HZ1.out.below hb HZ1.out.lt)
  have HS2 := Lib.hid (HS1.out.below hb (Nat.le_refl _))
  have HL2 := Lib.hid (HL1.out.below hb (Nat.le_refl _))
  clear hb hwk2
  obtain ⟨D, hD⟩ : ∃ D, w2.heap.size = D := ⟨_, rfl⟩
  have HDD := Lib.hid hD
  have hSD : S0 < D := by have := HZ2.out.lt; omega
  obtain ⟨w3, hw3⟩ : ∃ z, w2.alloc (.cells #[.int .i64 4, .int .i64 f', .string ⟨#[]⟩, .slice none 0 0, .slice none 0 0] 27) = z := ⟨_, rfl⟩
  have HW3 := Lib.hid hw3
  have HX3 : Hid (Whole w3 D 27 #[.int .i64 4, .int .i64 f', .string ⟨#[]⟩, .slice none 0 0, .slice none 0 0]) := Lib.hid (by rw [← hw3, ← hD]; exact Whole.made w2 _ _)
  have HC3 : Hid (CurK m w3 R s k1) := Lib.hid (by rw [← hw3]; exact Whole.alloc HC2.out _)
  have HG3 : Hid (w.grownBy w3 (some R)) := Lib.hid (by rw [← hw3]; exact gr_alloc HG2.out _)
  have HZ3 : Hid (Whole w3 S0 27 #[.int .i64 0, .int .i64 0, .string ⟨#[]⟩, .slice none 0 0, .slice none 0 0]) := Lib.hid (by rw [← hw3]; exact HZ2.out.alloc _)
  have HS3 : Hid (Shp w3) := Lib.hid (by rw [← hw3]; exact HS2.out.below (below_new w2 _) (Nat.le_refl _))
  have HL3 : Hid (Lst w3) := Lib.hid (by rw [← hw3]; exact HL2.out.below (below_new w2 _) (Nat.le_refl _))
  clear hD hw3
  go_upto_region 2 with fail
  rw [HDD.out, HW3.out]
  have hdm : decide (0 < m) = true := decide_eq_true hm0
  go_wp2_with fail
  refine (spendK R m k1 s w3 HC3.out hm).mono ?_
  rintro e w4 ⟨he, hc, hg⟩
  rw [hdm] at he
  subst he
  have HC4 := Lib.hid hc
  have HG4 := Lib.hid (gr_trans HG3.out hg)
  have HZ4 := Lib.hid (HZ3.out.grown hg (fun e => by cases e; omega))
  have HX4 := Lib.hid (HX3.out.grown hg (fun e => by cases e; omega))
  have HS4 := Lib.hid (HS3.out.grownR hg hR1)
  clear hc hg hdm
  have sz : 0 < w4.heap.size := HS4.out.1
  have s0 : w4.cell? ⟨0, 16, none⟩ = some (.bool false) := HS4.out.2 16 (by decide)
  have s1 : w4.cell? ⟨0, 17, none⟩ = some (.bool false) := HS4.out.2 17 (by decide)
  have s2 : w4.cell? ⟨0, 18, none⟩ = some (.bool true) := HS4.out.2 18 (by decide)
  have s3 : w4.cell? ⟨0, 19, none⟩ = some (.int .i64 0) := HS4.out.2 19 (by decide)
  have xc0 := HX4.out.cell 0
  simp only [List.getElem?_toArray, List.getElem?_cons_zero, List.getElem?_cons_succ] at xc0
  obtain ⟨D6, hD6⟩ : ∃ D, w4.heap.size = D := ⟨_, rfl⟩
  have HDD6 := Lib.hid hD6
  have hDD6 : D < D6 := by have := HX4.out.lt; omega
  obtain ⟨w5, hw5⟩ : ∃ z, w4.alloc (.cells #[.bool false, .bool false, .bool true, .int .i64 0] 99) = z := ⟨_, rfl⟩
  have HW5 := Lib.hid hw5
  have H65 : Hid (Whole w5 D6 99 #[.bool false, .bool false, .bool true, .int .i64 ((0 : Nat) : Int)]) := Lib.hid (by rw [← hw5, ← hD6]; exact Whole.made w4 _ _)
  have HC5 : Hid (CurK (m - 1) w5 R s k1) := Lib.hid (by rw [← hw5]; exact Whole.alloc HC4.out _)
  have HG5 : Hid (w.grownBy w5 (some R)) := Lib.hid (by rw [← hw5]; exact gr_alloc HG4.out _)
  have HZ5 : Hid (Whole w5 S0 27 #[.int .i64 0, .int .i64 0, .string ⟨#[]⟩, .slice none 0 0, .slice none 0 0]) := Lib.hid (by rw [← hw5]; exact HZ4.out.alloc _)
  have HX5 : Hid (Whole w5 D 27 #[.int .i64 4, .int .i64 f', .string ⟨#[]⟩, .slice none 0 0, .slice none 0 0]) := Lib.hid (by rw [← hw5]; exact HX4.out.alloc _)
  clear hD6 hw5
  go_upto_region 5 with fail
  rw [HDD6.out, HW5.out]
  clear sz s0 s1 s2 s3 xc0
  have yc1 := H65.out.cell 1
  have yc2 := H65.out.cell 2
  simp only [List.getElem?_toArray, List.getElem?_cons_zero, List.getElem?_cons_succ] at yc1 yc2
  have hRD : R < D := by omega
  have hl : s.data.toList.length = s.size := by simp
  have hq : skp s.data.toList k1 ≤ s.size := by have := skp_le (L := s.data.toList) (k := k1) (by omega); omega
  have hk2le : skp s.data.toList k1 + wl s.data.toList (skp s.data.toList k1) ≤ s.size := by have := wl_le s.data.toList (skp s.data.toList k1) (by omega); omega
  have HN0 := nextword_any R k1 s w5 HC5.out hs hk1le
  unfold Worded at HN0
  obtain ⟨kq, hkq⟩ : ∃ z, skp s.data.toList k1 = z := ⟨_, rfl⟩
  rw [hkq] at HN0 hk2le
  obtain ⟨k2, hk2⟩ : ∃ z, kq + wl s.data.toList kq = z := ⟨_, rfl⟩
  rw [hk2] at HN0 hk2le
  obtain ⟨tx, htx⟩ : ∃ z, s.extract kq k2 = z := ⟨_, rfl⟩
  rw [htx] at HN0
  have HTX : Hid (tx.size ≤ 16777216) := Lib.hid (by rw [← htx, ByteArray.size_extract]; omega)
  have HKQ := Lib.hid hkq
  have HK2 := Lib.hid hk2
  have HTE := Lib.hid htx
  clear hl hq hkq hk2 htx
  go_wp2_with fail
  refine HN0.mono ?_
  rintro e w6 ⟨rfl, hc, hg⟩
  clear HN0 yc1 yc2
  have HC6 := Lib.hid hc
  have HG6 := Lib.hid (gr_trans HG5.out hg)
  have HZ6 := Lib.hid (HZ5.out.grown hg (fun e => by cases e; omega))
  have HX6 := Lib.hid (HX5.out.grown hg (fun e => by cases e; omega))
  have H66 := Lib.hid (H65.out.grown hg (fun e => by cases e; omega))
  clear hc hg
  go_wp2_with fail
  refine (impl_setparse tx w6 HTX.out).mono ?_
  rintro e w7 ⟨v, rfl, hown, hb⟩
  obtain ⟨AS, nS, cS, rfl⟩ := own_slice hown
  obtain ⟨SS, hSSe⟩ : ∃ z, up ((setO tx.data.toList).getD []) = z := ⟨_, rfl⟩
  rw [hSSe] at hown
  have HSE := Lib.hid hSSe
  obtain ⟨os, hos⟩ : ∃ z, (setO tx.data.toList).isSome = z := ⟨_, rfl⟩
  try rw [hos]
  have hB6 : D + 1 ≤ w6.heap.size := HX6.out.lt
  have HLf7 : Hid (KW (D + 1) w7.heap.size w7 (.mk 4 f' ⟨#[]⟩ SS []) (kval (4, f', ⟨#[]⟩, (AS, nS, cS), (none, 0, 0)))) := Lib.hid (by
    have h2 := (spa_own1 hown hB6).2
    refine kw_leaf (by decide) ?_ (hown.from hB6) (Nat.le_refl _)
    rw [← h2, ← hSSe]
    have : (up ((setO tx.data.toList).getD [])).length ≤ 6 := by
      cases hh : setO tx.data.toList with
      | none => decide
      | some l => rw [Option.getD_some, up_len]; exact (set_mem hh).2.1
    omega)
  have HC7 : Hid (CurK (m - 1) w7 R s k2) := Lib.hid (Whole.below HC6.out hb (Whole.lt HC6.out))
  have HG7 := Lib.hid (gr_trans HG6.out (gr_below hb (some R)))
  have HZ7 := Lib.hid (HZ6.out.below hb HZ6.out.lt)
  have HX7 := Lib.hid (HX6.out.below hb HX6.out.lt)
  have H67 := Lib.hid (H66.out.below hb H66.out.lt)
  clear hb hown hSSe hos
  have xc3 := HX7.out.cell 3
  have xf3 := HX7.out.free 3
  simp only [List.getElem?_toArray, List.getElem?_cons_zero, List.getElem?_cons_succ] at xc3
  obtain ⟨w8, hw8⟩ : ∃ z, w7.setCell ⟨D, 3, none⟩ (.slice AS nS cS) = z := ⟨_, rfl⟩
  have HW8 := Lib.hid hw8
  have hgs : w7.grownBy w8 (some D) := by rw [← hw8]; exact gr_one (gr_refl _ _) _ _
  have HC8 : Hid (CurK (m - 1) w8 R s k2) := Lib.hid (Whole.grown HC7.out hgs (fun e => by cases e; omega))
  have HG8 := Lib.hid (gr_row1 HG7.out hgs (fun g e => by cases e; have := HSS.out; omega))
  have HZ8 := Lib.hid (HZ7.out.grown hgs (fun e => by cases e; omega))
  have HX8 : Hid (Whole w8 D 27 #[.int .i64 4, .int .i64 f', .string ⟨#[]⟩, .slice AS nS cS, .slice none 0 0]) := Lib.hid (by rw [← hw8]; exact HX7.out.store 3 _)
  have H68 := Lib.hid (H67.out.grown hgs (fun e => by cases e; omega))
  have HLf := Lib.hid ((HLf7.out.grown hgs (fun g e => by cases e; omega)).widen (Nat.le_refl _) hgs.size)
  clear hw8 hgs HLf7
  go_upto_region 9 with fail
  rw [HW8.out]
  clear xc3 xf3
  have HCI := Lib.hid (show CI s.data.toList k m 4 f' ⟨#[]⟩ SS [] 0 k2 (m - 1) from ci_set (by decide) HK1.out (by rw [HKQ.out]; exact HK2.out) (by rw [HKQ.out]; exact HTE.out) HSE.out)
  obtain ⟨E, hE⟩ : ∃ E, w8.heap.size = E := ⟨_, rfl⟩
  have h6E : D6 < E := by have := H68.out.lt; omega
  rw [hE] at HLf
  have HB0 : Hid (OwL w R S0 D D6 E 0 s k m 4 f' ⟨#[]⟩ SS AS nS cS false false true 0 w8) := Lib.hid (owl_begin hE hk2le (by omega) HC8.out HG8.out HZ8.out HX8.out H68.out HLf.out HCI.out)
  have yc3 := H68.out.cell 3
  simp only [List.getElem?_toArray, List.getElem?_cons_zero, List.getElem?_cons_succ, Int.natCast_zero, Int.cast_ofNat_Int] at yc3
  clear hE
  go_wp2
  clear yc3
  go_loopw [7, 8, 45] (fun _ _ iv wr => ∃ i : Nat, i ≤ 0 ∧ iv = .int .i64 (i : Int) ∧ Hid (OwL w R S0 D D6 E 0 s k m 4 f' ⟨#[]⟩ SS AS nS cS false false true i wr)) (fun _ _ iv _ => 0 - (intOf iv).toNat)
  case atStart => exact ⟨0, Nat.zero_le _, by go_num, HB0⟩
  case round =>
    obtain ⟨i, hin, rfl, HREL⟩ := hrel
    obtain ⟨A, cap, base, h, k', m', ks, rs, hba, hEh, hhw, hbw, hk', hm', hA0, hOB, HC, HG, HZ, HX, H6, HO, HK, HL, HCI⟩ := HREL.out
    obtain rfl : i = 0 := by omega
    have h5 : ¬ ((0 : Nat) : Int) < 0 := by decide
    have xc0 := HX.out.cell 0
    have xc1 := HX.out.cell 1
    have xc2 := HX.out.cell 2
    have xc3 := HX.out.cell 3
    have xc4 := HX.out.cell 4
    simp only [List.getElem?_toArray, List.getElem?_cons_zero, List.getElem?_cons_succ] at xc0 xc1 xc2 xc3 xc4
    have zc0 := HZ.out.cell 0
    have zc1 := HZ.out.cell 1
    have zc2 := HZ.out.cell 2
    have zc3 := HZ.out.cell 3
    have zc4 := HZ.out.cell 4
    have zf0 := HZ.out.free 0
    have zf1 := HZ.out.free 1
    have zf2 := HZ.out.free 2
    have zf3 := HZ.out.free 3
    have zf4 := HZ.out.free 4
    simp only [List.getElem?_toArray, List.getElem?_cons_zero, List.getElem?_cons_succ] at zc0 zc1 zc2 zc3 zc4
    go_wp2
    refine bodyPost_ret (v := .tuple #[.agg #[.int .i64 4, .int .i64 f', .string ⟨#[]⟩, .slice AS nS cS, .slice A 0 cap], .bool true]) (by rw [results_cell_tmp Tryz.results31]; go_simp) rfl ?_
    exact owk_end HSS.out hRS hSD (by omega) hba hEh hhw hk' hm' HC.out HG.out HO.out HK.out HL.out rfl HCI.out (fun K2 R2 ha => (HWRD.out K2 R2 ha).2) HSZ.out _ _ _ _ _
set_option maxRecDepth 20000 in
set_option maxHeartbeats 16000000 in
theorem okey_step_5 {m R k : Nat} {s : ByteArray} (w : World) (hs : s.size ≤ 16777216) (hm : m ≤ 9) (hR1 : 0 < R) (hR2 : 1 < R) (hk : k ≤ s.size) (h : CurK m w R s k) (hSh : Shp w) (hLs : Lst w)
    (ih : ∀ (m1 k1 : Nat) (w1 : World), m1 < m → k1 ≤ s.size → CurK m1 w1 R s k1 → Shp w1 → Lst w1 → Calls Tryz.prog 31 #[.pointer (some ⟨R, 0, none⟩)] w1 (OwK m1 R s k1 w1)) {f : Int} (hwk : wk (s.extract k (k + wl s.data.toList k)).data.toList = (5, f, true)) (hm0 : 0 < m) :
    Calls Tryz.prog 31 #[.pointer (some ⟨R, 0, none⟩)] w (OwK m R s k w) := by
  have HSZ : Hid (0 < s.size) := Lib.hid (by
    rcases Nat.eq_zero_or_pos s.size with h0 | h0
    · have h1 : (s.extract k (k + wl s.data.toList k)).data.toList = [] := List.length_eq_zero_iff.1 (by rw [← size_txt, ByteArray.size_extract]; omega)
      have h2 : wk [] = (0, 0, false) := by decide
      rw [h1, h2] at hwk
      have h3 := (Prod.mk.inj (Prod.mk.inj hwk).2).2
      cases h3
    · exact h0)
  have hl : s.data.toList.length = s.size := by simp
  obtain ⟨S0, hSS⟩ : ∃ B, w.heap.size = B := ⟨_, rfl⟩
  have HSS := Lib.hid hSS
  have hRS : R < S0 := by have := Whole.lt h; omega
  obtain ⟨wa, hwa⟩ : ∃ wa, w.alloc (.cells #[.int .i64 0, .int .i64 0, .string ⟨#[]⟩, .slice none 0 0, .slice none 0 0] 27) = wa := ⟨_, rfl⟩
  have HWA := Lib.hid hwa
  have HCa : Hid (CurK m wa R s k) := Lib.hid (by rw [← hwa]; exact Whole.alloc h _)
  have HZa : Hid (Whole wa S0 27 #[.int .i64 0, .int .i64 0, .string ⟨#[]⟩, .slice none 0 0, .slice none 0 0]) := Lib.hid (by rw [← hwa, ← hSS]; exact Whole.made w _ _)
  have HGa : Hid (w.grownBy wa (some R)) := Lib.hid (by rw [← hwa]; exact gr_alloc (gr_refl _ _) _)
  have HLa := Lib.hid (hLs.grownR HGa.out hR2)
  have HSa := Lib.hid (hSh.grownR HGa.out hR1)
  have HIH := Lib.hid ih
  have HSw := Lib.hid hSh
  have HLw := Lib.hid hLs
  have hk1le : k + wl s.data.toList k ≤ s.size := by have := wl_le s.data.toList k (by omega); omega
  have HC0 := word_any R k s wa HCa.out hs hk
  unfold Worded at HC0
  obtain ⟨k1, hk1⟩ : ∃ z, k + wl s.data.toList k = z := ⟨_, rfl⟩
  rw [hk1] at HC0 hk1le hwk
  obtain ⟨tw, htw⟩ : ∃ z, s.extract k k1 = z := ⟨_, rfl⟩
  rw [htw] at HC0 hwk
  have HK1 := Lib.hid hk1
  have HWK0 := Lib.hid hwk
  have HWRD : Hid (∀ K2 R2, At s.data.toList k m K2 R2 → true = true ∧ ∃ t2 S2 ks2, K2 = .mk 5 f t2 S2 ks2) := Lib.hid (at_word (by rw [hk1, htw]; exact hwk))
  clear hwa h hSh hLs ih hSS htw hk1 hl hwk
  go_enter Tryz.func31, Tryz.ntmps31
  go_wp2_with fail
  try rw [HSS.out, HWA.out]
  refine HC0.mono ?_
  rintro e w1 ⟨rfl, hc, hg⟩
  clear HC0
  have HC1 := Lib.hid hc
  have HG1 := Lib.hid (gr_trans HGa.out hg)
  have HZ1 := Lib.hid (HZa.out.grown hg (fun e => by cases e; omega))
  have HL1 := Lib.hid (HLa.out.grownR hg hR2)
  have HS1 := Lib.hid (HSa.out.grownR hg hR1)
  clear hc hg
  go_wp2_with fail
  refine (wordkey_any (t := tw) w1 HL1.out).mono ?_
  rintro e w2 ⟨kd', f', o', hwk2, rfl, hb⟩
  obtain ⟨hwk4, hwk3⟩ := Prod.mk.inj (hwk2.symm.trans HWK0.out)
  obtain ⟨hwk5, hwk6⟩ := Prod.mk.inj hwk3
  subst hwk4
  subst hwk5
  subst hwk6
  have HC2 : Hid (CurK m w2 R s k1) := Lib.hid (Whole.below HC1.out hb (Whole.lt HC1.out))
  have HG2 := Lib.hid (gr_trans HG1.out (gr_below hb (some R)))
  have HZ2 := Lib.hid (HZ1.out.below hb HZ1.out.lt)
  have HS2 := Lib.hid (HS1.out.below hb (Nat.le_refl _))
  have HL2 := Lib.hid (HL1.out.below hb (Nat.le_refl _))
  clear hb hwk2
  obtain ⟨D, hD⟩ : ∃ D, w2.heap.size = D := ⟨_, rfl⟩
  have HDD := Lib.hid hD
  have hSD : S0 < D := by have := HZ2.out.lt; omega
  obtain ⟨w3, hw3⟩ : ∃ z, w2.alloc (.cells #[.int .i64 5, .int .i64 f', .string ⟨#[]⟩, .slice none 0 0, .slice none 0 0] 27) = z := ⟨_, rfl⟩
  have HW3 := Lib.hid hw3
  have HX3 : Hid (Whole w3 D 27 #[.int .i64 5, .int .i64 f', .string ⟨#[]⟩, .slice none 0 0, .slice none 0 0]) := Lib.hid (by rw [← hw3, ← hD]; exact Whole.made w2 _ _)
  have HC3 : Hid (CurK m w3 R s k1) := Lib.hid (by rw [← hw3]; exact Whole.alloc HC2.out _)
  have HG3 : Hid (w.grownBy w3 (some R)) := Lib.hid (by rw [← hw3]; exact gr_alloc HG2.out _)
  have HZ3 : Hid (Whole w3 S0 27 #[.int .i64 0, .int .i64 0, .string ⟨#[]⟩, .slice none 0 0, .slice none 0 0]) := Lib.hid (by rw [← hw3]; exact HZ2.out.alloc _)
  have HS3 : Hid (Shp w3) := Lib.hid (by rw [← hw3]; exact HS2.out.below (below_new w2 _) (Nat.le_refl _))
  have HL3 : Hid (Lst w3) := Lib.hid (by rw [← hw3]; exact HL2.out.below (below_new w2 _) (Nat.le_refl _))
  clear hD hw3
  go_upto_region 2 with fail
  rw [HDD.out, HW3.out]
  have hdm : decide (0 < m) = true := decide_eq_true hm0
  go_wp2_with fail
  refine (spendK R m k1 s w3 HC3.out hm).mono ?_
  rintro e w4 ⟨he, hc, hg⟩
  rw [hdm] at he
  subst he
  have HC4 := Lib.hid hc
  have HG4 := Lib.hid (gr_trans HG3.out hg)
  have HZ4 := Lib.hid (HZ3.out.grown hg (fun e => by cases e; omega))
  have HX4 := Lib.hid (HX3.out.grown hg (fun e => by cases e; omega))
  have HS4 := Lib.hid (HS3.out.grownR hg hR1)
  clear hc hg hdm
  have sz : 0 < w4.heap.size := HS4.out.1
  have s0 : w4.cell? ⟨0, 20, none⟩ = some (.bool false) := HS4.out.2 20 (by decide)
  have s1 : w4.cell? ⟨0, 21, none⟩ = some (.bool false) := HS4.out.2 21 (by decide)
  have s2 : w4.cell? ⟨0, 22, none⟩ = some (.bool false) := HS4.out.2 22 (by decide)
  have s3 : w4.cell? ⟨0, 23, none⟩ = some (.int .i64 1) := HS4.out.2 23 (by decide)
  have xc0 := HX4.out.cell 0
  simp only [List.getElem?_toArray, List.getElem?_cons_zero, List.getElem?_cons_succ] at xc0
  obtain ⟨D6, hD6⟩ : ∃ D, w4.heap.size = D := ⟨_, rfl⟩
  have HDD6 := Lib.hid hD6
  have hDD6 : D < D6 := by have := HX4.out.lt; omega
  obtain ⟨w5, hw5⟩ : ∃ z, w4.alloc (.cells #[.bool false, .bool false, .bool false, .int .i64 1] 99) = z := ⟨_, rfl⟩
  have HW5 := Lib.hid hw5
  have H65 : Hid (Whole w5 D6 99 #[.bool false, .bool false, .bool false, .int .i64 ((1 : Nat) : Int)]) := Lib.hid (by rw [← hw5, ← hD6]; exact Whole.made w4 _ _)
  have HC5 : Hid (CurK (m - 1) w5 R s k1) := Lib.hid (by rw [← hw5]; exact Whole.alloc HC4.out _)
  have HG5 : Hid (w.grownBy w5 (some R)) := Lib.hid (by rw [← hw5]; exact gr_alloc HG4.out _)
  have HZ5 : Hid (Whole w5 S0 27 #[.int .i64 0, .int .i64 0, .string ⟨#[]⟩, .slice none 0 0, .slice none 0 0]) := Lib.hid (by rw [← hw5]; exact HZ4.out.alloc _)
  have HX5 : Hid (Whole w5 D 27 #[.int .i64 5, .int .i64 f', .string ⟨#[]⟩, .slice none 0 0, .slice none 0 0]) := Lib.hid (by rw [← hw5]; exact HX4.out.alloc _)
  clear hD6 hw5
  go_upto_region 5 with fail
  rw [HDD6.out, HW5.out]
  clear sz s0 s1 s2 s3 xc0
  have yc1 := H65.out.cell 1
  have yc2 := H65.out.cell 2
  simp only [List.getElem?_toArray, List.getElem?_cons_zero, List.getElem?_cons_succ] at yc1 yc2
  have hRD : R < D := by omega
  clear yc1 yc2
  have yc1 := H65.out.cell 1
  have yc2 := H65.out.cell 2
  simp only [List.getElem?_toArray, List.getElem?_cons_zero, List.getElem?_cons_succ] at yc1 yc2
  go_upto_region 9 with fail
  clear yc1 yc2
  have HLf := Lib.hid (kw_leaf (lo := D + 1) (hi := w5.heap.size) (w := w5) (kd := 5) (f := f') (t := ⟨#[]⟩) (by decide) (S := []) (A := none) (n := 0) (c := 0) (by decide) (own_none _ _) (Nat.le_refl _))
  have HCI := Lib.hid (show CI s.data.toList k m 5 f' ⟨#[]⟩ [] [] 0 k1 (m - 1) by rw [← HK1.out]; exact ci_plain (by decide) (by decide) (by decide))
  obtain ⟨E, hE⟩ : ∃ E, w5.heap.size = E := ⟨_, rfl⟩
  have h6E : D6 < E := by have := H65.out.lt; omega
  rw [hE] at HLf
  have HB0 : Hid (OwL w R S0 D D6 E 1 s k m 5 f' ⟨#[]⟩ [] none 0 0 false false false 0 w5) := Lib.hid (owl_begin hE hk1le (by omega) HC5.out HG5.out HZ5.out HX5.out H65.out HLf.out HCI.out)
  have yc3 := H65.out.cell 3
  simp only [List.getElem?_toArray, List.getElem?_cons_zero, List.getElem?_cons_succ, Int.natCast_zero, Int.cast_ofNat_Int] at yc3
  clear hE
  go_wp2
  clear yc3
  go_loopw [7, 8, 45] (fun _ _ iv wr => ∃ i : Nat, i ≤ 1 ∧ iv = .int .i64 (i : Int) ∧ Hid (OwL w R S0 D D6 E 1 s k m 5 f' ⟨#[]⟩ [] none 0 0 false false false i wr)) (fun _ _ iv _ => 1 - (intOf iv).toNat)
  case atStart => exact ⟨0, Nat.zero_le _, by go_num, HB0⟩
  case round =>
    obtain ⟨i, hin, rfl, HREL⟩ := hrel
    obtain ⟨A, cap, base, h, k', m', ks, rs, hba, hEh, hhw, hbw, hk', hm', hA0, hOB, HC, HG, HZ, HX, H6, HO, HK, HL, HCI⟩ := HREL.out
    by_cases hlt : i < 1
    · have h5 : (i : Int) < 1 := by omega
      have hl : s.data.toList.length = s.size := by simp
      have hq : skp s.data.toList k' ≤ s.size := by have := skp_le (L := s.data.toList) (k := k') (by omega); omega
      have HT0 := take_anyK R k' s 32 wr HC.out hs hk'
      rw [show (if nextIs s.data.toList k' 32 = true then k' + 1 else k') = skp s.data.toList k' from rfl] at HT0
      obtain ⟨kq', hkq⟩ : ∃ q, skp s.data.toList k' = q := ⟨_, rfl⟩
      obtain ⟨zz, hz⟩ : ∃ z, nextIs s.data.toList k' 32 = z := ⟨_, rfl⟩
      rw [hkq] at HT0 hq
      rw [hz] at HT0
      have HT := Lib.hid HT0
      have HKQ' := Lib.hid hkq
      clear HT0 hkq hz hl
      have hmlE : i + 1 ≤ maxLen := by unfold maxLen; omega
      have hbyE : (i + 1) * 80 ≤ 140737488355328 := by omega
      go_wp2_with fail
      refine HT.out.mono ?_
      rintro e wt ⟨rfl, hc, hg⟩
      have hgt := gr_trans HG.out hg
      have HIC := Lib.hid (HIH.out m' kq' wt hm' hq hc (HSw.out.grownR hgt hR1) (HLw.out.grownR hgt hR2))
      have HGT := Lib.hid hg
      clear hc hg hgt
      go_wp2_with fail
      refine HIC.out.mono ?_
      rintro e w6' ⟨K6, ⟨a0, a1, a2, ⟨a3, a4, a5⟩, ⟨a6, a7, a8⟩⟩, o6, k6, m6, rfl, hc6, hk6, hm6, hg6, hka6, hcomp6, -⟩
      have HG16 := Lib.hid (gr_trans HGT.out hg6)
      have HC6' := Lib.hid hc6
      have HKA6 := Lib.hid (hka6.widen HGT.out.size (Nat.le_refl _))
      have HCO6 := Lib.hid hcomp6
      have hm6m : m6 < m := by omega
      clear hc6 hg6 hka6 hcomp6
      obtain ⟨base2, hO6, hb1, hb2, hb3⟩ := own_base2 HO.out hA0 HG16.out (by omega) hba (by omega)
      have HO6 := Lib.hid hO6
      clear hO6
      obtain ⟨D7, hD7⟩ : ∃ D, w6'.heap.size = D := ⟨_, rfl⟩
      have HDD7 := Lib.hid hD7
      obtain ⟨w7', hw7'⟩ : ∃ z, w6'.alloc (.cells #[.int .i64 a0, .int .i64 a1, .string a2, .slice a3 a4 a5, .slice a6 a7 a8] 27) = z := ⟨_, rfl⟩
      have HW7' := Lib.hid hw7'
      have HZ7' : Hid (Whole w7' S0 27 #[.int .i64 0, .int .i64 0, .string ⟨#[]⟩, .slice none 0 0, .slice none 0 0]) := Lib.hid (by rw [← hw7']; exact (HZ.out.grown HG16.out (fun e => by cases e; omega)).alloc _)
      have HX7' := Lib.hid (show Whole w7' D 27 #[.int .i64 5, .int .i64 f', .string ⟨#[]⟩, .slice none 0 0, .slice A i cap] by rw [← hw7']; exact (HX.out.grown HG16.out (fun e => by cases e; omega)).alloc _)
      have HR7' : Hid (Whole w7' D7 27 #[.int .i64 a0, .int .i64 a1, .string a2, .slice a3 a4 a5, .slice a6 a7 a8]) := Lib.hid (by rw [← hw7', ← hD7]; exact Whole.made w6' _ _)
      have HO7' : Hid (ROwn keyR w7' base2 (.slice A i cap) rs) := Lib.hid (by rw [← hw7']; exact HO6.out.alloc _)
      have HG7' : Hid (w.grownBy w7' (some R)) := Lib.hid (by rw [← hw7']; exact gr_alloc (gr_trans HG.out HG16.out) _)
      have HC7' : Hid (CurK m6 w7' R s k6) := Lib.hid (by rw [← hw7']; exact Whole.alloc HC6'.out _)
      have hb27 : base2 ≤ w7'.heap.size := by rw [← hw7']; simp; omega
      clear hD7 hw7'
      go_upto_region 13 with fail
      rw [HDD7.out, HW7'.out]
      cases o6 with
      | false =>
        have zc0 := HZ7'.out.cell 0
        have zc1 := HZ7'.out.cell 1
        have zc2 := HZ7'.out.cell 2
        have zc3 := HZ7'.out.cell 3
        have zc4 := HZ7'.out.cell 4
        have zf0 := HZ7'.out.free 0
        have zf1 := HZ7'.out.free 1
        have zf2 := HZ7'.out.free 2
        have zf3 := HZ7'.out.free 3
        have zf4 := HZ7'.out.free 4
        simp only [List.getElem?_toArray, List.getElem?_cons_zero, List.getElem?_cons_succ] at zc0 zc1 zc2 zc3 zc4
        go_wp2
        refine bodyPost_ret (v := .tuple #[.agg #[.int .i64 0, .int .i64 0, .string ⟨#[]⟩, .slice none 0 0, .slice none 0 0], .bool false]) (by rw [results_cell_tmp Tryz.results31]; go_simp) rfl ?_
        exact owk_fail HSS.out hRS HZ7'.out.lt HC7'.out hk6 (by omega) HG7'.out (fun K a b => ci_stop HCI.out (show i < nOf 5 by show i < 1; omega) (by rw [HKQ'.out]; exact HCO6.out) (fun K2 R2 ha => (HWRD.out K2 R2 ha).2)) _ _ _ _ _
      | true =>
        obtain ⟨i0, hi, hq0, hq1, hq2⟩ := info_parts Tryz.infoKey
        have HLN : Hid (rs.length = i) := Lib.hid HO.out.len.1.symm
        have xc4 := HX7'.out.cell 4
        have rc0 := HR7'.out.cell 0
        have rc1 := HR7'.out.cell 1
        have rc2 := HR7'.out.cell 2
        have rc3 := HR7'.out.cell 3
        have rc4 := HR7'.out.cell 4
        simp only [List.getElem?_toArray, List.getElem?_cons_zero, List.getElem?_cons_succ] at rc0 rc1 rc2 rc3 rc4
        simp only [List.getElem?_toArray, List.getElem?_cons_zero, List.getElem?_cons_succ] at xc4
        go_wp2_with (at_builtin; refine wpList_append_rows_at rfl (.tmp 60) (.tmp 62) 25 rfl keyR base2 i0 _ 80 Tryz.underlying25 hi hq0 hq1 hq2 rfl (by decide) _ rs (a0, a1, a2, (a3, a4, a5), (a6, a7, a8)) i HLN.out rfl (HO7'.out.alloc _) w7'.heap.size 1 rfl (RAt.made keyR w7' [(a0, a1, a2, (a3, a4, a5), (a6, a7, a8))] _ rfl) hmlE hbyE (by simp; omega) ?_)
        intro v' w9 hown hgrow hpl
        obtain ⟨A9, N9, c9, rfl⟩ := hown.val
        have hN9 : N9 = i + 1 := by
          have := hown.len.1
          rw [List.length_append, HLN.out] at this
          exact this
        subst hN9
        have HPL := Lib.hid hpl
        have HOW := Lib.hid hown
        have HGW := Lib.hid hgrow
        have hx9 := (HX7'.out.alloc (.cells #[.int .i64 a0, .int .i64 a1, .string a2, .slice a3 a4 a5, .slice a6 a7 a8] 27)).grown hgrow (fun e => by have := (World.ownsRow.lt HO6.out D e.symm).1; omega)
        have xc94 := hx9.cell 4
        have xf94 := hx9.free 4
        simp only [List.getElem?_toArray, List.getElem?_cons_zero, List.getElem?_cons_succ] at xc94
        clear hown hgrow hpl hx9 xc4 rc0 rc1 rc2 rc3 rc4
        go_wp2
        go_roundw
        case rel => exact ⟨i + 1, by omega, by go_num, Lib.hid (owl_next (k' := k') (m' := m') hRS hSD hDD6 h6E HSS.out hlt (by omega) hba hEh hhw hOB HG.out HZ.out HX.out H6.out HO.out HK.out HL.out HG16.out HC6'.out hk6 hm6m HKA6.out HO6.out hb1 hb2 hb3 (by rw [HW7'.out]; exact HGW.out) HOW.out (HPL.out.imp id (fun e => ⟨_, e, by rw [← HW7'.out]; simp; omega⟩)) (ci_next HCI.out (show i < nOf 5 by show i < 1; omega) (by rw [HKQ'.out]; exact HCO6.out)))⟩
        case measure => simp [intOf]; omega
    · have h5 : ¬ (i : Int) < 1 := by omega
      obtain rfl : i = 1 := by omega
      have xc0 := HX.out.cell 0
      have xc1 := HX.out.cell 1
      have xc2 := HX.out.cell 2
      have xc3 := HX.out.cell 3
      have xc4 := HX.out.cell 4
      simp only [List.getElem?_toArray, List.getElem?_cons_zero, List.getElem?_cons_succ] at xc0 xc1 xc2 xc3 xc4
      have zc0 := HZ.out.cell 0
      have zc1 := HZ.out.cell 1
      have zc2 := HZ.out.cell 2
      have zc3 := HZ.out.cell 3
      have zc4 := HZ.out.cell 4
      have zf0 := HZ.out.free 0
      have zf1 := HZ.out.free 1
      have zf2 := HZ.out.free 2
      have zf3 := HZ.out.free 3
      have zf4 := HZ.out.free 4
      simp only [List.getElem?_toArray, List.getElem?_cons_zero, List.getElem?_cons_succ] at zc0 zc1 zc2 zc3 zc4
      go_wp2
      refine bodyPost_ret (v := .tuple #[.agg #[.int .i64 5, .int .i64 f', .string ⟨#[]⟩, .slice none 0 0, .slice A 1 cap], .bool true]) (by rw [results_cell_tmp Tryz.results31]; go_simp) rfl ?_
      exact owk_end HSS.out hRS hSD (by omega) hba hEh hhw hk' hm' HC.out HG.out HO.out HK.out HL.out rfl HCI.out (fun K2 R2 ha => (HWRD.out K2 R2 ha).2) HSZ.out _ _ _ _ _
set_option maxRecDepth 20000 in
set_option maxHeartbeats 16000000 in
theorem okey_step_6 {m R k : Nat} {s : ByteArray} (w : World) (hs : s.size ≤ 16777216) (hm : m ≤ 9) (hR1 : 0 < R) (hR2 : 1 < R) (hk : k ≤ s.size) (h : CurK m w R s k) (hSh : Shp w) (hLs : Lst w)
    (ih : ∀ (m1 k1 : Nat) (w1 : World), m1 < m → k1 ≤ s.size → CurK m1 w1 R s k1 → Shp w1 → Lst w1 → Calls Tryz.prog 31 #[.pointer (some ⟨R, 0, none⟩)] w1 (OwK m1 R s k1 w1)) {f : Int} (hwk : wk (s.extract k (k + wl s.data.toList k)).data.toList = (6, f, true)) (hm0 : 0 < m) :
    Calls Tryz.prog 31 #[.pointer (some ⟨R, 0, none⟩)] w (OwK m R s k w) := by
  have HSZ : Hid (0 < s.size) := Lib.hid (by
    rcases Nat.eq_zero_or_pos s.size with h0 | h0
    · have h1 : (s.extract k (k + wl s.data.toList k)).data.toList = [] := List.length_eq_zero_iff.1 (by rw [← size_txt, ByteArray.size_extract]; omega)
      have h2 : wk [] = (0, 0, false) := by decide
      rw [h1, h2] at hwk
      have h3 := (Prod.mk.inj (Prod.mk.inj hwk).2).2
      cases h3
    · exact h0)
  have hl : s.data.toList.length = s.size := by simp
  obtain ⟨S0, hSS⟩ : ∃ B, w.heap.size = B := ⟨_, rfl⟩
  have HSS := Lib.hid hSS
  have hRS : R < S0 := by have := Whole.lt h; omega
  obtain ⟨wa, hwa⟩ : ∃ wa, w.alloc (.cells #[.int .i64 0, .int .i64 0, .string ⟨#[]⟩, .slice none 0 0, .slice none 0 0] 27) = wa := ⟨_, rfl⟩
  have HWA := Lib.hid hwa
  have HCa : Hid (CurK m wa R s k) := Lib.hid (by rw [← hwa]; exact Whole.alloc h _)
  have HZa : Hid (Whole wa S0 27 #[.int .i64 0, .int .i64 0, .string ⟨#[]⟩, .slice none 0 0, .slice none 0 0]) := Lib.hid (by rw [← hwa, ← hSS]; exact Whole.made w _ _)
  have HGa : Hid (w.grownBy wa (some R)) := Lib.hid (by rw [← hwa]; exact gr_alloc (gr_refl _ _) _)
  have HLa := Lib.hid (hLs.grownR HGa.out hR2)
  have HSa := Lib.hid (hSh.grownR HGa.out hR1)
  have HIH := Lib.hid ih
  have HSw := Lib.hid hSh
  have HLw := Lib.hid hLs
  have hk1le : k + wl s.data.toList k ≤ s.size := by have := wl_le s.data.toList k (by omega); omega
  have HC0 := word_any R k s wa HCa.out hs hk
  unfold Worded at HC0
  obtain ⟨k1, hk1⟩ : ∃ z, k + wl s.data.toList k = z := ⟨_, rfl⟩
  rw [hk1] at HC0 hk1le hwk
  obtain ⟨tw, htw⟩ : ∃ z, s.extract k k1 = z := ⟨_, rfl⟩
  rw [htw] at HC0 hwk
  have HK1 := Lib.hid hk1
  have HWK0 := Lib.hid hwk
  have HWRD : Hid (∀ K2 R2, At s.data.toList k m K2 R2 → true = true ∧ ∃ t2 S2 ks2, K2 = .mk 6 f t2 S2 ks2) := Lib.hid (at_word (by rw [hk1, htw]; exact hwk))
  clear hwa h hSh hLs ih hSS htw hk1 hl hwk
  go_enter Tryz.func31, Tryz.ntmps31
  go_wp2_with fail
  try rw [HSS.out, HWA.out]
  refine HC0.mono ?_
  rintro e w1 ⟨rfl, hc, hg⟩
  clear HC0
  have HC1 := Lib.hid hc
  have HG1 := Lib.hid (gr_trans HGa.out hg)
  have HZ1 := Lib.hid (HZa.out.grown hg (fun e => by cases e; omega))
  have HL1 := Lib.hid (HLa.out.grownR hg hR2)
  have HS1 := Lib.hid (HSa.out.grownR hg hR1)
  clear hc hg
  go_wp2_with fail
  refine (wordkey_any (t := tw) w1 HL1.out).mono ?_
  rintro e w2 ⟨kd', f', o', hwk2, rfl, hb⟩
  obtain ⟨hwk4, hwk3⟩ := Prod.mk.inj (hwk2.symm.trans HWK0.out)
  obtain ⟨hwk5, hwk6⟩ := Prod.mk.inj hwk3
  subst hwk4
  subst hwk5
  subst hwk6
  have HC2 : Hid (CurK m w2 R s k1) := Lib.hid (Whole.below HC1.out hb (Whole.lt HC1.out))
  have HG2 := Lib.hid (gr_trans HG1.out (gr_below hb (some R)))
  have HZ2 := Lib.hid (HZ1.out.below hb HZ1.out.lt)
  have HS2 := Lib.hid (HS1.out.below hb (Nat.le_refl _))
  have HL2 := Lib.hid (HL1.out.below hb (Nat.le_refl _))
  clear hb hwk2
  obtain ⟨D, hD⟩ : ∃ D, w2.heap.size = D := ⟨_, rfl⟩
  have HDD := Lib.hid hD
  have hSD : S0 < D := by have := HZ2.out.lt; omega
  obtain ⟨w3, hw3⟩ : ∃ z, w2.alloc (.cells #[.int .i64 6, .int .i64 f', .string ⟨#[]⟩, .slice none 0 0, .slice none 0 0] 27) = z := ⟨_, rfl⟩
  have HW3 := Lib.hid hw3
  have HX3 : Hid (Whole w3 D 27 #[.int .i64 6, .int .i64 f', .string ⟨#[]⟩, .slice none 0 0, .slice none 0 0]) := Lib.hid (by rw [← hw3, ← hD]; exact Whole.made w2 _ _)
  have HC3 : Hid (CurK m w3 R s k1) := Lib.hid (by rw [← hw3]; exact Whole.alloc HC2.out _)
  have HG3 : Hid (w.grownBy w3 (some R)) := Lib.hid (by rw [← hw3]; exact gr_alloc HG2.out _)
  have HZ3 : Hid (Whole w3 S0 27 #[.int .i64 0, .int .i64 0, .string ⟨#[]⟩, .slice none 0 0, .slice none 0 0]) := Lib.hid (by rw [← hw3]; exact HZ2.out.alloc _)
  have HS3 : Hid (Shp w3) := Lib.hid (by rw [← hw3]; exact HS2.out.below (below_new w2 _) (Nat.le_refl _))
  have HL3 : Hid (Lst w3) := Lib.hid (by rw [← hw3]; exact HL2.out.below (below_new w2 _) (Nat.le_refl _))
  clear hD hw3
  go_upto_region 2 with fail
  rw [HDD.out, HW3.out]
  have hdm : decide (0 < m) = true := decide_eq_true hm0
  go_wp2_with fail
  refine (spendK R m k1 s w3 HC3.out hm).mono ?_
  rintro e w4 ⟨he, hc, hg⟩
  rw [hdm] at he
  subst he
  have HC4 := Lib.hid hc
  have HG4 := Lib.hid (gr_trans HG3.out hg)
  have HZ4 := Lib.hid (HZ3.out.grown hg (fun e => by cases e; omega))
  have HX4 := Lib.hid (HX3.out.grown hg (fun e => by cases e; omega))
  have HS4 := Lib.hid (HS3.out.grownR hg hR1)
  clear hc hg hdm
  have sz : 0 < w4.heap.size := HS4.out.1
  have s0 : w4.cell? ⟨0, 24, none⟩ = some (.bool false) := HS4.out.2 24 (by decide)
  have s1 : w4.cell? ⟨0, 25, none⟩ = some (.bool false) := HS4.out.2 25 (by decide)
  have s2 : w4.cell? ⟨0, 26, none⟩ = some (.bool false) := HS4.out.2 26 (by decide)
  have s3 : w4.cell? ⟨0, 27, none⟩ = some (.int .i64 2) := HS4.out.2 27 (by decide)
  have xc0 := HX4.out.cell 0
  simp only [List.getElem?_toArray, List.getElem?_cons_zero, List.getElem?_cons_succ] at xc0
  obtain ⟨D6, hD6⟩ : ∃ D, w4.heap.size = D := ⟨_, rfl⟩
  have HDD6 := Lib.hid hD6
  have hDD6 : D < D6 := by have := HX4.out.lt; omega
  obtain ⟨w5, hw5⟩ : ∃ z, w4.alloc (.cells #[.bool false, .bool false, .bool false, .int .i64 2] 99) = z := ⟨_, rfl⟩
  have HW5 := Lib.hid hw5
  have H65 : Hid (Whole w5 D6 99 #[.bool false, .bool false, .bool false, .int .i64 ((2 : Nat) : Int)]) := Lib.hid (by rw [← hw5, ← hD6]; exact Whole.made w4 _ _)
  have HC5 : Hid (CurK (m - 1) w5 R s k1) := Lib.hid (by rw [← hw5]; exact Whole.alloc HC4.out _)
  have HG5 : Hid (w.grownBy w5 (some R)) := Lib.hid (by rw [← hw5]; exact gr_alloc HG4.out _)
  have HZ5 : Hid (Whole w5 S0 27 #[.int .i64 0, .int .i64 0, .string ⟨#[]⟩, .slice none 0 0, .slice none 0 0]) := Lib.hid (by rw [← hw5]; exact HZ4.out.alloc _)
  have HX5 : Hid (Whole w5 D 27 #[.int .i64 6, .int .i64 f', .string ⟨#[]⟩, .slice none 0 0, .slice none 0 0]) := Lib.hid (by rw [← hw5]; exact HX4.out.alloc _)
  clear hD6 hw5
  go_upto_region 5 with fail
  rw [HDD6.out, HW5.out]
  clear sz s0 s1 s2 s3 xc0
  have yc1 := H65.out.cell 1
  have yc2 := H65.out.cell 2
  simp only [List.getElem?_toArray, List.getElem?_cons_zero, List.getElem?_cons_succ] at yc1 yc2
  have hRD : R < D := by omega
  clear yc1 yc2
  have yc1 := H65.out.cell 1
  have yc2 := H65.out.cell 2
  simp only [List.getElem?_toArray, List.getElem?_cons_zero, List.getElem?_cons_succ] at yc1 yc2
  go_upto_region 9 with fail
  clear yc1 yc2
  have HLf := Lib.hid (kw_leaf (lo := D + 1) (hi := w5.heap.size) (w := w5) (kd := 6) (f := f') (t := ⟨#[]⟩) (by decide) (S := []) (A := none) (n := 0) (c := 0) (by decide) (own_none _ _) (Nat.le_refl _))
  have HCI := Lib.hid (show CI s.data.toList k m 6 f' ⟨#[]⟩ [] [] 0 k1 (m - 1) by rw [← HK1.out]; exact ci_plain (by decide) (by decide) (by decide))
  obtain ⟨E, hE⟩ : ∃ E, w5.heap.size = E := ⟨_, rfl⟩
  have h6E : D6 < E := by have := H65.out.lt; omega
  rw [hE] at HLf
  have HB0 : Hid (OwL w R S0 D D6 E 2 s k m 6 f' ⟨#[]⟩ [] none 0 0 false false false 0 w5) := Lib.hid (owl_begin hE hk1le (by omega) HC5.out HG5.out HZ5.out HX5.out H65.out HLf.out HCI.out)
  have yc3 := H65.out.cell 3
  simp only [List.getElem?_toArray, List.getElem?_cons_zero, List.getElem?_cons_succ, Int.natCast_zero, Int.cast_ofNat_Int] at yc3
  clear hE
  go_wp2
  clear yc3
  go_loopw [7, 8, 45] (fun _ _ iv wr => ∃ i : Nat, i ≤ 2 ∧ iv = .int .i64 (i : Int) ∧ Hid (OwL w R S0 D D6 E 2 s k m 6 f' ⟨#[]⟩ [] none 0 0 false false false i wr)) (fun _ _ iv _ => 2 - (intOf iv).toNat)
  case atStart => exact ⟨0, Nat.zero_le _, by go_num, HB0⟩
  case round =>
    obtain ⟨i, hin, rfl, HREL⟩ := hrel
    obtain ⟨A, cap, base, h, k', m', ks, rs, hba, hEh, hhw, hbw, hk', hm', hA0, hOB, HC, HG, HZ, HX, H6, HO, HK, HL, HCI⟩ := HREL.out
    by_cases hlt : i < 2
    · have h5 : (i : Int) < 2 := by omega
      have hl : s.data.toList.length = s.size := by simp
      have hq : skp s.data.toList k' ≤ s.size := by have := skp_le (L := s.data.toList) (k := k') (by omega); omega
      have HT0 := take_anyK R k' s 32 wr HC.out hs hk'
      rw [show (if nextIs s.data.toList k' 32 = true then k' + 1 else k') = skp s.data.toList k' from rfl] at HT0
      obtain ⟨kq', hkq⟩ : ∃ q, skp s.data.toList k' = q := ⟨_, rfl⟩
      obtain ⟨zz, hz⟩ : ∃ z, nextIs s.data.toList k' 32 = z := ⟨_, rfl⟩
      rw [hkq] at HT0 hq
      rw [hz] at HT0
      have HT := Lib.hid HT0
      have HKQ' := Lib.hid hkq
      clear HT0 hkq hz hl
      have hmlE : i + 1 ≤ maxLen := by unfold maxLen; omega
      have hbyE : (i + 1) * 80 ≤ 140737488355328 := by omega
      go_wp2_with fail
      refine HT.out.mono ?_
      rintro e wt ⟨rfl, hc, hg⟩
      have hgt := gr_trans HG.out hg
      have HIC := Lib.hid (HIH.out m' kq' wt hm' hq hc (HSw.out.grownR hgt hR1) (HLw.out.grownR hgt hR2))
      have HGT := Lib.hid hg
      clear hc hg hgt
      go_wp2_with fail
      refine HIC.out.mono ?_
      rintro e w6' ⟨K6, ⟨a0, a1, a2, ⟨a3, a4, a5⟩, ⟨a6, a7, a8⟩⟩, o6, k6, m6, rfl, hc6, hk6, hm6, hg6, hka6, hcomp6, -⟩
      have HG16 := Lib.hid (gr_trans HGT.out hg6)
      have HC6' := Lib.hid hc6
      have HKA6 := Lib.hid (hka6.widen HGT.out.size (Nat.le_refl _))
      have HCO6 := Lib.hid hcomp6
      have hm6m : m6 < m := by omega
      clear hc6 hg6 hka6 hcomp6
      obtain ⟨base2, hO6, hb1, hb2, hb3⟩ := own_base2 HO.out hA0 HG16.out (by omega) hba (by omega)
      have HO6 := Lib.hid hO6
      clear hO6
      obtain ⟨D7, hD7⟩ : ∃ D, w6'.heap.size = D := ⟨_, rfl⟩
      have HDD7 := Lib.hid hD7
      obtain ⟨w7', hw7'⟩ : ∃ z, w6'.alloc (.cells #[.int .i64 a0, .int .i64 a1, .string a2, .slice a3 a4 a5, .slice a6 a7 a8] 27) = z := ⟨_, rfl⟩
      have HW7' := Lib.hid hw7'
      have HZ7' : Hid (Whole w7' S0 27 #[.int .i64 0, .int .i64 0, .string ⟨#[]⟩, .slice none 0 0, .slice none 0 0]) := Lib.hid (by rw [← hw7']; exact (HZ.out.grown HG16.out (fun e => by cases e; omega)).alloc _)
      have HX7' := Lib.hid (show Whole w7' D 27 #[.int .i64 6, .int .i64 f', .string ⟨#[]⟩, .slice none 0 0, .slice A i cap] by rw [← hw7']; exact (HX.out.grown HG16.out (fun e => by cases e; omega)).alloc _)
      have HR7' : Hid (Whole w7' D7 27 #[.int .i64 a0, .int .i64 a1, .string a2, .slice a3 a4 a5, .slice a6 a7 a8]) := Lib.hid (by rw [← hw7', ← hD7]; exact Whole.made w6' _ _)
      have HO7' : Hid (ROwn keyR w7' base2 (.slice A i cap) rs) := Lib.hid (by rw [← hw7']; exact HO6.out.alloc _)
      have HG7' : Hid (w.grownBy w7' (some R)) := Lib.hid (by rw [← hw7']; exact gr_alloc (gr_trans HG.out HG16.out) _)
      have HC7' : Hid (CurK m6 w7' R s k6) := Lib.hid (by rw [← hw7']; exact Whole.alloc HC6'.out _)
      have hb27 : base2 ≤ w7'.heap.size := by rw [← hw7']; simp; omega
      clear hD7 hw7'
      go_upto_region 13 with fail
      rw [HDD7.out, HW7'.out]
      cases o6 with
      | false =>
        have zc0 := HZ7'.out.cell 0
        have zc1 := HZ7'.out.cell 1
        have zc2 := HZ7'.out.cell 2
        have zc3 := HZ7'.out.cell 3
        have zc4 := HZ7'.out.cell 4
        have zf0 := HZ7'.out.free 0
        have zf1 := HZ7'.out.free 1
        have zf2 := HZ7'.out.free 2
        have zf3 := HZ7'.out.free 3
        have zf4 := HZ7'.out.free 4
        simp only [List.getElem?_toArray, List.getElem?_cons_zero, List.getElem?_cons_succ] at zc0 zc1 zc2 zc3 zc4
        go_wp2
        refine bodyPost_ret (v := .tuple #[.agg #[.int .i64 0, .int .i64 0, .string ⟨#[]⟩, .slice none 0 0, .slice none 0 0], .bool false]) (by rw [results_cell_tmp Tryz.results31]; go_simp) rfl ?_
        exact owk_fail HSS.out hRS HZ7'.out.lt HC7'.out hk6 (by omega) HG7'.out (fun K a b => ci_stop HCI.out (show i < nOf 6 by show i < 2; omega) (by rw [HKQ'.out]; exact HCO6.out) (fun K2 R2 ha => (HWRD.out K2 R2 ha).2)) _ _ _ _ _
      | true =>
        obtain ⟨i0, hi, hq0, hq1, hq2⟩ := info_parts Tryz.infoKey
        have HLN : Hid (rs.length = i) := Lib.hid HO.out.len.1.symm
        have xc4 := HX7'.out.cell 4
        have rc0 := HR7'.out.cell 0
        have rc1 := HR7'.out.cell 1
        have rc2 := HR7'.out.cell 2
        have rc3 := HR7'.out.cell 3
        have rc4 := HR7'.out.cell 4
        simp only [List.getElem?_toArray, List.getElem?_cons_zero, List.getElem?_cons_succ] at rc0 rc1 rc2 rc3 rc4
        simp only [List.getElem?_toArray, List.getElem?_cons_zero, List.getElem?_cons_succ] at xc4
        go_wp2_with (at_builtin; refine wpList_append_rows_at rfl (.tmp 60) (.tmp 62) 25 rfl keyR base2 i0 _ 80 Tryz.underlying25 hi hq0 hq1 hq2 rfl (by decide) _ rs (a0, a1, a2, (a3, a4, a5), (a6, a7, a8)) i HLN.out rfl (HO7'.out.alloc _) w7'.heap.size 1 rfl (RAt.made keyR w7' [(a0, a1, a2, (a3, a4, a5), (a6, a7, a8))] _ rfl) hmlE hbyE (by simp; omega) ?_)
        intro v' w9 hown hgrow hpl
        obtain ⟨A9, N9, c9, rfl⟩ := hown.val
        have hN9 : N9 = i + 1 := by
          have := hown.len.1
          rw [List.length_append, HLN.out] at this
          exact this
        subst hN9
        have HPL := Lib.hid hpl
        have HOW := Lib.hid hown
        have HGW := Lib.hid hgrow
        have hx9 := (HX7'.out.alloc (.cells #[.int .i64 a0, .int .i64 a1, .string a2, .slice a3 a4 a5, .slice a6 a7 a8] 27)).grown hgrow (fun e => by have := (World.ownsRow.lt HO6.out D e.symm).1; omega)
        have xc94 := hx9.cell 4
        have xf94 := hx9.free 4
        simp only [List.getElem?_toArray, List.getElem?_cons_zero, List.getElem?_cons_succ] at xc94
        clear hown hgrow hpl hx9 xc4 rc0 rc1 rc2 rc3 rc4
        go_wp2
        go_roundw
        case rel => exact ⟨i + 1, by omega, by go_num, Lib.hid (owl_next (k' := k') (m' := m') hRS hSD hDD6 h6E HSS.out hlt (by omega) hba hEh hhw hOB HG.out HZ.out HX.out H6.out HO.out HK.out HL.out HG16.out HC6'.out hk6 hm6m HKA6.out HO6.out hb1 hb2 hb3 (by rw [HW7'.out]; exact HGW.out) HOW.out (HPL.out.imp id (fun e => ⟨_, e, by rw [← HW7'.out]; simp; omega⟩)) (ci_next HCI.out (show i < nOf 6 by show i < 2; omega) (by rw [HKQ'.out]; exact HCO6.out)))⟩
        case measure => simp [intOf]; omega
    · have h5 : ¬ (i : Int) < 2 := by omega
      obtain rfl : i = 2 := by omega
      have xc0 := HX.out.cell 0
      have xc1 := HX.out.cell 1
      have xc2 := HX.out.cell 2
      have xc3 := HX.out.cell 3
      have xc4 := HX.out.cell 4
      simp only [List.getElem?_toArray, List.getElem?_cons_zero, List.getElem?_cons_succ] at xc0 xc1 xc2 xc3 xc4
      have zc0 := HZ.out.cell 0
      have zc1 := HZ.out.cell 1
      have zc2 := HZ.out.cell 2
      have zc3 := HZ.out.cell 3
      have zc4 := HZ.out.cell 4
      have zf0 := HZ.out.free 0
      have zf1 := HZ.out.free 1
      have zf2 := HZ.out.free 2
      have zf3 := HZ.out.free 3
      have zf4 := HZ.out.free 4
      simp only [List.getElem?_toArray, List.getElem?_cons_zero, List.getElem?_cons_succ] at zc0 zc1 zc2 zc3 zc4
      go_wp2
      refine bodyPost_ret (v := .tuple #[.agg #[.int .i64 6, .int .i64 f', .string ⟨#[]⟩, .slice none 0 0, .slice A 2 cap], .bool true]) (by rw [results_cell_tmp Tryz.results31]; go_simp) rfl ?_
      exact owk_end HSS.out hRS hSD (by omega) hba hEh hhw hk' hm' HC.out HG.out HO.out HK.out HL.out rfl HCI.out (fun K2 R2 ha => (HWRD.out K2 R2 ha).2) HSZ.out _ _ _ _ _
set_option maxRecDepth 20000 in
set_option maxHeartbeats 16000000 in
theorem okey_step_7 {m R k : Nat} {s : ByteArray} (w : World) (hs : s.size ≤ 16777216) (hm : m ≤ 9) (hR1 : 0 < R) (hR2 : 1 < R) (hk : k ≤ s.size) (h : CurK m w R s k) (hSh : Shp w) (hLs : Lst w)
    (ih : ∀ (m1 k1 : Nat) (w1 : World), m1 < m → k1 ≤ s.size → CurK m1 w1 R s k1 → Shp w1 → Lst w1 → Calls Tryz.prog 31 #[.pointer (some ⟨R, 0, none⟩)] w1 (OwK m1 R s k1 w1)) {f : Int} (hwk : wk (s.extract k (k + wl s.data.toList k)).data.toList = (7, f, true)) (hm0 : 0 < m) :
    Calls Tryz.prog 31 #[.pointer (some ⟨R, 0, none⟩)] w (OwK m R s k w) := by
  have HSZ : Hid (0 < s.size) := Lib.hid (by
    rcases Nat.eq_zero_or_pos s.size with h0 | h0
    · have h1 : (s.extract k (k + wl s.data.toList k)).data.toList = [] := List.length_eq_zero_iff.1 (by rw [← size_txt, ByteArray.size_extract]; omega)
      have h2 : wk [] = (0, 0, false) := by decide
      rw [h1, h2] at hwk
      have h3 := (Prod.mk.inj (Prod.mk.inj hwk).2).2
      cases h3
    · exact h0)
  have hl : s.data.toList.length = s.size := by simp
  obtain ⟨S0, hSS⟩ : ∃ B, w.heap.size = B := ⟨_, rfl⟩
  have HSS := Lib.hid hSS
  have hRS : R < S0 := by have := Whole.lt h; omega
  obtain ⟨wa, hwa⟩ : ∃ wa, w.alloc (.cells #[.int .i64 0, .int .i64 0, .string ⟨#[]⟩, .slice none 0 0, .slice none 0 0] 27) = wa := ⟨_, rfl⟩
  have HWA := Lib.hid hwa
  have HCa : Hid (CurK m wa R s k) := Lib.hid (by rw [← hwa]; exact Whole.alloc h _)
  have HZa : Hid (Whole wa S0 27 #[.int .i64 0, .int .i64 0, .string ⟨#[]⟩, .slice none 0 0, .slice none 0 0]) := Lib.hid (by rw [← hwa, ← hSS]; exact Whole.made w _ _)
  have HGa : Hid (w.grownBy wa (some R)) := Lib.hid (by rw [← hwa]; exact gr_alloc (gr_refl _ _) _)
  have HLa := Lib.hid (hLs.grownR HGa.out hR2)
  have HSa := Lib.hid (hSh.grownR HGa.out hR1)
  have HIH := Lib.hid ih
  have HSw := Lib.hid hSh
  have HLw := Lib.hid hLs
  have hk1le : k + wl s.data.toList k ≤ s.size := by have := wl_le s.data.toList k (by omega); omega
  have HC0 := word_any R k s wa HCa.out hs hk
  unfold Worded at HC0
  obtain ⟨k1, hk1⟩ : ∃ z, k + wl s.data.toList k = z := ⟨_, rfl⟩
  rw [hk1] at HC0 hk1le hwk
  obtain ⟨tw, htw⟩ : ∃ z, s.extract k k1 = z := ⟨_, rfl⟩
  rw [htw] at HC0 hwk
  have HK1 := Lib.hid hk1
  have HWK0 := Lib.hid hwk
  have HWRD : Hid (∀ K2 R2, At s.data.toList k m K2 R2 → true = true ∧ ∃ t2 S2 ks2, K2 = .mk 7 f t2 S2 ks2) := Lib.hid (at_word (by rw [hk1, htw]; exact hwk))
  clear hwa h hSh hLs ih hSS htw hk1 hl hwk
  go_enter Tryz.func31, Tryz.ntmps31
  go_wp2_with fail
  try rw [HSS.out, HWA.out]
  refine HC0.mono ?_
  rintro e w1 ⟨rfl, hc, hg⟩
  clear HC0
  have HC1 := Lib.hid hc
  have HG1 := Lib.hid (gr_trans HGa.out hg)
  have HZ1 := Lib.hid (HZa.out.grown hg (fun e => by cases e; omega))
  have HL1 := Lib.hid (HLa.out.grownR hg hR2)
  have HS1 := Lib.hid (HSa.out.grownR hg hR1)
  clear hc hg
  go_wp2_with fail
  refine (wordkey_any (t := tw) w1 HL1.out).mono ?_
  rintro e w2 ⟨kd', f', o', hwk2, rfl, hb⟩
  obtain ⟨hwk4, hwk3⟩ := Prod.mk.inj (hwk2.symm.trans HWK0.out)
  obtain ⟨hwk5, hwk6⟩ := Prod.mk.inj hwk3
  subst hwk4
  subst hwk5
  subst hwk6
  have HC2 : Hid (CurK m w2 R s k1) := Lib.hid (Whole.below HC1.out hb (Whole.lt HC1.out))
  have HG2 := Lib.hid (gr_trans HG1.out (gr_below hb (some R)))
  have HZ2 := Lib.hid (HZ1.out.below hb HZ1.out.lt)
  have HS2 := Lib.hid (HS1.out.below hb (Nat.le_refl _))
  have HL2 := Lib.hid (HL1.out.below hb (Nat.le_refl _))
  clear hb hwk2
  obtain ⟨D, hD⟩ : ∃ D, w2.heap.size = D := ⟨_, rfl⟩
  have HDD := Lib.hid hD
  have hSD : S0 < D := by have := HZ2.out.lt; omega
  obtain ⟨w3, hw3⟩ : ∃ z, w2.alloc (.cells #[.int .i64 7, .int .i64 f', .string ⟨#[]⟩, .slice none 0 0, .slice none 0 0] 27) = z := ⟨_, rfl⟩
  have HW3 := Lib.hid hw3
  have HX3 : Hid (Whole w3 D 27 #[.int .i64 7, .int .i64 f', .string ⟨#[]⟩, .slice none 0 0, .slice none 0 0]) := Lib.hid (by rw [← hw3, ← hD]; exact Whole.made w2 _ _)
  have HC3 : Hid (CurK m w3 R s k1) := Lib.hid (by rw [← hw3]; exact Whole.alloc HC2.out _)
  have HG3 : Hid (w.grownBy w3 (some R)) := Lib.hid (by rw [← hw3]; exact gr_alloc HG2.out _)
  have HZ3 : Hid (Whole w3 S0 27 #[.int .i64 0, .int .i64 0, .string ⟨#[]⟩, .slice none 0 0, .slice none 0 0]) := Lib.hid (by rw [← hw3]; exact HZ2.out.alloc _)
  have HS3 : Hid (Shp w3) := Lib.hid (by rw [← hw3]; exact HS2.out.below (below_new w2 _) (Nat.le_refl _))
  have HL3 : Hid (Lst w3) := Lib.hid (by rw [← hw3]; exact HL2.out.below (below_new w2 _) (Nat.le_refl _))
  clear hD hw3
  go_upto_region 2 with fail
  rw [HDD.out, HW3.out]
  have hdm : decide (0 < m) = true := decide_eq_true hm0
  go_wp2_with fail
  refine (spendK R m k1 s w3 HC3.out hm).mono ?_
  rintro e w4 ⟨he, hc, hg⟩
  rw [hdm] at he
  subst he
  have HC4 := Lib.hid hc
  have HG4 := Lib.hid (gr_trans HG3.out hg)
  have HZ4 := Lib.hid (HZ3.out.grown hg (fun e => by cases e; omega))
  have HX4 := Lib.hid (HX3.out.grown hg (fun e => by cases e; omega))
  have HS4 := Lib.hid (HS3.out.grownR hg hR1)
  clear hc hg hdm
  have sz : 0 < w4.heap.size := HS4.out.1
  have s0 : w4.cell? ⟨0, 28, none⟩ = some (.bool false) := HS4.out.2 28 (by decide)
  have s1 : w4.cell? ⟨0, 29, none⟩ = some (.bool false) := HS4.out.2 29 (by decide)
  have s2 : w4.cell? ⟨0, 30, none⟩ = some (.bool false) := HS4.out.2 30 (by decide)
  have s3 : w4.cell? ⟨0, 31, none⟩ = some (.int .i64 2) := HS4.out.2 31 (by decide)
  have xc0 := HX4.out.cell 0
  simp only [List.getElem?_toArray, List.getElem?_cons_zero, List.getElem?_cons_succ] at xc0
  obtain ⟨D6, hD6⟩ : ∃ D, w4.heap.size = D := ⟨_, rfl⟩
  have HDD6 := Lib.hid hD6
  have hDD6 : D < D6 := by have := HX4.out.lt; omega
  obtain ⟨w5, hw5⟩ : ∃ z, w4.alloc (.cells #[.bool false, .bool false, .bool false, .int .i64 2] 99) = z := ⟨_, rfl⟩
  have HW5 := Lib.hid hw5
  have H65 : Hid (Whole w5 D6 99 #[.bool false, .bool false, .bool false, .int .i64 ((2 : Nat) : Int)]) := Lib.hid (by rw [← hw5, ← hD6]; exact Whole.made w4 _ _)
  have HC5 : Hid (CurK (m - 1) w5 R s k1) := Lib.hid (by rw [← hw5]; exact Whole.alloc HC4.out _)
  have HG5 : Hid (w.grownBy w5 (some R)) := Lib.hid (by rw [← hw5]; exact gr_alloc HG4.out _)
  have HZ5 : Hid (Whole w5 S0 27 #[.int .i64 0, .int .i64 0, .string ⟨#[]⟩, .slice none 0 0, .slice none 0 0]) := Lib.hid (by rw [← hw5]; exact HZ4.out.alloc _)
  have HX5 : Hid (Whole w5 D 27 #[.int .i64 7, .int .i64 f', .string ⟨#[]⟩, .slice none 0 0, .slice none 0 0]) := Lib.hid (by rw [← hw5]; exact HX4.out.alloc _)
  clear hD6 hw5
  go_upto_region 5 with fail
  rw [HDD6.out, HW5.out]
  clear sz s0 s1 s2 s3 xc0
  have yc1 := H65.out.cell 1
  have yc2 := H65.out.cell 2
  simp only [List.getElem?_toArray, List.getElem?_cons_zero, List.getElem?_cons_succ] at yc1 yc2
  have hRD : R < D := by omega
  clear yc1 yc2
  have yc1 := H65.out.cell 1
  have yc2 := H65.out.cell 2
  simp only [List.getElem?_toArray, List.getElem?_cons_zero, List.getElem?_cons_succ] at yc1 yc2
  go_upto_region 9 with fail
  clear yc1 yc2
  have HLf := Lib.hid (kw_leaf (lo := D + 1) (hi := w5.heap.size) (w := w5) (kd := 7) (f := f') (t := ⟨#[]⟩) (by decide) (S := []) (A := none) (n := 0) (c := 0) (by decide) (own_none _ _) (Nat.le_refl _))
  have HCI := Lib.hid (show CI s.data.toList k m 7 f' ⟨#[]⟩ [] [] 0 k1 (m - 1) by rw [← HK1.out]; exact ci_plain (by decide) (by decide) (by decide))
  obtain ⟨E, hE⟩ : ∃ E, w5.heap.size = E := ⟨_, rfl⟩
  have h6E : D6 < E := by have := H65.out.lt; omega
  rw [hE] at HLf
  have HB0 : Hid (OwL w R S0 D D6 E 2 s k m 7 f' ⟨#[]⟩ [] none 0 0 false false false 0 w5) := Lib.hid (owl_begin hE hk1le (by omega) HC5.out HG5.out HZ5.out HX5.out H65.out HLf.out HCI.out)
  have yc3 := H65.out.cell 3
  simp only [List.getElem?_toArray, List.getElem?_cons_zero, List.getElem?_cons_succ, Int.natCast_zero, Int.cast_ofNat_Int] at yc3
  clear hE
  go_wp2
  clear yc3
  go_loopw [7, 8, 45] (fun _ _ iv wr => ∃ i : Nat, i ≤ 2 ∧ iv = .int .i64 (i : Int) ∧ Hid (OwL w R S0 D D6 E 2 s k m 7 f' ⟨#[]⟩ [] none 0 0 false false false i wr)) (fun _ _ iv _ => 2 - (intOf iv).toNat)
  case atStart => exact ⟨0, Nat.zero_le _, by go_num, HB0⟩
  case round =>
    obtain ⟨i, hin, rfl, HREL⟩ := hrel
    obtain ⟨A, cap, base, h, k', m', ks, rs, hba, hEh, hhw, hbw, hk', hm', hA0, hOB, HC, HG, HZ, HX, H6, HO, HK, HL, HCI⟩ := HREL.out
    by_cases hlt : i < 2
    · have h5 : (i : Int) < 2 := by omega
      have hl : s.data.toList.length = s.size := by simp
      have hq : skp s.data.toList k' ≤ s.size := by have := skp_le (L := s.data.toList) (k := k') (by omega); omega
      have HT0 := take_anyK R k' s 32 wr HC.out hs hk'
      rw [show (if nextIs s.data.toList k' 32 = true then k' + 1 else k') = skp s.data.toList k' from rfl] at HT0
      obtain ⟨kq', hkq⟩ : ∃ q, skp s.data.toList k' = q := ⟨_, rfl⟩
      obtain ⟨zz, hz⟩ : ∃ z, nextIs s.data.toList k' 32 = z := ⟨_, rfl⟩
      rw [hkq] at HT0 hq
      rw [hz] at HT0
      have HT := Lib.hid HT0
      have HKQ' := Lib.hid hkq
      clear HT0 hkq hz hl
      have hmlE : i + 1 ≤ maxLen := by unfold maxLen; omega
      have hbyE : (i + 1) * 80 ≤ 140737488355328 := by omega
      go_wp2_with fail
      refine HT.out.mono ?_
      rintro e wt ⟨rfl, hc, hg⟩
      have hgt := gr_trans HG.out hg
      have HIC := Lib.hid (HIH.out m' kq' wt hm' hq hc (HSw.out.grownR hgt hR1) (HLw.out.grownR hgt hR2))
      have HGT := Lib.hid hg
      clear hc hg hgt
      go_wp2_with fail
      refine HIC.out.mono ?_
      rintro e w6' ⟨K6, ⟨a0, a1, a2, ⟨a3, a4, a5⟩, ⟨a6, a7, a8⟩⟩, o6, k6, m6, rfl, hc6, hk6, hm6, hg6, hka6, hcomp6, -⟩
      have HG16 := Lib.hid (gr_trans HGT.out hg6)
      have HC6' := Lib.hid hc6
      have HKA6 := Lib.hid (hka6.widen HGT.out.size (Nat.le_refl _))
      have HCO6 := Lib.hid hcomp6
      have hm6m : m6 < m := by omega
      clear hc6 hg6 hka6 hcomp6
      obtain ⟨base2, hO6, hb1, hb2, hb3⟩ := own_base2 HO.out hA0 HG16.out (by omega) hba (by omega)
      have HO6 := Lib.hid hO6
      clear hO6
      obtain ⟨D7, hD7⟩ : ∃ D, w6'.heap.size = D := ⟨_, rfl⟩
      have HDD7 := Lib.hid hD7
      obtain ⟨w7', hw7'⟩ : ∃ z, w6'.alloc (.cells #[.int .i64 a0, .int .i64 a1, .string a2, .slice a3 a4 a5, .slice a6 a7 a8] 27) = z := ⟨_, rfl⟩
      have HW7' := Lib.hid hw7'
      have HZ7' : Hid (Whole w7' S0 27 #[.int .i64 0, .int .i64 0, .string ⟨#[]⟩, .slice none 0 0, .slice none 0 0]) := Lib.hid (by rw [← hw7']; exact (HZ.out.grown HG16.out (fun e => by cases e; omega)).alloc _)
      have HX7' := Lib.hid (show Whole w7' D 27 #[.int .i64 7, .int .i64 f', .string ⟨#[]⟩, .slice none 0 0, .slice A i cap] by rw [← hw7']; exact (HX.out.grown HG16.out (fun e => by cases e; omega)).alloc _)
      have HR7' : Hid (Whole w7' D7 27 #[.int .i64 a0, .int .i64 a1, .string a2, .slice a3 a4 a5, .slice a6 a7 a8]) := Lib.hid (by rw [← hw7', ← hD7]; exact Whole.made w6' _ _)
      have HO7' : Hid (ROwn keyR w7' base2 (.slice A i cap) rs) := Lib.hid (by rw [← hw7']; exact HO6.out.alloc _)
      have HG7' : Hid (w.grownBy w7' (some R)) := Lib.hid (by rw [← hw7']; exact gr_alloc (gr_trans HG.out HG16.out) _)
      have HC7' : Hid (CurK m6 w7' R s k6) := Lib.hid (by rw [← hw7']; exact Whole.alloc HC6'.out _)
      have hb27 : base2 ≤ w7'.heap.size := by rw [← hw7']; simp; omega
      clear hD7 hw7'
      go_upto_region 13 with fail
      rw [HDD7.out, HW7'.out]
      cases o6 with
      | false =>
        have zc0 := HZ7'.out.cell 0
        have zc1 := HZ7'.out.cell 1
        have zc2 := HZ7'.out.cell 2
        have zc3 := HZ7'.out.cell 3
        have zc4 := HZ7'.out.cell 4
        have zf0 := HZ7'.out.free 0
        have zf1 := HZ7'.out.free 1
        have zf2 := HZ7'.out.free 2
        have zf3 := HZ7'.out.free 3
        have zf4 := HZ7'.out.free 4
        simp only [List.getElem?_toArray, List.getElem?_cons_zero, List.getElem?_cons_succ] at zc0 zc1 zc2 zc3 zc4
        go_wp2
        refine bodyPost_ret (v := .tuple #[.agg #[.int .i64 0, .int .i64 0, .string ⟨#[]⟩, .slice none 0 0, .slice none 0 0], .bool false]) (by rw [results_cell_tmp Tryz.results31]; go_simp) rfl ?_
        exact owk_fail HSS.out hRS HZ7'.out.lt HC7'.out hk6 (by omega) HG7'.out (fun K a b => ci_stop HCI.out (show i < nOf 7 by show i < 2; omega) (by rw [HKQ'.out]; exact HCO6.out) (fun K2 R2 ha => (HWRD.out K2 R2 ha).2)) _ _ _ _ _
      | true =>
        obtain ⟨i0, hi, hq0, hq1, hq2⟩ := info_parts Tryz.infoKey
        have HLN : Hid (rs.length = i) := Lib.hid HO.out.len.1.symm
        have xc4 := HX7'.out.cell 4
        have rc0 := HR7'.out.cell 0
        have rc1 := HR7'.out.cell 1
        have rc2 := HR7'.out.cell 2
        have rc3 := HR7'.out.cell 3
        have rc4 := HR7'.out.cell 4
        simp only [List.getElem?_toArray, List.getElem?_cons_zero, List.getElem?_cons_succ] at rc0 rc1 rc2 rc3 rc4
        simp only [List.getElem?_toArray, List.getElem?_cons_zero, List.getElem?_cons_succ] at xc4
        go_wp2_with (at_builtin; refine wpList_append_rows_at rfl (.tmp 60) (.tmp 62) 25 rfl keyR base2 i0 _ 80 Tryz.underlying25 hi hq0 hq1 hq2 rfl (by decide) _ rs (a0, a1, a2, (a3, a4, a5), (a6, a7, a8)) i HLN.out rfl (HO7'.out.alloc _) w7'.heap.size 1 rfl (RAt.made keyR w7' [(a0, a1, a2, (a3, a4, a5), (a6, a7, a8))] _ rfl) hmlE hbyE (by simp; omega) ?_)
        intro v' w9 hown hgrow hpl
        obtain ⟨A9, N9, c9, rfl⟩ := hown.val
        have hN9 : N9 = i + 1 := by
          have := hown.len.1
          rw [List.length_append, HLN.out] at this
          exact this
        subst hN9
        have HPL := Lib.hid hpl
        have HOW := Lib.hid hown
        have HGW := Lib.hid hgrow
        have hx9 := (HX7'.out.alloc (.cells #[.int .i64 a0, .int .i64 a1, .string a2, .slice a3 a4 a5, .slice a6 a7 a8] 27)).grown hgrow (fun e => by have := (World.ownsRow.lt HO6.out D e.symm).1; omega)
        have xc94 := hx9.cell 4
        have xf94 := hx9.free 4
        simp only [List.getElem?_toArray, List.getElem?_cons_zero, List.getElem?_cons_succ] at xc94
        clear hown hgrow hpl hx9 xc4 rc0 rc1 rc2 rc3 rc4
        go_wp2
        go_roundw
        case rel => exact ⟨i + 1, by omega, by go_num, Lib.hid (owl_next (k' := k') (m' := m') hRS hSD hDD6 h6E HSS.out hlt (by omega) hba hEh hhw hOB HG.out HZ.out HX.out H6.out HO.out HK.out HL.out HG16.out HC6'.out hk6 hm6m HKA6.out HO6.out hb1 hb2 hb3 (by rw [HW7'.out]; exact HGW.out) HOW.out (HPL.out.imp id (fun e => ⟨_, e, by rw [← HW7'.out]; simp; omega⟩)) (ci_next HCI.out (show i < nOf 7 by show i < 2; omega) (by rw [HKQ'.out]; exact HCO6.out)))⟩
        case measure => simp [intOf]; omega
    · have h5 : ¬ (i : Int) < 2 := by omega
      obtain rfl : i = 2 := by omega
      have xc0 := HX.out.cell 0
      have xc1 := HX.out.cell 1
      have xc2 := HX.out.cell 2
      have xc3 := HX.out.cell 3
      have xc4 := HX.out.cell 4
      simp only [List.getElem?_toArray, List.getElem?_cons_zero, List.getElem?_cons_succ] at xc0 xc1 xc2 xc3 xc4
      have zc0 := HZ.out.cell 0
      have zc1 := HZ.out.cell 1
      have zc2 := HZ.out.cell 2
      have zc3 := HZ.out.cell 3
      have zc4 := HZ.out.cell 4
      have zf0 := HZ.out.free 0
      have zf1 := HZ.out.free 1
      have zf2 := HZ.out.free 2
      have zf3 := HZ.out.free 3
      have zf4 := HZ.out.free 4
      simp only [List.getElem?_toArray, List.getElem?_cons_zero, List.getElem?_cons_succ] at zc0 zc1 zc2 zc3 zc4
      go_wp2
      refine bodyPost_ret (v := .tuple #[.agg #[.int .i64 7, .int .i64 f', .string ⟨#[]⟩, .slice none 0 0, .slice A 2 cap], .bool true]) (by rw [results_cell_tmp Tryz.results31]; go_simp) rfl ?_
      exact owk_end HSS.out hRS hSD (by omega) hba hEh hhw hk' hm' HC.out HG.out HO.out HK.out HL.out rfl HCI.out (fun K2 R2 ha => (HWRD.out K2 R2 ha).2) HSZ.out _ _ _ _ _
end Go.Proofs.YtnfigpknejmkmaaGreatDoor
namespace Go.Proofs.YtnfigpknejmkmaaGreatDoor
open Go.RowKit
set_option linter.unusedVariables false
set_option linter.unusedSimpArgs false

theorem okey {R : Nat} {s : ByteArray} (hs : s.size ≤ 16777216) (hR1 : 0 < R) (hR2 : 1 < R) : ∀ (n m k : Nat) (w : World), m ≤ n → m ≤ 9 → k ≤ s.size → CurK m w R s k → Shp w → Lst w →
    Calls Tryz.prog 31 #[.pointer (some ⟨R, 0, none⟩)] w (OwK m R s k w)
  | n, m, k, w, hn, hm, hk, h, hSh, hLs => by
    have ih : ∀ (m1 k1 : Nat) (w1 : World), m1 < m → k1 ≤ s.size → CurK m1 w1 R s k1 → Shp w1 → Lst w1 → Calls Tryz.prog 31 #[.pointer (some ⟨R, 0, none⟩)] w1 (OwK m1 R s k1 w1) := fun m1 k1 w1 h1 h2 h3 h4 h5 => by
      match n, hn with
      | 0, hn => omega
      | n + 1, hn => exact okey hs hR1 hR2 n m1 k1 w1 (by omega) (by omega) h2 h3 h4 h5
    obtain ⟨⟨kd, f, o⟩, hwk⟩ : ∃ z, wk (s.extract k (k + wl s.data.toList k)).data.toList = z := ⟨_, rfl⟩
    cases o with
    | false => exact okey_step_no w hs hm hR1 hR2 hk h hSh hLs ih hwk
    | true =>
      by_cases hm0 : m = 0
      · subst hm0
        exact okey_step_nos w hs hm hR1 hR2 hk h hSh hLs ih hwk
      · have hm1 : 0 < m := by omega
        rcases wk_kd hwk with rfl | rfl | rfl | rfl | rfl | rfl | rfl | rfl
        · exact okey_step_0 w hs hm hR1 hR2 hk h hSh hLs ih hwk hm1
        · exact okey_step_1 w hs hm hR1 hR2 hk h hSh hLs ih hwk hm1
        · exact okey_step_2 w hs hm hR1 hR2 hk h hSh hLs ih hwk hm1
        · exact okey_step_3 w hs hm hR1 hR2 hk h hSh hLs ih hwk hm1
        · exact okey_step_4 w hs hm hR1 hR2 hk h hSh hLs ih hwk hm1
        · exact okey_step_5 w hs hm hR1 hR2 hk h hSh hLs ih hwk hm1
        · exact okey_step_6 w hs hm hR1 hR2 hk h hSh hLs ih hwk hm1
        · exact okey_step_7 w hs hm hR1 hR2 hk h hSh hLs ih hwk hm1
/-- What KeyParse leaves. -/
def PKo (w : World) (t : ByteArray) (e : Ending) (w' : World) : Prop :=
  ∃ (K : KT) (r : KR) (o : Bool), e = .returned (.tuple #[kval r, .bool o]) ∧ KW w.heap.size w'.heap.size w' K (kval r) ∧ Below w.heap.size w w' ∧ (o = true → keyB K = true ∧ fmtT K = t.data.toList) ∧ (∀ K2, keyB K2 = true → fmtT K2 = t.data.toList → o = true ∧ K = K2) ∧ (o = false → K = .mk 0 0 ⟨#[]⟩ [] [])
theorem po_fail {w w' : World} {t : ByteArray} {S0 : Nat} (hSS : w.heap.size = S0) (hb : Below w.heap.size w w') (hc : ∀ K2, keyB K2 = true → fmtT K2 ≠ t.data.toList) (a0 a1 a2 a3 a4 : Value) :
    PKo w t (.returned (.tuple #[kval (0, 0, ⟨#[]⟩, (none, 0, 0), (none, 0, 0)), .bool false])) (st5 w' S0 a0 a1 a2 a3 a4) :=
  ⟨.mk 0 0 ⟨#[]⟩ [] [], _, false, rfl, kw_leaf (by decide) (by decide) (own_none _ _) (Nat.le_refl _), below_st5 hb (Nat.le_of_eq hSS) _ _ _ _ _, fun e => (by cases e), fun K2 h1 h2 => absurd h2 (hc K2 h1), fun _ => rfl⟩
theorem po_end {w w' : World} {t : ByteArray} {S0 : Nat} {K : KT} {r : KR} (hSS : w.heap.size = S0) (hb : Below w.heap.size w w') (hk : KW (S0 + 1) w'.heap.size w' K (kval r)) (h1 : keyB K = true) (h2 : fmtT K = t.data.toList) (hc : ∀ K2, keyB K2 = true → fmtT K2 = t.data.toList → K = K2) (a0 a1 a2 a3 a4 : Value) :
    PKo w t (.returned (.tuple #[kval r, .bool true])) (st5 w' S0 a0 a1 a2 a3 a4) :=
  ⟨K, r, true, rfl, (hk.grown (gr_st5 _ _ _ _ _ _ _) (fun g e => by cases e; omega)).widen (by omega) (gr_st5 w' S0 a0 a1 a2 a3 a4).size, below_st5 hb (Nat.le_of_eq hSS) _ _ _ _ _, fun _ => ⟨h1, h2⟩, fun K2 h3 h4 => ⟨rfl, hc K2 h3 h4⟩, fun e => by cases e⟩
set_option maxRecDepth 20000 in
set_option maxHeartbeats 8000000 in
theorem own_keyparse {t : ByteArray} (w : World) (ht : t.size ≤ 16777216) (hSh : Shp w) (hLs : Lst w) : Calls Tryz.prog 8 #[.string t] w (PKo w t) := by
  obtain ⟨S0, hSS⟩ : ∃ B, w.heap.size = B := ⟨_, rfl⟩
  have HSS := Lib.hid hSS
  obtain ⟨wa, hwa⟩ : ∃ wa, w.alloc (.cells #[.int .i64 0, .int .i64 0, .string ⟨#[]⟩, .slice none 0 0, .slice none 0 0] 27) = wa := ⟨_, rfl⟩
  have HWA := Lib.hid hwa
  have HBa : Hid (Below w.heap.size w wa) := Lib.hid (by rw [← hwa]; exact below_new _ _)
  have HZa : Hid (Whole wa S0 27 #[.int .i64 0, .int .i64 0, .string ⟨#[]⟩, .slice none 0 0, .slice none 0 0]) := Lib.hid (by rw [← hwa, ← hSS]; exact Whole.made w _ _)
  obtain ⟨R, hR⟩ : ∃ B, wa.heap.size = B := ⟨_, rfl⟩
  have HRR := Lib.hid hR
  have HRE : Hid (S0 + 1 = R) := Lib.hid (by rw [← hR, ← hwa, ← hSS]; simp)
  have hSR : S0 < R := by have := HZa.out.lt; omega
  obtain ⟨wb, hwb⟩ : ∃ wb, wa.alloc (.cells #[.string t, .int .i64 0, .int .i64 9] 67) = wb := ⟨_, rfl⟩
  have HWB := Lib.hid hwb
  have HCb : Hid (CurK 9 wb R t 0) := Lib.hid (by rw [← hwb, ← hR]; exact Whole.made wa _ _)
  have hbab : Below wa.heap.size wa wb := by rw [← hwb]; exact below_new _ _
  have HBb : Hid (Below w.heap.size w wb) := Lib.hid (HBa.out.trans (hbab.mono HBa.out.size))
  have HZb := Lib.hid (HZa.out.below hbab HZa.out.lt)
  have hR1 : 0 < R := by have := hSh.1; omega
  have hR2 : 1 < R := by have := hLs.1; omega
  have HSb := Lib.hid (hSh.below HBb.out (Nat.le_refl _))
  have HLb := Lib.hid (hLs.below HBb.out (Nat.le_refl _))
  have HSw := Lib.hid hSh
  have HLw := Lib.hid hLs
  have HC0 := Lib.hid (okey ht hR1 hR2 9 9 0 wb (by omega) (by omega) (Nat.zero_le _) HCb.out HSb.out HLb.out)
  clear hwa hwb hR hSh hLs hSS hbab
  go_enter Tryz.func8, Tryz.ntmps8
  go_upto_region 2 with fail
  rw [HSS.out, HWA.out]
  first | rw [HRR.out] | rw [HRE.out]
  rw [HWB.out]
  go_wp2_with fail
  refine HC0.out.mono ?_
  rintro e w2 ⟨K, ⟨a0, a1, a2, ⟨a3, a4, a5⟩, ⟨a6, a7, a8⟩⟩, o, k', m', rfl, hc, hk', hm', hg, hka, hcomp, hpos⟩
  have HB2 := Lib.hid (below_grR (by have := HSS.out; omega) HBb.out hg)
  have HZ2 := Lib.hid (HZb.out.grown hg (fun e => by cases e; omega))
  have hbs : S0 + 1 ≤ wb.heap.size := by have := HZb.out.lt; omega
  have HKA := Lib.hid (hka.widen hbs (Nat.le_refl _))
  have HCO : Hid (∀ K2, keyB K2 = true → fmtT K2 = t.data.toList → o = true ∧ K = K2) := Lib.hid (fun K2 h1 h2 => by
    unfold keyB at h1
    rw [Bool.and_eq_true, decide_eq_true_eq] at h1
    obtain ⟨c1, c2, _, _⟩ := hcomp K2 [] ⟨h1.1, h1.2, by rw [List.drop_zero, List.append_nil, h2], .inl rfl⟩
    exact ⟨c1, c2⟩)
  have HPO := Lib.hid hpos
  clear hc hg hka hcomp hpos
  obtain ⟨D, hD⟩ : ∃ B, w2.heap.size = B := ⟨_, rfl⟩
  have HDD := Lib.hid hD
  obtain ⟨w3, hw3⟩ : ∃ z, w2.alloc (.cells #[.int .i64 a0, .int .i64 a1, .string a2, .slice a3 a4 a5, .slice a6 a7 a8] 27) = z := ⟨_, rfl⟩
  have HW3 := Lib.hid hw3
  have HX3 : Hid (Whole w3 D 27 #[.int .i64 a0, .int .i64 a1, .string a2, .slice a3 a4 a5, .slice a6 a7 a8]) := Lib.hid (by rw [← hw3, ← hD]; exact Whole.made w2 _ _)
  have hb3 : Below w2.heap.size w2 w3 := by rw [← hw3]; exact below_new _ _
  have HB3 := Lib.hid (HB2.out.trans (hb3.mono HB2.out.size))
  have HZ3 := Lib.hid (HZ2.out.below hb3 HZ2.out.lt)
  have HKA3 := Lib.hid ((HKA.out.grown (gr_below hb3 none) (fun g e => by cases e)).widen (Nat.le_refl _) hb3.size)
  have HS3 := Lib.hid (HSw.out.below HB3.out (Nat.le_refl _))
  have HL3 := Lib.hid (HLw.out.below HB3.out (Nat.le_refl _))
  clear hD hw3 hb3
  go_upto_region 3 with fail
  rw [HDD.out, HW3.out]
  cases o with
  | false =>
    have zc0 := HZ3.out.cell 0
    have zc1 := HZ3.out.cell 1
    have zc2 := HZ3.out.cell 2
    have zc3 := HZ3.out.cell 3
    have zc4 := HZ3.out.cell 4
    have zf0 := HZ3.out.free 0
    have zf1 := HZ3.out.free 1
    have zf2 := HZ3.out.free 2
    have zf3 := HZ3.out.free 3
    have zf4 := HZ3.out.free 4
    simp only [List.getElem?_toArray, List.getElem?_cons_zero, List.getElem?_cons_succ] at zc0 zc1 zc2 zc3 zc4
    go_wp2
    refine bodyPost_ret (v := .tuple #[.agg #[.int .i64 0, .int .i64 0, .string ⟨#[]⟩, .slice none 0 0, .slice none 0 0], .bool false]) (by rw [results_cell_tmp Tryz.results8]; go_simp) rfl ?_
    exact po_fail HSS.out HB3.out (fun K2 h1 h2 => by cases (HCO.out K2 h1 h2).1) _ _ _ _ _
  | true =>
    obtain ⟨Y, hY⟩ : ∃ Y, fmtY K = Y := ⟨_, rfl⟩
    have HYY := Lib.hid hY
    have HF := Lib.hid (impl_keyformat hY w3 HS3.out HL3.out HKA3.out.kv)
    clear hY
    have xc0 := HX3.out.cell 0
    have xc1 := HX3.out.cell 1
    have xc2 := HX3.out.cell 2
    have xc3 := HX3.out.cell 3
    have xc4 := HX3.out.cell 4
    simp only [List.getElem?_toArray, List.getElem?_cons_zero, List.getElem?_cons_succ] at xc0 xc1 xc2 xc3 xc4
    go_wp2_with fail
    refine HF.out.mono ?_
    rintro e w4 ⟨rfl, hb⟩
    have HB4 := Lib.hid (HB3.out.trans (hb.mono HB3.out.size))
    have HZ4 := Lib.hid (HZ3.out.below hb HZ3.out.lt)
    have HX4 := Lib.hid (HX3.out.below hb HX3.out.lt)
    have HKA4 := Lib.hid ((HKA3.out.grown (gr_below hb none) (fun g e => by cases e)).widen (Nat.le_refl _) hb.size)
    clear hb xc0 xc1 xc2 xc3 xc4
    by_cases he : Y = t
    · have heq : (Y.toList == t.toList) = true := by rw [he]; simp
      have HKB : Hid (keyB K = true) := Lib.hid (by
        rcases Bool.eq_false_or_eq_true (keyB K) with h | h
        · exact h
        · exfalso
          have h1 := HYY.out
          rw [fmtY, if_neg (by rw [h]; decide)] at h1
          have h2 := HPO.out (by first | trivial | rfl)
          rw [← he, ← h1] at h2
          exact absurd h2 (by decide))
      have HFT : Hid (fmtT K = t.data.toList) := Lib.hid (by
        have h1 := HYY.out
        rw [fmtY, if_pos HKB.out] at h1
        rw [← he, ← h1]
        rfl)
      clear he
      have zc0 := HZ4.out.cell 0
      have zc1 := HZ4.out.cell 1
      have zc2 := HZ4.out.cell 2
      have zc3 := HZ4.out.cell 3
      have zc4 := HZ4.out.cell 4
      have zf0 := HZ4.out.free 0
      have zf1 := HZ4.out.free 1
      have zf2 := HZ4.out.free 2
      have zf3 := HZ4.out.free 3
      have zf4 := HZ4.out.free 4
      simp only [List.getElem?_toArray, List.getElem?_cons_zero, List.getElem?_cons_succ] at zc0 zc1 zc2 zc3 zc4
      have xc0 := HX4.out.cell 0
      have xc1 := HX4.out.cell 1
      have xc2 := HX4.out.cell 2
      have xc3 := HX4.out.cell 3
      have xc4 := HX4.out.cell 4
      simp only [List.getElem?_toArray, List.getElem?_cons_zero, List.getElem?_cons_succ] at xc0 xc1 xc2 xc3 xc4
      go_wp2
      refine bodyPost_ret (v := .tuple #[.agg #[.int .i64 a0, .int .i64 a1, .string a2, .slice a3 a4 a5, .slice a6 a7 a8], .bool true]) (by rw [results_cell_tmp Tryz.results8]; go_simp) rfl ?_
      exact po_end HSS.out HB4.out HKA4.out HKB.out HFT.out (fun K2 h1 h2 => (HCO.out K2 h1 h2).2) _ _ _ _ _
    · have heq : (Y.toList == t.toList) = false := by
        rw [ByteArray.toList_eq, ByteArray.toList_eq]
        exact beq_eq_false_iff_ne.2 (fun h => he ((txt_is h).trans (txt_is rfl).symm))
      have HNO : Hid (∀ K2, keyB K2 = true → fmtT K2 ≠ t.data.toList) := Lib.hid (fun K2 h1 h2 => by
        obtain ⟨_, rfl⟩ := HCO.out K2 h1 h2
        have h3 := HYY.out
        rw [fmtY, if_pos h1, h2] at h3
        exact he (h3.symm.trans (txt_is rfl).symm))
      clear he
      have zc0 := HZ4.out.cell 0
      have zc1 := HZ4.out.cell 1
      have zc2 := HZ4.out.cell 2
      have zc3 := HZ4.out.cell 3
      have zc4 := HZ4.out.cell 4
      have zf0 := HZ4.out.free 0
      have zf1 := HZ4.out.free 1
      have zf2 := HZ4.out.free 2
      have zf3 := HZ4.out.free 3
      have zf4 := HZ4.out.free 4
      simp only [List.getElem?_toArray, List.getElem?_cons_zero, List.getElem?_cons_succ] at zc0 zc1 zc2 zc3 zc4
      go_wp2
      refine bodyPost_ret (v := .tuple #[.agg #[.int .i64 0, .int .i64 0, .string ⟨#[]⟩, .slice none 0 0, .slice none 0 0], .bool false]) (by rw [results_cell_tmp Tryz.results8]; go_simp) rfl ?_
      exact po_fail HSS.out HB4.out HNO.out _ _ _ _ _
end Go.Proofs.YtnfigpknejmkmaaGreatDoor
namespace Go.Proofs.YtnfigpknejmkmaaGreatDoor
open Go.RowKit
set_option linter.unusedVariables false

def rB (l : List UInt8) : ByteArray := ⟨l.toArray⟩
theorem rB_list (l : List UInt8) : (rB l).data.toList = l := by unfold rB; simp
theorem rB_size (l : List UInt8) : (rB l).size = l.length := by unfold rB; rw [ByteArray.size]; simp
theorem rB_ext {u v : ByteArray} (h : u.data.toList = v.data.toList) : u = v := by
  cases u
  cases v
  congr
  exact Array.toList_inj.1 h
theorem rB_cat (a b : List UInt8) : rB a ++ rB b = rB (a ++ b) := by
  refine rB_ext ?_
  rw [ByteArray.data_append, Array.toList_append, rB_list, rB_list, rB_list]
theorem rB_of (s : ByteArray) : rB s.data.toList = s := rB_ext (rB_list _)
theorem conv_oneE (W : World) (N : Nat) (c : UInt8) (z : Int) (hz : (c.toNat : Int) = z) (h : W.cell? ⟨N, 0, none⟩ = some (.int .u8 z)) :
    (convert 22 9 (.slice (some ⟨N, 0, none⟩) 1 1)).run Tryz.prog W = .ok (.string ⟨#[c]⟩) W := by
  have := run_convert_bytes_back (P := Tryz.prog) W 22 9 5 ⟨N, 0, none⟩ 1 [c] Tryz.underlying22 Tryz.underlying5 Tryz.underlying9 (fun j hj => by
    have : j = 0 := by simpa using hj
    subst this
    rw [radd, Nat.zero_add, h, ← hz]
    rfl)
  exact this
theorem dig_natE {d : Nat} (h : d ≤ 9) : ((UInt8.ofNat (48 + d)).toNat : Int) = 48 + (d : Int) := by
  have : (UInt8.ofNat (48 + d)).toNat = 48 + d := by
    rw [UInt8.toNat_ofNat']
    exact Nat.mod_eq_of_lt (by omega)
  omega
/-- A number's digits ahead of a text. -/
def mtGo (k : Nat) (out : List UInt8) : List UInt8 := if h : k = 0 then out else mtGo (k / 10) (UInt8.ofNat (48 + k % 10) :: out)
termination_by k
decreasing_by omega
theorem mtGo_zero (out : List UInt8) : mtGo 0 out = out := by rw [mtGo]; simp
theorem mtGo_step {k : Nat} (h : k ≠ 0) (out : List UInt8) : mtGo k out = mtGo (k / 10) (UInt8.ofNat (48 + k % 10) :: out) := by rw [mtGo]; simp [h]
/-- The text that stands for a mark. -/
def mt (k : Nat) : List UInt8 := 109 :: mtGo k []
set_option maxHeartbeats 2000000 in
theorem mark_text (k : Nat) (w : World) (hk : 0 < k) (hk2 : k ≤ 1000000000) :
    Calls Tryz.prog 71 #[.int .i64 (k : Int)] w fun e w' => e = .returned (.string (rB (mt k))) ∧ Below w.heap.size w w' := by
  have h0 : ¬ (k : Int) ≤ 0 := by omega
  go_enter Tryz.func71, Tryz.ntmps71
  go_wp2
  go_loopw [0, 3] (fun kv ov wr => ∃ (q : Nat) (o : List UInt8) (v : ByteArray), q ≤ k ∧ o.length ≤ 10 ∧ kv = .int .i64 (q : Int) ∧ ov = .string v ∧ Hid (rB o = v) ∧ Hid (q * 10 ^ o.length ≤ k) ∧ Hid (mtGo q o = mtGo k []) ∧ Hid (Below w.heap.size w wr)) (fun kv _ _ => (intOf kv).toNat)
  case atStart => exact ⟨k, [], _, Nat.le_refl _, (by show 0 ≤ 10; omega), rfl, rfl, rfl, (by show k * 10 ^ 0 ≤ k; omega), rfl, Below.refl _ _⟩
  case round =>
    obtain ⟨q, o, v, hq, hol, rfl, rfl, HV, HP, HM, HB⟩ := hrel
    have hlen : 0 < q → o.length ≤ 9 := fun h => by
      have h1 := HP.out
      have h2 : 10 ^ o.length ≤ 10 ^ 9 := by
        have : 1 * 10 ^ o.length ≤ q * 10 ^ o.length := Nat.mul_le_mul_right _ h
        omega
      exact (Nat.pow_le_pow_iff_right (by decide)).1 h2
    have hv9 : 0 < q → v.size ≤ 9 := fun h => by rw [← HV.out, rB_size]; exact hlen h
    by_cases hq0 : 0 < q
    · have h1 : (0 : Int) < (q : Int) := by omega
      have hv := hv9 hq0
      obtain ⟨d, hd⟩ : ∃ d, q % 10 = d := ⟨_, rfl⟩
      obtain ⟨p, hp⟩ : ∃ p, q / 10 = p := ⟨_, rfl⟩
      have hd9 : d ≤ 9 := by omega
      have E1 : (q : Int).tmod 10 = (d : Int) := by rw [Int.tmod_eq_emod_of_nonneg (by omega)]; omega
      have E2 : (q : Int).tdiv 10 = (p : Int) := by rw [Int.tdiv_eq_ediv_of_nonneg (by omega)]; omega
      have E3 : (q : Int) % 10 = (d : Int) := by omega
      have E4 : (q : Int) / 10 = (p : Int) := by omega
      have W1 : IntKind.i64.wrap (d : Int) = (d : Int) := IntWalk.i64_in _ (by omega)
      have W2 : IntKind.i64.wrap (p : Int) = (p : Int) := IntWalk.i64_in _ (by omega)
      have W3 : IntKind.i64.wrap (48 + (d : Int)) = 48 + (d : Int) := IntWalk.i64_in _ (by omega)
      have W4 : IntKind.u8.wrap (48 + (d : Int)) = 48 + (d : Int) := by rw [IntKind.wrap_u8]; omega
      obtain ⟨c, hc⟩ : ∃ c, UInt8.ofNat (48 + d) = c := ⟨_, rfl⟩
      have hcv := fun (W : World) (N : Nat) h => conv_oneE W N c _ (hc ▸ dig_natE hd9) h
      have HSTEP : Hid (mtGo p (c :: o) = mtGo k []) := by
        have h2 := HM.out
        rw [mtGo_step (by omega), hd, hp, hc] at h2
        exact h2
      have HV2 : Hid (rB (c :: o) = (⟨#[c]⟩ : ByteArray) ++ v) := by
        rw [← HV.out, show (⟨#[c]⟩ : ByteArray) = rB [c] from rfl, rB_cat]
        rfl
      have HP2 : Hid (p * 10 ^ (c :: o).length ≤ k) := by
        have h2 := HP.out
        show p * 10 ^ (o.length + 1) ≤ k
        rw [Nat.pow_succ, ← Nat.mul_assoc, Nat.mul_right_comm]
        have h3 : p * 10 * 10 ^ o.length ≤ q * 10 ^ o.length := Nat.mul_le_mul_right _ (by omega)
        omega
      have hpq : p < q := by omega
      have hol1 : (c :: o).length ≤ 10 := by have := hlen hq0; show o.length + 1 ≤ 10; omega
      have HOL := Lib.hid hol1
      clear hlen hv9 hd hp hol1 hol hc
      have HS := Lib.hid HB.out.size
      go_wp2_with fail
      go_roundw
      case rel => exact ⟨p, c :: o, _, by omega, HOL.out, rfl, rfl, HV2, HP2, HSTEP, HB.out.alloc HS.out _⟩
      case measure => simp [intOf]; omega
    · obtain rfl : q = 0 := by omega
      have hend : v.size ≤ 10 := by rw [← HV.out, rB_size]; exact hol
      have HE : Hid (mt k = 109 :: o) := by
        have h2 := HM.out
        rw [mtGo_zero] at h2
        show 109 :: mtGo k [] = _
        rw [← h2]
      clear hlen hv9 hol
      go_wp2_with fail
      go_ret
      refine ⟨?_, HB.out⟩
      rw [HE.out, ← HV.out, show (109 : UInt8) :: o = [109] ++ o from rfl, ← rB_cat]
      rfl
theorem mtGo_len : ∀ (d k : Nat) (out : List UInt8), k < 10 ^ d → (mtGo k out).length ≤ out.length + d
  | 0, k, out, h => by
    obtain rfl : k = 0 := by simpa using h
    rw [mtGo_zero]
    exact Nat.le_refl _
  | d + 1, k, out, h => by
    by_cases h0 : k = 0
    · subst h0
      rw [mtGo_zero]
      omega
    · rw [mtGo_step h0]
      have h1 := mtGo_len d (k / 10) (UInt8.ofNat (48 + k % 10) :: out) (Nat.div_lt_of_lt_mul (by rw [Nat.pow_succ, Nat.mul_comm] at h; exact h))
      simp only [List.length_cons] at h1
      omega
theorem mt_size {k : Nat} (h : k ≤ 1000000000) : (rB (mt k)).size ≤ 16777216 := by
  rw [rB_size]
  have := mtGo_len 10 k [] (by omega)
  simp only [mt, List.length_cons, List.length_nil] at this ⊢
  omega
/-- The marks on spans, from a number on. -/
def mkP (s n : Nat) : List (Int × Int) := (List.range n).map fun (i : Nat) => ((s : Int) + 2 * (i : Int), (s : Int) + 2 * (i : Int) + 1)
theorem mkP_len (s n : Nat) : (mkP s n).length = n := by unfold mkP; simp
theorem mkP_succ (s n : Nat) : mkP s (n + 1) = mkP s n ++ [((s : Int) + 2 * (n : Int), (s : Int) + 2 * (n : Int) + 1)] := by unfold mkP; rw [List.range_succ, List.map_append]; rfl
theorem mkP_at {s n i : Nat} (h : i < n) : (mkP s n)[i]? = some ((s : Int) + 2 * (i : Int), (s : Int) + 2 * (i : Int) + 1) := by unfold mkP; simp [h]
theorem set_midP {α : Type} {P L : List α} {i : Nat} (x : α) (hp : P.length = i) (hi : i < L.length) : (P ++ L.drop i).set i x = P ++ [x] ++ L.drop (i + 1) := by
  rw [List.set_append_right _ _ (by omega), hp, Nat.sub_self, List.drop_eq_getElem_cons hi, List.set_cons_zero, List.append_assoc]
  rfl
theorem mid_someP {α : Type} {P L : List α} {i : Nat} (hp : P.length = i) (hi : i < L.length) : ∃ y, (P ++ L.drop i)[i]? = some y :=
  ⟨_, List.getElem?_eq_getElem (by rw [List.length_append, List.length_drop]; omega)⟩
theorem own_split {w : World} {B n cap size : Nat} {e : TypeId} {A : Option Addr} {xs : List Value} (h : w.ownsRow B e size (.slice A n cap) n xs) (h0 : 0 < n) : ∃ g, A = some ⟨g, 0, none⟩ := by
  rcases h.2 with ⟨he, hn⟩ | ⟨g, c, cur, he, -⟩
  · omega
  · cases he
    exact ⟨g, rfl⟩


mutual
/-- How many marks a key takes. -/
def cT : KT → Nat
  | .mk _ _ _ S ks => 3 + 2 * S.length + cL ks
def cL : List KT → Nat
  | [] => 0
  | k :: r => cT k + cL r
end
mutual
/-- A key that is marked. -/
def mkT : Nat → KT → KT
  | s, .mk _ _ _ S ks => .mk (s : Int) ((s + 1 : Nat) : Int) (rB (mt (s + 2))) (mkP (s + 3) S.length) (mkL (s + 3 + 2 * S.length) ks)
def mkL : Nat → List KT → List KT
  | _, [] => []
  | s, k :: r => mkT s k :: mkL (s + cT k) r
end
theorem mkL_len : ∀ (s : Nat) (L : List KT), (mkL s L).length = L.length
  | s, [] => by rw [mkL]
  | s, k :: r => by rw [mkL, List.length_cons, List.length_cons, mkL_len]
theorem cL_app : ∀ (L M : List KT), cL (L ++ M) = cL L + cL M
  | [], M => by rw [List.nil_append, cL]; omega
  | k :: r, M => by rw [List.cons_append, cL, cL, cL_app]; omega
theorem mkL_app : ∀ (s : Nat) (L M : List KT), mkL s (L ++ M) = mkL s L ++ mkL (s + cL L) M
  | s, [], M => by rw [List.nil_append, mkL, cL]; rfl
  | s, k :: r, M => by rw [List.cons_append, mkL, mkL, mkL_app, cL, List.cons_append, Nat.add_assoc]
theorem cL_one {L : List KT} {k : Nat} {y : KT} (h : L[k]? = some y) : cL (L.take (k + 1)) = cL (L.take k) + cT y := by
  rw [List.take_add_one, h, cL_app]
  show _ + (cT y + 0) = _
  omega
theorem cL_take (L : List KT) (k : Nat) : cL (L.take k) ≤ cL L := by
  have := cL_app (L.take k) (L.drop k)
  rw [List.take_append_drop] at this
  omega
theorem mkL_one {L : List KT} {k : Nat} {y : KT} (h : L[k]? = some y) (s : Nat) : mkL s (L.take (k + 1)) = mkL s (L.take k) ++ [mkT (s + cL (L.take k)) y] := by
  rw [List.take_add_one, h, mkL_app]
  rfl
theorem mkL_at {L : List KT} {k : Nat} {y : KT} (h : L[k]? = some y) (s : Nat) : (mkL s L)[k]? = some (mkT (s + cL (L.take k)) y) := by
  have hk := (List.getElem?_eq_some_iff.1 h).1
  have h1 : L = L.take (k + 1) ++ L.drop (k + 1) := (List.take_append_drop _ _).symm
  rw [h1, mkL_app, List.getElem?_append_left (by rw [mkL_len, List.length_take]; omega), ← h1, mkL_one h, List.getElem?_append_right (by rw [mkL_len, List.length_take]; omega), mkL_len, List.length_take, show k - min k L.length = 0 by omega]
  rfl
theorem nodesL_get {L : List KT} {k : Nat} {y : KT} (h : L[k]? = some y) : nodesT y ≤ nodesL L := by have := nodesL_lt h; omega
theorem kval_inj {a b : KR} (h : kval a = kval b) : a = b := by
  obtain ⟨a0, a1, a2, ⟨a3, a4, a5⟩, ⟨a6, a7, a8⟩⟩ := a
  obtain ⟨b0, b1, b2, ⟨b3, b4, b5⟩, ⟨b6, b7, b8⟩⟩ := b
  simp only [Value.agg.injEq, Array.mk.injEq, List.cons.injEq, Value.slice.injEq, Value.int.injEq, Value.string.injEq, and_true, true_and] at h
  obtain ⟨rfl, rfl, rfl, ⟨rfl, rfl, rfl⟩, ⟨rfl, rfl, rfl⟩⟩ := h
  rfl
/-- One of the keys of a row, opened: its own rows, and how it is put back. -/
theorem mark_open {w : World} {ks : List KT} {rs : List KR} {Q : Nat → Prop} {i g : Nat} {kd f : Int} {t : ByteArray} {S : List (Int × Int)} {cs : List KT} (h : KOs w Q ks rs) (hi : ks[i]? = some (.mk kd f t S cs)) (hg : ¬ Q g) :
    ∃ (AS : Option Addr) (nS cS : Nat) (AK : Option Addr) (nK cK : Nat) (rc : List KR) (Qc Qi : Nat → Prop), rs[i]? = some (kd, f, t, (AS, nS, cS), (AK, nK, cK)) ∧ nS ≤ 33554432 ∧ S.length = nS ∧ Own w 0 (.slice AS nS cS) S ∧ ROwn keyR w 0 (.slice AK nK cK) rc ∧ KOs w Qc cs rc ∧
      (∀ b, Value.ownBlock (.slice AS nS cS) = some b → Qi b ∧ ¬ Qc b ∧ b ≠ g) ∧ (∀ b, Value.ownBlock (.slice AK nK cK) = some b → Qi b ∧ ¬ Qc b ∧ b ≠ g ∧ Value.ownBlock (.slice AS nS cS) ≠ some b) ∧ (∀ b, Qc b → Qi b ∧ b ≠ g) ∧ (∀ b, Qi b → Q b ∧ b ≠ g) ∧
      ∀ (w' : World) (q0 q1 : Int) (tx : ByteArray) (S' : List (Int × Int)) (cs' : List KT) (rc' : List KR), Writ (fun b => b = g ∨ Qi b) w w' → tx.size ≤ 16777216 → Own w' 0 (.slice AS nS cS) S' → ROwn keyR w' 0 (.slice AK nK cK) rc' → KOs w' Qc cs' rc' →
        KOs w' Q (ks.set i (.mk q0 q1 tx S' cs')) (rs.set i (q0, q1, tx, (AS, nS, cS), (AK, nK, cK))) := by
  obtain ⟨r, Qi, h1, h2, h3, h4⟩ := KOs.focus h hi
  rw [KO] at h3
  obtain ⟨AS, nS, cS, AK, nK, cK, rc, Qc, e1, e2, e3, e4, e5, e6, e7, e8, e9⟩ := h3
  have := kval_inj e1
  subst this
  have hl : S.length = nS := by
    obtain ⟨A2, c2, he, -⟩ := e4.form
    simp only [Value.slice.injEq] at he
    exact he.2.1.symm
  have hne : ∀ b, Q b → b ≠ g := fun b hb e => hg (e ▸ hb)
  refine ⟨AS, nS, cS, AK, nK, cK, rc, Qc, Qi, h1, e2, hl, e4, e5, e9, fun b e => ⟨(e6 b e).1, (e6 b e).2, hne b (h2 b (e6 b e).1)⟩, fun b e => ⟨(e7 b e).1, (e7 b e).2.1, hne b (h2 b (e7 b e).1), (e7 b e).2.2⟩, fun b hb => ⟨e8 b hb, hne b (h2 b (e8 b hb))⟩, fun b hb => ⟨h2 b hb, hne b (h2 b hb)⟩, ?_⟩
  intro w' q0 q1 tx S' cs' rc' hw ht hS hK hC
  refine h4 w' _ _ (fun b => b = g ∨ Qi b) hw (fun b hb hq => hb.elim (fun e => absurd (e ▸ hq) hg) id) ?_
  rw [KO]
  exact ⟨AS, nS, cS, AK, nK, cK, rc', Qc, rfl, e2, ht, hS, hK, e6, e7, e8, hC⟩
set_option maxHeartbeats 4000000 in
theorem mark_spans (s r : Nat) (A : Option Addr) (cap n B : Nat) (L : List (Int × Int)) (w : World) (hn : L.length = n) (h : Own w B (.slice A n cap) L) (hl : n ≤ 33554432) (hs2 : s ≤ 100000000) (hr : s + 2 * n = r) :
    Calls Tryz.prog 40 #[.slice A n cap, .int .i64 (s : Int)] w fun e w' => e = .returned (.int .i64 (r : Int)) ∧ Own w' B (.slice A n cap) (mkP s n) ∧ w.grownBy w' (Value.slice A n cap).ownBlock := by
  have HN := Lib.hid hn
  have HO := Lib.hid h
  have HR := Lib.hid hr
  clear h hn hr
  go_enter Tryz.func40, Tryz.ntmps40
  go_wp2
  go_loopw [1, 5] (fun m i wr => ∃ (k : Nat) (z : Int), k ≤ n ∧ z = (s : Int) + 2 * (k : Int) ∧ m = .int .i64 z ∧ i = .int .i64 (k : Int) ∧ Hid (w.grownBy wr (Value.slice A n cap).ownBlock) ∧ Hid (Own wr B (.slice A n cap) (mkP s k ++ L.drop k))) (fun _ i _ => n - (intOf i).toNat)
  case atStart => exact ⟨0, s, Nat.zero_le _, by omega, by go_num, by go_num, gr_refl _ _, HO.out⟩
  case round =>
    obtain ⟨k, z, hk, hz, rfl, rfl, HG, HW⟩ := hrel
    have HZ := Lib.hid hz
    by_cases hlt : k < n
    · have h0 : (0 : Int) ≤ (k : Int) := by omega
      have h5 : (k : Int) < (n : Int) := by omega
      have z0 : 0 ≤ z := by omega
      have z1 : z ≤ 200000000 := by omega
      have W1 : IntKind.i64.wrap (z + 1) = z + 1 := IntWalk.i64_in _ (by omega)
      have W2 : IntKind.i64.wrap (z + 1 + 1) = z + 1 + 1 := IntWalk.i64_in _ (by omega)
      obtain ⟨g, rfl⟩ := own_split (own_row' HW.out) (by omega)
      obtain ⟨y, hy⟩ := mid_someP (mkP_len s k) (L := L) (by rw [HN.out]; exact hlt)
      obtain ⟨d1, d2⟩ := own_cells HW.out hy
      have d3 := World.ownsRow.frozenAt (own_row' HW.out) (k * 2)
      have d4 := World.ownsRow.frozenAt (own_row' HW.out) (k * 2 + 1)
      have HST := Lib.hid (HW.out.stored (k := k) (List.getElem?_eq_some_iff.1 hy).1 (z, z + 1))
      clear hy hz
      go_wp2
      go_roundw
      case rel =>
        refine ⟨k + 1, z + 1 + 1, by omega, by have := HZ.out; omega, rfl, by go_num, gr_trans HG.out HST.out.2, ?_⟩
        have h1 := HST.out.1
        rw [set_midP _ (mkP_len s k) (by rw [HN.out]; exact hlt)] at h1
        rw [mkP_succ, ← HZ.out]
        exact h1
      case measure => simp [intOf]; omega
    · have h5 : ¬ (k : Int) < (n : Int) := by omega
      have hkn : k = n := by omega
      have ho := HW.out
      rw [hkn, List.drop_of_length_le (by rw [HN.out]; exact Nat.le_refl _), List.append_nil] at ho
      have HOE := Lib.hid ho
      have hz2 : z = (r : Int) := by have := HR.out; omega
      have HZ2 := Lib.hid hz2
      clear ho hkn hz hz2
      go_wp2
      go_ret
      refine ⟨?_, HOE.out, HG.out⟩
      rw [HZ2.out]
      rfl
set_option maxHeartbeats 4000000 in
theorem held_spans (s r : Nat) (A : Option Addr) (cap n : Nat) (w : World) (h : SpA w A (mkP s n)) (hl : n ≤ 33554432) (hs2 : s ≤ 100000000) (hr : s + 2 * n = r) :
    Calls Tryz.prog 42 #[.slice A n cap, .int .i64 (s : Int)] w fun e w' => e = .returned (.int .i64 (r : Int)) ∧ w = w' := by
  have H := Lib.hid h
  have HR := Lib.hid hr
  clear h hr
  go_enter Tryz.func42, Tryz.ntmps42
  go_wp2
  go_loop [1, 5] (fun m i => ∃ (k : Nat) (z : Int), k ≤ n ∧ z = (s : Int) + 2 * (k : Int) ∧ m = .int .i64 z ∧ i = .int .i64 (k : Int)) (fun _ i => n - (intOf i).toNat)
  case atStart => exact ⟨0, s, Nat.zero_le _, by omega, by go_num, by go_num⟩
  case round =>
    obtain ⟨k, z, hk, hz, rfl, rfl⟩ := hrel
    have HZ := Lib.hid hz
    by_cases hlt : k < n
    · have h0 : (0 : Int) ≤ (k : Int) := by omega
      have h5 : (k : Int) < (n : Int) := by omega
      have z0 : 0 ≤ z := by omega
      have z1 : z ≤ 200000000 := by omega
      have W1 : IntKind.i64.wrap (z + 1) = z + 1 := IntWalk.i64_in _ (by omega)
      have W2 : IntKind.i64.wrap (z + 1 + 1) = z + 1 + 1 := IntWalk.i64_in _ (by omega)
      have hx := mkP_at (s := s) hlt
      rw [← hz] at hx
      obtain ⟨b, o, rfl, hbz, c1, c2⟩ := H.out k _ hx
      clear hx hz
      go_wp2
      go_round
      case rel => exact ⟨k + 1, z + 1 + 1, by omega, by have := HZ.out; omega, rfl, by go_num⟩
      case measure => simp [intOf]; omega
    · have h5 : ¬ (k : Int) < (n : Int) := by omega
      have hz2 : z = (r : Int) := by have := HR.out; omega
      have HZ2 := Lib.hid hz2
      clear hz hz2
      go_wp2
      go_ret
      refine ⟨?_, rfl⟩
      rw [HZ2.out]
      rfl
end Go.Proofs.YtnfigpknejmkmaaGreatDoor
namespace Go.Proofs.YtnfigpknejmkmaaGreatDoor
open Go.RowKit
set_option linter.unusedVariables false
set_option linter.unusedSimpArgs false

theorem own_blockK {α : Type} {R : RowT α} {w : World} {B n cap : Nat} {A : Option Addr} {L : List α} (h : ROwn R w B (.slice A n cap) L) (h0 : 0 < n) : ∃ g, A = some ⟨g, 0, none⟩ := by
  have hl := h.len.1
  obtain ⟨A', c, he, _, _, _, _, hne⟩ := h.form
  cases he
  exact hne (by intro e; rw [hl, e] at h0; simp at h0)
theorem cL_len : ∀ L : List KT, L.length ≤ cL L
  | [] => by rw [cL]; exact Nat.le_refl _
  | .mk _ _ _ S ks :: r => by
    have := cL_len r
    rw [cL, cT, List.length_cons]
    omega
/-- What markKeyS leaves. -/
def MkL (w : World) (s r : Nat) (A : Option Addr) (N cap : Nat) (Q : Nat → Prop) (ks : List KT) (e : Ending) (w' : World) : Prop :=
  e = .returned (.int .i64 (r : Int)) ∧ ∃ rs : List KR, ROwn keyR w' 0 (.slice A N cap) rs ∧ KOs w' Q (mkL s ks) rs ∧ Writ (fun b => Q b ∨ Value.ownBlock (.slice A N cap) = some b) w w'
set_option maxRecDepth 20000 in
set_option maxHeartbeats 8000000 in
theorem mark_keys_step {n0 : Nat} (ih : ∀ (s r : Nat) (A : Option Addr) (N cap : Nat) (Q : Nat → Prop) (ks : List KT) (rs : List KR) (w : World), nodesL ks < n0 → ROwn keyR w 0 (.slice A N cap) rs → (∀ g, Value.ownBlock (.slice A N cap) = some g → ¬ Q g) → KOs w Q ks rs → 0 < s → s + cL ks = r → r ≤ 90000000 →
      Calls Tryz.prog 41 #[.slice A N cap, .int .i64 (s : Int)] w (MkL w s r A N cap Q ks))
    (s r : Nat) (A : Option Addr) (N cap : Nat) (Q : Nat → Prop) (ks : List KT) (rs : List KR) (w : World) (hn0 : nodesL ks ≤ n0) (ho : ROwn keyR w 0 (.slice A N cap) rs) (hq : ∀ g, Value.ownBlock (.slice A N cap) = some g → ¬ Q g) (hk : KOs w Q ks rs) (hs : 0 < s) (hr : s + cL ks = r) (hr2 : r ≤ 90000000) :
    Calls Tryz.prog 41 #[.slice A N cap, .int .i64 (s : Int)] w (MkL w s r A N cap Q ks) := by
  have HN : Hid (ks.length = N) := Lib.hid (by rw [hk.len]; exact ho.len.1.symm)
  have HO := Lib.hid ho
  have HQ := Lib.hid hq
  have HK := Lib.hid hk
  have HR := Lib.hid hr
  have HN0 := Lib.hid hn0
  have HIH := Lib.hid ih
  have hn9 : N ≤ 90000000 := by
    have h1 := cL_len ks
    have h2 := HN.out
    omega
  clear ho hq hk hr hn0 ih
  go_enter Tryz.func41, Tryz.ntmps41
  go_wp2
  go_loopw [1, 5] (fun m i wr => ∃ k z : Nat, k ≤ N ∧ m = .int .i64 (z : Int) ∧ i = .int .i64 (k : Int) ∧ Hid (z = s + cL (ks.take k)) ∧ Hid (Writ (fun b => Q b ∨ Value.ownBlock (.slice A N cap) = some b) w wr) ∧ Hid (∃ rs : List KR, ROwn keyR wr 0 (.slice A N cap) rs ∧ KOs wr Q (mkL s (ks.take k) ++ ks.drop k) rs)) (fun _ i _ => N - (intOf i).toNat)
  case atStart => exact ⟨0, s, Nat.zero_le _, by go_num, by go_num, Lib.hid (by rw [List.take_zero, cL]; rfl), Lib.hid (.refl _), Lib.hid ⟨rs, HO.out, by rw [List.take_zero, mkL]; exact HK.out⟩⟩
  case round =>
    obtain ⟨k, z, hk, rfl, rfl, HZ, HG, HW⟩ := hrel
    by_cases hlt : k < N
    · have h0 : (0 : Int) ≤ (k : Int) := by omega
      have h5 : (k : Int) < (N : Int) := by omega
      obtain ⟨y, hy⟩ : ∃ y, ks[k]? = some y := ⟨_, List.getElem?_eq_getElem (by rw [HN.out]; exact hlt)⟩
      obtain ⟨kd, f, t, S, cs⟩ := y
      have hone := cL_one hy
      have hcT : cT (.mk kd f t S cs) = 3 + 2 * S.length + cL cs := by rw [cT]
      have htk := cL_take ks (k + 1)
      have HNOD : Hid (nodesL cs < n0) := Lib.hid (by
        have h1 := nodesL_get hy
        rw [nodesT] at h1
        have h2 := HN0.out
        omega)
      obtain ⟨rsk, hrow, hkos⟩ := HW.out
      have hpl : (mkL s (ks.take k)).length = k := by rw [mkL_len, List.length_take, HN.out]; omega
      have hkL : k < ks.length := by rw [HN.out]; exact hlt
      have hC : (mkL s (ks.take k) ++ ks.drop k)[k]? = some (.mk kd f t S cs) := by
        rw [List.getElem?_append_right (by rw [hpl]; exact Nat.le_refl _), hpl, Nat.sub_self, List.getElem?_drop, Nat.add_zero]
        exact hy
      have HEND : Hid ((mkL s (ks.take k) ++ ks.drop k).set k (mkT z (.mk kd f t S cs)) = mkL s (ks.take (k + 1)) ++ ks.drop (k + 1)) := Lib.hid (by rw [set_midP _ hpl hkL, mkL_one hy, HZ.out])
      obtain ⟨g, rfl⟩ := own_blockK hrow (by omega)
      obtain ⟨AS, nS, cS, AK, nK, cK, rc, Qc, Qi, hrk, hnS, hSl, hoS, hoK, hkc, f1, f2, f3, f4, hput⟩ := mark_open hkos hC (HQ.out g rfl)
      have hkC : k < rsk.length := (List.getElem?_eq_some_iff.1 hrk).1
      obtain ⟨q1, hq1⟩ : ∃ q, z + 1 = q := ⟨_, rfl⟩
      obtain ⟨q2, hq2⟩ : ∃ q, z + 2 = q := ⟨_, rfl⟩
      obtain ⟨q3, hq3⟩ : ∃ q, z + 3 = q := ⟨_, rfl⟩
      obtain ⟨q4, hq4⟩ : ∃ q, q3 + 2 * nS = q := ⟨_, rfl⟩
      obtain ⟨r4, hr4⟩ : ∃ q, q4 + cL cs = q := ⟨_, rfl⟩
      have E1 : (z : Int) + 1 = (q1 : Int) := by omega
      have E2 : (q1 : Int) + 1 = (q2 : Int) := by omega
      have E3 : (q2 : Int) + 1 = (q3 : Int) := by omega
      have hz := HZ.out
      have hrr := HR.out
      have HR4 : Hid (q4 + cL cs = r4 ∧ r4 ≤ 90000000 ∧ 0 < q4 ∧ r4 = s + cL (ks.take (k + 1))) := Lib.hid ⟨hr4, by omega, by omega, by omega⟩
      have HY : Hid (mkT z (.mk kd f t S cs) = .mk (z : Int) (q1 : Int) (rB (mt q2)) (mkP q3 nS) (mkL q4 cs)) := Lib.hid (by rw [mkT]; subst hq4 hq3 hq2 hq1 hSl; rfl)
      have HQ2 : Hid (0 < q2 ∧ q2 ≤ 1000000000) := Lib.hid (by omega)
      have HQ3 : Hid (q3 ≤ 100000000 ∧ q3 + 2 * nS = q4) := Lib.hid ⟨by omega, hq4⟩
      have hzb : z ≤ 90000000 := by omega
      have hq1b : q1 ≤ 90000001 := by omega
      have hq2b : q2 ≤ 90000002 := by omega
      have hq3b : q3 ≤ 90000003 := by omega
      have HNS : Hid (nS ≤ 33554432) := Lib.hid hnS
      have HSL := Lib.hid hSl
      have HF1 := Lib.hid f1
      have HF2 := Lib.hid f2
      have HF3 := Lib.hid f3
      have HF4 := Lib.hid f4
      have HPUT := Lib.hid hput
      have HOS0 := Lib.hid hoS
      have HOK0 := Lib.hid hoK
      have HKC0 := Lib.hid hkc
      obtain ⟨r1, hr1⟩ : ∃ x : KR, ((z : Int), f, t, (AS, nS, cS), (AK, nK, cK)) = x := ⟨_, rfl⟩
      obtain ⟨r2, hr2'⟩ : ∃ x : KR, ((z : Int), (q1 : Int), t, (AS, nS, cS), (AK, nK, cK)) = x := ⟨_, rfl⟩
      obtain ⟨v1, hv1⟩ : ∃ v, rB (mt q2) = v := ⟨_, rfl⟩
      obtain ⟨r3, hr3⟩ : ∃ x : KR, ((z : Int), (q1 : Int), v1, (AS, nS, cS), (AK, nK, cK)) = x := ⟨_, rfl⟩
      have hA := hrow.stored (y := r1) (j := 0) (u := .int .i64 (z : Int)) hrk (by decide) (by rw [← hr1]; rfl)
      have hB := hA.1.stored (x := r1) (y := r2) (j := 1) (u := .int .i64 (q1 : Int)) (List.getElem?_set_self hkC) (by decide) (by rw [← hr1, ← hr2']; rfl)
      rw [List.set_set] at hB
      have d0 := hrow.cell hrk (j := 0) rfl
      have d1 := hrow.cell hrk (j := 1) rfl
      have f0 := hrow.free (k * 5)
      have f1' := hrow.free (k * 5 + 1)
      simp only [keyR, Nat.add_zero] at d0 d1 hA hB
      obtain ⟨wb, hwb⟩ : ∃ wb, (wr.setCell ⟨g, k * 5, none⟩ (.int .i64 (z : Int))).setCell ⟨g, k * 5 + 1, none⟩ (.int .i64 (q1 : Int)) = wb := ⟨_, rfl⟩
      rw [hwb] at hB
      have HB := Lib.hid hB.1
      have CB : Hid (Writ (fun b => b = g) wr wb) := Lib.hid ((Writ.one hA.2 (fun b e => (Option.some.inj e).symm)).trans (Writ.one hB.2 (fun b e => (Option.some.inj e).symm)))
      have HWB := Lib.hid hwb
      have HR2 : Hid ((rsk.set k r2)[k]? = some r2) := Lib.hid (List.getElem?_set_self hkC)
      have HR23 : Hid (keyR.enc r3 = (keyR.enc r2).set 2 (.string v1)) := Lib.hid (by rw [← hr2', ← hr3]; rfl)
      have HR3 : Hid ((rsk.set k r3)[k]? = some r3) := Lib.hid (List.getElem?_set_self hkC)
      have HR3e := Lib.hid hr3
      have HV1 := Lib.hid hv1
      clear hA hB hwb hr1 hr2' hr3 hq1 hq2 hq3 hq4 hr4 hz hrr hy hpl hkL hC hkos hrow hrk hkC hnS hSl hoS hoK hkc f1 f2 f3 f4 hput hone hcT htk hv1
      go_wp2_with fail
      rw [HWB.out]
      refine (mark_text q2 wb HQ2.out.1 HQ2.out.2).mono ?_
      rintro e w1 ⟨rfl, hb⟩
      have hO1 := HB.out.kept hb
      have hB1 := hO1.stored (y := r3) (j := 2) (u := .string v1) HR2.out (by decide) HR23.out
      rw [List.set_set] at hB1
      have d2 := hO1.cell HR2.out (j := 2) rfl
      have f2 := hO1.free (k * 5 + 2)
      simp only [keyR] at d2 hB1
      obtain ⟨wc, hwc⟩ : ∃ wc, w1.setCell ⟨g, k * 5 + 2, none⟩ (.string v1) = wc := ⟨_, rfl⟩
      rw [hwc] at hB1
      have HC := Lib.hid hB1.1
      have CC : Hid (Writ (fun b => b = g) wr wc) := Lib.hid ((CB.out.trans (Writ.one (gr_belowK (row := none) hb) (fun _ e => by cases e))).trans (Writ.one hB1.2 (fun b e => (Option.some.inj e).symm)))
      have HWC := Lib.hid hwc
      have d3 := HC.out.cell HR3.out (j := 3) (u := .slice AS nS cS) (by rw [← HR3e.out]; rfl)
      simp only [keyR] at d3
      have HOSC := Lib.hid (HOS0.out.writ CC.out (fun b e h => (HF1.out b e).2.2 h))
      rw [HV1.out]
      clear d0 d1 f0 f1' hb hO1 hB1
      go_wp2_with fail
      try rw [HWC.out]
      refine (mark_spans q3 q4 AS cS nS 0 S wc HSL.out HOSC.out HNS.out HQ3.out.1 HQ3.out.2).mono ?_
      rintro e w3 ⟨rfl, hown, hg⟩
      have HOS3 := Lib.hid hown
      have C3 : Hid (Writ (fun b => b = g ∨ Value.ownBlock (.slice AS nS cS) = some b) wr w3) := Lib.hid ((CC.out.mono (fun b h => .inl h)).trans (Writ.one hg (fun b e => .inr e)))
      have HROW3 := Lib.hid (HC.out.writ (Writ.one (S := fun b => b ≠ g) hg (fun b e => (HF1.out b e).2.2)) (fun b e h => h (Option.some.inj e).symm))
      have HK3 := Lib.hid (HOK0.out.writ C3.out (fun b e h => h.elim (HF2.out b e).2.2.1 (HF2.out b e).2.2.2))
      have HC3 := Lib.hid (KOs.writ C3.out cs rc Qc (fun b hb h => h.elim (HF3.out b hb).2 (fun h => (HF1.out b h).2.1 hb)) HKC0.out)
      have d4 := HROW3.out.cell HR3.out (j := 4) (u := .slice AK nK cK) (by rw [← HR3e.out]; rfl)
      simp only [keyR] at d4
      clear d2 f2 d3 hown hg hwc
      go_wp2_with fail
      refine (HIH.out q4 r4 AK nK cK Qc cs rc w3 HNOD.out HK3.out (fun b e => (HF2.out b e).2.1) HC3.out HR4.out.2.2.1 HR4.out.1 HR4.out.2.1).mono ?_
      rintro e w4 ⟨rfl, rc4, ho4, hk4, hw4⟩
      have HROW4 := Lib.hid (HROW3.out.writ hw4 (fun b e h => by
        have hbg : b = g := (Option.some.inj e).symm
        exact h.elim (fun h => (HF3.out b h).2 hbg) (fun h => (HF2.out b h).2.2.1 hbg)))
      have HS4 := Lib.hid (HOS3.out.writ hw4 (fun b e h => h.elim (HF1.out b e).2.1 (fun h => (HF2.out b h).2.2.2 e)))
      have C4 : Hid (Writ (fun b => b = g ∨ Qi b) wr w4) := Lib.hid ((C3.out.mono (fun b h => h.elim .inl (fun h => .inr (HF1.out b h).1))).trans (hw4.mono (fun b h => .inr (h.elim (fun h => (HF3.out b h).1) (fun h => (HF2.out b h).1)))))
      have hfin := HPUT.out w4 (z : Int) (q1 : Int) v1 (mkP q3 nS) (mkL q4 cs) rc4 C4.out (by rw [← HV1.out]; exact mt_size HQ2.out.2) HS4.out ho4 hk4
      rw [← HV1.out, ← HY.out, HEND.out, HV1.out, HR3e.out] at hfin
      have HFIN := Lib.hid hfin
      have CG := Lib.hid (HG.out.trans (C4.out.mono (S' := fun b => Q b ∨ Value.ownBlock (.slice (some ⟨g, 0, none⟩) N cap) = some b) (fun b h => h.elim (fun h => .inr (by rw [h]; rfl)) (fun h => .inl (HF4.out b h).1))))
      clear d4 ho4 hk4 hw4 hfin
      go_wp2
      go_roundw
      case rel => exact ⟨k + 1, r4, by omega, by go_num, by go_num, Lib.hid HR4.out.2.2.2, CG, Lib.hid ⟨_, HROW4.out, HFIN.out⟩⟩
      case measure => simp [intOf]; omega
    · have h5 : ¬ (k : Int) < (N : Int) := by omega
      have hkn : k = N := by omega
      obtain ⟨rsk, hrow, hkos⟩ := HW.out
      have hz := HZ.out
      rw [hkn, List.drop_of_length_le (by rw [HN.out]; exact Nat.le_refl _), List.append_nil, List.take_of_length_le (by rw [HN.out]; exact Nat.le_refl _)] at hkos
      rw [hkn, List.take_of_length_le (by rw [HN.out]; exact Nat.le_refl _), HR.out] at hz
      have HKE := Lib.hid hkos
      have HRE := Lib.hid hrow
      have HZ2 := Lib.hid hz
      clear hkos hrow hkn hz
      go_wp2
      go_ret
      refine ⟨?_, _, HRE.out, HKE.out, HG.out⟩
      rw [HZ2.out]
      rfl
theorem mark_keys : ∀ (n0 s r : Nat) (A : Option Addr) (N cap : Nat) (Q : Nat → Prop) (ks : List KT) (rs : List KR) (w : World), nodesL ks ≤ n0 → ROwn keyR w 0 (.slice A N cap) rs → (∀ g, Value.ownBlock (.slice A N cap) = some g → ¬ Q g) → KOs w Q ks rs → 0 < s → s + cL ks = r → r ≤ 90000000 →
    Calls Tryz.prog 41 #[.slice A N cap, .int .i64 (s : Int)] w (MkL w s r A N cap Q ks)
  | 0, s, r, A, N, cap, Q, ks, rs, w, hn, h1, h2, h3, h4, h5, h6 => mark_keys_step (n0 := 0) (fun _ _ _ _ _ _ _ _ _ h => absurd h (Nat.not_lt_zero _)) s r A N cap Q ks rs w hn h1 h2 h3 h4 h5 h6
  | n + 1, s, r, A, N, cap, Q, ks, rs, w, hn, h1, h2, h3, h4, h5, h6 => mark_keys_step (n0 := n + 1) (fun s r A N cap Q ks rs w h => mark_keys n s r A N cap Q ks rs w (by omega)) s r A N cap Q ks rs w hn h1 h2 h3 h4 h5 h6
end Go.Proofs.YtnfigpknejmkmaaGreatDoor
namespace Go.Proofs.YtnfigpknejmkmaaGreatDoor
open Go.RowKit
set_option linter.unusedVariables false
set_option linter.unusedSimpArgs false

theorem below_wr {w wr w2 : World} (h : Below w.heap.size w wr) (h2 : Below wr.heap.size wr w2) : Below w.heap.size w w2 := h.trans (h2.mono h.size)
set_option maxRecDepth 20000 in
set_option maxHeartbeats 8000000 in
theorem held_keys_step {n0 : Nat} (ih : ∀ (s r : Nat) (A : Option Addr) (N cap : Nat) (ks : List KT) (w : World), nodesL ks < n0 → KVs w A 0 (mkL s ks) → ks.length = N → 0 < s → s + cL ks = r → r ≤ 90000000 →
      Calls Tryz.prog 43 #[.slice A N cap, .int .i64 (s : Int)] w fun e w' => e = .returned (.int .i64 (r : Int)) ∧ Below w.heap.size w w')
    (s r : Nat) (A : Option Addr) (N cap : Nat) (ks : List KT) (w : World) (hn0 : nodesL ks ≤ n0) (hk : KVs w A 0 (mkL s ks)) (hn : ks.length = N) (hs : 0 < s) (hr : s + cL ks = r) (hr2 : r ≤ 90000000) :
    Calls Tryz.prog 43 #[.slice A N cap, .int .i64 (s : Int)] w fun e w' => e = .returned (.int .i64 (r : Int)) ∧ Below w.heap.size w w' := by
  have HN := Lib.hid hn
  have HK := Lib.hid hk
  have HR := Lib.hid hr
  have HN0 := Lib.hid hn0
  have HIH := Lib.hid ih
  have hn9 : N ≤ 90000000 := by
    have h1 := cL_len ks
    omega
  clear hk hr hn0 ih hn
  go_enter Tryz.func43, Tryz.ntmps43
  go_wp2
  go_loopw [1, 5] (fun m i wr => ∃ k z : Nat, k ≤ N ∧ m = .int .i64 (z : Int) ∧ i = .int .i64 (k : Int) ∧ Hid (z = s + cL (ks.take k)) ∧ Hid (Below w.heap.size w wr)) (fun _ i _ => N - (intOf i).toNat)
  case atStart => exact ⟨0, s, Nat.zero_le _, by go_num, by go_num, Lib.hid (by rw [List.take_zero, cL]; rfl), Lib.hid (Below.refl _ _)⟩
  case round =>
    obtain ⟨k, z, hk, rfl, rfl, HZ, HB⟩ := hrel
    by_cases hlt : k < N
    · have h0 : (0 : Int) ≤ (k : Int) := by omega
      have h5 : (k : Int) < (N : Int) := by omega
      obtain ⟨y, hy⟩ : ∃ y, ks[k]? = some y := ⟨_, List.getElem?_eq_getElem (by rw [HN.out]; exact hlt)⟩
      obtain ⟨kd, f, t, S, cs⟩ := y
      have hone := cL_one hy
      have hcT : cT (.mk kd f t S cs) = 3 + 2 * S.length + cL cs := by rw [cT]
      have htk := cL_take ks (k + 1)
      have HNOD : Hid (nodesL cs < n0) := Lib.hid (by
        have h1 := nodesL_get hy
        rw [nodesT] at h1
        have h2 := HN0.out
        omega)
      have hat := mkL_at hy s
      rw [← HZ.out, mkT] at hat
      obtain ⟨b, o, v0, v1, v2, v3, v4, rfl, hbz, c0, c1, c2, c3, c4, hkv⟩ := (KVs.below HB.out (Nat.le_refl _) _ _ _ HK.out).get hat
      obtain ⟨AS, nS, cS, AK, nK, cK, he, a2, a3, a4, a5, a6, a7⟩ := hkv.open
      simp only [Value.agg.injEq, Array.mk.injEq, List.cons.injEq, and_true] at he
      obtain ⟨rfl, rfl, rfl, rfl, rfl⟩ := he
      rw [mkP_len] at a2
      rw [mkL_len] at a6
      rw [Nat.zero_add] at c0 c1 c2 c3 c4
      obtain ⟨q1, hq1⟩ : ∃ q, z + 1 = q := ⟨_, rfl⟩
      obtain ⟨q2, hq2⟩ : ∃ q, z + 2 = q := ⟨_, rfl⟩
      obtain ⟨q3, hq3⟩ : ∃ q, z + 3 = q := ⟨_, rfl⟩
      obtain ⟨q4, hq4⟩ : ∃ q, q3 + 2 * nS = q := ⟨_, rfl⟩
      obtain ⟨r4, hr4⟩ : ∃ q, q4 + cL cs = q := ⟨_, rfl⟩
      rw [hq1] at c1
      rw [hq2] at c2
      rw [hq3, a2] at a5
      rw [hq3, a2, hq4] at a7
      have E1 : (z : Int) + 1 = (q1 : Int) := by omega
      have E2 : (q1 : Int) + 1 = (q2 : Int) := by omega
      have E3 : (q2 : Int) + 1 = (q3 : Int) := by omega
      have hz := HZ.out
      have hrr := HR.out
      have HR4 : Hid (q4 + cL cs = r4 ∧ r4 ≤ 90000000 ∧ 0 < q4 ∧ r4 = s + cL (ks.take (k + 1))) := Lib.hid ⟨hr4, by omega, by omega, by omega⟩
      have HQ2 : Hid (0 < q2 ∧ q2 ≤ 1000000000) := Lib.hid (by omega)
      have HQ3 : Hid (q3 ≤ 100000000 ∧ q3 + 2 * nS = q4) := Lib.hid ⟨by omega, hq4⟩
      have hzb : z ≤ 90000000 := by omega
      have hq1b : q1 ≤ 90000001 := by omega
      have hq2b : q2 ≤ 90000002 := by omega
      have hq3b : q3 ≤ 90000003 := by omega
      have q40 : ¬ (q4 : Int) < 0 := by omega
      have r40 : ¬ (r4 : Int) < 0 := by omega
      have hne0 : ((z : Int) != (z : Int)) = false := by simp
      have hne1 : ((q1 : Int) != (q1 : Int)) = false := by simp
      have HNS : Hid (nS ≤ 33554432) := Lib.hid a3
      have HA5 := Lib.hid a5
      have HA6 := Lib.hid a6
      have HA7 := Lib.hid a7
      obtain ⟨x2, hx2⟩ : ∃ v, rB (mt q2) = v := ⟨_, rfl⟩
      rw [hx2] at c2
      have HX2 := Lib.hid hx2
      have HC3 := Lib.hid c3
      have HC4 := Lib.hid c4
      clear hone hcT htk hat hkv a2 a3 a4 a5 a6 a7 hq1 hq2 hq3 hq4 hr4 hz hrr hy hx2 c3 c4
      go_wp2
      go_region_held3 (fun w' => w'.cell? ⟨b, o + k * 5 + 2, none⟩ = some (.string x2)) (first | exact c2 | go_keep)
        ((go_at_call 71; refine (mark_text q2 wr.drew HQ2.out.1 HQ2.out.2).mono ?_; rw [HX2.out]; rintro e w2 ⟨rfl, hb2⟩; have HBW := Lib.hid (below_eq (Below.refl wr.heap.size wr) hb2); have c2' := (HBW.out.cell (p := ⟨b, o + k * 5 + 2, none⟩) hbz).trans c2; have HY3 := Lib.hid ((HBW.out.cell (p := ⟨b, o + k * 5 + 3, none⟩) hbz).trans HC3.out); have HY4 := Lib.hid ((HBW.out.cell (p := ⟨b, o + k * 5 + 4, none⟩) hbz).trans HC4.out); clear hb2))
      all_goals
        have HB2 := Lib.hid (below_wr HB.out HBW.out)
        have HS2 := Lib.hid (HA5.out.below HBW.out (Nat.le_refl _))
        have HK2 := Lib.hid (KVs.below HBW.out (Nat.le_refl _) _ _ _ HA7.out)
        have hbz2 : b < w2.heap.size := Nat.lt_of_lt_of_le hbz HBW.out.size
        have x3 := HY3.out
        clear c0 c1 c2 c2'
        go_wp2_with fail
        refine (held_spans q3 q4 AS cS nS w2 HS2.out HNS.out HQ3.out.1 HQ3.out.2).mono ?_
        rintro e w3 ⟨rfl, rfl⟩
        have x4 := HY4.out
        clear x3
        go_wp2_with fail
        refine (HIH.out q4 r4 AK nK cK cs w2 HNOD.out HK2.out HA6.out HR4.out.2.2.1 HR4.out.1 HR4.out.2.1).mono ?_
        rintro e w5 ⟨rfl, hb5⟩
        have HB5 := Lib.hid (below_wr HB2.out hb5)
        clear hb5 x4
        go_wp2
        go_roundw
        case rel => exact ⟨k + 1, r4, by omega, by go_num, by go_num, Lib.hid HR4.out.2.2.2, HB5⟩
        case measure => simp [intOf]; omega
    · have h5 : ¬ (k : Int) < (N : Int) := by omega
      have hkn : k = N := by omega
      have hz := HZ.out
      rw [hkn, List.take_of_length_le (by rw [HN.out]; exact Nat.le_refl _), HR.out] at hz
      have HZ2 := Lib.hid hz
      clear hkn hz
      go_wp2
      go_ret
      refine ⟨?_, HB.out⟩
      rw [HZ2.out]
      rfl
theorem held_keys : ∀ (n0 s r : Nat) (A : Option Addr) (N cap : Nat) (ks : List KT) (w : World), nodesL ks ≤ n0 → KVs w A 0 (mkL s ks) → ks.length = N → 0 < s → s + cL ks = r → r ≤ 90000000 →
    Calls Tryz.prog 43 #[.slice A N cap, .int .i64 (s : Int)] w fun e w' => e = .returned (.int .i64 (r : Int)) ∧ Below w.heap.size w w'
  | 0, s, r, A, N, cap, ks, w, hn, h1, h2, h3, h4, h5 => held_keys_step (n0 := 0) (fun _ _ _ _ _ _ _ h => absurd h (Nat.not_lt_zero _)) s r A N cap ks w hn h1 h2 h3 h4 h5
  | n + 1, s, r, A, N, cap, ks, w, hn, h1, h2, h3, h4, h5 => held_keys_step (n0 := n + 1) (fun s r A N cap ks w h => held_keys n s r A N cap ks w (by omega)) s r A N cap ks w hn h1 h2 h3 h4 h5
/-- A key by itself that is marked. -/
def mkY (s : Nat) : KT → KT
  | .mk kd f t S ks => .mk kd f t (mkP s S.length) (mkL (s + 2 * S.length) ks)
def cY : KT → Nat
  | .mk _ _ _ S ks => 2 * S.length + cL ks
set_option maxHeartbeats 4000000 in
theorem mark_key (s r : Nat) (P : Nat → Prop) (K : KT) (x : KR) (w : World) (h : KO w P K (kval x)) (hP : ∀ b, P b → b < w.heap.size) (hs : 0 < s) (hr : s + cY K = r) (hr2 : r ≤ 90000000) :
    Calls Tryz.prog 13 #[kval x, .int .i64 (s : Int)] w fun e w' => e = .returned (.int .i64 (r : Int)) ∧ KO w' P (mkY s K) (kval x) ∧ Writ P w w' := by
  obtain ⟨kd, f, t, S, ks⟩ := K
  rw [KO] at h
  obtain ⟨AS, nS, cS, AK, nK, cK, rs, Q, e1, e2, e3, e4, e5, e6, e7, e8, e9⟩ := h
  have := kval_inj e1
  subst this
  have hl : S.length = nS := by
    obtain ⟨A2, c2, he, -⟩ := e4.form
    simp only [Value.slice.injEq] at he
    exact he.2.1.symm
  rw [cY] at hr
  obtain ⟨q4, hq4⟩ : ∃ q, s + 2 * nS = q := ⟨_, rfl⟩
  have HQ4 : Hid (s + 2 * nS = q4 ∧ q4 + cL ks = r ∧ 0 < q4 ∧ s ≤ 100000000) := Lib.hid (by omega)
  have HL := Lib.hid hl
  have HR2 := Lib.hid hr2
  have HNS := Lib.hid e2
  have HT := Lib.hid e3
  obtain ⟨D, hD⟩ : ∃ D, w.heap.size = D := ⟨_, rfl⟩
  obtain ⟨w0, hw0⟩ : ∃ z, w.alloc (.cells #[.int .i64 kd, .int .i64 f, .string t, .slice AS nS cS, .slice AK nK cK] 27) = z := ⟨_, rfl⟩
  have HDD := Lib.hid hD
  have HW0 := Lib.hid hw0
  have hb0 : Below w.heap.size w w0 := by rw [← hw0]; exact below_newK w _
  have HX0 : Hid (Whole w0 D 27 #[.int .i64 kd, .int .i64 f, .string t, .slice AS nS cS, .slice AK nK cK]) := Lib.hid (by rw [← hw0, ← hD]; exact Whole.made w _ _)
  have C0 : Hid (Writ P w w0) := Lib.hid (Writ.one (gr_belowK (row := none) hb0) (fun _ e => by cases e))
  have HPD : Hid (∀ b, P b → b ≠ D) := Lib.hid (fun b hb e => by have := hP b hb; omega)
  have CN : Hid (Writ (fun _ => False) w w0) := Lib.hid (Writ.one (gr_belowK (row := none) hb0) (fun _ e => by cases e))
  have HS0 := Lib.hid (e4.writ CN.out (fun _ _ h => h))
  have HK0 := Lib.hid (e5.writ CN.out (fun _ _ h => h))
  have HC0 := Lib.hid (KOs.writ CN.out ks rs Q (fun _ _ h => h) e9)
  have H6 := Lib.hid e6
  have H7 := Lib.hid e7
  have H8 := Lib.hid e8
  clear hD hw0 hb0 e2 e3 e4 e5 e6 e7 e8 e9 hl hP
  have xc3 := HX0.out.cell 3
  have xc4 := HX0.out.cell 4
  simp only [List.getElem?_toArray, List.getElem?_cons_zero, List.getElem?_cons_succ] at xc3 xc4
  go_enter Tryz.func13, Tryz.ntmps13
  go_wp2_with fail
  try rw [HDD.out]
  try rw [HW0.out]
  refine (mark_spans s q4 AS cS nS 0 S w0 HL.out HS0.out HNS.out HQ4.out.2.2.2 HQ4.out.1).mono ?_
  rintro e w3 ⟨rfl, hown, hg⟩
  have HS3 := Lib.hid hown
  have C3 : Hid (Writ (fun b => Value.ownBlock (.slice AS nS cS) = some b) w0 w3) := Lib.hid (Writ.one hg (fun b e => e))
  have HX3 := Lib.hid (HX0.out.writ C3.out (fun e => HPD.out D (H6.out D e).1 rfl))
  have HK3 := Lib.hid (HK0.out.writ C3.out (fun b e h => (H7.out b e).2.2 h))
  have HC3 := Lib.hid (KOs.writ C3.out ks rs Q (fun b hb h => (H6.out b h).2 hb) HC0.out)
  clear hown hg xc3 xc4
  have xc4 := HX3.out.cell 4
  simp only [List.getElem?_toArray, List.getElem?_cons_zero, List.getElem?_cons_succ] at xc4
  go_wp2_with fail
  refine (mark_keys (nodesL ks) q4 r AK nK cK Q ks rs w3 (Nat.le_refl _) HK3.out (fun b e => (H7.out b e).2.1) HC3.out HQ4.out.2.2.1 HQ4.out.2.1 HR2.out).mono ?_
  rintro e w4 ⟨rfl, rc4, ho4, hk4, hw4⟩
  have HS4 := Lib.hid (HS3.out.writ hw4 (fun b e h => h.elim (H6.out b e).2 (fun h => (H7.out b h).2.2 e)))
  have C4 : Hid (Writ P w w4) := Lib.hid ((C0.out.trans (C3.out.mono (fun b h => (H6.out b h).1))).trans (hw4.mono (fun b h => h.elim (H8.out b) (fun h => (H7.out b h).1))))
  have HF : Hid (KO w4 P (mkY s (.mk kd f t S ks)) (kval (kd, f, t, (AS, nS, cS), (AK, nK, cK)))) := Lib.hid (by
    rw [mkY, KO, HL.out, HQ4.out.1]
    exact ⟨AS, nS, cS, AK, nK, cK, rc4, Q, rfl, HNS.out, HT.out, HS4.out, ho4, H6.out, H7.out, H8.out, hk4⟩)
  clear ho4 hk4 hw4 xc4
  go_wp2
  go_ret
  exact ⟨rfl, HF.out, C4.out⟩
set_option maxHeartbeats 4000000 in
theorem held_key (s r : Nat) (K : KT) (x : KR) (w : World) (h : KV w (mkY s K) (kval x)) (hs : 0 < s) (hr : s + cY K = r) (hr2 : r ≤ 90000000) :
    Calls Tryz.prog 14 #[kval x, .int .i64 (s : Int)] w fun e w' => e = .returned (.int .i64 (r : Int)) ∧ Below w.heap.size w w' := by
  obtain ⟨kd, f, t, S, ks⟩ := K
  rw [mkY] at h
  obtain ⟨AS, nS, cS, AK, nK, cK, e1, a2, a3, a4, a5, a6, a7⟩ := h.open
  have := kval_inj (b := (kd, f, t, (AS, nS, cS), (AK, nK, cK))) e1
  subst this
  rw [mkP_len] at a2
  rw [mkL_len] at a6
  rw [cY] at hr
  rw [a2] at a5 a7 hr
  obtain ⟨q4, hq4⟩ : ∃ q, s + 2 * nS = q := ⟨_, rfl⟩
  rw [hq4] at a7
  have HQ4 : Hid (s + 2 * nS = q4 ∧ q4 + cL ks = r ∧ 0 < q4 ∧ s ≤ 100000000) := Lib.hid (by omega)
  have q40 : ¬ (q4 : Int) < 0 := by omega
  have r40 : ¬ (r : Int) < 0 := by omega
  have HR2 := Lib.hid hr2
  have HNS := Lib.hid a3
  have HA6 := Lib.hid a6
  obtain ⟨D, hD⟩ : ∃ D, w.heap.size = D := ⟨_, rfl⟩
  obtain ⟨w0, hw0⟩ : ∃ z, w.alloc (.cells #[.int .i64 kd, .int .i64 f, .string t, .slice AS nS cS, .slice AK nK cK] 27) = z := ⟨_, rfl⟩
  have HDD := Lib.hid hD
  have HW0 := Lib.hid hw0
  have hb0 : Below w.heap.size w w0 := by rw [← hw0]; exact below_newK w _
  have HB0 := Lib.hid hb0
  have HX0 : Hid (Whole w0 D 27 #[.int .i64 kd, .int .i64 f, .string t, .slice AS nS cS, .slice AK nK cK]) := Lib.hid (by rw [← hw0, ← hD]; exact Whole.made w _ _)
  have HS0 := Lib.hid (a5.below hb0 (Nat.le_refl _))
  have HK0 := Lib.hid (KVs.below hb0 (Nat.le_refl _) _ _ _ a7)
  clear hD hw0 hb0 a2 a3 a4 a5 a6 a7 hq4 hr e1
  have xc3 := HX0.out.cell 3
  have xc4 := HX0.out.cell 4
  simp only [List.getElem?_toArray, List.getElem?_cons_zero, List.getElem?_cons_succ] at xc3 xc4
  go_enter Tryz.func14, Tryz.ntmps14
  go_wp2_with fail
  try rw [HDD.out]
  try rw [HW0.out]
  refine (held_spans s q4 AS cS nS w0 HS0.out HNS.out HQ4.out.2.2.2 HQ4.out.1).mono ?_
  rintro e w3 ⟨rfl, rfl⟩
  go_wp2_with fail
  refine (held_keys (nodesL ks) q4 r AK nK cK ks w0 (Nat.le_refl _) HK0.out HA6.out HQ4.out.2.2.1 HQ4.out.2.1 HR2.out).mono ?_
  rintro e w4 ⟨rfl, hb4⟩
  have HB4 := Lib.hid (below_wr HB0.out hb4)
  clear hb4
  go_wp2
  go_ret
  exact ⟨rfl, HB4.out⟩
end Go.Proofs.YtnfigpknejmkmaaGreatDoor
