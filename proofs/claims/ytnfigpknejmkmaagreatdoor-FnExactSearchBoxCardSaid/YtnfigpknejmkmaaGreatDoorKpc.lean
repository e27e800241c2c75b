/-
  Koa, Koe, Koh, Koi, Kol, Bx, Kom in one text. Conditions: each contract's own.
-/
import Derived.Test.YtnfigpknejmkmaaGreatDoorKmy
import Derived.Maps.AppendAt
import Derived.OwnWalk
import Derived.Laws.OwnMore
import Derived.Deep.RegionHeld3
import Derived.Outline
import Derived.Test.YtnfigpknejmkmaaGreatDoorKpa
import Derived.BigQuiet
import Derived.Deep.Slices
import Derived.Deep.SlicePairs
import Derived.ChangeArms
import Derived.Test.YtnfigpknejmkmaaGreatDoorKpb
import Derived.Test.YtnfigpknejmkmaaGreatDoorLawa
namespace Go.Proofs.YtnfigpknejmkmaaGreatDoor
open Go.RowKit
set_option linter.unusedVariables false

/-- What is written lies in some blocks alone: step by step. -/
inductive Writ (S : Nat → Prop) : World → World → Prop
  | refl (w : World) : Writ S w w
  | step {w w1 w2 : World} {row : Option Nat} (h : w.grownBy w1 row) (hr : ∀ g, row = some g → S g) (h2 : Writ S w1 w2) : Writ S w w2
section
variable {S S' : Nat → Prop} {w w' w2 : World}
theorem Writ.trans (h : Writ S w w') (h2 : Writ S w' w2) : Writ S w w2 := by
  induction h with
  | refl _ => exact h2
  | step hg hr _ ih => exact .step hg hr (ih h2)
theorem Writ.one {row : Option Nat} (h : w.grownBy w' row) (hr : ∀ g, row = some g → S g) : Writ S w w' := .step h hr (.refl _)
theorem Writ.mono (h : Writ S w w') (hs : ∀ g, S g → S' g) : Writ S' w w' := by
  induction h with
  | refl _ => exact .refl _
  | step hg hr _ ih => exact .step hg (fun g e => hs g (hr g e)) ih
theorem Writ.under {w0 : World} {B : Nat} (h : Writ S w w') (hb : Below B w0 w) (hB : B ≤ w.heap.size) (hs : ∀ g, S g → B ≤ g) : Below B w0 w' := by
  induction h with
  | refl _ => exact hb
  | step hg hr _ ih => exact ih (hb.grown hg hB (fun k e => hs k (hr k e))) (Nat.le_trans hB hg.size)
theorem Writ.size (h : Writ S w w') : w.heap.size ≤ w'.heap.size := by
  induction h with
  | refl _ => exact Nat.le_refl _
  | step hg _ _ ih => exact Nat.le_trans hg.size ih
theorem Whole.writ {b : Nat} {t : TypeId} {cs : Array Value} (h : Whole w b t cs) (hc : Writ S w w') (hs : ¬ S b) : Whole w' b t cs := by
  induction hc with
  | refl _ => exact h
  | step hg hr _ ih => exact ih (h.grown hg (fun e => hs (hr b e.symm)))
theorem ROwn.writ {α : Type} {R : RowT α} {B : Nat} {v : Value} {K : List α} (h : ROwn R w B v K) (hc : Writ S w w') (hs : ∀ g, v.ownBlock = some g → ¬ S g) : ROwn R w' B v K := by
  induction hc with
  | refl _ => exact h
  | step hg hr _ ih =>
    refine ih (h.apart hg ?_)
    cases hv : v.ownBlock with
    | none => exact .inl rfl
    | some g => exact .inr (fun e => hs g hv (hr g e.symm))
theorem Own.writ {B : Nat} {v : Value} {K : List (Int × Int)} (h : Own w B v K) (hc : Writ S w w') (hs : ∀ g, v.ownBlock = some g → ¬ S g) : Own w' B v K := by
  induction hc with
  | refl _ => exact h
  | step hg hr _ ih =>
    refine ih (World.ownsRow.kept h hg ?_)
    cases hv : v.ownBlock with
    | none => exact .inl rfl
    | some g => exact .inr (fun e => hs g hv (hr g e.symm))
theorem KA.writ {lo hi : Nat} {k : KT} {v : Value} (h : KA lo hi w k v) (hc : Writ S w w') (hs : ∀ g, S g → g < lo ∨ hi ≤ g) : KA lo hi w' k v := by
  induction hc with
  | refl _ => exact h
  | step hg hr _ ih => exact ih (h.grown hg (fun g e => hs g (hr g e)))
end
mutual
/-- A key whose memory is the call's own and lies in some blocks, no two of its rows in one block. -/
def KO (w : World) : (Nat → Prop) → KT → Value → Prop
  | P, .mk kd f t S ks, v => ∃ (AS : Option Addr) (nS cS : Nat) (AK : Option Addr) (nK cK : Nat) (rs : List KR) (Q : Nat → Prop), v = kval (kd, f, t, (AS, nS, cS), (AK, nK, cK)) ∧ nS ≤ 33554432 ∧ t.size ≤ 16777216 ∧ Own w 0 (.slice AS nS cS) S ∧ ROwn keyR w 0 (.slice AK nK cK) rs ∧
      (∀ g, Value.ownBlock (.slice AS nS cS) = some g → P g ∧ ¬ Q g) ∧ (∀ g, Value.ownBlock (.slice AK nK cK) = some g → P g ∧ ¬ Q g ∧ Value.ownBlock (.slice AS nS cS) ≠ some g) ∧ (∀ b, Q b → P b) ∧ KOs w Q ks rs
def KOs (w : World) : (Nat → Prop) → List KT → List KR → Prop
  | _, [], rs => rs = []
  | Q, k :: ks, rs => ∃ (r : KR) (s : List KR) (Q1 Q2 : Nat → Prop), rs = r :: s ∧ (∀ b, Q1 b → Q b ∧ ¬ Q2 b) ∧ (∀ b, Q2 b → Q b) ∧ KO w Q1 k (kval r) ∧ KOs w Q2 ks s
end
theorem KO.mono {w : World} {P P' : Nat → Prop} (hp : ∀ b, P b → P' b) : ∀ {k : KT} {v : Value}, KO w P k v → KO w P' k v
  | .mk kd f t S ks, v, h => by
    rw [KO] at h ⊢
    obtain ⟨AS, nS, cS, AK, nK, cK, rs, Q, h1, h2, h3, h4, h5, h6, h7, h8, h9⟩ := h
    exact ⟨AS, nS, cS, AK, nK, cK, rs, Q, h1, h2, h3, h4, h5, fun g e => ⟨hp g (h6 g e).1, (h6 g e).2⟩, fun g e => ⟨hp g (h7 g e).1, (h7 g e).2⟩, fun b hb => hp b (h8 b hb), h9⟩
theorem KOs.mono {w : World} {P P' : Nat → Prop} (hp : ∀ b, P b → P' b) : ∀ {ks : List KT} {rs : List KR}, KOs w P ks rs → KOs w P' ks rs
  | [], rs, h => by
    rw [KOs] at h ⊢
    exact h
  | k :: ks, rs, h => by
    rw [KOs] at h ⊢
    obtain ⟨r, s, Q1, Q2, h1, h2, h3, h4, h5⟩ := h
    exact ⟨r, s, Q1, Q2, h1, fun b hb => ⟨hp b (h2 b hb).1, (h2 b hb).2⟩, fun b hb => hp b (h3 b hb), h4, h5⟩
mutual
theorem KO.writ {w w' : World} {S : Nat → Prop} (hc : Writ S w w') : ∀ (k : KT) (v : Value) (P : Nat → Prop), (∀ b, P b → ¬ S b) → KO w P k v → KO w' P k v
  | .mk kd f t Sp ks, v, P, hs, h => by
    rw [KO] at h ⊢
    obtain ⟨AS, nS, cS, AK, nK, cK, rs, Q, h1, h2, h3, h4, h5, h6, h7, h8, h9⟩ := h
    exact ⟨AS, nS, cS, AK, nK, cK, rs, Q, h1, h2, h3, h4.writ hc (fun g e => hs g (h6 g e).1), h5.writ hc (fun g e => hs g (h7 g e).1), h6, h7, h8, KOs.writ hc ks rs Q (fun b hb => hs b (h8 b hb)) h9⟩
theorem KOs.writ {w w' : World} {S : Nat → Prop} (hc : Writ S w w') : ∀ (ks : List KT) (rs : List KR) (P : Nat → Prop), (∀ b, P b → ¬ S b) → KOs w P ks rs → KOs w' P ks rs
  | [], rs, P, hs, h => by
    rw [KOs] at h ⊢
    exact h
  | k :: ks, rs, P, hs, h => by
    rw [KOs] at h ⊢
    obtain ⟨r, s, Q1, Q2, h1, h2, h3, h4, h5⟩ := h
    exact ⟨r, s, Q1, Q2, h1, h2, h3, KO.writ hc k _ Q1 (fun b hb => hs b (h2 b hb).1) h4, KOs.writ hc ks s Q2 (fun b hb => hs b (h3 b hb)) h5⟩
end
theorem KOs.len {w : World} : ∀ {ks : List KT} {rs : List KR} {P : Nat → Prop}, KOs w P ks rs → ks.length = rs.length
  | [], rs, P, h => by
    rw [KOs] at h
    rw [h]
    rfl
  | k :: ks, rs, P, h => by
    rw [KOs] at h
    obtain ⟨r, s, Q1, Q2, h1, h2, h3, h4, h5⟩ := h
    rw [h1, List.length_cons, List.length_cons, KOs.len h5]
mutual
theorem KO.kv {w : World} : ∀ (k : KT) (v : Value) (P : Nat → Prop), KO w P k v → KV w k v
  | .mk kd f t S ks, v, P, h => by
    rw [KO] at h
    rw [KV]
    obtain ⟨AS, nS, cS, AK, nK, cK, rs, Q, h1, h2, h3, h4, h5, h6, h7, h8, h9⟩ := h
    have hk := KOs.krs ks rs Q h9
    obtain ⟨A2, c2, he, -, -, hs⟩ := h4.form
    simp only [Value.slice.injEq] at he
    obtain ⟨rfl, e2, rfl⟩ := he
    exact ⟨AS, nS, cS, AK, nK, cK, h1, e2.symm, h2, h3, hs, by rw [hk.len]; exact h5.len.1.symm, RAt.kvs h5.at (fun j r hj => by rw [Nat.zero_add]; exact hj) hk⟩
theorem KOs.krs {w : World} : ∀ (ks : List KT) (rs : List KR) (P : Nat → Prop), KOs w P ks rs → KRs (KV w) ks rs
  | [], rs, P, h => by
    rw [KOs] at h
    exact h
  | k :: ks, rs, P, h => by
    rw [KOs] at h
    obtain ⟨r, s, Q1, Q2, h1, h2, h3, h4, h5⟩ := h
    exact ⟨r, s, h1, KO.kv k _ Q1 h4, KOs.krs ks s Q2 h5⟩
end
theorem KOs.push {w : World} : ∀ {ks : List KT} {rs : List KR} {P P1 : Nat → Prop} {k : KT} {r : KR}, KOs w P ks rs → KO w P1 k (kval r) → (∀ b, P b → ¬ P1 b) → KOs w (fun b => P b ∨ P1 b) (ks ++ [k]) (rs ++ [r])
  | [], rs, P, P1, k, r, h, h1, hd => by
    rw [KOs] at h
    subst h
    show KOs w _ [k] [r]
    rw [KOs]
    exact ⟨r, [], P1, fun _ => False, rfl, fun b hb => ⟨.inr hb, id⟩, fun b hb => hb.elim, h1, by rw [KOs]⟩
  | y :: ks, rs, P, P1, k, r, h, h1, hd => by
    rw [KOs] at h
    obtain ⟨r0, s, Q1, Q2, rfl, h2, h3, h4, h5⟩ := h
    show KOs w _ (y :: (ks ++ [k])) (r0 :: (s ++ [r]))
    rw [KOs]
    exact ⟨r0, s ++ [r], Q1, fun b => Q2 b ∨ P1 b, rfl, fun b hb => ⟨.inl (h2 b hb).1, fun h => h.elim (h2 b hb).2 (hd b (h2 b hb).1)⟩, fun b hb => hb.elim (fun h => .inl (h3 b h)) .inr, h4, KOs.push h5 h1 (fun b hb => hd b (h3 b hb))⟩
/-- One of the keys in focus: it may be written to, and the others stay. -/
theorem KOs.focus {w : World} : ∀ {ks : List KT} {rs : List KR} {Q : Nat → Prop} {i : Nat} {k : KT}, KOs w Q ks rs → ks[i]? = some k →
    ∃ (r : KR) (Qi : Nat → Prop), rs[i]? = some r ∧ (∀ b, Qi b → Q b) ∧ KO w Qi k (kval r) ∧ ∀ (w' : World) (k' : KT) (r' : KR) (S : Nat → Prop), Writ S w w' → (∀ b, S b → Q b → Qi b) → KO w' Qi k' (kval r') → KOs w' Q (ks.set i k') (rs.set i r')
  | [], rs, Q, i, k, h, hi => by simp at hi
  | y :: ks, rs, Q, 0, k, h, hi => by
    rw [KOs] at h
    obtain ⟨r0, s, Q1, Q2, rfl, h2, h3, h4, h5⟩ := h
    simp only [List.getElem?_cons_zero, Option.some.injEq] at hi
    subst hi
    refine ⟨r0, Q1, rfl, fun b hb => (h2 b hb).1, h4, fun w' k' r' S hc hS hk => ?_⟩
    show KOs w' Q (k' :: ks) (r' :: s)
    rw [KOs]
    exact ⟨r', s, Q1, Q2, rfl, h2, h3, hk, KOs.writ hc ks s Q2 (fun b hb hs => (h2 b (hS b hs (h3 b hb))).2 hb) h5⟩
  | y :: ks, rs, Q, i + 1, k, h, hi => by
    rw [KOs] at h
    obtain ⟨r0, s, Q1, Q2, rfl, h2, h3, h4, h5⟩ := h
    obtain ⟨r, Qi, h6, h7, h8, h9⟩ := KOs.focus h5 (show ks[i]? = some k by simpa using hi)
    refine ⟨r, Qi, by simpa using h6, fun b hb => h3 b (h7 b hb), h8, fun w' k' r' S hc hS hk => ?_⟩
    show KOs w' Q (y :: ks.set i k') (r0 :: s.set i r')
    rw [KOs]
    refine ⟨r0, s.set i r', Q1, Q2, rfl, h2, h3, KO.writ hc y _ Q1 (fun b hb hs => ?_) h4, h9 w' k' r' S hc (fun b hs hb => hS b hs (h3 b hb)) hk⟩
    exact (h2 b hb).2 (h7 b (hS b hs (h2 b hb).1))
/-- The key's own memory lies in a window. -/
def KW (lo hi : Nat) (w : World) (k : KT) (v : Value) : Prop := KO w (fun b => lo ≤ b ∧ b < hi) k v
theorem KW.grown {lo hi : Nat} {w w' : World} {row : Option Nat} {k : KT} {v : Value} (h : KW lo hi w k v) (hg : w.grownBy w' row) (hr : ∀ g, row = some g → g < lo ∨ hi ≤ g) : KW lo hi w' k v :=
  KO.writ (Writ.one (S := fun b => b < lo ∨ hi ≤ b) hg hr) k v _ (fun b hb hs => by omega) h
theorem KW.widen {lo hi lo' hi' : Nat} {w : World} {k : KT} {v : Value} (h : KW lo hi w k v) (h1 : lo' ≤ lo) (h2 : hi ≤ hi') : KW lo' hi' w k v := KO.mono (fun b hb => ⟨by omega, by omega⟩) h
theorem KW.kv {lo hi : Nat} {w : World} {k : KT} {v : Value} (h : KW lo hi w k v) : KV w k v := KO.kv k v _ h
theorem kw_leaf {lo hi : Nat} {w : World} {kd f : Int} {t : ByteArray} {S : List (Int × Int)} {A : Option Addr} {n c : Nat} (ht : t.size ≤ 16777216) (hn : n ≤ 33554432) (hs : Own w lo (.slice A n c) S) (hw : w.heap.size ≤ hi) : KW lo hi w (.mk kd f t S []) (kval (kd, f, t, (A, n, c), (none, 0, 0))) := by
  unfold KW
  rw [KO]
  exact ⟨A, n, c, none, 0, 0, [], fun _ => False, rfl, hn, ht, hs.from (Nat.zero_le _), ROwn.nil _ _, fun g e => ⟨by have := World.ownsRow.lt hs g e; omega, id⟩, fun g e => (by cases e), fun b hb => hb.elim, by rw [KOs]⟩
theorem own_none (w : World) (B : Nat) : Own w B (.slice none 0 0) [] := World.ownsRow_nil w B _ _
/-- One append for all, with the place of what comes out. -/
theorem wpList_append_rows_at {α : Type} {w : World} {P : Program} {ops : Array Oper} {rest : List Oper} {o : Oper} {a : Act} {Q : Exit → Act → World → Prop} (hgd : o.guard = none) (s x : Operand) (t : TypeId)
    (ho : o.op = .call { callee := .builtin .append, args := #[s, x], argTypes := #[t, t] })
    (R : RowT α) (base : Nat) (i : TypeInfo) (z : Value) (bytes : Nat) (ht : P.underlying t = some (.slice R.t)) (hi : P.info? R.t = some i) (hz : i.zero = some z)
    (hsize : i.size = R.sz) (hby : i.bytes = bytes) (hzs : z.cells.size = R.sz) (hsz : 0 < R.sz)
    (v : Value) (L : List α) (y : α) (n : Nat) (hn : L.length = n) (hs : a.eval s = v) (hown : ROwn R w base v L)
    (b c : Nat) (hx : a.eval x = .slice (some ⟨b, 0, none⟩) 1 c) (hat : RAt R w (some ⟨b, 0, none⟩) [y])
    (h63 : n + 1 ≤ maxLen) (hbytes : (n + 1) * bytes ≤ 140737488355328) (hbase : base ≤ w.heap.size)
    (h : ∀ v' w', ROwn R w' base v' (L ++ [y]) → w.grownBy w' v.ownBlock → (v'.ownBlock = v.ownBlock ∨ v'.ownBlock = some w.heap.size) → wpList P ops Q rest (a.put o.dst v') w') : wpList P ops Q (o :: rest) a w := by
  refine wpList_append_own_at w hgd s x t ho base R.t i z R.sz bytes ht hi hz hsize hby hzs hsz v n (rcells R L) hs (hown.row hn) ⟨b, 0, none⟩ 1 c (rcells R [y]) hx (by rw [rcells_len]; rfl) ?_ (rcells_cell R [y]) h63 hbytes hbase ?_
  · intro j u hu
    obtain ⟨b', o2, he, _, h1⟩ := hat 0 y rfl
    cases he
    rw [rcells_one] at hu
    have := h1 j u hu
    rw [radd]
    simpa using this
  · intro v' w' hown' hg hnil hpl
    exact h v' w' (ROwn.cat hown' (by rw [hn]; rfl)) hg hpl
end Go.Proofs.YtnfigpknejmkmaaGreatDoor
namespace Go.Proofs.YtnfigpknejmkmaaGreatDoor
open Go.RowKit
set_option linter.unusedVariables false

def rB (l : List UInt8) : ByteArray := ⟨l.toArray⟩
theorem rB_list (l : List UInt8) : (rB l).data.toList = l := by unfold rB; simp
theorem rB_size (l : List UInt8) : (rB l).size = l.length := by unfold rB; rw [ByteArray.size]; simp
theorem rB_ext {u v : ByteArray} (h : u.data.toList = v.data.toList) : u = v := by
  cases u
  cases v
  congr
  exact Array.toList_inj.1 h
theorem rB_cat (a b : List UInt8) : rB a ++ rB b = rB (a ++ b) := by
  refine rB_ext ?_
  rw [ByteArray.data_append, Array.toList_append, rB_list, rB_list, rB_list]
theorem rB_of (s : ByteArray) : rB s.data.toList = s := rB_ext (rB_list _)
theorem conv_oneE (W : World) (N : Nat) (c : UInt8) (z : Int) (hz : (c.toNat : Int) = z) (h : W.cell? ⟨N, 0, none⟩ = some (.int .u8 z)) :
    (convert 22 9 (.slice (some ⟨N, 0, none⟩) 1 1)).run Tryz.prog W = .ok (.string ⟨#[c]⟩) W := by
  have := run_convert_bytes_back (P := Tryz.prog) W 22 9 5 ⟨N, 0, none⟩ 1 [c] Tryz.underlying22 Tryz.underlying5 Tryz.underlying9 (fun j hj => by
    have : j = 0 := by simpa using hj
    subst this
    rw [radd, Nat.zero_add, h, ← hz]
    rfl)
  exact this
theorem dig_natE {d : Nat} (h : d ≤ 9) : ((UInt8.ofNat (48 + d)).toNat : Int) = 48 + (d : Int) := by
  have : (UInt8.ofNat (48 + d)).toNat = 48 + d := by
    rw [UInt8.toNat_ofNat']
    exact Nat.mod_eq_of_lt (by omega)
  omega
/-- A number's digits ahead of a text. -/
def mtGo (k : Nat) (out : List UInt8) : List UInt8 := if h : k = 0 then out else mtGo (k / 10) (UInt8.ofNat (48 + k % 10) :: out)
termination_by k
decreasing_by omega
theorem mtGo_zero (out : List UInt8) : mtGo 0 out = out := by rw [mtGo]; simp
theorem mtGo_step {k : Nat} (h : k ≠ 0) (out : List UInt8) : mtGo k out = mtGo (k / 10) (UInt8.ofNat (48 + k % 10) :: out) := by rw [mtGo]; simp [h]
/-- The text that stands for a mark. -/
def mt (k : Nat) : List UInt8 := 109 :: mtGo k []
set_option maxHeartbeats 2000000 in
theorem mark_text (k : Nat) (w : World) (hk : 0 < k) (hk2 : k ≤ 1000000000) :
    Calls Tryz.prog 71 #[.int .i64 (k : Int)] w fun e w' => e = .returned (.string (rB (mt k))) ∧ Below w.heap.size w w' := by
  have h0 : ¬ (k : Int) ≤ 0 := by omega
  go_enter Tryz.func71, Tryz.ntmps71
  go_wp2
  go_loopw [0, 3] (fun kv ov wr => ∃ (q : Nat) (o : List UInt8) (v : ByteArray), q ≤ k ∧ o.length ≤ 10 ∧ kv = .int .i64 (q : Int) ∧ ov = .string v ∧ Hid (rB o = v) ∧ Hid (q * 10 ^ o.length ≤ k) ∧ Hid (mtGo q o = mtGo k []) ∧ Hid (Below w.heap.size w wr)) (fun kv _ _ => (intOf kv).toNat)
  case atStart => exact ⟨k, [], _, Nat.le_refl _, (by show 0 ≤ 10; omega), rfl, rfl, rfl, (by show k * 10 ^ 0 ≤ k; omega), rfl, Below.refl _ _⟩
  case round =>
    obtain ⟨q, o, v, hq, hol, rfl, rfl, HV, HP, HM, HB⟩ := hrel
    have hlen : 0 < q → o.length ≤ 9 := fun h => by
      have h1 := HP.out
      have h2 : 10 ^ o.length ≤ 10 ^ 9 := by
        have : 1 * 10 ^ o.length ≤ q * 10 ^ o.length := Nat.mul_le_mul_right _ h
        omega
      exact (Nat.pow_le_pow_iff_right (by decide)).1 h2
    have hv9 : 0 < q → v.size ≤ 9 := fun h => by rw [← HV.out, rB_size]; exact hlen h
    by_cases hq0 : 0 < q
    · have h1 : (0 : Int) < (q : Int) := by omega
      have hv := hv9 hq0
      obtain ⟨d, hd⟩ : ∃ d, q % 10 = d := ⟨_, rfl⟩
      obtain ⟨p, hp⟩ : ∃ p, q / 10 = p := ⟨_, rfl⟩
      have hd9 : d ≤ 9 := by omega
      have E1 : (q : Int).tmod 10 = (d : Int) := by rw [Int.tmod_eq_emod_of_nonneg (by omega)]; omega
      have E2 : (q : Int).tdiv 10 = (p : Int) := by rw [Int.tdiv_eq_ediv_of_nonneg (by omega)]; omega
      have E3 : (q : Int) % 10 = (d : Int) := by omega
      have E4 : (q : Int) / 10 = (p : Int) := by omega
      have W1 : IntKind.i64.wrap (d : Int) = (d : Int) := IntWalk.i64_in _ (by omega)
      have W2 : IntKind.i64.wrap (p : Int) = (p : Int) := IntWalk.i64_in _ (by omega)
      have W3 : IntKind.i64.wrap (48 + (d : Int)) = 48 + (d : Int) := IntWalk.i64_in _ (by omega)
      have W4 : IntKind.u8.wrap (48 + (d : Int)) = 48 + (d : Int) := by rw [IntKind.wrap_u8]; omega
      obtain ⟨c, hc⟩ : ∃ c, UInt8.ofNat (48 + d) = c := ⟨_, rfl⟩
      have hcv := fun (W : World) (N : Nat) h => conv_oneE W N c _ (hc ▸ dig_natE hd9) h
      have HSTEP : Hid (mtGo p (c :: o) = mtGo k []) := by
        have h2 := HM.out
        rw [mtGo_step (by omega), hd, hp, hc] at h2
        exact h2
      have HV2 : Hid (rB (c :: o) = (⟨#[c]⟩ : ByteArray) ++ v) := by
        rw [← HV.out, show (⟨#[c]⟩ : ByteArray) = rB [c] from rfl, rB_cat]
        rfl
      have HP2 : Hid (p * 10 ^ (c :: o).length ≤ k) := by
        have h2 := HP.out
        show p * 10 ^ (o.length + 1) ≤ k
        rw [Nat.pow_succ, ← Nat.mul_assoc, Nat.mul_right_comm]
        have h3 : p * 10 * 10 ^ o.length ≤ q * 10 ^ o.length := Nat.mul_le_mul_right _ (by omega)
        omega
      have hpq : p < q := by omega
      have hol1 : (c :: o).length ≤ 10 := by have := hlen hq0; show o.length + 1 ≤ 10; omega
      have HOL := Lib.hid hol1
      clear hlen hv9 hd hp hol1 hol hc
      have HS := Lib.hid HB.out.size
      go_wp2_with fail
      go_roundw
      case rel => exact ⟨p, c :: o, _, by omega, HOL.out, rfl, rfl, HV2, HP2, HSTEP, HB.out.alloc HS.out _⟩
      case measure => simp [intOf]; omega
    · obtain rfl : q = 0 := by omega
      have hend : v.size ≤ 10 := by rw [← HV.out, rB_size]; exact hol
      have HE : Hid (mt k = 109 :: o) := by
        have h2 := HM.out
        rw [mtGo_zero] at h2
        show 109 :: mtGo k [] = _
        rw [← h2]
      clear hlen hv9 hol
      go_wp2_with fail
      go_ret
      refine ⟨?_, HB.out⟩
      rw [HE.out, ← HV.out, show (109 : UInt8) :: o = [109] ++ o from rfl, ← rB_cat]
      rfl
theorem mtGo_len : ∀ (d k : Nat) (out : List UInt8), k < 10 ^ d → (mtGo k out).length ≤ out.length + d
  | 0, k, out, h => by
    obtain rfl : k = 0 := by simpa using h
    rw [mtGo_zero]
    exact Nat.le_refl _
  | d + 1, k, out, h => by
    by_cases h0 : k = 0
    · subst h0
      rw [mtGo_zero]
      omega
    · rw [mtGo_step h0]
      have h1 := mtGo_len d (k / 10) (UInt8.ofNat (48 + k % 10) :: out) (Nat.div_lt_of_lt_mul (by rw [Nat.pow_succ, Nat.mul_comm] at h; exact h))
      simp only [List.length_cons] at h1
      omega
theorem mt_size {k : Nat} (h : k ≤ 1000000000) : (rB (mt k)).size ≤ 16777216 := by
  rw [rB_size]
  have := mtGo_len 10 k [] (by omega)
  simp only [mt, List.length_cons, List.length_nil] at this ⊢
  omega
/-- The marks on spans, from a number on. -/
def mkP (s n : Nat) : List (Int × Int) := (List.range n).map fun (i : Nat) => ((s : Int) + 2 * (i : Int), (s : Int) + 2 * (i : Int) + 1)
theorem mkP_len (s n : Nat) : (mkP s n).length = n := by unfold mkP; simp
theorem mkP_succ (s n : Nat) : mkP s (n + 1) = mkP s n ++ [((s : Int) + 2 * (n : Int), (s : Int) + 2 * (n : Int) + 1)] := by unfold mkP; rw [List.range_succ, List.map_append]; rfl
theorem mkP_at {s n i : Nat} (h : i < n) : (mkP s n)[i]? = some ((s : Int) + 2 * (i : Int), (s : Int) + 2 * (i : Int) + 1) := by unfold mkP; simp [h]
theorem set_midP {α : Type} {P L : List α} {i : Nat} (x : α) (hp : P.length = i) (hi : i < L.length) : (P ++ L.drop i).set i x = P ++ [x] ++ L.drop (i + 1) := by
  rw [List.set_append_right _ _ (by omega), hp, Nat.sub_self, List.drop_eq_getElem_cons hi, List.set_cons_zero, List.append_assoc]
  rfl
theorem mid_someP {α : Type} {P L : List α} {i : Nat} (hp : P.length = i) (hi : i < L.length) : ∃ y, (P ++ L.drop i)[i]? = some y :=
  ⟨_, List.getElem?_eq_getElem (by rw [List.length_append, List.length_drop]; omega)⟩
theorem own_split {w : World} {B n cap size : Nat} {e : TypeId} {A : Option Addr} {xs : List Value} (h : w.ownsRow B e size (.slice A n cap) n xs) (h0 : 0 < n) : ∃ g, A = some ⟨g, 0, none⟩ := by
  rcases h.2 with ⟨he, hn⟩ | ⟨g, c, cur, he, -⟩
  · omega
  · cases he
    exact ⟨g, rfl⟩


mutual
/-- How many marks a key takes. -/
def cT : KT → Nat
  | .mk _ _ _ S ks => 3 + 2 * S.length + cL ks
def cL : List KT → Nat
  | [] => 0
  | k :: r => cT k + cL r
end
mutual
/-- A key that is marked. -/
def mkT : Nat → KT → KT
  | s, .mk _ _ _ S ks => .mk (s : Int) ((s + 1 : Nat) : Int) (rB (mt (s + 2))) (mkP (s + 3) S.length) (mkL (s + 3 + 2 * S.length) ks)
def mkL : Nat → List KT → List KT
  | _, [] => []
  | s, k :: r => mkT s k :: mkL (s + cT k) r
end
theorem mkL_len : ∀ (s : Nat) (L : List KT), (mkL s L).length = L.length
  | s, [] => by rw [mkL]
  | s, k :: r => by rw [mkL, List.length_cons, List.length_cons, mkL_len]
theorem cL_app : ∀ (L M : List KT), cL (L ++ M) = cL L + cL M
  | [], M => by rw [List.nil_append, cL]; omega
  | k :: r, M => by rw [List.cons_append, cL, cL, cL_app]; omega
theorem mkL_app : ∀ (s : Nat) (L M : List KT), mkL s (L ++ M) = mkL s L ++ mkL (s + cL L) M
  | s, [], M => by rw [List.nil_append, mkL, cL]; rfl
  | s, k :: r, M => by rw [List.cons_append, mkL, mkL, mkL_app, cL, List.cons_append, Nat.add_assoc]
theorem cL_one {L : List KT} {k : Nat} {y : KT} (h : L[k]? = some y) : cL (L.take (k + 1)) = cL (L.take k) + cT y := by
  rw [List.take_add_one, h, cL_app]
  show _ + (cT y + 0) = _
  omega
theorem cL_take (L : List KT) (k : Nat) : cL (L.take k) ≤ cL L := by
  have := cL_app (L.take k) (L.drop k)
  rw [List.take_append_drop] at this
  omega
theorem mkL_one {L : List KT} {k : Nat} {y : KT} (h : L[k]? = some y) (s : Nat) : mkL s (L.take (k + 1)) = mkL s (L.take k) ++ [mkT (s + cL (L.take k)) y] := by
  rw [List.take_add_one, h, mkL_app]
  rfl
theorem mkL_at {L : List KT} {k : Nat} {y : KT} (h : L[k]? = some y) (s : Nat) : (mkL s L)[k]? = some (mkT (s + cL (L.take k)) y) := by
  have hk := (List.getElem?_eq_some_iff.1 h).1
  have h1 : L = L.take (k + 1) ++ L.drop (k + 1) := (List.take_append_drop _ _).symm
  rw [h1, mkL_app, List.getElem?_append_left (by rw [mkL_len, List.length_take]; omega), ← h1, mkL_one h, List.getElem?_append_right (by rw [mkL_len, List.length_take]; omega), mkL_len, List.length_take, show k - min k L.length = 0 by omega]
  rfl
theorem nodesL_get {L : List KT} {k : Nat} {y : KT} (h : L[k]? = some y) : nodesT y ≤ nodesL L := by have := nodesL_lt h; omega
theorem kval_inj {a b : KR} (h : kval a = kval b) : a = b := by
  obtain ⟨a0, a1, a2, ⟨a3, a4, a5⟩, ⟨a6, a7, a8⟩⟩ := a
  obtain ⟨b0, b1, b2, ⟨b3, b4, b5⟩, ⟨b6, b7, b8⟩⟩ := b
  simp only [Value.agg.injEq, Array.mk.injEq, List.cons.injEq, Value.slice.injEq, Value.int.injEq, Value.string.injEq, and_true, true_and] at h
  obtain ⟨rfl, rfl, rfl, ⟨rfl, rfl, rfl⟩, ⟨rfl, rfl, rfl⟩⟩ := h
  rfl
/-- One of the keys of a row, opened: its own rows, and how it is put back. -/
theorem mark_open {w : World} {ks : List KT} {rs : List KR} {Q : Nat → Prop} {i g : Nat} {kd f : Int} {t : ByteArray} {S : List (Int × Int)} {cs : List KT} (h : KOs w Q ks rs) (hi : ks[i]? = some (.mk kd f t S cs)) (hg : ¬ Q g) :
    ∃ (AS : Option Addr) (nS cS : Nat) (AK : Option Addr) (nK cK : Nat) (rc : List KR) (Qc Qi : Nat → Prop), rs[i]? = some (kd, f, t, (AS, nS, cS), (AK, nK, cK)) ∧ nS ≤ 33554432 ∧ S.length = nS ∧ Own w 0 (.slice AS nS cS) S ∧ ROwn keyR w 0 (.slice AK nK cK) rc ∧ KOs w Qc cs rc ∧
      (∀ b, Value.ownBlock (.slice AS nS cS) = some b → Qi b ∧ ¬ Qc b ∧ b ≠ g) ∧ (∀ b, Value.ownBlock (.slice AK nK cK) = some b → Qi b ∧ ¬ Qc b ∧ b ≠ g ∧ Value.ownBlock (.slice AS nS cS) ≠ some b) ∧ (∀ b, Qc b → Qi b ∧ b ≠ g) ∧ (∀ b, Qi b → Q b ∧ b ≠ g) ∧
      ∀ (w' : World) (q0 q1 : Int) (tx : ByteArray) (S' : List (Int × Int)) (cs' : List KT) (rc' : List KR), Writ (fun b => b = g ∨ Qi b) w w' → tx.size ≤ 16777216 → Own w' 0 (.slice AS nS cS) S' → ROwn keyR w' 0 (.slice AK nK cK) rc' → KOs w' Qc cs' rc' →
        KOs w' Q (ks.set i (.mk q0 q1 tx S' cs')) (rs.set i (q0, q1, tx, (AS, nS, cS), (AK, nK, cK))) := by
  obtain ⟨r, Qi, h1, h2, h3, h4⟩ := KOs.focus h hi
  rw [KO] at h3
  obtain ⟨AS, nS, cS, AK, nK, cK, rc, Qc, e1, e2, e3, e4, e5, e6, e7, e8, e9⟩ := h3
  have := kval_inj e1
  subst this
  have hl : S.length = nS := by
    obtain ⟨A2, c2, he, -⟩ := e4.form
    simp only [Value.slice.injEq] at he
    exact he.2.1.symm
  have hne : ∀ b, Q b → b ≠ g := fun b hb e => hg (e ▸ hb)
  refine ⟨AS, nS, cS, AK, nK, cK, rc, Qc, Qi, h1, e2, hl, e4, e5, e9, fun b e => ⟨(e6 b e).1, (e6 b e).2, hne b (h2 b (e6 b e).1)⟩, fun b e => ⟨(e7 b e).1, (e7 b e).2.1, hne b (h2 b (e7 b e).1), (e7 b e).2.2⟩, fun b hb => ⟨e8 b hb, hne b (h2 b (e8 b hb))⟩, fun b hb => ⟨h2 b hb, hne b (h2 b hb)⟩, ?_⟩
  intro w' q0 q1 tx S' cs' rc' hw ht hS hK hC
  refine h4 w' _ _ (fun b => b = g ∨ Qi b) hw (fun b hb hq => hb.elim (fun e => absurd (e ▸ hq) hg) id) ?_
  rw [KO]
  exact ⟨AS, nS, cS, AK, nK, cK, rc', Qc, rfl, e2, ht, hS, hK, e6, e7, e8, hC⟩
set_option maxHeartbeats 4000000 in
theorem mark_spans (s r : Nat) (A : Option Addr) (cap n B : Nat) (L : List (Int × Int)) (w : World) (hn : L.length = n) (h : Own w B (.slice A n cap) L) (hl : n ≤ 33554432) (hs2 : s ≤ 100000000) (hr : s + 2 * n = r) :
    Calls Tryz.prog 40 #[.slice A n cap, .int .i64 (s : Int)] w fun e w' => e = .returned (.int .i64 (r : Int)) ∧ Own w' B (.slice A n cap) (mkP s n) ∧ w.grownBy w' (Value.slice A n cap).ownBlock := by
  have HN := Lib.hid hn
  have HO := Lib.hid h
  have HR := Lib.hid hr
  clear h hn hr
  go_enter Tryz.func40, Tryz.ntmps40
  go_wp2
  go_loopw [1, 5] (fun m i wr => ∃ (k : Nat) (z : Int), k ≤ n ∧ z = (s : Int) + 2 * (k : Int) ∧ m = .int .i64 z ∧ i = .int .i64 (k : Int) ∧ Hid (w.grownBy wr (Value.slice A n cap).ownBlock) ∧ Hid (Own wr B (.slice A n cap) (mkP s k ++ L.drop k))) (fun _ i _ => n - (intOf i).toNat)
  case atStart => exact ⟨0, s, Nat.zero_le _, by omega, by go_num, by go_num, gr_refl _ _, HO.out⟩
  case round =>
    obtain ⟨k, z, hk, hz, rfl, rfl, HG, HW⟩ := hrel
    have HZ := Lib.hid hz
    by_cases hlt : k < n
    · have h0 : (0 : Int) ≤ (k : Int) := by omega
      have h5 : (k : Int) < (n : Int) := by omega
      have z0 : 0 ≤ z := by omega
      have z1 : z ≤ 200000000 := by omega
      have W1 : IntKind.i64.wrap (z + 1) = z + 1 := IntWalk.i64_in _ (by omega)
      have W2 : IntKind.i64.wrap (z + 1 + 1) = z + 1 + 1 := IntWalk.i64_in _ (by omega)
      obtain ⟨g, rfl⟩ := own_split (own_row' HW.out) (by omega)
      obtain ⟨y, hy⟩ := mid_someP (mkP_len s k) (L := L) (by rw [HN.out]; exact hlt)
      obtain ⟨d1, d2⟩ := own_cells HW.out hy
      have d3 := World.ownsRow.frozenAt (own_row' HW.out) (k * 2)
      have d4 := World.ownsRow.frozenAt (own_row' HW.out) (k * 2 + 1)
      have HST := Lib.hid (HW.out.stored (k := k) (List.getElem?_eq_some_iff.1 hy).1 (z, z + 1))
      clear hy hz
      go_wp2
      go_roundw
      case rel =>
        refine ⟨k + 1, z + 1 + 1, by omega, by have := HZ.out; omega, rfl, by go_num, gr_trans HG.out HST.out.2, ?_⟩
        have h1 := HST.out.1
        rw [set_midP _ (mkP_len s k) (by rw [HN.out]; exact hlt)] at h1
        rw [mkP_succ, ← HZ.out]
        exact h1
      case measure => simp [intOf]; omega
    · have h5 : ¬ (k : Int) < (n : Int) := by omega
      have hkn : k = n := by omega
      have ho := HW.out
      rw [hkn, List.drop_of_length_le (by rw [HN.out]; exact Nat.le_refl _), List.append_nil] at ho
      have HOE := Lib.hid ho
      have hz2 : z = (r : Int) := by have := HR.out; omega
      have HZ2 := Lib.hid hz2
      clear ho hkn hz hz2
      go_wp2
      go_ret
      refine ⟨?_, HOE.out, HG.out⟩
      rw [HZ2.out]
      rfl
set_option maxHeartbeats 4000000 in
theorem held_spans (s r : Nat) (A : Option Addr) (cap n : Nat) (w : World) (h : SpA w A (mkP s n)) (hl : n ≤ 33554432) (hs2 : s ≤ 100000000) (hr : s + 2 * n = r) :
    Calls Tryz.prog 42 #[.slice A n cap, .int .i64 (s : Int)] w fun e w' => e = .returned (.int .i64 (r : Int)) ∧ w = w' := by
  have H := Lib.hid h
  have HR := Lib.hid hr
  clear h hr
  go_enter Tryz.func42, Tryz.ntmps42
  go_wp2
  go_loop [1, 5] (fun m i => ∃ (k : Nat) (z : Int), k ≤ n ∧ z = (s : Int) + 2 * (k : Int) ∧ m = .int .i64 z ∧ i = .int .i64 (k : Int)) (fun _ i => n - (intOf i).toNat)
  case atStart => exact ⟨0, s, Nat.zero_le _, by omega, by go_num, by go_num⟩
  case round =>
    obtain ⟨k, z, hk, hz, rfl, rfl⟩ := hrel
    have HZ := Lib.hid hz
    by_cases hlt : k < n
    · have h0 : (0 : Int) ≤ (k : Int) := by omega
      have h5 : (k : Int) < (n : Int) := by omega
      have z0 : 0 ≤ z := by omega
      have z1 : z ≤ 200000000 := by omega
      have W1 : IntKind.i64.wrap (z + 1) = z + 1 := IntWalk.i64_in _ (by omega)
      have W2 : IntKind.i64.wrap (z + 1 + 1) = z + 1 + 1 := IntWalk.i64_in _ (by omega)
      have hx := mkP_at (s := s) hlt
      rw [← hz] at hx
      obtain ⟨b, o, rfl, hbz, c1, c2⟩ := H.out k _ hx
      clear hx hz
      go_wp2
      go_round
      case rel => exact ⟨k + 1, z + 1 + 1, by omega, by have := HZ.out; omega, rfl, by go_num⟩
      case measure => simp [intOf]; omega
    · have h5 : ¬ (k : Int) < (n : Int) := by omega
      have hz2 : z = (r : Int) := by have := HR.out; omega
      have HZ2 := Lib.hid hz2
      clear hz hz2
      go_wp2
      go_ret
      refine ⟨?_, rfl⟩
      rw [HZ2.out]
      rfl
end Go.Proofs.YtnfigpknejmkmaaGreatDoor
namespace Go.Proofs.YtnfigpknejmkmaaGreatDoor
open Go.RowKit
set_option linter.unusedVariables false
set_option linter.unusedSimpArgs false

theorem own_blockK {α : Type} {R : RowT α} {w : World} {B n cap : Nat} {A : Option Addr} {L : List α} (h : ROwn R w B (.slice A n cap) L) (h0 : 0 < n) : ∃ g, A = some ⟨g, 0, none⟩ := by
  have hl := h.len.1
  obtain ⟨A', c, he, _, _, _, _, hne⟩ := h.form
  cases he
  exact hne (by intro e; rw [hl, e] at h0; simp at h0)
theorem cL_len : ∀ L : List KT, L.length ≤ cL L
  | [] => by rw [cL]; exact Nat.le_refl _
  | .mk _ _ _ S ks :: r => by
    have := cL_len r
    rw [cL, cT, List.length_cons]
    omega
/-- What markKeyS leaves. -/
def MkL (w : World) (s r : Nat) (A : Option Addr) (N cap : Nat) (Q : Nat → Prop) (ks : List KT) (e : Ending) (w' : World) : Prop :=
  e = .returned (.int .i64 (r : Int)) ∧ ∃ rs : List KR, ROwn keyR w' 0 (.slice A N cap) rs ∧ KOs w' Q (mkL s ks) rs ∧ Writ (fun b => Q b ∨ Value.ownBlock (.slice A N cap) = some b) w w'
set_option maxRecDepth 20000 in
set_option maxHeartbeats 8000000 in
theorem mark_keys_step {n0 : Nat} (ih : ∀ (s r : Nat) (A : Option Addr) (N cap : Nat) (Q : Nat → Prop) (ks : List KT) (rs : List KR) (w : World), nodesL ks < n0 → ROwn keyR w 0 (.slice A N cap) rs → (∀ g, Value.ownBlock (.slice A N cap) = some g → ¬ Q g) → KOs w Q ks rs → 0 < s → s + cL ks = r → r ≤ 90000000 →
      Calls Tryz.prog 41 #[.slice A N cap, .int .i64 (s : Int)] w (MkL w s r A N cap Q ks))
    (s r : Nat) (A : Option Addr) (N cap : Nat) (Q : Nat → Prop) (ks : List KT) (rs : List KR) (w : World) (hn0 : nodesL ks ≤ n0) (ho : ROwn keyR w 0 (.slice A N cap) rs) (hq : ∀ g, Value.ownBlock (.slice A N cap) = some g → ¬ Q g) (hk : KOs w Q ks rs) (hs : 0 < s) (hr : s + cL ks = r) (hr2 : r ≤ 90000000) :
    Calls Tryz.prog 41 #[.slice A N cap, .int .i64 (s : Int)] w (MkL w s r A N cap Q ks) := by
  have HN : Hid (ks.length = N) := Lib.hid (by rw [hk.len]; exact ho.len.1.symm)
  have HO := Lib.hid ho
  have HQ := Lib.hid hq
  have HK := Lib.hid hk
  have HR := Lib.hid hr
  have HN0 := Lib.hid hn0
  have HIH := Lib.hid ih
  have hn9 : N ≤ 90000000 := by
    have h1 := cL_len ks
    have h2 := HN.out
    omega
  clear ho hq hk hr hn0 ih
  go_enter Tryz.func41, Tryz.ntmps41
  go_wp2
  go_loopw [1, 5] (fun m i wr => ∃ k z : Nat, k ≤ N ∧ m = .int .i64 (z : Int) ∧ i = .int .i64 (k : Int) ∧ Hid (z = s + cL (ks.take k)) ∧ Hid (Writ (fun b => Q b ∨ Value.ownBlock (.slice A N cap) = some b) w wr) ∧ Hid (∃ rs : List KR, ROwn keyR wr 0 (.slice A N cap) rs ∧ KOs wr Q (mkL s (ks.take k) ++ ks.drop k) rs)) (fun _ i _ => N - (intOf i).toNat)
  case atStart => exact ⟨0, s, Nat.zero_le _, by go_num, by go_num, Lib.hid (by rw [List.take_zero, cL]; rfl), Lib.hid (.refl _), Lib.hid ⟨rs, HO.out, by rw [List.take_zero, mkL]; exact HK.out⟩⟩
  case round =>
    obtain ⟨k, z, hk, rfl, rfl, HZ, HG, HW⟩ := hrel
    by_cases hlt : k < N
    · have h0 : (0 : Int) ≤ (k : Int) := by omega
      have h5 : (k : Int) < (N : Int) := by omega
      obtain ⟨y, hy⟩ : ∃ y, ks[k]? = some y := ⟨_, List.getElem?_eq_getElem (by rw [HN.out]; exact hlt)⟩
      obtain ⟨kd, f, t, S, cs⟩ := y
      have hone := cL_one hy
      have hcT : cT (.mk kd f t S cs) = 3 + 2 * S.length + cL cs := by rw [cT]
      have htk := cL_take ks (k + 1)
      have HNOD : Hid (nodesL cs < n0) := Lib.hid (by
        have h1 := nodesL_get hy
        rw [nodesT] at h1
        have h2 := HN0.out
        omega)
      obtain ⟨rsk, hrow, hkos⟩ := HW.out
      have hpl : (mkL s (ks.take k)).length = k := by rw [mkL_len, List.length_take, HN.out]; omega
      have hkL : k < ks.length := by rw [HN.out]; exact hlt
      have hC : (mkL s (ks.take k) ++ ks.drop k)[k]? = some (.mk kd f t S cs) := by
        rw [List.getElem?_append_right (by rw [hpl]; exact Nat.le_refl _), hpl, Nat.sub_self, List.getElem?_drop, Nat.add_zero]
        exact hy
      have HEND : Hid ((mkL s (ks.take k) ++ ks.drop k).set k (mkT z (.mk kd f t S cs)) = mkL s (ks.take (k + 1)) ++ ks.drop (k + 1)) := Lib.hid (by rw [set_midP _ hpl hkL, mkL_one hy, HZ.out])
      obtain ⟨g, rfl⟩ := own_blockK hrow (by omega)
      obtain ⟨AS, nS, cS, AK, nK, cK, rc, Qc, Qi, hrk, hnS, hSl, hoS, hoK, hkc, f1, f2, f3, f4, hput⟩ := mark_open hkos hC (HQ.out g rfl)
      have hkC : k < rsk.length := (List.getElem?_eq_some_iff.1 hrk).1
      obtain ⟨q1, hq1⟩ : ∃ q, z + 1 = q := ⟨_, rfl⟩
      obtain ⟨q2, hq2⟩ : ∃ q, z + 2 = q := ⟨_, rfl⟩
      obtain ⟨q3, hq3⟩ : ∃ q, z + 3 = q := ⟨_, rfl⟩
      obtain ⟨q4, hq4⟩ : ∃ q, q3 + 2 * nS = q := ⟨_, rfl⟩
      obtain ⟨r4, hr4⟩ : ∃ q, q4 + cL cs = q := ⟨_, rfl⟩
      have E1 : (z : Int) + 1 = (q1 : Int) := by omega
      have E2 : (q1 : Int) + 1 = (q2 : Int) := by omega
      have E3 : (q2 : Int) + 1 = (q3 : Int) := by omega
      have hz := HZ.out
      have hrr := HR.out
      have HR4 : Hid (q4 + cL cs = r4 ∧ r4 ≤ 90000000 ∧ 0 < q4 ∧ r4 = s + cL (ks.take (k + 1))) := Lib.hid ⟨hr4, by omega, by omega, by omega⟩
      have HY : Hid (mkT z (.mk kd f t S cs) = .mk (z : Int) (q1 : Int) (rB (mt q2)) (mkP q3 nS) (mkL q4 cs)) := Lib.hid (by rw [mkT]; subst hq4 hq3 hq2 hq1 hSl; rfl)
      have HQ2 : Hid (0 < q2 ∧ q2 ≤ 1000000000) := Lib.hid (by omega)
      have HQ3 : Hid (q3 ≤ 100000000 ∧ q3 + 2 * nS = q4) := Lib.hid ⟨by omega, hq4⟩
      have hzb : z ≤ 90000000 := by omega
      have hq1b : q1 ≤ 90000001 := by omega
      have hq2b : q2 ≤ 90000002 := by omega
      have hq3b : q3 ≤ 90000003 := by omega
      have HNS : Hid (nS ≤ 33554432) := Lib.hid hnS
      have HSL := Lib.hid hSl
      have HF1 := Lib.hid f1
      have HF2 := Lib.hid f2
      have HF3 := Lib.hid f3
      have HF4 := Lib.hid f4
      have HPUT := Lib.hid hput
      have HOS0 := Lib.hid hoS
      have HOK0 := Lib.hid hoK
      have HKC0 := Lib.hid hkc
      obtain ⟨r1, hr1⟩ : ∃ x : KR, ((z : Int), f, t, (AS, nS, cS), (AK, nK, cK)) = x := ⟨_, rfl⟩
      obtain ⟨r2, hr2'⟩ : ∃ x : KR, ((z : Int), (q1 : Int), t, (AS, nS, cS), (AK, nK, cK)) = x := ⟨_, rfl⟩
      obtain ⟨v1, hv1⟩ : ∃ v, rB (mt q2) = v := ⟨_, rfl⟩
      obtain ⟨r3, hr3⟩ : ∃ x : KR, ((z : Int), (q1 : Int), v1, (AS, nS, cS), (AK, nK, cK)) = x := ⟨_, rfl⟩
      have hA := hrow.stored (y := r1) (j := 0) (u := .int .i64 (z : Int)) hrk (by decide) (by rw [← hr1]; rfl)
      have hB := hA.1.stored (x := r1) (y := r2) (j := 1) (u := .int .i64 (q1 : Int)) (List.getElem?_set_self hkC) (by decide) (by rw [← hr1, ← hr2']; rfl)
      rw [List.set_set] at hB
      have d0 := hrow.cell hrk (j := 0) rfl
      have d1 := hrow.cell hrk (j := 1) rfl
      have f0 := hrow.free (k * 5)
      have f1' := hrow.free (k * 5 + 1)
      simp only [keyR, Nat.add_zero] at d0 d1 hA hB
      obtain ⟨wb, hwb⟩ : ∃ wb, (wr.setCell ⟨g, k * 5, none⟩ (.int .i64 (z : Int))).setCell ⟨g, k * 5 + 1, none⟩ (.int .i64 (q1 : Int)) = wb := ⟨_, rfl⟩
      rw [hwb] at hB
      have HB := Lib.hid hB.1
      have CB : Hid (Writ (fun b => b = g) wr wb) := Lib.hid ((Writ.one hA.2 (fun b e => (Option.some.inj e).symm)).trans (Writ.one hB.2 (fun b e => (Option.some.inj e).symm)))
      have HWB := Lib.hid hwb
      have HR2 : Hid ((rsk.set k r2)[k]? = some r2) := Lib.hid (List.getElem?_set_self hkC)
      have HR23 : Hid (keyR.enc r3 = (keyR.enc r2).set 2 (.string v1)) := Lib.hid (by rw [← hr2', ← hr3]; rfl)
      have HR3 : Hid ((rsk.set k r3)[k]? = some r3) := Lib.hid (List.getElem?_set_self hkC)
      have HR3e := Lib.hid hr3
      have HV1 := Lib.hid hv1
      clear hA hB hwb hr1 hr2' hr3 hq1 hq2 hq3 hq4 hr4 hz hrr hy hpl hkL hC hkos hrow hrk hkC hnS hSl hoS hoK hkc f1 f2 f3 f4 hput hone hcT htk hv1
      go_wp2_with fail
      rw [HWB.out]
      refine (mark_text q2 wb HQ2.out.1 HQ2.out.2).mono ?_
      rintro e w1 ⟨rfl, hb⟩
      have hO1 := HB.out.kept hb
      have hB1 := hO1.stored (y := r3) (j := 2) (u := .string v1) HR2.out (by decide) HR23.out
      rw [List.set_set] at hB1
      have d2 := hO1.cell HR2.out (j := 2) rfl
      have f2 := hO1.free (k * 5 + 2)
      simp only [keyR] at d2 hB1
      obtain ⟨wc, hwc⟩ : ∃ wc, w1.setCell ⟨g, k * 5 + 2, none⟩ (.string v1) = wc := ⟨_, rfl⟩
      rw [hwc] at hB1
      have HC := Lib.hid hB1.1
      have CC : Hid (Writ (fun b => b = g) wr wc) := Lib.hid ((CB.out.trans (Writ.one (gr_belowK (row := none) hb) (fun _ e => by cases e))).trans (Writ.one hB1.2 (fun b e => (Option.some.inj e).symm)))
      have HWC := Lib.hid hwc
      have d3 := HC.out.cell HR3.out (j := 3) (u := .slice AS nS cS) (by rw [← HR3e.out]; rfl)
      simp only [keyR] at d3
      have HOSC := Lib.hid (HOS0.out.writ CC.out (fun b e h => (HF1.out b e).2.2 h))
      rw [HV1.out]
      clear d0 d1 f0 f1' hb hO1 hB1
      go_wp2_with fail
      try rw [HWC.out]
      refine (mark_spans q3 q4 AS cS nS 0 S wc HSL.out HOSC.out HNS.out HQ3.out.1 HQ3.out.2).mono ?_
      rintro e w3 ⟨rfl, hown, hg⟩
      have HOS3 := Lib.hid hown
      have C3 : Hid (Writ (fun b => b = g ∨ Value.ownBlock (.slice AS nS cS) = some b) wr w3) := Lib.hid ((CC.out.mono (fun b h => .inl h)).trans (Writ.one hg (fun b e => .inr e)))
      have HROW3 := Lib.hid (HC.out.writ (Writ.one (S := fun b => b ≠ g) hg (fun b e => (HF1.out b e).2.2)) (fun b e h => h (Option.some.inj e).symm))
      have HK3 := Lib.hid (HOK0.out.writ C3.out (fun b e h => h.elim (HF2.out b e).2.2.1 (HF2.out b e).2.2.2))
      have HC3 := Lib.hid (KOs.writ C3.out cs rc Qc (fun b hb h => h.elim (HF3.out b hb).2 (fun h => (HF1.out b h).2.1 hb)) HKC0.out)
      have d4 := HROW3.out.cell HR3.out (j := 4) (u := .slice AK nK cK) (by rw [← HR3e.out]; rfl)
      simp only [keyR] at d4
      clear d2 f2 d3 hown hg hwc
      go_wp2_with fail
      refine (HIH.out q4 r4 AK nK cK Qc cs rc w3 HNOD.out HK3.out (fun b e => (HF2.out b e).2.1) HC3.out HR4.out.2.2.1 HR4.out.1 HR4.out.2.1).mono ?_
      rintro e w4 ⟨rfl, rc4, ho4, hk4, hw4⟩
      have HROW4 := Lib.hid (HROW3.out.writ hw4 (fun b e h => by
        have hbg : b = g := (Option.some.inj e).symm
        exact h.elim (fun h => (HF3.out b h).2 hbg) (fun h => (HF2.out b h).2.2.1 hbg)))
      have HS4 := Lib.hid (HOS3.out.writ hw4 (fun b e h => h.elim (HF1.out b e).2.1 (fun h => (HF2.out b h).2.2.2 e)))
      have C4 : Hid (Writ (fun b => b = g ∨ Qi b) wr w4) := Lib.hid ((C3.out.mono (fun b h => h.elim .inl (fun h => .inr (HF1.out b h).1))).trans (hw4.mono (fun b h => .inr (h.elim (fun h => (HF3.out b h).1) (fun h => (HF2.out b h).1)))))
      have hfin := HPUT.out w4 (z : Int) (q1 : Int) v1 (mkP q3 nS) (mkL q4 cs) rc4 C4.out (by rw [← HV1.out]; exact mt_size HQ2.out.2) HS4.out ho4 hk4
      rw [← HV1.out, ← HY.out, HEND.out, HV1.out, HR3e.out] at hfin
      have HFIN := Lib.hid hfin
      have CG := Lib.hid (HG.out.trans (C4.out.mono (S' := fun b => Q b ∨ Value.ownBlock (.slice (some ⟨g, 0, none⟩) N cap) = some b) (fun b h => h.elim (fun h => .inr (by rw [h]; rfl)) (fun h => .inl (HF4.out b h).1))))
      clear d4 ho4 hk4 hw4 hfin
      go_wp2
      go_roundw
      case rel => exact ⟨k + 1, r4, by omega, by go_num, by go_num, Lib.hid HR4.out.2.2.2, CG, Lib.hid ⟨_, HROW4.out, HFIN.out⟩⟩
      case measure => simp [intOf]; omega
    · have h5 : ¬ (k : Int) < (N : Int) := by omega
      have hkn : k = N := by omega
      obtain ⟨rsk, hrow, hkos⟩ := HW.out
      have hz := HZ.out
      rw [hkn, List.drop_of_length_le (by rw [HN.out]; exact Nat.le_refl _), List.append_nil, List.take_of_length_le (by rw [HN.out]; exact Nat.le_refl _)] at hkos
      rw [hkn, List.take_of_length_le (by rw [HN.out]; exact Nat.le_refl _), HR.out] at hz
      have HKE := Lib.hid hkos
      have HRE := Lib.hid hrow
      have HZ2 := Lib.hid hz
      clear hkos hrow hkn hz
      go_wp2
      go_ret
      refine ⟨?_, _, HRE.out, HKE.out, HG.out⟩
      rw [HZ2.out]
      rfl
theorem mark_keys : ∀ (n0 s r : Nat) (A : Option Addr) (N cap : Nat) (Q : Nat → Prop) (ks : List KT) (rs : List KR) (w : World), nodesL ks ≤ n0 → ROwn keyR w 0 (.slice A N cap) rs → (∀ g, Value.ownBlock (.slice A N cap) = some g → ¬ Q g) → KOs w Q ks rs → 0 < s → s + cL ks = r → r ≤ 90000000 →
    Calls Tryz.prog 41 #[.slice A N cap, .int .i64 (s : Int)] w (MkL w s r A N cap Q ks)
  | 0, s, r, A, N, cap, Q, ks, rs, w, hn, h1, h2, h3, h4, h5, h6 => mark_keys_step (n0 := 0) (fun _ _ _ _ _ _ _ _ _ h => absurd h (Nat.not_lt_zero _)) s r A N cap Q ks rs w hn h1 h2 h3 h4 h5 h6
  | n + 1, s, r, A, N, cap, Q, ks, rs, w, hn, h1, h2, h3, h4, h5, h6 => mark_keys_step (n0 := n + 1) (fun s r A N cap Q ks rs w h => mark_keys n s r A N cap Q ks rs w (by omega)) s r A N cap Q ks rs w hn h1 h2 h3 h4 h5 h6
end Go.Proofs.YtnfigpknejmkmaaGreatDoor
namespace Go.Proofs.YtnfigpknejmkmaaGreatDoor
open Go.RowKit
set_option linter.unusedVariables false
set_option linter.unusedSimpArgs false

theorem below_wr {w wr w2 : World} (h : Below w.heap.size w wr) (h2 : Below wr.heap.size wr w2) : Below w.heap.size w w2 := h.trans (h2.mono h.size)
set_option maxRecDepth 20000 in
set_option maxHeartbeats 8000000 in
theorem held_keys_step {n0 : Nat} (ih : ∀ (s r : Nat) (A : Option Addr) (N cap : Nat) (ks : List KT) (w : World), nodesL ks < n0 → KVs w A 0 (mkL s ks) → ks.length = N → 0 < s → s + cL ks = r → r ≤ 90000000 →
      Calls Tryz.prog 43 #[.slice A N cap, .int .i64 (s : Int)] w fun e w' => e = .returned (.int .i64 (r : Int)) ∧ Below w.heap.size w w')
    (s r : Nat) (A : Option Addr) (N cap : Nat) (ks : List KT) (w : World) (hn0 : nodesL ks ≤ n0) (hk : KVs w A 0 (mkL s ks)) (hn : ks.length = N) (hs : 0 < s) (hr : s + cL ks = r) (hr2 : r ≤ 90000000) :
    Calls Tryz.prog 43 #[.slice A N cap, .int .i64 (s : Int)] w fun e w' => e = .returned (.int .i64 (r : Int)) ∧ Below w.heap.size w w' := by
  have HN := Lib.hid hn
  have HK := Lib.hid hk
  have HR := Lib.hid hr
  have HN0 := Lib.hid hn0
  have HIH := Lib.hid ih
  have hn9 : N ≤ 90000000 := by
    have h1 := cL_len ks
    omega
  clear hk hr hn0 ih hn
  go_enter Tryz.func43, Tryz.ntmps43
  go_wp2
  go_loopw [1, 5] (fun m i wr => ∃ k z : Nat, k ≤ N ∧ m = .int .i64 (z : Int) ∧ i = .int .i64 (k : Int) ∧ Hid (z = s + cL (ks.take k)) ∧ Hid (Below w.heap.size w wr)) (fun _ i _ => N - (intOf i).toNat)
  case atStart => exact ⟨0, s, Nat.zero_le _, by go_num, by go_num, Lib.hid (by rw [List.take_zero, cL]; rfl), Lib.hid (Below.refl _ _)⟩
  case round =>
    obtain ⟨k, z, hk, rfl, rfl, HZ, HB⟩ := hrel
    by_cases hlt : k < N
    · have h0 : (0 : Int) ≤ (k : Int) := by omega
      have h5 : (k : Int) < (N : Int) := by omega
      obtain ⟨y, hy⟩ : ∃ y, ks[k]? = some y := ⟨_, List.getElem?_eq_getElem (by rw [HN.out]; exact hlt)⟩
      obtain ⟨kd, f, t, S, cs⟩ := y
      have hone := cL_one hy
      have hcT : cT (.mk kd f t S cs) = 3 + 2 * S.length + cL cs := by rw [cT]
      have htk := cL_take ks (k + 1)
      have HNOD : Hid (nodesL cs < n0) := Lib.hid (by
        have h1 := nodesL_get hy
        rw [nodesT] at h1
        have h2 := HN0.out
        omega)
      have hat := mkL_at hy s
      rw [← HZ.out, mkT] at hat
      obtain ⟨b, o, v0, v1, v2, v3, v4, rfl, hbz, c0, c1, c2, c3, c4, hkv⟩ := (KVs.below HB.out (Nat.le_refl _) _ _ _ HK.out).get hat
      obtain ⟨AS, nS, cS, AK, nK, cK, he, a2, a3, a4, a5, a6, a7⟩ := hkv.open
      simp only [Value.agg.injEq, Array.mk.injEq, List.cons.injEq, and_true] at he
      obtain ⟨rfl, rfl, rfl, rfl, rfl⟩ := he
      rw [mkP_len] at a2
      rw [mkL_len] at a6
      rw [Nat.zero_add] at c0 c1 c2 c3 c4
      obtain ⟨q1, hq1⟩ : ∃ q, z + 1 = q := ⟨_, rfl⟩
      obtain ⟨q2, hq2⟩ : ∃ q, z + 2 = q := ⟨_, rfl⟩
      obtain ⟨q3, hq3⟩ : ∃ q, z + 3 = q := ⟨_, rfl⟩
      obtain ⟨q4, hq4⟩ : ∃ q, q3 + 2 * nS = q := ⟨_, rfl⟩
      obtain ⟨r4, hr4⟩ : ∃ q, q4 + cL cs = q := ⟨_, rfl⟩
      rw [hq1] at c1
      rw [hq2] at c2
      rw [hq3, a2] at a5
      rw [hq3, a2, hq4] at a7
      have E1 : (z : Int) + 1 = (q1 : Int) := by omega
      have E2 : (q1 : Int) + 1 = (q2 : Int) := by omega
      have E3 : (q2 : Int) + 1 = (q3 : Int) := by omega
      have hz := HZ.out
      have hrr := HR.out
      have HR4 : Hid (q4 + cL cs = r4 ∧ r4 ≤ 90000000 ∧ 0 < q4 ∧ r4 = s + cL (ks.take (k + 1))) := Lib.hid ⟨hr4, by omega, by omega, by omega⟩
      have HQ2 : Hid (0 < q2 ∧ q2 ≤ 1000000000) := Lib.hid (by omega)
      have HQ3 : Hid (q3 ≤ 100000000 ∧ q3 + 2 * nS = q4) := Lib.hid ⟨by omega, hq4⟩
      have hzb : z ≤ 90000000 := by omega
      have hq1b : q1 ≤ 90000001 := by omega
      have hq2b : q2 ≤ 90000002 := by omega
      have hq3b : q3 ≤ 90000003 := by omega
      have q40 : ¬ (q4 : Int) < 0 := by omega
      have r40 : ¬ (r4 : Int) < 0 := by omega
      have hne0 : ((z : Int) != (z : Int)) = false := by simp
      have hne1 : ((q1 : Int) != (q1 : Int)) = false := by simp
      have HNS : Hid (nS ≤ 33554432) := Lib.hid a3
      have HA5 := Lib.hid a5
      have HA6 := Lib.hid a6
      have HA7 := Lib.hid a7
      obtain ⟨x2, hx2⟩ : ∃ v, rB (mt q2) = v := ⟨_, rfl⟩
      rw [hx2] at c2
      have HX2 := Lib.hid hx2
      have HC3 := Lib.hid c3
      have HC4 := Lib.hid c4
      clear hone hcT htk hat hkv a2 a3 a4 a5 a6 a7 hq1 hq2 hq3 hq4 hr4 hz hrr hy hx2 c3 c4
      go_wp2
      go_region_held3 (fun w' => w'.cell? ⟨b, o + k * 5 + 2, none⟩ = some (.string x2)) (first | exact c2 | go_keep)
        ((go_at_call 71; refine (mark_text q2 wr.drew HQ2.out.1 HQ2.out.2).mono ?_; rw [HX2.out]; rintro e w2 ⟨rfl, hb2⟩; have HBW := Lib.hid (below_eq (Below.refl wr.heap.size wr) hb2); have c2' := (HBW.out.cell (p := ⟨b, o + k * 5 + 2, none⟩) hbz).trans c2; have HY3 := Lib.hid ((HBW.out.cell (p := ⟨b, o + k * 5 + 3, none⟩) hbz).trans HC3.out); have HY4 := Lib.hid ((HBW.out.cell (p := ⟨b, o + k * 5 + 4, none⟩) hbz).trans HC4.out); clear hb2))
      all_goals
        have HB2 := Lib.hid (below_wr HB.out HBW.out)
        have HS2 := Lib.hid (HA5.out.below HBW.out (Nat.le_refl _))
        have HK2 := Lib.hid (KVs.below HBW.out (Nat.le_refl _) _ _ _ HA7.out)
        have hbz2 : b < w2.heap.size := Nat.lt_of_lt_of_le hbz HBW.out.size
        have x3 := HY3.out
        clear c0 c1 c2 c2'
        go_wp2_with fail
        refine (held_spans q3 q4 AS cS nS w2 HS2.out HNS.out HQ3.out.1 HQ3.out.2).mono ?_
        rintro e w3 ⟨rfl, rfl⟩
        have x4 := HY4.out
        clear x3
        go_wp2_with fail
        refine (HIH.out q4 r4 AK nK cK cs w2 HNOD.out HK2.out HA6.out HR4.out.2.2.1 HR4.out.1 HR4.out.2.1).mono ?_
        rintro e w5 ⟨rfl, hb5⟩
        have HB5 := Lib.hid (below_wr HB2.out hb5)
        clear hb5 x4
        go_wp2
        go_roundw
        case rel => exact ⟨k + 1, r4, by omega, by go_num, by go_num, Lib.hid HR4.out.2.2.2, HB5⟩
        case measure => simp [intOf]; omega
    · have h5 : ¬ (k : Int) < (N : Int) := by omega
      have hkn : k = N := by omega
      have hz := HZ.out
      rw [hkn, List.take_of_length_le (by rw [HN.out]; exact Nat.le_refl _), HR.out] at hz
      have HZ2 := Lib.hid hz
      clear hkn hz
      go_wp2
      go_ret
      refine ⟨?_, HB.out⟩
      rw [HZ2.out]
      rfl
theorem held_keys : ∀ (n0 s r : Nat) (A : Option Addr) (N cap : Nat) (ks : List KT) (w : World), nodesL ks ≤ n0 → KVs w A 0 (mkL s ks) → ks.length = N → 0 < s → s + cL ks = r → r ≤ 90000000 →
    Calls Tryz.prog 43 #[.slice A N cap, .int .i64 (s : Int)] w fun e w' => e = .returned (.int .i64 (r : Int)) ∧ Below w.heap.size w w'
  | 0, s, r, A, N, cap, ks, w, hn, h1, h2, h3, h4, h5 => held_keys_step (n0 := 0) (fun _ _ _ _ _ _ _ h => absurd h (Nat.not_lt_zero _)) s r A N cap ks w hn h1 h2 h3 h4 h5
  | n + 1, s, r, A, N, cap, ks, w, hn, h1, h2, h3, h4, h5 => held_keys_step (n0 := n + 1) (fun s r A N cap ks w h => held_keys n s r A N cap ks w (by omega)) s r A N cap ks w hn h1 h2 h3 h4 h5
/-- A key by itself that is marked. -/
def mkY (s : Nat) : KT → KT
  | .mk kd f t S ks => .mk kd f t (mkP s S.length) (mkL (s + 2 * S.length) ks)
def cY : KT → Nat
  | .mk _ _ _ S ks => 2 * S.length + cL ks
set_option maxHeartbeats 4000000 in
theorem mark_key (s r : Nat) (P : Nat → Prop) (K : KT) (x : KR) (w : World) (h : KO w P K (kval x)) (hP : ∀ b, P b → b < w.heap.size) (hs : 0 < s) (hr : s + cY K = r) (hr2 : r ≤ 90000000) :
    Calls Tryz.prog 13 #[kval x, .int .i64 (s : Int)] w fun e w' => e = .returned (.int .i64 (r : Int)) ∧ KO w' P (mkY s K) (kval x) ∧ Writ P w w' := by
  obtain ⟨kd, f, t, S, ks⟩ := K
  rw [KO] at h
  obtain ⟨AS, nS, cS, AK, nK, cK, rs, Q, e1, e2, e3, e4, e5, e6, e7, e8, e9⟩ := h
  have := kval_inj e1
  subst this
  have hl : S.length = nS := by
    obtain ⟨A2, c2, he, -⟩ := e4.form
    simp only [Value.slice.injEq] at he
    exact he.2.1.symm
  rw [cY] at hr
  obtain ⟨q4, hq4⟩ : ∃ q, s + 2 * nS = q := ⟨_, rfl⟩
  have HQ4 : Hid (s + 2 * nS = q4 ∧ q4 + cL ks = r ∧ 0 < q4 ∧ s ≤ 100000000) := Lib.hid (by omega)
  have HL := Lib.hid hl
  have HR2 := Lib.hid hr2
  have HNS := Lib.hid e2
  have HT := Lib.hid e3
  obtain ⟨D, hD⟩ : ∃ D, w.heap.size = D := ⟨_, rfl⟩
  obtain ⟨w0, hw0⟩ : ∃ z, w.alloc (.cells #[.int .i64 kd, .int .i64 f, .string t, .slice AS nS cS, .slice AK nK cK] 27) = z := ⟨_, rfl⟩
  have HDD := Lib.hid hD
  have HW0 := Lib.hid hw0
  have hb0 : Below w.heap.size w w0 := by rw [← hw0]; exact below_newK w _
  have HX0 : Hid (Whole w0 D 27 #[.int .i64 kd, .int .i64 f, .string t, .slice AS nS cS, .slice AK nK cK]) := Lib.hid (by rw [← hw0, ← hD]; exact Whole.made w _ _)
  have C0 : Hid (Writ P w w0) := Lib.hid (Writ.one (gr_belowK (row := none) hb0) (fun _ e => by cases e))
  have HPD : Hid (∀ b, P b → b ≠ D) := Lib.hid (fun b hb e => by have := hP b hb; omega)
  have CN : Hid (Writ (fun _ => False) w w0) := Lib.hid (Writ.one (gr_belowK (row := none) hb0) (fun _ e => by cases e))
  have HS0 := Lib.hid (e4.writ CN.out (fun _ _ h => h))
  have HK0 := Lib.hid (e5.writ CN.out (fun _ _ h => h))
  have HC0 := Lib.hid (KOs.writ CN.out ks rs Q (fun _ _ h => h) e9)
  have H6 := Lib.hid e6
  have H7 := Lib.hid e7
  have H8 := Lib.hid e8
  clear hD hw0 hb0 e2 e3 e4 e5 e6 e7 e8 e9 hl hP
  have xc3 := HX0.out.cell 3
  have xc4 := HX0.out.cell 4
  simp only [List.getElem?_toArray, List.getElem?_cons_zero, List.getElem?_cons_succ] at xc3 xc4
  go_enter Tryz.func13, Tryz.ntmps13
  go_wp2_with fail
  try rw [HDD.out]
  try rw [HW0.out]
  refine (mark_spans s q4 AS cS nS 0 S w0 HL.out HS0.out HNS.out HQ4.out.2.2.2 HQ4.out.1).mono ?_
  rintro e w3 ⟨rfl, hown, hg⟩
  have HS3 := Lib.hid hown
  have C3 : Hid (Writ (fun b => Value.ownBlock (.slice AS nS cS) = some b) w0 w3) := Lib.hid (Writ.one hg (fun b e => e))
  have HX3 := Lib.hid (HX0.out.writ C3.out (fun e => HPD.out D (H6.out D e).1 rfl))
  have HK3 := Lib.hid (HK0.out.writ C3.out (fun b e h => (H7.out b e).2.2 h))
  have HC3 := Lib.hid (KOs.writ C3.out ks rs Q (fun b hb h => (H6.out b h).2 hb) HC0.out)
  clear hown hg xc3 xc4
  have xc4 := HX3.out.cell 4
  simp only [List.getElem?_toArray, List.getElem?_cons_zero, List.getElem?_cons_succ] at xc4
  go_wp2_with fail
  refine (mark_keys (nodesL ks) q4 r AK nK cK Q ks rs w3 (Nat.le_refl _) HK3.out (fun b e => (H7.out b e).2.1) HC3.out HQ4.out.2.2.1 HQ4.out.2.1 HR2.out).mono ?_
  rintro e w4 ⟨rfl, rc4, ho4, hk4, hw4⟩
  have HS4 := Lib.hid (HS3.out.writ hw4 (fun b e h => h.elim (H6.out b e).2 (fun h => (H7.out b h).2.2 e)))
  have C4 : Hid (Writ P w w4) := Lib.hid ((C0.out.trans (C3.out.mono (fun b h => (H6.out b h).1))).trans (hw4.mono (fun b h => h.elim (H8.out b) (fun h => (H7.out b h).1))))
  have HF : Hid (KO w4 P (mkY s (.mk kd f t S ks)) (kval (kd, f, t, (AS, nS, cS), (AK, nK, cK)))) := Lib.hid (by
    rw [mkY, KO, HL.out, HQ4.out.1]
    exact ⟨AS, nS, cS, AK, nK, cK, rc4, Q, rfl, HNS.out, HT.out, HS4.out, ho4, H6.out, H7.out, H8.out, hk4⟩)
  clear ho4 hk4 hw4 xc4
  go_wp2
  go_ret
  exact ⟨rfl, HF.out, C4.out⟩
set_option maxHeartbeats 4000000 in
theorem held_key (s r : Nat) (K : KT) (x : KR) (w : World) (h : KV w (mkY s K) (kval x)) (hs : 0 < s) (hr : s + cY K = r) (hr2 : r ≤ 90000000) :
    Calls Tryz.prog 14 #[kval x, .int .i64 (s : Int)] w fun e w' => e = .returned (.int .i64 (r : Int)) ∧ Below w.heap.size w w' := by
  obtain ⟨kd, f, t, S, ks⟩ := K
  rw [mkY] at h
  obtain ⟨AS, nS, cS, AK, nK, cK, e1, a2, a3, a4, a5, a6, a7⟩ := h.open
  have := kval_inj (b := (kd, f, t, (AS, nS, cS), (AK, nK, cK))) e1
  subst this
  rw [mkP_len] at a2
  rw [mkL_len] at a6
  rw [cY] at hr
  rw [a2] at a5 a7 hr
  obtain ⟨q4, hq4⟩ : ∃ q, s + 2 * nS = q := ⟨_, rfl⟩
  rw [hq4] at a7
  have HQ4 : Hid (s + 2 * nS = q4 ∧ q4 + cL ks = r ∧ 0 < q4 ∧ s ≤ 100000000) := Lib.hid (by omega)
  have q40 : ¬ (q4 : Int) < 0 := by omega
  have r40 : ¬ (r : Int) < 0 := by omega
  have HR2 := Lib.hid hr2
  have HNS := Lib.hid a3
  have HA6 := Lib.hid a6
  obtain ⟨D, hD⟩ : ∃ D, w.heap.size = D := ⟨_, rfl⟩
  obtain ⟨w0, hw0⟩ : ∃ z, w.alloc (.cells #[.int .i64 kd, .int .i64 f, .string t, .slice AS nS cS, .slice AK nK cK] 27) = z := ⟨_, rfl⟩
  have HDD := Lib.hid hD
  have HW0 := Lib.hid hw0
  have hb0 : Below w.heap.size w w0 := by rw [← hw0]; exact below_newK w _
  have HB0 := Lib.hid hb0
  have HX0 : Hid (Whole w0 D 27 #[.int .i64 kd, .int .i64 f, .string t, .slice AS nS cS, .slice AK nK cK]) := Lib.hid (by rw [← hw0, ← hD]; exact Whole.made w _ _)
  have HS0 := Lib.hid (a5.below hb0 (Nat.le_refl _))
  have HK0 := Lib.hid (KVs.below hb0 (Nat.le_refl _) _ _ _ a7)
  clear hD hw0 hb0 a2 a3 a4 a5 a6 a7 hq4 hr e1
  have xc3 := HX0.out.cell 3
  have xc4 := HX0.out.cell 4
  simp only [List.getElem?_toArray, List.getElem?_cons_zero, List.getElem?_cons_succ] at xc3 xc4
  go_enter Tryz.func14, Tryz.ntmps14
  go_wp2_with fail
  try rw [HDD.out]
  try rw [HW0.out]
  refine (held_spans s q4 AS cS nS w0 HS0.out HNS.out HQ4.out.2.2.2 HQ4.out.1).mono ?_
  rintro e w3 ⟨rfl, rfl⟩
  go_wp2_with fail
  refine (held_keys (nodesL ks) q4 r AK nK cK ks w0 (Nat.le_refl _) HK0.out HA6.out HQ4.out.2.2.1 HQ4.out.2.1 HR2.out).mono ?_
  rintro e w4 ⟨rfl, hb4⟩
  have HB4 := Lib.hid (below_wr HB0.out hb4)
  clear hb4
  go_wp2
  go_ret
  exact ⟨rfl, HB4.out⟩
end Go.Proofs.YtnfigpknejmkmaaGreatDoor
namespace Go.Proofs.YtnfigpknejmkmaaGreatDoor
open Go.RowKit
set_option linter.unusedVariables false

/-- A key that was copied: its value, its memory in new blocks. -/
def ToW (w : World) (k : KT) (e : Ending) (w' : World) : Prop := ∃ r : KR, e = .returned (kval r) ∧ KW w.heap.size w'.heap.size w' k (kval r) ∧ Below w.heap.size w w'
set_option maxRecDepth 20000 in
set_option maxHeartbeats 8000000 in
theorem tow_keys_step {n : Nat} (ih : ∀ (k : KT) (v : Value) (w1 : World), nodesT k ≤ n → szT k ≤ 1048576 → KV w1 k v → Calls Tryz.prog 19 #[v] w1 (ToW w1 k))
    {ks : List KT} (hks : ∀ k ∈ ks, nodesT k ≤ n) (hsz : ∀ k ∈ ks, szT k ≤ 1048576) {AK : Option Addr} {nK : Nat} (cK : Nat) (w : World) (h : KVs w AK 0 ks) (hn : ks.length = nK) (hm : nK ≤ 1048576) :
    Calls Tryz.prog 51 #[.slice AK nK cK] w fun e w' => ∃ g rs, e = .returned (.slice (some ⟨g, 0, none⟩) nK nK) ∧ ROwn keyR w' w.heap.size (.slice (some ⟨g, 0, none⟩) nK nK) rs ∧ g = w.heap.size ∧ KOs w' (fun b => g + 1 ≤ b ∧ b < w'.heap.size) ks rs ∧ Below w.heap.size w w' := by
  obtain ⟨i0, hi, hq0, hq1, hq2⟩ := info_parts Tryz.infoKey
  have HIH := Lib.hid ih
  have HKS := Lib.hid h
  have HN := Lib.hid hn
  have HAL := Lib.hid hks
  have HSL := Lib.hid hsz
  clear ih h hn hks hsz
  have hb2 : i0.bytes * nK ≤ 281474976710656 := by rw [hq2]; omega
  have hb3 : nK ≤ maxLen := by unfold maxLen; omega
  go_enter Tryz.func51, Tryz.ntmps51
  go_wp2_with (at_make; refine wpList_make_full _ rfl _ _ 25 rfl w.heap.size 27 i0 (.agg #[.int .i64 0, .int .i64 0, .string ⟨#[]⟩, .slice none 0 0, .slice none 0 0]) 5 Tryz.underlying25 hi hq0 hq1 .i64 .i64 (nK : Int) (nK : Int) nK rfl rfl rfl rfl hb2 hb3 (Nat.le_refl _) ?_)
  intro w1 hown hgrow
  obtain ⟨N, hN⟩ : ∃ N, w.heap.size = N := ⟨_, rfl⟩
  have HNN := Lib.hid hN
  have HB1 : Hid (Below N w w1) := hN ▸ (Below.refl _ _).grown hgrow (Nat.le_refl _) (fun z hz => by cases hz)
  have ho1 : ROwn keyR w1 N (.slice (some ⟨N, 0, none⟩) nK nK) (List.replicate nK zR) := by
    unfold ROwn
    rw [List.length_replicate, ← made_rows keyR (.agg #[.int .i64 0, .int .i64 0, .string ⟨#[]⟩, .slice none 0 0, .slice none 0 0]) zR rfl (by decide), ← hN]
    exact hown
  have HO1 := Lib.hid ho1
  have hN1 : N + 1 ≤ w1.heap.size := by
    have := (World.ownsRow.lt ho1 N rfl).2
    omega
  rw [hN]
  clear hown hgrow ho1 hN
  go_wp2
  go_loopw [4] (fun i wr => ∃ (k : Nat) (rs : List KR), k ≤ nK ∧ i = .int .i64 (k : Int) ∧ N + 1 ≤ wr.heap.size ∧ Hid (rs.length = k) ∧ Hid (Below N w wr) ∧ Hid (KOs wr (fun b => N + 1 ≤ b ∧ b < wr.heap.size) (ks.take k) rs) ∧ Hid (ROwn keyR wr N (.slice (some ⟨N, 0, none⟩) nK nK) (rs ++ List.replicate (nK - k) zR))) (fun i _ => nK - (intOf i).toNat)
  case atStart => exact ⟨0, [], Nat.zero_le _, by go_num, hN1, rfl, HB1, Lib.hid (by rw [List.take_zero, KOs]), by rw [List.nil_append, Nat.sub_zero]; exact HO1⟩
  case round =>
    obtain ⟨k, rs, hk, rfl, hNr, HL, HB, HK, HO⟩ := hrel
    by_cases hlt : k < nK
    · have h0 : (0 : Int) ≤ (k : Int) := by omega
      have h5 : (k : Int) < (nK : Int) := by omega
      obtain ⟨x, hx⟩ : ∃ x, ks[k]? = some x := ⟨_, List.getElem?_eq_getElem (by rw [HN.out]; exact hlt)⟩
      obtain ⟨b, o, v0, v1, v2, v3, v4, rfl, hbz, c0, c1, c2, c3, c4, hkv⟩ := (KVs.below HB.out (Nat.le_of_eq HNN.out) _ _ _ HKS.out).get hx
      rw [Nat.zero_add] at c0 c1 c2 c3 c4
      have HC := Lib.hid (HIH.out x _ wr (HAL.out x (List.mem_of_getElem? hx)) (HSL.out x (List.mem_of_getElem? hx)) hkv)
      have HTK := Lib.hid (takeK hx)
      clear hx hkv
      go_wp2_with fail
      refine HC.out.mono ?_
      rintro e w2 ⟨r, rfl, hka, hb⟩
      have HB2 := Lib.hid (HB.out.trans (hb.mono (Nat.le_trans (Nat.le_succ N) hNr)))
      have HO2 := Lib.hid (HO.out.kept hb)
      have hz2 := Nat.le_trans hNr hb.size
      have HK2 : Hid (KOs w2 (fun b => N + 1 ≤ b ∧ b < w2.heap.size) (ks.take (k + 1)) (rs ++ [r])) := Lib.hid (by
        rw [HTK.out]
        have hsz := hb.size
        have p1 : KOs w2 (fun b => N + 1 ≤ b ∧ b < wr.heap.size) (ks.take k) rs := KOs.writ (S := fun _ => False) (Writ.one (gr_belowK (row := none) hb) (fun _ e => by cases e)) _ _ _ (fun _ _ h => h) HK.out
        have p2 : KO w2 (fun b => wr.heap.size ≤ b ∧ b < w2.heap.size) x (kval r) := hka
        exact KOs.mono (fun b q => by rcases q with q | q <;> omega) (KOs.push p1 p2 (fun b q q2 => by omega)))
      obtain ⟨y, hy⟩ : ∃ y, (rs ++ List.replicate (nK - k) zR)[k]? = some y := ⟨_, List.getElem?_eq_getElem (by rw [List.length_append, List.length_replicate, HL.out]; omega)⟩
      have d0 := HO2.out.cell hy (j := 0) rfl
      have d1 := HO2.out.cell hy (j := 1) rfl
      have d2 := HO2.out.cell hy (j := 2) rfl
      have d3 := HO2.out.cell hy (j := 3) rfl
      have d4 := HO2.out.cell hy (j := 4) rfl
      have f0 := HO2.out.free (k * 5)
      have f1 := HO2.out.free (k * 5 + 1)
      have f2 := HO2.out.free (k * 5 + 2)
      have f3 := HO2.out.free (k * 5 + 3)
      have f4 := HO2.out.free (k * 5 + 4)
      have hst := put_key HO2.out hy r
      obtain ⟨r0, r1, r2, ⟨r3, r4, r5⟩, ⟨r6, r7, r8⟩⟩ := r
      obtain ⟨ws, hws⟩ : ∃ z, (((((w2.setCell ⟨N, k * 5, none⟩ (.int .i64 r0)).setCell ⟨N, k * 5 + 1, none⟩ (.int .i64 r1)).setCell ⟨N, k * 5 + 2, none⟩ (.string r2)).setCell ⟨N, k * 5 + 3, none⟩ (.slice r3 r4 r5)).setCell ⟨N, k * 5 + 4, none⟩ (.slice r6 r7 r8)) = z := ⟨_, rfl⟩
      have hgs : w2.grownBy ws (some N) := by rw [← hws]; exact gr_one (gr_one (gr_one (gr_one (gr_one (gr_refl _ _) _ _) _ _) _ _) _ _) _ _
      have HST : Hid (ROwn keyR ws N (.slice (some ⟨N, 0, none⟩) nK nK) ((rs ++ [(r0, r1, r2, (r3, r4, r5), (r6, r7, r8))]) ++ List.replicate (nK - (k + 1)) zR)) := Lib.hid (by
        rw [← hws, ← set_tailK HL.out hlt]
        exact hst)
      have HBS : Hid (Below N w ws) := Lib.hid (HB2.out.grown hgs (by omega) (fun g e => by have := Option.some.inj e; omega))
      have HKS2 : Hid (KOs ws (fun b => N + 1 ≤ b ∧ b < ws.heap.size) (ks.take (k + 1)) (rs ++ [(r0, r1, r2, (r3, r4, r5), (r6, r7, r8))])) := Lib.hid (by
        have hsz := hgs.size
        exact KOs.mono (P := fun b => N + 1 ≤ b ∧ b < w2.heap.size) (fun b q => by omega) (KOs.writ (S := fun b => b = N) (Writ.one hgs (fun g e => (Option.some.inj e).symm)) _ _ _ (fun b q e => by omega) HK2.out))
      have HLS : Hid ((rs ++ [(r0, r1, r2, (r3, r4, r5), (r6, r7, r8))]).length = k + 1) := Lib.hid (by rw [List.length_append, HL.out]; rfl)
      have hzs : N + 1 ≤ ws.heap.size := Nat.le_trans hz2 hgs.size
      have HWS := Lib.hid hws
      simp only [keyR, Nat.add_zero] at d0 d1 d2 d3 d4
      clear hy hst hka hb hgs hws c0 c1 c2 c3 c4
      go_wp2
      try rw [HWS.out]
      go_roundw
      case rel => exact ⟨k + 1, _, by omega, by go_num, hzs, HLS, HBS, HKS2, HST⟩
      case measure => simp [intOf]; omega
    · have h5 : ¬ (k : Int) < (nK : Int) := by omega
      have hkn : k = nK := by omega
      have ho := HO.out
      have hkk := HK.out
      rw [hkn, Nat.sub_self, List.replicate_zero, List.append_nil] at ho
      rw [hkn, List.take_of_length_le (by rw [HN.out]; exact Nat.le_refl _)] at hkk
      have HOE := Lib.hid ho
      have HKE := Lib.hid hkk
      clear ho hkn hkk
      go_wp2
      go_ret
      exact ⟨N, rfl, rs, HNN.out ▸ HOE.out, HNN.out.symm, HKE.out, HNN.out ▸ HB.out⟩
set_option maxRecDepth 20000 in
set_option maxHeartbeats 4000000 in
theorem tow_key_step {n : Nat} (ih : ∀ (k : KT) (v : Value) (w1 : World), nodesT k ≤ n → szT k ≤ 1048576 → KV w1 k v → Calls Tryz.prog 19 #[v] w1 (ToW w1 k))
    {kd f : Int} {t : ByteArray} {S : List (Int × Int)} {ks : List KT} {v : Value} (hks : ∀ k ∈ ks, nodesT k ≤ n) (hsz : szT (.mk kd f t S ks) ≤ 1048576) (w : World) (h : KV w (.mk kd f t S ks) v) :
    Calls Tryz.prog 19 #[v] w (ToW w (.mk kd f t S ks)) := by
  obtain ⟨AS, nS, cS, AK, nK, cK, rfl, h2, h3, h4, h5, h6, h7⟩ := h.open
  rw [szT] at hsz
  have hnS : nS ≤ 1048576 := by omega
  have hnK : nK ≤ 1048576 := by omega
  have hsk : ∀ k ∈ ks, szT k ≤ 1048576 := fun k hk => by
    obtain ⟨i, hi⟩ := List.mem_iff_getElem?.1 hk
    have := szT_get hi
    omega
  have HIH := Lib.hid ih
  have HKS := Lib.hid hks
  have HSK := Lib.hid hsk
  have HL := Lib.hid h2
  have HT := Lib.hid h4
  have HLK := Lib.hid h6
  obtain ⟨B, hB⟩ : ∃ B, w.heap.size = B := ⟨_, rfl⟩
  have HBB := Lib.hid hB
  obtain ⟨wq, hwq⟩ : ∃ wq, (((w.alloc (.cells #[.int .i64 kd, .int .i64 f, .string t, .slice AS nS cS, .slice AK nK cK] 41)).alloc (.cells #[.int .i64 0, .int .i64 0, .string ⟨#[]⟩, .slice none 0 0, .slice none 0 0] 27)).alloc (.cells #[.int .i64 kd, .int .i64 f, .string t, .slice none 0 0, .slice none 0 0] 27)) = wq := ⟨_, rfl⟩
  have HBA : Hid (Below B w wq) := Lib.hid (by rw [← hwq, ← hB]; exact (((Below.refl _ _).alloc (Nat.le_refl _) _).alloc (by simp) _).alloc (by simp; omega) _)
  have HW0 : Hid (Whole wq B 41 #[.int .i64 kd, .int .i64 f, .string t, .slice AS nS cS, .slice AK nK cK]) := Lib.hid (by
    rw [← hwq, ← hB]
    exact ((Whole.made w _ _).alloc _).alloc _)
  have HW1 : Hid (Whole wq (B + 1) 27 #[.int .i64 0, .int .i64 0, .string ⟨#[]⟩, .slice none 0 0, .slice none 0 0]) := Lib.hid (by
    rw [← hwq, ← hB]
    have h2 := Whole.made (w.alloc (.cells #[.int .i64 kd, .int .i64 f, .string t, .slice AS nS cS, .slice AK nK cK] 41)) 27 #[.int .i64 0, .int .i64 0, .string ⟨#[]⟩, .slice none 0 0, .slice none 0 0]
    rw [show (w.alloc (.cells #[.int .i64 kd, .int .i64 f, .string t, .slice AS nS cS, .slice AK nK cK] 41)).heap.size = w.heap.size + 1 by simp] at h2
    exact h2.alloc _)
  have HW2 : Hid (Whole wq (B + 1 + 1) 27 #[.int .i64 kd, .int .i64 f, .string t, .slice none 0 0, .slice none 0 0]) := Lib.hid (by
    rw [← hwq, ← hB]
    have h2 := Whole.made ((w.alloc (.cells #[.int .i64 kd, .int .i64 f, .string t, .slice AS nS cS, .slice AK nK cK] 41)).alloc (.cells #[.int .i64 0, .int .i64 0, .string ⟨#[]⟩, .slice none 0 0, .slice none 0 0] 27)) 27 #[.int .i64 kd, .int .i64 f, .string t, .slice none 0 0, .slice none 0 0]
    rw [show ((w.alloc (.cells #[.int .i64 kd, .int .i64 f, .string t, .slice AS nS cS, .slice AK nK cK] 41)).alloc (.cells #[.int .i64 0, .int .i64 0, .string ⟨#[]⟩, .slice none 0 0, .slice none 0 0] 27)).heap.size = w.heap.size + 1 + 1 by simp] at h2
    exact h2)
  have hzq : B + 1 + 1 < wq.heap.size := HW2.out.lt
  have HA := Lib.hid (h5.below HBA.out (Nat.le_of_eq hB))
  have HQ := Lib.hid h7
  clear h h2 h3 h4 h5 h6 h7 hsz hsk hks ih
  have c0 := HW0.out.cell 0
  have c1 := HW0.out.cell 1
  have c2 := HW0.out.cell 2
  have c3 := HW0.out.cell 3
  have c4 := HW0.out.cell 4
  simp at c0 c1 c2 c3 c4
  have HWQ := Lib.hid hwq
  go_enter Tryz.func19, Tryz.ntmps19
  go_wp2_with fail
  clear hwq
  refine (to_spans AS cS nS S wq HL.out HA.out hnS).mono ?_
  rintro e w2 ⟨g, rfl, hown, hb⟩
  have hgz : wq.heap.size ≤ g := (World.ownsRow.lt hown g rfl).1
  have hgl : g < w2.heap.size := (World.ownsRow.lt hown g rfl).2
  have HB2 := Lib.hid (HBA.out.trans (hb.mono (show B ≤ wq.heap.size by omega)))
  have HV0 := Lib.hid (HW0.out.below hb HW0.out.lt)
  have HV1 := Lib.hid (HW1.out.below hb HW1.out.lt)
  have HV2 := Lib.hid (HW2.out.below hb HW2.out.lt)
  have hz2 : wq.heap.size ≤ w2.heap.size := hb.size
  obtain ⟨w3, hw3⟩ : ∃ z, w2.setCell ⟨B + 1 + 1, 3, none⟩ (.slice (some ⟨g, 0, none⟩) nS nS) = z := ⟨_, rfl⟩
  have hg3 : w2.grownBy w3 (some (B + 1 + 1)) := by rw [← hw3]; exact gr_one (gr_refl _ _) _ _
  have HO3 : Hid (Own w3 wq.heap.size (.slice (some ⟨g, 0, none⟩) nS nS) S) := Lib.hid (World.ownsRow.kept hown hg3 (.inr (fun e => by have := Option.some.inj (show some g = some (B + 1 + 1) from e); omega)))
  have HU0 := Lib.hid (HV0.out.grown hg3 (fun e => by have := Option.some.inj e; omega))
  have HU1 := Lib.hid (HV1.out.grown hg3 (fun e => by have := Option.some.inj e; omega))
  have HU2 : Hid (Whole w3 (B + 1 + 1) 27 #[.int .i64 kd, .int .i64 f, .string t, .slice (some ⟨g, 0, none⟩) nS nS, .slice none 0 0]) := Lib.hid (by rw [← hw3]; exact HV2.out.store 3 _)
  have HB3 := Lib.hid (HB2.out.grown hg3 (by omega) (fun k e => by have := Option.some.inj e; omega))
  have HW3 := Lib.hid hw3
  have hgl3 : g < w3.heap.size := Nat.lt_of_lt_of_le hgl hg3.size
  have b3 := HV2.out.cell 3
  have e3 := HV2.out.free 3
  have hz3 : wq.heap.size ≤ w3.heap.size := Nat.le_trans hz2 hg3.size
  have q0 := HU0.out.cell 4
  simp at b3 q0
  clear hown hb hg3 c0 c1 c2 c3 c4
  go_wp2_with fail
  try rw [HW3.out]
  clear hw3
  refine (tow_keys_step HIH.out HKS.out HSK.out cK w3 (KVs.below HB3.out (Nat.le_of_eq HBB.out) _ _ _ HQ.out) HLK.out hnK).mono ?_
  rintro e w4 ⟨g2, rs, rfl, hok, hge, hkr, hb⟩
  have hg2 : w3.heap.size ≤ g2 := (World.ownsRow.lt hok g2 rfl).1
  have HO4 := Lib.hid (HO3.out.kept hb)
  have HB4 := Lib.hid (HB3.out.trans (hb.mono (show B ≤ w3.heap.size by omega)))
  have HX0 := Lib.hid (HU0.out.below hb HU0.out.lt)
  have HX1 := Lib.hid (HU1.out.below hb HU1.out.lt)
  have HX2 := Lib.hid (HU2.out.below hb HU2.out.lt)
  have hz4 : w3.heap.size ≤ w4.heap.size := hb.size
  obtain ⟨w5, hw5⟩ : ∃ z, w4.setCell ⟨B + 1 + 1, 4, none⟩ (.slice (some ⟨g2, 0, none⟩) nK nK) = z := ⟨_, rfl⟩
  have hg5 : w4.grownBy w5 (some (B + 1 + 1)) := by rw [← hw5]; exact gr_one (gr_refl _ _) _ _
  obtain ⟨w6, hw6⟩ : ∃ z, (((((w5.setCell ⟨B + 1, 0, none⟩ (.int .i64 kd)).setCell ⟨B + 1, 1, none⟩ (.int .i64 f)).setCell ⟨B + 1, 2, none⟩ (.string t)).setCell ⟨B + 1, 3, none⟩ (.slice (some ⟨g, 0, none⟩) nS nS)).setCell ⟨B + 1, 4, none⟩ (.slice (some ⟨g2, 0, none⟩) nK nK)) = z := ⟨_, rfl⟩
  have hg6 : w5.grownBy w6 (some (B + 1)) := by rw [← hw6]; exact gr_one (gr_one (gr_one (gr_one (gr_one (gr_refl _ _) _ _) _ _) _ _) _ _) _ _
  have HO6 : Hid (Own w6 wq.heap.size (.slice (some ⟨g, 0, none⟩) nS nS) S) := Lib.hid (World.ownsRow.kept (World.ownsRow.kept HO4.out hg5 (.inr (fun e => by have := Option.some.inj (show some g = some (B + 1 + 1) from e); omega))) hg6 (.inr (fun e => by have := Option.some.inj (show some g = some (B + 1) from e); omega)))
  have HR6 : Hid (ROwn keyR w6 w3.heap.size (.slice (some ⟨g2, 0, none⟩) nK nK) rs) := Lib.hid ((hok.apart hg5 (.inr (fun e => by have := Option.some.inj (show some g2 = some (B + 1 + 1) from e); omega))).apart hg6 (.inr (fun e => by have := Option.some.inj (show some g2 = some (B + 1) from e); omega)))
  have HK6 : Hid (KOs w6 (fun b => g2 + 1 ≤ b ∧ b < w6.heap.size) ks rs) := Lib.hid (by
    have h5 := hg5.size
    have h6 := hg6.size
    exact KOs.mono (P := fun b => g2 + 1 ≤ b ∧ b < w4.heap.size) (fun b q => by omega) (KOs.writ (S := fun b => b = B + 1 + 1 ∨ b = B + 1) ((Writ.one hg5 (fun b e => .inl (Option.some.inj e).symm)).trans (Writ.one hg6 (fun b e => .inr (Option.some.inj e).symm))) _ _ _ (fun b q e => by omega) hkr))
  have HB6 := Lib.hid ((HB4.out.grown hg5 (by omega) (fun k e => by have := Option.some.inj e; omega)).grown hg6 (by have := hg5.size; omega) (fun k e => by have := Option.some.inj e; omega))
  have HY2 := Lib.hid (HX2.out.store 4 (.slice (some ⟨g2, 0, none⟩) nK nK))
  have HY1 := Lib.hid (HX1.out.grown hg5 (fun e => by have := Option.some.inj e; omega))
  rw [hw5] at HY2
  have x0 := HX2.out.cell 4
  have y0 := HX2.out.free 4
  have u0 := HY2.out.cell 0
  have u1 := HY2.out.cell 1
  have u2 := HY2.out.cell 2
  have u3 := HY2.out.cell 3
  have u4 := HY2.out.cell 4
  have j0 := HY1.out.cell 0
  have j1 := HY1.out.cell 1
  have j2 := HY1.out.cell 2
  have j3 := HY1.out.cell 3
  have j4 := HY1.out.cell 4
  have l0 := HY1.out.free 0
  have l1 := HY1.out.free 1
  have l2 := HY1.out.free 2
  have l3 := HY1.out.free 3
  have l4 := HY1.out.free 4
  simp at x0 u0 u1 u2 u3 u4 j0 j1 j2 j3 j4
  have HFIN : Hid (KW w.heap.size w6.heap.size w6 (.mk kd f t S ks) (kval (kd, f, t, (some ⟨g, 0, none⟩, nS, nS), (some ⟨g2, 0, none⟩, nK, nK)))) := Lib.hid (by
    rw [HBB.out]
    unfold KW
    rw [KO]
    have h1 := World.ownsRow.lt HO6.out g rfl
    have h2 := World.ownsRow.lt HR6.out g2 rfl
    refine ⟨_, _, _, _, _, _, rs, fun b => g2 + 1 ≤ b ∧ b < w6.heap.size, rfl, (show nS ≤ 33554432 by omega), HT.out, HO6.out.from (Nat.zero_le _), HR6.out.from (Nat.zero_le _), fun b e => ?_, fun b e => ?_, fun b q => ?_, HK6.out⟩
    · obtain rfl : g = b := Option.some.inj e
      exact ⟨⟨by omega, by omega⟩, fun q => by omega⟩
    · obtain rfl : g2 = b := Option.some.inj e
      exact ⟨⟨by omega, by omega⟩, fun q => by omega, fun e2 => by have := Option.some.inj (show some g = some g2 from e2); omega⟩
    · omega)
  have HB7 : Hid (Below w.heap.size w w6) := Lib.hid (by rw [HBB.out]; exact HB6.out)
  have HW5 := Lib.hid hw5
  have HW6 := Lib.hid hw6
  have hz1 := ((((HY1.out.store 0 (.int .i64 kd)).store 1 (.int .i64 f)).store 2 (.string t)).store 3 (.slice (some ⟨g, 0, none⟩) nS nS)).store 4 (.slice (some ⟨g2, 0, none⟩) nK nK)
  rw [hw6] at hz1
  have r0 := hz1.cell 0
  have r1 := hz1.cell 1
  have r2 := hz1.cell 2
  have r3 := hz1.cell 3
  have r4 := hz1.cell 4
  simp at r0 r1 r2 r3 r4
  clear hge hgl hgl3 hok hkr hb hg5 hg6 hw6 hz1 b3 e3 q0
  go_wp2
  try rw [HW6.out]
  refine bodyPost_ret (v := .agg #[.int .i64 kd, .int .i64 f, .string t, .slice (some ⟨g, 0, none⟩) nS nS, .slice (some ⟨g2, 0, none⟩) nK nK]) (by simp [results, Tryz.results19, go_sem, *]) rfl ?_
  exact ⟨(kd, f, t, (some ⟨g, 0, none⟩, nS, nS), (some ⟨g2, 0, none⟩, nK, nK)), rfl, HFIN.out, HB7.out⟩
theorem tow_key : ∀ (n : Nat) (k : KT) (v : Value) (w : World), nodesT k ≤ n → szT k ≤ 1048576 → KV w k v → Calls Tryz.prog 19 #[v] w (ToW w k)
  | 0, k, v, w, hn, _, _ => by have := nodesT_pos k; omega
  | n + 1, .mk kd f t S ks, v, w, hn, hs, h => by
    rw [nodesT] at hn
    exact tow_key_step (n := n) (fun k' v' w1 h1 h2 h3 => tow_key n k' v' w1 h1 h2 h3) (nodes_mem (by omega)) hs w h
end Go.Proofs.YtnfigpknejmkmaaGreatDoor
namespace Go.Proofs.YtnfigpknejmkmaaGreatDoor
open Go.RowKit
set_option linter.unusedVariables false

theorem conv_oneEX (W : World) (N : Nat) (c : UInt8) (z : Int) (hz : (c.toNat : Int) = z) (h : W.cell? ⟨N, 0, none⟩ = some (.int .u8 z)) :
    (convert 22 9 (.slice (some ⟨N, 0, none⟩) 1 1)).run Tryz.prog W = .ok (.string ⟨#[c]⟩) W := by
  have := run_convert_bytes_back (P := Tryz.prog) W 22 9 5 ⟨N, 0, none⟩ 1 [c] Tryz.underlying22 Tryz.underlying5 Tryz.underlying9 (fun j hj => by
    have : j = 0 := by simpa using hj
    subst this
    rw [radd, Nat.zero_add, h, ← hz]
    rfl)
  exact this
theorem dig_natEX {d : Nat} (h : d ≤ 9) : ((UInt8.ofNat (48 + d)).toNat : Int) = 48 + (d : Int) := by
  have : (UInt8.ofNat (48 + d)).toNat = 48 + d := by
    rw [UInt8.toNat_ofNat']
    exact Nat.mod_eq_of_lt (by omega)
  omega
/-- A number's digits ahead of a text. -/
def mtGoX (k : Nat) (out : List UInt8) : List UInt8 := if h : k = 0 then out else mtGoX (k / 10) (UInt8.ofNat (48 + k % 10) :: out)
termination_by k
decreasing_by omega
theorem mtGo_zeroX (out : List UInt8) : mtGoX 0 out = out := by rw [mtGoX]; simp
theorem mtGo_stepX {k : Nat} (h : k ≠ 0) (out : List UInt8) : mtGoX k out = mtGoX (k / 10) (UInt8.ofNat (48 + k % 10) :: out) := by rw [mtGoX]; simp [h]
/-- The text that stands for a mark. -/
def mtX (k : Nat) : List UInt8 := 109 :: mtGoX k []

set_option maxHeartbeats 2000000 in
theorem mark_textX (k : Nat) (w : World) (hk : 0 < k) (hk2 : k ≤ 1000000000) :
    Calls Tryz.prog 71 #[.int .i64 (k : Int)] w fun e w' => e = .returned (.string (sB (mtX k))) ∧ Below w.heap.size w w' := by
  have h0 : ¬ (k : Int) ≤ 0 := by omega
  go_enter Tryz.func71, Tryz.ntmps71
  go_wp2
  go_loopw [0, 3] (fun kv ov wr => ∃ (q : Nat) (o : List UInt8) (v : ByteArray), q ≤ k ∧ o.length ≤ 10 ∧ kv = .int .i64 (q : Int) ∧ ov = .string v ∧ Hid (sB o = v) ∧ Hid (q * 10 ^ o.length ≤ k) ∧ Hid (mtGoX q o = mtGoX k []) ∧ Hid (Below w.heap.size w wr)) (fun kv _ _ => (intOf kv).toNat)
  case atStart => exact ⟨k, [], _, Nat.le_refl _, (by show 0 ≤ 10; omega), rfl, rfl, rfl, (by show k * 10 ^ 0 ≤ k; omega), rfl, Below.refl _ _⟩
  case round =>
    obtain ⟨q, o, v, hq, hol, rfl, rfl, HV, HP, HM, HB⟩ := hrel
    have hlen : 0 < q → o.length ≤ 9 := fun h => by
      have h1 := HP.out
      have h2 : 10 ^ o.length ≤ 10 ^ 9 := by
        have : 1 * 10 ^ o.length ≤ q * 10 ^ o.length := Nat.mul_le_mul_right _ h
        omega
      exact (Nat.pow_le_pow_iff_right (by decide)).1 h2
    have hv9 : 0 < q → v.size ≤ 9 := fun h => by rw [← HV.out, sB_size]; exact hlen h
    by_cases hq0 : 0 < q
    · have h1 : (0 : Int) < (q : Int) := by omega
      have hv := hv9 hq0
      obtain ⟨d, hd⟩ : ∃ d, q % 10 = d := ⟨_, rfl⟩
      obtain ⟨p, hp⟩ : ∃ p, q / 10 = p := ⟨_, rfl⟩
      have hd9 : d ≤ 9 := by omega
      have E1 : (q : Int).tmod 10 = (d : Int) := by rw [Int.tmod_eq_emod_of_nonneg (by omega)]; omega
      have E2 : (q : Int).tdiv 10 = (p : Int) := by rw [Int.tdiv_eq_ediv_of_nonneg (by omega)]; omega
      have E3 : (q : Int) % 10 = (d : Int) := by omega
      have E4 : (q : Int) / 10 = (p : Int) := by omega
      have W1 : IntKind.i64.wrap (d : Int) = (d : Int) := IntWalk.i64_in _ (by omega)
      have W2 : IntKind.i64.wrap (p : Int) = (p : Int) := IntWalk.i64_in _ (by omega)
      have W3 : IntKind.i64.wrap (48 + (d : Int)) = 48 + (d : Int) := IntWalk.i64_in _ (by omega)
      have W4 : IntKind.u8.wrap (48 + (d : Int)) = 48 + (d : Int) := by rw [IntKind.wrap_u8]; omega
      obtain ⟨c, hc⟩ : ∃ c, UInt8.ofNat (48 + d) = c := ⟨_, rfl⟩
      have hcv := fun (W : World) (N : Nat) h => conv_oneEX W N c _ (hc ▸ dig_natEX hd9) h
      have HSTEP : Hid (mtGoX p (c :: o) = mtGoX k []) := by
        have h2 := HM.out
        rw [mtGo_stepX (by omega), hd, hp, hc] at h2
        exact h2
      have HV2 : Hid (sB (c :: o) = (⟨#[c]⟩ : ByteArray) ++ v) := by
        rw [← HV.out, show (⟨#[c]⟩ : ByteArray) = sB [c] from rfl, sB_cat]
        rfl
      have HP2 : Hid (p * 10 ^ (c :: o).length ≤ k) := by
        have h2 := HP.out
        show p * 10 ^ (o.length + 1) ≤ k
        rw [Nat.pow_succ, ← Nat.mul_assoc, Nat.mul_right_comm]
        have h3 : p * 10 * 10 ^ o.length ≤ q * 10 ^ o.length := Nat.mul_le_mul_right _ (by omega)
        omega
      have hpq : p < q := by omega
      have hol1 : (c :: o).length ≤ 10 := by have := hlen hq0; show o.length + 1 ≤ 10; omega
      have HOL := Lib.hid hol1
      clear hlen hv9 hd hp hol1 hol hc
      have HS := Lib.hid HB.out.size
      go_wp2_with fail
      go_roundw
      case rel => exact ⟨p, c :: o, _, by omega, HOL.out, rfl, rfl, HV2, HP2, HSTEP, HB.out.alloc HS.out _⟩
      case measure => simp [intOf]; omega
    · obtain rfl : q = 0 := by omega
      have hend : v.size ≤ 10 := by rw [← HV.out, sB_size]; exact hol
      have HE : Hid (mtX k = 109 :: o) := by
        have h2 := HM.out
        rw [mtGo_zeroX] at h2
        show 109 :: mtGoX k [] = _
        rw [← h2]
      clear hlen hv9 hol
      go_wp2_with fail
      go_ret
      refine ⟨?_, HB.out⟩
      rw [HE.out, ← HV.out, show (109 : UInt8) :: o = [109] ++ o from rfl, ← sB_cat]
      rfl

/-- What is left of a bound behind the texts of messages, or -1. -/
def szLX : List ML → Int → Int
  | [], z => z
  | m :: L, z => if z - (m.2.2.length : Int) < 0 then -1 else szLX L (z - (m.2.2.length : Int))
theorem szL_no {m : ML} {L : List ML} {z : Int} (h : z - (m.2.2.length : Int) < 0) : szLX (m :: L) z = -1 := by unfold szLX; rw [if_pos h]
theorem szL_yes {m : ML} {L : List ML} {z : Int} (h : ¬ z - (m.2.2.length : Int) < 0) : szLX (m :: L) z = szLX L (z - (m.2.2.length : Int)) := by
  rw [szLX, if_neg h]
theorem szL_leX : ∀ {L : List ML} {z : Int}, 0 ≤ z → szLX L z ≤ z
  | [], z, _ => Int.le_refl _
  | m :: L, z, h => by
    by_cases h2 : z - (m.2.2.length : Int) < 0
    · rw [szL_no h2]; omega
    · rw [szL_yes h2]
      have := szL_leX (L := L) (z := z - (m.2.2.length : Int)) (by omega)
      omega
/-- No text is longer than what a text may be. -/
def Txt (L : List ML) : Prop := ∀ m ∈ L, m.2.2.length ≤ maxLen
set_option maxHeartbeats 1000000 in
theorem sz_mail (u f z r : Int) (t : List UInt8) (v : ByteArray) (w : World) (hv : sB t = v) (ht : t.length ≤ maxLen) (hz : 0 ≤ z) (hz2 : z ≤ 1048576) (hr : (if z - (t.length : Int) < 0 then -1 else z - (t.length : Int)) = r) :
    Calls Tryz.prog 72 #[.agg #[.int .i64 u, .int .i64 f, .string v], .int .i64 z] w fun e w' => e = .returned (.int .i64 r) ∧ Below w.heap.size w w' := by
  have hs : v.size = t.length := by rw [← hv, sB_size]
  have hm : v.size ≤ maxLen := by omega
  have hm2 : v.size ≤ 9223372036854775807 := by unfold maxLen at hm; omega
  rw [← hs] at hr
  by_cases h : z - (v.size : Int) < 0
  · rw [if_pos h] at hr
    subst hr
    have W1 : IntKind.i64.wrap (z - (v.size : Int)) = z - (v.size : Int) := IntWalk.i64_in _ (by omega)
    clear hm ht hv hs
    go_enter Tryz.func72, Tryz.ntmps72
    go_wp2
    go_ret
    exact ⟨rfl, (Below.refl _ _).alloc (Nat.le_refl _) _⟩
  · rw [if_neg h] at hr
    have hr0 : 0 ≤ r := by omega
    have hrf : ¬ r < 0 := by omega
    have W1 : IntKind.i64.wrap (z - (v.size : Int)) = r := (IntWalk.i64_in _ (by omega)).trans hr
    clear hm ht hv hs h
    go_enter Tryz.func72, Tryz.ntmps72
    go_wp2
    go_ret
    exact ⟨rfl, (Below.refl _ _).alloc (Nat.le_refl _) _⟩
set_option maxHeartbeats 2000000 in
theorem sz_mails (A : Option Addr) (n cap : Nat) (left r : Int) (L : List ML) (w : World) (hn : L.length = n) (h : RAt mailR w A L) (ht : Txt L) (hl : 0 ≤ left) (hl2 : left ≤ 1048576) (hle : (n : Int) ≤ left) (hr : szLX L (left - (n : Int)) = r) :
    Calls Tryz.prog 44 #[.slice A n cap, .int .i64 left] w fun e w' => e = .returned (.int .i64 r) ∧ Below w.heap.size w w' := by
  have H := Lib.hid h
  have HN := Lib.hid hn
  have HT := Lib.hid ht
  obtain ⟨z0, hz0⟩ : ∃ z, left - (n : Int) = z := ⟨_, rfl⟩
  have W1 : IntKind.i64.wrap (left - (n : Int)) = z0 := (IntWalk.i64_in _ (by omega)).trans hz0
  have hz00 : 0 ≤ z0 := by omega
  have hz0f : ¬ z0 < 0 := by omega
  have hz01 : z0 ≤ 1048576 := by omega
  rw [hz0] at hr
  have HR := Lib.hid hr
  clear h hn ht hr hz0
  go_enter Tryz.func44, Tryz.ntmps44
  go_wp2
  go_loopw [1, 5] (fun zv i wr => ∃ (k : Nat) (z : Int), k ≤ n ∧ 0 ≤ z ∧ z ≤ 1048576 ∧ zv = .int .i64 z ∧ i = .int .i64 (k : Int) ∧ Hid (szLX (L.drop k) z = r) ∧ Hid (Below w.heap.size w wr)) (fun _ i _ => n - (intOf i).toNat)
  case atStart => exact ⟨0, z0, Nat.zero_le _, hz00, hz01, rfl, by go_num, HR.out, Below.refl _ _⟩
  case round =>
    obtain ⟨k, z, hk, hzp, hz1, rfl, rfl, HZ, HB⟩ := hrel
    by_cases hlt : k < n
    · have h0 : (0 : Int) ≤ (k : Int) := by omega
      have h5 : (k : Int) < (n : Int) := by omega
      have hkl : k < L.length := by rw [HN.out]; exact hlt
      obtain ⟨⟨u, f, t⟩, hx⟩ : ∃ x, L[k]? = some x := ⟨_, List.getElem?_eq_getElem hkl⟩
      obtain ⟨b, o, rfl, hb, c0, c1, c2⟩ := mail_at (H.out.below HB.out (Nat.le_refl _)) hx
      obtain ⟨v, hv⟩ : ∃ v, sB t = v := ⟨_, rfl⟩
      rw [hv] at c2
      have htl : t.length ≤ maxLen := HT.out _ (List.mem_of_getElem? hx)
      have hd : L.drop k = (u, f, t) :: L.drop (k + 1) := by rw [List.drop_eq_getElem_cons hkl, (List.getElem?_eq_some_iff.1 hx).2]
      have HTL := Lib.hid htl
      have HV := Lib.hid hv
      have hz2 := HZ.out
      rw [hd] at hz2
      clear hx htl hv hd hkl
      by_cases hs : z - (t.length : Int) < 0
      · rw [szL_no hs] at hz2
        have HS := Lib.hid hs
        subst hz2
        clear hs
        go_wp2_with fail
        refine (sz_mail u f z (-1) t v _ HV.out HTL.out hzp hz1 (if_pos HS.out)).mono ?_
        rintro e w2 ⟨rfl, hb2⟩
        have HB2 := Lib.hid (HB.out.trans (hb2.mono HB.out.size))
        clear hb2
        go_wp2
        go_ret
        exact ⟨rfl, HB2.out⟩
      · rw [szL_yes hs] at hz2
        obtain ⟨z2, hz2e⟩ : ∃ y, z - (t.length : Int) = y := ⟨_, rfl⟩
        have HS : Hid ((if z - (t.length : Int) < 0 then (-1 : Int) else z - (t.length : Int)) = z - (t.length : Int)) := if_neg hs
        rw [hz2e] at hz2 hs
        have HZ2 := Lib.hid hz2
        have hs0 : 0 ≤ z2 := by omega
        have hs1 : z2 ≤ 1048576 := by omega
        have HSS : Hid ((if z - (t.length : Int) < 0 then -1 else z - (t.length : Int)) = z2) := HS.out.trans hz2e
        clear hz2 hz2e HS
        go_wp2_with fail
        refine (sz_mail u f z z2 t v _ HV.out HTL.out hzp hz1 HSS.out).mono ?_
        rintro e w2 ⟨rfl, hb2⟩
        have HB2 := Lib.hid (HB.out.trans (hb2.mono HB.out.size))
        clear hb2
        go_wp2
        go_roundw
        case rel => exact ⟨k + 1, z2, by omega, hs0, hs1, rfl, by go_num, HZ2.out, HB2⟩
        case measure => simp [intOf]; omega
    · have h5 : ¬ (k : Int) < (n : Int) := by omega
      obtain rfl : k = n := by omega
      have hz2 := HZ.out
      rw [List.drop_of_length_le (Nat.le_of_eq HN.out)] at hz2
      obtain rfl : z = r := hz2
      go_wp2
      go_ret
      exact ⟨rfl, HB.out⟩
theorem sz_mails_no (A : Option Addr) (n cap : Nat) (left : Int) (w : World) (hl : 0 ≤ left) (hl2 : left ≤ 1048576) (hle : left < (n : Int)) (hm : n ≤ maxLen) :
    Calls Tryz.prog 44 #[.slice A n cap, .int .i64 left] w fun e w' => e = .returned (.int .i64 (-1)) ∧ Below w.heap.size w w' := by
  have h1 : (left - (n : Int)) < 0 := by omega
  have hm2 : n ≤ 9223372036854775807 := by unfold maxLen at hm; omega
  have h3 : IntKind.i64.wrap (left - (n : Int)) = left - (n : Int) := IntWalk.i64_in _ (by omega)
  clear hm
  go_enter Tryz.func44, Tryz.ntmps44
  go_wp2
  go_ret
  exact ⟨rfl, Below.refl _ _⟩
set_option maxHeartbeats 1000000 in
theorem to_mail (u f : Int) (v : ByteArray) (w : World) : Calls Tryz.prog 77 #[.agg #[.int .i64 u, .int .i64 f, .string v]] w fun e w' => e = .returned (.agg #[.int .i64 u, .int .i64 f, .string v]) ∧ Below w.heap.size w w' := by
  go_enter Tryz.func77, Tryz.ntmps77
  go_wp2
  refine bodyPost_ret (v := .agg #[.int .i64 u, .int .i64 f, .string v]) (by simp [results, Tryz.results77, go_sem]) rfl ?_
  refine ⟨rfl, ?_⟩
  refine (((Below.refl _ _).alloc ?_ _).alloc ?_ _).alloc ?_ _ <;> (simp <;> try omega)
theorem put_mail {w : World} {B g n cap k : Nat} {L : List ML} {y : ML} (h : ROwn mailR w B (.slice (some ⟨g, 0, none⟩) n cap) L) (hy : L[k]? = some y) (x : ML) :
    ROwn mailR (((w.setCell ⟨g, k * 3, none⟩ (.int .i64 x.1)).setCell ⟨g, k * 3 + 1, none⟩ (.int .i64 x.2.1)).setCell ⟨g, k * 3 + 2, none⟩ (.string (sB x.2.2))) B (.slice (some ⟨g, 0, none⟩) n cap) (L.set k x) ∧
    w.grownBy (((w.setCell ⟨g, k * 3, none⟩ (.int .i64 x.1)).setCell ⟨g, k * 3 + 1, none⟩ (.int .i64 x.2.1)).setCell ⟨g, k * 3 + 2, none⟩ (.string (sB x.2.2))) (some g) := by
  have hk := (List.getElem?_eq_some_iff.1 hy).1
  obtain ⟨h1, g1⟩ := h.stored (y := (x.1, y.2.1, y.2.2)) (j := 0) (u := .int .i64 x.1) hy (by decide) rfl
  obtain ⟨h2, g2⟩ := h1.stored (k := k) (x := (x.1, y.2.1, y.2.2)) (y := (x.1, x.2.1, y.2.2)) (j := 1) (u := .int .i64 x.2.1) (by rw [List.getElem?_set_self hk]) (by decide) rfl
  obtain ⟨h3, g3⟩ := h2.stored (k := k) (x := (x.1, x.2.1, y.2.2)) (y := x) (j := 2) (u := .string (sB x.2.2)) (by rw [List.getElem?_set_self (by rw [List.length_set]; exact hk)]) (by decide) rfl
  rw [List.set_set, List.set_set] at h3
  exact ⟨h3, gr_trans (gr_trans g1 g2) g3⟩
set_option maxHeartbeats 2000000 in
theorem to_mails (A : Option Addr) (n cap : Nat) (L : List ML) (w : World) (hn : L.length = n) (h : RAt mailR w A L) (hl : n ≤ 1048576) :
    Calls Tryz.prog 49 #[.slice A n cap] w fun e w' => ∃ g, e = .returned (.slice (some ⟨g, 0, none⟩) n n) ∧ ROwn mailR w' w.heap.size (.slice (some ⟨g, 0, none⟩) n n) L ∧ Below w.heap.size w w' := by
  obtain ⟨i0, hi, hq0, hq1, hq2⟩ := info_parts Tryz.infoMail
  have HN := Lib.hid hn
  have H := Lib.hid h
  clear hn h
  have hb2 : i0.bytes * n ≤ 281474976710656 := by rw [hq2]; omega
  have hb3 : n ≤ maxLen := by unfold maxLen; omega
  go_enter Tryz.func49, Tryz.ntmps49
  go_wp2_with (at_make; refine wpList_make_full _ rfl _ _ 46 rfl w.heap.size 115 i0 (.agg #[.int .i64 0, .int .i64 0, .string ⟨#[]⟩]) 3 Tryz.underlying46 hi hq0 hq1 .i64 .i64 (n : Int) (n : Int) n rfl rfl rfl rfl hb2 hb3 (Nat.le_refl _) ?_)
  intro w1 hown hgrow
  obtain ⟨N, hN⟩ : ∃ N, w.heap.size = N := ⟨_, rfl⟩
  have HNN := Lib.hid hN
  have HB1 : Hid (Below N w w1) := hN ▸ (Below.refl _ _).grown hgrow (Nat.le_refl _) (fun z hz => by cases hz)
  have hN1 : N ≤ w1.heap.size := hN ▸ hgrow.size
  have ho1 : ROwn mailR w1 N (.slice (some ⟨N, 0, none⟩) n n) (List.replicate n ((0 : Int), (0 : Int), ([] : List UInt8))) := by
    unfold ROwn
    rw [List.length_replicate, ← made_rows mailR (.agg #[.int .i64 0, .int .i64 0, .string ⟨#[]⟩]) (0, 0, []) rfl (by decide), ← hN]
    exact hown
  have HO1 := Lib.hid ho1
  rw [hN]
  clear hown hgrow ho1 hN
  go_wp2
  go_loopw [4] (fun i wr => ∃ k : Nat, k ≤ n ∧ i = .int .i64 (k : Int) ∧ N ≤ wr.heap.size ∧ Hid (Below N w wr) ∧ Hid (ROwn mailR wr N (.slice (some ⟨N, 0, none⟩) n n) (L.take k ++ List.replicate (n - k) ((0 : Int), (0 : Int), ([] : List UInt8))))) (fun i _ => n - (intOf i).toNat)
  case atStart => exact ⟨0, Nat.zero_le _, by go_num, hN1, HB1, by rw [List.take_zero, List.nil_append, Nat.sub_zero]; exact HO1⟩
  case round =>
    obtain ⟨k, hk, rfl, hNr, HB, HO⟩ := hrel
    by_cases hlt : k < n
    · have h0 : (0 : Int) ≤ (k : Int) := by omega
      have h5 : (k : Int) < (n : Int) := by omega
      obtain ⟨⟨u, f, t⟩, hx⟩ : ∃ x, L[k]? = some x := ⟨_, List.getElem?_eq_getElem (by rw [HN.out]; omega)⟩
      obtain ⟨b, o, rfl, hbz, c0, c1, c2⟩ := mail_at (H.out.below HB.out (Nat.le_of_eq HNN.out)) hx
      obtain ⟨v, hv⟩ : ∃ v, sB t = v := ⟨_, rfl⟩
      rw [hv] at c2
      have HV := Lib.hid hv
      have HX := Lib.hid hx
      clear hx hv
      go_wp2_with fail
      refine (to_mail u f v _).mono ?_
      rintro e w2 ⟨rfl, hb⟩
      have HB2 := Lib.hid (HB.out.trans (hb.mono hNr))
      have HO2 := Lib.hid (HO.out.kept hb)
      have hN2 := Nat.le_trans hNr hb.size
      clear hb
      obtain ⟨⟨yu, yf, yt⟩, hy⟩ : ∃ y, (L.take k ++ List.replicate (n - k) ((0 : Int), (0 : Int), ([] : List UInt8)))[k]? = some y := ⟨_, List.getElem?_eq_getElem (by rw [List.length_append, List.length_take, List.length_replicate, HN.out]; omega)⟩
      have d0 := HO2.out.cell hy (j := 0) rfl
      have d1 := HO2.out.cell hy (j := 1) rfl
      have d2 := HO2.out.cell hy (j := 2) rfl
      have f0 := HO2.out.free (k * 3)
      have f1 := HO2.out.free (k * 3 + 1)
      have f2 := HO2.out.free (k * 3 + 2)
      have HST := Lib.hid (put_mail HO2.out hy (u, f, t))
      rw [HV.out] at HST
      simp only [mailR, Nat.add_zero] at d0 d1 d2
      clear hy
      go_wp2
      go_roundw
      case rel =>
        refine ⟨k + 1, by omega, by go_num, by simpa using hN2, ((HB2.out.setCell (Nat.le_refl _) _).setCell (Nat.le_refl _) _).setCell (Nat.le_refl _) _, ?_⟩
        rw [← set_next HN.out HX.out]
        exact HST.out.1
      case measure => simp [intOf]; omega
    · have h5 : ¬ (k : Int) < (n : Int) := by omega
      have hkn : k = n := by omega
      have ho := HO.out
      rw [hkn, List.take_of_length_le (by rw [HN.out]; exact Nat.le_refl _), Nat.sub_self, List.replicate_zero, List.append_nil] at ho
      have HOE := Lib.hid ho
      clear ho hkn
      go_wp2
      go_ret
      exact ⟨N, rfl, HNN.out ▸ HOE.out, HNN.out ▸ HB.out⟩
set_option maxHeartbeats 1000000 in
theorem eq_mail_same (u f : Int) (v : ByteArray) (w : World) : Calls Tryz.prog 84 #[.agg #[.int .i64 u, .int .i64 f, .string v], .agg #[.int .i64 u, .int .i64 f, .string v]] w fun e w' => e = .returned (.bool true) ∧ Below w.heap.size w w' := by
  have h1 : (u != u) = false := by simp
  have h2 : (f != f) = false := by simp
  go_enter Tryz.func84, Tryz.ntmps84
  go_wp2
  go_ret
  exact ⟨rfl, ((Below.refl _ _).alloc (Nat.le_refl _) _).alloc (by simp) _⟩
end Go.Proofs.YtnfigpknejmkmaaGreatDoor
namespace Go.Proofs.YtnfigpknejmkmaaGreatDoor
open Go.RowKit
set_option linter.unusedVariables false

set_option maxHeartbeats 2000000 in
theorem eq_mails (A A2 : Option Addr) (n cap cap2 : Nat) (L : List ML) (w : World) (h : MIn w A n cap L) (h2 : MIn w A2 n cap2 L) :
    Calls Tryz.prog 54 #[.slice A n cap, .slice A2 n cap2] w fun e w' => e = .returned (.bool true) ∧ Below w.heap.size w w' := by
  have H := Lib.hid h
  have H2 := Lib.hid h2
  have hl := h.2.1
  clear h h2
  have hlb : ((n : Int) != (n : Int)) = false := by simp
  go_enter Tryz.func54, Tryz.ntmps54
  go_wp2
  go_loopw [5] (fun i wr => ∃ k : Nat, k ≤ n ∧ i = .int .i64 (k : Int) ∧ Hid (Below w.heap.size w wr)) (fun i _ => n - (intOf i).toNat)
  case atStart => exact ⟨0, Nat.zero_le _, by go_num, Below.refl _ _⟩
  case round =>
    obtain ⟨k, hk, rfl, HB⟩ := hrel
    by_cases hlt : k < n
    · have h0 : (0 : Int) ≤ (k : Int) := by omega
      have h5 : (k : Int) < (n : Int) := by omega
      obtain ⟨⟨u, f, t⟩, hx⟩ : ∃ x, L[k]? = some x := ⟨_, List.getElem?_eq_getElem (by rw [H.out.1]; exact hlt)⟩
      obtain ⟨b, o, rfl, hb, c0, c1, c2⟩ := mail_at (H.out.2.2.1.below HB.out (Nat.le_refl _)) hx
      obtain ⟨b', o', rfl, hb', d0, d1, d2⟩ := mail_at (H2.out.2.2.1.below HB.out (Nat.le_refl _)) hx
      obtain ⟨v, hv⟩ : ∃ v, sB t = v := ⟨_, rfl⟩
      rw [hv] at c2 d2
      clear hx hv
      have HBD : Hid (Below w.heap.size w wr.drew) := HB.out.drew
      have HSZ := Lib.hid HBD.out.size
      go_wp2
      go_region_held3 (fun w' => w'.cell? ⟨b, o + k * 3, none⟩ = some (.int .i64 u) ∧ w'.cell? ⟨b, o + k * 3 + 1, none⟩ = some (.int .i64 f) ∧ w'.cell? ⟨b, o + k * 3 + 2, none⟩ = some (.string v) ∧ w'.cell? ⟨b', o' + k * 3, none⟩ = some (.int .i64 u) ∧ w'.cell? ⟨b', o' + k * 3 + 1, none⟩ = some (.int .i64 f) ∧ w'.cell? ⟨b', o' + k * 3 + 2, none⟩ = some (.string v)) (go_keep)
        ((go_at_call 84; refine (eq_mail_same u f v _).mono ?_; rintro e w2 ⟨rfl, hb2⟩; have HB2 := Lib.hid (HBD.out.trans (hb2.mono HSZ.out)); have hc2 := fun (p : Addr) (hp : p.block < wr.drew.heap.size) => hb2.cell hp; have e0 := (hc2 ⟨b, o + k * 3, none⟩ hb).trans c0; have e1 := (hc2 ⟨b, o + k * 3 + 1, none⟩ hb).trans c1; have e2 := (hc2 ⟨b, o + k * 3 + 2, none⟩ hb).trans c2; have e3 := (hc2 ⟨b', o' + k * 3, none⟩ hb').trans d0; have e4 := (hc2 ⟨b', o' + k * 3 + 1, none⟩ hb').trans d1; have e5 := (hc2 ⟨b', o' + k * 3 + 2, none⟩ hb').trans d2; clear hb2 hc2))
      all_goals
        go_wp2
        go_roundw
        case rel => exact ⟨k + 1, by omega, by go_num, HB2⟩
        case measure => simp [intOf]; omega
    · have h5 : ¬ (k : Int) < (n : Int) := by omega
      go_wp2
      go_ret
      exact ⟨rfl, HB.out⟩

/-- The marks on messages, from a number on. -/
def mkm (s n : Nat) : List ML := (List.range n).map fun i => (((s + 3 * i : Nat) : Int), ((s + 3 * i + 1 : Nat) : Int), mtX (s + 3 * i + 2))
theorem mkm_len (s n : Nat) : (mkm s n).length = n := by unfold mkm; simp
theorem mkm_succ (s n : Nat) : mkm s (n + 1) = mkm s n ++ [(((s + 3 * n : Nat) : Int), ((s + 3 * n + 1 : Nat) : Int), mtX (s + 3 * n + 2))] := by unfold mkm; rw [List.range_succ, List.map_append]; rfl
theorem mkm_at {s n i : Nat} (h : i < n) : (mkm s n)[i]? = some (((s + 3 * i : Nat) : Int), ((s + 3 * i + 1 : Nat) : Int), mtX (s + 3 * i + 2)) := by unfold mkm; simp [h]
theorem gr_belowE {w w' : World} {row : Option Nat} (h : Below w.heap.size w w') : w.grownBy w' row := ⟨h.os, h.tape, h.output, h.size, fun b hb _ => h.block b hb⟩
theorem own_block {α : Type} {R : RowT α} {w : World} {B n cap : Nat} {A : Option Addr} {L : List α} (h : ROwn R w B (.slice A n cap) L) (h0 : 0 < n) : ∃ g, A = some ⟨g, 0, none⟩ := by
  have hl := h.len.1
  obtain ⟨A', c, he, _, _, _, _, hne⟩ := h.form
  cases he
  exact hne (by intro e; rw [hl, e] at h0; simp at h0)

set_option maxHeartbeats 4000000 in
theorem mark_mails (s r : Nat) (A : Option Addr) (cap n B : Nat) (L : List ML) (w : World) (hn : L.length = n) (h : ROwn mailR w B (.slice A n cap) L) (hl : n ≤ 4000000) (hs : 0 < s) (hs2 : s ≤ 100000000) (hr : s + 3 * n = r) :
    Calls Tryz.prog 55 #[.slice A n cap, .int .i64 (s : Int)] w fun e w' => e = .returned (.int .i64 (r : Int)) ∧ ROwn mailR w' B (.slice A n cap) (mkm s n) ∧ w.grownBy w' (Value.slice A n cap).ownBlock := by
  have HN := Lib.hid hn
  have HO := Lib.hid h
  have HR := Lib.hid hr
  clear h hn hr
  go_enter Tryz.func55, Tryz.ntmps55
  go_wp2
  go_loopw [1, 5] (fun m i wr => ∃ k z : Nat, k ≤ n ∧ z = s + 3 * k ∧ m = .int .i64 (z : Int) ∧ i = .int .i64 (k : Int) ∧ Hid (w.grownBy wr (Value.slice A n cap).ownBlock) ∧ Hid (ROwn mailR wr B (.slice A n cap) (mkm s k ++ L.drop k))) (fun _ i _ => n - (intOf i).toNat)
  case atStart => exact ⟨0, s, Nat.zero_le _, rfl, by go_num, by go_num, gr_refl _ _, HO.out⟩
  case round =>
    obtain ⟨k, z, hk, hz, rfl, rfl, HG, HW⟩ := hrel
    have HZ := Lib.hid hz
    by_cases hlt : k < n
    · have h0 : (0 : Int) ≤ (k : Int) := by omega
      have h5 : (k : Int) < (n : Int) := by omega
      obtain ⟨z1, hz1⟩ : ∃ y, z + 1 = y := ⟨_, rfl⟩
      obtain ⟨z2, hz2⟩ : ∃ y, z1 + 1 = y := ⟨_, rfl⟩
      obtain ⟨z3, hz3⟩ : ∃ y, z2 + 1 = y := ⟨_, rfl⟩
      have E1 : (z : Int) + 1 = (z1 : Int) := by omega
      have E2 : (z1 : Int) + 1 = (z2 : Int) := by omega
      have E3 : (z2 : Int) + 1 = (z3 : Int) := by omega
      have hzb : z3 ≤ 200000000 := by omega
      have W1 : IntKind.i64.wrap ((z : Int) + 1) = (z1 : Int) := (IntWalk.i64_in _ (by omega)).trans E1
      have W2 : IntKind.i64.wrap ((z1 : Int) + 1) = (z2 : Int) := (IntWalk.i64_in _ (by omega)).trans E2
      have W3 : IntKind.i64.wrap ((z2 : Int) + 1) = (z3 : Int) := (IntWalk.i64_in _ (by omega)).trans E3
      obtain ⟨g, rfl⟩ := own_block HW.out (by omega)
      have hkl : k < L.length := by rw [HN.out]; exact hlt
      obtain ⟨⟨yu, yf, yt⟩, hy⟩ : ∃ y, (mkm s k ++ L.drop k)[k]? = some y := ⟨_, front_some (mkm_len s k) hkl⟩
      have d0 := HW.out.cell hy (j := 0) rfl
      have d1 := HW.out.cell hy (j := 1) rfl
      have d2 := HW.out.cell hy (j := 2) rfl
      have f0 := HW.out.free (k * 3)
      have f1 := HW.out.free (k * 3 + 1)
      have f2 := HW.out.free (k * 3 + 2)
      simp only [mailR, Nat.add_zero] at d0 d1 d2
      obtain ⟨h1, g1⟩ := HW.out.stored (y := ((z : Int), yf, yt)) (j := 0) (u := .int .i64 (z : Int)) hy (by decide) rfl
      have hkk : k < (mkm s k ++ L.drop k).length := (List.getElem?_eq_some_iff.1 hy).1
      have hy1 : ((mkm s k ++ L.drop k).set k ((z : Int), yf, yt))[k]? = some ((z : Int), yf, yt) := by rw [List.getElem?_set_self hkk]
      obtain ⟨h2, g2⟩ := h1.stored (y := ((z : Int), (z1 : Int), yt)) (j := 1) (u := .int .i64 (z1 : Int)) hy1 (by decide) rfl
      rw [List.set_set] at h2
      have hy2 : ((mkm s k ++ L.drop k).set k ((z : Int), (z1 : Int), yt))[k]? = some ((z : Int), (z1 : Int), yt) := by rw [List.getElem?_set_self hkk]
      have HO2 := Lib.hid h2
      have HG2 := Lib.hid (gr_trans HG.out (gr_trans g1 g2))
      have HY2 := Lib.hid hy2
      have HMM : Hid ((((mkm s k ++ L.drop k).set k ((z : Int), (z1 : Int), yt)).set k ((z : Int), (z1 : Int), mtX z2)) = mkm s (k + 1) ++ L.drop (k + 1)) := by
        show _ = _
        rw [List.set_set, set_front _ (mkm_len s k) hkl, mkm_succ, ← hz, ← hz2, ← hz1]
      have HZ3 : Hid (z3 = s + 3 * (k + 1)) := by show _ = _; omega
      clear hy hy1 hy2 h1 h2 g1 g2 hz hz1 hz2 hz3
      go_wp2_with fail
      refine (mark_textX z2 _ (by omega) (by omega)).mono ?_
      rintro e w5 ⟨rfl, hb⟩
      have HO5 := Lib.hid (HO2.out.kept hb)
      have HG5 := Lib.hid (gr_trans HG2.out (gr_belowE (row := (Value.slice (some ⟨g, 0, none⟩) n cap).ownBlock) hb))
      obtain ⟨v, hv⟩ : ∃ v, sB (mtX z2) = v := ⟨_, rfl⟩
      have i0 := HO5.out.cell HY2.out (j := 0) rfl
      have i1 := HO5.out.cell HY2.out (j := 1) rfl
      have i2 := HO5.out.cell HY2.out (j := 2) rfl
      have j2 := HO5.out.free (k * 3 + 2)
      simp only [mailR, Nat.add_zero] at i0 i1 i2
      obtain ⟨h3, g3⟩ := HO5.out.stored (y := ((z : Int), (z1 : Int), mtX z2)) (j := 2) (u := .string (sB (mtX z2))) HY2.out (by decide) rfl
      rw [HMM.out, hv] at h3
      rw [hv] at g3 ⊢
      have HO6 := Lib.hid h3
      have HG6 := Lib.hid (gr_trans HG5.out g3)
      clear h3 g3 hb hv
      go_wp2
      go_roundw
      case rel => exact ⟨k + 1, z3, by omega, HZ3.out, rfl, by go_num, HG6, HO6⟩
      case measure => simp [intOf]; omega
    · have h5 : ¬ (k : Int) < (n : Int) := by omega
      have hkn : k = n := by omega
      have ho := HW.out
      rw [hkn, List.drop_of_length_le (by rw [HN.out]; exact Nat.le_refl _), List.append_nil] at ho
      have HOE := Lib.hid ho
      have HZ2 := Lib.hid (show r = z by have := HR.out; omega)
      clear ho hkn hz
      go_wp2
      go_ret
      refine ⟨?_, HOE.out, HG.out⟩
      rw [HZ2.out]
      rfl

end Go.Proofs.YtnfigpknejmkmaaGreatDoor
namespace Go.Proofs.YtnfigpknejmkmaaGreatDoor
open Go.RowKit
set_option linter.unusedVariables false

set_option maxHeartbeats 2000000 in
theorem eq_nums (A A2 : Option Addr) (n cap cap2 : Nat) (P : List Int) (w : World) (h : IIn w A n cap P) (h2 : IIn w A2 n cap2 P) :
    Calls Tryz.prog 21 #[.slice A n cap, .slice A2 n cap2] w fun e w' => e = .returned (.bool true) ∧ Below w.heap.size w w' := by
  have H := Lib.hid h
  have H2 := Lib.hid h2
  have hl := h.2.1
  clear h h2
  have hlb : ((n : Int) != (n : Int)) = false := by simp
  go_enter Tryz.func21, Tryz.ntmps21
  go_wp2
  go_loopw [5] (fun i wr => ∃ k : Nat, k ≤ n ∧ i = .int .i64 (k : Int) ∧ Hid (Below w.heap.size w wr)) (fun i _ => n - (intOf i).toNat)
  case atStart => exact ⟨0, Nat.zero_le _, by go_num, Below.refl _ _⟩
  case round =>
    obtain ⟨k, hk, rfl, HB⟩ := hrel
    by_cases hlt : k < n
    · have h0 : (0 : Int) ≤ (k : Int) := by omega
      have h5 : (k : Int) < (n : Int) := by omega
      obtain ⟨x, hx⟩ : ∃ x, P[k]? = some x := ⟨_, List.getElem?_eq_getElem (by rw [H.out.1]; exact hlt)⟩
      obtain ⟨b, o, rfl, hb, c0⟩ := int_at (H.out.2.2.1.below HB.out (Nat.le_refl _)) hx
      obtain ⟨b', o', rfl, hb', d0⟩ := int_at (H2.out.2.2.1.below HB.out (Nat.le_refl _)) hx
      have n1 : (x != x) = false := by simp
      clear hx
      go_wp2
      go_quiet (fail)
      go_wp2
      go_roundw
      case rel => exact ⟨k + 1, by omega, by go_num, below_drewN' HB.out _⟩
      case measure => simp [intOf]; omega
    · have h5 : ¬ (k : Int) < (n : Int) := by omega
      go_wp2
      go_ret
      exact ⟨rfl, HB.out⟩
/-- The marks on numbers, from a number on. -/
def mki (s n : Nat) : List Int := (List.range n).map fun i => ((s + i : Nat) : Int)
theorem mki_len (s n : Nat) : (mki s n).length = n := by unfold mki; simp
theorem mki_succ (s n : Nat) : mki s (n + 1) = mki s n ++ [((s + n : Nat) : Int)] := by unfold mki; rw [List.range_succ, List.map_append]; rfl
theorem mki_at {s n i : Nat} (h : i < n) : (mki s n)[i]? = some ((s + i : Nat) : Int) := by unfold mki; simp [h]
set_option maxHeartbeats 2000000 in
theorem mark_nums (s r : Nat) (A : Option Addr) (cap n B : Nat) (P : List Int) (w : World) (hn : P.length = n) (h : ROwn intR w B (.slice A n cap) P) (hl : n ≤ 4000000) (hs2 : s ≤ 100000000) (hr : s + n = r) :
    Calls Tryz.prog 24 #[.slice A n cap, .int .i64 (s : Int)] w fun e w' => e = .returned (.int .i64 (r : Int)) ∧ ROwn intR w' B (.slice A n cap) (mki s n) ∧ w.grownBy w' (Value.slice A n cap).ownBlock := by
  have HN := Lib.hid hn
  have HO := Lib.hid h
  have HR := Lib.hid hr
  clear h hn hr
  go_enter Tryz.func24, Tryz.ntmps24
  go_wp2
  go_loopw [1, 5] (fun m i wr => ∃ k z : Nat, k ≤ n ∧ z = s + k ∧ m = .int .i64 (z : Int) ∧ i = .int .i64 (k : Int) ∧ Hid (w.grownBy wr (Value.slice A n cap).ownBlock) ∧ Hid (ROwn intR wr B (.slice A n cap) (mki s k ++ P.drop k))) (fun _ i _ => n - (intOf i).toNat)
  case atStart => exact ⟨0, s, Nat.zero_le _, rfl, by go_num, by go_num, gr_refl _ _, HO.out⟩
  case round =>
    obtain ⟨k, z, hk, hz, rfl, rfl, HG, HW⟩ := hrel
    have HZ := Lib.hid hz
    by_cases hlt : k < n
    · have h0 : (0 : Int) ≤ (k : Int) := by omega
      have h5 : (k : Int) < (n : Int) := by omega
      have z1 : z ≤ 200000000 := by omega
      obtain ⟨g, rfl⟩ := own_block HW.out (by omega)
      have hkl : k < P.length := by rw [HN.out]; exact hlt
      obtain ⟨y, hy⟩ : ∃ y, (mki s k ++ P.drop k)[k]? = some y := ⟨_, front_some (mki_len s k) hkl⟩
      have d0 := HW.out.cell hy (j := 0) rfl
      have f0 := HW.out.free k
      have h1 := HW.out.stored (y := (z : Int)) (j := 0) (u := .int .i64 (z : Int)) hy (by decide) rfl
      rw [set_front _ (mki_len s k) hkl, show mki s k ++ [(z : Int)] = mki s (k + 1) by rw [mki_succ, hz]] at h1
      simp only [intR, Nat.mul_one, Nat.add_zero] at d0 h1
      have HST := Lib.hid h1
      clear hy hz h1
      go_wp2
      go_roundw
      case rel => exact ⟨k + 1, z + 1, by omega, by have := HZ.out; omega, by go_num, by go_num, gr_trans HG.out HST.out.2, HST.out.1⟩
      case measure => simp [intOf]; omega
    · have h5 : ¬ (k : Int) < (n : Int) := by omega
      have hkn : k = n := by omega
      have ho := HW.out
      rw [hkn, List.drop_of_length_le (by rw [HN.out]; exact Nat.le_refl _), List.append_nil] at ho
      have HOE := Lib.hid ho
      have HZ2 := Lib.hid (show r = z by have := HR.out; omega)
      clear ho hkn hz
      go_wp2
      go_ret
      refine ⟨?_, HOE.out, HG.out⟩
      rw [HZ2.out]
      rfl
set_option maxHeartbeats 2000000 in
theorem held_nums (s r : Nat) (A : Option Addr) (cap n : Nat) (w : World) (h : RAt intR w A (mki s n)) (hl : n ≤ 4000000) (hs2 : s ≤ 100000000) (hr : s + n = r) :
    Calls Tryz.prog 25 #[.slice A n cap, .int .i64 (s : Int)] w fun e w' => e = .returned (.int .i64 (r : Int)) ∧ w = w' := by
  have H := Lib.hid h
  have HR := Lib.hid hr
  clear h hr
  go_enter Tryz.func25, Tryz.ntmps25
  go_wp2
  go_loop [1, 5] (fun m i => ∃ k z : Nat, k ≤ n ∧ z = s + k ∧ m = .int .i64 (z : Int) ∧ i = .int .i64 (k : Int)) (fun _ i => n - (intOf i).toNat)
  case atStart => exact ⟨0, s, Nat.zero_le _, rfl, by go_num, by go_num⟩
  case round =>
    obtain ⟨k, z, hk, hz, rfl, rfl⟩ := hrel
    have HZ := Lib.hid hz
    by_cases hlt : k < n
    · have h0 : (0 : Int) ≤ (k : Int) := by omega
      have h5 : (k : Int) < (n : Int) := by omega
      have z1 : z ≤ 200000000 := by omega
      have hx := mki_at (s := s) hlt
      rw [← hz] at hx
      obtain ⟨b, o, rfl, hbz, c1⟩ := int_at H.out hx
      have hne : ((z : Int) != (z : Int)) = false := by simp
      clear hx hz
      go_wp2
      go_round
      case rel => exact ⟨k + 1, z + 1, by omega, by have := HZ.out; omega, by go_num, by go_num⟩
      case measure => simp [intOf]; omega
    · have h5 : ¬ (k : Int) < (n : Int) := by omega
      have HZ2 := Lib.hid (show r = z by have := HR.out; omega)
      clear hz
      go_wp2
      go_ret
      refine ⟨?_, rfl⟩
      rw [HZ2.out]
      rfl

/-- A mailbox that was handed in. -/
def BoxA (w : World) (A : Option Addr) (n cap : Nat) (L : List ML) : Prop := L.length = n ∧ n ≤ cap ∧ cap ≤ maxLen ∧ RAt mailR w A L ∧ Txt L
theorem BoxA.below {w w' : World} {A : Option Addr} {n cap B : Nat} {L : List ML} (h : BoxA w A n cap L) (hb : Below B w w') (hB : w.heap.size ≤ B) : BoxA w' A n cap L := ⟨h.1, h.2.1, h.2.2.1, h.2.2.2.1.below hb hB, h.2.2.2.2⟩
theorem BoxA.keep {w : World} {A : Option Addr} {n cap : Nat} {L : List ML} (h : BoxA w A n cap L) : Kp w fun w' => BoxA w' A n cap L := fun w2 h2 => h.below h2 (Nat.le_refl _)
/-- What szBox tells of a mailbox of n messages. -/
def szB (n : Nat) (L : List ML) (left : Int) : Int := if left < (n : Int) then -1 else szLX L (left - (n : Int))
theorem szB_le {n : Nat} {L : List ML} {left : Int} (h : 0 ≤ szB n L left) : (n : Int) ≤ left ∧ szB n L left ≤ left := by
  unfold szB at h ⊢
  by_cases h2 : left < (n : Int)
  · rw [if_pos h2] at h; omega
  · rw [if_neg h2] at h ⊢
    have := szL_leX (L := L) (z := left - (n : Int)) (by omega)
    exact ⟨by omega, by omega⟩
theorem szL_neg : ∀ {L : List ML} {z : Int}, 0 ≤ z → szLX L z < 0 → szLX L z = -1
  | [], z, h, h2 => by unfold szLX at h2; omega
  | m :: L, z, h, h2 => by
    by_cases h3 : z - (m.2.2.length : Int) < 0
    · exact szL_no h3
    · rw [szL_yes h3] at h2 ⊢
      exact szL_neg (by omega) h2
theorem szB_neg {n : Nat} {L : List ML} {left : Int} (h : szB n L left < 0) : szB n L left = -1 := by
  unfold szB at h ⊢
  by_cases h2 : left < (n : Int)
  · rw [if_pos h2]
  · rw [if_neg h2] at h ⊢
    exact szL_neg (by omega) h
set_option maxHeartbeats 1000000 in
theorem sz_box (n0 : Int) (A : Option Addr) (n cap : Nat) (left r : Int) (L : List ML) (w : World) (h : BoxA w A n cap L) (hl : 0 ≤ left) (hl2 : left ≤ 1048576) (hr : szB n L left = r) :
    Calls Tryz.prog 15 #[.agg #[.int .i64 n0, .slice A n cap], .int .i64 left] w fun e w' => e = .returned (.int .i64 r) ∧ Below w.heap.size w w' := by
  have H := Lib.hid h
  have hm : n ≤ maxLen := Nat.le_trans h.2.1 h.2.2.1
  have HM := Lib.hid hm
  clear hm h
  obtain ⟨S, hS⟩ : ∃ S, w.heap.size = S := ⟨_, rfl⟩
  have HBA := Lib.hid ((Below.refl w.heap.size w).alloc (Nat.le_refl _) (.cells #[.int .i64 n0, .slice A n cap] 37))
  by_cases hle : left < (n : Int)
  · have hr1 : r = -1 := by rw [← hr]; unfold szB; rw [if_pos hle]
    subst hr1
    clear hr
    go_enter Tryz.func15, Tryz.ntmps15
    go_wp2_with fail
    refine (sz_mails_no A n cap left _ hl hl2 hle HM.out).mono ?_
    rintro e w2 ⟨rfl, hb⟩
    have HB2 := Lib.hid (HBA.out.trans (hb.mono (by simp)))
    clear hb
    go_wp2
    go_ret
    exact ⟨rfl, hS ▸ HB2.out⟩
  · have hr0 : szLX L (left - (n : Int)) = r := by rw [← hr]; unfold szB; rw [if_neg hle]
    have HR := Lib.hid hr0
    have hle2 : (n : Int) ≤ left := by omega
    have hrc : r = -1 ∨ 0 ≤ r := by
      by_cases h2 : r < 0
      · exact .inl (by rw [← hr0]; exact szL_neg (by omega) (by rw [hr0]; exact h2))
      · exact .inr (by omega)
    clear hr hle hr0
    rcases hrc with rfl | hrp
    · go_enter Tryz.func15, Tryz.ntmps15
      go_wp2_with fail
      refine (sz_mails A n cap left (-1) L _ H.out.1 (H.out.2.2.2.1.below HBA.out (Nat.le_refl _)) H.out.2.2.2.2 hl hl2 hle2 HR.out).mono ?_
      rintro e w2 ⟨rfl, hb⟩
      have HB2 := Lib.hid (HBA.out.trans (hb.mono (by simp)))
      clear hb
      go_wp2
      go_ret
      exact ⟨rfl, hS ▸ HB2.out⟩
    · have hrf : ¬ r < 0 := by omega
      go_enter Tryz.func15, Tryz.ntmps15
      go_wp2_with fail
      refine (sz_mails A n cap left r L _ H.out.1 (H.out.2.2.2.1.below HBA.out (Nat.le_refl _)) H.out.2.2.2.2 hl hl2 hle2 HR.out).mono ?_
      rintro e w2 ⟨rfl, hb⟩
      have HB2 := Lib.hid (HBA.out.trans (hb.mono (by simp)))
      clear hb
      go_wp2
      go_ret
      exact ⟨rfl, hS ▸ HB2.out⟩
set_option maxHeartbeats 2000000 in
theorem to_box (n0 : Int) (A : Option Addr) (n cap : Nat) (L : List ML) (w : World) (h : BoxA w A n cap L) (hl : n ≤ 1048576) :
    Calls Tryz.prog 18 #[.agg #[.int .i64 n0, .slice A n cap]] w fun e w' => ∃ g, e = .returned (.agg #[.int .i64 n0, .slice (some ⟨g, 0, none⟩) n n]) ∧ ROwn mailR w' w.heap.size (.slice (some ⟨g, 0, none⟩) n n) L ∧ Below w.heap.size w w' := by
  have H := Lib.hid h
  clear h
  obtain ⟨S, hS⟩ : ∃ S, w.heap.size = S := ⟨_, rfl⟩
  have HS := Lib.hid hS
  obtain ⟨wq, hwq⟩ : ∃ wq, (((w.alloc (.cells #[.int .i64 n0, .slice A n cap] 37)).alloc (.cells #[.int .i64 0, .slice none 0 0] 48)).alloc (.cells #[.int .i64 n0, .slice none 0 0] 48)) = wq := ⟨_, rfl⟩
  have HBA : Hid (Below S w wq) := by rw [← hwq, ← hS]; exact (((Below.refl _ _).alloc (Nat.le_refl _) _).alloc (by simp) _).alloc (by simp; omega) _
  have HW0 : Hid (Whole wq S 37 #[.int .i64 n0, .slice A n cap]) := by
    rw [← hwq, ← hS]
    exact ((Whole.made w 37 #[.int .i64 n0, .slice A n cap]).alloc _).alloc _
  have HW1 : Hid (Whole wq (S + 1) 48 #[.int .i64 0, .slice none 0 0]) := by
    rw [← hwq, ← hS]
    have h2 := Whole.made (w.alloc (.cells #[.int .i64 n0, .slice A n cap] 37)) 48 #[.int .i64 0, .slice none 0 0]
    rw [show (w.alloc (.cells #[.int .i64 n0, .slice A n cap] 37)).heap.size = w.heap.size + 1 by simp] at h2
    exact h2.alloc _
  have HW2 : Hid (Whole wq (S + 1 + 1) 48 #[.int .i64 n0, .slice none 0 0]) := by
    rw [← hwq, ← hS]
    have h2 := Whole.made ((w.alloc (.cells #[.int .i64 n0, .slice A n cap] 37)).alloc (.cells #[.int .i64 0, .slice none 0 0] 48)) 48 #[.int .i64 n0, .slice none 0 0]
    rw [show ((w.alloc (.cells #[.int .i64 n0, .slice A n cap] 37)).alloc (.cells #[.int .i64 0, .slice none 0 0] 48)).heap.size = w.heap.size + 1 + 1 by simp] at h2
    exact h2
  have hzq : S + 1 + 1 < wq.heap.size := HW2.out.lt
  have a1 := HW0.out.cell 1
  simp at a1
  go_enter Tryz.func18, Tryz.ntmps18
  go_wp2_with fail
  refine (to_mails A n cap L _ H.out.1 (H.out.2.2.2.1.below HBA.out (Nat.le_of_eq HS.out)) hl).mono ?_
  rintro e w2 ⟨g, rfl, hown, hb⟩
  have hzS : S ≤ wq.heap.size := by omega
  have HO2 := Lib.hid (hown.from hzS)
  have HB2 := Lib.hid (HBA.out.trans (hb.mono hzS))
  have HV1 := Lib.hid (HW1.out.below hb HW1.out.lt)
  have HV2 := Lib.hid (HW2.out.below hb HW2.out.lt)
  clear hb hown a1
  have b0 := HV1.out.cell 0
  have b1 := HV1.out.cell 1
  have b2 := HV2.out.cell 0
  have b3 := HV2.out.cell 1
  simp at b0 b1 b2 b3
  have e0 := HV1.out.free 0
  have e1 := HV1.out.free 1
  have e2 := HV2.out.free 0
  have e3 := HV2.out.free 1
  go_wp2
  refine bodyPost_ret (v := .agg #[.int .i64 n0, .slice (some ⟨g, 0, none⟩) n n]) (by simp [results, Tryz.results18, go_sem, *]) rfl ?_
  refine ⟨g, rfl, ?_, ?_⟩
  · rw [HS.out]
    refine ROwn.store (ROwn.store (ROwn.store HO2.out ?_ _) ?_ _) ?_ _ <;> first | exact HO2.out.whole HV2.out (by decide) | exact HO2.out.whole HV1.out (by decide)
  · rw [HS.out]
    refine ((HB2.out.setCell ?_ _).setCell ?_ _).setCell ?_ _ <;> (simp <;> try omega)
set_option maxHeartbeats 1000000 in
theorem eq_box (n0 : Int) (A A2 : Option Addr) (n cap cap2 : Nat) (L : List ML) (w : World) (h : MIn w A n cap L) (h2 : MIn w A2 n cap2 L) :
    Calls Tryz.prog 22 #[.agg #[.int .i64 n0, .slice A n cap], .agg #[.int .i64 n0, .slice A2 n cap2]] w fun e w' => e = .returned (.bool true) ∧ Below w.heap.size w w' := by
  have HBA := Lib.hid (((Below.refl w.heap.size w).alloc (Nat.le_refl _) (.cells #[.int .i64 n0, .slice A n cap] 48)).alloc (by simp) (.cells #[.int .i64 n0, .slice A2 n cap2] 48))
  have H := Lib.hid (h.below HBA.out (Nat.le_refl _))
  have H2 := Lib.hid (h2.below HBA.out (Nat.le_refl _))
  have n1 : (n0 != n0) = false := by simp
  clear h h2
  go_enter Tryz.func22, Tryz.ntmps22
  go_wp2_with fail
  refine (eq_mails A A2 n cap cap2 L _ H.out H2.out).mono ?_
  rintro e w2 ⟨rfl, hb⟩
  have HB2 := Lib.hid (HBA.out.trans (hb.mono (by simp; omega)))
  clear hb
  go_wp2
  go_ret
  exact ⟨rfl, HB2.out⟩
set_option maxHeartbeats 1000000 in
theorem mark_box (s r : Nat) (n0 : Int) (A : Option Addr) (cap n B : Nat) (L : List ML) (w : World) (hn : L.length = n) (h : ROwn mailR w B (.slice A n cap) L) (hl : n ≤ 4000000) (hs : 0 < s) (hs2 : s ≤ 100000000) (hr : s + 3 * n = r) :
    Calls Tryz.prog 23 #[.agg #[.int .i64 n0, .slice A n cap], .int .i64 (s : Int)] w fun e w' => e = .returned (.int .i64 (r : Int)) ∧ ROwn mailR w' B (.slice A n cap) (mkm s n) ∧ w.grownBy w' (Value.slice A n cap).ownBlock := by
  have HO := Lib.hid (h.alloc (.cells #[.int .i64 n0, .slice A n cap] 48))
  have HG := Lib.hid (gr_belowE (row := (Value.slice A n cap).ownBlock) (below_new w (.cells #[.int .i64 n0, .slice A n cap] 48)))
  clear h
  go_enter Tryz.func23, Tryz.ntmps23
  go_wp2_with fail
  refine (mark_mails s r A cap n B L _ hn HO.out hl hs hs2 hr).mono ?_
  rintro e w2 ⟨rfl, hown, hg⟩
  have HO2 := Lib.hid hown
  have HG2 := Lib.hid (gr_trans HG.out hg)
  clear hown hg
  go_wp2
  go_ret
  exact ⟨rfl, HO2.out, HG2.out⟩
theorem kp_own {α : Type} {R : RowT α} {w : World} {B : Nat} {v : Value} {L : List α} (h : ROwn R w B v L) : Kp w fun w' => ROwn R w' B v L := fun w2 h2 => h.kept h2
theorem kp_tri {w : World} {D : Nat} {t : TypeId} {cs : Array Value} (h : Whole w D t cs) : Kp w fun w' => True ∧ Whole w' D t cs ∧ True := fun w2 h2 => ⟨trivial, h.below h2 h.lt, trivial⟩
/-- A list of numbers that was handed in. -/
def NumA (w : World) (A : Option Addr) (n cap : Nat) (P : List Int) : Prop := P.length = n ∧ n ≤ cap ∧ cap ≤ maxLen ∧ RAt intR w A P
theorem NumA.below {w w' : World} {A : Option Addr} {n cap B : Nat} {P : List Int} (h : NumA w A n cap P) (hb : Below B w w') (hB : w.heap.size ≤ B) : NumA w' A n cap P := ⟨h.1, h.2.1, h.2.2.1, h.2.2.2.below hb hB⟩
theorem NumA.keep {w : World} {A : Option Addr} {n cap : Nat} {P : List Int} (h : NumA w A n cap P) : Kp w fun w' => NumA w' A n cap P := fun w2 h2 => h.below h2 (Nat.le_refl _)
def BoxArg (w : World) (A : Option Addr) (n cap : Nat) : Prop := ∃ L, BoxA w A n cap L
def NumArg (w : World) (A : Option Addr) (n cap : Nat) : Prop := ∃ P, NumA w A n cap P
theorem below_mark {α : Type} {R : RowT α} {a w w' : World} {B S : Nat} {v : Value} {L : List α} (h : Below S a w) (hS : a.heap.size = S) (ho : ROwn R w B v L) (hg : w.grownBy w' v.ownBlock) (hB : S ≤ B) : Below S a w' :=
  h.grown hg (hS ▸ h.size) (fun k hk => Nat.le_trans hB (World.ownsRow.lt ho k hk).1)
end Go.Proofs.YtnfigpknejmkmaaGreatDoor
namespace Go.Proofs.YtnfigpknejmkmaaGreatDoor
open Go.RowKit Go.ChangeShapes Go.WideShapes
set_option linter.unusedVariables false

section
variable {H : Type} {enc : TypeId × Value → H} {P : Program} {w : World} {base : Nat} {spare : Nat → Bool} {held : Bool}
theorem each3 {e : TypeId} {f0 f1 f2 : Field} {n : Nat} {a : Addr} {cs : List Value} {x : DataW H × List MemPlace} (he : P.underlying e = some (.struct #[f0, f1, f2]))
    (o0 : f0.offset = 0) (o1 : f1.offset = 1) (o2 : f2.offset = 2) (c0 : P.cellsOf f0.type = 1) (c1 : P.cellsOf f1.type = 1) (c2 : P.cellsOf f2.type = 1)
    (h1 : w.cells? base a 3 = some cs) (h2 : DataW.trod enc P w base spare held n e cs = some x) :
    ∃ (v0 v1 v2 : Value) (k : Nat) (y0 y1 y2 : DataW H × List MemPlace), w.cell? (a.add 0) = some v0 ∧ w.cell? (a.add 1) = some v1 ∧ w.cell? (a.add 2) = some v2 ∧
      DataW.trod enc P w base spare held k f0.type [v0] = some y0 ∧ DataW.trod enc P w base spare held k f1.type [v1] = some y1 ∧ DataW.trod enc P w base spare held k f2.type [v2] = some y2 := by
  obtain ⟨_, hlen, hcell⟩ := World.cells?_some h1
  obtain ⟨xs, k, hk, hxy, _, hxl, hf⟩ := DataW.trod_struct he h2
  match xs, hxl, cs, hlen with
  | [y0, y1, y2], _, [v0, v1, v2], _ =>
    have g0 := hf 0 f0 rfl
    have g1 := hf 1 f1 rfl
    have g2 := hf 2 f2 rfl
    simp [o0, o1, o2, c0, c1, c2] at g0 g1 g2
    have e0 := hcell 0 (by omega)
    have e1 := hcell 1 (by omega)
    have e2 := hcell 2 (by omega)
    exact ⟨v0, v1, v2, k, y0, y1, y2, by simpa using e0, by simpa using e1, by simpa using e2, g0, g1, g2⟩
end
section
variable {H : Type} {enc : TypeId × Value → H} {w : World} {base : Nat} {spare : Nat → Bool} {held : Bool}
theorem open_mails {fuel : Nat} {cs : List Value} {x : DataW H × List MemPlace} (h : DataW.trod enc Tryz.prog w base spare held fuel 35 cs = some x) :
    ∃ A len cap, cs = [.slice A len cap] ∧ BoxArg w A len cap := by
  rcases Deep.open_slice Tryz.underlying35 h with ⟨hcs, _⟩ | ⟨a, len, cap, m, n, D, Pl, hcs, hb, hl, hm, hmm, _, hx⟩
  · exact ⟨none, 0, 0, hcs, [], rfl, Nat.le_refl _, by unfold maxLen; omega, RAt.nil _ _, fun m hm => by simp at hm⟩
  · have ce : Tryz.prog.cellsOf 113 = 3 := by kernel_rfl
    rw [ce] at hx
    have each : ∀ i, i < len → ∃ q : ML, w.cell? ((a.add (i * 3)).add 0) = some (.int .i64 q.1) ∧ w.cell? ((a.add (i * 3)).add 1) = some (.int .i64 q.2.1) ∧ w.cell? ((a.add (i * 3)).add 2) = some (.string (sB q.2.2)) ∧ q.2.2.length ≤ maxLen := by
      intro i hi
      obtain ⟨cs', h1, h2⟩ := hx i (by rw [hmm]; split <;> omega)
      obtain ⟨v0, v1, v2, k, y0, y1, y2, e0, e1, e2, g0, g1, g2⟩ := each3 Tryz.underlying113 rfl rfl rfl (by kernel_rfl) (by kernel_rfl) (by kernel_rfl) h1 h2
      obtain ⟨u, hu, _, _⟩ := DataW.trod_int Tryz.underlying3 g0
      obtain ⟨f, hf, _, _⟩ := DataW.trod_int Tryz.underlying3 g1
      obtain ⟨s, hs, _, hsz⟩ := DataW.trod_string Tryz.underlying9 g2
      simp only [List.cons.injEq, and_true] at hu hf hs
      subst hu
      subst hf
      subst hs
      refine ⟨(u, f, s.data.toList), e0, e1, ?_, ?_⟩
      · show _ = some (Value.string (sB s.data.toList))
        rw [sB_of]
        exact e2
      · show s.data.toList.length ≤ maxLen
        have h3 := sB_size s.data.toList
        rw [sB_of] at h3
        omega
    obtain ⟨q, hq⟩ := Deep.choose_lt each
    refine ⟨some a, len, cap, hcs, (List.range len).map q, by simp, hl, hm, ?_, ?_⟩
    · intro i y hy
      have hi : i < len := by have := (List.getElem?_eq_some_iff.1 hy).1; simpa using this
      obtain ⟨e0, e1, e2, _⟩ := hq i hi
      have hs : a.spot = none := by
        have := World.cell?_spot (hq 0 (by omega)).1
        simpa [Addr.add] using this
      obtain ⟨xb, xo, spot⟩ := a
      simp only at hs
      subst hs
      have he : y = q i := by simp [hi] at hy; exact hy.symm
      subst he
      simp only [radd] at e0 e1 e2
      refine ⟨xb, xo, rfl, by simpa using block_lt_of_cell e0, fun j u hu => ?_⟩
      match j, hu with
      | 0, hu => cases hu; exact e0
      | 1, hu => cases hu; exact e1
      | 2, hu => cases hu; exact e2
      | j + 3, hu => simp [mailR] at hu
    · intro m hm2
      obtain ⟨i, hi, rfl⟩ := List.mem_map.1 hm2
      exact (hq i (List.mem_range.1 hi)).2.2.2
theorem open_nums {fuel : Nat} {cs : List Value} {x : DataW H × List MemPlace} (h : DataW.trod enc Tryz.prog w base spare held fuel 44 cs = some x) :
    ∃ A len cap, cs = [.slice A len cap] ∧ NumArg w A len cap := by
  rcases Deep.open_slice1 Tryz.underlying44 (by kernel_rfl) h with ⟨hcs, _⟩ | ⟨a, len, cap, m, n, V, D, Pl, hcs, hb, hl, hm, hmm, _, hx⟩
  · exact ⟨none, 0, 0, hcs, [], rfl, Nat.le_refl _, by unfold maxLen; omega, RAt.nil _ _⟩
  · have each : ∀ i, i < len → ∃ q : Int, w.cell? (a.add i) = some (.int .i64 q) := by
      intro i hi
      obtain ⟨h1, h2⟩ := hx i (by rw [hmm]; split <;> omega)
      obtain ⟨u, hu, _, _⟩ := DataW.trod_int Tryz.underlying3 h2
      simp only [List.cons.injEq, and_true] at hu
      exact ⟨u, by rw [h1, hu]⟩
    obtain ⟨q, hq⟩ := Deep.choose_lt each
    refine ⟨some a, len, cap, hcs, (List.range len).map q, by simp, hl, hm, ?_⟩
    intro i y hy
    have hi : i < len := by have := (List.getElem?_eq_some_iff.1 hy).1; simpa using this
    have e0 := hq i hi
    have hs : a.spot = none := by
      have := World.cell?_spot (hq 0 (by omega))
      simpa [Addr.add] using this
    obtain ⟨xb, xo, spot⟩ := a
    simp only at hs
    subst hs
    have he : y = q i := by simp [hi] at hy; exact hy.symm
    subst he
    rw [radd] at e0
    refine ⟨xb, xo, rfl, by simpa using block_lt_of_cell e0, fun j u hu => ?_⟩
    match j, hu with
    | 0, hu => cases hu; show w.cell? ⟨xb, xo + i * 1 + 0, none⟩ = _; rw [Nat.mul_one, Nat.add_zero]; exact e0
    | j + 1, hu => simp [intR] at hu
end
end Go.Proofs.YtnfigpknejmkmaaGreatDoor
namespace Go.Proofs.YtnfigpknejmkmaaGreatDoor
open Go.RowKit
set_option linter.unusedVariables false

mutual
theorem cT_sz : ∀ k : KT, cT k ≤ 3 * szT k + 3
  | .mk kd f t S ks => by
    have := cL_sz ks
    rw [cT, szT]
    omega
theorem cL_sz : ∀ ks : List KT, cL ks ≤ 3 * szL ks + 3 * ks.length
  | [] => by rw [cL]; exact Nat.zero_le _
  | k :: r => by
    have h1 := cT_sz k
    have h2 := cL_sz r
    rw [cL, szL, List.length_cons]
    omega
end
theorem cY_sz (k : KT) : cY k ≤ 3 * szT k := by
  obtain ⟨kd, f, t, S, ks⟩ := k
  have := cL_sz ks
  rw [cY, szT]
  omega
theorem KO.kept {w w' : World} {P : Nat → Prop} {k : KT} {v : Value} (h : KO w P k v) (hb : Below w.heap.size w w') : KO w' P k v := KO.writ (S := fun _ => False) (Writ.one (gr_belowK (row := none) hb) (fun _ e => by cases e)) k v P (fun _ _ h => h) h
set_option maxRecDepth 20000 in
set_option maxHeartbeats 16000000 in
theorem law_FnExactSearchBox (n0 : Int) (A : Option Addr) (len cap : Nat) (v : Value) (w : World) (h0 : BoxArg w A len cap) (h : ∃ k, KZ w k v) (hSh : Shp w) (hLs : Lst w) (hMx : MxL w) : Calls Tryz.prog 6 #[.agg #[.int .i64 n0, .slice A len cap], v] w (Holds1 w) := by
  obtain ⟨L, hA⟩ := h0
  obtain ⟨k, hk⟩ := h
  have hk0 := hk
  obtain ⟨kd, f, t, S, ks⟩ := k
  rw [KZ] at hk0
  obtain ⟨AS, nS, cS, AK, nK, cK, rfl, -⟩ := hk0
  have HSH := Lib.hid hSh
  have HLS := Lib.hid hLs
  have HMX := Lib.hid hMx
  have HN := Lib.hid hA.1
  obtain ⟨q, hq⟩ : ∃ q : KT, .mk kd f t S ks = q := ⟨_, rfl⟩
  rw [hq] at hk
  obtain ⟨m, hm⟩ : ∃ m, nodesT q = m := ⟨_, rfl⟩
  have HM := Lib.hid (Nat.le_of_eq hm)
  obtain ⟨r, hr⟩ : ∃ r, szB len L 1048576 = r := ⟨_, rfl⟩
  have hrc : r = -1 ∨ (0 ≤ r ∧ r ≤ 1048576 ∧ (len : Int) ≤ 1048576) := by
    by_cases h0 : r < 0
    · exact .inl (by rw [← hr]; exact szB_neg (by rw [hr]; exact h0))
    · have h1 := szB_le (n := len) (L := L) (left := 1048576) (by rw [hr]; omega)
      rw [hr] at h1
      exact .inr ⟨by omega, h1.2, h1.1⟩
  obtain ⟨r2, hr2⟩ : ∃ r2 : Int, lft (r - (szT q : Int)) = r2 := ⟨_, rfl⟩
  have HR := Lib.hid hr
  have HR2 := Lib.hid hr2
  obtain ⟨Da, hDa⟩ : ∃ D, w.heap.size = D := ⟨_, rfl⟩
  obtain ⟨wq, hwq⟩ : ∃ z, w.alloc (.cells #[.int .i64 n0, .slice A len cap] 37) = z := ⟨_, rfl⟩
  obtain ⟨Db, hDb⟩ : ∃ D, wq.heap.size = D := ⟨_, rfl⟩
  obtain ⟨w0, hw0⟩ : ∃ z, wq.alloc (.cells #[.int .i64 kd, .int .i64 f, .string t, .slice AS nS cS, .slice AK nK cK] 41) = z := ⟨_, rfl⟩
  have hbq : Below w.heap.size w wq := by rw [← hwq]; exact below_newK w _
  have hbr : Below wq.heap.size wq w0 := by rw [← hw0]; exact below_newK wq _
  have hb0 : Below w.heap.size w w0 := hbq.trans (hbr.mono hbq.size)
  have HB := Lib.hid hb0
  have HA := Lib.hid (hA.below hb0 (Nat.le_refl _))
  have HZ := Lib.hid (KZ.below hb0 (Nat.le_refl _) _ _ hk)
  have HD := Lib.hid (Whole.below (show Whole wq Da 37 #[.int .i64 n0, .slice A len cap] by rw [← hwq, ← hDa]; exact Whole.made w _ _) hbr (show Da < wq.heap.size by rw [← hwq, ← hDa]; simp))
  have HE := Lib.hid (show Whole w0 Db 41 #[.int .i64 kd, .int .i64 f, .string t, .slice AS nS cS, .slice AK nK cK] by rw [← hw0, ← hDb]; exact Whole.made wq _ _)
  clear hA hk hbq hbr hb0 hSh hLs hMx
  rcases hrc with rfl | ⟨hr0, hr1, hlen0⟩
  · clear hr hr2 hm hq
    have cHD0 := HD.out.cell 0
    have cHD1 := HD.out.cell 1
    simp only [List.getElem?_toArray, List.getElem?_cons_zero, List.getElem?_cons_succ] at cHD0 cHD1
    go_enter Tryz.func6, Tryz.ntmps6
    go_wp2_with fail
    refine (sz_box n0 A len cap 1048576 (-1) L w0 HA.out (by omega) (by omega) HR.out).mono ?_
    rintro e w1 ⟨rfl, hb⟩
    clear cHD0 cHD1
    have HB_1 := Lib.hid (HB.out.trans (hb.mono HB.out.size))
    have HA_1 := Lib.hid (HA.out.below hb (Nat.le_refl _))
    have HZ_1 := Lib.hid (KZ.below hb (Nat.le_refl _) _ _ HZ.out)
    have HD_1 := Lib.hid (HD.out.below hb HD.out.lt)
    have HE_1 := Lib.hid (HE.out.below hb HE.out.lt)
    clear HE HD HZ HA HB
    clear hb
    go_wp2
    go_ret
    exact ⟨rfl, HB_1.out⟩
  · have hlen : len ≤ 1048576 := by omega
    have hrf : ¬ r < 0 := by omega
    have hrd : decide (r < 0) = false := decide_eq_false hrf
    by_cases hr20 : r2 < 0
    · clear hr hr2 hm hq
      have cHD0 := HD.out.cell 0
      have cHD1 := HD.out.cell 1
      simp only [List.getElem?_toArray, List.getElem?_cons_zero, List.getElem?_cons_succ] at cHD0 cHD1
      go_enter Tryz.func6, Tryz.ntmps6
      go_wp2_with fail
      refine (sz_box n0 A len cap 1048576 r L w0 HA.out (by omega) (by omega) HR.out).mono ?_
      rintro e w1 ⟨rfl, hb⟩
      clear cHD0 cHD1
      have HB_1 := Lib.hid (HB.out.trans (hb.mono HB.out.size))
      have HA_1 := Lib.hid (HA.out.below hb (Nat.le_refl _))
      have HZ_1 := Lib.hid (KZ.below hb (Nat.le_refl _) _ _ HZ.out)
      have HD_1 := Lib.hid (HD.out.below hb HD.out.lt)
      have HE_1 := Lib.hid (HE.out.below hb HE.out.lt)
      clear HE HD HZ HA HB
      clear hb
      have cHE0 := HE_1.out.cell 0
      have cHE1 := HE_1.out.cell 1
      have cHE2 := HE_1.out.cell 2
      have cHE3 := HE_1.out.cell 3
      have cHE4 := HE_1.out.cell 4
      simp only [List.getElem?_toArray, List.getElem?_cons_zero, List.getElem?_cons_succ] at cHE0 cHE1 cHE2 cHE3 cHE4
      go_wp2_with fail
      have HCA := sz_key m q (.agg #[.int .i64 kd, .int .i64 f, .string t, .slice AS nS cS, .slice AK nK cK]) w1 r HM.out hr0 hr1 HZ_1.out
      unfold SzK at HCA
      rw [HR2.out] at HCA
      refine HCA.mono ?_
      rintro e w2 ⟨rfl, hb⟩
      clear HCA
      clear cHE0 cHE1 cHE2 cHE3 cHE4
      have HB_2 := Lib.hid (HB_1.out.trans (hb.mono HB_1.out.size))
      have HA_2 := Lib.hid (HA_1.out.below hb (Nat.le_refl _))
      have HZ_2 := Lib.hid (KZ.below hb (Nat.le_refl _) _ _ HZ_1.out)
      have HD_2 := Lib.hid (HD_1.out.below hb HD_1.out.lt)
      have HE_2 := Lib.hid (HE_1.out.below hb HE_1.out.lt)
      clear HE_1 HD_1 HZ_1 HA_1 HB_1
      clear hb
      go_wp2
      go_ret
      exact ⟨rfl, HB_2.out⟩
    · have hz : szT q ≤ 1048576 := by
        rcases Nat.lt_or_ge 1048576 (szT q) with h | h
        · rw [lft_no (by omega)] at hr2; omega
        · exact h
      have hm2 : m ≤ 1048577 := by have := nodes_sz q; omega
      have hnq : nodesT q ≤ 4000000 := by omega
      have HZT := Lib.hid hz
      obtain ⟨G, hG⟩ : ∃ G, srT n0 L q = G := ⟨_, rfl⟩
      have HG := Lib.hid hG
      have HGL : Hid (G.length ≤ 1048576) := Lib.hid (by
        rw [← hG]
        unfold srT
        split
        · have h1 := plT_len L q L.length
          have h2 := HN.out
          omega
        · exact Nat.zero_le _)
      obtain ⟨q1, hq1⟩ : ∃ x, 1 + 3 * len = x := ⟨_, rfl⟩
      obtain ⟨q2, hq2⟩ : ∃ x, q1 + cY q = x := ⟨_, rfl⟩
      obtain ⟨q3, hq3⟩ : ∃ x, 1 + G.length = x := ⟨_, rfl⟩
      have hcy := cY_sz q
      have hgl := HGL.out
      have HQ1 : Hid (1 + 3 * len = q1 ∧ 0 < q1) := Lib.hid ⟨hq1, by omega⟩
      have HQ2 : Hid (q1 + cY q = q2 ∧ q2 ≤ 90000000) := Lib.hid ⟨hq2, by omega⟩
      have HQ3 : Hid (1 + G.length = q3) := Lib.hid hq3
      have p2 : ¬ (q2 : Int) < 0 := by omega
      have p2d : decide ((q2 : Int) < 0) = false := decide_eq_false p2
      have p3 : ¬ (q3 : Int) < 0 := by omega
      have p3d : decide ((q3 : Int) < 0) = false := decide_eq_false p3
      have p3e : ((q3 : Int) != (q3 : Int)) = false := by simp
      have hr2f : decide (r2 < 0) = false := decide_eq_false hr20
      clear hr hr2 hm hq hz hG hq1 hq2 hq3 hcy hgl
      have cHD0 := HD.out.cell 0
      have cHD1 := HD.out.cell 1
      simp only [List.getElem?_toArray, List.getElem?_cons_zero, List.getElem?_cons_succ] at cHD0 cHD1
      go_enter Tryz.func6, Tryz.ntmps6
      go_wp2_with fail
      refine (sz_box n0 A len cap 1048576 r L w0 HA.out (by omega) (by omega) HR.out).mono ?_
      rintro e w1 ⟨rfl, hb⟩
      clear cHD0 cHD1
      have HB_1 := Lib.hid (HB.out.trans (hb.mono HB.out.size))
      have HA_1 := Lib.hid (HA.out.below hb (Nat.le_refl _))
      have HZ_1 := Lib.hid (KZ.below hb (Nat.le_refl _) _ _ HZ.out)
      have HD_1 := Lib.hid (HD.out.below hb HD.out.lt)
      have HE_1 := Lib.hid (HE.out.below hb HE.out.lt)
      clear HE HD HZ HA HB
      clear hb
      have cHE0 := HE_1.out.cell 0
      have cHE1 := HE_1.out.cell 1
      have cHE2 := HE_1.out.cell 2
      have cHE3 := HE_1.out.cell 3
      have cHE4 := HE_1.out.cell 4
      simp only [List.getElem?_toArray, List.getElem?_cons_zero, List.getElem?_cons_succ] at cHE0 cHE1 cHE2 cHE3 cHE4
      go_wp2_with fail
      have HCA := sz_key m q (.agg #[.int .i64 kd, .int .i64 f, .string t, .slice AS nS cS, .slice AK nK cK]) w1 r HM.out hr0 hr1 HZ_1.out
      unfold SzK at HCA
      rw [HR2.out] at HCA
      refine HCA.mono ?_
      rintro e w2 ⟨rfl, hb⟩
      clear HCA
      clear cHE0 cHE1 cHE2 cHE3 cHE4
      have HB_2 := Lib.hid (HB_1.out.trans (hb.mono HB_1.out.size))
      have HA_2 := Lib.hid (HA_1.out.below hb (Nat.le_refl _))
      have HZ_2 := Lib.hid (KZ.below hb (Nat.le_refl _) _ _ HZ_1.out)
      have HD_2 := Lib.hid (HD_1.out.below hb HD_1.out.lt)
      have HE_2 := Lib.hid (HE_1.out.below hb HE_1.out.lt)
      clear HE_1 HD_1 HZ_1 HA_1 HB_1
      clear hb
      have HV := Lib.hid (kv_of q (.agg #[.int .i64 kd, .int .i64 f, .string t, .slice AS nS cS, .slice AK nK cK]) HZ_2.out HZT.out)
      clear HZ_2
      obtain ⟨wz8, hwz⟩ : ∃ z, w2.drew = z := ⟨_, rfl⟩
      have hbd : Below w2.heap.size w2 wz8 := by rw [← hwz]; exact below_drew1 _
      have HWZ8 := Lib.hid hwz
      clear hwz
      have HB_3 := Lib.hid (HB_2.out.trans (hbd.mono HB_2.out.size))
      have HA_3 := Lib.hid (HA_2.out.below hbd (Nat.le_refl _))
      have HD_3 := Lib.hid (HD_2.out.below hbd HD_2.out.lt)
      have HE_3 := Lib.hid (HE_2.out.below hbd HE_2.out.lt)
      have HV_3 := Lib.hid (KV.below hbd (Nat.le_refl _) _ _ HV.out)
      clear HV HE_2 HD_2 HA_2 HB_2
      clear hbd
      have cHD0 := HD_3.out.cell 0
      have cHD1 := HD_3.out.cell 1
      have cHE0 := HE_3.out.cell 0
      have cHE1 := HE_3.out.cell 1
      have cHE2 := HE_3.out.cell 2
      have cHE3 := HE_3.out.cell 3
      have cHE4 := HE_3.out.cell 4
      simp only [List.getElem?_toArray, List.getElem?_cons_zero, List.getElem?_cons_succ] at cHD0 cHD1 cHE0 cHE1 cHE2 cHE3 cHE4
      go_upto_region 8 with fail
      refine wp_region_late (fun w' => w'.cell? ⟨Da, 0, none⟩ = some (.int .i64 n0) ∧ w'.cell? ⟨Da, 1, none⟩ = some (.slice A len cap) ∧ w'.cell? ⟨Db, 0, none⟩ = some (.int .i64 kd) ∧ w'.cell? ⟨Db, 1, none⟩ = some (.int .i64 f) ∧ w'.cell? ⟨Db, 2, none⟩ = some (.string t) ∧ w'.cell? ⟨Db, 3, none⟩ = some (.slice AS nS cS) ∧ w'.cell? ⟨Db, 4, none⟩ = some (.slice AK nK cK)) 5 (by kernel_rfl) ?_
      rw [HWZ8.out]
      refine wpLate_take (i := 0) (v := ?v0r8) rfl (by kernel_rfl) (by kernel_rfl) (by kernel_rfl) (by kernel_rfl) (by kernel_rfl) (fun _ _ _ h => h) ⟨cHD0, cHD1, cHE0, cHE1, cHE2, cHE3, cHE4⟩ (by rfl) ?hy0r8 ?r0r8
      case hy0r8 =>
        rintro wz ⟨z0, z1, z2, z3, z4, z5, z6⟩
        go_simp
        try with_reducible rfl
      try simp only [Act.put]
      refine wpLate_take (i := 2) (v := ?v2r8) rfl (by kernel_rfl) (by kernel_rfl) (by kernel_rfl) (by kernel_rfl) (by kernel_rfl) (fun _ _ _ h => h) ⟨cHD0, cHD1, cHE0, cHE1, cHE2, cHE3, cHE4⟩ (by rfl) ?hy2r8 ?r2r8
      case hy2r8 =>
        rintro wz ⟨z0, z1, z2, z3, z4, z5, z6⟩
        go_simp
        try with_reducible rfl
      try simp only [Act.put]
      refine wpLate_one (i := 1) (by kernel_rfl) rfl (fun K hK => ?_)
      go_simp
      refine (to_box n0 A len cap L wz8 HA_3.out hlen).mono ?_
      rintro e w3 ⟨g1, rfl, hown, hb⟩
      clear cHD0 cHD1 cHE0 cHE1 cHE2 cHE3 cHE4
      have HB_4 := Lib.hid (HB_3.out.trans (hb.mono HB_3.out.size))
      have HA_4 := Lib.hid (HA_3.out.below hb (Nat.le_refl _))
      have HD_4 := Lib.hid (HD_3.out.below hb HD_3.out.lt)
      have HE_4 := Lib.hid (HE_3.out.below hb HE_3.out.lt)
      have HV_4 := Lib.hid (KV.below hb (Nat.le_refl _) _ _ HV_3.out)
      clear HV_3 HE_3 HD_3 HA_3 HB_3
      have HM1 := Lib.hid (MIn.of hown (by omega))
      clear hown hb
      have cHD0 := HD_4.out.cell 0
      have cHD1 := HD_4.out.cell 1
      have cHE0 := HE_4.out.cell 0
      have cHE1 := HE_4.out.cell 1
      have cHE2 := HE_4.out.cell 2
      have cHE3 := HE_4.out.cell 3
      have cHE4 := HE_4.out.cell 4
      simp only [List.getElem?_toArray, List.getElem?_cons_zero, List.getElem?_cons_succ] at cHD0 cHD1 cHE0 cHE1 cHE2 cHE3 cHE4
      refine hK.out _ _ (fun _ => ⟨cHD0, cHD1, cHE0, cHE1, cHE2, cHE3, cHE4⟩) ?_
      clear hK K
      try simp only [Act.put]
      refine wpLate_one (i := 3) (by kernel_rfl) rfl (fun K hK => ?_)
      go_simp
      refine (to_key m q (.agg #[.int .i64 kd, .int .i64 f, .string t, .slice AS nS cS, .slice AK nK cK]) w3 HM.out HZT.out HV_4.out).mono ?_
      rintro e w4 ⟨⟨a0, a1, a2, ⟨a3, a4, a5⟩, ⟨a6, a7, a8⟩⟩, rfl, hka, hb⟩
      clear cHD0 cHD1 cHE0 cHE1 cHE2 cHE3 cHE4
      have HB_5 := Lib.hid (HB_4.out.trans (hb.mono HB_4.out.size))
      have HA_5 := Lib.hid (HA_4.out.below hb (Nat.le_refl _))
      have HD_5 := Lib.hid (HD_4.out.below hb HD_4.out.lt)
      have HE_5 := Lib.hid (HE_4.out.below hb HE_4.out.lt)
      have HV_5 := Lib.hid (KV.below hb (Nat.le_refl _) _ _ HV_4.out)
      have HM1_5 := Lib.hid (HM1.out.below hb (Nat.le_refl _))
      clear HM1 HV_4 HE_4 HD_4 HA_4 HB_4
      have HKa := Lib.hid (hka.kv)
      clear hka hb
      have cHD0 := HD_5.out.cell 0
      have cHD1 := HD_5.out.cell 1
      have cHE0 := HE_5.out.cell 0
      have cHE1 := HE_5.out.cell 1
      have cHE2 := HE_5.out.cell 2
      have cHE3 := HE_5.out.cell 3
      have cHE4 := HE_5.out.cell 4
      simp only [List.getElem?_toArray, List.getElem?_cons_zero, List.getElem?_cons_succ] at cHD0 cHD1 cHE0 cHE1 cHE2 cHE3 cHE4
      refine hK.out _ _ (fun _ => ⟨cHD0, cHD1, cHE0, cHE1, cHE2, cHE3, cHE4⟩) ?_
      clear hK K
      try simp only [Act.put]
      refine wpLate_one (i := 4) (by kernel_rfl) rfl (fun K hK => ?_)
      go_simp
      refine (spec_search HG.out w4 HM1_5.out HKa.out hnq).mono ?_
      rintro e w5 ⟨A6, N6, c6, rfl, ho, hb⟩
      clear cHD0 cHD1 cHE0 cHE1 cHE2 cHE3 cHE4
      clear HM1_5
      clear HKa
      have HB_6 := Lib.hid (HB_5.out.trans (hb.mono HB_5.out.size))
      have HA_6 := Lib.hid (HA_5.out.below hb (Nat.le_refl _))
      have HD_6 := Lib.hid (HD_5.out.below hb HD_5.out.lt)
      have HE_6 := Lib.hid (HE_5.out.below hb HE_5.out.lt)
      have HV_6 := Lib.hid (KV.below hb (Nat.le_refl _) _ _ HV_5.out)
      clear HV_5 HE_5 HD_5 HA_5 HB_5
      have HN6 := Lib.hid ho.len.1
      have HI6 := Lib.hid (IIn.of ho (by have := HN6.out; have := HGL.out; omega))
      clear ho hb
      have cHD0 := HD_6.out.cell 0
      have cHD1 := HD_6.out.cell 1
      have cHE0 := HE_6.out.cell 0
      have cHE1 := HE_6.out.cell 1
      have cHE2 := HE_6.out.cell 2
      have cHE3 := HE_6.out.cell 3
      have cHE4 := HE_6.out.cell 4
      simp only [List.getElem?_toArray, List.getElem?_cons_zero, List.getElem?_cons_succ] at cHD0 cHD1 cHE0 cHE1 cHE2 cHE3 cHE4
      refine hK.out _ _ (fun _ => ⟨cHD0, cHD1, cHE0, cHE1, cHE2, cHE3, cHE4⟩) ?_
      clear hK K
      try simp only [Act.put]
      refine wpLate_one (i := 5) (by kernel_rfl) rfl (fun K hK => ?_)
      go_simp
      refine hK.out _ _ (fun h => absurd rfl h) ?_
      clear hK K
      try simp only [Act.put]
      refine wpLate_done (by kernel_rfl) ?_ _
      have HBb := Lib.hid HB_6.out
      have HAb := Lib.hid HA_6.out
      have HDb := Lib.hid HD_6.out
      have HEb := Lib.hid HE_6.out
      have HVb := Lib.hid HV_6.out
      have HI6b := Lib.hid HI6.out
      have HBA := Lib.hid (Below.refl w5.heap.size w5)
      clear cHD0 cHD1 cHE0 cHE1 cHE2 cHE3 cHE4
      have cHD0 := HD_6.out.cell 0
      have cHD1 := HD_6.out.cell 1
      simp only [List.getElem?_toArray, List.getElem?_cons_zero, List.getElem?_cons_succ] at cHD0 cHD1
      go_wp2_with fail
      refine (to_box n0 A len cap L w5 HA_6.out hlen).mono ?_
      rintro e w6 ⟨gx, rfl, hown, hb⟩
      clear cHD0 cHD1
      have HB_7 := Lib.hid (HB_6.out.trans (hb.mono HB_6.out.size))
      have HA_7 := Lib.hid (HA_6.out.below hb (Nat.le_refl _))
      have HD_7 := Lib.hid (HD_6.out.below hb HD_6.out.lt)
      have HE_7 := Lib.hid (HE_6.out.below hb HE_6.out.lt)
      have HV_7 := Lib.hid (KV.below hb (Nat.le_refl _) _ _ HV_6.out)
      have HI6_7 := Lib.hid (HI6.out.below hb (Nat.le_refl _))
      have HBA_7 := Lib.hid (HBA.out.trans (hb.mono HBA.out.size))
      clear HBA HI6 HV_6 HE_6 HD_6 HA_6 HB_6
      have HXW := Lib.hid (World.ownsRow.lt hown gx rfl)
      have X0 := Lib.hid (hown)
      clear hown hb
      obtain ⟨D7, hD7⟩ : ∃ D, w6.heap.size = D := ⟨_, rfl⟩
      obtain ⟨w7, hw7⟩ : ∃ z, w6.alloc (.cells #[.int .i64 n0, .slice (some ⟨gx, 0, none⟩) len len] 48) = z := ⟨_, rfl⟩
      have hbn : Below w6.heap.size w6 w7 := by rw [← hw7]; exact below_new _ _
      have HB_8 := Lib.hid (HB_7.out.trans (hbn.mono HB_7.out.size))
      have HA_8 := Lib.hid (HA_7.out.below hbn (Nat.le_refl _))
      have HD_8 := Lib.hid (HD_7.out.below hbn HD_7.out.lt)
      have HE_8 := Lib.hid (HE_7.out.below hbn HE_7.out.lt)
      have HV_8 := Lib.hid (KV.below hbn (Nat.le_refl _) _ _ HV_7.out)
      have HI6_8 := Lib.hid (HI6_7.out.below hbn (Nat.le_refl _))
      have HBA_8 := Lib.hid (HBA_7.out.trans (hbn.mono HBA_7.out.size))
      have X0_8 := Lib.hid (X0.out.kept hbn)
      clear X0 HBA_7 HI6_7 HV_7 HE_7 HD_7 HA_7 HB_7
      have H7 := Lib.hid (show Whole w7 D7 48 #[.int .i64 n0, .slice (some ⟨gx, 0, none⟩) len len] by rw [← hw7, ← hD7]; exact Whole.made _ _ _)
      have HD7 := Lib.hid hD7
      clear hbn
      have HX7 : Hid (w5.heap.size ≤ gx ∧ gx < D7 ∧ D7 < w7.heap.size) := Lib.hid (by have h1 := HXW.out; have h2 := HD7.out; have h3 := H7.out.lt; omega)
      have cHE0 := HE_8.out.cell 0
      have cHE1 := HE_8.out.cell 1
      have cHE2 := HE_8.out.cell 2
      have cHE3 := HE_8.out.cell 3
      have cHE4 := HE_8.out.cell 4
      simp only [List.getElem?_toArray, List.getElem?_cons_zero, List.getElem?_cons_succ] at cHE0 cHE1 cHE2 cHE3 cHE4
      go_wp2_with fail
      refine (tow_key m q (.agg #[.int .i64 kd, .int .i64 f, .string t, .slice AS nS cS, .slice AK nK cK]) w7 HM.out HZT.out HV_8.out).mono ?_
      rintro e w8 ⟨⟨b0, b1, b2, ⟨b3, b4, b5⟩, ⟨b6, b7, b8⟩⟩, rfl, hkw, hb⟩
      clear cHE0 cHE1 cHE2 cHE3 cHE4
      have HB_9 := Lib.hid (HB_8.out.trans (hb.mono HB_8.out.size))
      have HA_9 := Lib.hid (HA_8.out.below hb (Nat.le_refl _))
      have HD_9 := Lib.hid (HD_8.out.below hb HD_8.out.lt)
      have HE_9 := Lib.hid (HE_8.out.below hb HE_8.out.lt)
      have HV_9 := Lib.hid (KV.below hb (Nat.le_refl _) _ _ HV_8.out)
      have HI6_9 := Lib.hid (HI6_8.out.below hb (Nat.le_refl _))
      have HBA_9 := Lib.hid (HBA_8.out.trans (hb.mono HBA_8.out.size))
      have X0_9 := Lib.hid (X0_8.out.kept hb)
      have H7_9 := Lib.hid (H7.out.below hb H7.out.lt)
      clear H7 X0_8 HBA_8 HI6_8 HV_8 HE_8 HD_8 HA_8 HB_8
      obtain ⟨P, hP⟩ : ∃ P : Nat → Prop, (fun b => w7.heap.size ≤ b ∧ b < w8.heap.size) = P := ⟨_, rfl⟩
      have HP0 : Hid (∀ b, P b → w7.heap.size ≤ b ∧ b < w8.heap.size) := Lib.hid (fun b h => by rw [← hP] at h; exact h)
      have HZ78 := Lib.hid hb.size
      have X1 := Lib.hid (show KO w8 P q (kval (b0, b1, b2, (b3, b4, b5), (b6, b7, b8))) by rw [← hP]; exact hkw)
      clear hkw hb hP
      obtain ⟨D8, hD8⟩ : ∃ D, w8.heap.size = D := ⟨_, rfl⟩
      obtain ⟨w9, hw9⟩ : ∃ z, w8.alloc (.cells #[.int .i64 b0, .int .i64 b1, .string b2, .slice b3 b4 b5, .slice b6 b7 b8] 27) = z := ⟨_, rfl⟩
      have hbn : Below w8.heap.size w8 w9 := by rw [← hw9]; exact below_new _ _
      have HB_10 := Lib.hid (HB_9.out.trans (hbn.mono HB_9.out.size))
      have HA_10 := Lib.hid (HA_9.out.below hbn (Nat.le_refl _))
      have HD_10 := Lib.hid (HD_9.out.below hbn HD_9.out.lt)
      have HE_10 := Lib.hid (HE_9.out.below hbn HE_9.out.lt)
      have HV_10 := Lib.hid (KV.below hbn (Nat.le_refl _) _ _ HV_9.out)
      have HI6_10 := Lib.hid (HI6_9.out.below hbn (Nat.le_refl _))
      have HBA_10 := Lib.hid (HBA_9.out.trans (hbn.mono HBA_9.out.size))
      have X0_10 := Lib.hid (X0_9.out.kept hbn)
      have H7_10 := Lib.hid (H7_9.out.below hbn H7_9.out.lt)
      have X1_10 := Lib.hid (X1.out.kept hbn)
      clear X1 H7_9 X0_9 HBA_9 HI6_9 HV_9 HE_9 HD_9 HA_9 HB_9
      have H8 := Lib.hid (show Whole w9 D8 27 #[.int .i64 b0, .int .i64 b1, .string b2, .slice b3 b4 b5, .slice b6 b7 b8] by rw [← hw9, ← hD8]; exact Whole.made _ _ _)
      have HD8 := Lib.hid hD8
      clear hbn
      have HX8 : Hid (w5.heap.size ≤ gx ∧ gx < D7 ∧ D7 < w7.heap.size ∧ w7.heap.size ≤ D8 ∧ D8 < w9.heap.size) := Lib.hid (by have h1 := HX7.out; have h2 := HD8.out; have h3 := H8.out.lt; have h4 := HZ78.out; omega)
      have HP : Hid (∀ b, P b → w7.heap.size ≤ b ∧ b < D8) := Lib.hid (fun b h => by have h1 := HP0.out b h; have h2 := HD8.out; omega)
      have cH70 := H7_10.out.cell 0
      have cH71 := H7_10.out.cell 1
      have cH80 := H8.out.cell 0
      have cH81 := H8.out.cell 1
      have cH82 := H8.out.cell 2
      have cH83 := H8.out.cell 3
      have cH84 := H8.out.cell 4
      simp only [List.getElem?_toArray, List.getElem?_cons_zero, List.getElem?_cons_succ] at cH70 cH71 cH80 cH81 cH82 cH83 cH84
      go_wp2_with fail
      refine (impl_search HG.out w9 (MIn.of X0_10.out (by omega)) (KO.kv _ _ _ X1_10.out) (HSH.out.below HB_10.out (Nat.le_refl _)) (HLS.out.below HB_10.out (Nat.le_refl _)) (HMX.out.below HB_10.out (Nat.le_refl _))).mono ?_
      rintro e w10 ⟨Ag, Ng, cg, rfl, ho, hb⟩
      have hNg : Ng = N6 := by have h1 := ho.len.1; have h2 := HN6.out; omega
      subst hNg
      have hNb : Ng ≤ 1048576 := by have h1 := HN6.out; have h2 := HGL.out; omega
      have hNq : 1 + Ng = q3 := by have h1 := HN6.out; have h2 := HQ3.out; omega
      have HGW : Hid (∀ b, Value.ownBlock (.slice Ag Ng cg) = some b → w9.heap.size ≤ b) := Lib.hid (fun b e => (World.ownsRow.lt ho b e).1)
      clear cH70 cH71 cH80 cH81 cH82 cH83 cH84
      have HB_11 := Lib.hid (HB_10.out.trans (hb.mono HB_10.out.size))
      have HA_11 := Lib.hid (HA_10.out.below hb (Nat.le_refl _))
      have HD_11 := Lib.hid (HD_10.out.below hb HD_10.out.lt)
      have HE_11 := Lib.hid (HE_10.out.below hb HE_10.out.lt)
      have HV_11 := Lib.hid (KV.below hb (Nat.le_refl _) _ _ HV_10.out)
      have HI6_11 := Lib.hid (HI6_10.out.below hb (Nat.le_refl _))
      have HBA_11 := Lib.hid (HBA_10.out.trans (hb.mono HBA_10.out.size))
      have X0_11 := Lib.hid (X0_10.out.kept hb)
      have H7_11 := Lib.hid (H7_10.out.below hb H7_10.out.lt)
      have X1_11 := Lib.hid (X1_10.out.kept hb)
      have H8_11 := Lib.hid (H8.out.below hb H8.out.lt)
      clear H8 X1_10 H7_10 X0_10 HBA_10 HI6_10 HV_10 HE_10 HD_10 HA_10 HB_10
      have G0 := Lib.hid (ho)
      clear ho hb
      go_wp2_with fail
      refine (eq_nums Ag A6 Ng cg c6 G w10 (IIn.of G0.out (by omega)) HI6_11.out).mono ?_
      rintro e w11 ⟨rfl, hb⟩
      have HB_12 := Lib.hid (HB_11.out.trans (hb.mono HB_11.out.size))
      have HA_12 := Lib.hid (HA_11.out.below hb (Nat.le_refl _))
      have HD_12 := Lib.hid (HD_11.out.below hb HD_11.out.lt)
      have HE_12 := Lib.hid (HE_11.out.below hb HE_11.out.lt)
      have HV_12 := Lib.hid (KV.below hb (Nat.le_refl _) _ _ HV_11.out)
      have HI6_12 := Lib.hid (HI6_11.out.below hb (Nat.le_refl _))
      have HBA_12 := Lib.hid (HBA_11.out.trans (hb.mono HBA_11.out.size))
      have X0_12 := Lib.hid (X0_11.out.kept hb)
      have H7_12 := Lib.hid (H7_11.out.below hb H7_11.out.lt)
      have X1_12 := Lib.hid (X1_11.out.kept hb)
      have H8_12 := Lib.hid (H8_11.out.below hb H8_11.out.lt)
      have G0_12 := Lib.hid (G0.out.kept hb)
      clear G0 H8_11 X1_11 H7_11 X0_11 HBA_11 HI6_11 HV_11 HE_11 HD_11 HA_11 HB_11
      clear hb
      obtain ⟨wz14, hwz⟩ : ∃ z, w11.drew = z := ⟨_, rfl⟩
      have hbd : Below w11.heap.size w11 wz14 := by rw [← hwz]; exact below_drew1 _
      have HWZ14 := Lib.hid hwz
      clear hwz
      have HB_13 := Lib.hid (HB_12.out.trans (hbd.mono HB_12.out.size))
      have HA_13 := Lib.hid (HA_12.out.below hbd (Nat.le_refl _))
      have HD_13 := Lib.hid (HD_12.out.below hbd HD_12.out.lt)
      have HE_13 := Lib.hid (HE_12.out.below hbd HE_12.out.lt)
      have HV_13 := Lib.hid (KV.below hbd (Nat.le_refl _) _ _ HV_12.out)
      have HI6_13 := Lib.hid (HI6_12.out.below hbd (Nat.le_refl _))
      have HBA_13 := Lib.hid (HBA_12.out.trans (hbd.mono HBA_12.out.size))
      have X0_13 := Lib.hid (X0_12.out.kept hbd)
      have H7_13 := Lib.hid (H7_12.out.below hbd H7_12.out.lt)
      have X1_13 := Lib.hid (X1_12.out.kept hbd)
      have H8_13 := Lib.hid (H8_12.out.below hbd H8_12.out.lt)
      have G0_13 := Lib.hid (G0_12.out.kept hbd)
      clear G0_12 H8_12 X1_12 H7_12 X0_12 HBA_12 HI6_12 HV_12 HE_12 HD_12 HA_12 HB_12
      clear hbd
      have cHD0 := HD_13.out.cell 0
      have cHD1 := HD_13.out.cell 1
      have cH70 := H7_13.out.cell 0
      have cH71 := H7_13.out.cell 1
      simp only [List.getElem?_toArray, List.getElem?_cons_zero, List.getElem?_cons_succ] at cHD0 cHD1 cH70 cH71
      go_upto_region 14 with fail
      refine wp_region_late (fun w' => w'.cell? ⟨Da, 0, none⟩ = some (.int .i64 n0) ∧ w'.cell? ⟨Da, 1, none⟩ = some (.slice A len cap) ∧ w'.cell? ⟨D7, 0, none⟩ = some (.int .i64 n0) ∧ w'.cell? ⟨D7, 1, none⟩ = some (.slice (some ⟨gx, 0, none⟩) len len)) 4 (by kernel_rfl) ?_
      rw [HWZ14.out]
      refine wpLate_take (i := 0) (v := ?v0r14) rfl (by kernel_rfl) (by kernel_rfl) (by kernel_rfl) (by kernel_rfl) (by kernel_rfl) (fun _ _ _ h => h) ⟨cHD0, cHD1, cH70, cH71⟩ (by rfl) ?hy0r14 ?r0r14
      case hy0r14 =>
        rintro wz ⟨z0, z1, z2, z3⟩
        go_simp
        try with_reducible rfl
      try simp only [Act.put]
      refine wpLate_take (i := 1) (v := ?v1r14) rfl (by kernel_rfl) (by kernel_rfl) (by kernel_rfl) (by kernel_rfl) (by kernel_rfl) (fun _ _ _ h => h) ⟨cHD0, cHD1, cH70, cH71⟩ (by rfl) ?hy1r14 ?r1r14
      case hy1r14 =>
        rintro wz ⟨z0, z1, z2, z3⟩
        go_simp
        try with_reducible rfl
      try simp only [Act.put]
      refine wpLate_one (i := 2) (by kernel_rfl) rfl (fun K hK => ?_)
      go_simp
      refine (to_box n0 A len cap L wz14 HA_13.out hlen).mono ?_
      rintro e w12 ⟨gy, rfl, hown, hb⟩
      clear cHD0 cHD1 cH70 cH71
      have HB_14 := Lib.hid (HB_13.out.trans (hb.mono HB_13.out.size))
      have HA_14 := Lib.hid (HA_13.out.below hb (Nat.le_refl _))
      have HD_14 := Lib.hid (HD_13.out.below hb HD_13.out.lt)
      have HE_14 := Lib.hid (HE_13.out.below hb HE_13.out.lt)
      have HV_14 := Lib.hid (KV.below hb (Nat.le_refl _) _ _ HV_13.out)
      have HI6_14 := Lib.hid (HI6_13.out.below hb (Nat.le_refl _))
      have HBA_14 := Lib.hid (HBA_13.out.trans (hb.mono HBA_13.out.size))
      have X0_14 := Lib.hid (X0_13.out.kept hb)
      have H7_14 := Lib.hid (H7_13.out.below hb H7_13.out.lt)
      have X1_14 := Lib.hid (X1_13.out.kept hb)
      have H8_14 := Lib.hid (H8_13.out.below hb H8_13.out.lt)
      have G0_14 := Lib.hid (G0_13.out.kept hb)
      clear G0_13 H8_13 X1_13 H7_13 X0_13 HBA_13 HI6_13 HV_13 HE_13 HD_13 HA_13 HB_13
      have HM3 := Lib.hid (MIn.of hown (by omega))
      clear hown hb
      have cHD0 := HD_14.out.cell 0
      have cHD1 := HD_14.out.cell 1
      have cH70 := H7_14.out.cell 0
      have cH71 := H7_14.out.cell 1
      simp only [List.getElem?_toArray, List.getElem?_cons_zero, List.getElem?_cons_succ] at cHD0 cHD1 cH70 cH71
      refine hK.out _ _ (fun _ => ⟨cHD0, cHD1, cH70, cH71⟩) ?_
      clear hK K
      try simp only [Act.put]
      refine wpLate_one (i := 3) (by kernel_rfl) rfl (fun K hK => ?_)
      go_simp
      refine (eq_box n0 (some ⟨gx, 0, none⟩) (some ⟨gy, 0, none⟩) len len len L w12 (MIn.of X0_14.out (by omega)) HM3.out).mono ?_
      rintro e w13 ⟨rfl, hb⟩
      clear cHD0 cHD1 cH70 cH71
      clear HM3
      have HB_15 := Lib.hid (HB_14.out.trans (hb.mono HB_14.out.size))
      have HA_15 := Lib.hid (HA_14.out.below hb (Nat.le_refl _))
      have HD_15 := Lib.hid (HD_14.out.below hb HD_14.out.lt)
      have HE_15 := Lib.hid (HE_14.out.below hb HE_14.out.lt)
      have HV_15 := Lib.hid (KV.below hb (Nat.le_refl _) _ _ HV_14.out)
      have HI6_15 := Lib.hid (HI6_14.out.below hb (Nat.le_refl _))
      have HBA_15 := Lib.hid (HBA_14.out.trans (hb.mono HBA_14.out.size))
      have X0_15 := Lib.hid (X0_14.out.kept hb)
      have H7_15 := Lib.hid (H7_14.out.below hb H7_14.out.lt)
      have X1_15 := Lib.hid (X1_14.out.kept hb)
      have H8_15 := Lib.hid (H8_14.out.below hb H8_14.out.lt)
      have G0_15 := Lib.hid (G0_14.out.kept hb)
      clear G0_14 H8_14 X1_14 H7_14 X0_14 HBA_14 HI6_14 HV_14 HE_14 HD_14 HA_14 HB_14
      clear hb
      have cHD0 := HD_15.out.cell 0
      have cHD1 := HD_15.out.cell 1
      have cH70 := H7_15.out.cell 0
      have cH71 := H7_15.out.cell 1
      simp only [List.getElem?_toArray, List.getElem?_cons_zero, List.getElem?_cons_succ] at cHD0 cHD1 cH70 cH71
      refine hK.out _ _ (fun _ => ⟨cHD0, cHD1, cH70, cH71⟩) ?_
      clear hK K
      try simp only [Act.put]
      refine wpLate_one (i := 4) (by kernel_rfl) rfl (fun K hK => ?_)
      go_simp
      refine hK.out _ _ (fun h => absurd rfl h) ?_
      clear hK K
      try simp only [Act.put]
      refine wpLate_done (by kernel_rfl) ?_ _
      obtain ⟨wz16, hwz⟩ : ∃ z, w13.drew = z := ⟨_, rfl⟩
      have hbd : Below w13.heap.size w13 wz16 := by rw [← hwz]; exact below_drew1 _
      have HWZ16 := Lib.hid hwz
      clear hwz
      clear cHD0 cHD1 cH70 cH71
      have HB_16 := Lib.hid (HB_15.out.trans (hbd.mono HB_15.out.size))
      have HA_16 := Lib.hid (HA_15.out.below hbd (Nat.le_refl _))
      have HD_16 := Lib.hid (HD_15.out.below hbd HD_15.out.lt)
      have HE_16 := Lib.hid (HE_15.out.below hbd HE_15.out.lt)
      have HV_16 := Lib.hid (KV.below hbd (Nat.le_refl _) _ _ HV_15.out)
      have HI6_16 := Lib.hid (HI6_15.out.below hbd (Nat.le_refl _))
      have HBA_16 := Lib.hid (HBA_15.out.trans (hbd.mono HBA_15.out.size))
      have X0_16 := Lib.hid (X0_15.out.kept hbd)
      have H7_16 := Lib.hid (H7_15.out.below hbd H7_15.out.lt)
      have X1_16 := Lib.hid (X1_15.out.kept hbd)
      have H8_16 := Lib.hid (H8_15.out.below hbd H8_15.out.lt)
      have G0_16 := Lib.hid (G0_15.out.kept hbd)
      clear G0_15 H8_15 X1_15 H7_15 X0_15 HBA_15 HI6_15 HV_15 HE_15 HD_15 HA_15 HB_15
      clear hbd
      have cHE0 := HE_16.out.cell 0
      have cHE1 := HE_16.out.cell 1
      have cHE2 := HE_16.out.cell 2
      have cHE3 := HE_16.out.cell 3
      have cHE4 := HE_16.out.cell 4
      have cH80 := H8_16.out.cell 0
      have cH81 := H8_16.out.cell 1
      have cH82 := H8_16.out.cell 2
      have cH83 := H8_16.out.cell 3
      have cH84 := H8_16.out.cell 4
      simp only [List.getElem?_toArray, List.getElem?_cons_zero, List.getElem?_cons_succ] at cHE0 cHE1 cHE2 cHE3 cHE4 cH80 cH81 cH82 cH83 cH84
      go_upto_region 16 with fail
      refine wp_region_late (fun w' => w'.cell? ⟨Db, 0, none⟩ = some (.int .i64 kd) ∧ w'.cell? ⟨Db, 1, none⟩ = some (.int .i64 f) ∧ w'.cell? ⟨Db, 2, none⟩ = some (.string t) ∧ w'.cell? ⟨Db, 3, none⟩ = some (.slice AS nS cS) ∧ w'.cell? ⟨Db, 4, none⟩ = some (.slice AK nK cK) ∧ w'.cell? ⟨D8, 0, none⟩ = some (.int .i64 b0) ∧ w'.cell? ⟨D8, 1, none⟩ = some (.int .i64 b1) ∧ w'.cell? ⟨D8, 2, none⟩ = some (.string b2) ∧ w'.cell? ⟨D8, 3, none⟩ = some (.slice b3 b4 b5) ∧ w'.cell? ⟨D8, 4, none⟩ = some (.slice b6 b7 b8)) 4 (by kernel_rfl) ?_
      rw [HWZ16.out]
      refine wpLate_take (i := 0) (v := ?v0r16) rfl (by kernel_rfl) (by kernel_rfl) (by kernel_rfl) (by kernel_rfl) (by kernel_rfl) (fun _ _ _ h => h) ⟨cHE0, cHE1, cHE2, cHE3, cHE4, cH80, cH81, cH82, cH83, cH84⟩ (by rfl) ?hy0r16 ?r0r16
      case hy0r16 =>
        rintro wz ⟨z0, z1, z2, z3, z4, z5, z6, z7, z8, z9⟩
        go_simp
        try with_reducible rfl
      try simp only [Act.put]
      refine wpLate_take (i := 1) (v := ?v1r16) rfl (by kernel_rfl) (by kernel_rfl) (by kernel_rfl) (by kernel_rfl) (by kernel_rfl) (fun _ _ _ h => h) ⟨cHE0, cHE1, cHE2, cHE3, cHE4, cH80, cH81, cH82, cH83, cH84⟩ (by rfl) ?hy1r16 ?r1r16
      case hy1r16 =>
        rintro wz ⟨z0, z1, z2, z3, z4, z5, z6, z7, z8, z9⟩
        go_simp
        try with_reducible rfl
      try simp only [Act.put]
      refine wpLate_one (i := 2) (by kernel_rfl) rfl (fun K hK => ?_)
      go_simp
      refine (to_key m q (.agg #[.int .i64 kd, .int .i64 f, .string t, .slice AS nS cS, .slice AK nK cK]) wz16 HM.out HZT.out HV_16.out).mono ?_
      rintro e w14 ⟨⟨d0, d1, d2, ⟨d3, d4, d5⟩, ⟨d6, d7, d8⟩⟩, rfl, hka, hb⟩
      clear cHE0 cHE1 cHE2 cHE3 cHE4 cH80 cH81 cH82 cH83 cH84
      have HB_17 := Lib.hid (HB_16.out.trans (hb.mono HB_16.out.size))
      have HA_17 := Lib.hid (HA_16.out.below hb (Nat.le_refl _))
      have HD_17 := Lib.hid (HD_16.out.below hb HD_16.out.lt)
      have HE_17 := Lib.hid (HE_16.out.below hb HE_16.out.lt)
      have HV_17 := Lib.hid (KV.below hb (Nat.le_refl _) _ _ HV_16.out)
      have HI6_17 := Lib.hid (HI6_16.out.below hb (Nat.le_refl _))
      have HBA_17 := Lib.hid (HBA_16.out.trans (hb.mono HBA_16.out.size))
      have X0_17 := Lib.hid (X0_16.out.kept hb)
      have H7_17 := Lib.hid (H7_16.out.below hb H7_16.out.lt)
      have X1_17 := Lib.hid (X1_16.out.kept hb)
      have H8_17 := Lib.hid (H8_16.out.below hb H8_16.out.lt)
      have G0_17 := Lib.hid (G0_16.out.kept hb)
      clear G0_16 H8_16 X1_16 H7_16 X0_16 HBA_16 HI6_16 HV_16 HE_16 HD_16 HA_16 HB_16
      have HKd := Lib.hid (hka.kv)
      clear hka hb
      have cHE0 := HE_17.out.cell 0
      have cHE1 := HE_17.out.cell 1
      have cHE2 := HE_17.out.cell 2
      have cHE3 := HE_17.out.cell 3
      have cHE4 := HE_17.out.cell 4
      have cH80 := H8_17.out.cell 0
      have cH81 := H8_17.out.cell 1
      have cH82 := H8_17.out.cell 2
      have cH83 := H8_17.out.cell 3
      have cH84 := H8_17.out.cell 4
      simp only [List.getElem?_toArray, List.getElem?_cons_zero, List.getElem?_cons_succ] at cHE0 cHE1 cHE2 cHE3 cHE4 cH80 cH81 cH82 cH83 cH84
      refine hK.out _ _ (fun _ => ⟨cHE0, cHE1, cHE2, cHE3, cHE4, cH80, cH81, cH82, cH83, cH84⟩) ?_
      clear hK K
      try simp only [Act.put]
      refine wpLate_one (i := 3) (by kernel_rfl) rfl (fun K hK => ?_)
      go_simp
      refine (eq_key m q _ _ w14 HM.out (by omega) (KO.kv _ _ _ X1_17.out) HKd.out).mono ?_
      rintro e w15 ⟨rfl, hb⟩
      clear cHE0 cHE1 cHE2 cHE3 cHE4 cH80 cH81 cH82 cH83 cH84
      clear HKd
      have HB_18 := Lib.hid (HB_17.out.trans (hb.mono HB_17.out.size))
      have HA_18 := Lib.hid (HA_17.out.below hb (Nat.le_refl _))
      have HD_18 := Lib.hid (HD_17.out.below hb HD_17.out.lt)
      have HE_18 := Lib.hid (HE_17.out.below hb HE_17.out.lt)
      have HV_18 := Lib.hid (KV.below hb (Nat.le_refl _) _ _ HV_17.out)
      have HI6_18 := Lib.hid (HI6_17.out.below hb (Nat.le_refl _))
      have HBA_18 := Lib.hid (HBA_17.out.trans (hb.mono HBA_17.out.size))
      have X0_18 := Lib.hid (X0_17.out.kept hb)
      have H7_18 := Lib.hid (H7_17.out.below hb H7_17.out.lt)
      have X1_18 := Lib.hid (X1_17.out.kept hb)
      have H8_18 := Lib.hid (H8_17.out.below hb H8_17.out.lt)
      have G0_18 := Lib.hid (G0_17.out.kept hb)
      clear G0_17 H8_17 X1_17 H7_17 X0_17 HBA_17 HI6_17 HV_17 HE_17 HD_17 HA_17 HB_17
      clear hb
      have cHE0 := HE_18.out.cell 0
      have cHE1 := HE_18.out.cell 1
      have cHE2 := HE_18.out.cell 2
      have cHE3 := HE_18.out.cell 3
      have cHE4 := HE_18.out.cell 4
      have cH80 := H8_18.out.cell 0
      have cH81 := H8_18.out.cell 1
      have cH82 := H8_18.out.cell 2
      have cH83 := H8_18.out.cell 3
      have cH84 := H8_18.out.cell 4
      simp only [List.getElem?_toArray, List.getElem?_cons_zero, List.getElem?_cons_succ] at cHE0 cHE1 cHE2 cHE3 cHE4 cH80 cH81 cH82 cH83 cH84
      refine hK.out _ _ (fun _ => ⟨cHE0, cHE1, cHE2, cHE3, cHE4, cH80, cH81, cH82, cH83, cH84⟩) ?_
      clear hK K
      try simp only [Act.put]
      refine wpLate_one (i := 4) (by kernel_rfl) rfl (fun K hK => ?_)
      go_simp
      refine hK.out _ _ (fun h => absurd rfl h) ?_
      clear hK K
      try simp only [Act.put]
      refine wpLate_done (by kernel_rfl) ?_ _
      clear cHE0 cHE1 cHE2 cHE3 cHE4 cH80 cH81 cH82 cH83 cH84
      have cH70 := H7_18.out.cell 0
      have cH71 := H7_18.out.cell 1
      simp only [List.getElem?_toArray, List.getElem?_cons_zero, List.getElem?_cons_succ] at cH70 cH71
      go_wp2_with fail
      refine (mark_box 1 q1 n0 (some ⟨gx, 0, none⟩) len len _ L w15 HN.out X0_18.out (by omega) (by omega) (by omega) HQ1.out.1).mono ?_
      rintro e w16 ⟨rfl, hom, hg⟩
      have hwr : Writ (fun b => w5.heap.size ≤ b ∧ b = gx) w15 w16 := Writ.one hg (fun b e => by have h1 := HX8.out; have h2 : gx = b := Option.some.inj e; omega)
      clear cH70 cH71
      have HBA_19 := Lib.hid (hwr.under HBA_18.out HBA_18.out.size (fun g e => e.1))
      have HB_19 := Lib.hid (HBb.out.trans (HBA_19.out.mono HBb.out.size))
      have HA_19 := Lib.hid (HAb.out.below HBA_19.out (Nat.le_refl _))
      have HD_19 := Lib.hid (HDb.out.below HBA_19.out HDb.out.lt)
      have HE_19 := Lib.hid (HEb.out.below HBA_19.out HEb.out.lt)
      have HV_19 := Lib.hid (KV.below HBA_19.out (Nat.le_refl _) _ _ HVb.out)
      have HI6_19 := Lib.hid (HI6b.out.below HBA_19.out (Nat.le_refl _))
      have H8_19 := Lib.hid (H8_18.out.writ hwr (fun h => by have h1 := HX8.out; omega))
      have G0_19 := Lib.hid (G0_18.out.writ hwr (fun b e h => by have h1 := HX8.out; have h2 := HGW.out b e; omega))
      have X1_19 := Lib.hid (KO.writ hwr _ _ P (fun b hp h => by have h1 := HX8.out; have h2 := HP.out b hp; omega) X1_18.out)
      clear G0_18 H8_18 X1_18 H7_18 X0_18 HBA_18 HI6_18 HV_18 HE_18 HD_18 HA_18 HB_18
      clear hom hg hwr
      have cH80 := H8_19.out.cell 0
      have cH81 := H8_19.out.cell 1
      have cH82 := H8_19.out.cell 2
      have cH83 := H8_19.out.cell 3
      have cH84 := H8_19.out.cell 4
      simp only [List.getElem?_toArray, List.getElem?_cons_zero, List.getElem?_cons_succ] at cH80 cH81 cH82 cH83 cH84
      go_wp2_with fail
      refine (mark_key q1 q2 P q _ w16 X1_19.out (fun b hp => by have h1 := H8_19.out.lt; have h2 := HP.out b hp; omega) HQ1.out.2 HQ2.out.1 HQ2.out.2).mono ?_
      rintro e w17 ⟨rfl, hko, hw⟩
      have hwr : Writ (fun b => w5.heap.size ≤ b ∧ P b) w16 w17 := hw.mono (fun b h => ⟨by have h1 := HX8.out; have h2 := HP.out b h; omega, h⟩)
      clear cH80 cH81 cH82 cH83 cH84
      have HBA_20 := Lib.hid (hwr.under HBA_19.out HBA_19.out.size (fun g e => e.1))
      have HB_20 := Lib.hid (HBb.out.trans (HBA_20.out.mono HBb.out.size))
      have HA_20 := Lib.hid (HAb.out.below HBA_20.out (Nat.le_refl _))
      have HD_20 := Lib.hid (HDb.out.below HBA_20.out HDb.out.lt)
      have HE_20 := Lib.hid (HEb.out.below HBA_20.out HEb.out.lt)
      have HV_20 := Lib.hid (KV.below HBA_20.out (Nat.le_refl _) _ _ HVb.out)
      have HI6_20 := Lib.hid (HI6b.out.below HBA_20.out (Nat.le_refl _))
      have G0_20 := Lib.hid (G0_19.out.writ hwr (fun b e h => by have h1 := HX8.out; have h2 := HGW.out b e; have h3 := HP.out b h.2; omega))
      clear X1_19 G0_19 H8_19 HI6_19 HV_19 HE_19 HD_19 HA_19 HB_19 HBA_19
      clear hko hw hwr
      go_wp2_with fail
      refine (eq_nums Ag A6 Ng cg c6 G w17 (IIn.of G0_20.out (by omega)) HI6_20.out).mono ?_
      rintro e w18 ⟨rfl, hb⟩
      have HBA_21 := Lib.hid (HBA_20.out.trans (hb.mono HBA_20.out.size))
      have HB_21 := Lib.hid (HB_20.out.trans (hb.mono HB_20.out.size))
      have HA_21 := Lib.hid (HA_20.out.below hb (Nat.le_refl _))
      have HD_21 := Lib.hid (HD_20.out.below hb HD_20.out.lt)
      have HE_21 := Lib.hid (HE_20.out.below hb HE_20.out.lt)
      have HV_21 := Lib.hid (KV.below hb (Nat.le_refl _) _ _ HV_20.out)
      have HI6_21 := Lib.hid (HI6_20.out.below hb (Nat.le_refl _))
      have G0_21 := Lib.hid (G0_20.out.kept hb)
      clear G0_20 HI6_20 HV_20 HE_20 HD_20 HA_20 HB_20 HBA_20
      clear hb
      go_wp2_with fail
      refine (mark_nums 1 q3 Ag cg Ng _ G w18 HN6.out.symm G0_21.out (by omega) (by omega) hNq).mono ?_
      rintro e w19 ⟨rfl, hom, hg⟩
      have hwr : Writ (fun b => w5.heap.size ≤ b ∧ Value.ownBlock (.slice Ag Ng cg) = some b) w18 w19 := Writ.one hg (fun b e => ⟨by have h1 := HX8.out; have h2 := HGW.out b e; omega, e⟩)
      have HBA_22 := Lib.hid (hwr.under HBA_21.out HBA_21.out.size (fun g e => e.1))
      have HB_22 := Lib.hid (HBb.out.trans (HBA_22.out.mono HBb.out.size))
      have HA_22 := Lib.hid (HAb.out.below HBA_22.out (Nat.le_refl _))
      have HD_22 := Lib.hid (HDb.out.below HBA_22.out HDb.out.lt)
      have HE_22 := Lib.hid (HEb.out.below HBA_22.out HEb.out.lt)
      have HV_22 := Lib.hid (KV.below HBA_22.out (Nat.le_refl _) _ _ HVb.out)
      have HI6_22 := Lib.hid (HI6b.out.below HBA_22.out (Nat.le_refl _))
      have G1_22 := Lib.hid (hom)
      clear G0_21 HI6_21 HV_21 HE_21 HD_21 HA_21 HB_21 HBA_21
      clear hom hg hwr
      go_wp2_with fail
      refine (held_nums 1 q3 Ag cg Ng w19 G1_22.out.at (by omega) (by omega) hNq).mono ?_
      rintro e w20 ⟨rfl, rfl⟩
      obtain ⟨wz31, hwz⟩ : ∃ z, w19.drew = z := ⟨_, rfl⟩
      have hbd : Below w19.heap.size w19 wz31 := by rw [← hwz]; exact below_drew1 _
      have HWZ31 := Lib.hid hwz
      clear hwz
      have HBA_23 := Lib.hid (HBA_22.out.trans (hbd.mono HBA_22.out.size))
      have HB_23 := Lib.hid (HB_22.out.trans (hbd.mono HB_22.out.size))
      have HA_23 := Lib.hid (HA_22.out.below hbd (Nat.le_refl _))
      have HD_23 := Lib.hid (HD_22.out.below hbd HD_22.out.lt)
      have HE_23 := Lib.hid (HE_22.out.below hbd HE_22.out.lt)
      have HV_23 := Lib.hid (KV.below hbd (Nat.le_refl _) _ _ HV_22.out)
      have HI6_23 := Lib.hid (HI6_22.out.below hbd (Nat.le_refl _))
      have G1_23 := Lib.hid (G1_22.out.kept hbd)
      clear G1_22 HI6_22 HV_22 HE_22 HD_22 HA_22 HB_22 HBA_22
      clear hbd
      have cHD0 := HD_23.out.cell 0
      have cHD1 := HD_23.out.cell 1
      have cHE0 := HE_23.out.cell 0
      have cHE1 := HE_23.out.cell 1
      have cHE2 := HE_23.out.cell 2
      have cHE3 := HE_23.out.cell 3
      have cHE4 := HE_23.out.cell 4
      simp only [List.getElem?_toArray, List.getElem?_cons_zero, List.getElem?_cons_succ] at cHD0 cHD1 cHE0 cHE1 cHE2 cHE3 cHE4
      go_upto_region 31 with fail
      refine wp_region_late (fun w' => w'.cell? ⟨Da, 0, none⟩ = some (.int .i64 n0) ∧ w'.cell? ⟨Da, 1, none⟩ = some (.slice A len cap) ∧ w'.cell? ⟨Db, 0, none⟩ = some (.int .i64 kd) ∧ w'.cell? ⟨Db, 1, none⟩ = some (.int .i64 f) ∧ w'.cell? ⟨Db, 2, none⟩ = some (.string t) ∧ w'.cell? ⟨Db, 3, none⟩ = some (.slice AS nS cS) ∧ w'.cell? ⟨Db, 4, none⟩ = some (.slice AK nK cK)) 5 (by kernel_rfl) ?_
      rw [HWZ31.out]
      refine wpLate_take (i := 0) (v := ?v0r31) rfl (by kernel_rfl) (by kernel_rfl) (by kernel_rfl) (by kernel_rfl) (by kernel_rfl) (fun _ _ _ h => h) ⟨cHD0, cHD1, cHE0, cHE1, cHE2, cHE3, cHE4⟩ (by rfl) ?hy0r31 ?r0r31
      case hy0r31 =>
        rintro wz ⟨z0, z1, z2, z3, z4, z5, z6⟩
        go_simp
        try with_reducible rfl
      try simp only [Act.put]
      refine wpLate_take (i := 2) (v := ?v2r31) rfl (by kernel_rfl) (by kernel_rfl) (by kernel_rfl) (by kernel_rfl) (by kernel_rfl) (fun _ _ _ h => h) ⟨cHD0, cHD1, cHE0, cHE1, cHE2, cHE3, cHE4⟩ (by rfl) ?hy2r31 ?r2r31
      case hy2r31 =>
        rintro wz ⟨z0, z1, z2, z3, z4, z5, z6⟩
        go_simp
        try with_reducible rfl
      try simp only [Act.put]
      refine wpLate_one (i := 1) (by kernel_rfl) rfl (fun K hK => ?_)
      go_simp
      refine (to_box n0 A len cap L wz31 HA_23.out hlen).mono ?_
      rintro e w21 ⟨gz, rfl, hown, hb⟩
      clear cHD0 cHD1 cHE0 cHE1 cHE2 cHE3 cHE4
      have HBA_24 := Lib.hid (HBA_23.out.trans (hb.mono HBA_23.out.size))
      have HB_24 := Lib.hid (HB_23.out.trans (hb.mono HB_23.out.size))
      have HA_24 := Lib.hid (HA_23.out.below hb (Nat.le_refl _))
      have HD_24 := Lib.hid (HD_23.out.below hb HD_23.out.lt)
      have HE_24 := Lib.hid (HE_23.out.below hb HE_23.out.lt)
      have HV_24 := Lib.hid (KV.below hb (Nat.le_refl _) _ _ HV_23.out)
      have HI6_24 := Lib.hid (HI6_23.out.below hb (Nat.le_refl _))
      have G1_24 := Lib.hid (G1_23.out.kept hb)
      clear G1_23 HI6_23 HV_23 HE_23 HD_23 HA_23 HB_23 HBA_23
      have HM5 := Lib.hid (MIn.of hown (by omega))
      clear hown hb
      have cHD0 := HD_24.out.cell 0
      have cHD1 := HD_24.out.cell 1
      have cHE0 := HE_24.out.cell 0
      have cHE1 := HE_24.out.cell 1
      have cHE2 := HE_24.out.cell 2
      have cHE3 := HE_24.out.cell 3
      have cHE4 := HE_24.out.cell 4
      simp only [List.getElem?_toArray, List.getElem?_cons_zero, List.getElem?_cons_succ] at cHD0 cHD1 cHE0 cHE1 cHE2 cHE3 cHE4
      refine hK.out _ _ (fun _ => ⟨cHD0, cHD1, cHE0, cHE1, cHE2, cHE3, cHE4⟩) ?_
      clear hK K
      try simp only [Act.put]
      refine wpLate_one (i := 3) (by kernel_rfl) rfl (fun K hK => ?_)
      go_simp
      refine (to_key m q (.agg #[.int .i64 kd, .int .i64 f, .string t, .slice AS nS cS, .slice AK nK cK]) w21 HM.out HZT.out HV_24.out).mono ?_
      rintro e w22 ⟨⟨h0, h1, h2, ⟨h3, h4, h5⟩, ⟨h6, h7, h8⟩⟩, rfl, hka, hb⟩
      clear cHD0 cHD1 cHE0 cHE1 cHE2 cHE3 cHE4
      have HBA_25 := Lib.hid (HBA_24.out.trans (hb.mono HBA_24.out.size))
      have HB_25 := Lib.hid (HB_24.out.trans (hb.mono HB_24.out.size))
      have HA_25 := Lib.hid (HA_24.out.below hb (Nat.le_refl _))
      have HD_25 := Lib.hid (HD_24.out.below hb HD_24.out.lt)
      have HE_25 := Lib.hid (HE_24.out.below hb HE_24.out.lt)
      have HV_25 := Lib.hid (KV.below hb (Nat.le_refl _) _ _ HV_24.out)
      have HI6_25 := Lib.hid (HI6_24.out.below hb (Nat.le_refl _))
      have G1_25 := Lib.hid (G1_24.out.kept hb)
      have HM5_25 := Lib.hid (HM5.out.below hb (Nat.le_refl _))
      clear HM5 G1_24 HI6_24 HV_24 HE_24 HD_24 HA_24 HB_24 HBA_24
      have HKh := Lib.hid (hka.kv)
      clear hka hb
      have cHD0 := HD_25.out.cell 0
      have cHD1 := HD_25.out.cell 1
      have cHE0 := HE_25.out.cell 0
      have cHE1 := HE_25.out.cell 1
      have cHE2 := HE_25.out.cell 2
      have cHE3 := HE_25.out.cell 3
      have cHE4 := HE_25.out.cell 4
      simp only [List.getElem?_toArray, List.getElem?_cons_zero, List.getElem?_cons_succ] at cHD0 cHD1 cHE0 cHE1 cHE2 cHE3 cHE4
      refine hK.out _ _ (fun _ => ⟨cHD0, cHD1, cHE0, cHE1, cHE2, cHE3, cHE4⟩) ?_
      clear hK K
      try simp only [Act.put]
      refine wpLate_one (i := 4) (by kernel_rfl) rfl (fun K hK => ?_)
      go_simp
      refine (impl_search HG.out w22 HM5_25.out HKh.out (HSH.out.below HB_25.out (Nat.le_refl _)) (HLS.out.below HB_25.out (Nat.le_refl _)) (HMX.out.below HB_25.out (Nat.le_refl _))).mono ?_
      rintro e w23 ⟨Ah, Nh, ch, rfl, ho, hb⟩
      have hNh : Nh = Ng := by have h1 := ho.len.1; have h2 := HN6.out; omega
      subst hNh
      clear cHD0 cHD1 cHE0 cHE1 cHE2 cHE3 cHE4
      clear HM5_25
      clear HKh
      have HBA_26 := Lib.hid (HBA_25.out.trans (hb.mono HBA_25.out.size))
      have HB_26 := Lib.hid (HB_25.out.trans (hb.mono HB_25.out.size))
      have HA_26 := Lib.hid (HA_25.out.below hb (Nat.le_refl _))
      have HD_26 := Lib.hid (HD_25.out.below hb HD_25.out.lt)
      have HE_26 := Lib.hid (HE_25.out.below hb HE_25.out.lt)
      have HV_26 := Lib.hid (KV.below hb (Nat.le_refl _) _ _ HV_25.out)
      have HI6_26 := Lib.hid (HI6_25.out.below hb (Nat.le_refl _))
      have G1_26 := Lib.hid (G1_25.out.kept hb)
      clear G1_25 HI6_25 HV_25 HE_25 HD_25 HA_25 HB_25 HBA_25
      have HIH := Lib.hid (IIn.of ho (by omega))
      clear ho hb
      have cHD0 := HD_26.out.cell 0
      have cHD1 := HD_26.out.cell 1
      have cHE0 := HE_26.out.cell 0
      have cHE1 := HE_26.out.cell 1
      have cHE2 := HE_26.out.cell 2
      have cHE3 := HE_26.out.cell 3
      have cHE4 := HE_26.out.cell 4
      simp only [List.getElem?_toArray, List.getElem?_cons_zero, List.getElem?_cons_succ] at cHD0 cHD1 cHE0 cHE1 cHE2 cHE3 cHE4
      refine hK.out _ _ (fun _ => ⟨cHD0, cHD1, cHE0, cHE1, cHE2, cHE3, cHE4⟩) ?_
      clear hK K
      try simp only [Act.put]
      refine wpLate_one (i := 5) (by kernel_rfl) rfl (fun K hK => ?_)
      go_simp
      refine hK.out _ _ (fun h => absurd rfl h) ?_
      clear hK K
      try simp only [Act.put]
      refine wpLate_done (by kernel_rfl) ?_ _
      clear cHD0 cHD1 cHE0 cHE1 cHE2 cHE3 cHE4
      go_wp2_with fail
      refine (eq_nums Ah A6 Nh ch c6 G w23 HIH.out HI6_26.out).mono ?_
      rintro e w24 ⟨rfl, hb⟩
      have HBA_27 := Lib.hid (HBA_26.out.trans (hb.mono HBA_26.out.size))
      have HB_27 := Lib.hid (HB_26.out.trans (hb.mono HB_26.out.size))
      have HA_27 := Lib.hid (HA_26.out.below hb (Nat.le_refl _))
      have HD_27 := Lib.hid (HD_26.out.below hb HD_26.out.lt)
      have HE_27 := Lib.hid (HE_26.out.below hb HE_26.out.lt)
      have HV_27 := Lib.hid (KV.below hb (Nat.le_refl _) _ _ HV_26.out)
      have HI6_27 := Lib.hid (HI6_26.out.below hb (Nat.le_refl _))
      have G1_27 := Lib.hid (G1_26.out.kept hb)
      have HIH_27 := Lib.hid (HIH.out.below hb (Nat.le_refl _))
      clear HIH G1_26 HI6_26 HV_26 HE_26 HD_26 HA_26 HB_26 HBA_26
      clear hb
      go_wp2_with fail
      refine (held_nums 1 q3 Ag cg Nh w24 G1_27.out.at (by omega) (by omega) hNq).mono ?_
      rintro e w25 ⟨rfl, rfl⟩
      go_wp2
      go_ret
      exact ⟨rfl, HB_27.out⟩
end Go.Proofs.YtnfigpknejmkmaaGreatDoor
