/-
  My texts Row, Kx, Ky, Kz, Fmath, Gmath in one, so that a claim holds fewer files. Conditions: each contract's own.
-/
import Derived.Test.YtpihibconbejlaaDoorQc
import Derived.Maps.AppendAt
import Derived.Laws.OwnMore
import Derived.OwnWalk
import Derived.Laws.AppendOwnNone
import Derived.Deep.RegionWith
import Derived.Lib.Strings
import Derived.Lib.Join
namespace Go.Proofs.YtpihibconbejlaaDoor
open Go.RowKit
set_option linter.unusedVariables false

/-- How an element lies in memory: its type, its cells. -/
structure RowT (α : Type) where
  t : TypeId
  sz : Nat
  enc : α → List Value
  len : ∀ x, (enc x).length = sz
  one : ∀ x, ∀ u ∈ enc x, u.oneCell' = true
section
variable {α : Type} {R : RowT α} {w w' : World} {A : Option Addr} {L M : List α} {B B' n cap g k : Nat} {v : Value} {x y : α}

def rcells (R : RowT α) (L : List α) : List Value := L.flatMap R.enc
theorem rcells_len (R : RowT α) (L : List α) : (rcells R L).length = L.length * R.sz := by
  induction L with
  | nil => simp [rcells]
  | cons x L ih =>
    unfold rcells at ih ⊢
    rw [List.flatMap_cons, List.length_append, ih, R.len, List.length_cons, Nat.succ_mul]
    omega
theorem rcells_app (R : RowT α) (L M : List α) : rcells R (L ++ M) = rcells R L ++ rcells R M := by unfold rcells; rw [List.flatMap_append]
theorem rcells_one (R : RowT α) (x : α) : rcells R [x] = R.enc x := by simp [rcells]
theorem rcells_get (R : RowT α) : ∀ {L : List α} {i : Nat} {x : α}, L[i]? = some x → ∀ {j : Nat} {u : Value}, (R.enc x)[j]? = some u → (rcells R L)[i * R.sz + j]? = some u
  | [], i, x, h, _, _, _ => by simp at h
  | y :: L, 0, x, h, j, u, hu => by
    simp at h
    subst h
    unfold rcells
    rw [List.flatMap_cons, Nat.zero_mul, Nat.zero_add, List.getElem?_append_left (List.getElem?_eq_some_iff.1 hu).1]
    exact hu
  | y :: L, i + 1, x, h, j, u, hu => by
    have ih := rcells_get R (L := L) (i := i) (x := x) (by simpa using h) hu
    unfold rcells at ih ⊢
    rw [List.flatMap_cons, List.getElem?_append_right (by rw [R.len, Nat.succ_mul]; omega), R.len, show (i + 1) * R.sz + j - R.sz = i * R.sz + j by rw [Nat.succ_mul]; omega]
    exact ih
theorem rcells_cell (R : RowT α) (L : List α) : ∀ u ∈ rcells R L, u.oneCell' = true := by
  intro u hu
  unfold rcells at hu
  obtain ⟨x, _, hx⟩ := List.mem_flatMap.1 hu
  exact R.one x u hx

/-- The elements of a list can be read behind an address. -/
def RAt (R : RowT α) (w : World) (A : Option Addr) (L : List α) : Prop :=
  ∀ i x, L[i]? = some x → ∃ b o, A = some ⟨b, o, none⟩ ∧ b < w.heap.size ∧ ∀ j u, (R.enc x)[j]? = some u → w.cell? ⟨b, o + i * R.sz + j, none⟩ = some u
theorem RAt.kept (h : RAt R w A L) (hz : w.heap.size ≤ w'.heap.size) (hk : ∀ p : Addr, p.block < w.heap.size → w'.cell? p = w.cell? p) : RAt R w' A L := fun i x hx => by
  obtain ⟨b, o, hA, hb, h1⟩ := h i x hx
  exact ⟨b, o, hA, by omega, fun j u hu => (hk _ hb).trans (h1 j u hu)⟩
theorem RAt.below (h : RAt R w A L) (hb : Below B w w') (hB : w.heap.size ≤ B) : RAt R w' A L := h.kept hb.size fun p hp => hb.cell (by omega)
theorem RAt.drewN (h : RAt R w A L) (n : Nat) : RAt R (w.drewN n) A L := h
theorem RAt.drew (h : RAt R w A L) : RAt R w.drew A L := h
theorem RAt.nil (w : World) (A : Option Addr) : RAt R w A [] := fun i x hx => by simp at hx
theorem RAt.pre (h : RAt R w A (L ++ M)) : RAt R w A L := fun i x hx => h i x (by rw [List.getElem?_append_left (List.getElem?_eq_some_iff.1 hx).1]; exact hx)
theorem RAt.take (h : RAt R w A L) (k : Nat) : RAt R w A (L.take k) := RAt.pre (M := L.drop k) (by rw [List.take_append_drop]; exact h)
theorem RAt.drop {b o : Nat} (h : RAt R w (some ⟨b, o, none⟩) L) (k : Nat) : RAt R w (some ⟨b, o + k * R.sz, none⟩) (L.drop k) := fun i x hx => by
  rw [List.getElem?_drop] at hx
  obtain ⟨b', o', hA, hb, h1⟩ := h (k + i) x hx
  cases hA
  refine ⟨_, _, rfl, hb, fun j u hu => ?_⟩
  rw [show o + k * R.sz + i * R.sz + j = o + (k + i) * R.sz + j by rw [Nat.add_mul]; omega]
  exact h1 j u hu
theorem RAt.grown (h : RAt R w A L) (hg : w.grownBy w' (some g)) (hne : ∀ b o, A = some ⟨b, o, none⟩ → b ≠ g) : RAt R w' A L := fun i x hx => by
  obtain ⟨b, o, hA, hb, h1⟩ := h i x hx
  have hb' := hne b o hA
  exact ⟨b, o, hA, Nat.lt_of_lt_of_le hb hg.size, fun j u hu => (World.cell?_of_block (hg.block b hb (by simp; exact hb'))).trans (h1 j u hu)⟩

theorem radd (b o n : Nat) : (⟨b, o, none⟩ : Addr).add n = ⟨b, o + n, none⟩ := by unfold Addr.add; split <;> simp_all
/-- A slice of the call's own. -/
def ROwn (R : RowT α) (w : World) (B : Nat) (v : Value) (L : List α) : Prop := w.ownsRow B R.t R.sz v L.length (rcells R L)
theorem ROwn.form (h : ROwn R w B v L) : ∃ A cap, v = .slice A L.length cap ∧ L.length ≤ cap ∧ cap ≤ maxLen ∧ RAt R w A L ∧ (∀ b o, A = some ⟨b, o, none⟩ → o = 0 ∧ B ≤ b ∧ b < w.heap.size) ∧ (L ≠ [] → ∃ g, A = some ⟨g, 0, none⟩) := by
  have hc : ∀ g, v.ownBlock = some g → ∀ j u, (rcells R L)[j]? = some u → w.cell? ((⟨g, 0, none⟩ : Addr).add j) = some u := fun g hg => World.ownsRow.cells h hg
  have h2 := World.ownsRow.lt h
  rcases h.2 with ⟨rfl, h0⟩ | ⟨g, cap, cur, rfl, hB, hg, hn, hm, hs, ht⟩
  · refine ⟨none, 0, by rw [h0], by omega, by unfold maxLen; omega, ?_, fun b o e => (by cases e), fun hne => absurd (List.eq_nil_of_length_eq_zero h0) hne⟩
    rw [List.eq_nil_of_length_eq_zero h0]
    exact RAt.nil _ _
  · refine ⟨_, cap, rfl, hn, hm, fun i x hx => ⟨g, 0, rfl, (h2 g rfl).2, fun j u hu => ?_⟩, fun b o e => ?_, fun _ => ⟨g, rfl⟩⟩
    · have := hc g rfl _ _ (rcells_get R hx hu)
      rw [radd] at this
      rw [Nat.zero_add] at this ⊢
      exact this
    · cases e
      exact ⟨rfl, hB, (h2 g rfl).2⟩
theorem ROwn.kept (h : ROwn R w B v L) (hb : Below w.heap.size w w') : ROwn R w' B v L := by
  unfold ROwn
  refine World.ownsRow.kept (row := none) h ⟨hb.os, hb.tape, hb.output, hb.size, fun k hk _ => hb.block k hk⟩ ?_
  cases hv : v.ownBlock <;> simp
theorem ROwn.drewN (h : ROwn R w B v L) (n : Nat) : ROwn R (w.drewN n) B v L := h
theorem ROwn.from (h : ROwn R w B v L) (hb : B' ≤ B) : ROwn R w B' v L := by
  refine ⟨h.1, ?_⟩
  rcases h.2 with h2 | ⟨g, cap, cur, hv, hB, rest⟩
  · exact .inl h2
  · exact .inr ⟨g, cap, cur, hv, by omega, rest⟩
theorem ROwn.grown {b : Nat} (h : ROwn R w B v L) (hg : w.grownBy w' (some b)) (hb : b < B) : ROwn R w' B v L :=
  World.ownsRow.kept h hg (by
    rcases h.2 with ⟨rfl, _⟩ | ⟨g, cap, cur, rfl, hB, _⟩
    · exact Or.inl rfl
    · exact Or.inr (by simp [Value.ownBlock]; omega))
theorem ROwn.apart {row : Option Nat} (h : ROwn R w B v L) (hg : w.grownBy w' row) (hne : v.ownBlock = none ∨ v.ownBlock ≠ row) : ROwn R w' B v L := World.ownsRow.kept h hg hne
theorem ROwn.alloc (h : ROwn R w B v L) (o : Obj) : ROwn R (w.alloc o) B v L := World.ownsRow.alloc h o
theorem ROwn.nil (w : World) (B : Nat) : ROwn R w B (.slice none 0 0) [] := World.ownsRow_nil w B _ _
theorem ROwn.lit (w : World) (N : Nat) (hB : B ≤ w.heap.size) (hN : w.heap.size = N) : ROwn R (w.alloc (.cells #[] R.t)) B (.slice (some ⟨N, 0, none⟩) 0 0) [] := by
  subst hN
  exact World.ownsRow_lit w #[] 0 hB (by unfold maxLen; omega) (by simp)
theorem ROwn.row (h : ROwn R w B v L) (hn : L.length = n) : w.ownsRow B R.t R.sz v n (rcells R L) := by subst hn; exact h
theorem ROwn.of (h : w.ownsRow B R.t R.sz v n (rcells R L)) (hn : n = L.length) : ROwn R w B v L := by subst hn; exact h
theorem ROwn.push {x : α} (h : w.ownsRow B R.t R.sz v n (rcells R L ++ R.enc x)) (hn : n = L.length + 1) : ROwn R w B v (L ++ [x]) := by
  unfold ROwn
  rw [rcells_app, rcells_one, List.length_append, List.length_singleton, ← hn]
  exact h
theorem ROwn.cat (h : w.ownsRow B R.t R.sz v n (rcells R L ++ rcells R M)) (hn : n = L.length + M.length) : ROwn R w B v (L ++ M) := by
  unfold ROwn
  rw [rcells_app, List.length_append, ← hn]
  exact h
theorem ROwn.len (h : ROwn R w B (.slice A n cap) L) : n = L.length ∧ n ≤ cap ∧ cap ≤ maxLen := by
  obtain ⟨A, c, he, h1, h2, _⟩ := h.form
  cases he
  exact ⟨rfl, h1, h2⟩
theorem ROwn.at (h : ROwn R w B (.slice A n cap) L) : RAt R w A L := by
  obtain ⟨A, c, he, _, _, hs, _⟩ := h.form
  cases he
  exact hs
theorem ROwn.ne (h : ROwn R w B v L) : v.ownBlock ≠ some w.heap.size := fun e => by
  have := (World.ownsRow.lt h _ e).2
  omega
theorem ROwn.store (h : ROwn R w B v L) {p : Addr} (hne : v.ownBlock ≠ some p.block) (u : Value) : ROwn R (w.setCell p u) B v L :=
  World.ownsRow.kept (row := some p.block) h ⟨rfl, rfl, rfl, by simp [World.setCell], fun k hk hn => Below.heap_setCell w p u k (fun e => hn (by rw [e]))⟩ (.inr hne)
theorem ROwn.cell (h : ROwn R w B (.slice (some ⟨g, 0, none⟩) n cap) L) (hx : L[k]? = some x) {j : Nat} {u : Value} (hu : (R.enc x)[j]? = some u) : w.cell? ⟨g, k * R.sz + j, none⟩ = some u := by
  obtain ⟨b, o, he, _, h1⟩ := h.at k x hx
  cases he
  have := h1 j u hu
  rw [Nat.zero_add] at this
  exact this
theorem ROwn.free (h : ROwn R w B (.slice (some ⟨g, 0, none⟩) n cap) L) (j : Nat) : w.frozen? ⟨g, j, none⟩ = false :=
  World.ownsRow.frozenAt (h.row h.len.1.symm) j
theorem ROwn.nilcap (h : ROwn R w B (.slice A n cap) L) : A = none → cap = 0 := by
  rintro rfl
  rcases h.2 with ⟨he, _⟩ | ⟨g, c, cur, he, _⟩
  · cases he; rfl
  · cases he
theorem ROwn.spot (h : ROwn R w B (.slice A n cap) L) : ∀ q, A = some q → q.spot = none := by
  rintro q rfl
  rcases h.2 with ⟨he, _⟩ | ⟨g, c, cur, he, _⟩
  · cases he
  · cases he; rfl
theorem ROwn.base (h : ROwn R w B v L) : ∀ b, b < B → v.ownBlock ≠ some b := fun b hb e => by
  have := (World.ownsRow.lt h _ e).1
  omega
theorem ROwn.val (h : ROwn R w B v L) : ∃ A n cap, v = .slice A n cap := by
  obtain ⟨A, c, he, _⟩ := h.form
  exact ⟨A, _, c, he⟩
theorem ROwn.whole {b : Nat} {t : TypeId} {cs : Array Value} (h : ROwn R w B v L) (hW : Whole w b t cs) (ht : t ≠ R.t) : v.ownBlock ≠ some b := by
  intro e
  rcases h.2 with ⟨rfl, _⟩ | ⟨g, c, cur, rfl, _, hg, _⟩
  · cases e
  · cases e
    have := hW.symm.trans hg
    cases this
    exact ht rfl
theorem own_apart {β : Type} {S : RowT β} {M : List β} {v2 : Value} {B2 : Nat} (h : ROwn R w B v L) (h2 : ROwn S w B2 v2 M) (ht : R.t ≠ S.t) : v.ownBlock = none ∨ v.ownBlock ≠ v2.ownBlock := by
  rcases h.2 with ⟨rfl, _⟩ | ⟨g, c, cur, rfl, _, hg, _⟩
  · exact .inl rfl
  · refine .inr fun e => ?_
    rcases h2.2 with ⟨rfl, _⟩ | ⟨g2, c2, cur2, rfl, _, hg2, _⟩
    · cases e
    · cases e
      have e3 := Option.some.inj (hg.symm.trans hg2)
      injection e3 with e4 e5
      exact ht e5
theorem rcells_set (R : RowT α) {L : List α} {k : Nat} {x y : α} {j : Nat} {u : Value} (hx : L[k]? = some x) (hj : j < R.sz) (hy : R.enc y = (R.enc x).set j u) : (rcells R L).set (k * R.sz + j) u = rcells R (L.set k y) := by
  have hk := (List.getElem?_eq_some_iff.1 hx).1
  have e : L = L.take k ++ x :: L.drop (k + 1) := by
    conv => lhs; rw [← List.take_append_drop k L, List.drop_eq_getElem_cons hk]
    rw [(List.getElem?_eq_some_iff.1 hx).2]
  have hlt : (L.take k).length = k := by rw [List.length_take]; omega
  have e2 : L.set k y = L.take k ++ y :: L.drop (k + 1) := by
    conv => lhs; rw [e]
    rw [List.set_append_right _ _ (by omega), hlt, Nat.sub_self, List.set_cons_zero]
  rw [e2]
  conv => lhs; rw [e]
  have e3 : ∀ z : α, rcells R (L.take k ++ z :: L.drop (k + 1)) = rcells R (L.take k) ++ (R.enc z ++ rcells R (L.drop (k + 1))) := fun z => by
    rw [rcells_app]
    congr 1
  rw [e3, e3, List.set_append_right _ _ (by rw [rcells_len, hlt]; omega), rcells_len, hlt, Nat.add_sub_cancel_left, List.set_append_left _ _ (by rw [R.len]; exact hj), hy]
theorem ROwn.stored (h : ROwn R w B (.slice (some ⟨g, 0, none⟩) n cap) L) (hx : L[k]? = some x) {j : Nat} {u : Value} (hj : j < R.sz) (hy : R.enc y = (R.enc x).set j u) :
    ROwn R (w.setCell ⟨g, k * R.sz + j, none⟩ u) B (.slice (some ⟨g, 0, none⟩) n cap) (L.set k y) ∧ w.grownBy (w.setCell ⟨g, k * R.sz + j, none⟩ u) (some g) := by
  obtain ⟨h1, g1⟩ := World.ownsRow.stored (h.row h.len.1.symm) (k * R.sz + j) u
  refine ⟨?_, g1⟩
  rw [rcells_set R hx hj hy] at h1
  exact ROwn.of h1 (by rw [List.length_set]; exact h.len.1)
theorem rnew (w : World) (cs : List Value) (t : TypeId) (N : Nat) (hN : w.heap.size = N) : ∀ j u, cs[j]? = some u → (w.alloc (.cells cs.toArray t)).cell? ((⟨N, 0, none⟩ : Addr).add j) = some u := by
  subst hN
  intro j u hj
  rw [radd, Nat.zero_add, (Whole.made w t cs.toArray).cell j, List.getElem?_toArray]
  exact hj
theorem set_next {L : List α} {n k : Nat} {x z : α} (hn : L.length = n) (hx : L[k]? = some x) : (L.take k ++ List.replicate (n - k) z).set k x = L.take (k + 1) ++ List.replicate (n - (k + 1)) z := by
  have hk := (List.getElem?_eq_some_iff.1 hx).1
  have hl : (L.take k).length = k := by rw [List.length_take]; omega
  rw [List.set_append_right _ _ (by omega), hl, Nat.sub_self, show n - k = (n - (k + 1)) + 1 by omega, List.replicate_succ, List.set_cons_zero, List.take_add_one, hx, List.append_assoc]
  rfl
theorem set_front {P L : List α} {i : Nat} (x : α) (hp : P.length = i) (hi : i < L.length) : (P ++ L.drop i).set i x = P ++ [x] ++ L.drop (i + 1) := by
  rw [List.set_append_right _ _ (by omega), hp, Nat.sub_self, List.drop_eq_getElem_cons hi, List.set_cons_zero, List.append_assoc]
  rfl
theorem front_some {P L : List α} {i : Nat} (hp : P.length = i) (hi : i < L.length) : (P ++ L.drop i)[i]? = some L[i] := by
  rw [List.getElem?_append_right (by omega), hp, Nat.sub_self, List.getElem?_drop, Nat.add_zero, List.getElem?_eq_getElem hi]
theorem made_rows (R : RowT α) (z : Value) (d : α) (hz : z.cells.toList = R.enc d) (h0 : 0 < R.sz) (n : Nat) : (madeCells z.cells (n * R.sz)).toList = rcells R (List.replicate n d) := by
  have hzs : z.cells.size = R.sz := by rw [← R.len d, ← hz, Array.length_toList]
  apply List.ext_getElem?
  intro j
  have hl : (rcells R (List.replicate n d)).length = n * R.sz := by rw [rcells_len, List.length_replicate]
  by_cases hj : j < n * R.sz
  · have hm : j % R.sz < R.sz := Nat.mod_lt _ h0
    obtain ⟨u, hu⟩ : ∃ u, (R.enc d)[j % R.sz]? = some u := ⟨_, List.getElem?_eq_getElem (by rw [R.len]; exact hm)⟩
    have hr : (List.replicate n d)[j / R.sz]? = some d := by rw [List.getElem?_replicate, if_pos (Nat.div_lt_of_lt_mul (by rw [Nat.mul_comm]; exact hj))]
    have h2 := rcells_get R hr hu
    rw [show j / R.sz * R.sz + j % R.sz = j by rw [Nat.mul_comm]; exact Nat.div_add_mod _ _] at h2
    rw [h2]
    have h3 : z.cells[j % R.sz]? = some u := by rw [← Array.getElem?_toList, hz]; exact hu
    obtain ⟨hb, hv⟩ := Array.getElem?_eq_some_iff.1 h3
    rw [Array.getElem?_toList]
    unfold madeCells
    rw [Array.getElem?_map, Array.getElem?_range, if_pos hj, hzs]
    show some (z.cells[j % R.sz]!) = some u
    rw [getElem!_pos z.cells _ hb, hv]
  · rw [List.getElem?_eq_none (l := rcells R _) (by rw [hl]; omega), List.getElem?_eq_none (by rw [Array.length_toList, size_madeCells]; omega)]
/-- One append for all: onto a slice of the call's own, of what can be read behind an address, or of nil. -/
theorem wp_append_rows {P : Program} {o : Oper} {a : Act} {K : Act → World → Prop} {Q : Exit → Act → World → Prop} (s x : Operand) (t : TypeId)
    (ho : o.op = .call { callee := .builtin .append, args := #[s, x], argTypes := #[t, t] })
    (R : RowT α) (base : Nat) (i : TypeInfo) (z : Value) (bytes : Nat) (ht : P.underlying t = some (.slice R.t)) (hi : P.info? R.t = some i) (hz : i.zero = some z)
    (hsize : i.size = R.sz) (hby : i.bytes = bytes) (hzs : z.cells.size = R.sz) (hsz : 0 < R.sz)
    (v : Value) (L M : List α) (n : Nat) (hn : L.length = n) (hs : a.eval s = v) (hown : ROwn R w base v L)
    (A : Option Addr) (m c : Nat) (hx : a.eval x = .slice A m c) (hm : M.length = m) (hat : RAt R w A M) (hA : A = none → c = 0) (hsp : ∀ q, A = some q → q.spot = none)
    (h63 : n + m ≤ maxLen) (hbytes : (n + m) * bytes ≤ 140737488355328) (hbase : base ≤ w.heap.size)
    (h : ∀ v' w', ROwn R w' base v' (L ++ M) → w.grownBy w' v.ownBlock → (v.ownBlock ≠ none → v'.ownBlock ≠ none) → K (a.put o.dst v') w') : o.wp P a w K Q := by
  cases A with
  | none =>
    have hm0 : M = [] := by
      cases M with
      | nil => rfl
      | cons y M =>
        obtain ⟨b, o, hA2, _⟩ := hat 0 y rfl
        cases hA2
    subst hm0
    obtain rfl : m = 0 := hm.symm
    obtain rfl : c = 0 := hA rfl
    have hrun := run_append_owned_none (P := P) (w := w) base t o.type R.t i R.sz ht hi v n (rcells R L) (hown.row hn)
    unfold Oper.wp
    simp [execOp, ho, resolve, invoke, builtin, hs, hx, hrun, Result.andThen]
    exact h v w (by rw [List.append_nil]; exact hown) (World.grownBy.refl w _) id
  | some q =>
    obtain ⟨b, o', sp⟩ := q
    obtain rfl : sp = none := hsp _ rfl
    refine wp_append_own w s x t ho base R.t i z R.sz bytes ht hi hz hsize hby hzs hsz v n (rcells R L) hs (hown.row hn) ⟨b, o', none⟩ m c (rcells R M) hx (by rw [rcells_len, hm]) ?_ (rcells_cell R M) h63 hbytes hbase ?_
    · intro j u hu
      have hj := (List.getElem?_eq_some_iff.1 hu).1
      rw [rcells_len] at hj
      obtain ⟨y, hy⟩ : ∃ y, M[j / R.sz]? = some y := ⟨_, List.getElem?_eq_getElem (Nat.div_lt_of_lt_mul (by rw [Nat.mul_comm]; exact hj))⟩
      obtain ⟨b', o2, he, _, h1⟩ := hat _ _ hy
      cases he
      obtain ⟨u2, hu2⟩ : ∃ u2, (R.enc y)[j % R.sz]? = some u2 := ⟨_, List.getElem?_eq_getElem (by rw [R.len]; exact Nat.mod_lt _ hsz)⟩
      have e1 := rcells_get R hy hu2
      have hdm : j / R.sz * R.sz + j % R.sz = j := by rw [Nat.mul_comm]; exact Nat.div_add_mod _ _
      rw [hdm, hu] at e1
      cases e1
      have := h1 _ _ hu2
      rw [Nat.add_assoc, hdm] at this
      rw [radd]
      exact this
    · intro v' w' hown' hg hnil
      refine h v' w' (ROwn.cat hown' (by omega)) hg fun hne hv' => ?_
      rcases hown'.2 with ⟨he, _⟩ | ⟨g, cap, cur, he, _⟩
      · exact hne (by rw [(hnil.1 he).1]; rfl)
      · rw [he] at hv'
        cases hv'
theorem wpList_append_rows {P : Program} {ops : Array Oper} {rest : List Oper} {o : Oper} {a : Act} {Q : Exit → Act → World → Prop} (hgd : o.guard = none) (s x : Operand) (t : TypeId)
    (ho : o.op = .call { callee := .builtin .append, args := #[s, x], argTypes := #[t, t] })
    (R : RowT α) (base : Nat) (i : TypeInfo) (z : Value) (bytes : Nat) (ht : P.underlying t = some (.slice R.t)) (hi : P.info? R.t = some i) (hz : i.zero = some z)
    (hsize : i.size = R.sz) (hby : i.bytes = bytes) (hzs : z.cells.size = R.sz) (hsz : 0 < R.sz)
    (v : Value) (L M : List α) (n : Nat) (hn : L.length = n) (hs : a.eval s = v) (hown : ROwn R w base v L)
    (A : Option Addr) (m c : Nat) (hx : a.eval x = .slice A m c) (hm : M.length = m) (hat : RAt R w A M) (hA : A = none → c = 0) (hsp : ∀ q, A = some q → q.spot = none)
    (h63 : n + m ≤ maxLen) (hbytes : (n + m) * bytes ≤ 140737488355328) (hbase : base ≤ w.heap.size)
    (h : ∀ v' w', ROwn R w' base v' (L ++ M) → w.grownBy w' v.ownBlock → (v.ownBlock ≠ none → v'.ownBlock ≠ none) → wpList P ops Q rest (a.put o.dst v') w') : wpList P ops Q (o :: rest) a w :=
  wpList_plain hgd fun _ hK => wp_append_rows s x t ho R base i z bytes ht hi hz hsize hby hzs hsz v L M n hn hs hown A m c hx hm hat hA hsp h63 hbytes hbase fun v' w' h2 h3 h4 => hK _ _ (h v' w' h2 h3 h4)
/-- The same inside a region that draws its order. -/
theorem step_append_rows {P : Program} {ops : Array Oper} {o : Oper} {a : Act} {K : Act → World → Prop} {Q : Exit → Act → World → Prop} {E : Prop} (hg : o.guard = none) (s x : Operand) (t : TypeId)
    (ho : o.op = .call { callee := .builtin .append, args := #[s, x], argTypes := #[t, t] })
    (R : RowT α) (base : Nat) (i : TypeInfo) (z : Value) (bytes : Nat) (ht : P.underlying t = some (.slice R.t)) (hi : P.info? R.t = some i) (hz : i.zero = some z)
    (hsize : i.size = R.sz) (hby : i.bytes = bytes) (hzs : z.cells.size = R.sz) (hsz : 0 < R.sz)
    (v : Value) (L M : List α) (n : Nat) (hn : L.length = n) (hs : a.eval s = v) (hown : ROwn R w base v L)
    (A : Option Addr) (m c : Nat) (hx : a.eval x = .slice A m c) (hm : M.length = m) (hat : RAt R w A M) (hA : A = none → c = 0) (hsp : ∀ q, A = some q → q.spot = none)
    (h63 : n + m ≤ maxLen) (hbytes : (n + m) * bytes ≤ 140737488355328) (hbase : base ≤ w.heap.size)
    (h : ∀ v' w', ROwn R w' base v' (L ++ M) → w.grownBy w' v.ownBlock → (v.ownBlock ≠ none → v'.ownBlock ≠ none) → K (a.put o.dst v') w') :
    if Region.wanted o (yielded ops a.tmps) = true then Oper.wp P o a w K Q else E := by
  have hw : Region.wanted o (yielded ops a.tmps) = true := by simp [Region.wanted, hg]
  rw [if_pos hw]
  exact wp_append_rows s x t ho R base i z bytes ht hi hz hsize hby hzs hsz v L M n hn hs hown A m c hx hm hat hA hsp h63 hbytes hbase h
theorem RAt.made (R : RowT α) (w : World) (L : List α) (N : Nat) (hN : w.heap.size = N) : RAt R (w.alloc (.cells (rcells R L).toArray R.t)) (some ⟨N, 0, none⟩) L := fun i x hx => by
  subst hN
  refine ⟨_, 0, rfl, by simp, fun j u hu => ?_⟩
  rw [Nat.zero_add, (Whole.made w R.t (rcells R L).toArray).cell, List.getElem?_toArray]
  exact rcells_get R hx hu
end
end Go.Proofs.YtpihibconbejlaaDoor
namespace Go.Proofs.YtpihibconbejlaaDoor
open Go.RowKit
set_option linter.unusedVariables false

abbrev QT := TypeId × Array Value
abbrev qv (x : QT) : Value := .iface x.1 (.agg x.2)
def qR : RowT QT where
  t := 65
  sz := 1
  enc := fun x => [.iface x.1 (.agg x.2)]
  len := fun _ => rfl
  one := fun x u hu => by
    simp at hu
    subst hu
    rfl
theorem Tryd.infoQuery : (Tryd.prog.info? 65).map (fun i => (i.zero, i.size, i.bytes)) = some (some .nilIface, 1, 16) := by kernel_rfl
theorem QV.one {w : World} : ∀ {k : KT} {q : Value}, QV w k q → ∃ t a, q = .iface t (.agg a)
  | .mk kd f t S ks, q, h => by
    rw [QV] at h
    rcases h with h | h | h | ⟨_, AS, cS, h1, h2⟩ | ⟨_, AS, cS, h1, h2⟩ | ⟨_, q1, h1, h2⟩ | ⟨_, q1, q2, h1, h2⟩ | ⟨_, q1, q2, h1, h2⟩
    · exact ⟨_, _, h.2⟩
    · exact ⟨_, _, h.2⟩
    · exact ⟨_, _, h.2⟩
    all_goals exact ⟨_, _, h1⟩

/-- How a call of query ends. -/
def QEnd (w0 w : World) (g m : Nat) (k : KT) (e : Ending) (w' : World) : Prop :=
  ∃ (q : Value) (o : Bool) (m' : Nat), e = .returned (.tuple #[q, .bool o]) ∧ (allT k && decide (nodesT k ≤ m)) = o ∧ m' ≤ m ∧ Whole w' g 72 #[.int .i64 (m' : Int)] ∧ w.grownBy w' (some g) ∧ (o = true → m' + nodesT k = m ∧ QV w0 k q)
theorem qend_no {w0 w w' : World} {g m m1 : Nat} {k : KT} (h : (allT k && decide (nodesT k ≤ m)) = false) (hm : m1 ≤ m) (hW : Whole w' g 72 #[.int .i64 (m1 : Int)]) (hG : w.grownBy w' (some g)) : QEnd w0 w g m k (.returned (.tuple #[.nilIface, .bool false])) w' :=
  ⟨_, false, m1, rfl, h, hm, hW, hG, fun h => by cases h⟩
theorem qend {w0 w w' : World} {g m m1 : Nat} {kd f : Int} {t : ByteArray} {S : List (Int × Int)} {ks : List KT} {q : Value} {o : Bool} {nS nK : Nat} (hq : QV w0 (.mk kd f t S ks) q) (ho : leafB kd f t S = o) (hS : S.length = nS) (hK : ks.length = nK) (hs : shapeB kd f t nS nK = true) (ha : allL ks = true) (hm : m1 + nodesL ks + 1 = m)
    (hW : Whole w' g 72 #[.int .i64 (m1 : Int)]) (hG : w.grownBy w' (some g)) : QEnd w0 w g m (.mk kd f t S ks) (.returned (.tuple #[q, .bool o])) w' := by
  refine ⟨q, o, m1, rfl, ?_, by omega, hW, hG, fun _ => ⟨by rw [nodesT]; omega, hq⟩⟩
  rw [allT, ha, node_shape, hS, hK, hs, ho, nodesT, decide_eq_true (by omega)]
  simp
theorem no_zero (k : KT) : (allT k && decide (nodesT k ≤ 0)) = false := by
  have := nodesT_pos k
  rw [decide_eq_false (by omega), Bool.and_false]
theorem no_shape {kd f : Int} {t : ByteArray} {S : List (Int × Int)} {ks : List KT} {nS nK m : Nat} (hS : S.length = nS) (hK : ks.length = nK) (hs : shapeB kd f t nS nK = false) : (allT (.mk kd f t S ks) && decide (nodesT (.mk kd f t S ks) ≤ m)) = false := by
  rw [allT, node_shape, hS, hK, hs]
  simp
theorem no_part {kd f : Int} {t : ByteArray} {S : List (Int × Int)} {ks : List KT} {m m1 i : Nat} {k : KT} (hk : ks[i]? = some k) (hm : m1 + nodesL (ks.take i) + 1 = m) (h : (allT k && decide (nodesT k ≤ m1)) = false) : (allT (.mk kd f t S ks) && decide (nodesT (.mk kd f t S ks) ≤ m)) = false := by
  rw [Bool.and_eq_false_iff] at h ⊢
  rcases h with h | h
  · left
    rw [allT, allL_no hk h, Bool.false_and]
  · right
    have := of_decide_eq_false h
    have := nodesL_lt hk
    rw [nodesT]
    exact decide_eq_false (by omega)
theorem shape_yes {kd f : Int} {t : ByteArray} {nS nK : Nat} (h : shapeB kd f t nS nK = true) : ((kd = 0 ∨ kd = 1 ∨ kd = 2 ∨ kd = 3 ∨ kd = 4) ∧ nK = 0) ∨ (kd = 5 ∧ nK = 1) ∨ ((kd = 6 ∨ kd = 7) ∧ nK = 2) := by
  unfold shapeB at h
  by_cases k0 : kd = 0
  · subst k0; simp at h; omega
  by_cases k1 : kd = 1
  · subst k1; simp at h; omega
  by_cases k2 : kd = 2
  · subst k2; simp at h; omega
  by_cases k34 : kd = 3 ∨ kd = 4
  · rw [if_neg k0, if_neg k1, if_neg k2, if_pos k34] at h; simp at h; omega
  by_cases k5 : kd = 5
  · subst k5; simp at h; omega
  by_cases k67 : kd = 6 ∨ kd = 7
  · rw [if_neg k0, if_neg k1, if_neg k2, if_neg k34, if_neg k5, if_pos k67] at h; simp at h; omega
  · rw [if_neg k0, if_neg k1, if_neg k2, if_neg k34, if_neg k5, if_neg k67] at h; cases h
theorem wB_empty {f : Int} {b : Bool} (h : flag1 f = b) : (wB (fwL f)).toList.isEmpty = !b := by
  rw [ByteArray.toList_eq, ← h]
  exact fw_flag f
theorem spend_yes {g m p : Nat} (h1 : p + 1 = m) (w : World) (h : Whole w g 72 #[.int .i64 (m : Int)]) (hm : m ≤ 9) :
    Calls Tryd.prog 75 #[.pointer (some ⟨g, 0, none⟩)] w fun e w' => e = .returned (.bool true) ∧ Whole w' g 72 #[.int .i64 (p : Int)] ∧ w.grownBy w' (some g) := by
  subst h1
  refine (impl_spend g (p + 1) w h hm).mono ?_
  rintro e w' ⟨rfl, h2, h3⟩
  exact ⟨by rw [decide_eq_true (by omega)], by simpa using h2, h3⟩
theorem spend_no (g : Nat) (w : World) (h : Whole w g 72 #[.int .i64 (0 : Int)]) :
    Calls Tryd.prog 75 #[.pointer (some ⟨g, 0, none⟩)] w fun e w' => e = .returned (.bool false) ∧ Whole w' g 72 #[.int .i64 (0 : Int)] ∧ w.grownBy w' (some g) := impl_spend g 0 w h (by omega)
/-- Calls in a later world. -/
theorem flagword_later {G : Nat} {wo : World} {f : Int} {z : ByteArray} (hz : wB (fwL f) = z) (hL : Lst wo) (hG : wo.heap.size ≤ G) (x : Later G wo) : Calls Tryd.prog 96 #[.int .i64 f] x.v fun e w' => e = .returned (.string z) ∧ Below x.v.heap.size x.v w' := by
  subst hz
  exact impl_flagword f x.v (hL.below x.h hG)
theorem name_later {G : Nat} {wo : World} {t : ByteArray} {z : Bool} (hz : nameB t.data.toList = z) (ht : t.size ≤ 16777216) (x : Later G wo) : Calls Tryd.prog 97 #[.string t] x.v fun e w' => e = .returned (.bool z) ∧ Below x.v.heap.size x.v w' := by
  subst hz
  exact impl_name t x.v ht
theorem set_later {G : Nat} {wo : World} {A : Option Addr} {n c : Nat} {S : List (Int × Int)} {z : Bool} (hn : S.length = n) (hz : setB S = z) (hl : n ≤ 33554432) (h : SpA wo A S) (hG : wo.heap.size ≤ G) (x : Later G wo) : Calls Tryd.prog 59 #[.slice A n c] x.v fun e w' => e = .returned (.bool z) ∧ Below x.v.heap.size x.v w' := by
  subst hz hn
  exact impl_setvalid A c S x.v (h.below x.h hG) hl
end Go.Proofs.YtpihibconbejlaaDoor
namespace Go.Proofs.YtpihibconbejlaaDoor
open Go.RowKit
set_option linter.unusedVariables false

theorem kv_five {w : World} {v0 v1 v2 v3 v4 : Value} : ∀ {k : KT}, KV w k (.agg #[v0, v1, v2, v3, v4]) → ∃ (a b : Int) (t : ByteArray) (A : Option Addr) (n c : Nat) (A' : Option Addr) (n' c' : Nat), v0 = .int .i64 a ∧ v1 = .int .i64 b ∧ v2 = .string t ∧ v3 = .slice A n c ∧ v4 = .slice A' n' c'
  | .mk kd f t S ks, h => by
    obtain ⟨AS, nS, cS, AK, nK, cK, he, -⟩ := h.open
    simp at he
    obtain ⟨rfl, rfl, rfl, rfl, rfl⟩ := he
    exact ⟨_, _, _, _, _, _, _, _, _, rfl, rfl, rfl, rfl, rfl⟩
theorem gr_rowq {a w w' : World} {b : Nat} {row : Option Nat} (h : a.grownBy w (some b)) (hg : w.grownBy w' row) (hr : ∀ g, row = some g → a.heap.size ≤ g) : a.grownBy w' (some b) :=
  ⟨hg.os.trans h.os, hg.tape.trans h.tape, hg.output.trans h.output, Nat.le_trans h.size hg.size, fun i hi hn => (hg.block i (Nat.lt_of_lt_of_le hi h.size) (fun e => by have := hr i e.symm; omega)).trans (h.block i hi hn)⟩
theorem len_two {α : Type} : ∀ {l : List α}, l.length = 2 → ∃ x y, l = [x, y]
  | [x, y], _ => ⟨x, y, rfl⟩
set_option maxRecDepth 20000 in
set_option maxHeartbeats 16000000 in
theorem impl_query_n (w0 : World) (g : Nat) (hSh : Shp w0) (hLs : Lst w0) (hg : w0.heap.size ≤ g) : ∀ (n : Nat) (k : KT) (v : Value) (w : World) (m : Nat), nodesT k ≤ n → KV w0 k v → Below w0.heap.size w0 w → Whole w g 72 #[.int .i64 (m : Int)] → m ≤ 9 →
    Calls Tryd.prog 70 #[.pointer (some ⟨g, 0, none⟩), v] w (QEnd w0 w g m k)
  | 0, k, v, w, m, hn, _, _, _, _ => by have := nodesT_pos k; omega
  | n + 1, .mk kd f t S ks, v, w, m, hn, h, hb, hW, hm => by
    have ih := fun (k' : KT) (v' : Value) (w1 : World) (m' : Nat) (h1 : nodesT k' ≤ n) (h2 : KV w0 k' v') (h3 : Below w0.heap.size w0 w1) (h4 : Whole w1 g 72 #[.int .i64 (m' : Int)]) (h5 : m' ≤ 9) => impl_query_n w0 g hSh hLs hg n k' v' w1 m' h1 h2 h3 h4 h5
    have HIH := Lib.hid ih
    obtain ⟨AS, nS, cS, AK, nK, cK, rfl, h2, h3, h4, h5, h6, h7⟩ := h.open
    have HSS := Lib.hid h2
    have HS3 := Lib.hid h3
    have HT4 := Lib.hid h4
    have HSP := Lib.hid h5
    have HKK := Lib.hid h6
    have HKS := Lib.hid h7
    have HSH := Lib.hid hSh
    have HLS := Lib.hid hLs
    have HGG := Lib.hid hg
    have HB := Lib.hid hb
    have hgB := hW.lt
    have hnn : nodesL ks + 1 ≤ n + 1 := by rw [nodesT] at hn; exact hn
    have HNN := Lib.hid hnn
    obtain ⟨B, hB⟩ : ∃ B, w.heap.size = B := ⟨_, rfl⟩
    have HBB := Lib.hid hB
    have hgB2 : g < B := by omega
    obtain ⟨i0, hi, hq0, hq1, hq2⟩ := info_parts Tryd.infoQuery
    obtain ⟨wa, hwa⟩ : ∃ wa, w.alloc (.cells #[.int .i64 kd, .int .i64 f, .string t, .slice AS nS cS, .slice AK nK cK] 26) = wa := ⟨_, rfl⟩
    have HWA := Lib.hid hwa
    have HKa : Hid (Whole wa B 26 #[.int .i64 kd, .int .i64 f, .string t, .slice AS nS cS, .slice AK nK cK]) := Lib.hid (by rw [← hwa, ← hB]; exact Whole.made w _ _)
    have HGa : Hid (w.grownBy wa (some g)) := Lib.hid (by rw [← hwa]; exact gr_alloc (gr_refl _ _) _)
    have HBa : Hid (Whole wa g 72 #[.int .i64 (m : Int)]) := Lib.hid (by rw [← hwa]; exact hW.alloc _)
    have hneB : some B ≠ some g := fun e => by cases e; omega
    clear ih h h2 h3 h4 h5 h6 h7 hSh hLs hg hb hn hnn hW hgB hwa hB
    rcases Nat.eq_zero_or_pos m with hz | hp
    · subst hz
      have HN0 := Lib.hid (no_zero (.mk kd f t S ks))
      go_enter Tryd.func70, Tryd.ntmps70
      go_wp2_with fail
      rw [HWA.out, HBB.out]
      refine (spend_no g wa HBa.out).mono ?_
      rintro e wb ⟨rfl, hWb, hGb⟩
      have HWb := Lib.hid hWb
      have HGb := Lib.hid (gr_trans HGa.out hGb)
      clear hWb hGb
      go_wp2
      go_ret2
      exact qend_no HN0.out (Nat.le_refl _) HWb.out HGb.out
    · obtain ⟨p, hpm⟩ : ∃ p, p + 1 = m := ⟨m - 1, by omega⟩
      have hp9 : p ≤ 9 := by omega
      have hpm' : p ≤ m := by omega
      have HPM := Lib.hid hpm
      have HS := Lib.hid (spend_yes hpm wa HBa.out hm)
      clear hpm hp
      obtain ⟨o, ho⟩ : ∃ o, shapeB kd f t nS nK = o := ⟨_, rfl⟩
      have HO := Lib.hid ho
      clear ho
      go_enter Tryd.func70, Tryd.ntmps70
      go_wp2_with fail
      rw [HWA.out, HBB.out]
      refine HS.out.mono ?_
      rintro e wb ⟨rfl, hWb, hGb⟩
      have HWb := Lib.hid hWb
      have HKb := Lib.hid (HKa.out.grown hGb hneB)
      have HGb := Lib.hid (gr_trans HGa.out hGb)
      clear hWb hGb
      have z0 := HKb.out.cell 0
      have z1 := HKb.out.cell 1
      have z2 := HKb.out.cell 2
      have z3 := HKb.out.cell 3
      have z4 := HKb.out.cell 4
      simp at z0 z1 z2 z3 z4
      have HBb := Lib.hid (below_gr HB.out HGb.out HB.out.size HGG.out)
      have HC := Lib.hid (impl_shape HO.out AS cS AK cK wb (HSH.out.below HBb.out (Nat.le_refl _)))
      cases o with
      | false =>
        go_wp2_with fail
        refine HC.out.mono ?_
        rintro e wc ⟨rfl, hbc⟩
        have HNO := Lib.hid (no_shape (m := m) HSS.out HKK.out HO.out)
        have HWc := Lib.hid (HWb.out.below hbc HWb.out.lt)
        have HGc := Lib.hid (gr_trans HGb.out (gr_below hbc (some g)))
        clear hbc
        go_wp2
        go_ret2
        exact qend_no HNO.out hpm' HWc.out HGc.out
      | true =>
        go_wp2_with fail
        refine HC.out.mono ?_
        rintro e wc ⟨rfl, hbc⟩
        have HWc := Lib.hid (HWb.out.below hbc HWb.out.lt)
        have HGc := Lib.hid (gr_trans HGb.out (gr_below hbc (some g)))
        have HKc := Lib.hid (HKb.out.below hbc HKb.out.lt)
        clear hbc z0 z1 z2 z3 z4
        have z4 := HKc.out.cell 4
        simp at z4
        have hBc : B + 1 ≤ wc.heap.size := HKc.out.lt
        have hn2 : nK ≤ 2 := by have := shape_yes HO.out; omega
        have HM0 : Hid (p + nodesL (ks.take 0) + 1 = m) := Lib.hid (by rw [List.take_zero, nodesL]; exact HPM.out)
        have HA0 : Hid (allL (ks.take 0) = true) := Lib.hid (by rw [List.take_zero, allL])
        go_wp2
        clear z4
        go_loopw [6, 22] (fun pv iv wr => ∃ (i : Nat) (A : Option Addr) (cap m1 : Nat) (qs : List QT), i ≤ nK ∧ pv = .slice A i cap ∧ iv = .int .i64 (i : Int) ∧ m1 ≤ 9 ∧ B + 1 ≤ wr.heap.size ∧ Hid (allL (ks.take i) = true) ∧ Hid (m1 + nodesL (ks.take i) + 1 = m) ∧ Hid (w.grownBy wr (some g)) ∧ Hid (Whole wr g 72 #[.int .i64 (m1 : Int)]) ∧ Hid (Whole wr B 26 #[.int .i64 kd, .int .i64 f, .string t, .slice AS nS cS, .slice AK nK cK]) ∧ Hid (ROwn qR wr (B + 1) (.slice A i cap) qs) ∧ Hid (QVs w0 (ks.take i) (qs.map qv))) (fun _ iv _ => nK - (intOf iv).toNat)
        case atStart => exact ⟨0, none, 0, p, [], Nat.zero_le _, by go_num, by go_num, hp9, hBc, HA0, HM0, HGc, HWc, HKc, ROwn.nil _ _, by rw [List.take_zero, List.map_nil, QVs]; rfl⟩
        case round =>
          obtain ⟨i, A, cap, m1, qs, hi2, rfl, rfl, hm1, hBr, HAr, HMr, HGr, HWr, HKr, HOr, HQr⟩ := hrel
          have HBr := Lib.hid (below_gr HB.out HGr.out HB.out.size HGG.out)
          by_cases hlt : i < nK
          · skip
            have h0 : (0 : Int) ≤ (i : Int) := by omega
            have h5 : (i : Int) < (nK : Int) := by omega
            obtain ⟨k, hk⟩ : ∃ k, ks[i]? = some k := ⟨_, List.getElem?_eq_getElem (by rw [HKK.out]; exact hlt)⟩
            obtain ⟨b, ob, v0, v1, v2, v3, v4, rfl, hbz, c0, c1, c2, c3, c4, hkv⟩ := HKS.out.get hk
            rw [Nat.zero_add] at c0 c1 c2 c3 c4
            replace c0 := (HBr.out.cell (p := ⟨b, ob + i * 5, none⟩) hbz).trans c0
            replace c1 := (HBr.out.cell (p := ⟨b, ob + i * 5 + 1, none⟩) hbz).trans c1
            replace c2 := (HBr.out.cell (p := ⟨b, ob + i * 5 + 2, none⟩) hbz).trans c2
            replace c3 := (HBr.out.cell (p := ⟨b, ob + i * 5 + 3, none⟩) hbz).trans c3
            replace c4 := (HBr.out.cell (p := ⟨b, ob + i * 5 + 4, none⟩) hbz).trans c4
            obtain ⟨a0, a1, a2, a3, a4, a5, a6, a7, a8, rfl, rfl, rfl, rfl, rfl⟩ := kv_five hkv
            have HKY := Lib.hid hk
            have hnk : nodesT k ≤ n := by have := nodesL_lt hk; have := HNN.out; omega
            have hmm1 : m1 ≤ m := by have := HMr.out; omega
            obtain ⟨wo, hwo⟩ : ∃ wo, wr.alloc (.cells #[.int .i64 a0, .int .i64 a1, .string a2, .slice a3 a4 a5, .slice a6 a7 a8] 26) = wo := ⟨_, rfl⟩
            obtain ⟨R, hR⟩ : ∃ R, wr.heap.size = R := ⟨_, rfl⟩
            have HRR := Lib.hid hR
            have HWO := Lib.hid hwo
            have HXo : Hid (Whole wo R 26 #[.int .i64 a0, .int .i64 a1, .string a2, .slice a3 a4 a5, .slice a6 a7 a8]) := Lib.hid (by rw [← hwo, ← hR]; exact Whole.made wr _ _)
            have HGo : Hid (w.grownBy wo (some g)) := Lib.hid (by rw [← hwo]; exact gr_alloc HGr.out _)
            have HWo : Hid (Whole wo g 72 #[.int .i64 (m1 : Int)]) := Lib.hid (by rw [← hwo]; exact HWr.out.alloc _)
            have HKo : Hid (Whole wo B 26 #[.int .i64 kd, .int .i64 f, .string t, .slice AS nS cS, .slice (some ⟨b, ob, none⟩) nK cK]) := Lib.hid (by rw [← hwo]; exact HKr.out.alloc _)
            have HOo : Hid (ROwn qR wo (B + 1) (.slice A i cap) qs) := Lib.hid (by rw [← hwo]; exact HOr.out.alloc _)
            have HBo := Lib.hid (below_gr HB.out HGo.out HB.out.size HGG.out)
            have HCC := Lib.hid (HIH.out k (.agg #[.int .i64 a0, .int .i64 a1, .string a2, .slice a3 a4 a5, .slice a6 a7 a8]) wo m1 hnk hkv HBo.out HWo.out hm1)
            have g0 := HXo.out.cell 0
            have g1 := HXo.out.cell 1
            have g2 := HXo.out.cell 2
            have g3 := HXo.out.cell 3
            have g4 := HXo.out.cell 4
            simp at g0 g1 g2 g3 g4
            clear hk hkv hwo hnk
            go_wp2_with fail
            rw [HWO.out]
            refine HCC.out.mono ?_
            rintro e w2 ⟨q, o2, m2, rfl, hO2, hm2, hW2, hG2, hY2⟩
            have HO2 := Lib.hid hO2
            have HY2 := Lib.hid hY2
            have HW2 := Lib.hid hW2
            have HK2 := Lib.hid (HKo.out.grown hG2 hneB)
            have HOw2 := Lib.hid (HOo.out.grown hG2 (by omega))
            have HG2 := Lib.hid (gr_trans HGo.out hG2)
            have hB2 : B + 1 ≤ w2.heap.size := HK2.out.lt
            clear hO2 hY2 hW2 hG2 c0 c1 c2 c3 c4 g0 g1 g2 g3 g4 hR
            cases o2 with
            | false =>
              have HNP := Lib.hid (no_part (kd := kd) (f := f) (t := t) (S := S) HKY.out HMr.out HO2.out)
              go_wp2
              go_ret2
              exact qend_no HNP.out (by omega) HW2.out HG2.out
            | true =>
              obtain ⟨hy1, hy2⟩ := HY2.out rfl
              have hta : allT k = true := by have := HO2.out; rw [Bool.and_eq_true] at this; exact this.1
              have HA3 : Hid (allL (ks.take (i + 1)) = true) := Lib.hid (by rw [allL_take HKY.out, HAr.out, hta]; rfl)
              have HM3 : Hid (m2 + nodesL (ks.take (i + 1)) + 1 = m) := Lib.hid (by rw [nodesL_take HKY.out]; have := HMr.out; omega)
              obtain ⟨tq, aq, rfl⟩ := hy2.one
              have HQ3 : Hid (QVs w0 (ks.take (i + 1)) ((qs ++ [(tq, aq)]).map qv)) := Lib.hid (by rw [List.take_add_one, HKY.out, List.map_append]; exact HQr.out.push hy2)
              have hml : i + 1 ≤ maxLen := by unfold maxLen; omega
              have hby : (i + 1) * 16 ≤ 140737488355328 := by omega
              have hown6 := HOw2.out.alloc (.cells #[.iface tq (.agg aq)] 65)
              have hnew6 := RAt.made qR w2 [(tq, aq)] w2.heap.size rfl
              have HLK : Hid (qs.length = i) := Lib.hid HOw2.out.len.1.symm
              have hsz6 : B + 1 ≤ (w2.alloc (.cells #[.iface tq (.agg aq)] 65)).heap.size := by simp; omega
              have HSZ6 := Lib.hid hsz6
              clear hy1 hy2 hta hsz6
              go_wp2_with (at_builtin; refine wpList_append_rows rfl (.tmp 34) (.tmp 36) 139 rfl qR (B + 1) i0 _ 16 Tryd.underlying139 hi hq0 hq1 hq2 rfl (by decide) _ qs [(tq, aq)] i HLK.out rfl hown6 (some ⟨w2.heap.size, 0, none⟩) 1 1 rfl rfl hnew6 (fun e => by cases e) (fun q e => by cases e; rfl) hml hby HSZ6.out ?_)
              intro v' w7 hown hgrow hnn
              obtain ⟨A7, N7, cap7, rfl⟩ := hown.val
              have hN7 : N7 = i + 1 := by
                have := hown.len.1
                rw [List.length_append, HLK.out] at this
                exact this
              subst hN7
              have hrow : ∀ j, Value.ownBlock (.slice A i cap) = some j → B + 1 ≤ j := fun j hj => (World.ownsRow.lt HOw2.out j hj).1
              have HO7 := Lib.hid hown
              have HG7 : Hid (w.grownBy w7 (some g)) := Lib.hid (gr_rowq (gr_alloc HG2.out _) hgrow (fun j hj => by have := hrow j hj; have := HBB.out; omega))
              have HW7 := Lib.hid ((HW2.out.alloc (.cells #[.iface tq (.agg aq)] 65)).grown hgrow (fun e => by have := hrow g e.symm; omega))
              have HK7 := Lib.hid ((HK2.out.alloc (.cells #[.iface tq (.agg aq)] 65)).grown hgrow (fun e => by have := hrow B e.symm; omega))
              have hS7 : B + 1 ≤ w7.heap.size := Nat.le_trans HSZ6.out hgrow.size
              have hm29 : m2 ≤ 9 := by omega
              clear hown hgrow hnn hown6 hnew6 hrow
              go_wp2
              go_roundw
              case rel => exact ⟨i + 1, A7, cap7, m2, qs ++ [(tq, aq)], by omega, rfl, by go_num, hm29, hS7, HA3, HM3, HG7, HW7, HK7, HO7, HQ3⟩
              case measure => simp [intOf]; omega
          · have h5 : ¬ (i : Int) < (nK : Int) := by omega
            obtain rfl : i = nK := by omega
            have hk : ks.take i = ks := List.take_of_length_le (by rw [HKK.out]; exact Nat.le_refl _)
            rw [hk] at HAr HMr HQr
            have z0 := HKr.out.cell 0
            have z1 := HKr.out.cell 1
            have z2 := HKr.out.cell 2
            have z3 := HKr.out.cell 3
            simp at z0 z1 z2 z3
            have HF := HO.out
            clear hk h5
            obtain ⟨R, hR⟩ : ∃ R, wr.heap.size = R := ⟨_, rfl⟩
            have HRR := Lib.hid hR
            have HWL : Hid (g < R) := Lib.hid (by have := HWr.out.lt; omega)
            have HRL : Hid (wr.heap.size ≤ R) := Lib.hid (Nat.le_of_eq hR)
            have HWR : Hid (w0.heap.size ≤ R) := Lib.hid (by have := HBr.out.size; omega)
            have hBR : B < R := by omega
            have HRG : Hid (R ≤ wr.heap.size) := Lib.hid (Nat.le_of_eq HRR.out.symm)
            have HSPr : Hid (SpA wr AS S) := Lib.hid (HSP.out.below HBr.out (Nat.le_refl _))
            have HLSr : Hid (Lst wr) := Lib.hid (HLS.out.below HBr.out (Nat.le_refl _))
            have l1 : ∀ x : Later R wr, x.v.cell? ⟨B, 1, none⟩ = some (.int .i64 f) := fun x => x.cell hBR z1
            have l2 : ∀ x : Later R wr, x.v.cell? ⟨B, 2, none⟩ = some (.string t) := fun x => x.cell hBR z2
            have l3 : ∀ x : Later R wr, x.v.cell? ⟨B, 3, none⟩ = some (.slice AS nS cS) := fun x => x.cell hBR z3
            clear hR hBR z1 z2 z3
            rcases shape_yes HF with ⟨hkd, hnK⟩ | ⟨hkd, hnK⟩ | ⟨hkd, hnK⟩
            · subst hnK
              rcases hkd with rfl | rfl | rfl | rfl | rfl
              · go_wp2
                go_ret2
                refine qend ?_ (by unfold leafB; simp) HSS.out HKK.out HO.out HAr.out HMr.out HWr.out HGr.out
                rw [QV]; exact .inl ⟨rfl, rfl⟩
              · obtain ⟨b, hb⟩ : ∃ b, flag1 f = b := ⟨_, rfl⟩
                obtain ⟨z, hz⟩ : ∃ z, wB (fwL f) = z := ⟨_, rfl⟩
                have e1 : z.toList.isEmpty = !b := hz ▸ wB_empty hb
                have HZ := Lib.hid hz
                have HFB := Lib.hid hb
                clear hz hb
                cases b <;> simp at e1
                all_goals (
                  go_wp2
                  refine wp_region_later R wr (by kernel_rfl) (by kernel_rfl) ?_
                  repeat (go_big_quiet_step ((go_at_call 96; refine (flagword_later HZ.out HLSr.out HRL.out _).mono ?_; rintro e w2 ⟨rfl, hb2⟩; exact ⟨rfl, Later.call _ hb2 HRG.out⟩)))
                  refine wpQuiet_nil ?_
                  intro _ hw'
                  obtain ⟨⟨w2, hb2⟩, rfl⟩ := hw'
                  have HW2 := Lib.hid (HWr.out.below hb2 HWL.out)
                  have HG2 := Lib.hid (gr_trans HGr.out (gr_below (hb2.mono HRL.out) (some g)))
                  clear hb2
                  go_wp2
                  go_ret2
                  refine qend ?_ (by unfold leafB; simp [HFB.out, e1]) HSS.out HKK.out HO.out HAr.out HMr.out HW2.out HG2.out
                  rw [QV]; exact .inr (.inl ⟨rfl, rfl⟩))
              · obtain ⟨b, hb⟩ : ∃ b, nameB t.data.toList = b := ⟨_, rfl⟩
                have HFB := Lib.hid hb
                clear hb
                go_wp2
                refine wp_region_later R wr (by kernel_rfl) (by kernel_rfl) ?_
                repeat (go_big_quiet_step ((go_at_call 97; refine (name_later HFB.out HT4.out _).mono ?_; rintro e w2 ⟨rfl, hb2⟩; exact ⟨rfl, Later.call _ hb2 HRG.out⟩)))
                refine wpQuiet_nil ?_
                intro _ hw'
                obtain ⟨⟨w2, hb2⟩, rfl⟩ := hw'
                have HW2 := Lib.hid (HWr.out.below hb2 HWL.out)
                have HG2 := Lib.hid (gr_trans HGr.out (gr_below (hb2.mono HRL.out) (some g)))
                clear hb2
                go_wp2
                go_ret2
                refine qend ?_ (by unfold leafB; simp [HFB.out]) HSS.out HKK.out HO.out HAr.out HMr.out HW2.out HG2.out
                rw [QV]; exact .inr (.inr (.inl ⟨rfl, rfl⟩))
              · obtain ⟨b, hb⟩ : ∃ b, setB S = b := ⟨_, rfl⟩
                have HFB := Lib.hid hb
                clear hb
                go_wp2
                refine wp_region_later R wr (by kernel_rfl) (by kernel_rfl) ?_
                repeat (go_big_quiet_step ((go_at_call 59; refine (set_later HSS.out HFB.out HS3.out HSPr.out HRL.out _).mono ?_; rintro e w2 ⟨rfl, hb2⟩; exact ⟨rfl, Later.call _ hb2 HRG.out⟩)))
                refine wpQuiet_nil ?_
                intro _ hw'
                obtain ⟨⟨w2, hb2⟩, rfl⟩ := hw'
                have HW2 := Lib.hid (HWr.out.below hb2 HWL.out)
                have HG2 := Lib.hid (gr_trans HGr.out (gr_below (hb2.mono HRL.out) (some g)))
                clear hb2
                go_wp2
                go_ret2
                refine qend ?_ (by unfold leafB; simp [HFB.out]) HSS.out HKK.out HO.out HAr.out HMr.out HW2.out HG2.out
                rw [QV]; exact .inr (.inr (.inr (.inl ⟨rfl, AS, cS, by rw [HSS.out]; rfl, HSP.out⟩)))
              · obtain ⟨b, hb⟩ : ∃ b, setB S = b := ⟨_, rfl⟩
                have HFB := Lib.hid hb
                clear hb
                go_wp2
                refine wp_region_later R wr (by kernel_rfl) (by kernel_rfl) ?_
                repeat (go_big_quiet_step ((go_at_call 59; refine (set_later HSS.out HFB.out HS3.out HSPr.out HRL.out _).mono ?_; rintro e w2 ⟨rfl, hb2⟩; exact ⟨rfl, Later.call _ hb2 HRG.out⟩)))
                refine wpQuiet_nil ?_
                intro _ hw'
                obtain ⟨⟨w2, hb2⟩, rfl⟩ := hw'
                have HW2 := Lib.hid (HWr.out.below hb2 HWL.out)
                have HG2 := Lib.hid (gr_trans HGr.out (gr_below (hb2.mono HRL.out) (some g)))
                clear hb2
                go_wp2
                go_ret2
                refine qend ?_ (by unfold leafB; simp [HFB.out]) HSS.out HKK.out HO.out HAr.out HMr.out HW2.out HG2.out
                rw [QV]; exact .inr (.inr (.inr (.inr (.inl ⟨rfl, AS, cS, by rw [HSS.out]; rfl, HSP.out⟩))))
            · subst hnK hkd
              obtain ⟨⟨t1, a1⟩, rfl⟩ : ∃ x, qs = [x] := List.length_eq_one_iff.1 HOr.out.len.1.symm
              obtain ⟨A2, c2, he, _, _, hat, hbk, hne⟩ := HOr.out.form
              obtain ⟨gg, rfl⟩ : ∃ gg, A = some ⟨gg, 0, none⟩ := by
                obtain ⟨gg, hgg⟩ := hne (by simp)
                simp at he
                exact ⟨gg, he.1.trans hgg⟩
              clear hat hbk hne he
              have y0 : wr.cell? ⟨gg, 0, none⟩ = some (.iface t1 (.agg a1)) := HOr.out.cell (k := 0) (j := 0) rfl rfl
              go_wp2
              go_ret2
              refine qend ?_ (by unfold leafB; simp) HSS.out HKK.out HO.out HAr.out HMr.out HWr.out HGr.out
              rw [QV]; exact .inr (.inr (.inr (.inr (.inr (.inl ⟨rfl, _, rfl, HQr.out⟩)))))
            · subst hnK
              rcases hkd with rfl | rfl
              · obtain ⟨⟨t1, a1⟩, ⟨t2, a2⟩, rfl⟩ : ∃ x y, qs = [x, y] := len_two HOr.out.len.1.symm
                obtain ⟨A2, c2, he, _, _, hat, hbk, hne⟩ := HOr.out.form
                obtain ⟨gg, rfl⟩ : ∃ gg, A = some ⟨gg, 0, none⟩ := by
                  obtain ⟨gg, hgg⟩ := hne (by simp)
                  simp at he
                  exact ⟨gg, he.1.trans hgg⟩
                clear hat hbk hne he
                have y0 : wr.cell? ⟨gg, 0, none⟩ = some (.iface t1 (.agg a1)) := HOr.out.cell (k := 0) (j := 0) rfl rfl
                have y1 : wr.cell? ⟨gg, 1, none⟩ = some (.iface t2 (.agg a2)) := HOr.out.cell (k := 1) (j := 0) rfl rfl
                have hgr : gg < R := by have := (World.ownsRow.lt HOr.out gg rfl).2; have := HRR.out; omega
                have l4 : ∀ x : Later R wr, x.v.cell? ⟨gg, 0, none⟩ = some (.iface t1 (.agg a1)) := fun x => x.cell hgr y0
                have l5 : ∀ x : Later R wr, x.v.cell? ⟨gg, 1, none⟩ = some (.iface t2 (.agg a2)) := fun x => x.cell hgr y1
                clear y0 y1 hgr
                go_wp2
                refine wp_region_later R wr (by kernel_rfl) (by kernel_rfl) ?_
                repeat (go_big_quiet_step (fail))
                refine wpQuiet_nil ?_
                intro _ hw'
                obtain ⟨⟨w2, hb2⟩, rfl⟩ := hw'
                have HW2 := Lib.hid (HWr.out.below hb2 HWL.out)
                have HG2 := Lib.hid (gr_trans HGr.out (gr_below (hb2.mono HRL.out) (some g)))
                clear hb2
                go_wp2
                go_ret2
                refine qend ?_ (by unfold leafB; simp) HSS.out HKK.out HO.out HAr.out HMr.out HW2.out HG2.out
                rw [QV]; exact .inr (.inr (.inr (.inr (.inr (.inr (.inl ⟨rfl, _, _, rfl, HQr.out⟩))))))
              · obtain ⟨⟨t1, a1⟩, ⟨t2, a2⟩, rfl⟩ : ∃ x y, qs = [x, y] := len_two HOr.out.len.1.symm
                obtain ⟨A2, c2, he, _, _, hat, hbk, hne⟩ := HOr.out.form
                obtain ⟨gg, rfl⟩ : ∃ gg, A = some ⟨gg, 0, none⟩ := by
                  obtain ⟨gg, hgg⟩ := hne (by simp)
                  simp at he
                  exact ⟨gg, he.1.trans hgg⟩
                clear hat hbk hne he
                have y0 : wr.cell? ⟨gg, 0, none⟩ = some (.iface t1 (.agg a1)) := HOr.out.cell (k := 0) (j := 0) rfl rfl
                have y1 : wr.cell? ⟨gg, 1, none⟩ = some (.iface t2 (.agg a2)) := HOr.out.cell (k := 1) (j := 0) rfl rfl
                have hgr : gg < R := by have := (World.ownsRow.lt HOr.out gg rfl).2; have := HRR.out; omega
                have l4 : ∀ x : Later R wr, x.v.cell? ⟨gg, 0, none⟩ = some (.iface t1 (.agg a1)) := fun x => x.cell hgr y0
                have l5 : ∀ x : Later R wr, x.v.cell? ⟨gg, 1, none⟩ = some (.iface t2 (.agg a2)) := fun x => x.cell hgr y1
                clear y0 y1 hgr
                go_wp2
                refine wp_region_later R wr (by kernel_rfl) (by kernel_rfl) ?_
                repeat (go_big_quiet_step (fail))
                refine wpQuiet_nil ?_
                intro _ hw'
                obtain ⟨⟨w2, hb2⟩, rfl⟩ := hw'
                have HW2 := Lib.hid (HWr.out.below hb2 HWL.out)
                have HG2 := Lib.hid (gr_trans HGr.out (gr_below (hb2.mono HRL.out) (some g)))
                clear hb2
                go_wp2
                go_ret2
                refine qend ?_ (by unfold leafB; simp) HSS.out HKK.out HO.out HAr.out HMr.out HW2.out HG2.out
                rw [QV]; exact .inr (.inr (.inr (.inr (.inr (.inr (.inr ⟨rfl, _, _, rfl, HQr.out⟩))))))
end Go.Proofs.YtpihibconbejlaaDoor
namespace Go.Proofs.YtpihibconbejlaaDoor
open Go.RowKit
set_option linter.unusedVariables false

def KQ (w : World) (k : KT) (e : Ending) (w' : World) : Prop := ∃ (q : Value) (o : Bool), e = .returned (.tuple #[q, .bool o]) ∧ keyB k = o ∧ (o = true → QV w k q) ∧ Below w.heap.size w w'
set_option maxRecDepth 20000 in
set_option maxHeartbeats 4000000 in
theorem impl_keyquery {k : KT} {v : Value} (w : World) (hSh : Shp w) (hLs : Lst w) (h : KV w k v) : Calls Tryd.prog 45 #[v] w (KQ w k) := by
  obtain ⟨kd, f, t, S, ks⟩ := k
  obtain ⟨AS, nS, cS, AK, nK, cK, rfl, -⟩ := h.open
  have HV := Lib.hid h
  obtain ⟨B, hB⟩ : ∃ B, w.heap.size = B := ⟨_, rfl⟩
  have HBB := Lib.hid hB
  obtain ⟨wa, hwa⟩ : ∃ wa, w.alloc (.cells #[.int .i64 kd, .int .i64 f, .string t, .slice AS nS cS, .slice AK nK cK] 26) = wa := ⟨_, rfl⟩
  have hsa : wa.heap.size = B + 1 := by rw [← hwa, ← hB]; simp
  obtain ⟨wb, hwb⟩ : ∃ wb, wa.alloc (.cells #[.int .i64 9] 72) = wb := ⟨_, rfl⟩
  have HWA := Lib.hid hwa
  have HWB := Lib.hid hwb
  have HBa : Hid (Below w.heap.size w wa) := Lib.hid (by rw [← hwa]; exact (Below.refl _ _).alloc (Nat.le_refl _) _)
  have HBb : Hid (Below w.heap.size w wb) := Lib.hid (by rw [← hwb]; exact HBa.out.alloc HBa.out.size _)
  have HKa : Hid (Whole wa B 26 #[.int .i64 kd, .int .i64 f, .string t, .slice AS nS cS, .slice AK nK cK]) := Lib.hid (by rw [← hwa, ← hB]; exact Whole.made w _ _)
  have HKb : Hid (Whole wb B 26 #[.int .i64 kd, .int .i64 f, .string t, .slice AS nS cS, .slice AK nK cK]) := Lib.hid (by rw [← hwb]; exact HKa.out.alloc _)
  have HGb : Hid (Whole wb (B + 1) 72 #[.int .i64 ((9 : Nat) : Int)]) := Lib.hid (by rw [← hwb, ← hsa]; exact Whole.made wa _ _)
  have HC := Lib.hid (impl_query_n w (B + 1) hSh hLs (by omega) (nodesT (.mk kd f t S ks)) _ _ wb 9 (Nat.le_refl _) h HBb.out HGb.out (by omega))
  have z0 := HKb.out.cell 0
  have z1 := HKb.out.cell 1
  have z2 := HKb.out.cell 2
  have z3 := HKb.out.cell 3
  have z4 := HKb.out.cell 4
  simp at z0 z1 z2 z3 z4
  clear h hwa hwb hSh hLs hB
  go_enter Tryd.func45, Tryd.ntmps45
  go_wp2_with fail
  rw [HWA.out, HBB.out, HWB.out]
  refine HC.out.mono ?_
  rintro e w2 ⟨q, o, m', rfl, ho, hm', hW, hG, hY⟩
  have HO := Lib.hid ho
  have HY := Lib.hid hY
  have HB2 := Lib.hid (below_gr HBb.out hG HBb.out.size (by rw [HBB.out]; omega))
  clear ho hW hG hY
  go_wp2
  go_ret2
  exact ⟨q, o, rfl, HO.out, fun e => (HY.out e).2, HB2.out⟩
set_option maxRecDepth 20000 in
set_option maxHeartbeats 4000000 in
theorem impl_key {k : KT} {v : Value} {o : Bool} (ho : keyB k = o) (w : World) (hSh : Shp w) (hLs : Lst w) (h : KV w k v) : Calls Tryd.prog 25 #[v] w fun e w' => e = .returned (.bool o) ∧ Below w.heap.size w w' := by
  obtain ⟨kd, f, t, S, ks⟩ := k
  obtain ⟨AS, nS, cS, AK, nK, cK, rfl, -⟩ := h.open
  have HO := Lib.hid ho
  obtain ⟨B, hB⟩ : ∃ B, w.heap.size = B := ⟨_, rfl⟩
  have HBB := Lib.hid hB
  obtain ⟨wa, hwa⟩ : ∃ wa, w.alloc (.cells #[.int .i64 kd, .int .i64 f, .string t, .slice AS nS cS, .slice AK nK cK] 26) = wa := ⟨_, rfl⟩
  have HWA := Lib.hid hwa
  have HBa : Hid (Below w.heap.size w wa) := Lib.hid (by rw [← hwa]; exact (Below.refl _ _).alloc (Nat.le_refl _) _)
  have HKa : Hid (Whole wa B 26 #[.int .i64 kd, .int .i64 f, .string t, .slice AS nS cS, .slice AK nK cK]) := Lib.hid (by rw [← hwa, ← hB]; exact Whole.made w _ _)
  have HC := Lib.hid (impl_keyquery wa (hSh.below HBa.out (Nat.le_refl _)) (hLs.below HBa.out (Nat.le_refl _)) (KV.below HBa.out (Nat.le_refl _) _ _ h))
  have z0 := HKa.out.cell 0
  have z1 := HKa.out.cell 1
  have z2 := HKa.out.cell 2
  have z3 := HKa.out.cell 3
  have z4 := HKa.out.cell 4
  simp at z0 z1 z2 z3 z4
  clear h hwa hSh hLs hB ho
  go_enter Tryd.func25, Tryd.ntmps25
  go_wp2_with fail
  rw [HWA.out]
  refine HC.out.mono ?_
  rintro e w2 ⟨q, o2, rfl, ho2, -, hb2⟩
  obtain rfl : o2 = o := ho2.symm.trans HO.out
  have HB2 := Lib.hid (HBa.out.trans (hb2.mono HBa.out.size))
  clear hb2 ho2
  go_wp2
  go_ret
  exact ⟨rfl, HB2.out⟩
set_option maxHeartbeats 1000000 in
theorem laws_nodes_n : ∀ (n : Nat) (k : KT) (v : Value) (w : World), nodesT k ≤ n → n ≤ 4000000 → KV w k v →
    Calls Tryd.prog 27 #[v] w fun e w' => e = .returned (.int .i64 (nodesT k : Int)) ∧ Below w.heap.size w w'
  | 0, k, v, w, hn, _, _ => by have := nodesT_pos k; omega
  | n + 1, .mk kd f t S ks, v, w, hn, hm, h => by
    have ih := fun (k' : KT) (v' : Value) (w1 : World) (h1 : nodesT k' ≤ n) (h2 : KV w1 k' v') => laws_nodes_n n k' v' w1 h1 (by omega) h2
    obtain ⟨AS, nS, cS, AK, nK, cK, rfl, h2, h3, h4, h5, h6, h7⟩ := h.open
    have hT : nodesT (.mk kd f t S ks) = nodesL ks + 1 := by rw [nodesT]
    rw [hT] at hn ⊢
    have hln := nodesL_len ks
    have HKS := Lib.hid h7
    have HN6 := Lib.hid h6
    have hnK : nK ≤ 4000000 := by omega
    obtain ⟨B, hB⟩ : ∃ B, w.heap.size = B := ⟨_, rfl⟩
    have HBB := Lib.hid hB
    have HW0 := Lib.hid (hB ▸ Whole.made w 26 #[.int .i64 kd, .int .i64 f, .string t, .slice AS nS cS, .slice AK nK cK])
    have HB0 : Hid (Below B w (w.alloc (.cells #[.int .i64 kd, .int .i64 f, .string t, .slice AS nS cS, .slice AK nK cK] 26))) := (Below.refl _ _).alloc (Nat.le_of_eq hB.symm) _
    obtain ⟨m, hmm⟩ : ∃ m, nodesL ks + 1 = m := ⟨_, rfl⟩
    have HMM := Lib.hid hmm
    have HIH := Lib.hid ih
    have hm2 : m ≤ 4000000 := by omega
    have hmn : m ≤ n + 1 := by omega
    rw [hmm]
    clear h h2 h3 h4 h5 h6 h7 hT hn hln hm hmm ih
    have z4 := HW0.out.cell 4
    simp at z4
    go_enter Tryd.func27, Tryd.ntmps27
    go_wp2
    clear z4
    go_loopw [3, 4] (fun nv iv wr => ∃ (i s : Nat), i ≤ nK ∧ s ≤ m ∧ nv = .int .i64 (s : Int) ∧ iv = .int .i64 (i : Int) ∧ Hid (nodesL (ks.take i) + 1 = s) ∧ Hid (Below B w wr) ∧ Hid (Whole wr B 26 #[.int .i64 kd, .int .i64 f, .string t, .slice AS nS cS, .slice AK nK cK])) (fun _ iv _ => nK - (intOf iv).toNat)
    case atStart => exact ⟨0, 1, Nat.zero_le _, by have := HMM.out; omega, by go_num, by go_num, rfl, HB0, HW0⟩
    case round =>
      obtain ⟨i, s, hi, hsm, rfl, rfl, HS, HB, HW⟩ := hrel
      have z4 := HW.out.cell 4
      simp at z4
      by_cases hlt : i < nK
      · have h0 : (0 : Int) ≤ (i : Int) := by omega
        have h5 : (i : Int) < (nK : Int) := by omega
        obtain ⟨k, hk⟩ : ∃ k, ks[i]? = some k := ⟨_, List.getElem?_eq_getElem (by rw [HN6.out]; exact hlt)⟩
        obtain ⟨b, o, v0, v1, v2, v3, v4, rfl, hbz, c0, c1, c2, c3, c4, hkv⟩ := (KVs.below HB.out (Nat.le_of_eq HBB.out) AK 0 ks HKS.out).get hk
        rw [Nat.zero_add] at c0 c1 c2 c3 c4
        have hnl := nodesL_lt hk
        have hnt := nodesL_take hk
        obtain ⟨q, hq⟩ : ∃ q, nodesT k = q := ⟨_, rfl⟩
        have hqp := nodesT_pos k
        rw [hq] at hnl hnt hqp
        have hs1 := HS.out
        have hmo := HMM.out
        obtain ⟨s2, hs2⟩ : ∃ y, s + q = y := ⟨_, rfl⟩
        have hs2m : s2 ≤ m := by omega
        have E1 : (s : Int) + (q : Int) = (s2 : Int) := by omega
        have W1 : IntKind.i64.wrap ((s : Int) + (q : Int)) = (s2 : Int) := (IntWalk.i64_in _ (by omega)).trans E1
        have HS2 : Hid (nodesL (ks.take (i + 1)) + 1 = s2) := by show _ = _; omega
        have HC := Lib.hid (HIH.out k (.agg #[v0, v1, v2, v3, v4]) wr (by omega) hkv)
        rw [hq] at HC
        have HSZ := Lib.hid HB.out.size
        clear hk hkv hnl hnt hq hqp hs1 hmo hs2
        go_wp2_with fail
        refine HC.out.mono ?_
        rintro e w2 ⟨rfl, hb⟩
        have HB2 := Lib.hid (HB.out.trans (hb.mono (HBB.out ▸ HSZ.out)))
        have HW2 := Lib.hid (HW.out.below hb HW.out.lt)
        clear hb
        go_wp2
        go_roundw
        case rel => exact ⟨i + 1, s2, by omega, hs2m, rfl, by go_num, HS2, HB2, HW2⟩
        case measure => simp [intOf]; omega
      · have h5 : ¬ (i : Int) < (nK : Int) := by omega
        have hsm2 : s = m := by
          have h1 := HS.out
          rw [List.take_of_length_le (by rw [HN6.out]; omega)] at h1
          rw [← h1, HMM.out]
        subst hsm2
        go_wp2
        go_ret
        exact ⟨rfl, HBB.out ▸ HB.out⟩
end Go.Proofs.YtpihibconbejlaaDoor
namespace Go.Proofs.YtpihibconbejlaaDoor
set_option linter.unusedVariables false

/-- The names of flags. -/
def fnm : Nat → List UInt8
  | 0 => [83, 101, 101, 110]
  | 1 => [65, 110, 115, 119, 101, 114, 101, 100]
  | 2 => [70, 108, 97, 103, 103, 101, 100]
  | 3 => [68, 101, 108, 101, 116, 101, 100]
  | _ => [68, 114, 97, 102, 116]
/-- The flag 'k' is among 'f'. -/
def tb (f k : Nat) : Bool := f / 2 ^ k % 2 == 1
/-- Flags. -/
def isF (n : Int) : Bool := decide (0 ≤ n) && decide (n ≤ 31)
theorem isF_nat {n : Int} (h : isF n = true) : ∃ f : Nat, f < 32 ∧ n = (f : Int) := by
  unfold isF at h
  simp at h
  exact ⟨n.toNat, by omega, by omega⟩
theorem isF_of {f : Nat} (h : f < 32) : isF (f : Int) = true := by
  unfold isF
  simp
  omega
theorem isF_no {n : Int} (h : isF n = false) : n < 0 ∨ 31 < n := by
  unfold isF at h
  simp at h
  omega

/-- The text of flags, up to the flag 'k'. -/
def outF (f : Nat) : Nat → List UInt8
  | 0 => [40]
  | k + 1 => if tb f k then (if 1 < (outF f k).length then outF f k ++ [32] else outF f k) ++ fnm k else outF f k
def textF (f : Nat) : List UInt8 := outF f 5 ++ [41]
/-- The names of the flags, up to the flag 'k'. -/
def idxF (f : Nat) : Nat → List (List UInt8)
  | 0 => []
  | k + 1 => if tb f k then idxF f k ++ [fnm k] else idxF f k
theorem text_join (f : Nat) (h : f < 32) : [40] ++ Lib.join (idxF f 5) [32] ++ [41] = textF f := by
  have : ∀ f : Fin 32, [40] ++ Lib.join (idxF f.1 5) [32] ++ [41] = textF f.1 := by decide +kernel
  exact this ⟨f, h⟩

/-- A change, one flag after the other. -/
def onB (f : Nat) (h : Int) (o k : Nat) : Bool := (h == 1 && (tb f k || tb o k)) || (h == -1 && tb f k && !tb o k) || (h == 0 && tb o k)
def chK (f : Nat) (h : Int) (o : Nat) : Nat → Nat
  | 0 => 0
  | k + 1 => if onB f h o k then chK f h o k + 2 ^ k else chK f h o k
def chN (f : Nat) (h : Int) (o : Nat) : Nat := chK f h o 5
/-- A change of what may be no flags. -/
def howB (h : Int) : Bool := decide (-1 ≤ h) && decide (h ≤ 1)
def chI (f h o : Int) : Int := if isF f && isF o && howB h then (chN f.toNat h o.toNat : Int) else -1
theorem how_of {h : Int} (hh : howB h = true) : h = 1 ∨ h = -1 ∨ h = 0 := by
  unfold howB at hh
  simp at hh
  omega
/-- What is had. -/
def hvN (f o : Nat) : Bool := chN f 1 o == f
def hvI (f o : Int) : Bool := isF f && isF o && hvN f.toNat o.toNat

theorem or_flags {f o : Nat} (hf : f < 32) (ho : o < 32) : bits .or .i64 (f : Int) (o : Int) = (chN f 1 o : Int) := by
  have : ∀ f o : Fin 32, bits .or .i64 (f.1 : Int) (o.1 : Int) = (chN f.1 1 o.1 : Int) := by decide +kernel
  exact this ⟨f, hf⟩ ⟨o, ho⟩
theorem andnot_flags {f o : Nat} (hf : f < 32) (ho : o < 32) : bits .andNot .i64 (f : Int) (o : Int) = (chN f (-1) o : Int) := by
  have : ∀ f o : Fin 32, bits .andNot .i64 (f.1 : Int) (o.1 : Int) = (chN f.1 (-1) o.1 : Int) := by decide +kernel
  exact this ⟨f, hf⟩ ⟨o, ho⟩
theorem put_flags {f o : Nat} (hf : f < 32) (ho : o < 32) : chN f 0 o = o := by
  have : ∀ f o : Fin 32, chN f.1 0 o.1 = o.1 := by decide +kernel
  exact this ⟨f, hf⟩ ⟨o, ho⟩
theorem and_flags {f o : Nat} (hf : f < 32) (ho : o < 32) : (bits .and .i64 (f : Int) (o : Int) == (o : Int)) = hvN f o := by
  have : ∀ f o : Fin 32, (bits .and .i64 (f.1 : Int) (o.1 : Int) == (o.1 : Int)) = hvN f.1 o.1 := by decide +kernel
  exact this ⟨f, hf⟩ ⟨o, ho⟩
theorem have_bit {f k : Nat} (hf : f < 32) (hk : k < 5) : hvN f (2 ^ k) = tb f k := by
  have : ∀ (f : Fin 32) (k : Fin 5), hvN f.1 (2 ^ k.1) = tb f.1 k.1 := by decide +kernel
  exact this ⟨f, hf⟩ ⟨k, hk⟩
theorem chN_lt {f o : Nat} {h : Int} (hf : f < 32) (ho : o < 32) (hh : howB h = true) : chN f h o < 32 := by
  have : ∀ f o : Fin 32, chN f.1 1 o.1 < 32 ∧ chN f.1 (-1) o.1 < 32 ∧ chN f.1 0 o.1 < 32 := by decide +kernel
  have := this ⟨f, hf⟩ ⟨o, ho⟩
  rcases how_of hh with rfl | rfl | rfl
  · exact this.1
  · exact this.2.1
  · exact this.2.2

/-- The flag of a name, 0 for another text. -/
def bitW (w : List UInt8) : Nat := if w = fnm 0 then 1 else if w = fnm 1 then 2 else if w = fnm 2 then 4 else if w = fnm 3 then 8 else if w = fnm 4 then 16 else 0
/-- The flags of names, each once, on top of 'f'. -/
def wordsF : List (List UInt8) → Nat → Option Nat
  | [], f => some f
  | w :: ws, f => if bitW w = 0 ∨ f / bitW w % 2 = 1 then none else wordsF ws (f + bitW w)
/-- The flags of a text, as the model reads it. -/
def parF (L : List UInt8) : Option Nat :=
  if L.length < 2 ∨ L.head? ≠ some 40 ∨ L.getLast? ≠ some 41 then none else if L.length = 2 then some 0 else wordsF (cut 32 (L.drop 1).dropLast) 0

theorem bitW_cases (w : List UInt8) : bitW w = 0 ∧ (∀ k, w ≠ fnm k) ∨ ∃ k, k < 5 ∧ w = fnm k ∧ bitW w = 2 ^ k := by
  by_cases h0 : w = fnm 0
  · exact .inr ⟨0, by omega, h0, by rw [h0]; rfl⟩
  by_cases h1 : w = fnm 1
  · exact .inr ⟨1, by omega, h1, by rw [h1]; rfl⟩
  by_cases h2 : w = fnm 2
  · exact .inr ⟨2, by omega, h2, by rw [h2]; rfl⟩
  by_cases h3 : w = fnm 3
  · exact .inr ⟨3, by omega, h3, by rw [h3]; rfl⟩
  by_cases h4 : w = fnm 4
  · exact .inr ⟨4, by omega, h4, by rw [h4]; rfl⟩
  · refine .inl ⟨by unfold bitW; rw [if_neg h0, if_neg h1, if_neg h2, if_neg h3, if_neg h4], fun k => ?_⟩
    match k with
    | 0 => exact h0
    | 1 => exact h1
    | 2 => exact h2
    | 3 => exact h3
    | _ + 4 => exact h4
theorem bitW_fnm {k : Nat} (h : k < 5) : bitW (fnm k) = 2 ^ k := by
  have : ∀ k : Fin 5, bitW (fnm k.1) = 2 ^ k.1 := by decide
  exact this ⟨k, h⟩
theorem fnm_letters (k : Nat) : ∀ x ∈ fnm k, x ≠ (32 : UInt8) ∧ x ≠ 41 := by
  match k with
  | 0 | 1 | 2 | 3 => decide
  | _ + 4 => show ∀ x ∈ [68, 114, 97, 102, 116], x ≠ (32 : UInt8) ∧ x ≠ 41; decide
theorem fnm_pos (k : Nat) : 1 ≤ (fnm k).length := by
  match k with
  | 0 | 1 | 2 | 3 => decide
  | _ + 4 => show 1 ≤ [68, 114, 97, 102, (116 : UInt8)].length; decide
theorem fnm_free {i j : Nat} (hi : i < 5) (hj : j < 5) {t : List UInt8} (h : fnm i = fnm j ++ t) : t = [] ∧ i = j := by
  have key : ∀ i j : Fin 5, (fnm j.1).isPrefixOf (fnm i.1) = true → i.1 = j.1 := by decide
  have e := key ⟨i, hi⟩ ⟨j, hj⟩ (by rw [h]; simp)
  simp at e
  subst e
  refine ⟨?_, rfl⟩
  have := congrArg List.length h
  rw [List.length_append] at this
  exact List.eq_nil_of_length_eq_zero (by omega)
theorem tb_bit (f k : Nat) : (f / 2 ^ k % 2 = 1) ↔ tb f k = true := by unfold tb; simp
theorem tb_add {f k : Nat} (hf : f < 32) (hk : k < 5) (h : tb f k = false) : f + 2 ^ k < 32 ∧ (∀ j, j < 5 → tb (f + 2 ^ k) j = (tb f j || j == k)) := by
  have key : ∀ (f : Fin 32) (k : Fin 5), tb f.1 k.1 = false → f.1 + 2 ^ k.1 < 32 ∧ ∀ j : Fin 5, tb (f.1 + 2 ^ k.1) j.1 = (tb f.1 j.1 || j.1 == k.1) := by decide +kernel
  have := key ⟨f, hf⟩ ⟨k, hk⟩ h
  exact ⟨this.1, fun j hj => this.2 ⟨j, hj⟩⟩

theorem wordsF_cons {k : Nat} (hk : k < 5) (ws : List (List UInt8)) (f : Nat) : wordsF (fnm k :: ws) f = if tb f k then none else wordsF ws (f + 2 ^ k) := by
  rw [wordsF, bitW_fnm hk]
  have : 2 ^ k ≠ 0 := by have := Nat.two_pow_pos k; omega
  by_cases h : tb f k = true
  · rw [if_pos h, if_pos (.inr ((tb_bit f k).2 h))]
  · rw [if_neg h, if_neg]
    rintro (h1 | h1)
    · exact this h1
    · exact h ((tb_bit f k).1 h1)
theorem wordsF_bad {w : List UInt8} (h : ∀ k, w ≠ fnm k) (ws : List (List UInt8)) (f : Nat) : wordsF (w :: ws) f = none := by
  rcases bitW_cases w with ⟨h1, _⟩ | ⟨k, _, h2, _⟩
  · rw [wordsF, if_pos (.inl h1)]
  · exact absurd h2 (h k)

/-- What the code reads behind the bracket: names with blanks between them, and the other bracket. 'n' is fuel. -/
def codF : Nat → List UInt8 → Nat → Option Nat
  | 0, _, _ => none
  | n + 1, r, f =>
    match (List.range 5).find? (fun k => (fnm k).isPrefixOf r) with
    | none => none
    | some k => if tb f k then none else
      match r.drop (fnm k).length with
      | 32 :: t => codF n t (f + 2 ^ k)
      | [41] => some (f + 2 ^ k)
      | _ => none
/-- The same, as the model reads it. -/
def modF (r : List UInt8) (f : Nat) : Option Nat := if r.getLast? = some 41 then wordsF (cut 32 r.dropLast) f else none

theorem first_word {k : Nat} {x : UInt8} {t : List UInt8} (hx : x ≠ 32) (hk : k < 5) : ∃ w rest, cut 32 (fnm k ++ x :: t) = w :: rest ∧ ∀ j, w ≠ fnm j := by
  obtain ⟨q, rest, h⟩ := cut_other 32 (fnm k) t x (fun y hy => (fnm_letters k y hy).1) hx
  refine ⟨_, rest, h, fun j hj => ?_⟩
  have : ∃ j', j' < 5 ∧ fnm j = fnm j' := by
    match j with
    | 0 => exact ⟨0, by omega, rfl⟩
    | 1 => exact ⟨1, by omega, rfl⟩
    | 2 => exact ⟨2, by omega, rfl⟩
    | 3 => exact ⟨3, by omega, rfl⟩
    | _ + 4 => exact ⟨4, by omega, rfl⟩
  obtain ⟨j', hj', e⟩ := this
  rw [e] at hj
  have := (fnm_free hj' hk hj.symm).1
  cases this
theorem last_append {a : List UInt8} {b : List UInt8} (hb : b ≠ []) : (a ++ b).getLast? = b.getLast? := by
  rw [List.getLast?_append]
  cases hb' : b.getLast? with
  | none => exact absurd (List.getLast?_eq_none_iff.1 hb') hb
  | some x => rfl
theorem drop_last_append {a : List UInt8} {b : List UInt8} (hb : b ≠ []) : (a ++ b).dropLast = a ++ b.dropLast := List.dropLast_append_of_ne_nil hb

theorem modF_name {k : Nat} (hk : k < 5) (t : List UInt8) (f : Nat) : modF (fnm k ++ t) f = if tb f k then none else
    match t with
    | 32 :: t => modF t (f + 2 ^ k)
    | [41] => some (f + 2 ^ k)
    | _ => none := by
  have hne := fnm_letters k
  have hb : ∀ y ∈ fnm k, y ≠ (32 : UInt8) := fun y hy => (hne y hy).1
  match t with
  | [] =>
    have : modF (fnm k ++ []) f = none := by
      unfold modF
      rw [List.append_nil, if_neg]
      intro h
      exact (hne 41 (List.mem_of_getLast? h)).2 rfl
    rw [this]
    split <;> rfl
  | x :: t =>
    unfold modF
    rw [last_append (by simp), drop_last_append (by simp)]
    by_cases hx : x = 32
    · subst hx
      cases t with
      | nil =>
        have e1 : modF [] (f + 2 ^ k) = none := rfl
        show (if ([32] : List UInt8).getLast? = some 41 then _ else none) = if tb f k then none else modF [] _
        rw [e1, if_neg (by decide)]
        split <;> rfl
      | cons y t =>
        show (if _ then wordsF (cut 32 (fnm k ++ 32 :: (y :: t).dropLast)) f else none) = if tb f k then none else modF (y :: t) _
        rw [cut_at 32 _ _ hb, wordsF_cons hk]
        unfold modF
        have : (32 :: y :: t : List UInt8).getLast? = (y :: t).getLast? := by simp [List.getLast?_cons]
        rw [this]
        split <;> split <;> rfl
    · cases t with
      | nil =>
        by_cases h41 : x = 41
        · subst h41
          show (if _ then wordsF (cut 32 (fnm k ++ [])) f else none) = if tb f k then none else some _
          rw [if_pos (by decide), List.append_nil, cut_nil_of 32 _ hb, wordsF_cons hk]
          rfl
        · rw [if_neg (by simpa using h41)]
          split
          · rfl
          · split
            · rename_i h; simp at h; exact absurd h.1 hx
            · rename_i h; simp at h; exact absurd h h41
            · rfl
      | cons y t =>
        obtain ⟨w, rest, h1, h2⟩ := first_word (t := (y :: t).dropLast) hx hk
        show (if _ then wordsF (cut 32 (fnm k ++ x :: (y :: t).dropLast)) f else none) = _
        rw [h1, wordsF_bad h2]
        split
        · split
          · rfl
          · split
            · rename_i h; simp at h; exact absurd h.1 hx
            · rename_i h; simp at h
            · rfl
        · split
          · rfl
          · split
            · rename_i h; simp at h; exact absurd h.1 hx
            · rename_i h; simp at h
            · rfl
theorem cutGo_fst {c : UInt8} {L : List UInt8} : ∀ {cur w : List UInt8} {rest : List (List UInt8)}, cutGo c cur L = w :: rest → ∃ t, cur ++ L = w ++ t := by
  induction L with
  | nil =>
    intro cur w rest h
    rw [cutGo] at h
    cases h
    exact ⟨[], rfl⟩
  | cons a L ih =>
    intro cur w rest h
    rw [cutGo] at h
    split at h
    · cases h
      exact ⟨_, rfl⟩
    · obtain ⟨t, ht⟩ := ih h
      exact ⟨t, by rw [← ht]; simp⟩
theorem cut_first {c : UInt8} {L w : List UInt8} {rest : List (List UInt8)} (h : cut c L = w :: rest) : ∃ t, L = w ++ t := cutGo_fst h
theorem modF_none {r : List UInt8} (h : ∀ k, k < 5 → (fnm k).isPrefixOf r = false) (f : Nat) : modF r f = none := by
  unfold modF
  by_cases h41 : r.getLast? = some 41
  · rw [if_pos h41]
    have hr : r = r.dropLast ++ [41] := by
      have hne : r ≠ [] := by rintro rfl; simp at h41
      conv => lhs; rw [← List.dropLast_concat_getLast hne]
      congr 2
      rw [List.getLast?_eq_some_getLast hne] at h41
      exact Option.some.inj h41
    -- the first word
    obtain ⟨w, rest, hc⟩ : ∃ w rest, cut 32 r.dropLast = w :: rest := by
      have := (cut_len 32 r.dropLast).1
      match hh : cut 32 r.dropLast with
      | [] => rw [hh] at this; simp at this
      | w :: rest => exact ⟨w, rest, rfl⟩
    rw [hc]
    rcases bitW_cases w with ⟨h1, _⟩ | ⟨k, hk, rfl, _⟩
    · rw [wordsF, if_pos (.inl h1)]
    · exfalso
      obtain ⟨t, ht⟩ := cut_first hc
      have := h k hk
      rw [hr, ht, List.append_assoc, List.isPrefixOf_iff_prefix.2 (List.prefix_append _ _)] at this
      cases this
  · rw [if_neg h41]

theorem codF_modF : ∀ (n : Nat) (r : List UInt8) (f : Nat), r.length < n → codF n r f = modF r f := by
  intro n
  induction n with
  | zero => intro r f h; omega
  | succ n ih =>
    intro r f hr
    rw [codF]
    cases hf : (List.range 5).find? (fun k => (fnm k).isPrefixOf r) with
    | none =>
      rw [List.find?_eq_none] at hf
      rw [modF_none fun k hk => Bool.eq_false_iff.2 (hf k (List.mem_range.2 hk))]
    | some k =>
      have hk : k < 5 := List.mem_range.1 (List.mem_of_find?_eq_some hf)
      have hp := List.find?_some hf
      obtain ⟨t, rfl⟩ := List.isPrefixOf_iff_prefix.1 hp
      have hpos := fnm_pos k
      rw [List.length_append] at hr
      rw [modF_name hk]
      show (if tb f k = true then none else match List.drop (fnm k).length (fnm k ++ t) with
        | 32 :: t => codF n t (f + 2 ^ k)
        | [41] => some (f + 2 ^ k)
        | _ => none) = _
      rw [List.drop_left]
      split
      · rfl
      · match t with
        | [] => rfl
        | x :: t =>
          by_cases hx : x = 32
          · subst hx
            exact ih t _ (by simp at hr; omega)
          · cases t with
            | nil =>
              by_cases h41 : x = 41
              · subst h41; rfl
              · split
                · rename_i h; simp at h; exact absurd h.1 hx
                · rename_i h; simp at h; exact absurd h h41
                · rfl
            | cons y t =>
              split
              · rename_i h; simp at h; exact absurd h.1 hx
              · rename_i h; simp at h
              · rfl

theorem parF_mod {r : List UInt8} (h : r ≠ [41]) : parF (40 :: r) = modF r 0 := by
  unfold parF modF
  match r with
  | [] => rfl
  | x :: t =>
    have e1 : (40 :: x :: t : List UInt8).getLast? = (x :: t).getLast? := by simp [List.getLast?_cons]
    rw [e1]
    by_cases h41 : (x :: t).getLast? = some 41
    · rw [if_pos h41, if_neg (by simp [h41]), if_neg]
      · rfl
      · intro hl
        cases t with
        | nil => simp at h41; subst h41; exact h rfl
        | cons y t => simp at hl
    · rw [if_neg h41, if_pos (.inr (.inr h41))]
theorem parF_head {L : List UInt8} (h : L.head? ≠ some 40) : parF L = none := by
  unfold parF
  rw [if_pos (.inr (.inl h))]
theorem parF_two : parF [40, 41] = some 0 := by decide

/-- What is added up grows. -/
theorem wordsF_lt : ∀ (ws : List (List UInt8)) (f g : Nat), f < 32 → wordsF ws f = some g → g < 32 ∧ (∀ j, j < 5 → tb f j = true → tb g j = true) ∧ (∀ w ∈ ws, ∃ k, k < 5 ∧ w = fnm k ∧ tb g k = true) := by
  intro ws
  induction ws with
  | nil =>
    intro f g hf h
    rw [wordsF] at h
    cases h
    exact ⟨hf, fun _ _ h => h, fun w hw => by cases hw⟩
  | cons w ws ih =>
    intro f g hf h
    rcases bitW_cases w with ⟨h1, _⟩ | ⟨k, hk, rfl, _⟩
    · rw [wordsF, if_pos (.inl h1)] at h
      cases h
    · rw [wordsF_cons hk] at h
      cases ht : tb f k with
      | true => rw [ht, if_pos rfl] at h; cases h
      | false =>
        rw [ht, if_neg (by simp)] at h
        obtain ⟨a1, a2⟩ := tb_add hf hk ht
        obtain ⟨b1, b2, b3⟩ := ih _ _ a1 h
        refine ⟨b1, fun j hj hj' => b2 j hj (by rw [a2 j hj, hj']; rfl), fun w hw => ?_⟩
        rcases List.mem_cons.1 hw with rfl | hw
        · exact ⟨k, hk, rfl, b2 k hk (by rw [a2 k hk]; simp)⟩
        · exact b3 w hw
theorem wordsF_append : ∀ (us vs : List (List UInt8)) (f : Nat), wordsF (us ++ vs) f = (wordsF us f).bind (wordsF vs) := by
  intro us
  induction us with
  | nil => intro vs f; rfl
  | cons w us ih =>
    intro vs f
    rw [List.cons_append, wordsF, wordsF]
    split
    · rfl
    · exact ih vs _
/-- How long the names are that were added. -/
def wt (f : Nat) : Nat → Nat
  | 0 => 0
  | k + 1 => wt f k + (if tb f k then (fnm k).length + 1 else 0)
theorem wt_add {f k : Nat} (hf : f < 32) (hk : k < 5) (h : tb f k = false) : wt (f + 2 ^ k) 5 = wt f 5 + (fnm k).length + 1 := by
  have key : ∀ (f : Fin 32) (k : Fin 5), tb f.1 k.1 = false → wt (f.1 + 2 ^ k.1) 5 = wt f.1 5 + (fnm k.1).length + 1 := by decide +kernel
  exact key ⟨f, hf⟩ ⟨k, hk⟩ h
theorem wt_text {f : Nat} (hf : f < 32) : (textF f).length = 1 + wt f 5 ∧ 0 < f ∨ (f = 0 ∧ (textF f).length = 2) := by
  have key : ∀ f : Fin 32, (textF f.1).length = 1 + wt f.1 5 ∧ 0 < f.1 ∨ (f.1 = 0 ∧ (textF f.1).length = 2) := by decide +kernel
  exact key ⟨f, hf⟩
def lens : List (List UInt8) → Nat
  | [] => 0
  | w :: ws => w.length + 1 + lens ws
theorem wordsF_wt : ∀ (ws : List (List UInt8)) (f g : Nat), f < 32 → wordsF ws f = some g → wt g 5 = wt f 5 + lens ws := by
  intro ws
  induction ws with
  | nil =>
    intro f g hf h
    rw [wordsF] at h
    cases h
    rfl
  | cons w ws ih =>
    intro f g hf h
    rcases bitW_cases w with ⟨h1, _⟩ | ⟨k, hk, rfl, _⟩
    · rw [wordsF, if_pos (.inl h1)] at h
      cases h
    · rw [wordsF_cons hk] at h
      cases ht : tb f k with
      | true => rw [ht, if_pos rfl] at h; cases h
      | false =>
        rw [ht, if_neg (by simp)] at h
        rw [ih _ _ (tb_add hf hk ht).1 h, wt_add hf hk ht, lens]
        omega
theorem lens_cutGo (c : UInt8) (L : List UInt8) : ∀ cur, lens (cutGo c cur L) = cur.length + L.length + 1 := by
  induction L with
  | nil => intro cur; simp [cutGo, lens]
  | cons a L ih =>
    intro cur
    rw [cutGo]
    split
    · rw [lens, ih, List.length_cons]; simp; omega
    · rw [ih]; simp; omega
theorem lens_cut (c : UInt8) (L : List UInt8) : lens (cut c L) = L.length + 1 := by
  unfold cut
  rw [lens_cutGo]
  simp

/-- A text of flags that is no pair of brackets. -/
theorem parF_some {L : List UInt8} {f : Nat} (h : parF L = some f) : (L = [40, 41] ∧ f = 0) ∨ ∃ m, L = 40 :: (m ++ [41]) ∧ m ≠ [] ∧ wordsF (cut 32 m) 0 = some f := by
  unfold parF at h
  split at h
  · cases h
  · rename_i hc
    have h1 : ¬ L.length < 2 := fun x => hc (.inl x)
    have h2 : L.head? = some 40 := Classical.byContradiction fun x => hc (.inr (.inl x))
    have h3 : L.getLast? = some 41 := Classical.byContradiction fun x => hc (.inr (.inr x))
    match L with
    | [] => simp at h1
    | a :: r =>
      simp at h2
      subst h2
      have hne : r ≠ [] := by rintro rfl; simp at h1
      have hr : r = r.dropLast ++ [41] := by
        conv => lhs; rw [← List.dropLast_concat_getLast hne]
        have e1 : (40 :: r : List UInt8).getLast? = r.getLast? := by
          cases r with
          | nil => exact absurd rfl hne
          | cons x t => simp [List.getLast?_cons]
        rw [e1, List.getLast?_eq_some_getLast hne] at h3
        rw [Option.some.inj h3]
      split at h
      · rename_i hl
        have : r.dropLast = [] := List.eq_nil_of_length_eq_zero (by rw [List.length_dropLast]; simp at hl; omega)
        refine .inl ⟨?_, (Option.some.inj h).symm⟩
        rw [hr, this]
        rfl
      · rename_i hl
        refine .inr ⟨r.dropLast, congrArg (40 :: ·) hr, ?_, h⟩
        intro hd
        have := congrArg List.length hd
        rw [List.length_dropLast] at this
        simp at this hl
        cases r with
        | nil => exact hne rfl
        | cons x t => simp at this; subst this; simp at hl
theorem parF_mid {m : List UInt8} (h : m ≠ []) : parF (40 :: (m ++ [41])) = wordsF (cut 32 m) 0 := by
  rw [parF_mod (by
    intro e
    cases m with
    | nil => exact h rfl
    | cons x t => simp at e)]
  unfold modF
  rw [if_pos (by simp)]
  simp
theorem parF_lt {L : List UInt8} {f : Nat} (h : parF L = some f) : f < 32 := by
  rcases parF_some h with ⟨_, rfl⟩ | ⟨m, _, _, hm⟩
  · omega
  · exact (wordsF_lt _ _ _ (by omega) hm).1
theorem parF_len {L : List UInt8} {f : Nat} (h : parF L = some f) : (textF f).length = L.length := by
  have hlt := parF_lt h
  rcases parF_some h with ⟨rfl, rfl⟩ | ⟨m, rfl, hm, hw⟩
  · decide
  · have h1 := wordsF_wt _ _ _ (by omega) hw
    rw [lens_cut] at h1
    have h0 : wt 0 5 = 0 := by decide
    rcases wt_text hlt with ⟨h2, _⟩ | ⟨rfl, _⟩
    · rw [h2, h1, h0]
      simp
      omega
    · rw [h0] at h1
      omega
theorem parF_text {f : Nat} (h : f < 32) : parF (textF f) = some f := by
  have key : ∀ f : Fin 32, parF (textF f.1) = some f.1 := by decide +kernel
  exact key ⟨f, h⟩
theorem textF_shape {f : Nat} (h : f < 32) : 2 ≤ (textF f).length ∧ (textF f).length ≤ 40 ∧ (textF f).head? = some 40 ∧ (textF f).getLast? = some 41 ∧ (textF f = [40, 41] ↔ f = 0) := by
  have key : ∀ f : Fin 32, 2 ≤ (textF f.1).length ∧ (textF f.1).length ≤ 40 ∧ (textF f.1).head? = some 40 ∧ (textF f.1).getLast? = some 41 ∧ (textF f.1 = [40, 41] ↔ f.1 = 0) := by decide +kernel
  exact key ⟨f, h⟩
theorem outF_len {f k : Nat} (hf : f < 32) (hk : k ≤ 5) : 1 ≤ (outF f k).length ∧ (outF f k).length ≤ 40 := by
  have key : ∀ (f : Fin 32) (k : Fin 6), 1 ≤ (outF f.1 k.1).length ∧ (outF f.1 k.1).length ≤ 40 := by decide +kernel
  exact key ⟨f, hf⟩ ⟨k, by omega⟩
theorem cut_app (m n : List UInt8) : cut 32 (m ++ 32 :: n) = cut 32 m ++ cut 32 n := by
  have key : ∀ (m cur : List UInt8), cutGo 32 cur (m ++ 32 :: n) = cutGo 32 cur m ++ cut 32 n := by
    intro m
    induction m with
    | nil => intro cur; rw [List.nil_append]; conv => lhs; rw [cutGo, if_pos rfl]
             rfl
    | cons a m ih =>
      intro cur
      rw [List.cons_append, cutGo, cutGo]
      split
      · rw [ih]; rfl
      · exact ih _
  exact key m []
theorem parF_twice {m : List UInt8} {f : Nat} (hm : m ≠ []) (h : parF (40 :: (m ++ [41])) = some f) : parF (40 :: ((m ++ 32 :: m) ++ [41])) = none := by
  rw [parF_mid hm] at h
  rw [parF_mid (by simp), cut_app, wordsF_append, h]
  show wordsF (cut 32 m) f = none
  obtain ⟨a1, a2, a3⟩ := wordsF_lt _ _ _ (by omega) h
  match hc : cut 32 m with
  | [] => have := (cut_len 32 m).1; rw [hc] at this; simp at this
  | w :: ws =>
    obtain ⟨k, hk, rfl, ht⟩ := a3 w (by rw [hc]; simp)
    rw [wordsF_cons hk, ht]
    rfl
theorem parF_seen {m : List UInt8} {f : Nat} (hm : m ≠ []) (h : parF (40 :: (m ++ [41])) = some f) (h2 : tb f 0 = false) : parF (40 :: ((m ++ 32 :: fnm 0) ++ [41])) = some (f + 1) := by
  rw [parF_mid hm] at h
  rw [parF_mid (by simp), cut_app, wordsF_append, h]
  show wordsF (cut 32 (fnm 0)) f = some (f + 1)
  rw [show cut 32 (fnm 0) = [fnm 0] by decide, wordsF_cons (by omega), h2]
  rfl

theorem chI_yes {f o : Nat} {h : Int} (hf : f < 32) (ho : o < 32) (hh : howB h = true) : chI (f : Int) h (o : Int) = (chN f h o : Int) := by
  unfold chI
  rw [isF_of hf, isF_of ho, hh]
  rfl
theorem chI_no {f h o : Int} (hn : (isF f && isF o && howB h) = false) : chI f h o = -1 := by
  unfold chI
  rw [hn]
  rfl
theorem hvI_yes {f o : Nat} (hf : f < 32) (ho : o < 32) : hvI (f : Int) (o : Int) = hvN f o := by
  unfold hvI
  rw [isF_of hf, isF_of ho]
  rfl
theorem hvI_no {f o : Int} (hn : (isF f && isF o) = false) : hvI f o = false := by
  unfold hvI
  rw [hn]
  rfl
theorem set_law {f o : Nat} (hf : f < 32) (ho : o < 32) : hvN (chN f 1 o) f = true ∧ hvN (chN f 1 o) o = true ∧ chN f 1 o ≤ f + o := by
  have key : ∀ f o : Fin 32, hvN (chN f.1 1 o.1) f.1 = true ∧ hvN (chN f.1 1 o.1) o.1 = true ∧ chN f.1 1 o.1 ≤ f.1 + o.1 := by decide +kernel
  exact key ⟨f, hf⟩ ⟨o, ho⟩
theorem rem_law {f o : Nat} (hf : f < 32) (ho : o < 32) : hvN f (chN f (-1) o) = true ∧ chN (chN f (-1) o) (-1) o = chN f (-1) o ∧ chN (chN f (-1) o) 1 o = chN f 1 o := by
  have key : ∀ f o : Fin 32, hvN f.1 (chN f.1 (-1) o.1) = true ∧ chN (chN f.1 (-1) o.1) (-1) o.1 = chN f.1 (-1) o.1 ∧ chN (chN f.1 (-1) o.1) 1 o.1 = chN f.1 1 o.1 := by decide +kernel
  exact key ⟨f, hf⟩ ⟨o, ho⟩
theorem twice_law {f o : Nat} {h : Int} (hf : f < 32) (ho : o < 32) (hh : howB h = true) : chN (chN f h o) h o = chN f h o := by
  have key : ∀ f o : Fin 32, chN (chN f.1 1 o.1) 1 o.1 = chN f.1 1 o.1 ∧ chN (chN f.1 (-1) o.1) (-1) o.1 = chN f.1 (-1) o.1 ∧ chN (chN f.1 0 o.1) 0 o.1 = chN f.1 0 o.1 := by decide +kernel
  have := key ⟨f, hf⟩ ⟨o, ho⟩
  rcases how_of hh with rfl | rfl | rfl
  · exact this.1
  · exact this.2.1
  · exact this.2.2
theorem order_law {f o : Nat} (hf : f < 32) (ho : o < 32) : chN o 1 f = chN f 1 o := by
  have key : ∀ f o : Fin 32, chN o.1 1 f.1 = chN f.1 1 o.1 := by decide +kernel
  exact key ⟨f, hf⟩ ⟨o, ho⟩
theorem self_law {f : Nat} (hf : f < 32) : hvN f f = true ∧ hvN f 0 = true ∧ hvN 31 f = true := by
  have key : ∀ f : Fin 32, hvN f.1 f.1 = true ∧ hvN f.1 0 = true ∧ hvN 31 f.1 = true := by decide +kernel
  exact key ⟨f, hf⟩
theorem chI_order (f o : Int) : chI o 1 f = chI f 1 o := by
  cases h : isF f && isF o with
  | true =>
    rw [Bool.and_eq_true] at h
    obtain ⟨a, ha, rfl⟩ := isF_nat h.1
    obtain ⟨b, hb, rfl⟩ := isF_nat h.2
    rw [chI_yes ha hb (by decide), chI_yes hb ha (by decide), order_law ha hb]
  | false =>
    rw [chI_no (f := o) (o := f) (by rw [Bool.and_comm (isF o), h]; rfl), chI_no (f := f) (o := o) (by rw [h]; rfl)]
theorem chI_range (f h o : Int) : chI f h o = -1 ∨ ∃ a b : Nat, a < 32 ∧ b < 32 ∧ f = (a : Int) ∧ o = (b : Int) ∧ howB h = true ∧ chI f h o = (chN a h b : Int) ∧ chN a h b < 32 := by
  cases hh : isF f && isF o && howB h with
  | false => exact .inl (chI_no hh)
  | true =>
    rw [Bool.and_eq_true, Bool.and_eq_true] at hh
    obtain ⟨⟨h1, h2⟩, h3⟩ := hh
    obtain ⟨a, ha, rfl⟩ := isF_nat h1
    obtain ⟨b, hb, rfl⟩ := isF_nat h2
    exact .inr ⟨a, b, ha, hb, rfl, rfl, h3, chI_yes ha hb h3, chN_lt ha hb h3⟩
end Go.Proofs.YtpihibconbejlaaDoor
namespace Go.Proofs.YtpihibconbejlaaDoor
set_option linter.unusedVariables false

/-- A message: its number, its flags, its text. -/
abbrev ML := Int × Int × List UInt8
/-- A valid message. -/
def mOk (m : ML) : Bool := (decide (1 ≤ m.1) && decide (m.1 ≤ 99)) && isF m.2.1 && decide (m.2.2.length ≤ 20)
theorem mOk_iff {m : ML} : mOk m = true ↔ (1 ≤ m.1 ∧ m.1 ≤ 99) ∧ isF m.2.1 = true ∧ m.2.2.length ≤ 20 := by
  unfold mOk
  simp [and_assoc]
/-- The greatest number of ascending valid messages behind 'l', if they are so. -/
def chk : Int → List ML → Option Int
  | l, [] => some l
  | l, m :: r => if mOk m && decide (l < m.1) then chk m.1 r else none
/-- A valid mailbox. -/
def bOk (n : Int) (L : List ML) : Bool :=
  match chk 0 L with
  | none => false
  | some l => (decide (l + 1 ≤ n) && decide (n ≤ 100)) && decide (L.length ≤ 10)
def Asc (L : List ML) : Prop := L.Pairwise fun a b => a.1 < b.1

theorem chk_some : ∀ {L : List ML} {l z : Int}, chk l L = some z → (∀ m ∈ L, mOk m = true ∧ l < m.1 ∧ m.1 ≤ z) ∧ Asc L ∧ l ≤ z ∧ (z = l ∨ ∃ m ∈ L, m.1 = z)
  | [], l, z, h => by
    rw [chk] at h
    cases h
    exact ⟨fun m hm => (by cases hm), List.Pairwise.nil, Int.le_refl _, .inl rfl⟩
  | x :: L, l, z, h => by
    rw [chk] at h
    split at h
    · rename_i hx
      rw [Bool.and_eq_true, decide_eq_true_eq] at hx
      obtain ⟨h1, h2, h3, h4⟩ := chk_some h
      refine ⟨fun m hm => ?_, ?_, by omega, ?_⟩
      · rcases List.mem_cons.1 hm with rfl | hm
        · exact ⟨hx.1, hx.2, h3⟩
        · have := h1 m hm
          exact ⟨this.1, by omega, this.2.2⟩
      · exact .cons (fun m hm => (h1 m hm).2.1) h2
      · rcases h4 with rfl | ⟨m, hm, e⟩
        · exact .inr ⟨x, by simp, rfl⟩
        · exact .inr ⟨m, by simp [hm], e⟩
    · cases h
theorem chk_of : ∀ {L : List ML} {l : Int}, (∀ m ∈ L, mOk m = true ∧ l < m.1) → Asc L → ∃ z, chk l L = some z
  | [], l, _, _ => ⟨l, rfl⟩
  | x :: L, l, h, ha => by
    have hx := h x (by simp)
    rw [chk, if_pos (by rw [hx.1, decide_eq_true hx.2]; rfl)]
    cases ha with
    | cons h1 h2 => exact chk_of (fun m hm => ⟨(h m (by simp [hm])).1, h1 m hm⟩) h2
theorem bOk_iff {n : Int} {L : List ML} : bOk n L = true ↔ (∀ m ∈ L, mOk m = true ∧ m.1 < n) ∧ Asc L ∧ 1 ≤ n ∧ n ≤ 100 ∧ L.length ≤ 10 := by
  unfold bOk
  constructor
  · intro h
    cases hc : chk 0 L with
    | none => rw [hc] at h; cases h
    | some z =>
      rw [hc] at h
      simp at h
      obtain ⟨h1, h2, h3, _⟩ := chk_some hc
      exact ⟨fun m hm => ⟨(h1 m hm).1, by have := (h1 m hm).2.2; omega⟩, h2, by omega, h.1.2, h.2⟩
  · rintro ⟨h1, h2, h3, h4, h5⟩
    obtain ⟨z, hz⟩ := chk_of (L := L) (l := 0) (fun m hm => ⟨(h1 m hm).1, by have := (mOk_iff.1 (h1 m hm).1).1; omega⟩) h2
    rw [hz]
    have h6 : z + 1 ≤ n := by
      rcases (chk_some hz).2.2.2 with rfl | ⟨m, hm, rfl⟩
      · omega
      · have := (h1 m hm).2; omega
    simp [h4, h5, h6]
theorem bOk_sub {n : Int} {L M : List ML} (h : bOk n L = true) (hs : List.Sublist M L) : bOk n M = true := by
  obtain ⟨h1, h2, h3, h4, h5⟩ := bOk_iff.1 h
  exact bOk_iff.2 ⟨fun m hm => h1 m (hs.subset hm), List.Pairwise.sublist hs h2, h3, h4, Nat.le_trans hs.length_le h5⟩

/-- A mailbox with a message more, if there is space and a number. -/
def bxAdd (n : Int) (L : List ML) (f : Int) (t : List UInt8) : Int × List ML × Bool := if 10 ≤ L.length ∨ 99 < n then (n, L, false) else (n + 1, L ++ [(n, f, t)], true)
/-- BoxAppend. -/
def bxAp (n : Int) (L : List ML) (f : Int) (t : List UInt8) : Int × List ML × Bool := if bOk n L && isF f && decide (t.length ≤ 20) then bxAdd n L f t else (0, [], false)
theorem app_ok {n : Int} {L : List ML} {f : Int} {t : List UInt8} (h : bOk n L = true) (hf : isF f = true) (ht : t.length ≤ 20) (hl : L.length < 10) (hn : n ≤ 99) : bOk (n + 1) (L ++ [(n, f, t)]) = true := by
  obtain ⟨h1, h2, h3, h4, h5⟩ := bOk_iff.1 h
  refine bOk_iff.2 ⟨fun m hm => ?_, ?_, by omega, by omega, by rw [List.length_append, List.length_singleton]; omega⟩
  · rcases List.mem_append.1 hm with hm | hm
    · exact ⟨(h1 m hm).1, by have := (h1 m hm).2; omega⟩
    · rw [List.mem_singleton.1 hm]
      exact ⟨mOk_iff.2 ⟨⟨h3, hn⟩, hf, ht⟩, by show n < n + 1; omega⟩
  · refine List.pairwise_append.2 ⟨h2, List.pairwise_singleton _ _, fun a ha b hb => ?_⟩
    rw [List.mem_singleton.1 hb]
    exact (h1 a ha).2
theorem bxAp_yes {n : Int} {L : List ML} {f : Int} {t : List UInt8} (h : (bxAp n L f t).2.2 = true) : bOk n L = true ∧ isF f = true ∧ t.length ≤ 20 ∧ L.length < 10 ∧ n ≤ 99 ∧ bxAp n L f t = (n + 1, L ++ [(n, f, t)], true) := by
  unfold bxAp at h ⊢
  split at h
  · rename_i hc
    rw [Bool.and_eq_true, Bool.and_eq_true, decide_eq_true_eq] at hc
    rw [if_pos (by rw [hc.1.1, hc.1.2, decide_eq_true hc.2]; rfl)]
    unfold bxAdd at h ⊢
    split at h
    · cases h
    · rename_i hs
      rw [if_neg hs]
      exact ⟨hc.1.1, hc.1.2, hc.2, by omega, by omega, rfl⟩
  · cases h
theorem dup_bad {n : Int} {L : List ML} {k : Nat} (hk : k < L.length) : bOk n (L.take (k + 1) ++ L.drop k) = false := by
  rw [← Bool.not_eq_true]
  intro h
  obtain ⟨_, h2, _⟩ := bOk_iff.1 h
  have := (List.pairwise_append.1 h2).2.2 L[k] (by rw [List.take_succ_eq_append_getElem hk]; exact List.mem_append_right _ (List.mem_singleton.2 rfl)) L[k] (by rw [List.drop_eq_getElem_cons hk]; exact List.mem_cons_self)
  omega
theorem without_ok {n : Int} {L : List ML} {k : Nat} (h : bOk n L = true) : bOk n (L.take k ++ L.drop (k + 1)) = true := by
  refine bOk_sub h ?_
  conv => rhs; rw [← List.take_append_drop k L]
  refine List.Sublist.append (List.Sublist.refl _) ?_
  rw [← List.drop_drop]
  exact List.drop_sublist _ _
theorem next_bad {n : Int} {L : List ML} {m : ML} (hm : m ∈ L) : bOk m.1 L = false := by
  rw [← Bool.not_eq_true]
  intro h
  have := ((bOk_iff.1 h).1 m hm).2
  omega
theorem next_top {n : Int} {L : List ML} (h : bOk n L = true) : bOk 100 L = true := by
  obtain ⟨h1, h2, h3, h4, h5⟩ := bOk_iff.1 h
  exact bOk_iff.2 ⟨fun m hm => ⟨(h1 m hm).1, by have := (h1 m hm).2; omega⟩, h2, by omega, by omega, h5⟩

/-- Ascending places of 'len' messages, behind 'l'. -/
def plc (len : Nat) : Int → List Int → Bool
  | _, [] => true
  | l, x :: r => decide (l < x) && decide (x ≤ (len : Int)) && plc len x r
theorem plc_iff {len : Nat} : ∀ {P : List Int} {l : Int}, plc len l P = true ↔ (∀ x ∈ P, l < x ∧ x ≤ (len : Int)) ∧ P.Pairwise (· < ·)
  | [], l => by simp [plc]
  | x :: P, l => by
    rw [plc, Bool.and_eq_true, Bool.and_eq_true, decide_eq_true_eq, decide_eq_true_eq, plc_iff, List.pairwise_cons]
    constructor
    · rintro ⟨⟨h1, h2⟩, h3, h4⟩
      refine ⟨fun y hy => ?_, fun y hy => (h3 y hy).1, h4⟩
      rcases List.mem_cons.1 hy with rfl | hy
      · exact ⟨h1, h2⟩
      · have := h3 y hy; exact ⟨by omega, this.2⟩
    · rintro ⟨h1, h2, h3⟩
      have hx := h1 x (by simp)
      exact ⟨⟨hx.1, hx.2⟩, fun y hy => ⟨h2 y hy, (h1 y (by simp [hy])).2⟩, h3⟩

/-- A message with changed flags. -/
def chM (h f : Int) (m : ML) : ML := (m.1, (chN m.2.1.toNat h f.toNat : Int), m.2.2)
/-- The messages at the given places with changed flags; 'i' is the place of the first one. -/
def flM (P : List Int) (h f : Int) : Nat → List ML → List ML
  | _, [] => []
  | i, m :: r => (if P.contains (i : Int) then chM h f m else m) :: flM P h f (i + 1) r
theorem flM_len (P : List Int) (h f : Int) : ∀ (i : Nat) (L : List ML), (flM P h f i L).length = L.length
  | _, [] => rfl
  | i, m :: r => by rw [flM, List.length_cons, flM_len, List.length_cons]
theorem flM_get (P : List Int) (h f : Int) : ∀ (i k : Nat) (L : List ML) (m : ML), L[k]? = some m → (flM P h f i L)[k]? = some (if P.contains ((i + k : Nat) : Int) then chM h f m else m)
  | i, k, [], m, hk => by simp at hk
  | i, 0, x :: r, m, hk => by
    simp at hk
    subst hk
    rw [flM]
    rfl
  | i, k + 1, x :: r, m, hk => by
    rw [flM, List.getElem?_cons_succ, flM_get P h f (i + 1) k r m (by simpa using hk)]
    rw [show i + 1 + k = i + (k + 1) by omega]
theorem flM_nil (h f : Int) : ∀ (i : Nat) (L : List ML), flM [] h f i L = L
  | _, [] => rfl
  | i, m :: r => by rw [flM, flM_nil]; rfl
/-- BoxFlags. -/
def bxFl (n : Int) (L : List ML) (P : List Int) (h f : Int) : Int × List ML × Bool := if bOk n L && plc L.length 0 P && howB h && isF f then (n, flM P h f 1 L, true) else (0, [], false)

/-- A deleted message. -/
def dlM (m : ML) : Bool := tb m.2.1.toNat 3
def kpM (L : List ML) : List ML := L.filter fun m => !dlM m
/-- The places of the deleted messages, where 'k' others are kept ahead. -/
def gnM : Nat → List ML → List Nat
  | _, [] => []
  | k, m :: r => if dlM m then (k + 1) :: gnM k r else gnM (k + 1) r
/-- BoxExpunge. -/
def bxEx (n : Int) (L : List ML) : Int × List ML × List Nat := if bOk n L then (n, kpM L, gnM 0 L) else (0, [], [])

/-- Messages appended one after the other. -/
def cpA : Int → List ML → List ML → Option (Int × List ML)
  | n, M, [] => some (n, M)
  | n, M, m :: r => if 10 ≤ M.length ∨ 99 < n then none else cpA (n + 1) (M ++ [(n, m.2.1, m.2.2)]) r
/-- The messages at places. -/
def atM (L : List ML) (P : List Int) : List ML := P.map fun x => L.getD (x.toNat - 1) (0, 0, [])
/-- BoxCopy. -/
def bxCp (n : Int) (L : List ML) (P : List Int) (m : Int) (M : List ML) : Int × List ML × Bool :=
  if bOk n L && bOk m M && plc L.length 0 P then
    match cpA m M (atM L P) with
    | some r => (r.1, r.2, true)
    | none => (m, M, false)
  else (0, [], false)

/-- BoxUids; 'i' is the place of the first message. -/
def udM (U : List Int) : Nat → List ML → List Nat
  | _, [] => []
  | i, m :: r => if U.contains m.1 then i :: udM U (i + 1) r else udM U (i + 1) r
def bxUd (n : Int) (L : List ML) (U : List Int) : List Nat := if bOk n L then udM U 1 L else []
/-- BoxSize. -/
def szM (L : List ML) : Nat := (L.map fun m => m.2.2.length).sum
def bxSz (n : Int) (L : List ML) : Int := if bOk n L then (szM L : Int) else -1
end Go.Proofs.YtpihibconbejlaaDoor
