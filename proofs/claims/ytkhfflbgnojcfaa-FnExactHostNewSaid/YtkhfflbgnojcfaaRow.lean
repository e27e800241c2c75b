/-
  Slices whose elements take several cells, for whatever element: what can be read behind an address, and a slice of the call's own. Plain lemmas; no condition.
-/
import Derived.Test.YtkhfflbgnojcfaaBase
import Derived.Maps.AppendAt
import Derived.Laws.OwnMore
import Derived.OwnWalk
import Derived.Laws.AppendOwnNone
import Derived.Deep.RegionWith
namespace Go.Proofs.Ytkhfflbgnojcfaa
open Go.RowKit
set_option linter.unusedVariables false

/-- How an element lies in memory: its type, its cells. -/
structure RowT (α : Type) where
  t : TypeId
  sz : Nat
  enc : α → List Value
  len : ∀ x, (enc x).length = sz
  one : ∀ x, ∀ u ∈ enc x, u.oneCell' = true
section
variable {α : Type} {R : RowT α} {w w' : World} {A : Option Addr} {L M : List α} {B B' n cap g k : Nat} {v : Value} {x y : α}

def rcells (R : RowT α) (L : List α) : List Value := L.flatMap R.enc
theorem rcells_len (R : RowT α) (L : List α) : (rcells R L).length = L.length * R.sz := by
  induction L with
  | nil => simp [rcells]
  | cons x L ih =>
    unfold rcells at ih ⊢
    rw [List.flatMap_cons, List.length_append, ih, R.len, List.length_cons, Nat.succ_mul]
    omega
theorem rcells_app (R : RowT α) (L M : List α) : rcells R (L ++ M) = rcells R L ++ rcells R M := by unfold rcells; rw [List.flatMap_append]
theorem rcells_one (R : RowT α) (x : α) : rcells R [x] = R.enc x := by simp [rcells]
theorem rcells_get (R : RowT α) : ∀ {L : List α} {i : Nat} {x : α}, L[i]? = some x → ∀ {j : Nat} {u : Value}, (R.enc x)[j]? = some u → (rcells R L)[i * R.sz + j]? = some u
  | [], i, x, h, _, _, _ => by simp at h
  | y :: L, 0, x, h, j, u, hu => by
    simp at h
    subst h
    unfold rcells
    rw [List.flatMap_cons, Nat.zero_mul, Nat.zero_add, List.getElem?_append_left (List.getElem?_eq_some_iff.1 hu).1]
    exact hu
  | y :: L, i + 1, x, h, j, u, hu => by
    have ih := rcells_get R (L := L) (i := i) (x := x) (by simpa using h) hu
    unfold rcells at ih ⊢
    rw [List.flatMap_cons, List.getElem?_append_right (by rw [R.len, Nat.succ_mul]; omega), R.len, show (i + 1) * R.sz + j - R.sz = i * R.sz + j by rw [Nat.succ_mul]; omega]
    exact ih
theorem rcells_cell (R : RowT α) (L : List α) : ∀ u ∈ rcells R L, u.oneCell' = true := by
  intro u hu
  unfold rcells at hu
  obtain ⟨x, _, hx⟩ := List.mem_flatMap.1 hu
  exact R.one x u hx

/-- The elements of a list can be read behind an address. -/
def RAt (R : RowT α) (w : World) (A : Option Addr) (L : List α) : Prop :=
  ∀ i x, L[i]? = some x → ∃ b o, A = some ⟨b, o, none⟩ ∧ b < w.heap.size ∧ ∀ j u, (R.enc x)[j]? = some u → w.cell? ⟨b, o + i * R.sz + j, none⟩ = some u
theorem RAt.kept (h : RAt R w A L) (hz : w.heap.size ≤ w'.heap.size) (hk : ∀ p : Addr, p.block < w.heap.size → w'.cell? p = w.cell? p) : RAt R w' A L := fun i x hx => by
  obtain ⟨b, o, hA, hb, h1⟩ := h i x hx
  exact ⟨b, o, hA, by omega, fun j u hu => (hk _ hb).trans (h1 j u hu)⟩
theorem RAt.below (h : RAt R w A L) (hb : Below B w w') (hB : w.heap.size ≤ B) : RAt R w' A L := h.kept hb.size fun p hp => hb.cell (by omega)
theorem RAt.drewN (h : RAt R w A L) (n : Nat) : RAt R (w.drewN n) A L := h
theorem RAt.drew (h : RAt R w A L) : RAt R w.drew A L := h
theorem RAt.nil (w : World) (A : Option Addr) : RAt R w A [] := fun i x hx => by simp at hx
theorem RAt.pre (h : RAt R w A (L ++ M)) : RAt R w A L := fun i x hx => h i x (by rw [List.getElem?_append_left (List.getElem?_eq_some_iff.1 hx).1]; exact hx)
theorem RAt.take (h : RAt R w A L) (k : Nat) : RAt R w A (L.take k) := RAt.pre (M := L.drop k) (by rw [List.take_append_drop]; exact h)
theorem RAt.drop {b o : Nat} (h : RAt R w (some ⟨b, o, none⟩) L) (k : Nat) : RAt R w (some ⟨b, o + k * R.sz, none⟩) (L.drop k) := fun i x hx => by
  rw [List.getElem?_drop] at hx
  obtain ⟨b', o', hA, hb, h1⟩ := h (k + i) x hx
  cases hA
  refine ⟨_, _, rfl, hb, fun j u hu => ?_⟩
  rw [show o + k * R.sz + i * R.sz + j = o + (k + i) * R.sz + j by rw [Nat.add_mul]; omega]
  exact h1 j u hu
theorem RAt.grown (h : RAt R w A L) (hg : w.grownBy w' (some g)) (hne : ∀ b o, A = some ⟨b, o, none⟩ → b ≠ g) : RAt R w' A L := fun i x hx => by
  obtain ⟨b, o, hA, hb, h1⟩ := h i x hx
  have hb' := hne b o hA
  exact ⟨b, o, hA, Nat.lt_of_lt_of_le hb hg.size, fun j u hu => (World.cell?_of_block (hg.block b hb (by simp; exact hb'))).trans (h1 j u hu)⟩

theorem radd (b o n : Nat) : (⟨b, o, none⟩ : Addr).add n = ⟨b, o + n, none⟩ := by unfold Addr.add; split <;> simp_all
/-- A slice of the call's own. -/
def ROwn (R : RowT α) (w : World) (B : Nat) (v : Value) (L : List α) : Prop := w.ownsRow B R.t R.sz v L.length (rcells R L)
theorem ROwn.form (h : ROwn R w B v L) : ∃ A cap, v = .slice A L.length cap ∧ L.length ≤ cap ∧ cap ≤ maxLen ∧ RAt R w A L ∧ (∀ b o, A = some ⟨b, o, none⟩ → o = 0 ∧ B ≤ b ∧ b < w.heap.size) ∧ (L ≠ [] → ∃ g, A = some ⟨g, 0, none⟩) := by
  have hc : ∀ g, v.ownBlock = some g → ∀ j u, (rcells R L)[j]? = some u → w.cell? ((⟨g, 0, none⟩ : Addr).add j) = some u := fun g hg => World.ownsRow.cells h hg
  have h2 := World.ownsRow.lt h
  rcases h.2 with ⟨rfl, h0⟩ | ⟨g, cap, cur, rfl, hB, hg, hn, hm, hs, ht⟩
  · refine ⟨none, 0, by rw [h0], by omega, by unfold maxLen; omega, ?_, fun b o e => (by cases e), fun hne => absurd (List.eq_nil_of_length_eq_zero h0) hne⟩
    rw [List.eq_nil_of_length_eq_zero h0]
    exact RAt.nil _ _
  · refine ⟨_, cap, rfl, hn, hm, fun i x hx => ⟨g, 0, rfl, (h2 g rfl).2, fun j u hu => ?_⟩, fun b o e => ?_, fun _ => ⟨g, rfl⟩⟩
    · have := hc g rfl _ _ (rcells_get R hx hu)
      rw [radd] at this
      rw [Nat.zero_add] at this ⊢
      exact this
    · cases e
      exact ⟨rfl, hB, (h2 g rfl).2⟩
theorem ROwn.kept (h : ROwn R w B v L) (hb : Below w.heap.size w w') : ROwn R w' B v L := by
  unfold ROwn
  refine World.ownsRow.kept (row := none) h ⟨hb.os, hb.tape, hb.output, hb.size, fun k hk _ => hb.block k hk⟩ ?_
  cases hv : v.ownBlock <;> simp
theorem ROwn.drewN (h : ROwn R w B v L) (n : Nat) : ROwn R (w.drewN n) B v L := h
theorem ROwn.from (h : ROwn R w B v L) (hb : B' ≤ B) : ROwn R w B' v L := by
  refine ⟨h.1, ?_⟩
  rcases h.2 with h2 | ⟨g, cap, cur, hv, hB, rest⟩
  · exact .inl h2
  · exact .inr ⟨g, cap, cur, hv, by omega, rest⟩
theorem ROwn.grown {b : Nat} (h : ROwn R w B v L) (hg : w.grownBy w' (some b)) (hb : b < B) : ROwn R w' B v L :=
  World.ownsRow.kept h hg (by
    rcases h.2 with ⟨rfl, _⟩ | ⟨g, cap, cur, rfl, hB, _⟩
    · exact Or.inl rfl
    · exact Or.inr (by simp [Value.ownBlock]; omega))
theorem ROwn.apart {row : Option Nat} (h : ROwn R w B v L) (hg : w.grownBy w' row) (hne : v.ownBlock = none ∨ v.ownBlock ≠ row) : ROwn R w' B v L := World.ownsRow.kept h hg hne
theorem ROwn.alloc (h : ROwn R w B v L) (o : Obj) : ROwn R (w.alloc o) B v L := World.ownsRow.alloc h o
theorem ROwn.nil (w : World) (B : Nat) : ROwn R w B (.slice none 0 0) [] := World.ownsRow_nil w B _ _
theorem ROwn.lit (w : World) (N : Nat) (hB : B ≤ w.heap.size) (hN : w.heap.size = N) : ROwn R (w.alloc (.cells #[] R.t)) B (.slice (some ⟨N, 0, none⟩) 0 0) [] := by
  subst hN
  exact World.ownsRow_lit w #[] 0 hB (by unfold maxLen; omega) (by simp)
theorem ROwn.row (h : ROwn R w B v L) (hn : L.length = n) : w.ownsRow B R.t R.sz v n (rcells R L) := by subst hn; exact h
theorem ROwn.of (h : w.ownsRow B R.t R.sz v n (rcells R L)) (hn : n = L.length) : ROwn R w B v L := by subst hn; exact h
theorem ROwn.push {x : α} (h : w.ownsRow B R.t R.sz v n (rcells R L ++ R.enc x)) (hn : n = L.length + 1) : ROwn R w B v (L ++ [x]) := by
  unfold ROwn
  rw [rcells_app, rcells_one, List.length_append, List.length_singleton, ← hn]
  exact h
theorem ROwn.cat (h : w.ownsRow B R.t R.sz v n (rcells R L ++ rcells R M)) (hn : n = L.length + M.length) : ROwn R w B v (L ++ M) := by
  unfold ROwn
  rw [rcells_app, List.length_append, ← hn]
  exact h
theorem ROwn.len (h : ROwn R w B (.slice A n cap) L) : n = L.length ∧ n ≤ cap ∧ cap ≤ maxLen := by
  obtain ⟨A, c, he, h1, h2, _⟩ := h.form
  cases he
  exact ⟨rfl, h1, h2⟩
theorem ROwn.at (h : ROwn R w B (.slice A n cap) L) : RAt R w A L := by
  obtain ⟨A, c, he, _, _, hs, _⟩ := h.form
  cases he
  exact hs
theorem ROwn.ne (h : ROwn R w B v L) : v.ownBlock ≠ some w.heap.size := fun e => by
  have := (World.ownsRow.lt h _ e).2
  omega
theorem ROwn.store (h : ROwn R w B v L) {p : Addr} (hne : v.ownBlock ≠ some p.block) (u : Value) : ROwn R (w.setCell p u) B v L :=
  World.ownsRow.kept (row := some p.block) h ⟨rfl, rfl, rfl, by simp [World.setCell], fun k hk hn => Below.heap_setCell w p u k (fun e => hn (by rw [e]))⟩ (.inr hne)
theorem ROwn.cell (h : ROwn R w B (.slice (some ⟨g, 0, none⟩) n cap) L) (hx : L[k]? = some x) {j : Nat} {u : Value} (hu : (R.enc x)[j]? = some u) : w.cell? ⟨g, k * R.sz + j, none⟩ = some u := by
  obtain ⟨b, o, he, _, h1⟩ := h.at k x hx
  cases he
  have := h1 j u hu
  rw [Nat.zero_add] at this
  exact this
theorem ROwn.free (h : ROwn R w B (.slice (some ⟨g, 0, none⟩) n cap) L) (j : Nat) : w.frozen? ⟨g, j, none⟩ = false :=
  World.ownsRow.frozenAt (h.row h.len.1.symm) j
theorem ROwn.nilcap (h : ROwn R w B (.slice A n cap) L) : A = none → cap = 0 := by
  rintro rfl
  rcases h.2 with ⟨he, _⟩ | ⟨g, c, cur, he, _⟩
  · cases he; rfl
  · cases he
theorem ROwn.spot (h : ROwn R w B (.slice A n cap) L) : ∀ q, A = some q → q.spot = none := by
  rintro q rfl
  rcases h.2 with ⟨he, _⟩ | ⟨g, c, cur, he, _⟩
  · cases he
  · cases he; rfl
theorem ROwn.base (h : ROwn R w B v L) : ∀ b, b < B → v.ownBlock ≠ some b := fun b hb e => by
  have := (World.ownsRow.lt h _ e).1
  omega
theorem ROwn.val (h : ROwn R w B v L) : ∃ A n cap, v = .slice A n cap := by
  obtain ⟨A, c, he, _⟩ := h.form
  exact ⟨A, _, c, he⟩
theorem ROwn.whole {b : Nat} {t : TypeId} {cs : Array Value} (h : ROwn R w B v L) (hW : Whole w b t cs) (ht : t ≠ R.t) : v.ownBlock ≠ some b := by
  intro e
  rcases h.2 with ⟨rfl, _⟩ | ⟨g, c, cur, rfl, _, hg, _⟩
  · cases e
  · cases e
    have := hW.symm.trans hg
    cases this
    exact ht rfl
theorem own_apart {β : Type} {S : RowT β} {M : List β} {v2 : Value} {B2 : Nat} (h : ROwn R w B v L) (h2 : ROwn S w B2 v2 M) (ht : R.t ≠ S.t) : v.ownBlock = none ∨ v.ownBlock ≠ v2.ownBlock := by
  rcases h.2 with ⟨rfl, _⟩ | ⟨g, c, cur, rfl, _, hg, _⟩
  · exact .inl rfl
  · refine .inr fun e => ?_
    rcases h2.2 with ⟨rfl, _⟩ | ⟨g2, c2, cur2, rfl, _, hg2, _⟩
    · cases e
    · cases e
      have e3 := Option.some.inj (hg.symm.trans hg2)
      injection e3 with e4 e5
      exact ht e5
theorem rcells_set (R : RowT α) {L : List α} {k : Nat} {x y : α} {j : Nat} {u : Value} (hx : L[k]? = some x) (hj : j < R.sz) (hy : R.enc y = (R.enc x).set j u) : (rcells R L).set (k * R.sz + j) u = rcells R (L.set k y) := by
  have hk := (List.getElem?_eq_some_iff.1 hx).1
  have e : L = L.take k ++ x :: L.drop (k + 1) := by
    conv => lhs; rw [← List.take_append_drop k L, List.drop_eq_getElem_cons hk]
    rw [(List.getElem?_eq_some_iff.1 hx).2]
  have hlt : (L.take k).length = k := by rw [List.length_take]; omega
  have e2 : L.set k y = L.take k ++ y :: L.drop (k + 1) := by
    conv => lhs; rw [e]
    rw [List.set_append_right _ _ (by omega), hlt, Nat.sub_self, List.set_cons_zero]
  rw [e2]
  conv => lhs; rw [e]
  have e3 : ∀ z : α, rcells R (L.take k ++ z :: L.drop (k + 1)) = rcells R (L.take k) ++ (R.enc z ++ rcells R (L.drop (k + 1))) := fun z => by
    rw [rcells_app]
    congr 1
  rw [e3, e3, List.set_append_right _ _ (by rw [rcells_len, hlt]; omega), rcells_len, hlt, Nat.add_sub_cancel_left, List.set_append_left _ _ (by rw [R.len]; exact hj), hy]
theorem ROwn.stored (h : ROwn R w B (.slice (some ⟨g, 0, none⟩) n cap) L) (hx : L[k]? = some x) {j : Nat} {u : Value} (hj : j < R.sz) (hy : R.enc y = (R.enc x).set j u) :
    ROwn R (w.setCell ⟨g, k * R.sz + j, none⟩ u) B (.slice (some ⟨g, 0, none⟩) n cap) (L.set k y) ∧ w.grownBy (w.setCell ⟨g, k * R.sz + j, none⟩ u) (some g) := by
  obtain ⟨h1, g1⟩ := World.ownsRow.stored (h.row h.len.1.symm) (k * R.sz + j) u
  refine ⟨?_, g1⟩
  rw [rcells_set R hx hj hy] at h1
  exact ROwn.of h1 (by rw [List.length_set]; exact h.len.1)
theorem rnew (w : World) (cs : List Value) (t : TypeId) (N : Nat) (hN : w.heap.size = N) : ∀ j u, cs[j]? = some u → (w.alloc (.cells cs.toArray t)).cell? ((⟨N, 0, none⟩ : Addr).add j) = some u := by
  subst hN
  intro j u hj
  rw [radd, Nat.zero_add, (Whole.made w t cs.toArray).cell j, List.getElem?_toArray]
  exact hj
theorem set_next {L : List α} {n k : Nat} {x z : α} (hn : L.length = n) (hx : L[k]? = some x) : (L.take k ++ List.replicate (n - k) z).set k x = L.take (k + 1) ++ List.replicate (n - (k + 1)) z := by
  have hk := (List.getElem?_eq_some_iff.1 hx).1
  have hl : (L.take k).length = k := by rw [List.length_take]; omega
  rw [List.set_append_right _ _ (by omega), hl, Nat.sub_self, show n - k = (n - (k + 1)) + 1 by omega, List.replicate_succ, List.set_cons_zero, List.take_add_one, hx, List.append_assoc]
  rfl
theorem set_front {P L : List α} {i : Nat} (x : α) (hp : P.length = i) (hi : i < L.length) : (P ++ L.drop i).set i x = P ++ [x] ++ L.drop (i + 1) := by
  rw [List.set_append_right _ _ (by omega), hp, Nat.sub_self, List.drop_eq_getElem_cons hi, List.set_cons_zero, List.append_assoc]
  rfl
theorem front_some {P L : List α} {i : Nat} (hp : P.length = i) (hi : i < L.length) : (P ++ L.drop i)[i]? = some L[i] := by
  rw [List.getElem?_append_right (by omega), hp, Nat.sub_self, List.getElem?_drop, Nat.add_zero, List.getElem?_eq_getElem hi]
theorem made_rows (R : RowT α) (z : Value) (d : α) (hz : z.cells.toList = R.enc d) (h0 : 0 < R.sz) (n : Nat) : (madeCells z.cells (n * R.sz)).toList = rcells R (List.replicate n d) := by
  have hzs : z.cells.size = R.sz := by rw [← R.len d, ← hz, Array.length_toList]
  apply List.ext_getElem?
  intro j
  have hl : (rcells R (List.replicate n d)).length = n * R.sz := by rw [rcells_len, List.length_replicate]
  by_cases hj : j < n * R.sz
  · have hm : j % R.sz < R.sz := Nat.mod_lt _ h0
    obtain ⟨u, hu⟩ : ∃ u, (R.enc d)[j % R.sz]? = some u := ⟨_, List.getElem?_eq_getElem (by rw [R.len]; exact hm)⟩
    have hr : (List.replicate n d)[j / R.sz]? = some d := by rw [List.getElem?_replicate, if_pos (Nat.div_lt_of_lt_mul (by rw [Nat.mul_comm]; exact hj))]
    have h2 := rcells_get R hr hu
    rw [show j / R.sz * R.sz + j % R.sz = j by rw [Nat.mul_comm]; exact Nat.div_add_mod _ _] at h2
    rw [h2]
    have h3 : z.cells[j % R.sz]? = some u := by rw [← Array.getElem?_toList, hz]; exact hu
    obtain ⟨hb, hv⟩ := Array.getElem?_eq_some_iff.1 h3
    rw [Array.getElem?_toList]
    unfold madeCells
    rw [Array.getElem?_map, Array.getElem?_range, if_pos hj, hzs]
    show some (z.cells[j % R.sz]!) = some u
    rw [getElem!_pos z.cells _ hb, hv]
  · rw [List.getElem?_eq_none (l := rcells R _) (by rw [hl]; omega), List.getElem?_eq_none (by rw [Array.length_toList, size_madeCells]; omega)]
/-- One append for all: onto a slice of the call's own, of what can be read behind an address, or of nil. -/
theorem wp_append_rows {P : Program} {o : Oper} {a : Act} {K : Act → World → Prop} {Q : Exit → Act → World → Prop} (s x : Operand) (t : TypeId)
    (ho : o.op = .call { callee := .builtin .append, args := #[s, x], argTypes := #[t, t] })
    (R : RowT α) (base : Nat) (i : TypeInfo) (z : Value) (bytes : Nat) (ht : P.underlying t = some (.slice R.t)) (hi : P.info? R.t = some i) (hz : i.zero = some z)
    (hsize : i.size = R.sz) (hby : i.bytes = bytes) (hzs : z.cells.size = R.sz) (hsz : 0 < R.sz)
    (v : Value) (L M : List α) (n : Nat) (hn : L.length = n) (hs : a.eval s = v) (hown : ROwn R w base v L)
    (A : Option Addr) (m c : Nat) (hx : a.eval x = .slice A m c) (hm : M.length = m) (hat : RAt R w A M) (hA : A = none → c = 0) (hsp : ∀ q, A = some q → q.spot = none)
    (h63 : n + m ≤ maxLen) (hbytes : (n + m) * bytes ≤ 140737488355328) (hbase : base ≤ w.heap.size)
    (h : ∀ v' w', ROwn R w' base v' (L ++ M) → w.grownBy w' v.ownBlock → (v.ownBlock ≠ none → v'.ownBlock ≠ none) → K (a.put o.dst v') w') : o.wp P a w K Q := by
  cases A with
  | none =>
    have hm0 : M = [] := by
      cases M with
      | nil => rfl
      | cons y M =>
        obtain ⟨b, o, hA2, _⟩ := hat 0 y rfl
        cases hA2
    subst hm0
    obtain rfl : m = 0 := hm.symm
    obtain rfl : c = 0 := hA rfl
    have hrun := run_append_owned_none (P := P) (w := w) base t o.type R.t i R.sz ht hi v n (rcells R L) (hown.row hn)
    unfold Oper.wp
    simp [execOp, ho, resolve, invoke, builtin, hs, hx, hrun, Result.andThen]
    exact h v w (by rw [List.append_nil]; exact hown) (World.grownBy.refl w _) id
  | some q =>
    obtain ⟨b, o', sp⟩ := q
    obtain rfl : sp = none := hsp _ rfl
    refine wp_append_own w s x t ho base R.t i z R.sz bytes ht hi hz hsize hby hzs hsz v n (rcells R L) hs (hown.row hn) ⟨b, o', none⟩ m c (rcells R M) hx (by rw [rcells_len, hm]) ?_ (rcells_cell R M) h63 hbytes hbase ?_
    · intro j u hu
      have hj := (List.getElem?_eq_some_iff.1 hu).1
      rw [rcells_len] at hj
      obtain ⟨y, hy⟩ : ∃ y, M[j / R.sz]? = some y := ⟨_, List.getElem?_eq_getElem (Nat.div_lt_of_lt_mul (by rw [Nat.mul_comm]; exact hj))⟩
      obtain ⟨b', o2, he, _, h1⟩ := hat _ _ hy
      cases he
      obtain ⟨u2, hu2⟩ : ∃ u2, (R.enc y)[j % R.sz]? = some u2 := ⟨_, List.getElem?_eq_getElem (by rw [R.len]; exact Nat.mod_lt _ hsz)⟩
      have e1 := rcells_get R hy hu2
      have hdm : j / R.sz * R.sz + j % R.sz = j := by rw [Nat.mul_comm]; exact Nat.div_add_mod _ _
      rw [hdm, hu] at e1
      cases e1
      have := h1 _ _ hu2
      rw [Nat.add_assoc, hdm] at this
      rw [radd]
      exact this
    · intro v' w' hown' hg hnil
      refine h v' w' (ROwn.cat hown' (by omega)) hg fun hne hv' => ?_
      rcases hown'.2 with ⟨he, _⟩ | ⟨g, cap, cur, he, _⟩
      · exact hne (by rw [(hnil.1 he).1]; rfl)
      · rw [he] at hv'
        cases hv'
theorem wpList_append_rows {P : Program} {ops : Array Oper} {rest : List Oper} {o : Oper} {a : Act} {Q : Exit → Act → World → Prop} (hgd : o.guard = none) (s x : Operand) (t : TypeId)
    (ho : o.op = .call { callee := .builtin .append, args := #[s, x], argTypes := #[t, t] })
    (R : RowT α) (base : Nat) (i : TypeInfo) (z : Value) (bytes : Nat) (ht : P.underlying t = some (.slice R.t)) (hi : P.info? R.t = some i) (hz : i.zero = some z)
    (hsize : i.size = R.sz) (hby : i.bytes = bytes) (hzs : z.cells.size = R.sz) (hsz : 0 < R.sz)
    (v : Value) (L M : List α) (n : Nat) (hn : L.length = n) (hs : a.eval s = v) (hown : ROwn R w base v L)
    (A : Option Addr) (m c : Nat) (hx : a.eval x = .slice A m c) (hm : M.length = m) (hat : RAt R w A M) (hA : A = none → c = 0) (hsp : ∀ q, A = some q → q.spot = none)
    (h63 : n + m ≤ maxLen) (hbytes : (n + m) * bytes ≤ 140737488355328) (hbase : base ≤ w.heap.size)
    (h : ∀ v' w', ROwn R w' base v' (L ++ M) → w.grownBy w' v.ownBlock → (v.ownBlock ≠ none → v'.ownBlock ≠ none) → wpList P ops Q rest (a.put o.dst v') w') : wpList P ops Q (o :: rest) a w :=
  wpList_plain hgd fun _ hK => wp_append_rows s x t ho R base i z bytes ht hi hz hsize hby hzs hsz v L M n hn hs hown A m c hx hm hat hA hsp h63 hbytes hbase fun v' w' h2 h3 h4 => hK _ _ (h v' w' h2 h3 h4)
/-- The same inside a region that draws its order. -/
theorem step_append_rows {P : Program} {ops : Array Oper} {o : Oper} {a : Act} {K : Act → World → Prop} {Q : Exit → Act → World → Prop} {E : Prop} (hg : o.guard = none) (s x : Operand) (t : TypeId)
    (ho : o.op = .call { callee := .builtin .append, args := #[s, x], argTypes := #[t, t] })
    (R : RowT α) (base : Nat) (i : TypeInfo) (z : Value) (bytes : Nat) (ht : P.underlying t = some (.slice R.t)) (hi : P.info? R.t = some i) (hz : i.zero = some z)
    (hsize : i.size = R.sz) (hby : i.bytes = bytes) (hzs : z.cells.size = R.sz) (hsz : 0 < R.sz)
    (v : Value) (L M : List α) (n : Nat) (hn : L.length = n) (hs : a.eval s = v) (hown : ROwn R w base v L)
    (A : Option Addr) (m c : Nat) (hx : a.eval x = .slice A m c) (hm : M.length = m) (hat : RAt R w A M) (hA : A = none → c = 0) (hsp : ∀ q, A = some q → q.spot = none)
    (h63 : n + m ≤ maxLen) (hbytes : (n + m) * bytes ≤ 140737488355328) (hbase : base ≤ w.heap.size)
    (h : ∀ v' w', ROwn R w' base v' (L ++ M) → w.grownBy w' v.ownBlock → (v.ownBlock ≠ none → v'.ownBlock ≠ none) → K (a.put o.dst v') w') :
    if Region.wanted o (yielded ops a.tmps) = true then Oper.wp P o a w K Q else E := by
  have hw : Region.wanted o (yielded ops a.tmps) = true := by simp [Region.wanted, hg]
  rw [if_pos hw]
  exact wp_append_rows s x t ho R base i z bytes ht hi hz hsize hby hzs hsz v L M n hn hs hown A m c hx hm hat hA hsp h63 hbytes hbase h
theorem RAt.made (R : RowT α) (w : World) (L : List α) (N : Nat) (hN : w.heap.size = N) : RAt R (w.alloc (.cells (rcells R L).toArray R.t)) (some ⟨N, 0, none⟩) L := fun i x hx => by
  subst hN
  refine ⟨_, 0, rfl, by simp, fun j u hu => ?_⟩
  rw [Nat.zero_add, (Whole.made w R.t (rcells R L).toArray).cell, List.getElem?_toArray]
  exact rcells_get R hx hu
end
end Go.Proofs.Ytkhfflbgnojcfaa
