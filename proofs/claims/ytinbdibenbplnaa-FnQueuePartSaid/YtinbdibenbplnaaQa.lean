/-
  My texts Head, Heade, Headl, Base, Row, Od, Math, Spec, Cut, Cursor, Domain, Addr, Impl, Parse, SpecB, Eq, Draw, Drawn, Draws, Vals, Bmath, Lawa, Lawh in one, so that a claim holds fewer files. Conditions: each contract's own.
-/
import Derived.Test.YtinbdibenbplnaaChecked
import GoSem.ClaimJoined
import Derived.JoinedOf
import Derived.KernelRfl
import Derived.WalkKit
import Derived.Deep.Draws
import Derived.Maps.AppendAt
import Derived.Laws.OwnMore
import Derived.OwnWalk
import Derived.Laws.AppendOwnNone
import Derived.Deep.RegionWith
import Derived.Sort.Walk0
import Derived.Test.YtinbdibenbplnaaProg
import Derived.Deep.QuietTactic
import Derived.Deep.LoopGhost
import Derived.BigQuiet
import Derived.Lib.Hide
import Derived.Outline
import Derived.Deep.AppendLies
import Derived.RegionTactic
import Derived.BigRegion
import Derived.OpenShut
namespace Go.Proofs.Ytinbdibenbplnaa
open Go
set_option maxRecDepth 100000

/-- The blank. -/
def blank : Char := Char.ofNat 32
def signsOf {s : String} {l : List Char} (_h : s = String.ofList l) : List Char := l
theorem signsOf_eq {s : String} {l : List Char} (h : s = String.ofList l) : s.toList = signsOf h := by subst h; exact String.toList_ofList
theorem words_step (w r : List Char) (h : w.all (fun c => c != blank) = true) : wordsSigns (w ++ blank :: r) = w :: wordsSigns r := by
  induction w with
  | nil => rfl
  | cons c w ih =>
    rw [List.all_cons, Bool.and_eq_true] at h
    have hc : c ≠ blank := by simpa using h.1
    rw [List.cons_append]
    conv => lhs; unfold wordsSigns
    split
    · rename_i e; cases e
    · rename_i e; injection e with e1 e2; exact absurd e1 hc
    · rename_i e
      injection e with e1 e2
      subst e1 e2
      rw [ih h.2]

def signs : List Char := signsOf (s := Try.prog.initOrder) (l := _) rfl
theorem signs_eq : Try.prog.initOrder.toList = signs := signsOf_eq (s := Try.prog.initOrder) (l := _) rfl
theorem signs0 : signs = signs.take 7 ++ blank :: signs.drop 8 := by kernel_rfl
theorem signs1 : signs.drop 8 = (signs.drop 8).take 64 ++ blank :: signs.drop 73 := by kernel_rfl
theorem signs2 : signs.drop 73 = (signs.drop 73).take 3 ++ blank :: signs.drop 77 := by kernel_rfl
theorem words_eq : wordsSigns signs = signs.take 7 :: (signs.drop 8).take 64 :: (signs.drop 73).take 3 :: wordsSigns (signs.drop 77) := by
  conv => lhs; rw [signs0]
  rw [words_step _ _ (by kernel_rfl)]
  conv => lhs; rw [signs1]
  rw [words_step _ _ (by kernel_rfl)]
  conv => lhs; rw [signs2]
  rw [words_step _ _ (by kernel_rfl)]
theorem behind_of {h t : List Char} {r : List (List Char)} (hh : ((h == "harness".toList || h == "ownmain".toList) && isSumSigns t) = true) : behindMainWord (h :: t :: r) = r := by
  unfold behindMainWord
  simp only [hh, if_true]
theorem behind_eq : behindMainWord (wordsSigns Try.prog.initOrder.toList) = (signs.drop 73).take 3 :: wordsSigns (signs.drop 77) := by
  rw [signs_eq, words_eq]
  exact behind_of (by kernel_rfl)
theorem make_of {P : Program} {c : List Char} {r : List (List Char)} (h : behindMainWord (wordsSigns P.initOrder.toList) = c :: r) (h1 : (c == "gc".toList || c == "spec".toList) = false) (h2 : (c == "cut".toList) = true) : P.make = some .cut := by
  unfold Program.make
  rw [h]
  simp only [h1, h2, Bool.true_or, if_true, Bool.false_eq_true, if_false]
theorem make_eq : Try.prog.make = some .cut := make_of behind_eq (by kernel_rfl) (by kernel_rfl)
end Go.Proofs.Ytinbdibenbplnaa
namespace Go.Proofs.Ytinbdibenbplnaa
open Go
set_option maxRecDepth 100000
theorem lays_eq : Try.prog.laysLater = false := by kernel_rfl
end Go.Proofs.Ytinbdibenbplnaa

namespace Go.Proofs.Ytinbdibenbplnaa
open Go
set_option maxRecDepth 100000
theorem refl_eq : Try.prog.bearsReflect = false := by kernel_rfl
end Go.Proofs.Ytinbdibenbplnaa

namespace Go.Proofs.Ytinbdibenbplnaa
open Go
set_option maxRecDepth 100000
theorem door_eq : Try.prog.doorFits [] = true := by kernel_rfl
end Go.Proofs.Ytinbdibenbplnaa
namespace Go.Proofs.Ytinbdibenbplnaa
open Go
set_option maxRecDepth 100000
theorem lifts_eq : Try.prog.liftsFinal = false := by
  unfold Program.liftsFinal Program.headLifts
  rw [behind_eq]
  generalize wordsSigns (signs.drop 77) = X
  kernel_rfl
theorem strip_eq (X : List (List Char)) : stripLifts liftWords ((signs.drop 73).take 3 :: X) = ([], (signs.drop 73).take 3 :: X) := by
  have h : ∀ (os : List String) (c : List Char), os.all (fun o => c != o.toList) = true → stripLifts os (c :: X) = ([], c :: X) := by
    intro os c
    induction os with
    | nil => intro _; rfl
    | cons o os ih =>
      intro ha
      rw [List.all_cons, Bool.and_eq_true] at ha
      have hne : (c == o.toList) = false := by simpa using ha.1
      unfold stripLifts
      rw [if_neg (by rw [hne]; decide)]
      exact ih ha.2
  exact h _ _ (by kernel_rfl)
theorem enter_of {P : Program} {c : List Char} {r : List (List Char)} (h : behindMainWord (wordsSigns P.initOrder.toList) = c :: r) (h1 : (c == "gc".toList || c == "spec".toList) = false) (h2 : (c == "carried".toList) = false)
    (hs : stripLifts liftWords (c :: r) = ([], c :: r)) (hc : (c == "cut".toList) = true) (hl : P.laysLater = false) (hr : P.bearsReflect = false) (hd : P.doorFits [] = true) : P.mayEnter = true := by
  have hc' : c = "cut".toList := by simpa using hc
  unfold Program.mayEnter
  rw [h]
  simp only [hs, h1, h2, hl, hr, hd, List.head?_cons, Bool.false_and, Bool.false_or, Bool.not_false, Bool.or_true, Bool.and_true, List.contains_nil]
  rw [hc']
  exact beq_self_eq_true _
theorem enter_eq : Try.prog.mayEnter = true := enter_of behind_eq (by kernel_rfl) (by kernel_rfl) (strip_eq _) (by kernel_rfl) lays_eq refl_eq door_eq
end Go.Proofs.Ytinbdibenbplnaa
namespace Go.Proofs.Ytinbdibenbplnaa
open Go.RowKit

/-- Block 'b' is just the cells 'cs' of element type 't', none of them frozen. -/
def Whole (w : World) (b : Nat) (t : TypeId) (cs : Array Value) : Prop := w.heap[b]? = some (.cells cs t (0, 0))

section
variable {w w' a : World} {b : Nat} {t : TypeId} {cs : Array Value}

theorem Whole.lt (h : Whole w b t cs) : b < w.heap.size := by
  rcases Nat.lt_or_ge b w.heap.size with hl | hg
  · exact hl
  · unfold Whole at h; rw [Array.getElem?_eq_none hg] at h; cases h
theorem Whole.cell (h : Whole w b t cs) (i : Nat) : w.cell? ⟨b, i, none⟩ = cs[i]? := cell_of_row w b i cs t (0, 0) h
theorem Whole.free (h : Whole w b t cs) (i : Nat) : w.frozen? ⟨b, i, none⟩ = false := by
  unfold Whole at h
  simp [World.frozen?, h]
theorem Whole.made (w : World) (t : TypeId) (cs : Array Value) : Whole (w.alloc (.cells cs t)) w.heap.size t cs := heap_alloc_new w _
theorem Whole.drewN (h : Whole w b t cs) (n : Nat) : Whole (w.drewN n) b t cs := h
theorem Whole.drew (h : Whole w b t cs) : Whole w.drew b t cs := h
theorem Whole.alloc (h : Whole w b t cs) (o : Obj) : Whole (w.alloc o) b t cs := (Below.heap_alloc w o b h.lt).trans h
theorem Whole.store (h : Whole w b t cs) (i : Nat) (u : Value) : Whole (w.setCell ⟨b, i, none⟩ u) b t (cs.setIfInBounds i u) := by
  unfold Whole at h ⊢
  simp [World.setCell, Array.getElem?_modify, h]
theorem Whole.apart (h : Whole w b t cs) {p : Addr} (hp : b ≠ p.block) (u : Value) : Whole (w.setCell p u) b t cs := (Below.heap_setCell w p u b hp).trans h
theorem Whole.below {B : Nat} (h : Whole w b t cs) (hb : Below B w w') (hl : b < B) : Whole w' b t cs := (hb.block b hl).trans h
theorem Whole.grown {row : Option Nat} (h : Whole w b t cs) (hg : w.grownBy w' row) (hn : some b ≠ row) : Whole w' b t cs := (hg.block b h.lt hn).trans h

theorem gr_refl (w : World) (row : Option Nat) : w.grownBy w row := World.grownBy.refl w row
theorem gr_trans {c : World} {row : Option Nat} (h : a.grownBy w row) (k : w.grownBy c row) : a.grownBy c row :=
  ⟨k.os.trans h.os, k.tape.trans h.tape, k.output.trans h.output, Nat.le_trans h.size k.size, fun i hi hn => (k.block i (Nat.lt_of_lt_of_le hi h.size) hn).trans (h.block i hi hn)⟩
theorem gr_drewN {row : Option Nat} (h : a.grownBy w row) (n : Nat) : a.grownBy (w.drewN n) row := ⟨h.os, h.tape, h.output, h.size, h.block⟩
theorem gr_drew {row : Option Nat} (h : a.grownBy w row) : a.grownBy w.drew row := ⟨h.os, h.tape, h.output, h.size, h.block⟩
theorem gr_alloc {row : Option Nat} (h : a.grownBy w row) (o : Obj) : a.grownBy (w.alloc o) row :=
  ⟨h.os, h.tape, h.output, Nat.le_trans h.size (by simp), fun i hi hn => (Below.heap_alloc w o i (Nat.lt_of_lt_of_le hi h.size)).trans (h.block i hi hn)⟩
theorem gr_store {g : Nat} (h : a.grownBy w (some g)) {p : Addr} (hp : p.block = g ∨ a.heap.size ≤ p.block) (u : Value) : a.grownBy (w.setCell p u) (some g) :=
  ⟨h.os, h.tape, h.output, by simpa [World.setCell] using h.size, fun i hi hn => (Below.heap_setCell w p u i (by
    rintro rfl
    rcases hp with hp | hp
    · exact hn (by rw [hp])
    · omega)).trans (h.block i hi hn)⟩
theorem gr_below (h : Below a.heap.size a w) (row : Option Nat) : a.grownBy w row := ⟨h.os, h.tape, h.output, h.size, fun i hi _ => h.block i hi⟩
theorem below_drewN' {B : Nat} (h : Below B a w) (n : Nat) : Below B a (w.drewN n) := ⟨h.os, h.tape, h.output, h.size, h.block⟩
theorem below_gr {B g : Nat} (h : Below B a w) (hg : w.grownBy w' (some g)) (hB : B ≤ w.heap.size) (hb : B ≤ g) : Below B a w' :=
  h.grown hg hB (fun k hk => by cases hk; exact hb)
end

theorem ret_bool {a b : Bool} (h : a = b) : Ending.returned (.bool a) = .returned (.bool b) := by rw [h]
theorem noEmpty {v : ByteArray} (h : v.size ≠ 0) : v.toList.isEmpty = false ∧ ¬ v.toList = [] := by
  have hn : ¬ v.toList = [] := by
    rw [ByteArray.toList_eq]
    intro e
    have : v.data.toList.length = 0 := by rw [e]; rfl
    exact h (by simpa using this)
  refine ⟨?_, hn⟩
  cases he : v.toList with
  | nil => exact absurd he hn
  | cons _ _ => rfl
theorem isEmpty {v : ByteArray} (h : v.size = 0) : v.toList.isEmpty = true ∧ v.toList = [] := by
  have hn : v.toList = [] := by
    rw [ByteArray.toList_eq]
    exact List.eq_nil_of_length_eq_zero (by simpa using h)
  exact ⟨by rw [hn]; rfl, hn⟩
end Go.Proofs.Ytinbdibenbplnaa
namespace Go.Proofs.Ytinbdibenbplnaa
open Go.RowKit
set_option linter.unusedVariables false

/-- How an element lies in memory: its type, its cells. -/
structure RowT (α : Type) where
  t : TypeId
  sz : Nat
  enc : α → List Value
  len : ∀ x, (enc x).length = sz
  one : ∀ x, ∀ u ∈ enc x, u.oneCell' = true
section
variable {α : Type} {R : RowT α} {w w' : World} {A : Option Addr} {L M : List α} {B B' n cap g k : Nat} {v : Value} {x y : α}

def rcells (R : RowT α) (L : List α) : List Value := L.flatMap R.enc
theorem rcells_len (R : RowT α) (L : List α) : (rcells R L).length = L.length * R.sz := by
  induction L with
  | nil => simp [rcells]
  | cons x L ih =>
    unfold rcells at ih ⊢
    rw [List.flatMap_cons, List.length_append, ih, R.len, List.length_cons, Nat.succ_mul]
    omega
theorem rcells_app (R : RowT α) (L M : List α) : rcells R (L ++ M) = rcells R L ++ rcells R M := by unfold rcells; rw [List.flatMap_append]
theorem rcells_one (R : RowT α) (x : α) : rcells R [x] = R.enc x := by simp [rcells]
theorem rcells_get (R : RowT α) : ∀ {L : List α} {i : Nat} {x : α}, L[i]? = some x → ∀ {j : Nat} {u : Value}, (R.enc x)[j]? = some u → (rcells R L)[i * R.sz + j]? = some u
  | [], i, x, h, _, _, _ => by simp at h
  | y :: L, 0, x, h, j, u, hu => by
    simp at h
    subst h
    unfold rcells
    rw [List.flatMap_cons, Nat.zero_mul, Nat.zero_add, List.getElem?_append_left (List.getElem?_eq_some_iff.1 hu).1]
    exact hu
  | y :: L, i + 1, x, h, j, u, hu => by
    have ih := rcells_get R (L := L) (i := i) (x := x) (by simpa using h) hu
    unfold rcells at ih ⊢
    rw [List.flatMap_cons, List.getElem?_append_right (by rw [R.len, Nat.succ_mul]; omega), R.len, show (i + 1) * R.sz + j - R.sz = i * R.sz + j by rw [Nat.succ_mul]; omega]
    exact ih
theorem rcells_cell (R : RowT α) (L : List α) : ∀ u ∈ rcells R L, u.oneCell' = true := by
  intro u hu
  unfold rcells at hu
  obtain ⟨x, _, hx⟩ := List.mem_flatMap.1 hu
  exact R.one x u hx

/-- The elements of a list can be read behind an address. -/
def RAt (R : RowT α) (w : World) (A : Option Addr) (L : List α) : Prop :=
  ∀ i x, L[i]? = some x → ∃ b o, A = some ⟨b, o, none⟩ ∧ b < w.heap.size ∧ ∀ j u, (R.enc x)[j]? = some u → w.cell? ⟨b, o + i * R.sz + j, none⟩ = some u
theorem RAt.kept (h : RAt R w A L) (hz : w.heap.size ≤ w'.heap.size) (hk : ∀ p : Addr, p.block < w.heap.size → w'.cell? p = w.cell? p) : RAt R w' A L := fun i x hx => by
  obtain ⟨b, o, hA, hb, h1⟩ := h i x hx
  exact ⟨b, o, hA, by omega, fun j u hu => (hk _ hb).trans (h1 j u hu)⟩
theorem RAt.below (h : RAt R w A L) (hb : Below B w w') (hB : w.heap.size ≤ B) : RAt R w' A L := h.kept hb.size fun p hp => hb.cell (by omega)
theorem RAt.drewN (h : RAt R w A L) (n : Nat) : RAt R (w.drewN n) A L := h
theorem RAt.drew (h : RAt R w A L) : RAt R w.drew A L := h
theorem RAt.nil (w : World) (A : Option Addr) : RAt R w A [] := fun i x hx => by simp at hx
theorem RAt.pre (h : RAt R w A (L ++ M)) : RAt R w A L := fun i x hx => h i x (by rw [List.getElem?_append_left (List.getElem?_eq_some_iff.1 hx).1]; exact hx)
theorem RAt.take (h : RAt R w A L) (k : Nat) : RAt R w A (L.take k) := RAt.pre (M := L.drop k) (by rw [List.take_append_drop]; exact h)
theorem RAt.drop {b o : Nat} (h : RAt R w (some ⟨b, o, none⟩) L) (k : Nat) : RAt R w (some ⟨b, o + k * R.sz, none⟩) (L.drop k) := fun i x hx => by
  rw [List.getElem?_drop] at hx
  obtain ⟨b', o', hA, hb, h1⟩ := h (k + i) x hx
  cases hA
  refine ⟨_, _, rfl, hb, fun j u hu => ?_⟩
  rw [show o + k * R.sz + i * R.sz + j = o + (k + i) * R.sz + j by rw [Nat.add_mul]; omega]
  exact h1 j u hu
theorem RAt.grown (h : RAt R w A L) (hg : w.grownBy w' (some g)) (hne : ∀ b o, A = some ⟨b, o, none⟩ → b ≠ g) : RAt R w' A L := fun i x hx => by
  obtain ⟨b, o, hA, hb, h1⟩ := h i x hx
  have hb' := hne b o hA
  exact ⟨b, o, hA, Nat.lt_of_lt_of_le hb hg.size, fun j u hu => (World.cell?_of_block (hg.block b hb (by simp; exact hb'))).trans (h1 j u hu)⟩

theorem radd (b o n : Nat) : (⟨b, o, none⟩ : Addr).add n = ⟨b, o + n, none⟩ := by unfold Addr.add; split <;> simp_all
/-- A slice of the call's own. -/
def ROwn (R : RowT α) (w : World) (B : Nat) (v : Value) (L : List α) : Prop := w.ownsRow B R.t R.sz v L.length (rcells R L)
theorem ROwn.form (h : ROwn R w B v L) : ∃ A cap, v = .slice A L.length cap ∧ L.length ≤ cap ∧ cap ≤ maxLen ∧ RAt R w A L ∧ (∀ b o, A = some ⟨b, o, none⟩ → o = 0 ∧ B ≤ b ∧ b < w.heap.size) ∧ (L ≠ [] → ∃ g, A = some ⟨g, 0, none⟩) := by
  have hc : ∀ g, v.ownBlock = some g → ∀ j u, (rcells R L)[j]? = some u → w.cell? ((⟨g, 0, none⟩ : Addr).add j) = some u := fun g hg => World.ownsRow.cells h hg
  have h2 := World.ownsRow.lt h
  rcases h.2 with ⟨rfl, h0⟩ | ⟨g, cap, cur, rfl, hB, hg, hn, hm, hs, ht⟩
  · refine ⟨none, 0, by rw [h0], by omega, by unfold maxLen; omega, ?_, fun b o e => (by cases e), fun hne => absurd (List.eq_nil_of_length_eq_zero h0) hne⟩
    rw [List.eq_nil_of_length_eq_zero h0]
    exact RAt.nil _ _
  · refine ⟨_, cap, rfl, hn, hm, fun i x hx => ⟨g, 0, rfl, (h2 g rfl).2, fun j u hu => ?_⟩, fun b o e => ?_, fun _ => ⟨g, rfl⟩⟩
    · have := hc g rfl _ _ (rcells_get R hx hu)
      rw [radd] at this
      rw [Nat.zero_add] at this ⊢
      exact this
    · cases e
      exact ⟨rfl, hB, (h2 g rfl).2⟩
theorem ROwn.kept (h : ROwn R w B v L) (hb : Below w.heap.size w w') : ROwn R w' B v L := by
  unfold ROwn
  refine World.ownsRow.kept (row := none) h ⟨hb.os, hb.tape, hb.output, hb.size, fun k hk _ => hb.block k hk⟩ ?_
  cases hv : v.ownBlock <;> simp
theorem ROwn.drewN (h : ROwn R w B v L) (n : Nat) : ROwn R (w.drewN n) B v L := h
theorem ROwn.from (h : ROwn R w B v L) (hb : B' ≤ B) : ROwn R w B' v L := by
  refine ⟨h.1, ?_⟩
  rcases h.2 with h2 | ⟨g, cap, cur, hv, hB, rest⟩
  · exact .inl h2
  · exact .inr ⟨g, cap, cur, hv, by omega, rest⟩
theorem ROwn.grown {b : Nat} (h : ROwn R w B v L) (hg : w.grownBy w' (some b)) (hb : b < B) : ROwn R w' B v L :=
  World.ownsRow.kept h hg (by
    rcases h.2 with ⟨rfl, _⟩ | ⟨g, cap, cur, rfl, hB, _⟩
    · exact Or.inl rfl
    · exact Or.inr (by simp [Value.ownBlock]; omega))
theorem ROwn.apart {row : Option Nat} (h : ROwn R w B v L) (hg : w.grownBy w' row) (hne : v.ownBlock = none ∨ v.ownBlock ≠ row) : ROwn R w' B v L := World.ownsRow.kept h hg hne
theorem ROwn.alloc (h : ROwn R w B v L) (o : Obj) : ROwn R (w.alloc o) B v L := World.ownsRow.alloc h o
theorem ROwn.nil (w : World) (B : Nat) : ROwn R w B (.slice none 0 0) [] := World.ownsRow_nil w B _ _
theorem ROwn.lit (w : World) (N : Nat) (hB : B ≤ w.heap.size) (hN : w.heap.size = N) : ROwn R (w.alloc (.cells #[] R.t)) B (.slice (some ⟨N, 0, none⟩) 0 0) [] := by
  subst hN
  exact World.ownsRow_lit w #[] 0 hB (by unfold maxLen; omega) (by simp)
theorem ROwn.row (h : ROwn R w B v L) (hn : L.length = n) : w.ownsRow B R.t R.sz v n (rcells R L) := by subst hn; exact h
theorem ROwn.of (h : w.ownsRow B R.t R.sz v n (rcells R L)) (hn : n = L.length) : ROwn R w B v L := by subst hn; exact h
theorem ROwn.push {x : α} (h : w.ownsRow B R.t R.sz v n (rcells R L ++ R.enc x)) (hn : n = L.length + 1) : ROwn R w B v (L ++ [x]) := by
  unfold ROwn
  rw [rcells_app, rcells_one, List.length_append, List.length_singleton, ← hn]
  exact h
theorem ROwn.cat (h : w.ownsRow B R.t R.sz v n (rcells R L ++ rcells R M)) (hn : n = L.length + M.length) : ROwn R w B v (L ++ M) := by
  unfold ROwn
  rw [rcells_app, List.length_append, ← hn]
  exact h
theorem ROwn.len (h : ROwn R w B (.slice A n cap) L) : n = L.length ∧ n ≤ cap ∧ cap ≤ maxLen := by
  obtain ⟨A, c, he, h1, h2, _⟩ := h.form
  cases he
  exact ⟨rfl, h1, h2⟩
theorem ROwn.at (h : ROwn R w B (.slice A n cap) L) : RAt R w A L := by
  obtain ⟨A, c, he, _, _, hs, _⟩ := h.form
  cases he
  exact hs
theorem ROwn.ne (h : ROwn R w B v L) : v.ownBlock ≠ some w.heap.size := fun e => by
  have := (World.ownsRow.lt h _ e).2
  omega
theorem ROwn.store (h : ROwn R w B v L) {p : Addr} (hne : v.ownBlock ≠ some p.block) (u : Value) : ROwn R (w.setCell p u) B v L :=
  World.ownsRow.kept (row := some p.block) h ⟨rfl, rfl, rfl, by simp [World.setCell], fun k hk hn => Below.heap_setCell w p u k (fun e => hn (by rw [e]))⟩ (.inr hne)
theorem ROwn.cell (h : ROwn R w B (.slice (some ⟨g, 0, none⟩) n cap) L) (hx : L[k]? = some x) {j : Nat} {u : Value} (hu : (R.enc x)[j]? = some u) : w.cell? ⟨g, k * R.sz + j, none⟩ = some u := by
  obtain ⟨b, o, he, _, h1⟩ := h.at k x hx
  cases he
  have := h1 j u hu
  rw [Nat.zero_add] at this
  exact this
theorem ROwn.free (h : ROwn R w B (.slice (some ⟨g, 0, none⟩) n cap) L) (j : Nat) : w.frozen? ⟨g, j, none⟩ = false :=
  World.ownsRow.frozenAt (h.row h.len.1.symm) j
theorem ROwn.nilcap (h : ROwn R w B (.slice A n cap) L) : A = none → cap = 0 := by
  rintro rfl
  rcases h.2 with ⟨he, _⟩ | ⟨g, c, cur, he, _⟩
  · cases he; rfl
  · cases he
theorem ROwn.spot (h : ROwn R w B (.slice A n cap) L) : ∀ q, A = some q → q.spot = none := by
  rintro q rfl
  rcases h.2 with ⟨he, _⟩ | ⟨g, c, cur, he, _⟩
  · cases he
  · cases he; rfl
theorem ROwn.base (h : ROwn R w B v L) : ∀ b, b < B → v.ownBlock ≠ some b := fun b hb e => by
  have := (World.ownsRow.lt h _ e).1
  omega
theorem ROwn.val (h : ROwn R w B v L) : ∃ A n cap, v = .slice A n cap := by
  obtain ⟨A, c, he, _⟩ := h.form
  exact ⟨A, _, c, he⟩
theorem ROwn.whole {b : Nat} {t : TypeId} {cs : Array Value} (h : ROwn R w B v L) (hW : Whole w b t cs) (ht : t ≠ R.t) : v.ownBlock ≠ some b := by
  intro e
  rcases h.2 with ⟨rfl, _⟩ | ⟨g, c, cur, rfl, _, hg, _⟩
  · cases e
  · cases e
    have := hW.symm.trans hg
    cases this
    exact ht rfl
theorem own_apart {β : Type} {S : RowT β} {M : List β} {v2 : Value} {B2 : Nat} (h : ROwn R w B v L) (h2 : ROwn S w B2 v2 M) (ht : R.t ≠ S.t) : v.ownBlock = none ∨ v.ownBlock ≠ v2.ownBlock := by
  rcases h.2 with ⟨rfl, _⟩ | ⟨g, c, cur, rfl, _, hg, _⟩
  · exact .inl rfl
  · refine .inr fun e => ?_
    rcases h2.2 with ⟨rfl, _⟩ | ⟨g2, c2, cur2, rfl, _, hg2, _⟩
    · cases e
    · cases e
      have e3 := Option.some.inj (hg.symm.trans hg2)
      injection e3 with e4 e5
      exact ht e5
theorem rcells_set (R : RowT α) {L : List α} {k : Nat} {x y : α} {j : Nat} {u : Value} (hx : L[k]? = some x) (hj : j < R.sz) (hy : R.enc y = (R.enc x).set j u) : (rcells R L).set (k * R.sz + j) u = rcells R (L.set k y) := by
  have hk := (List.getElem?_eq_some_iff.1 hx).1
  have e : L = L.take k ++ x :: L.drop (k + 1) := by
    conv => lhs; rw [← List.take_append_drop k L, List.drop_eq_getElem_cons hk]
    rw [(List.getElem?_eq_some_iff.1 hx).2]
  have hlt : (L.take k).length = k := by rw [List.length_take]; omega
  have e2 : L.set k y = L.take k ++ y :: L.drop (k + 1) := by
    conv => lhs; rw [e]
    rw [List.set_append_right _ _ (by omega), hlt, Nat.sub_self, List.set_cons_zero]
  rw [e2]
  conv => lhs; rw [e]
  have e3 : ∀ z : α, rcells R (L.take k ++ z :: L.drop (k + 1)) = rcells R (L.take k) ++ (R.enc z ++ rcells R (L.drop (k + 1))) := fun z => by
    rw [rcells_app]
    congr 1
  rw [e3, e3, List.set_append_right _ _ (by rw [rcells_len, hlt]; omega), rcells_len, hlt, Nat.add_sub_cancel_left, List.set_append_left _ _ (by rw [R.len]; exact hj), hy]
theorem ROwn.stored (h : ROwn R w B (.slice (some ⟨g, 0, none⟩) n cap) L) (hx : L[k]? = some x) {j : Nat} {u : Value} (hj : j < R.sz) (hy : R.enc y = (R.enc x).set j u) :
    ROwn R (w.setCell ⟨g, k * R.sz + j, none⟩ u) B (.slice (some ⟨g, 0, none⟩) n cap) (L.set k y) ∧ w.grownBy (w.setCell ⟨g, k * R.sz + j, none⟩ u) (some g) := by
  obtain ⟨h1, g1⟩ := World.ownsRow.stored (h.row h.len.1.symm) (k * R.sz + j) u
  refine ⟨?_, g1⟩
  rw [rcells_set R hx hj hy] at h1
  exact ROwn.of h1 (by rw [List.length_set]; exact h.len.1)
theorem rnew (w : World) (cs : List Value) (t : TypeId) (N : Nat) (hN : w.heap.size = N) : ∀ j u, cs[j]? = some u → (w.alloc (.cells cs.toArray t)).cell? ((⟨N, 0, none⟩ : Addr).add j) = some u := by
  subst hN
  intro j u hj
  rw [radd, Nat.zero_add, (Whole.made w t cs.toArray).cell j, List.getElem?_toArray]
  exact hj
theorem set_next {L : List α} {n k : Nat} {x z : α} (hn : L.length = n) (hx : L[k]? = some x) : (L.take k ++ List.replicate (n - k) z).set k x = L.take (k + 1) ++ List.replicate (n - (k + 1)) z := by
  have hk := (List.getElem?_eq_some_iff.1 hx).1
  have hl : (L.take k).length = k := by rw [List.length_take]; omega
  rw [List.set_append_right _ _ (by omega), hl, Nat.sub_self, show n - k = (n - (k + 1)) + 1 by omega, List.replicate_succ, List.set_cons_zero, List.take_add_one, hx, List.append_assoc]
  rfl
theorem set_front {P L : List α} {i : Nat} (x : α) (hp : P.length = i) (hi : i < L.length) : (P ++ L.drop i).set i x = P ++ [x] ++ L.drop (i + 1) := by
  rw [List.set_append_right _ _ (by omega), hp, Nat.sub_self, List.drop_eq_getElem_cons hi, List.set_cons_zero, List.append_assoc]
  rfl
theorem front_some {P L : List α} {i : Nat} (hp : P.length = i) (hi : i < L.length) : (P ++ L.drop i)[i]? = some L[i] := by
  rw [List.getElem?_append_right (by omega), hp, Nat.sub_self, List.getElem?_drop, Nat.add_zero, List.getElem?_eq_getElem hi]
theorem made_rows (R : RowT α) (z : Value) (d : α) (hz : z.cells.toList = R.enc d) (h0 : 0 < R.sz) (n : Nat) : (madeCells z.cells (n * R.sz)).toList = rcells R (List.replicate n d) := by
  have hzs : z.cells.size = R.sz := by rw [← R.len d, ← hz, Array.length_toList]
  apply List.ext_getElem?
  intro j
  have hl : (rcells R (List.replicate n d)).length = n * R.sz := by rw [rcells_len, List.length_replicate]
  by_cases hj : j < n * R.sz
  · have hm : j % R.sz < R.sz := Nat.mod_lt _ h0
    obtain ⟨u, hu⟩ : ∃ u, (R.enc d)[j % R.sz]? = some u := ⟨_, List.getElem?_eq_getElem (by rw [R.len]; exact hm)⟩
    have hr : (List.replicate n d)[j / R.sz]? = some d := by rw [List.getElem?_replicate, if_pos (Nat.div_lt_of_lt_mul (by rw [Nat.mul_comm]; exact hj))]
    have h2 := rcells_get R hr hu
    rw [show j / R.sz * R.sz + j % R.sz = j by rw [Nat.mul_comm]; exact Nat.div_add_mod _ _] at h2
    rw [h2]
    have h3 : z.cells[j % R.sz]? = some u := by rw [← Array.getElem?_toList, hz]; exact hu
    obtain ⟨hb, hv⟩ := Array.getElem?_eq_some_iff.1 h3
    rw [Array.getElem?_toList]
    unfold madeCells
    rw [Array.getElem?_map, Array.getElem?_range, if_pos hj, hzs]
    show some (z.cells[j % R.sz]!) = some u
    rw [getElem!_pos z.cells _ hb, hv]
  · rw [List.getElem?_eq_none (l := rcells R _) (by rw [hl]; omega), List.getElem?_eq_none (by rw [Array.length_toList, size_madeCells]; omega)]
/-- One append for all: onto a slice of the call's own, of what can be read behind an address, or of nil. -/
theorem wp_append_rows {P : Program} {o : Oper} {a : Act} {K : Act → World → Prop} {Q : Exit → Act → World → Prop} (s x : Operand) (t : TypeId)
    (ho : o.op = .call { callee := .builtin .append, args := #[s, x], argTypes := #[t, t] })
    (R : RowT α) (base : Nat) (i : TypeInfo) (z : Value) (bytes : Nat) (ht : P.underlying t = some (.slice R.t)) (hi : P.info? R.t = some i) (hz : i.zero = some z)
    (hsize : i.size = R.sz) (hby : i.bytes = bytes) (hzs : z.cells.size = R.sz) (hsz : 0 < R.sz)
    (v : Value) (L M : List α) (n : Nat) (hn : L.length = n) (hs : a.eval s = v) (hown : ROwn R w base v L)
    (A : Option Addr) (m c : Nat) (hx : a.eval x = .slice A m c) (hm : M.length = m) (hat : RAt R w A M) (hA : A = none → c = 0) (hsp : ∀ q, A = some q → q.spot = none)
    (h63 : n + m ≤ maxLen) (hbytes : (n + m) * bytes ≤ 140737488355328) (hbase : base ≤ w.heap.size)
    (h : ∀ v' w', ROwn R w' base v' (L ++ M) → w.grownBy w' v.ownBlock → (v.ownBlock ≠ none → v'.ownBlock ≠ none) → K (a.put o.dst v') w') : o.wp P a w K Q := by
  cases A with
  | none =>
    have hm0 : M = [] := by
      cases M with
      | nil => rfl
      | cons y M =>
        obtain ⟨b, o, hA2, _⟩ := hat 0 y rfl
        cases hA2
    subst hm0
    obtain rfl : m = 0 := hm.symm
    obtain rfl : c = 0 := hA rfl
    have hrun := run_append_owned_none (P := P) (w := w) base t o.type R.t i R.sz ht hi v n (rcells R L) (hown.row hn)
    unfold Oper.wp
    simp [execOp, ho, resolve, invoke, builtin, hs, hx, hrun, Result.andThen]
    exact h v w (by rw [List.append_nil]; exact hown) (World.grownBy.refl w _) id
  | some q =>
    obtain ⟨b, o', sp⟩ := q
    obtain rfl : sp = none := hsp _ rfl
    refine wp_append_own w s x t ho base R.t i z R.sz bytes ht hi hz hsize hby hzs hsz v n (rcells R L) hs (hown.row hn) ⟨b, o', none⟩ m c (rcells R M) hx (by rw [rcells_len, hm]) ?_ (rcells_cell R M) h63 hbytes hbase ?_
    · intro j u hu
      have hj := (List.getElem?_eq_some_iff.1 hu).1
      rw [rcells_len] at hj
      obtain ⟨y, hy⟩ : ∃ y, M[j / R.sz]? = some y := ⟨_, List.getElem?_eq_getElem (Nat.div_lt_of_lt_mul (by rw [Nat.mul_comm]; exact hj))⟩
      obtain ⟨b', o2, he, _, h1⟩ := hat _ _ hy
      cases he
      obtain ⟨u2, hu2⟩ : ∃ u2, (R.enc y)[j % R.sz]? = some u2 := ⟨_, List.getElem?_eq_getElem (by rw [R.len]; exact Nat.mod_lt _ hsz)⟩
      have e1 := rcells_get R hy hu2
      have hdm : j / R.sz * R.sz + j % R.sz = j := by rw [Nat.mul_comm]; exact Nat.div_add_mod _ _
      rw [hdm, hu] at e1
      cases e1
      have := h1 _ _ hu2
      rw [Nat.add_assoc, hdm] at this
      rw [radd]
      exact this
    · intro v' w' hown' hg hnil
      refine h v' w' (ROwn.cat hown' (by omega)) hg fun hne hv' => ?_
      rcases hown'.2 with ⟨he, _⟩ | ⟨g, cap, cur, he, _⟩
      · exact hne (by rw [(hnil.1 he).1]; rfl)
      · rw [he] at hv'
        cases hv'
theorem wpList_append_rows {P : Program} {ops : Array Oper} {rest : List Oper} {o : Oper} {a : Act} {Q : Exit → Act → World → Prop} (hgd : o.guard = none) (s x : Operand) (t : TypeId)
    (ho : o.op = .call { callee := .builtin .append, args := #[s, x], argTypes := #[t, t] })
    (R : RowT α) (base : Nat) (i : TypeInfo) (z : Value) (bytes : Nat) (ht : P.underlying t = some (.slice R.t)) (hi : P.info? R.t = some i) (hz : i.zero = some z)
    (hsize : i.size = R.sz) (hby : i.bytes = bytes) (hzs : z.cells.size = R.sz) (hsz : 0 < R.sz)
    (v : Value) (L M : List α) (n : Nat) (hn : L.length = n) (hs : a.eval s = v) (hown : ROwn R w base v L)
    (A : Option Addr) (m c : Nat) (hx : a.eval x = .slice A m c) (hm : M.length = m) (hat : RAt R w A M) (hA : A = none → c = 0) (hsp : ∀ q, A = some q → q.spot = none)
    (h63 : n + m ≤ maxLen) (hbytes : (n + m) * bytes ≤ 140737488355328) (hbase : base ≤ w.heap.size)
    (h : ∀ v' w', ROwn R w' base v' (L ++ M) → w.grownBy w' v.ownBlock → (v.ownBlock ≠ none → v'.ownBlock ≠ none) → wpList P ops Q rest (a.put o.dst v') w') : wpList P ops Q (o :: rest) a w :=
  wpList_plain hgd fun _ hK => wp_append_rows s x t ho R base i z bytes ht hi hz hsize hby hzs hsz v L M n hn hs hown A m c hx hm hat hA hsp h63 hbytes hbase fun v' w' h2 h3 h4 => hK _ _ (h v' w' h2 h3 h4)
/-- The same inside a region that draws its order. -/
theorem step_append_rows {P : Program} {ops : Array Oper} {o : Oper} {a : Act} {K : Act → World → Prop} {Q : Exit → Act → World → Prop} {E : Prop} (hg : o.guard = none) (s x : Operand) (t : TypeId)
    (ho : o.op = .call { callee := .builtin .append, args := #[s, x], argTypes := #[t, t] })
    (R : RowT α) (base : Nat) (i : TypeInfo) (z : Value) (bytes : Nat) (ht : P.underlying t = some (.slice R.t)) (hi : P.info? R.t = some i) (hz : i.zero = some z)
    (hsize : i.size = R.sz) (hby : i.bytes = bytes) (hzs : z.cells.size = R.sz) (hsz : 0 < R.sz)
    (v : Value) (L M : List α) (n : Nat) (hn : L.length = n) (hs : a.eval s = v) (hown : ROwn R w base v L)
    (A : Option Addr) (m c : Nat) (hx : a.eval x = .slice A m c) (hm : M.length = m) (hat : RAt R w A M) (hA : A = none → c = 0) (hsp : ∀ q, A = some q → q.spot = none)
    (h63 : n + m ≤ maxLen) (hbytes : (n + m) * bytes ≤ 140737488355328) (hbase : base ≤ w.heap.size)
    (h : ∀ v' w', ROwn R w' base v' (L ++ M) → w.grownBy w' v.ownBlock → (v.ownBlock ≠ none → v'.ownBlock ≠ none) → K (a.put o.dst v') w') :
    if Region.wanted o (yielded ops a.tmps) = true then Oper.wp P o a w K Q else E := by
  have hw : Region.wanted o (yielded ops a.tmps) = true := by simp [Region.wanted, hg]
  rw [if_pos hw]
  exact wp_append_rows s x t ho R base i z bytes ht hi hz hsize hby hzs hsz v L M n hn hs hown A m c hx hm hat hA hsp h63 hbytes hbase h
theorem RAt.made (R : RowT α) (w : World) (L : List α) (N : Nat) (hN : w.heap.size = N) : RAt R (w.alloc (.cells (rcells R L).toArray R.t)) (some ⟨N, 0, none⟩) L := fun i x hx => by
  subst hN
  refine ⟨_, 0, rfl, by simp, fun j u hu => ?_⟩
  rw [Nat.zero_add, (Whole.made w R.t (rcells R L).toArray).cell, List.getElem?_toArray]
  exact rcells_get R hx hu
end
end Go.Proofs.Ytinbdibenbplnaa
namespace Go.Proofs.Ytinbdibenbplnaa
set_option linter.unusedVariables false

def kb (s : ByteArray) : List UInt8 := s.data.toList
theorem kb_inj {a b : ByteArray} (h : kb a = kb b) : a = b := by
  cases a
  cases b
  congr
  exact Array.toList_inj.1 h
/-- The order of names. -/
def ltG (a b : ByteArray) : Bool := decide (kb a < kb b)
theorem less_walk (a b : ByteArray) : Op.bytesLess a.toList b.toList = ltG a b := by
  rw [bytesLess_eq, ByteArray.toList_eq, ByteArray.toList_eq]
  rfl
theorem ltG_trans {a b c : ByteArray} (h1 : ltG a b = true) (h2 : ltG b c = true) : ltG a c = true := by
  unfold ltG at *
  simp only [decide_eq_true_eq] at *
  exact List.lt_trans h1 h2
theorem ltG_irrefl (a : ByteArray) : ltG a a = false := by
  unfold ltG
  exact decide_eq_false (List.lt_irrefl _)
theorem ltG_ne {a b : ByteArray} (h : ltG a b = true) : a ≠ b := by
  rintro rfl
  rw [ltG_irrefl] at h
  cases h
theorem ltG_total {a b : ByteArray} (h : ltG a b = false) (hne : a ≠ b) : ltG b a = true := by
  unfold ltG at *
  simp only [decide_eq_false_iff_not, decide_eq_true_eq] at *
  rcases List.le_iff_lt_or_eq.1 (List.not_lt.1 h) with h1 | h1
  · exact h1
  · exact absurd (kb_inj h1.symm) hne
theorem ltG_asymm {a b : ByteArray} (h : ltG a b = true) : ltG b a = false := by
  cases h2 : ltG b a with
  | false => rfl
  | true => have := ltG_trans h h2; rw [ltG_irrefl] at this; cases this
theorem ne_kb {a b : ByteArray} (h : a ≠ b) : (kb a == kb b) = false := beq_eq_false_iff_ne.2 fun e => h (kb_inj e)
theorem eq_kb {a b : ByteArray} : (kb a == kb b) = decide (a = b) := by
  by_cases h : a = b
  · subst h; simp
  · rw [ne_kb h, decide_eq_false h]
theorem kb_walk (a b : ByteArray) : (a.toList == b.toList) = (kb a == kb b) := by rw [ByteArray.toList_eq, ByteArray.toList_eq]; rfl
theorem ne_walk {a b : ByteArray} (h : a ≠ b) : (a.toList == b.toList) = false ∧ ¬ a.toList = b.toList := by
  have h2 : (a.toList == b.toList) = false := (kb_walk a b).trans (ne_kb h)
  exact ⟨h2, beq_eq_false_iff_ne.1 h2⟩
theorem tsnoc {α : Type} {L : List α} {k : Nat} {g : α} (hg : L[k]? = some g) : L.take (k + 1) = L.take k ++ [g] := by
  rw [List.take_add_one, hg]
  rfl
theorem lessW {a b : ByteArray} {z : Bool} (h : ltG a b = z) : Op.bytesLess a.toList b.toList = z := (less_walk a b).trans h
end Go.Proofs.Ytinbdibenbplnaa
namespace Go.Proofs.Ytinbdibenbplnaa

/-- A sign of a name. -/
def sgn (c : UInt8) : Bool := decide ((97 ≤ c.toNat ∧ c.toNat ≤ 122) ∨ (48 ≤ c.toNat ∧ c.toNat ≤ 57))
/-- A name. -/
def nameB (l : List UInt8) : Bool := l.all sgn && decide (1 ≤ l.length) && decide (l.length ≤ 8)
/-- How many signs of a name follow from place 'k' on. -/
def nmLen (L : List UInt8) (k : Nat) : Nat := ((L.drop k).takeWhile sgn).length

theorem nmLen_go (L : List UInt8) (k : Nat) (h : k < L.length) (hs : sgn L[k] = true) : nmLen L k = nmLen L (k + 1) + 1 := by
  unfold nmLen
  rw [List.drop_eq_getElem_cons h, List.takeWhile_cons, if_pos hs, List.length_cons]
theorem nmLen_stop (L : List UInt8) (k : Nat) (h : k < L.length) (hs : sgn L[k] = false) : nmLen L k = 0 := by
  unfold nmLen
  rw [List.drop_eq_getElem_cons h, List.takeWhile_cons, if_neg (by simp [hs])]
  rfl
theorem nmLen_end (L : List UInt8) (k : Nat) (h : L.length ≤ k) : nmLen L k = 0 := by
  unfold nmLen
  rw [List.drop_eq_nil_of_le h]
  rfl
theorem nmLen_le (L : List UInt8) (k : Nat) (h : k ≤ L.length) : k + nmLen L k ≤ L.length := by
  unfold nmLen
  have h1 := (List.takeWhile_sublist sgn (l := L.drop k)).length_le
  rw [List.length_drop] at h1
  omega

/-- The length of a name. -/
def okLen (n : Nat) : Bool := decide (1 ≤ n) && decide (n ≤ 8)

/-- The next byte is 'c'. -/
def nextIs (L : List UInt8) (k : Nat) (c : UInt8) : Bool := L[k]? == some c
/-- Further names of a domain, at most 'n' of them; whether the last one was a name, and where they end. -/
def domGo (L : List UInt8) : Nat → Bool → Nat → Bool × Nat
  | 0, ok, k => (ok, k)
  | n + 1, ok, k => if ok && nextIs L k 46 then domGo L n (okLen (nmLen L (k + 1))) (k + 1 + nmLen L (k + 1)) else (ok, k)
/-- Where the names of a domain end. -/
def domEnd (L : List UInt8) (k : Nat) : Nat := (domGo L 2 (okLen (nmLen L k)) (k + nmLen L k)).2
/-- Whether a domain stands from place 'k' on. -/
def domOk (L : List UInt8) (k : Nat) : Bool := (domGo L 2 (okLen (nmLen L k)) (k + nmLen L k)).1 && decide (domEnd L k - k ≤ 20)

/-- Whether a user, an at sign and a domain stand from place 'k' on. -/
def adOk (L : List UInt8) (k : Nat) : Bool := okLen (nmLen L k) && nextIs L (k + nmLen L k) 64 && domOk L (k + nmLen L k + 1)
/-- Where the domain ends. -/
def adEnd (L : List UInt8) (k : Nat) : Nat := domEnd L (k + nmLen L k + 1)
/-- The user. -/
def adUser (L : List UInt8) (k : Nat) : List UInt8 := (L.drop k).take (nmLen L k)
/-- The domain. -/
def adDom (L : List UInt8) (k : Nat) : List UInt8 := (L.drop (k + nmLen L k + 1)).take (adEnd L k - (k + nmLen L k + 1))

/-- Whether the whole text is an address. -/
def apB (L : List UInt8) : Bool := adOk L 0 && decide (adEnd L 0 = L.length)
/-- Whether a path in brackets stands. -/
def ppB (L : List UInt8) : Bool := nextIs L 0 60 && adOk L 1 && nextIs L (adEnd L 1) 62 && decide (adEnd L 1 + 1 = L.length)

theorem domGo_off (L : List UInt8) (n k : Nat) : domGo L n false k = (false, k) := by cases n <;> rfl
theorem domGo_zero (L : List UInt8) (o : Bool) (k : Nat) : domGo L 0 o k = (o, k) := rfl
theorem domGo_no (L : List UInt8) (n k : Nat) (o : Bool) (h : nextIs L k 46 = false) : domGo L n o k = (o, k) := by
  cases n with
  | zero => rfl
  | succ n => unfold domGo; rw [h]; simp
theorem domGo_yes (L : List UInt8) (n k : Nat) (h : nextIs L k 46 = true) : domGo L (n + 1) true k = domGo L n (okLen (nmLen L (k + 1))) (k + 1 + nmLen L (k + 1)) := by
  conv => lhs; unfold domGo
  rw [h]; simp
theorem nextIs_lt {L : List UInt8} {k : Nat} {c : UInt8} (h : nextIs L k c = true) : k < L.length := by
  unfold nextIs at h
  rcases Nat.lt_or_ge k L.length with h1 | h1
  · exact h1
  · rw [List.getElem?_eq_none h1] at h; cases h

theorem int_beq (a b : Nat) : ((a : Int) == (b : Int)) = decide (a = b) := by
  rw [Bool.eq_iff_iff]; simp; omega
theorem extract_list (s : ByteArray) (a b : Nat) : (s.extract a b).data.toList = (s.data.toList.drop a).take (b - a) := by
  rw [ByteArray.data_extract, Array.toList_extract, List.extract_eq_take_drop]
end Go.Proofs.Ytinbdibenbplnaa
namespace Go.Proofs.Ytinbdibenbplnaa
open Go.RowKit
set_option linter.unusedVariables false

/-- 'n' lies between 'a' and 'b'. -/
def inB (n a b : Int) : Bool := decide (a ≤ n ∧ n ≤ b)
set_option maxHeartbeats 400000 in
theorem in_any (n a b : Int) (w : World) : Calls Try.prog 58 #[.int .i64 n, .int .i64 a, .int .i64 b] w fun e w' => e = .returned (.bool (inB n a b)) ∧ w = w' := by
  by_cases h1 : a ≤ n <;> by_cases h2 : n ≤ b
  all_goals
    go_enter Try.func58, Try.ntmps58
    go_wp2
    go_ret
    refine ⟨ret_bool ?_, rfl⟩
    unfold inB
    first
      | exact (decide_eq_true (by omega)).symm
      | exact (decide_eq_false (by omega)).symm

theorem all_take (L : List UInt8) (k : Nat) (hk : k < L.length) (h : (L.take k).all sgn = true) : (L.take (k + 1)).all sgn = sgn L[k] := by
  rw [List.take_succ_eq_append_getElem hk, List.all_append, h]
  simp
theorem all_stop (L : List UInt8) (k : Nat) (hk : k < L.length) (h : sgn L[k] = false) : L.all sgn = false := by
  rw [← Bool.not_eq_true]
  intro ha
  rw [List.all_eq_true] at ha
  have := ha L[k] (List.getElem_mem hk)
  rw [h] at this
  cases this

set_option maxHeartbeats 1000000 in
theorem spec_name (s : ByteArray) (w : World) (hs : s.size ≤ 16777216) :
    Calls Try.prog 49 #[.string s] w fun e w' => e = .returned (.bool (nameB s.data.toList)) ∧ w = w' := by
  have hl : s.data.toList.length = s.size := by simp
  have HL := Lib.hid hl
  clear hl
  go_enter Try.func49, Try.ntmps49
  go_wp2
  go_loop [3] (fun i => ∃ k : Nat, k ≤ s.size ∧ i = .int .i64 (k : Int) ∧ Hid ((s.data.toList.take k).all sgn = true)) (fun i => s.size - (intOf i).toNat)
  case atStart => exact ⟨0, Nat.zero_le _, by go_num, rfl⟩
  case round =>
    obtain ⟨k, hk, rfl, HA⟩ := hrel
    by_cases hlt : k < s.size
    · have h0 : (0 : Int) ≤ (k : Int) := by omega
      have h5 : (k : Int) < (s.size : Int) := by omega
      by_cases h1 : (97 : Int) ≤ (s[k].toNat : Int) <;> by_cases h2 : (s[k].toNat : Int) ≤ 122 <;> by_cases h3 : (48 : Int) ≤ (s[k].toNat : Int) <;> by_cases h4 : (s[k].toNat : Int) ≤ 57
      all_goals first
        | (exfalso; omega)
        | (go_wp2
           first
             | (go_round
                case rel =>
                  refine ⟨k + 1, by omega, by go_num, ?_⟩
                  show _ = true
                  rw [all_take _ _ (by rw [HL.out]; exact hlt) HA.out]
                  exact decide_eq_true (by show (97 ≤ s[k].toNat ∧ s[k].toNat ≤ 122) ∨ (48 ≤ s[k].toNat ∧ s[k].toNat ≤ 57); omega)
                case measure => simp [intOf]; omega)
             | (go_ret
                refine ⟨ret_bool ?_, rfl⟩
                have e1 : sgn s.data.toList[k] = false := decide_eq_false (by show ¬ ((97 ≤ s[k].toNat ∧ s[k].toNat ≤ 122) ∨ (48 ≤ s[k].toNat ∧ s[k].toNat ≤ 57)); omega)
                unfold nameB
                rw [all_stop _ k (by rw [HL.out]; exact hlt) e1]
                rfl))
    · have hkk : k = s.size := by omega
      have HK := Lib.hid hkk
      clear hkk
      go_wp2_with fail
      refine (in_any _ _ _ _).mono ?_
      rintro e w1 ⟨rfl, rfl⟩
      go_wp2
      go_ret
      refine ⟨ret_bool ?_, rfl⟩
      have ha : s.data.toList.all sgn = true := by
        have := HA.out
        rw [HK.out, ← HL.out, List.take_length] at this
        exact this
      show inB _ _ _ = _
      unfold nameB inB
      rw [ha, HL.out]
      by_cases h1 : 1 ≤ s.size <;> by_cases h2 : s.size ≤ 8
      · rw [decide_eq_true (by omega), decide_eq_true h1, decide_eq_true h2]; rfl
      · rw [decide_eq_false (by omega), decide_eq_false h2]; simp
      · rw [decide_eq_false (by omega), decide_eq_false h1]; simp
      · rw [decide_eq_false (by omega), decide_eq_false h1]; simp
end Go.Proofs.Ytinbdibenbplnaa
namespace Go.Proofs.Ytinbdibenbplnaa
open Go.RowKit
set_option linter.unusedVariables false

/-- A string value. -/
def str (l : List UInt8) : Value := .string ⟨l.toArray⟩
theorem str_of (s : ByteArray) : Value.string s = str s.data.toList := by
  unfold str
  cases s
  simp
/-- The parts of a text at a byte, the first one begun with 'cur'. -/
def cutGo (c : UInt8) : List UInt8 → List UInt8 → List (List UInt8)
  | cur, [] => [cur]
  | cur, x :: t => if x = c then cur :: cutGo c [] t else cutGo c (cur ++ [x]) t
/-- The parts of a text at a byte. -/
def cut (c : UInt8) (L : List UInt8) : List (List UInt8) := cutGo c [] L

theorem cutGo_len (c : UInt8) (l : List UInt8) : ∀ cur, 1 ≤ (cutGo c cur l).length ∧ (cutGo c cur l).length ≤ l.length + 1 := by
  induction l with
  | nil => intro cur; simp [cutGo]
  | cons x t ih =>
    intro cur
    unfold cutGo
    split
    · have := ih []; simp; omega
    · have := ih (cur ++ [x]); simp; omega
theorem cut_len (c : UInt8) (L : List UInt8) : 1 ≤ (cut c L).length ∧ (cut c L).length ≤ L.length + 1 := cutGo_len c L []

/-- What the loop has found: the parts 'P', and where the next one begins. -/
def CutAt (c : UInt8) (L : List UInt8) (P : List (List UInt8)) (f i : Nat) : Prop := cut c L = P ++ cutGo c ((L.drop f).take (i - f)) (L.drop i)

theorem CutAt.begin (c : UInt8) (L : List UInt8) : CutAt c L [] 0 0 := by unfold CutAt cut; simp
theorem CutAt.hit {c : UInt8} {L : List UInt8} {P : List (List UInt8)} {f i : Nat} (h : CutAt c L P f i) (hi : i < L.length) (hc : L[i] = c) : CutAt c L (P ++ [(L.drop f).take (i - f)]) (i + 1) (i + 1) := by
  unfold CutAt at h ⊢
  rw [h, List.drop_eq_getElem_cons hi]
  conv => lhs; rw [cutGo, if_pos hc]
  simp
theorem CutAt.miss {c : UInt8} {L : List UInt8} {P : List (List UInt8)} {f i : Nat} (h : CutAt c L P f i) (hf : f ≤ i) (hi : i < L.length) (hc : L[i] ≠ c) : CutAt c L P f (i + 1) := by
  unfold CutAt at h ⊢
  rw [h, List.drop_eq_getElem_cons hi]
  conv => lhs; rw [cutGo, if_neg hc]
  congr 2
  have e : i + 1 - f = (i - f) + 1 := by omega
  rw [e, List.take_succ_eq_append_getElem (by rw [List.length_drop]; omega), List.getElem_drop]
  congr 2
  congr 1
  omega
theorem CutAt.finish {c : UInt8} {L : List UInt8} {P : List (List UInt8)} {f : Nat} (h : CutAt c L P f L.length) : cut c L = P ++ [L.drop f] := by
  unfold CutAt at h
  rw [h, List.drop_length]
  unfold cutGo
  congr 2
  rw [List.take_of_length_le (by rw [List.length_drop]; omega)]
theorem CutAt.len {c : UInt8} {L : List UInt8} {P : List (List UInt8)} {f i : Nat} (h : CutAt c L P f i) : P.length ≤ L.length := by
  have h1 := cut_len c L
  unfold CutAt at h
  rw [h, List.length_append] at h1
  have h2 := cutGo_len c (L.drop i) ((L.drop f).take (i - f))
  omega

theorem Try.infoString : (Try.prog.info? 9).map (fun i => (i.zero, i.size, i.bytes)) = some (some (.string ⟨#[]⟩), 1, 16) := by kernel_rfl

/-- What 'l1Cut' leaves: a slice that holds the parts. -/
def Cuts (w : World) (ps : List (List UInt8)) (e : Ending) (w' : World) : Prop :=
  ∃ (g cap : Nat), e = .returned (.slice (some ⟨g, 0, none⟩) ps.length cap) ∧ w.heap.size ≤ g ∧ g < w'.heap.size ∧ (∀ j, j < ps.length → w'.cell? ⟨g, j, none⟩ = some (str (ps.getD j []))) ∧ Below w.heap.size w w'

end Go.Proofs.Ytinbdibenbplnaa
namespace Go.Proofs.Ytinbdibenbplnaa
open Go.RowKit
set_option linter.unusedVariables false

set_option maxHeartbeats 400000 in
theorem sign_any (c : UInt8) (w : World) : Calls Try.prog 91 #[.int .u8 (c.toNat : Int)] w fun e w' => e = .returned (.bool (sgn c)) ∧ w' = w := by
  by_cases h1 : (97 : Int) ≤ (c.toNat : Int) <;> by_cases h2 : (c.toNat : Int) ≤ 122 <;> by_cases h3 : (48 : Int) ≤ (c.toNat : Int) <;> by_cases h4 : (c.toNat : Int) ≤ 57
  all_goals first
    | (exfalso; omega)
    | (go_enter Try.func91, Try.ntmps91
       go_wp2
       go_ret
       refine ⟨ret_bool ?_, rfl⟩
       unfold sgn
       first
         | exact (decide_eq_true (by omega)).symm
         | exact (decide_eq_false (by omega)).symm)
theorem sign_yes (c : UInt8) (w : World) (h : sgn c = true) : Calls Try.prog 91 #[.int .u8 (c.toNat : Int)] w fun e w' => e = .returned (.bool true) ∧ w' = w := h ▸ sign_any c w
theorem sign_no (c : UInt8) (w : World) (h : sgn c = false) : Calls Try.prog 91 #[.int .u8 (c.toNat : Int)] w fun e w' => e = .returned (.bool false) ∧ w' = w := h ▸ sign_any c w

/-- The cursor's block: the text and the place. -/
def Cur (w : World) (b : Nat) (s : ByteArray) (k : Nat) : Prop := Whole w b 93 #[.string s, .int .i64 (k : Int)]

section
variable {w w' : World} {b k : Nat} {s : ByteArray}
theorem Cur.text (h : Cur w b s k) : w.cell? ⟨b, 0, none⟩ = some (.string s) := Whole.cell h 0
theorem Cur.place (h : Cur w b s k) : w.cell? ⟨b, 1, none⟩ = some (.int .i64 (k : Int)) := Whole.cell h 1
theorem Cur.free (h : Cur w b s k) (i : Nat) : w.frozen? ⟨b, i, none⟩ = false := Whole.free h i
theorem Cur.drewN (h : Cur w b s k) (n : Nat) : Cur (w.drewN n) b s k := h
theorem Cur.go (h : Cur w b s k) : Cur (w.setCell ⟨b, 1, none⟩ (.int .i64 ((k + 1 : Nat) : Int))) b s (k + 1) := Whole.store h 1 _
end

set_option maxHeartbeats 400000 in
theorem done_yes (b k : Nat) (s : ByteArray) (w : World) (h : Cur w b s k) (hk : k = s.size) :
    Calls Try.prog 77 #[.pointer (some ⟨b, 0, none⟩)] w fun e w' => e = .returned (.bool true) ∧ ∃ n, w' = w.drewN n := by
  have ht := h.text
  have hp := h.place
  clear h
  have hd : ((k : Int) == (s.size : Int)) = true := by rw [int_beq]; simpa using hk
  clear hk
  go_enter Try.func77, Try.ntmps77
  go_wp2
  go_quiet (fail)
  go_wp2
  go_ret
  exact ⟨rfl, _, rfl⟩
set_option maxHeartbeats 400000 in
theorem done_no (b k : Nat) (s : ByteArray) (w : World) (h : Cur w b s k) (hk : k < s.size) :
    Calls Try.prog 77 #[.pointer (some ⟨b, 0, none⟩)] w fun e w' => e = .returned (.bool false) ∧ ∃ n, w' = w.drewN n := by
  have ht := h.text
  have hp := h.place
  clear h
  have hd : ((k : Int) == (s.size : Int)) = false := by rw [int_beq]; simp; omega
  clear hk
  go_enter Try.func77, Try.ntmps77
  go_wp2
  go_quiet (fail)
  go_wp2
  go_ret
  exact ⟨rfl, _, rfl⟩

/-- 'take' where the next byte is asked for. -/
def Took (w : World) (b : Nat) (s : ByteArray) (k : Nat) (r : Bool) (e : Ending) (w' : World) : Prop := e = .returned (.bool r) ∧ Cur w' b s k ∧ w.grownBy w' (some b)
/-- What 'name' leaves: the text of the signs, if there are not too few or too many, and the place behind them. -/
def Named (w : World) (b : Nat) (s : ByteArray) (k : Nat) (e : Ending) (w' : World) : Prop :=
  ∃ v : ByteArray, e = .returned (.tuple #[.string v, .bool (okLen (nmLen s.data.toList k))]) ∧ v.data.toList = (if okLen (nmLen s.data.toList k) then (s.data.toList.drop k).take (nmLen s.data.toList k) else []) ∧
    Cur w' b s (k + nmLen s.data.toList k) ∧ w.grownBy w' (some b)

theorem ret_two {a b : Value} {c d : Bool} (h1 : a = b) (h2 : c = d) : Ending.returned (.tuple #[a, .bool c]) = .returned (.tuple #[b, .bool d]) := by rw [h1, h2]
theorem named_no {b k j : Nat} {s : ByteArray} {w wr : World} (n : Nat) (hgr : w.grownBy wr (some b)) (hc : Cur wr b s j) (hk : nmLen s.data.toList k = j - k) (hn : j - k = 0 ∨ 8 < j - k) (h3 : (k : Int) ≤ (j : Int)) :
    Named w b s k (.returned (.tuple #[.string ⟨#[]⟩, .bool false])) (wr.drewN n) := by
  have ho : okLen (nmLen s.data.toList k) = false := by
    unfold okLen
    rw [hk]
    rcases hn with h | h
    · rw [decide_eq_false (p := 1 ≤ j - k) (by omega)]; rfl
    · rw [decide_eq_false (p := j - k ≤ 8) (by omega)]; simp
  refine ⟨⟨#[]⟩, ?_, ?_, ?_, gr_drewN hgr _⟩
  · rw [ho]
  · rw [ho]; rfl
  · rw [hk]
    have : k + (j - k) = j := by omega
    rw [this]
    exact hc.drewN _
theorem named_yes {b k j : Nat} {s : ByteArray} {w wr : World} (n : Nat) (hgr : w.grownBy wr (some b)) (hc : Cur wr b s j) (hk : nmLen s.data.toList k = j - k) (hn : 1 ≤ j - k) (hn8 : j - k ≤ 8) (h3 : (k : Int) ≤ (j : Int)) :
    Named w b s k (.returned (.tuple #[.string (s.extract k j), .bool true])) (wr.drewN n) := by
  have ho : okLen (nmLen s.data.toList k) = true := by
    unfold okLen
    rw [hk, decide_eq_true hn, decide_eq_true hn8]; rfl
  refine ⟨s.extract k j, ?_, ?_, ?_, gr_drewN hgr _⟩
  · rw [ho]
  · rw [ho, if_pos rfl, hk]; exact extract_list _ _ _
  · rw [hk]
    have : k + (j - k) = j := by omega
    rw [this]
    exact hc.drewN _

set_option maxHeartbeats 1000000 in
theorem name_any (b k : Nat) (s : ByteArray) (w : World) (h : Cur w b s k) (hs : s.size ≤ 16777216) (hk : k ≤ s.size) :
    Calls Try.prog 76 #[.pointer (some ⟨b, 0, none⟩)] w (Named w b s k) := by
  have hl : s.data.toList.length = s.size := by simp
  have hp := h.place
  have H := Lib.hid h
  have HL := Lib.hid hl
  clear h hl
  go_enter Try.func76, Try.ntmps76
  go_wp2
  clear hp
  go_loopg [] (s.size - k) (fun g wr => ∃ j, k ≤ j ∧ j ≤ s.size ∧ g = s.size - j ∧ j + nmLen s.data.toList j = k + nmLen s.data.toList k ∧ Cur wr b s j ∧ w.grownBy wr (some b))
  case atStart => exact ⟨k, Nat.le_refl _, hk, rfl, rfl, H.out, gr_refl _ _⟩
  case round =>
    obtain ⟨j, hkj, hjs, hg, hnm, hcur, hgr⟩ := hrel
    have HN := Lib.hid hnm
    have HG := Lib.hid hg
    clear hnm hg
    have HC := Lib.hid hcur
    have hte := hcur.text
    have hpl := hcur.place
    have hfr := hcur.free 1
    have h0 : (0 : Int) ≤ (j : Int) := by omega
    clear hcur
    by_cases hgo : ∃ hj : j < s.size, sgn s[j] = true
    · obtain ⟨hj, hsg⟩ := hgo
      have h1 : (j : Int) < (s.size : Int) := by omega
      have HS := Lib.hid hsg
      clear hsg
      go_wp2
      go_quiet ((first
        | (go_at_call 77; exact Calls.quiet_of (done_no b j s _ (HC.out.drewN _) hj))
        | (go_at_call 91; exact Calls.quiet_of_same (sign_yes _ _ HS.out))))
      go_wp2
      go_roundg (s.size - (j + 1))
      case measure => have := HG.out; omega
      case rel =>
        refine ⟨j + 1, by omega, by omega, rfl, ?_, (HC.out.drewN _).go, gr_store (gr_drewN hgr _) (.inl rfl) _⟩
        have e1 := nmLen_go s.data.toList j (by rw [HL.out]; exact hj) HS.out
        have e2 := HN.out
        omega
    · have HK : Hid (nmLen s.data.toList k = j - k) := by
        have e2 := HN.out
        show _ = _
        by_cases hj : j < s.size
        · have e1 := nmLen_stop s.data.toList j (by rw [HL.out]; exact hj) (Bool.eq_false_iff.2 fun h => hgo ⟨hj, h⟩)
          omega
        · have e1 := nmLen_end s.data.toList j (by rw [HL.out]; omega)
          omega
      have HX : Hid ((∃ hj : j < s.size, sgn s[j] = false) ∨ j = s.size) := by
        by_cases hj : j < s.size
        · exact .inl ⟨hj, Bool.eq_false_iff.2 fun h => hgo ⟨hj, h⟩⟩
        · exact .inr (by omega)
      clear hgo
      have h2 : (0 : Int) ≤ (k : Int) := by omega
      have h3 : (k : Int) ≤ (j : Int) := by omega
      have h4 : (j : Int) ≤ (s.size : Int) := by omega
      have hez : (s.extract k j).size = j - k := by rw [ByteArray.size_extract]; omega
      rcases HX.out with ⟨hj, hsg⟩ | hj
      · have h1 : (j : Int) < (s.size : Int) := by omega
        have HS := Lib.hid hsg
        clear hsg HX
        by_cases hn0 : j = k
        · obtain ⟨hE, hE'⟩ := isEmpty (v := s.extract k j) (by omega)
          have HM := Lib.hid hn0
          clear hez hn0
          go_wp2
          go_quiet ((first
            | (go_at_call 77; exact Calls.quiet_of (done_no b j s _ (HC.out.drewN _) hj))
            | (go_at_call 91; exact Calls.quiet_of_same (sign_no _ _ HS.out))))
          go_wp2
          go_quiet (fail)
          go_wp2
          go_ret2
          exact named_no _ hgr HC.out HK.out (by have := HM.out; omega) h3
        · obtain ⟨hE, hE'⟩ := noEmpty (v := s.extract k j) (by omega)
          have HZ := Lib.hid hez
          clear hez
          by_cases hn8 : j - k ≤ 8
          · have hn8' : ((j - k : Nat) : Int) ≤ 8 := by omega
            go_wp2
            go_quiet ((first
              | (go_at_call 77; exact Calls.quiet_of (done_no b j s _ (HC.out.drewN _) hj))
              | (go_at_call 91; exact Calls.quiet_of_same (sign_no _ _ HS.out))))
            go_wp2
            go_quiet (fail)
            go_wp2
            go_ret2
            exact named_yes _ hgr HC.out HK.out (by omega) hn8 h3
          · have hn8' : (8 : Int) < ((j - k : Nat) : Int) := by omega
            go_wp2
            go_quiet ((first
              | (go_at_call 77; exact Calls.quiet_of (done_no b j s _ (HC.out.drewN _) hj))
              | (go_at_call 91; exact Calls.quiet_of_same (sign_no _ _ HS.out))))
            go_wp2
            go_quiet (fail)
            go_wp2
            go_ret2
            exact named_no _ hgr HC.out HK.out (by omega) h3
      · have HJ := Lib.hid hj
        clear hj HX
        by_cases hn0 : j = k
        · obtain ⟨hE, hE'⟩ := isEmpty (v := s.extract k j) (by omega)
          have HM := Lib.hid hn0
          clear hez hn0
          go_wp2
          go_quiet ((go_at_call 77; exact Calls.quiet_of (done_yes b j s _ (HC.out.drewN _) HJ.out)))
          go_wp2
          go_quiet (fail)
          go_wp2
          go_ret2
          exact named_no _ hgr HC.out HK.out (by have := HM.out; omega) h3
        · obtain ⟨hE, hE'⟩ := noEmpty (v := s.extract k j) (by omega)
          have HZ := Lib.hid hez
          clear hez
          by_cases hn8 : j - k ≤ 8
          · have hn8' : ((j - k : Nat) : Int) ≤ 8 := by omega
            go_wp2
            go_quiet ((go_at_call 77; exact Calls.quiet_of (done_yes b j s _ (HC.out.drewN _) HJ.out)))
            go_wp2
            go_quiet (fail)
            go_wp2
            go_ret2
            exact named_yes _ hgr HC.out HK.out (by omega) hn8 h3
          · have hn8' : (8 : Int) < ((j - k : Nat) : Int) := by omega
            go_wp2
            go_quiet ((go_at_call 77; exact Calls.quiet_of (done_yes b j s _ (HC.out.drewN _) HJ.out)))
            go_wp2
            go_quiet (fail)
            go_wp2
            go_ret2
            exact named_no _ hgr HC.out HK.out (by omega) h3
end Go.Proofs.Ytinbdibenbplnaa
namespace Go.Proofs.Ytinbdibenbplnaa
open Go.RowKit
set_option linter.unusedVariables false

/-- What 'domain' leaves. -/
def Domained (w : World) (b : Nat) (s : ByteArray) (k : Nat) (e : Ending) (w' : World) : Prop :=
  ∃ v : ByteArray, e = .returned (.tuple #[.string v, .bool (domOk s.data.toList k)]) ∧ v.data.toList = (if domOk s.data.toList k then (s.data.toList.drop k).take (domEnd s.data.toList k - k) else []) ∧
    domEnd s.data.toList k ≤ s.size ∧ Cur w' b s (domEnd s.data.toList k) ∧ w.grownBy w' (some b)

theorem domained_no {b k j : Nat} {o : Bool} {s : ByteArray} {w wr : World} (n : Nat) (hgr : w.grownBy wr (some b)) (hc : Cur wr b s j) (hjs : j ≤ s.size) (hd : domGo s.data.toList 2 (okLen (nmLen s.data.toList k)) (k + nmLen s.data.toList k) = (o, j)) (hn : o = false ∨ 20 < j - k) :
    Domained w b s k (.returned (.tuple #[.string ⟨#[]⟩, .bool false])) (wr.drewN n) := by
  have he : domEnd s.data.toList k = j := by unfold domEnd; rw [hd]
  have ho : domOk s.data.toList k = false := by
    unfold domOk
    rw [he, hd]
    rcases hn with h | h
    · rw [h]; rfl
    · rw [decide_eq_false (p := j - k ≤ 20) (by omega)]; simp
  refine ⟨⟨#[]⟩, ?_, ?_, ?_, ?_, gr_drewN hgr _⟩
  · rw [ho]
  · rw [ho]; rfl
  · rw [he]; exact hjs
  · rw [he]; exact hc.drewN _
theorem domained_yes {b k j : Nat} {s : ByteArray} {w wr : World} (n : Nat) (hgr : w.grownBy wr (some b)) (hc : Cur wr b s j) (hjs : j ≤ s.size) (hd : domGo s.data.toList 2 (okLen (nmLen s.data.toList k)) (k + nmLen s.data.toList k) = (true, j)) (hn : j - k ≤ 20) :
    Domained w b s k (.returned (.tuple #[.string (s.extract k j), .bool true])) (wr.drewN n) := by
  have he : domEnd s.data.toList k = j := by unfold domEnd; rw [hd]
  have ho : domOk s.data.toList k = true := by
    unfold domOk
    rw [he, hd, decide_eq_true hn]; rfl
  refine ⟨s.extract k j, ?_, ?_, ?_, ?_, gr_drewN hgr _⟩
  · rw [ho]
  · rw [ho, if_pos rfl, he]; exact extract_list _ _ _
  · rw [he]; exact hjs
  · rw [he]; exact hc.drewN _

end Go.Proofs.Ytinbdibenbplnaa
namespace Go.Proofs.Ytinbdibenbplnaa
open Go.RowKit
set_option linter.unusedVariables false

/-- What 'address' leaves. -/
def Addressed (w : World) (b : Nat) (s : ByteArray) (k : Nat) (e : Ending) (w' : World) : Prop :=
  ∃ (u d : ByteArray) (j : Nat), e = .returned (.tuple #[.agg #[.string u, .string d], .bool (adOk s.data.toList k)]) ∧
    (adOk s.data.toList k = true → u.data.toList = adUser s.data.toList k ∧ d.data.toList = adDom s.data.toList k ∧ j = adEnd s.data.toList k) ∧
    (adOk s.data.toList k = false → u = ⟨#[]⟩ ∧ d = ⟨#[]⟩) ∧ j ≤ s.size ∧ Cur w' b s j ∧ w.grownBy w' (some b)

theorem bytes_nil {v : ByteArray} (h : v.data.toList = []) : v = ⟨#[]⟩ := by
  cases v with
  | mk d => cases d with
    | mk l => simp at h; subst h; rfl
theorem name_yes (b k : Nat) (s : ByteArray) (w : World) (h : Cur w b s k) (hs : s.size ≤ 16777216) (hk : k ≤ s.size) (ho : okLen (nmLen s.data.toList k) = true) :
    Calls Try.prog 76 #[.pointer (some ⟨b, 0, none⟩)] w fun e w' => ∃ v : ByteArray, e = .returned (.tuple #[.string v, .bool true]) ∧ v.data.toList = (s.data.toList.drop k).take (nmLen s.data.toList k) ∧ Cur w' b s (k + nmLen s.data.toList k) ∧ w.grownBy w' (some b) := by
  refine (name_any b k s w h hs hk).mono ?_
  rintro e w' ⟨v, he, hv, hc, hg⟩
  rw [ho] at he
  rw [ho, if_pos rfl] at hv
  exact ⟨v, he, hv, hc, hg⟩
theorem name_no (b k : Nat) (s : ByteArray) (w : World) (h : Cur w b s k) (hs : s.size ≤ 16777216) (hk : k ≤ s.size) (ho : okLen (nmLen s.data.toList k) = false) :
    Calls Try.prog 76 #[.pointer (some ⟨b, 0, none⟩)] w fun e w' => e = .returned (.tuple #[.string ⟨#[]⟩, .bool false]) ∧ Cur w' b s (k + nmLen s.data.toList k) ∧ w.grownBy w' (some b) := by
  refine (name_any b k s w h hs hk).mono ?_
  rintro e w' ⟨v, he, hv, hc, hg⟩
  rw [ho] at he
  rw [ho] at hv
  have := bytes_nil (v := v) (by simpa using hv)
  subst this
  exact ⟨he, hc, hg⟩
theorem addressed_no {b k j : Nat} {s : ByteArray} {w wr : World} (ho : adOk s.data.toList k = false) (hj : j ≤ s.size) (hc : Cur wr b s j) (hg : w.grownBy wr (some b)) :
    Addressed w b s k (.returned (.tuple #[.agg #[.string ⟨#[]⟩, .string ⟨#[]⟩], .bool false])) wr :=
  ⟨_, _, j, by rw [ho], fun h => by rw [ho] at h; (cases h), fun _ => ⟨rfl, rfl⟩, hj, hc, hg⟩

end Go.Proofs.Ytinbdibenbplnaa
namespace Go.Proofs.Ytinbdibenbplnaa
open Go.RowKit
set_option linter.unusedVariables false

theorem cur_new (w : World) (s : ByteArray) : Cur (w.alloc (.cells #[.string s, .int .i64 0] 93)) w.heap.size s 0 := Whole.made w _ _
theorem new_below {w w1 : World} {o : Obj} (h : (w.alloc o).grownBy w1 (some w.heap.size)) : Below w.heap.size w w1 :=
  below_gr ((Below.refl _ _).alloc (Nat.le_refl _) o) h (by simp) (Nat.le_refl _)

set_option maxHeartbeats 400000 in
theorem impl_name_ (s : ByteArray) (w : World) (hs : s.size ≤ 16777216) :
    Calls Try.prog 47 #[.string s] w fun e w' => e = .returned (.bool (okLen (nmLen s.data.toList 0) && decide (nmLen s.data.toList 0 = s.size))) ∧ Below w.heap.size w w' := by
  by_cases ho : okLen (nmLen s.data.toList 0) = true
  · have HO := Lib.hid ho
    clear ho
    by_cases hz : nmLen s.data.toList 0 = s.size
    · have HZ := Lib.hid hz
      clear hz
      go_enter Try.func47, Try.ntmps47
      go_wp2_with fail
      refine (name_yes w.heap.size 0 s _ (cur_new w s) hs (Nat.zero_le _) HO.out).mono ?_
      rintro e w1 ⟨v, rfl, hv, hc, hg⟩
      have HC := Lib.hid hc
      have HG := Lib.hid hg
      clear hv hc hg
      go_wp2_with fail
      refine (done_yes w.heap.size _ s _ HC.out (by have := HZ.out; omega)).mono ?_
      rintro e w2 ⟨rfl, n, rfl⟩
      go_wp2
      go_ret
      exact ⟨ret_bool (by rw [HO.out, decide_eq_true HZ.out]; rfl), below_drewN' (new_below HG.out) _⟩
    · have HZ := Lib.hid hz
      clear hz
      go_enter Try.func47, Try.ntmps47
      go_wp2_with fail
      refine (name_yes w.heap.size 0 s _ (cur_new w s) hs (Nat.zero_le _) HO.out).mono ?_
      rintro e w1 ⟨v, rfl, hv, hc, hg⟩
      have HC := Lib.hid hc
      have HG := Lib.hid hg
      clear hv hc hg
      go_wp2_with fail
      refine (done_no w.heap.size _ s _ HC.out (by have := HZ.out; have := nmLen_le s.data.toList 0 (Nat.zero_le _); have hl : s.data.toList.length = s.size := (by simp); omega)).mono ?_
      rintro e w2 ⟨rfl, n, rfl⟩
      go_wp2
      go_ret
      exact ⟨ret_bool (by rw [HO.out, decide_eq_false HZ.out]; rfl), below_drewN' (new_below HG.out) _⟩
  · have HO := Lib.hid (Bool.eq_false_iff.2 ho)
    clear ho
    go_enter Try.func47, Try.ntmps47
    go_wp2_with fail
    refine (name_no w.heap.size 0 s _ (cur_new w s) hs (Nat.zero_le _) HO.out).mono ?_
    rintro e w1 ⟨rfl, hc, hg⟩
    have HG := Lib.hid hg
    clear hc hg
    go_wp2
    go_ret
    exact ⟨ret_bool (by rw [HO.out]; rfl), new_below HG.out⟩

end Go.Proofs.Ytinbdibenbplnaa
namespace Go.Proofs.Ytinbdibenbplnaa
open Go.RowKit
set_option linter.unusedVariables false

/-- What a parser of addresses leaves: 'ok' says whether it succeeds, 'U' and 'D' are the user's and the domain's bytes. -/
def Parsed (w : World) (ok : Bool) (U D : List UInt8) (e : Ending) (w' : World) : Prop :=
  ∃ u d : ByteArray, e = .returned (.tuple #[.agg #[.string u, .string d], .bool ok]) ∧ (ok = true → u.data.toList = U ∧ d.data.toList = D) ∧ (ok = false → u = ⟨#[]⟩ ∧ d = ⟨#[]⟩) ∧ Below w.heap.size w w'

theorem parsed_no {w w' : World} {ok : Bool} {U D : List UInt8} (h : ok = false) (hb : Below w.heap.size w w') : Parsed w ok U D (.returned (.tuple #[.agg #[.string ⟨#[]⟩, .string ⟨#[]⟩], .bool false])) w' :=
  ⟨_, _, by rw [h], fun h' => by rw [h] at h'; (cases h'), fun _ => ⟨rfl, rfl⟩, hb⟩
theorem parsed_yes {w w' : World} {ok : Bool} {u d : ByteArray} {U D : List UInt8} (h : ok = true) (hu : u.data.toList = U) (hd : d.data.toList = D) (hb : Below w.heap.size w w') : Parsed w ok U D (.returned (.tuple #[.agg #[.string u, .string d], .bool true])) w' :=
  ⟨u, d, by rw [h], fun _ => ⟨hu, hd⟩, fun h' => by rw [h] at h'; (cases h'), hb⟩

theorem two_below {w w1 : World} {o p : Obj} (h : ((w.alloc o).alloc p).grownBy w1 (some (w.heap.size + 1))) : Below w.heap.size w w1 :=
  below_gr (((Below.refl _ _).alloc (Nat.le_refl _) o).alloc (by simp) p) h (by simp; omega) (by omega)

theorem cur_new2 (w : World) (s : ByteArray) (o : Obj) : Cur ((w.alloc o).alloc (.cells #[.string s, .int .i64 0] 93)) (w.heap.size + 1) s 0 := by
  have := Whole.made (w.alloc o) 93 #[.string s, .int .i64 0]
  show Whole _ _ _ _
  simpa using this

/-- The path without an address. -/
def bare : List UInt8 := [60, 62]
def ppA (L : List UInt8) : Bool := decide (L = bare) || ppB L
def pathU (L : List UInt8) : List UInt8 := if L = bare then [] else adUser L 1
def pathD (L : List UInt8) : List UInt8 := if L = bare then [] else adDom L 1
theorem path_no {L : List UInt8} (h : ¬ L = bare) (hp : ppB L = false) : ppA L = false := by unfold ppA; rw [hp, decide_eq_false h]; rfl
theorem path_yes {L : List UInt8} (hp : ppB L = true) : ppA L = true := by unfold ppA; rw [hp]; simp
end Go.Proofs.Ytinbdibenbplnaa
namespace Go.Proofs.Ytinbdibenbplnaa
open Go.RowKit
set_option linter.unusedVariables false

/-- A domain. -/
def domB (L : List UInt8) : Bool := (cut 46 L).all nameB && decide ((cut 46 L).length ≤ 3) && decide (L.length ≤ 20)
theorem part_mem {α : Type} {l : List α} {x : α} {j : Nat} (d : α) (h : j < l.length) (e : l.getD j d = x) : x ∈ l := by
  rw [List.getD_eq_getElem?_getD, List.getElem?_eq_getElem h] at e
  subst e
  exact List.getElem_mem h
theorem spec_name_str (l : List UInt8) (w : World) (hs : l.length ≤ 16777216) : Calls Try.prog 49 #[str l] w fun e w' => e = .returned (.bool (nameB l)) ∧ w = w' := by
  have := spec_name ⟨l.toArray⟩ w hs
  simpa [str] using this
theorem cutGo_le (c : UInt8) (l : List UInt8) : ∀ cur, ∀ x ∈ cutGo c cur l, x.length ≤ cur.length + l.length := by
  induction l with
  | nil => intro cur x hx; simp [cutGo] at hx; subst hx; simp
  | cons y t ih =>
    intro cur x hx
    unfold cutGo at hx
    split at hx
    · rcases List.mem_cons.1 hx with rfl | h
      · omega
      · have := ih [] x h; simp at this; simp; omega
    · have := ih _ x hx; simp at this; simp; omega
theorem cut_le {c : UInt8} {L x : List UInt8} (h : x ∈ cut c L) : x.length ≤ L.length := by have := cutGo_le c L [] x h; simpa using this
theorem all_tk {α : Type} (f : α → Bool) (L : List α) (k : Nat) (hk : k < L.length) (h : (L.take k).all f = true) (hf : f (L[k]) = true) : (L.take (k + 1)).all f = true := by
  rw [List.take_succ_eq_append_getElem hk, List.all_append, h]
  simp [hf]
theorem all_no {α : Type} (f : α → Bool) (L : List α) (k : Nat) (hk : k < L.length) (h : f L[k] = false) : L.all f = false := by
  rw [← Bool.not_eq_true]
  intro ha
  rw [List.all_eq_true] at ha
  have := ha L[k] (List.getElem_mem hk)
  rw [h] at this
  cases this

theorem str_back (l : List UInt8) : (⟨l.toArray⟩ : ByteArray).data.toList = l := rfl
/-- The user and the domain of a text, if there are just two parts. -/
def two (L : List UInt8) : List (List UInt8) := cut 64 L
def spB (L : List UInt8) : Bool := decide ((two L).length = 2) && (nameB ((two L).getD 0 []) && domB ((two L).getD 1 []))
/-- The text of an address. -/
def adText (u d : List UInt8) : List UInt8 := if (nameB u && domB d) = true then u ++ 64 :: d else []
theorem adText_yes {u d : List UInt8} (h : (nameB u && domB d) = true) : adText u d = u ++ 64 :: d := by unfold adText; rw [if_pos h]
theorem adText_no {u d : List UInt8} (h : (nameB u && domB d) = false) : adText u d = [] := by unfold adText; rw [h]; rfl
/-- What a writer of addresses leaves. -/
def Wrote (w : World) (L : List UInt8) (e : Ending) (w' : World) : Prop := ∃ v : ByteArray, v.data.toList = L ∧ e = .returned (.string v) ∧ Below w.heap.size w w'
theorem cat_data (u d : ByteArray) : (u ++ ⟨#[64]⟩ ++ d).data.toList = u.data.toList ++ 64 :: d.data.toList := by simp
end Go.Proofs.Ytinbdibenbplnaa
namespace Go.Proofs.Ytinbdibenbplnaa
set_option linter.unusedVariables false

theorem sgn_ne {x c : UInt8} (h : sgn x = true) (hc : sgn c = false) : x ≠ c := by rintro rfl; rw [h] at hc; cases hc
theorem sgn46 : sgn 46 = false := by decide
theorem sgn64 : sgn 64 = false := by decide
theorem sgn62 : sgn 62 = false := by decide

/-- A list is its leading signs, and nothing or something that begins with no sign. -/
theorem span_sgn (r : List UInt8) : ∃ p q, r = p ++ q ∧ p.all sgn = true ∧ (r.takeWhile sgn) = p ∧ (q = [] ∨ ∃ x t, q = x :: t ∧ sgn x = false) := by
  induction r with
  | nil => exact ⟨[], [], rfl, rfl, rfl, .inl rfl⟩
  | cons a r ih =>
    by_cases ha : sgn a = true
    · obtain ⟨p, q, rfl, hp, ht, hq⟩ := ih
      refine ⟨a :: p, q, rfl, by simp [ha, hp], by rw [List.takeWhile_cons, if_pos ha, ht], hq⟩
    · refine ⟨[], a :: r, rfl, rfl, by rw [List.takeWhile_cons, if_neg ha], .inr ⟨a, r, rfl, Bool.eq_false_iff.2 ha⟩⟩

theorem nameB_all {p : List UInt8} (h : p.all sgn = true) : nameB p = okLen p.length := by unfold nameB okLen; rw [h]; rfl
theorem nameB_bad {p : List UInt8} {x : UInt8} (hx : x ∈ p) (h : sgn x = false) : nameB p = false := by
  unfold nameB
  have : p.all sgn = false := by
    rw [← Bool.not_eq_true]; intro ha; rw [List.all_eq_true] at ha; have := ha x hx; rw [h] at this; cases this
  rw [this]; rfl

theorem cutGo_skip (c : UInt8) (p q : List UInt8) (hp : ∀ x ∈ p, x ≠ c) : ∀ cur, cutGo c cur (p ++ q) = cutGo c (cur ++ p) q := by
  induction p with
  | nil => intro cur; simp
  | cons a p ih =>
    intro cur
    rw [List.cons_append, cutGo, if_neg (hp a (by simp)), ih (fun x hx => hp x (by simp [hx]))]
    simp
theorem cutGo_head (c : UInt8) (l : List UInt8) : ∀ cur, ∃ q rest, cutGo c cur l = (cur ++ q) :: rest := by
  induction l with
  | nil => intro cur; exact ⟨[], [], by simp [cutGo]⟩
  | cons a l ih =>
    intro cur
    unfold cutGo
    split
    · exact ⟨[], cutGo c [] l, by simp⟩
    · obtain ⟨q, rest, h⟩ := ih (cur ++ [a])
      exact ⟨a :: q, rest, by rw [h]; simp⟩
theorem cut_nil_of (c : UInt8) (p : List UInt8) (hp : ∀ x ∈ p, x ≠ c) : cut c p = [p] := by
  have := cutGo_skip c p [] hp []
  simp [cutGo] at this
  exact this
theorem cut_at (c : UInt8) (p t : List UInt8) (hp : ∀ x ∈ p, x ≠ c) : cut c (p ++ c :: t) = p :: cut c t := by
  unfold cut
  rw [cutGo_skip c p _ hp, cutGo, if_pos rfl]
  simp
theorem cut_other (c : UInt8) (p t : List UInt8) (x : UInt8) (hp : ∀ y ∈ p, y ≠ c) (hx : x ≠ c) : ∃ q rest, cut c (p ++ x :: t) = (p ++ x :: q) :: rest := by
  unfold cut
  rw [cutGo_skip c p _ hp, cutGo, if_neg hx]
  obtain ⟨q, rest, h⟩ := cutGo_head c t ([] ++ p ++ [x])
  exact ⟨q, rest, by rw [h]; simp⟩
theorem cutGo_mem (c : UInt8) (l : List UInt8) : ∀ cur x, (x ∈ cur ∨ x ∈ l) → x ≠ c → ∃ y ∈ cutGo c cur l, x ∈ y := by
  induction l with
  | nil => intro cur x hx hc; exact ⟨cur, by simp [cutGo], by simpa using hx⟩
  | cons a l ih =>
    intro cur x hx hc
    unfold cutGo
    split
    · rename_i ha
      rcases hx with hx | hx
      · exact ⟨cur, by simp, hx⟩
      · rcases List.mem_cons.1 hx with rfl | h
        · exact absurd ha hc
        · obtain ⟨y, hy, hxy⟩ := ih [] x (.inr h) hc
          exact ⟨y, by simp [hy], hxy⟩
    · refine ih (cur ++ [a]) x ?_ hc
      rcases hx with hx | hx
      · exact .inl (by simp [hx])
      · rcases List.mem_cons.1 hx with rfl | h
        · exact .inl (by simp)
        · exact .inr h

theorem nm_eq (L : List UInt8) (k : Nat) {p q : List UInt8} (h : L.drop k = p ++ q) (ht : (L.drop k).takeWhile sgn = p) : nmLen L k = p.length ∧ L.drop (k + nmLen L k) = q := by
  have e : nmLen L k = p.length := by unfold nmLen; rw [ht]
  refine ⟨e, ?_⟩
  rw [e, ← List.drop_drop, h, List.drop_left]
theorem next_nil {L : List UInt8} {k : Nat} {c : UInt8} (h : L.drop k = []) : nextIs L k c = false := by
  unfold nextIs
  rw [List.getElem?_eq_none (by simpa using h)]; rfl
theorem next_cons {L : List UInt8} {k : Nat} {c x : UInt8} {t : List UInt8} (h : L.drop k = x :: t) : nextIs L k c = (x == c) ∧ L.drop (k + 1) = t ∧ k < L.length := by
  have h1 : L[k]? = some x := by
    have : (L.drop k)[0]? = some x := by rw [h]; rfl
    simpa using this
  refine ⟨by unfold nextIs; rw [h1]; rfl, by rw [← List.drop_drop, h]; rfl, ?_⟩
  rcases Nat.lt_or_ge k L.length with hl | hl
  · exact hl
  · rw [List.getElem?_eq_none hl] at h1; cases h1
theorem len_of_drop {L : List UInt8} {k : Nat} (hk : k ≤ L.length) (h : L.drop k = []) : k = L.length := by
  have : L.length ≤ k := by simpa using h
  omega

theorem domGo_eq (L : List UInt8) : ∀ (n k : Nat), k ≤ L.length → (((domGo L n (okLen (nmLen L k)) (k + nmLen L k)).1 && decide ((domGo L n (okLen (nmLen L k)) (k + nmLen L k)).2 = L.length)) =
    ((cut 46 (L.drop k)).all nameB && decide ((cut 46 (L.drop k)).length ≤ n + 1))) := by
  intro n
  induction n with
  | zero =>
    intro k hk
    obtain ⟨p, q, hpq, hp, ht, hq⟩ := span_sgn (L.drop k)
    obtain ⟨e1, e2⟩ := nm_eq L k hpq ht
    have hle := nmLen_le L k hk
    have hne : ∀ x ∈ p, x ≠ (46 : UInt8) := fun x hx => sgn_ne (List.all_eq_true.1 hp x hx) sgn46
    rw [domGo_zero]
    rcases hq with rfl | ⟨x, t, rfl, hx⟩
    · have e3 := len_of_drop hle e2
      rw [hpq, List.append_nil, cut_nil_of 46 p hne]
      simp only [List.all_cons, List.all_nil, Bool.and_true, List.length_singleton]
      rw [nameB_all hp, ← e1, decide_eq_true e3]
      simp
    · obtain ⟨e3, e4, e5⟩ := next_cons (c := 46) e2
      rw [decide_eq_false (p := k + nmLen L k = L.length) (by omega), Bool.and_false, hpq]
      by_cases hx4 : x = 46
      · subst hx4
        rw [cut_at 46 p t hne]
        have := (cut_len 46 t).1
        rw [decide_eq_false (by rw [List.length_cons]; omega), Bool.and_false]
      · obtain ⟨q', rest, hc⟩ := cut_other 46 p t x hne hx4
        rw [hc, List.all_cons, nameB_bad (x := x) (by simp) hx]
        rfl
  | succ n ih =>
    intro k hk
    obtain ⟨p, q, hpq, hp, ht, hq⟩ := span_sgn (L.drop k)
    obtain ⟨e1, e2⟩ := nm_eq L k hpq ht
    have hle := nmLen_le L k hk
    have hne : ∀ x ∈ p, x ≠ (46 : UInt8) := fun x hx => sgn_ne (List.all_eq_true.1 hp x hx) sgn46
    rcases hq with rfl | ⟨x, t, rfl, hx⟩
    · have e3 := len_of_drop hle e2
      rw [domGo_no L _ _ _ (next_nil e2), hpq, List.append_nil, cut_nil_of 46 p hne]
      simp only [List.all_cons, List.all_nil, Bool.and_true, List.length_singleton]
      rw [nameB_all hp, ← e1, decide_eq_true e3]
      simp
    · obtain ⟨e3, e4, e5⟩ := next_cons (c := 46) e2
      by_cases hx4 : x = 46
      · subst hx4
        rw [hpq, cut_at 46 p t hne, List.all_cons, nameB_all hp, ← e1]
        by_cases ho : okLen (nmLen L k) = true
        · rw [ho, domGo_yes L n _ (by rw [e3]; rfl), ih (k + nmLen L k + 1) (by omega), e4]
          simp
        · rw [Bool.eq_false_iff.2 ho, domGo_off]; rfl
      · have h0 : nextIs L (k + nmLen L k) 46 = false := by rw [e3]; simpa using hx4
        rw [domGo_no L _ _ _ h0, decide_eq_false (p := k + nmLen L k = L.length) (by omega), Bool.and_false, hpq]
        obtain ⟨q', rest, hc⟩ := cut_other 46 p t x hne hx4
        rw [hc, List.all_cons, nameB_bad (x := x) (by simp) hx]
        rfl

theorem name_eq (L : List UInt8) : (okLen (nmLen L 0) && decide (nmLen L 0 = L.length)) = nameB L := by
  obtain ⟨p, q, hpq, hp, ht, hq⟩ := span_sgn (L.drop 0)
  obtain ⟨e1, e2⟩ := nm_eq L 0 hpq ht
  have hle := nmLen_le L 0 (Nat.zero_le _)
  rw [Nat.zero_add] at e2 hle
  rw [List.drop_zero] at hpq
  rcases hq with rfl | ⟨x, t, rfl, hx⟩
  · have e3 := len_of_drop hle e2
    rw [decide_eq_true e3, Bool.and_true, hpq, List.append_nil, nameB_all hp, ← hpq.trans (List.append_nil p), ← e3]
  · obtain ⟨e3, e4, e5⟩ := next_cons (c := 46) e2
    rw [decide_eq_false (by omega), Bool.and_false, nameB_bad (x := x) (by rw [hpq]; simp) hx]

theorem dom_eq (L : List UInt8) (k : Nat) (hk : k ≤ L.length) : (domOk L k && decide (domEnd L k = L.length)) = domB (L.drop k) := by
  have h := domGo_eq L 2 k hk
  unfold domOk domEnd domB
  by_cases he : (domGo L 2 (okLen (nmLen L k)) (k + nmLen L k)).2 = L.length
  · rw [decide_eq_true he, Bool.and_true] at h ⊢
    rw [he, h, List.length_drop]
  · rw [decide_eq_false he, Bool.and_false] at h ⊢
    rw [← h]; rfl

theorem dom_eq0 (L : List UInt8) : (domOk L 0 && decide (domEnd L 0 = L.length)) = domB L := dom_eq L 0 (Nat.zero_le _)
theorem domB_bad {t : List UInt8} (h : (64 : UInt8) ∈ t) : domB t = false := by
  obtain ⟨y, hy, hxy⟩ := cutGo_mem 46 t [] 64 (.inr h) (by decide)
  have : (cut 46 t).all nameB = false := by
    rw [← Bool.not_eq_true]; intro ha; rw [List.all_eq_true] at ha; have := ha y hy; rw [nameB_bad hxy sgn64] at this; cases this
  unfold domB
  rw [this]; rfl
theorem cut_more {c : UInt8} {t : List UInt8} (h : c ∈ t) : 2 ≤ (cut c t).length := by
  obtain ⟨a, b, rfl, hn⟩ := List.append_of_mem h |>.elim fun a h1 => h1.elim fun b h2 => (⟨a, b, h2, trivial⟩ : ∃ a b, t = a ++ c :: b ∧ True)
  unfold cut
  have key : ∀ (l cur : List UInt8), 1 ≤ (cutGo c cur l).length := fun l cur => (cutGo_len c l cur).1
  have : ∀ (a cur : List UInt8), 2 ≤ (cutGo c cur (a ++ c :: b)).length := by
    intro a
    induction a with
    | nil => intro cur; rw [List.nil_append, cutGo, if_pos rfl, List.length_cons]; have := key b []; omega
    | cons x a ih =>
      intro cur
      rw [List.cons_append, cutGo]
      split
      · rw [List.length_cons]; have := ih []; omega
      · exact ih _
  exact this a []

theorem ad_eq (L : List UInt8) : apB L = spB L ∧ (apB L = true → adUser L 0 = (two L).getD 0 [] ∧ adDom L 0 = (two L).getD 1 []) := by
  obtain ⟨p, q, hpq, hp, ht, hq⟩ := span_sgn (L.drop 0)
  obtain ⟨e1, e2⟩ := nm_eq L 0 hpq ht
  have hle := nmLen_le L 0 (Nat.zero_le _)
  rw [Nat.zero_add] at e2 hle
  rw [List.drop_zero] at hpq
  have hne : ∀ x ∈ p, x ≠ (64 : UInt8) := fun x hx => sgn_ne (List.all_eq_true.1 hp x hx) sgn64
  unfold apB adOk adEnd spB two
  rw [Nat.zero_add]
  rcases hq with rfl | ⟨x, t, rfl, hx⟩
  · rw [next_nil e2, Bool.and_false, Bool.false_and, Bool.false_and]
    refine ⟨?_, fun h => by cases h⟩
    rw [hpq, List.append_nil, cut_nil_of 64 p hne]
    rfl
  · obtain ⟨e3, e4, e5⟩ := next_cons (c := 64) e2
    by_cases hx4 : x = 64
    · subst hx4
      have e6 := dom_eq L (nmLen L 0 + 1) (by omega)
      rw [e4] at e6
      have en : okLen (nmLen L 0) = nameB p := by rw [e1, nameB_all hp]
      have hc : cut 64 L = p :: cut 64 t := (congrArg (cut 64) hpq).trans (cut_at 64 p t hne)
      rw [e3, beq_self_eq_true, Bool.and_true, Bool.and_assoc, e6, en, hc]
      simp only [List.getD_cons_succ, List.getD_cons_zero]
      by_cases hm : (64 : UInt8) ∈ t
      · rw [domB_bad hm, Bool.and_false, decide_eq_false (by rw [List.length_cons]; have := cut_more hm; omega)]
        exact ⟨rfl, fun h => by cases h⟩
      · rw [cut_nil_of 64 t (fun y hy e => hm (e ▸ hy))]
        refine ⟨rfl, fun h => ?_⟩
        have hd : domB t = true := by
          rw [Bool.and_eq_true] at h; exact h.2
        rw [← e6, Bool.and_eq_true] at hd
        have hend : domEnd L (nmLen L 0 + 1) = L.length := of_decide_eq_true hd.2
        constructor
        · unfold adUser
          rw [List.drop_zero, e1]
          conv => lhs; rw [hpq]
          simp
        · unfold adDom adEnd
          rw [Nat.zero_add, hend, e4]
          simp only [List.getD_cons_zero]
          rw [List.take_of_length_le]
          rw [← e4, List.length_drop]
          exact Nat.le_refl _
    · have h0 : nextIs L (nmLen L 0) 64 = false := by rw [e3]; simpa using hx4
      rw [h0, Bool.and_false, Bool.false_and, Bool.false_and]
      refine ⟨?_, fun h => by cases h⟩
      obtain ⟨q', rest, hc⟩ := cut_other 64 p t x hne hx4
      rw [hpq, hc]
      simp only [List.getD_cons_zero]
      rw [nameB_bad (x := x) (by simp) hx]
      simp
end Go.Proofs.Ytinbdibenbplnaa
namespace Go.Proofs.Ytinbdibenbplnaa
open Go.RowKit
set_option linter.unusedVariables false

/-- The bytes of a code: 'len' of them lie below block 'B', each from 0 to 255. -/
def Bytes (w : World) (B : Nat) (A : Option Addr) (len : Nat) : Prop :=
  len ≤ 2000 ∧ (0 < len → ∃ (xb xo : Nat) (f : Nat → Int), A = some ⟨xb, xo, none⟩ ∧ xb < B ∧ ∀ i, i < len → w.cell? ⟨xb, xo + i, none⟩ = some (.int .u8 (f i)) ∧ 0 ≤ f i ∧ f i ≤ 255)
theorem Bytes.kept {w w' : World} {B len : Nat} {A : Option Addr} (h : Bytes w B A len) (hk : ∀ p : Addr, p.block < B → w'.cell? p = w.cell? p) : Bytes w' B A len :=
  ⟨h.1, fun hl => by
    obtain ⟨xb, xo, f, hA, hb, hc⟩ := h.2 hl
    exact ⟨xb, xo, f, hA, hb, fun i hi => ⟨(hk _ hb).trans (hc i hi).1, (hc i hi).2⟩⟩⟩
/-- A reader of codes, in block 'b', at place 'p'. -/
def Rd (w : World) (b p : Nat) : Prop := ∃ (A : Option Addr) (len cap : Nat), Whole w b 91 #[.slice A len cap, .int .i64 (p : Int)] ∧ Bytes w b A len
theorem Rd.lt {w : World} {b p : Nat} (h : Rd w b p) : b < w.heap.size := by
  obtain ⟨_, _, _, h, _⟩ := h
  exact h.lt
theorem Rd.drewN {w : World} {b p : Nat} (h : Rd w b p) (n : Nat) : Rd (w.drewN n) b p := h
theorem Rd.grown {w w' : World} {b p g : Nat} (h : Rd w b p) (hg : w.grownBy w' (some g)) (hb : b < g) : Rd w' b p := by
  obtain ⟨A, len, cap, hW, hB⟩ := h
  have hl := hW.lt
  exact ⟨A, len, cap, hW.grown hg (by simp; omega), hB.kept fun q hq => World.cell?_of_block (hg.block q.block (by omega) (by simp; omega))⟩
theorem Rd.below {w w' : World} {b p B : Nat} (h : Rd w b p) (hg : Below B w w') (hb : b < B) : Rd w' b p := by
  obtain ⟨A, len, cap, hW, hB⟩ := h
  have hl := hW.lt
  exact ⟨A, len, cap, hW.below hg hb, hB.kept fun q hq => hg.cell (by omega)⟩

theorem xor_nonneg (a b : Int) (ha : 0 ≤ a) (ha' : a < 9223372036854775808) (hb : 0 ≤ b) (hb' : b < 9223372036854775808) : 0 ≤ bits .xor .i64 a b := by
  obtain ⟨x, rfl⟩ : ∃ x : Nat, a = x := ⟨a.toNat, by omega⟩
  obtain ⟨y, rfl⟩ : ∃ y : Nat, b = y := ⟨b.toNat, by omega⟩
  have hx : (BitVec.ofInt 64 (x : Int)).toNat = x := by rw [BitVec.ofInt_natCast, BitVec.toNat_ofNat]; exact Nat.mod_eq_of_lt (by omega)
  have hy : (BitVec.ofInt 64 (y : Int)).toNat = y := by rw [BitVec.ofInt_natCast, BitVec.toNat_ofNat]; exact Nat.mod_eq_of_lt (by omega)
  have hlt : x ^^^ y < 2 ^ 63 := Nat.xor_lt_two_pow (by omega) (by omega)
  show 0 ≤ IntKind.i64.wrap ((BitVec.ofInt 64 (x : Int) ^^^ BitVec.ofInt 64 (y : Int)).toNat : Int)
  rw [BitVec.toNat_xor, hx, hy, IntKind.wrap_i64]
  omega
theorem rem_nat (x : Int) (n : Nat) (hx : 0 ≤ x) (hn : 1 ≤ n) : ∃ r : Nat, r < n ∧ x % (n : Int) = (r : Int) := by
  have h1 : 0 ≤ x % (n : Int) := Int.emod_nonneg _ (by omega)
  have h2 : x % (n : Int) < (n : Int) := Int.emod_lt_of_pos _ (by omega)
  exact ⟨(x % (n : Int)).toNat, by omega, by omega⟩

theorem ret_int {k : IntKind} {a b : Int} (h : a = b) : Ending.returned (.int k a) = .returned (.int k b) := by rw [h]
theorem rd_next {w : World} {b p len cap : Nat} {A : Option Addr} (h : Whole w b 91 #[.slice A len cap, .int .i64 (p : Int)]) (hB : Bytes w b A len) : Rd (w.setCell ⟨b, 1, none⟩ (.int .i64 ((p : Int) + 1))) b (p + 1) :=
  ⟨A, len, cap, by have := h.store 1 (.int .i64 ((p : Int) + 1)); exact this, hB.kept fun q hq => World.cell?_setCell_other w _ q _ (fun e => by subst e; simp at hq)⟩
/-- What 'pick' leaves. -/
def Picked (w : World) (b p : Nat) (n : Nat) (e : Ending) (w' : World) : Prop := ∃ x : Nat, x < n ∧ e = .returned (.int .i64 (x : Int)) ∧ Rd w' b (p + 1) ∧ w.grownBy w' (some b)

set_option maxHeartbeats 2000000 in
theorem pick_any (b p n : Nat) (w : World) (h : Rd w b p) (hp : p ≤ 1000000) (hn : 1 ≤ n) (hn' : n ≤ 1000000) :
    Calls Try.prog 59 #[.pointer (some ⟨b, 0, none⟩), .int .i64 (n : Int)] w (Picked w b p n) := by
  obtain ⟨A, len, cap, hW, hB⟩ := h
  have h0 : w.cell? ⟨b, 0, none⟩ = some (.slice A len cap) := hW.cell 0
  have h1 : w.cell? ⟨b, 1, none⟩ = some (.int .i64 (p : Int)) := hW.cell 1
  have hf := hW.free 1
  have HW := Lib.hid hW
  have hl := hB.1
  have HB := Lib.hid hB
  clear hW hB
  have hn1 : ¬ (n : Int) < 1 := by omega
  by_cases hz : len = 0
  · subst hz
    go_enter Try.func59, Try.ntmps59
    go_wp2
    go_ret
    exact ⟨0, by omega, rfl, rd_next HW.out HB.out, gr_store (gr_refl _ _) (.inl rfl) _⟩
  · obtain ⟨xb, xo, f, rfl, hxb, hc⟩ := HB.out.2 (by omega)
    have hlz : ((len : Int) == 0) = false := by simp; omega
    by_cases hlt : p < len
    · obtain ⟨hcp, hf0, hf1⟩ := hc p hlt
      have HCC := Lib.hid hc
      clear hc
      go_enter Try.func59, Try.ntmps59
      go_wp2
      go_ret
      obtain ⟨r, hr, he⟩ := rem_nat (f p) n hf0 hn
      exact ⟨r, hr, ret_int he, rd_next HW.out HB.out, gr_store (gr_refl _ _) (.inl rfl) _⟩
    · obtain ⟨q1, hq1⟩ : ∃ q, p % len = q := ⟨_, rfl⟩
      obtain ⟨q2, hq2⟩ : ∃ q, (p * 7 + 3) % len = q := ⟨_, rfl⟩
      obtain ⟨d, hd⟩ : ∃ q, p / len = q := ⟨_, rfl⟩
      have l1 : q1 < len := hq1 ▸ Nat.mod_lt _ (by omega)
      have l2 : q2 < len := hq2 ▸ Nat.mod_lt _ (by omega)
      have ld : d ≤ p := hd ▸ Nat.div_le_self _ _
      obtain ⟨c1, a1, b1⟩ := hc q1 l1
      obtain ⟨c2, a2, b2⟩ := hc q2 l2
      obtain ⟨v1, hv1⟩ : ∃ v, f q1 = v := ⟨_, rfl⟩
      obtain ⟨v2, hv2⟩ : ∃ v, f q2 = v := ⟨_, rfl⟩
      rw [hv1] at c1 a1 b1
      rw [hv2] at c2 a2 b2
      have E1 : (p : Int).tmod (len : Int) = (q1 : Int) := by rw [← hq1]; exact IntWalk.up_tmod rfl rfl
      have E2 : ((p : Int) * 7 + 3).tmod (len : Int) = (q2 : Int) := by rw [← hq2]; exact IntWalk.up_tmod (by omega) rfl
      have E3 : (p : Int).tdiv (len : Int) = (d : Int) := by rw [← hd]; exact IntWalk.up_tdiv rfl rfl
      have W1 : IntKind.i64.wrap ((p : Int) * 7) = (p : Int) * 7 := IntWalk.i64_in _ (by omega)
      have W2 : IntKind.i64.wrap ((p : Int) * 7 + 3) = (p : Int) * 7 + 3 := IntWalk.i64_in _ (by omega)
      have W3 : IntKind.i64.wrap v1 = v1 := IntWalk.i64_in _ (by omega)
      have W4 : IntKind.i64.wrap v2 = v2 := IntWalk.i64_in _ (by omega)
      have W5 : IntKind.i64.wrap (v1 * 131) = v1 * 131 := IntWalk.i64_in _ (by omega)
      have W6 : IntKind.i64.wrap (v2 * 1117) = v2 * 1117 := IntWalk.i64_in _ (by omega)
      have W7 : IntKind.i64.wrap (v1 * 131 + v2 * 1117) = v1 * 131 + v2 * 1117 := IntWalk.i64_in _ (by omega)
      have W8 : IntKind.i64.wrap ((p : Int) * 29) = (p : Int) * 29 := IntWalk.i64_in _ (by omega)
      have W9 : IntKind.i64.wrap (v1 * 131 + v2 * 1117 + (p : Int) * 29) = v1 * 131 + v2 * 1117 + (p : Int) * 29 := IntWalk.i64_in _ (by omega)
      have Wa : IntKind.i64.wrap (d : Int) = (d : Int) := IntWalk.i64_in _ (by omega)
      have Wb : IntKind.i64.wrap ((d : Int) * 53) = (d : Int) * 53 := IntWalk.i64_in _ (by omega)
      have Wc : IntKind.i64.wrap (v1 * 131 + v2 * 1117 + (p : Int) * 29 + (d : Int) * 53) = v1 * 131 + v2 * 1117 + (p : Int) * 29 + (d : Int) * 53 := IntWalk.i64_in _ (by omega)
      have i1 : (0 : Int) ≤ (q1 : Int) := by omega
      have i2 : (0 : Int) ≤ (q2 : Int) := by omega
      have i3 : (q1 : Int) < (len : Int) := by omega
      have i4 : (q2 : Int) < (len : Int) := by omega
      clear hq1 hq2 hd hv1 hv2 hc
      go_enter Try.func59, Try.ntmps59
      go_wp2
      go_quiet (fail)
      obtain ⟨X, hX, x1, x2⟩ : ∃ X : Int, v1 * 131 + v2 * 1117 + (p : Int) * 29 + (d : Int) * 53 = X ∧ 0 ≤ X ∧ X ≤ 1000000000 := ⟨_, rfl, by omega, by omega⟩
      rw [hX]
      clear hX E1 E2 E3 W1 W2 W3 W4 W5 W6 W7 W8 W9 Wa Wb Wc
      have hx := xor_nonneg X (X / 64) (by omega) (by omega) (by omega) (by omega)
      go_wp2
      go_ret
      obtain ⟨r, hr, he⟩ := rem_nat (bits .xor .i64 X (X / 64)) n hx hn
      exact ⟨r, hr, ret_int he, (rd_next HW.out HB.out).drewN _, gr_drewN (gr_store (gr_refl _ _) (.inl rfl) _) _⟩

/-- What 'of' leaves: one of the texts. -/
def Chosen (w : World) (b p : Nat) (ls : List (List UInt8)) (e : Ending) (w' : World) : Prop := ∃ l, l ∈ ls ∧ e = .returned (str l) ∧ Rd w' b (p + 1) ∧ w.grownBy w' (some b)

theorem ret_val {a b : Value} (h : a = b) : Ending.returned a = .returned b := by rw [h]
set_option maxHeartbeats 1000000 in
theorem of_any (b p g cap : Nat) (ls : List (List UInt8)) (w : World) (h : Rd w b p) (hp : p ≤ 1000000) (hn : 1 ≤ ls.length) (hn' : ls.length ≤ 1000000) (hg : g ≠ b) (hgl : g < w.heap.size)
    (hc : ∀ j, j < ls.length → w.cell? ⟨g, j, none⟩ = some (str (ls.getD j []))) :
    Calls Try.prog 73 #[.pointer (some ⟨b, 0, none⟩), .slice (some ⟨g, 0, none⟩) ls.length cap] w (Chosen w b p ls) := by
  have HC := Lib.hid hc
  have H := Lib.hid h
  clear hc h
  obtain ⟨n, hln⟩ : ∃ n, ls.length = n := ⟨_, rfl⟩
  rw [hln] at hn hn' ⊢
  have HN := Lib.hid hln
  clear hln
  go_enter Try.func73, Try.ntmps73
  go_wp2_with fail
  refine (pick_any b p n w H.out hp hn hn').mono ?_
  rintro e w1 ⟨x, hx, rfl, hr, hgr⟩
  have hcx : w1.cell? ⟨g, x, none⟩ = some (str (ls.getD x [])) := (World.cell?_of_block (hgr.block g hgl (by simp; omega))).trans (HC.out x (by rw [HN.out]; exact hx))
  have HR := Lib.hid hr
  have HG := Lib.hid hgr
  clear hr hgr
  have i0 : (0 : Int) ≤ (x : Int) := by omega
  have i1 : (x : Int) < (n : Int) := by omega
  go_wp2
  go_ret
  refine ⟨ls.getD x [], ?_, rfl, HR.out, HG.out⟩
  rw [List.getD_eq_getElem?_getD, List.getElem?_eq_getElem (by rw [HN.out]; exact hx)]
  exact List.getElem_mem _

set_option maxHeartbeats 1000000 in
theorem open_any (A : Option Addr) (len cap : Nat) (w : World) (hc : len ≤ cap) (hcap : cap ≤ maxLen)
    (h : 0 < len → ∃ (xb xo : Nat) (f : Nat → Int), A = some ⟨xb, xo, none⟩ ∧ xb < w.heap.size ∧ ∀ i, i < len → w.cell? ⟨xb, xo + i, none⟩ = some (.int .u8 (f i)) ∧ 0 ≤ f i ∧ f i ≤ 255) :
    Calls Try.prog 46 #[.slice A len cap] w fun e w' => e = .returned (.pointer (some ⟨w.heap.size, 0, none⟩)) ∧ Rd w' w.heap.size 0 ∧ Below w.heap.size w w' ∧ w.heap.size < w'.heap.size := by
  unfold maxLen at hcap
  have fin : ∀ (l : Nat), l ≤ 2000 → l ≤ len → Rd (w.alloc (.cells #[.slice A l cap, .int .i64 0] 91)) w.heap.size 0 := by
    intro l h1 h2
    refine ⟨A, l, cap, Whole.made w _ _, h1, fun hl => ?_⟩
    obtain ⟨xb, xo, f, hA, hb, hcc⟩ := h (by omega)
    exact ⟨xb, xo, f, hA, hb, fun i hi => ⟨(World.cell?_alloc_lt w _ ⟨xb, xo + i, none⟩ hb).trans (hcc i (by omega)).1, (hcc i (by omega)).2⟩⟩
  have F := Lib.hid fin
  clear fin h
  by_cases hl : len ≤ 2000
  · have hl' : ¬ (2000 : Int) < (len : Int) := by omega
    go_enter Try.func46, Try.ntmps46
    go_wp2
    go_ret
    exact ⟨rfl, F.out len hl (Nat.le_refl _), (Below.refl _ _).alloc (Nat.le_refl _) _, by simp⟩
  · have hl' : (2000 : Int) < (len : Int) := by omega
    have hl2 : (2000 : Int) ≤ (len : Int) := by omega
    have hl3 : (2000 : Int) ≤ (cap : Int) := by omega
    go_enter Try.func46, Try.ntmps46
    go_wp2
    go_ret
    exact ⟨rfl, F.out 2000 (Nat.le_refl _) (by omega), (Below.refl _ _).alloc (Nat.le_refl _) _, by simp⟩
end Go.Proofs.Ytinbdibenbplnaa
namespace Go.Proofs.Ytinbdibenbplnaa
open Go.RowKit
set_option linter.unusedVariables false

theorem of_new (b p : Nat) (ls : List (List UInt8)) (w : World) (h : Rd w b p) (hp : p ≤ 1000000) (hn : 1 ≤ ls.length) (hn' : ls.length ≤ 1000000) :
    Calls Try.prog 73 #[.pointer (some ⟨b, 0, none⟩), .slice (some ⟨w.heap.size, 0, none⟩) ls.length ls.length] (w.alloc (.cells (ls.map str).toArray 9))
      fun e w' => ∃ l, l ∈ ls ∧ e = .returned (str l) ∧ Rd w' b (p + 1) ∧ w.grownBy w' (some b) := by
  have hb := h.lt
  have hA := (Below.refl w.heap.size w).alloc (Nat.le_refl _) (.cells (ls.map str).toArray 9)
  refine (of_any b p w.heap.size ls.length ls _ (h.below hA hb) hp hn hn' (by omega) (by simp) (fun j hj => ?_)).mono ?_
  · rw [(Whole.made w 9 (ls.map str).toArray).cell j, List.getElem?_toArray, List.getElem?_map, List.getD_eq_getElem?_getD, List.getElem?_eq_getElem hj]
    rfl
  · rintro e w' ⟨l, hl, he, hr, hg⟩
    exact ⟨l, hl, he, hr, gr_trans (gr_alloc (gr_refl _ _) _) hg⟩

/-- A drawn text. -/
def Text (w : World) (b p : Nat) (e : Ending) (w' : World) : Prop := ∃ s : ByteArray, s.size ≤ 30 ∧ e = .returned (.string s) ∧ Rd w' b (p + 2) ∧ w.grownBy w' (some b)
theorem text_le {ls : List (List UInt8)} {l : List UInt8} (h : ls.all (fun x => decide (x.length ≤ 30)) = true) (hl : l ∈ ls) : (⟨l.toArray⟩ : ByteArray).size ≤ 30 := by
  rw [List.all_eq_true] at h
  exact of_decide_eq_true (h l hl)

set_option maxHeartbeats 1000000 in
theorem name_text (b p : Nat) (w : World) (h : Rd w b p) (hp : p ≤ 900000) :
    Calls Try.prog 60 #[.pointer (some ⟨b, 0, none⟩)] w (Text w b p) := by
  have H := Lib.hid h
  clear h
  go_enter Try.func60, Try.ntmps60
  go_wp2_with fail
  refine (pick_any b p 16 w H.out (by omega) (by omega) (by omega)).mono ?_
  rintro e w1 ⟨x, hx, rfl, hr, hg⟩
  have HR := Lib.hid hr
  have HG := Lib.hid hg
  clear hr hg
  by_cases h0 : x = 0
  · subst h0
    go_wp2_with fail
    refine (of_new b (p + 1) [[], [65], [116, 111, 111, 108, 111, 110, 103, 49, 50], [97, 45, 98], [101, 105, 103, 104, 116, 56, 56, 56], [48], [97, 110, 121, 111, 110, 101]] w1 HR.out (by omega) (by decide) (by decide)).mono ?_
    rintro e w2 ⟨l, hl, rfl, hr2, hg2⟩
    have H2 := Lib.hid (And.intro hr2 hg2)
    have HL := Lib.hid hl
    clear hr2 hg2 hl
    unfold str
    go_wp2
    go_ret
    exact ⟨_, text_le (by decide) HL.out, rfl, H2.out.1, gr_trans HG.out H2.out.2⟩
  · have h0' : ((x : Int) == 0) = false := by simp; omega
    go_wp2_with fail
    refine (of_new b (p + 1) [[97, 109, 121], [98, 111, 98], [99, 121, 100], [100, 97, 110], [98, 111, 120, 49], [120]] w1 HR.out (by omega) (by decide) (by decide)).mono ?_
    rintro e w2 ⟨l, hl, rfl, hr2, hg2⟩
    have H2 := Lib.hid (And.intro hr2 hg2)
    have HL := Lib.hid hl
    clear hr2 hg2 hl
    unfold str
    go_wp2
    go_ret
    exact ⟨_, text_le (by decide) HL.out, rfl, H2.out.1, gr_trans HG.out H2.out.2⟩
end Go.Proofs.Ytinbdibenbplnaa
namespace Go.Proofs.Ytinbdibenbplnaa
open Go.RowKit
set_option linter.unusedVariables false

theorem one_size (c : UInt8) : (⟨#[c]⟩ : ByteArray).size = 1 := rfl
/-- A code that can be read. -/
def Coded (w : World) (A : Option Addr) (len cap : Nat) : Prop :=
  len ≤ cap ∧ cap ≤ maxLen ∧ (0 < len → ∃ (xb xo : Nat) (f : Nat → Int), A = some ⟨xb, xo, none⟩ ∧ xb < w.heap.size ∧ ∀ i, i < len → w.cell? ⟨xb, xo + i, none⟩ = some (.int .u8 (f i)) ∧ 0 ≤ f i ∧ f i ≤ 255)
theorem Coded.below {w w' : World} {B : Nat} {A : Option Addr} {len cap : Nat} (h : Coded w A len cap) (hb : Below B w w') (hB : w.heap.size ≤ B) : Coded w' A len cap :=
  ⟨h.1, h.2.1, fun hl => by
    obtain ⟨xb, xo, f, hA, hx, hc⟩ := h.2.2 hl
    have hsz := hb.size
    exact ⟨xb, xo, f, hA, by omega, fun i hi => ⟨(hb.cell (p := ⟨xb, xo + i, none⟩) (by simp; omega)).trans (hc i hi).1, (hc i hi).2⟩⟩⟩
theorem coded_nil (w : World) : Coded w none 0 0 := ⟨Nat.le_refl _, by unfold maxLen; omega, fun h => absurd h (by omega)⟩
theorem coded_row {w : World} {x : Addr} {len cap : Nat} {zs : List Int} (hl : len ≤ cap) (hm : cap ≤ maxLen) (hz : zs.length = cap)
    (hc : ∀ i, i < zs.length → w.cell? (x.add i) = some (.int .u8 (zs.getD i 0))) (hw : ∀ n ∈ zs, (Lit.int .u8 n).wf = true) : Coded w (some x) len cap := by
  refine ⟨hl, hm, fun h0 => ?_⟩
  have h1 := hc 0 (by omega)
  have hs : x.spot = none := by simpa [Addr.add] using World.cell?_spot h1
  obtain ⟨xb, xo, spot⟩ := x
  simp only at hs
  subst hs
  refine ⟨xb, xo, fun i => zs.getD i 0, rfl, ?_, fun i hi => ?_⟩
  · have := block_lt_of_cell h1
    simpa [Addr.add] using this
  · have h2 := hc i (by omega)
    have hb : zs.getD i 0 ∈ zs := by
      rw [List.getD_eq_getElem?_getD, List.getElem?_eq_getElem (by omega)]
      exact List.getElem_mem _
    have hwf := hw _ hb
    have e : (⟨xb, xo, none⟩ : Addr).add i = ⟨xb, xo + i, none⟩ := by unfold Addr.add; split <;> simp_all
    rw [e] at h2
    have := bounds_u8 hwf
    exact ⟨h2, this.1, this.2⟩
/-- What a drawer of texts leaves. -/
def DrewText (w : World) (e : Ending) (w' : World) : Prop := ∃ s : ByteArray, s.size ≤ 100 ∧ e = .returned (.string s) ∧ Below w.heap.size w w'

/-- What the drawer of addresses leaves. -/
def DrewAddr (w : World) (e : Ending) (w' : World) : Prop := ∃ u d : ByteArray, u.size ≤ 100 ∧ d.size ≤ 100 ∧ e = .returned (.agg #[.string u, .string d]) ∧ Below w.heap.size w w'
end Go.Proofs.Ytinbdibenbplnaa
namespace Go.Proofs.Ytinbdibenbplnaa
open Go.RowKit
set_option linter.unusedVariables false

theorem impl_name (s : ByteArray) (w : World) (hs : s.size ≤ 16777216) :
    Calls Try.prog 47 #[.string s] w fun e w' => e = .returned (.bool (nameB s.data.toList)) ∧ Below w.heap.size w w' := by
  have h := impl_name_ s w hs
  have e := name_eq s.data.toList
  have hl : s.data.toList.length = s.size := by simp
  rw [hl] at e
  rw [e] at h
  exact h
end Go.Proofs.Ytinbdibenbplnaa
namespace Go.Proofs.Ytinbdibenbplnaa
set_option linter.unusedVariables false

/-- The sign of a number of six bits. -/
def sigN (n : Nat) : Nat := if n < 26 then 65 + n else if n < 52 then 71 + n else if n < 62 then n - 4 else if n = 62 then 43 else 47
def sig (n : Nat) : UInt8 := UInt8.ofNat (sigN n)
/-- The number of a sign, if it has one. -/
def numN (c : Nat) : Option Nat := if 65 ≤ c ∧ c ≤ 90 then some (c - 65) else if 97 ≤ c ∧ c ≤ 122 then some (c - 71) else if 48 ≤ c ∧ c ≤ 57 then some (c + 4) else if c = 43 then some 62 else if c = 47 then some 63 else none
def num (c : UInt8) : Option Nat := numN c.toNat
theorem sigN_lt (n : Nat) : sigN n < 123 + n := by unfold sigN; split <;> (try split) <;> (try split) <;> (try split) <;> omega
theorem sig_nat {n : Nat} (h : n < 64) : (sig n).toNat = sigN n := by
  unfold sig
  rw [UInt8.toNat_ofNat']
  exact Nat.mod_eq_of_lt (by have := sigN_lt n; omega)
theorem num_sigN {n : Nat} (h : n < 64) : numN (sigN n) = some n := by
  unfold sigN
  unfold numN
  split
  · rw [if_pos (by omega)]; congr 1; omega
  · split
    · rw [if_neg (by omega), if_pos (by omega)]; congr 1; omega
    · split
      · rw [if_neg (by omega), if_neg (by omega), if_pos (by omega)]; congr 1; omega
      · split
        · rw [if_neg (by omega), if_neg (by omega), if_neg (by omega), if_pos (by omega)]; congr 1; omega
        · rw [if_neg (by omega), if_neg (by omega), if_neg (by omega), if_neg (by omega), if_pos (by omega)]; congr 1; omega
theorem num_sig {n : Nat} (h : n < 64) : num (sig n) = some n := by unfold num; rw [sig_nat h]; exact num_sigN h
theorem sig_inj {a b : Nat} (ha : a < 64) (hb : b < 64) (h : sig a = sig b) : a = b := by
  have h1 := num_sig ha
  rw [h, num_sig hb] at h1
  exact (Option.some.inj h1).symm
theorem numN_some {c n : Nat} (h : numN c = some n) : n < 64 ∧ sigN n = c := by
  unfold numN at h
  unfold sigN
  repeat' (split at h)
  all_goals (first | (cases h; fail) | skip)
  all_goals (try (injection h with h))
  · subst h; refine ⟨by omega, ?_⟩; rw [if_pos (by omega)]; omega
  · subst h; refine ⟨by omega, ?_⟩; rw [if_neg (by omega), if_pos (by omega)]; omega
  · subst h; refine ⟨by omega, ?_⟩; rw [if_neg (by omega), if_neg (by omega), if_pos (by omega)]; omega
  · subst h; refine ⟨by omega, ?_⟩; rw [if_neg (by omega), if_neg (by omega), if_neg (by omega), if_pos (by omega)]; omega
  · subst h; refine ⟨by omega, ?_⟩; rw [if_neg (by omega), if_neg (by omega), if_neg (by omega), if_neg (by omega)]; omega
  · cases h
theorem num_some {c : UInt8} {n : Nat} (h : num c = some n) : n < 64 ∧ sig n = c := by
  obtain ⟨h1, h2⟩ := numN_some h
  refine ⟨h1, UInt8.toNat_inj.1 ?_⟩
  rw [sig_nat h1, h2]
theorem num_none {c : UInt8} (h : num c = none) : ∀ n, n < 64 → sig n ≠ c := by
  rintro n hn rfl
  rw [num_sig hn] at h
  cases h
theorem sig_ne {n : Nat} (h : n < 64) {c : UInt8} (hc : num c = none) : sig n ≠ c := num_none hc n h
theorem num61 : num 61 = none := by decide
theorem num45 : num 45 = none := by decide

/-- The four signs of a number of 24 bits. -/
def q0 (n : Nat) : UInt8 := sig (n / 262144)
def q1 (n : Nat) : UInt8 := sig (n / 4096 % 64)
def q2 (n : Nat) : UInt8 := sig (n / 64 % 64)
def q3 (n : Nat) : UInt8 := sig (n % 64)
/-- The number of three bytes. -/
def n24 (a b c : UInt8) : Nat := 65536 * a.toNat + 256 * b.toNat + c.toNat
theorem n24_lt (a b c : UInt8) : n24 a b c < 16777216 := by
  unfold n24
  have := a.toNat_lt; have := b.toNat_lt; have := c.toNat_lt
  omega
/-- The text of bytes. -/
def enc : List UInt8 → List UInt8
  | [] => []
  | [a] => [q0 (n24 a 0 0), q1 (n24 a 0 0), 61, 61]
  | [a, b] => [q0 (n24 a b 0), q1 (n24 a b 0), q2 (n24 a b 0), 61]
  | a :: b :: c :: t => q0 (n24 a b c) :: q1 (n24 a b c) :: q2 (n24 a b c) :: q3 (n24 a b c) :: enc t
theorem enc_nil : enc [] = [] := rfl
theorem enc_one (a : UInt8) : enc [a] = [q0 (n24 a 0 0), q1 (n24 a 0 0), 61, 61] := rfl
theorem enc_two (a b : UInt8) : enc [a, b] = [q0 (n24 a b 0), q1 (n24 a b 0), q2 (n24 a b 0), 61] := rfl
theorem enc_more (a b c : UInt8) (t : List UInt8) : enc (a :: b :: c :: t) = q0 (n24 a b c) :: q1 (n24 a b c) :: q2 (n24 a b c) :: q3 (n24 a b c) :: enc t := by
  cases t <;> rfl

theorem q0_lt {n : Nat} (h : n < 16777216) : n / 262144 < 64 := by omega
theorem q_inj {n m : Nat} (hn : n < 16777216) (hm : m < 16777216) (h0 : q0 n = q0 m) (h1 : q1 n = q1 m) (h2 : q2 n = q2 m) (h3 : q3 n = q3 m) : n = m := by
  have e0 := sig_inj (q0_lt hn) (q0_lt hm) h0
  have e1 := sig_inj (by omega) (by omega) h1
  have e2 := sig_inj (by omega) (by omega) h2
  have e3 := sig_inj (by omega) (by omega) h3
  omega
theorem n24_inj {a b c d e f : UInt8} (h : n24 a b c = n24 d e f) : a = d ∧ b = e ∧ c = f := by
  unfold n24 at h
  have := a.toNat_lt; have := b.toNat_lt; have := c.toNat_lt
  have := d.toNat_lt; have := e.toNat_lt; have := f.toNat_lt
  refine ⟨UInt8.toNat_inj.1 ?_, UInt8.toNat_inj.1 ?_, UInt8.toNat_inj.1 ?_⟩ <;> omega
theorem ne61 {n : Nat} (h : n < 64) : sig n ≠ 61 := sig_ne h num61
theorem q2_61 (n : Nat) : q2 n ≠ 61 := ne61 (by omega)
theorem q3_61 (n : Nat) : q3 n ≠ 61 := ne61 (by omega)
theorem n24_a {a b : UInt8} (h0 : q0 (n24 a 0 0) = q0 (n24 b 0 0)) (h1 : q1 (n24 a 0 0) = q1 (n24 b 0 0)) : a = b := by
  have e0 := sig_inj (q0_lt (n24_lt a 0 0)) (q0_lt (n24_lt b 0 0)) h0
  have e1 := sig_inj (by omega) (by omega) h1
  unfold n24 at e0 e1
  have := a.toNat_lt; have := b.toNat_lt
  have hz : (0 : UInt8).toNat = 0 := rfl
  rw [hz] at e0 e1
  refine UInt8.toNat_inj.1 ?_
  omega
theorem n24_b {a b c d : UInt8} (h0 : q0 (n24 a b 0) = q0 (n24 c d 0)) (h1 : q1 (n24 a b 0) = q1 (n24 c d 0)) (h2 : q2 (n24 a b 0) = q2 (n24 c d 0)) : a = c ∧ b = d := by
  have e0 := sig_inj (q0_lt (n24_lt a b 0)) (q0_lt (n24_lt c d 0)) h0
  have e1 := sig_inj (by omega) (by omega) h1
  have e2 := sig_inj (by omega) (by omega) h2
  unfold n24 at e0 e1 e2
  have := a.toNat_lt; have := b.toNat_lt; have := c.toNat_lt; have := d.toNat_lt
  have hz : (0 : UInt8).toNat = 0 := rfl
  rw [hz] at e0 e1 e2
  refine ⟨UInt8.toNat_inj.1 ?_, UInt8.toNat_inj.1 ?_⟩ <;> omega

/-- No two byte strings have the same text. -/
theorem enc_inj : ∀ s t : List UInt8, enc s = enc t → s = t
  | [], [], _ => rfl
  | [], [_], h => by cases h
  | [], [_, _], h => by cases h
  | [], _ :: _ :: _ :: _, h => by rw [enc_more] at h; cases h
  | [_], [], h => by cases h
  | [a], [b], h => by
    rw [enc_one, enc_one] at h
    simp only [List.cons.injEq] at h
    rw [n24_a h.1 h.2.1]
  | [a], [b, c], h => by
    rw [enc_one, enc_two] at h
    simp only [List.cons.injEq] at h
    exact absurd h.2.2.1.symm (q2_61 _)
  | [a], b :: c :: d :: t, h => by
    rw [enc_one, enc_more] at h
    simp only [List.cons.injEq] at h
    exact absurd h.2.2.1.symm (q2_61 _)
  | [_, _], [], h => by cases h
  | [a, b], [c], h => by
    rw [enc_one, enc_two] at h
    simp only [List.cons.injEq] at h
    exact absurd h.2.2.1 (q2_61 _)
  | [a, b], [c, d], h => by
    rw [enc_two, enc_two] at h
    simp only [List.cons.injEq] at h
    obtain ⟨rfl, rfl⟩ := n24_b h.1 h.2.1 h.2.2.1
    rfl
  | [a, b], c :: d :: e :: t, h => by
    rw [enc_two, enc_more] at h
    simp only [List.cons.injEq] at h
    exact absurd h.2.2.2.1.symm (q3_61 _)
  | _ :: _ :: _ :: _, [], h => by rw [enc_more] at h; cases h
  | a :: b :: c :: t, [d], h => by
    rw [enc_one, enc_more] at h
    simp only [List.cons.injEq] at h
    exact absurd h.2.2.1 (q2_61 _)
  | a :: b :: c :: t, [d, e], h => by
    rw [enc_two, enc_more] at h
    simp only [List.cons.injEq] at h
    exact absurd h.2.2.2.1 (q3_61 _)
  | a :: b :: c :: t, d :: e :: f :: u, h => by
    rw [enc_more, enc_more] at h
    simp only [List.cons.injEq] at h
    obtain ⟨rfl, rfl, rfl⟩ := n24_inj (q_inj (n24_lt a b c) (n24_lt d e f) h.1 h.2.1 h.2.2.1 h.2.2.2.1)
    rw [enc_inj t u h.2.2.2.2]
theorem enc_len : ∀ s : List UInt8, (enc s).length = (s.length + 2) / 3 * 4
  | [] => rfl
  | [a] => by rw [enc_one]; simp
  | [a, b] => by rw [enc_two]; simp
  | a :: b :: c :: t => by
    rw [enc_more]
    simp only [List.length_cons]
    rw [enc_len t]
    omega
/-- The signs of a text. -/
theorem enc_signs : ∀ s : List UInt8, ∀ x ∈ enc s, x = 61 ∨ ∃ n, n < 64 ∧ x = sig n
  | [] => by simp [enc]
  | [a] => by
    intro x hx
    rw [enc_one] at hx
    simp only [List.mem_cons, List.not_mem_nil, or_false] at hx
    rcases hx with rfl | rfl | rfl | rfl
    · exact .inr ⟨_, q0_lt (n24_lt a 0 0), rfl⟩
    · exact .inr ⟨_, by omega, rfl⟩
    · exact .inl rfl
    · exact .inl rfl
  | [a, b] => by
    intro x hx
    rw [enc_two] at hx
    simp only [List.mem_cons, List.not_mem_nil, or_false] at hx
    rcases hx with rfl | rfl | rfl | rfl
    · exact .inr ⟨_, q0_lt (n24_lt a b 0), rfl⟩
    · exact .inr ⟨_, by omega, rfl⟩
    · exact .inr ⟨_, by omega, rfl⟩
    · exact .inl rfl
  | a :: b :: c :: t => by
    intro x hx
    rw [enc_more] at hx
    simp only [List.mem_cons] at hx
    rcases hx with rfl | rfl | rfl | rfl | hx
    · exact .inr ⟨_, q0_lt (n24_lt a b c), rfl⟩
    · exact .inr ⟨_, by omega, rfl⟩
    · exact .inr ⟨_, by omega, rfl⟩
    · exact .inr ⟨_, by omega, rfl⟩
    · exact enc_signs t x hx
theorem enc_no45 (s : List UInt8) : ¬ (45 : UInt8) ∈ enc s := by
  intro h
  rcases enc_signs s 45 h with h | ⟨n, hn, h⟩
  · exact absurd h (by decide)
  · exact sig_ne hn num45 h.symm
/-- Groups of three bytes are encoded alone. -/
theorem enc_app : ∀ s t : List UInt8, s.length % 3 = 0 → enc (s ++ t) = enc s ++ enc t
  | [], t, _ => rfl
  | [_], _, h => by simp at h
  | [_, _], _, h => by simp at h
  | a :: b :: c :: s, t, h => by
    simp only [List.length_cons] at h
    rw [List.cons_append, List.cons_append, List.cons_append, enc_more, enc_more, enc_app s t (by omega)]
    rfl
/-- The last two signs. -/
theorem enc_last : ∀ s : List UInt8, s ≠ [] → ∃ p x y, enc s = p ++ [x, y] ∧ (y = 61 ↔ s.length % 3 ≠ 0) ∧ (x = 61 ↔ s.length % 3 = 1)
  | [], h => absurd rfl h
  | [a], _ => ⟨[q0 (n24 a 0 0), q1 (n24 a 0 0)], 61, 61, rfl, by simp, by simp⟩
  | [a, b], _ => ⟨[q0 (n24 a b 0), q1 (n24 a b 0)], q2 (n24 a b 0), 61, rfl, by simp, by simpa using q2_61 _⟩
  | [a, b, c], _ => ⟨[q0 (n24 a b c), q1 (n24 a b c)], q2 (n24 a b c), q3 (n24 a b c), rfl, by simpa using q3_61 _, by simpa using q2_61 _⟩
  | a :: b :: c :: d :: t, _ => by
    obtain ⟨p, x, y, h1, h2, h3⟩ := enc_last (d :: t) (by simp)
    refine ⟨q0 (n24 a b c) :: q1 (n24 a b c) :: q2 (n24 a b c) :: q3 (n24 a b c) :: p, x, y, by rw [enc_more, h1]; rfl, ?_, ?_⟩
    · rw [h2]; simp only [List.length_cons]; omega
    · rw [h3]; simp only [List.length_cons]; omega

/-- What a decoder tells. -/
def Dec (text : List UInt8) (o : Bool) (s : List UInt8) : Prop :=
  (o = true → s.length ≤ 30 ∧ enc s = text) ∧ (o = false → s = [] ∧ ∀ t : List UInt8, t.length ≤ 30 → enc t ≠ text)
theorem dec_any (text : List UInt8) : ∃ o s, Dec text o s := by
  by_cases h : ∃ t : List UInt8, t.length ≤ 30 ∧ enc t = text
  · obtain ⟨t, h1, h2⟩ := h
    exact ⟨true, t, fun _ => ⟨h1, h2⟩, fun h => by cases h⟩
  · exact ⟨false, [], fun h => (by cases h), fun _ => ⟨rfl, fun t h1 h2 => h ⟨t, h1, h2⟩⟩⟩
theorem dec_one {text : List UInt8} {o p : Bool} {s t : List UInt8} (h : Dec text o s) (k : Dec text p t) : o = p ∧ s = t := by
  cases o <;> cases p
  · exact ⟨rfl, (h.2 rfl).1.trans (k.2 rfl).1.symm⟩
  · exact absurd (k.1 rfl).2 ((h.2 rfl).2 t (k.1 rfl).1)
  · exact absurd (h.1 rfl).2 ((k.2 rfl).2 s (h.1 rfl).1)
  · exact ⟨rfl, enc_inj s t ((h.1 rfl).2.trans (k.1 rfl).2.symm)⟩
theorem dec_of {s : List UInt8} (h : s.length ≤ 30) : Dec (enc s) true s := ⟨fun _ => ⟨h, rfl⟩, fun h => by cases h⟩
theorem dec_no {text : List UInt8} (h : ∀ t : List UInt8, enc t ≠ text) : Dec text false [] := ⟨fun h => (by cases h), fun _ => ⟨rfl, fun t _ => h t⟩⟩
theorem dec_len {text : List UInt8} (h : text.length % 4 ≠ 0) : Dec text false [] := dec_no (by
  rintro t rfl
  rw [enc_len] at h
  omega)
theorem dec_sign {text : List UInt8} (h : (45 : UInt8) ∈ text) : Dec text false [] := dec_no (by
  rintro t rfl
  exact enc_no45 t h)
theorem dec_long {text : List UInt8} (h : 40 < text.length) : Dec text false [] := ⟨fun h => (by cases h), fun _ => ⟨rfl, by
  rintro t ht rfl
  rw [enc_len] at h
  omega⟩⟩
end Go.Proofs.Ytinbdibenbplnaa
namespace Go.Proofs.Ytinbdibenbplnaa
open Go.RowKit
set_option linter.unusedVariables false

/-- A law holds here. -/
def Holds1 (w : World) (e : Ending) (w' : World) : Prop := e = .returned (.bool true) ∧ Below w.heap.size w w'

end Go.Proofs.Ytinbdibenbplnaa
namespace Go.Proofs.Ytinbdibenbplnaa
open Go.RowKit
set_option linter.unusedVariables false

theorem two_size (a b : UInt8) : (⟨#[a, b]⟩ : ByteArray).size = 2 := rfl
theorem six_size (a b c d e f : UInt8) : (⟨#[a, b, c, d, e, f]⟩ : ByteArray).size = 6 := rfl
theorem nameB_iff {l : List UInt8} : nameB l = true ↔ (l.all sgn = true ∧ 1 ≤ l.length ∧ l.length ≤ 8) := by unfold nameB; simp [and_assoc]
theorem cat_list (s t : ByteArray) : (s ++ t).data.toList = s.data.toList ++ t.data.toList := by simp
theorem add_short {s : ByteArray} (h : nameB s.data.toList = true) (h8 : s.data.toList.length < 8) : nameB (s ++ ⟨#[97]⟩).data.toList = true := by
  obtain ⟨h1, h2, h3⟩ := nameB_iff.1 h
  rw [cat_list]
  refine nameB_iff.2 ⟨by rw [List.all_append, h1]; rfl, by rw [List.length_append]; omega, by rw [List.length_append]; show _ + 1 ≤ 8; omega⟩
theorem add_long {s : ByteArray} (h8 : ¬ s.data.toList.length < 8) : nameB (s ++ ⟨#[97]⟩).data.toList = false := by
  rw [← Bool.not_eq_true]
  intro h
  obtain ⟨_, _, h3⟩ := nameB_iff.1 h
  rw [cat_list, List.length_append] at h3
  have : (⟨#[97]⟩ : ByteArray).data.toList.length = 1 := rfl
  omega
theorem name_empty : nameB (⟨#[]⟩ : ByteArray).data.toList = false := rfl
theorem part_left {s : ByteArray} {j : Nat} (h : nameB s.data.toList = true) (h1 : 1 ≤ j) (h2 : j ≤ s.data.toList.length) : nameB (s.extract 0 j).data.toList = true := by
  obtain ⟨a1, a2, a3⟩ := nameB_iff.1 h
  rw [extract_list]
  refine nameB_iff.2 ⟨?_, by simp at h2 ⊢; omega, by simp at a3 ⊢; omega⟩
  rw [List.all_eq_true] at a1 ⊢
  intro x hx
  exact a1 x (List.mem_of_mem_drop (List.mem_of_mem_take hx))
theorem part_right {s : ByteArray} {j : Nat} (h : nameB s.data.toList = true) (h2 : j < s.size) : nameB (s.extract j s.size).data.toList = true := by
  obtain ⟨a1, a2, a3⟩ := nameB_iff.1 h
  rw [extract_list]
  refine nameB_iff.2 ⟨?_, by simp; omega, by simp at a3 ⊢; omega⟩
  rw [List.all_eq_true] at a1 ⊢
  intro x hx
  exact a1 x (List.mem_of_mem_drop (List.mem_of_mem_take hx))

/-- A text with another one put in. -/
def ins (L : List UInt8) (k : Nat) (p : List UInt8) : List UInt8 := L.take k ++ p ++ L.drop k
/-- What 'put' leaves. -/
def PutIn (w : World) (s : ByteArray) (k : Nat) (p : ByteArray) (e : Ending) (w' : World) : Prop :=
  ∃ v : ByteArray, e = .returned (.string v) ∧ v.data.toList = ins s.data.toList k p.data.toList ∧ v.size = s.size + p.size ∧ ∃ n, w' = w.drewN n
theorem put_bad {s v : ByteArray} {k : Nat} {c : UInt8} (h : v.data.toList = ins s.data.toList k (⟨#[c]⟩ : ByteArray).data.toList) (hc : sgn c = false) : nameB v.data.toList = false := by
  rw [h]
  refine nameB_bad (x := c) ?_ hc
  unfold ins
  simp

/-- What 'before' leaves. -/
def Before (w : World) (s : ByteArray) (c : UInt8) (e : Ending) (w' : World) : Prop :=
  ∃ v : ByteArray, e = .returned (.string v) ∧ v.data.toList = s.data.toList.takeWhile (fun x => x != c) ∧ v.size ≤ s.size ∧ w = w'
theorem takeWhile_stop (L : List UInt8) (c : UInt8) (k : Nat) (hk : k < L.length) (ha : (L.take k).all (fun x => x != c) = true) (hc : L[k] = c) : L.takeWhile (fun x => x != c) = L.take k := by
  conv => lhs; rw [← List.take_append_drop k L]
  rw [List.takeWhile_append_of_pos (fun a h => List.all_eq_true.1 ha a h), List.drop_eq_getElem_cons hk, List.takeWhile_cons, if_neg (by simp [hc])]
  simp
theorem takeWhile_all (L : List UInt8) (c : UInt8) (ha : L.all (fun x => x != c) = true) : L.takeWhile (fun x => x != c) = L := by
  have := List.takeWhile_append_of_pos (p := fun x => x != c) (l₁ := L) (l₂ := []) (fun a h => List.all_eq_true.1 ha a h)
  simpa using this
theorem dom_parts {L : List UInt8} (h : domB L = true) : (cut 46 L).all nameB = true ∧ (cut 46 L).length ≤ 3 ∧ L.length ≤ 20 := by
  unfold domB at h
  simp only [Bool.and_eq_true, decide_eq_true_eq] at h
  exact ⟨h.1.1, h.1.2, h.2⟩
theorem dom_len {L : List UInt8} (h : domB L = true) : L.length ≤ 20 := (dom_parts h).2.2
theorem cutGo_first (c : UInt8) (l : List UInt8) : ∀ cur, ∃ rest, cutGo c cur l = (cur ++ l.takeWhile (fun x => x != c)) :: rest := by
  induction l with
  | nil => intro cur; exact ⟨[], by simp [cutGo]⟩
  | cons a l ih =>
    intro cur
    unfold cutGo
    by_cases ha : a = c
    · rw [if_pos ha]; exact ⟨cutGo c [] l, by simp [ha]⟩
    · rw [if_neg ha]
      obtain ⟨rest, h⟩ := ih (cur ++ [a])
      exact ⟨rest, by rw [h]; simp [ha]⟩
theorem dom_first {L : List UInt8} (h : domB L = true) : nameB (L.takeWhile (fun x => x != (46 : UInt8))) = true := by
  obtain ⟨rest, hc⟩ := cutGo_first 46 L []
  have h1 := (dom_parts h).1
  unfold cut at h1
  rw [hc, List.all_cons, Bool.and_eq_true] at h1
  simpa using h1.1
theorem name_no46 {L : List UInt8} (h : nameB L = true) (c : UInt8) (hc : sgn c = false) : ∀ x ∈ L, x ≠ c := fun x hx => sgn_ne (List.all_eq_true.1 (nameB_iff.1 h).1 x hx) hc
theorem name_dom {L : List UInt8} (h : nameB L = true) : domB L = true := by
  have h3 := (nameB_iff.1 h).2.2
  unfold domB
  rw [cut_nil_of 46 L (name_no46 h 46 sgn46)]
  simp [h]
  omega
theorem cutGo_last (c : UInt8) (l : List UInt8) : ∀ cur, ∃ x ∈ cutGo c cur (l ++ [c]), x = [] := by
  induction l with
  | nil => intro cur; exact ⟨[], by simp [cutGo], rfl⟩
  | cons a l ih =>
    intro cur
    rw [List.cons_append, cutGo]
    split
    · obtain ⟨x, hx, he⟩ := ih []
      exact ⟨x, by simp [hx], he⟩
    · exact ih _
theorem dom_hole {L : List UInt8} (h : [] ∈ cut 46 L) : domB L = false := by
  have : (cut 46 L).all nameB = false := by
    rw [← Bool.not_eq_true]; intro ha; rw [List.all_eq_true] at ha; have := ha [] h; cases this
  unfold domB
  rw [this]; rfl
theorem dom_back (s : ByteArray) : domB (s ++ ⟨#[46]⟩).data.toList = false := by
  rw [cat_list]
  obtain ⟨x, hx, rfl⟩ := cutGo_last 46 s.data.toList []
  exact dom_hole hx
theorem dom_front (s : ByteArray) : domB ((⟨#[46]⟩ : ByteArray) ++ s).data.toList = false := by
  rw [cat_list]
  refine dom_hole ?_
  show [] ∈ cut 46 ([] ++ 46 :: s.data.toList)
  rw [cut_at 46 [] _ (by simp)]
  simp
theorem dom_more (s : ByteArray) : domB ((⟨#[97, 46, 98, 46, 99, 46]⟩ : ByteArray) ++ s).data.toList = false := by
  rw [cat_list]
  have e : cut 46 ([97] ++ 46 :: ([98] ++ 46 :: ([99] ++ 46 :: s.data.toList))) = [97] :: [98] :: [99] :: cut 46 s.data.toList := by
    rw [cut_at 46 [97] _ (by decide), cut_at 46 [98] _ (by decide), cut_at 46 [99] _ (by decide)]
  have hl := (cut_len 46 s.data.toList).1
  show domB ([97] ++ 46 :: ([98] ++ 46 :: ([99] ++ 46 :: s.data.toList))) = false
  unfold domB
  rw [e, decide_eq_false (p := ([97] :: [98] :: [99] :: cut 46 s.data.toList).length ≤ 3) (by simp only [List.length_cons]; omega)]
  simp
theorem dom_two {s x : ByteArray} (hs : nameB s.data.toList = true) (hx : nameB x.data.toList = true) : domB (s ++ ⟨#[46]⟩ ++ x).data.toList = true := by
  rw [cat_list, cat_list, List.append_assoc]
  show domB (s.data.toList ++ 46 :: x.data.toList) = true
  have a := (nameB_iff.1 hs).2.2
  have b := (nameB_iff.1 hx).2.2
  unfold domB
  rw [cut_at 46 _ _ (name_no46 hs 46 sgn46), cut_nil_of 46 _ (name_no46 hx 46 sgn46)]
  rw [decide_eq_true (p := (s.data.toList ++ 46 :: x.data.toList).length ≤ 20) (by rw [List.length_append, List.length_cons]; omega)]
  simp [hs, hx]
theorem dom_three {s x : ByteArray} (hs : nameB s.data.toList = true) (hx : nameB x.data.toList = true) : domB ((⟨#[97, 46]⟩ : ByteArray) ++ s ++ ⟨#[46]⟩ ++ x).data.toList = true := by
  rw [cat_list, cat_list, cat_list, List.append_assoc, List.append_assoc]
  show domB ([97] ++ 46 :: (s.data.toList ++ 46 :: x.data.toList)) = true
  have a := (nameB_iff.1 hs).2.2
  have b := (nameB_iff.1 hx).2.2
  unfold domB
  rw [cut_at 46 [97] _ (by decide), cut_at 46 _ _ (name_no46 hs 46 sgn46), cut_nil_of 46 _ (name_no46 hx 46 sgn46)]
  have hl : ([97] ++ (46 : UInt8) :: (s.data.toList ++ 46 :: x.data.toList)).length ≤ 20 := by simp only [List.length_append, List.length_cons, List.length_nil]; omega
  have e97 : nameB [97] = true := by decide
  simp only [List.all_cons, List.all_nil, hs, hx, e97, Bool.and_true, Bool.true_and]
  rw [decide_eq_true (by simp only [List.length_cons, List.length_nil]; omega), decide_eq_true hl]
  rfl
end Go.Proofs.Ytinbdibenbplnaa
