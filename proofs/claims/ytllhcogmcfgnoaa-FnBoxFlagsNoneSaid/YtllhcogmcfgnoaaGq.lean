/-
  How messages and numbers lie in memory, and what is told of a mailbox. Plain lemmas; no condition.
  Messages that are linked through pointers: how a chain lies in memory, and what a new node, a removed node and changed flags make of it. Plain lemmas; no condition.
  What the laws of mailboxes ask of the plain mathematics. Plain lemmas; no condition.
  The contracts of the model's l11Mail and BoxValid. Condition: the messages can be read.
  The contracts of the model's l11Copy, l11Append and BoxAppend. Condition: the messages can be read, and are not too many.
  The laws' own helpers that compare mailboxes, messages and numbers, and look for a number; the model's l11Has. Condition: the lists can be read, and are not too long.
  The contracts of the model's l11Numbers, l11Size and BoxSize. Condition: the lists can be read, and are not too long.
-/
import Derived.Test.YtllhcogmcfgnoaaRow
import Derived.Test.YtllhcogmcfgnoaaGmath
import Derived.Test.YtllhcogmcfgnoaaFtxt
namespace Go.Proofs.Ytllhcogmcfgnoaa
open Go.RowKit
set_option linter.unusedVariables false

def mailR : RowT ML where
  t := 49
  sz := 3
  enc := fun m => [.int .i64 m.1, .int .i64 m.2.1, .string (sB m.2.2)]
  len := fun _ => rfl
  one := fun x u hu => by
    simp at hu
    rcases hu with rfl | rfl | rfl <;> rfl
def intR : RowT Int where
  t := 3
  sz := 1
  enc := fun x => [.int .i64 x]
  len := fun _ => rfl
  one := fun x u hu => by
    simp at hu
    subst hu
    rfl
theorem Try.infoMail : (Try.prog.info? 49).map (fun i => (i.zero, i.size, i.bytes)) = some (some (.agg #[.int .i64 0, .int .i64 0, .string ⟨#[]⟩]), 3, 32) := by kernel_rfl
theorem Try.infoNum : (Try.prog.info? 3).map (fun i => (i.zero, i.size, i.bytes)) = some (some (.int .i64 0), 1, 8) := by kernel_rfl
section
variable {w w' : World} {A : Option Addr} {L : List ML} {P : List Int} {k : Nat} {u f x : Int} {t : List UInt8}
theorem mail_at (h : RAt mailR w A L) (hx : L[k]? = some (u, f, t)) : ∃ b o, A = some ⟨b, o, none⟩ ∧ b < w.heap.size ∧ w.cell? ⟨b, o + k * 3, none⟩ = some (.int .i64 u) ∧ w.cell? ⟨b, o + k * 3 + 1, none⟩ = some (.int .i64 f) ∧ w.cell? ⟨b, o + k * 3 + 2, none⟩ = some (.string (sB t)) := by
  obtain ⟨b, o, hA, hb, h1⟩ := h k _ hx
  exact ⟨b, o, hA, hb, h1 0 _ rfl, h1 1 _ rfl, h1 2 _ rfl⟩
theorem int_at (h : RAt intR w A P) (hx : P[k]? = some x) : ∃ b o, A = some ⟨b, o, none⟩ ∧ b < w.heap.size ∧ w.cell? ⟨b, o + k, none⟩ = some (.int .i64 x) := by
  obtain ⟨b, o, hA, hb, h1⟩ := h k _ hx
  have := h1 0 _ rfl
  have e : intR.sz = 1 := rfl
  rw [e, Nat.mul_one, Nat.add_zero] at this
  exact ⟨b, o, hA, hb, this⟩
end
/-- A slice of messages that came in: what the walk asks of it. -/
def MIn (w : World) (A : Option Addr) (N cap : Nat) (L : List ML) : Prop := L.length = N ∧ N ≤ 33554432 ∧ RAt mailR w A L ∧ (A = none → cap = 0) ∧ (∀ q, A = some q → q.spot = none)
theorem MIn.below {w w' : World} {A : Option Addr} {N cap B : Nat} {L : List ML} (h : MIn w A N cap L) (hb : Below B w w') (hB : w.heap.size ≤ B) : MIn w' A N cap L := ⟨h.1, h.2.1, h.2.2.1.below hb hB, h.2.2.2⟩
theorem MIn.of {w : World} {B N cap : Nat} {A : Option Addr} {L : List ML} (h : ROwn mailR w B (.slice A N cap) L) (hl : N ≤ 33554432) : MIn w A N cap L := ⟨h.len.1.symm, hl, h.at, h.nilcap, h.spot⟩
/-- A mailbox of the call's own is handed back. -/
def GivesB (w : World) (n : Int) (L : List ML) (e : Ending) (w' : World) : Prop := ∃ A N cap, e = .returned (.agg #[.int .i64 n, .slice A N cap]) ∧ ROwn mailR w' w.heap.size (.slice A N cap) L ∧ Below w.heap.size w w'
/-- A mailbox of the call's own, and whether. -/
def GivesBB (w : World) (n : Int) (L : List ML) (b : Bool) (e : Ending) (w' : World) : Prop := ∃ A N cap, e = .returned (.tuple #[.agg #[.int .i64 n, .slice A N cap], .bool b]) ∧ ROwn mailR w' w.heap.size (.slice A N cap) L ∧ Below w.heap.size w w'
end Go.Proofs.Ytllhcogmcfgnoaa

namespace Go.Proofs.Ytllhcogmcfgnoaa
open Go.RowKit
set_option linter.unusedVariables false

/-- The nodes of a chain: the block of each, and its message. -/
abbrev NX := List (Nat × ML)
def nxt (X : NX) (i : Nat) : Option Addr := (X[i]?).map fun y => ⟨y.1, 0, none⟩
def ncs (m : ML) (p : Option Addr) : Array Value := #[.int .i64 m.1, .int .i64 m.2.1, .string (sB m.2.2), .pointer p]
structure Nds (w : World) (B : Nat) (X : NX) : Prop where
  node : ∀ (i g : Nat) (m : ML), X[i]? = some (g, m) → B ≤ g ∧ Whole w g 51 (ncs m (nxt X (i + 1)))
  asc : X.Pairwise fun a b => a.1 < b.1
/-- The link ahead of node 'i'. -/
def lnk (c : Nat) (X : NX) : Nat → Addr
  | 0 => ⟨c, 1, none⟩
  | j + 1 => ⟨(X.getD j (0, (0, 0, []))).1, 3, none⟩
/-- A chain in block 'c': the next number, and the nodes. -/
structure Chn (w : World) (c : Nat) (n : Int) (X : NX) : Prop where
  head : Whole w c 67 #[.int .i64 n, .pointer (nxt X 0)]
  nds : Nds w (c + 1) X

section
variable {w w' : World} {B B' c g i : Nat} {n f : Int} {X Y : NX} {m : ML}
theorem nxt_nil (i : Nat) : nxt [] i = none := rfl
theorem nxt_end (h : X.length ≤ i) : nxt X i = none := by unfold nxt; rw [List.getElem?_eq_none h]; rfl
theorem nxt_some (h : X[i]? = some (g, m)) : nxt X i = some ⟨g, 0, none⟩ := by unfold nxt; rw [h]; rfl
theorem nxt_zero (y : Nat × ML) (X : NX) : nxt (y :: X) 0 = some ⟨y.1, 0, none⟩ := rfl
theorem nxt_succ (y : Nat × ML) (X : NX) (i : Nat) : nxt (y :: X) (i + 1) = nxt X i := rfl
theorem nxt_app_l (h : i < X.length) : nxt (X ++ Y) i = nxt X i := by unfold nxt; rw [List.getElem?_append_left h]
theorem nxt_app_r (h : X.length ≤ i) : nxt (X ++ Y) i = nxt Y (i - X.length) := by unfold nxt; rw [List.getElem?_append_right h]
theorem lnk_spot (c : Nat) (X : NX) (i : Nat) : ∃ pb po, lnk c X i = ⟨pb, po, none⟩ := by cases i <;> exact ⟨_, _, rfl⟩
theorem lnk_succ (h : X[i]? = some (g, m)) : lnk c X (i + 1) = ⟨g, 3, none⟩ := by
  show (⟨(X.getD i (0, (0, 0, []))).1, 3, none⟩ : Addr) = _
  rw [List.getD_eq_getElem?_getD, h]
  rfl
theorem Nds.size (h : Nds w B X) (hx : X[i]? = some (g, m)) : g < w.heap.size := (h.node i g m hx).2.lt
theorem Nds.cells (h : Nds w B X) (hx : X[i]? = some (g, m)) : w.cell? ⟨g, 0, none⟩ = some (.int .i64 m.1) ∧ w.cell? ⟨g, 1, none⟩ = some (.int .i64 m.2.1) ∧ w.cell? ⟨g, 2, none⟩ = some (.string (sB m.2.2)) ∧ w.cell? ⟨g, 3, none⟩ = some (.pointer (nxt X (i + 1))) := by
  have := (h.node i g m hx).2
  exact ⟨this.cell 0, this.cell 1, this.cell 2, this.cell 3⟩
theorem Nds.free (h : Nds w B X) (hx : X[i]? = some (g, m)) (j : Nat) : w.frozen? ⟨g, j, none⟩ = false := (h.node i g m hx).2.free j
theorem Nds.nil (w : World) (B : Nat) : Nds w B [] := ⟨fun i g m hx => by simp at hx, List.Pairwise.nil⟩
theorem Nds.from (h : Nds w B X) (hb : B' ≤ B) : Nds w B' X := ⟨fun i g m hx => ⟨Nat.le_trans hb (h.node i g m hx).1, (h.node i g m hx).2⟩, h.asc⟩
theorem Nds.kept (h : Nds w B X) (hk : ∀ b, b < w.heap.size → B ≤ b → w'.heap[b]? = w.heap[b]?) : Nds w' B X :=
  ⟨fun i g m hx => ⟨(h.node i g m hx).1, (hk g (h.size hx) (h.node i g m hx).1).trans (h.node i g m hx).2⟩, h.asc⟩
theorem Nds.below (h : Nds w B X) (hb : Below w.heap.size w w') : Nds w' B X := h.kept fun b hb' _ => hb.block b hb'
theorem Nds.drewN (h : Nds w B X) (k : Nat) : Nds (w.drewN k) B X := h.kept fun _ _ _ => rfl
theorem Nds.drew (h : Nds w B X) : Nds w.drew B X := h.kept fun _ _ _ => rfl
theorem Nds.alloc (h : Nds w B X) (o : Obj) : Nds (w.alloc o) B X := h.kept fun b hb _ => Below.heap_alloc w o b hb
theorem Nds.differ (h : Nds w B X) {t : TypeId} {cs : Array Value} {b : Nat} (hW : Whole w b t cs) (ht : t ≠ 51) (hx : X[i]? = some (g, m)) : g ≠ b := by
  rintro rfl
  have := hW.symm.trans (h.node i g m hx).2
  cases this
  exact ht rfl
theorem Nds.apart (h : Nds w B X) {p : Addr} (hp : ∀ (i g : Nat) (m : ML), X[i]? = some (g, m) → g ≠ p.block) (u : Value) : Nds (w.setCell p u) B X :=
  ⟨fun i g m hx => ⟨(h.node i g m hx).1, (h.node i g m hx).2.apart (hp i g m hx) u⟩, h.asc⟩
theorem Nds.grown (h : Nds w B X) {row : Option Nat} (hg : w.grownBy w' row) (hne : ∀ (i g : Nat) (m : ML), X[i]? = some (g, m) → some g ≠ row) : Nds w' B X :=
  ⟨fun i g m hx => ⟨(h.node i g m hx).1, (h.node i g m hx).2.grown hg (hne i g m hx)⟩, h.asc⟩
theorem Nds.ne (h : Nds w B X) {j a b : Nat} {x y : ML} (hi : X[i]? = some (a, x)) (hj : X[j]? = some (b, y)) (hij : i ≠ j) : a ≠ b := by
  obtain ⟨h1, e1⟩ := List.getElem?_eq_some_iff.1 hi
  obtain ⟨h2, e2⟩ := List.getElem?_eq_some_iff.1 hj
  have h3 := List.pairwise_iff_getElem.1 h.asc
  rcases (by omega : i < j ∨ j < i) with h4 | h4
  · have := h3 i j h1 h2 h4
    rw [e1, e2] at this
    simp only at this
    omega
  · have := h3 j i h2 h1 h4
    rw [e1, e2] at this
    simp only at this
    omega

theorem Chn.below (h : Chn w c n X) (hb : Below w.heap.size w w') : Chn w' c n X := ⟨h.head.below hb h.head.lt, h.nds.below hb⟩
theorem Chn.drewN (h : Chn w c n X) (k : Nat) : Chn (w.drewN k) c n X := ⟨h.head, h.nds.drewN k⟩
theorem Chn.drew (h : Chn w c n X) : Chn w.drew c n X := ⟨h.head, h.nds.drew⟩
theorem Chn.alloc (h : Chn w c n X) (o : Obj) : Chn (w.alloc o) c n X := ⟨h.head.alloc o, h.nds.alloc o⟩
theorem Chn.grown (h : Chn w c n X) {row : Option Nat} (hg : w.grownBy w' row) (hc : some c ≠ row) (hne : ∀ (i g : Nat) (m : ML), X[i]? = some (g, m) → some g ≠ row) : Chn w' c n X := ⟨h.head.grown hg hc, h.nds.grown hg hne⟩
/-- What the link ahead of node 'i' holds. -/
theorem Chn.link (h : Chn w c n X) (hi : i ≤ X.length) : w.cell? (lnk c X i) = some (.pointer (nxt X i)) ∧ w.frozen? (lnk c X i) = false ∧ c ≤ (lnk c X i).block ∧ (lnk c X i).block < w.heap.size := by
  cases i with
  | zero => exact ⟨h.head.cell 1, h.head.free 1, Nat.le_refl _, h.head.lt⟩
  | succ j =>
    obtain ⟨⟨g, m⟩, hx⟩ : ∃ y, X[j]? = some y := ⟨_, List.getElem?_eq_getElem (by omega)⟩
    rw [lnk_succ hx]
    have := (h.nds.node j g m hx).1
    exact ⟨(h.nds.cells hx).2.2.2, h.nds.free hx 3, by show c ≤ g; omega, h.nds.size hx⟩
theorem nds_new {B N : Nat} (h : Nds w B X) (hN : w.heap.size = N) (hB : B ≤ N) (m : ML) : ∀ i g x, (X ++ [(N, m)])[i]? = some (g, x) → i = X.length ∧ g = N ∧ x = m ∨ i < X.length ∧ X[i]? = some (g, x) := fun i g x hx => by
  rcases Nat.lt_or_ge i X.length with hl | hl
  · rw [List.getElem?_append_left hl] at hx
    exact .inr ⟨hl, hx⟩
  · rw [List.getElem?_append_right hl] at hx
    obtain ⟨h1, h2⟩ := List.getElem?_eq_some_iff.1 hx
    simp at h1 h2
    exact .inl ⟨by omega, h2.1.symm, h2.2.symm⟩
/-- A new node at the end. -/
theorem Chn.push (h : Chn w c n X) (m : ML) {N : Nat} (hN : w.heap.size = N) :
    Chn ((w.alloc (.cells (ncs m none) 51)).setCell (lnk c X X.length) (.pointer (some ⟨N, 0, none⟩))) c n (X ++ [(N, m)]) := by
  subst hN
  have hnew := Whole.made w 51 (ncs m none)
  have hlt : ∀ i g x, X[i]? = some (g, x) → g < w.heap.size := fun i g x hx => h.nds.size hx
  have hcl := h.head.lt
  have hasc : (X ++ [(w.heap.size, m)]).Pairwise fun a b => a.1 < b.1 := by
    refine List.pairwise_append.2 ⟨h.nds.asc, List.pairwise_singleton _ _, fun a ha b hb => ?_⟩
    rw [List.mem_singleton.1 hb]
    obtain ⟨i, hi⟩ := List.mem_iff_getElem?.1 ha
    exact hlt i a.1 a.2 hi
  cases hX : X.length with
  | zero =>
    have e : X = [] := List.eq_nil_of_length_eq_zero hX
    subst e
    refine ⟨?_, fun i g x hx => ?_, hasc⟩
    · have := (h.head.alloc (.cells (ncs m none) 51)).store 1 (.pointer (some ⟨w.heap.size, 0, none⟩))
      exact this
    · rcases nds_new h.nds rfl hcl m i g x hx with ⟨rfl, rfl, rfl⟩ | ⟨hl, _⟩
      · exact ⟨hcl, hnew.apart (by show w.heap.size ≠ c; omega) _⟩
      · simp at hl
  | succ j =>
    obtain ⟨⟨b, y⟩, hb⟩ : ∃ y, X[j]? = some y := ⟨_, List.getElem?_eq_getElem (by omega)⟩
    rw [lnk_succ hb]
    have hbc := (h.nds.node j b y hb).1
    refine ⟨?_, fun i g x hx => ?_, hasc⟩
    · rw [nxt_app_l (by omega)]
      exact (h.head.alloc _).apart (by show c ≠ b; omega) _
    · rcases nds_new h.nds rfl hcl m i g x hx with ⟨rfl, rfl, rfl⟩ | ⟨hl, hx'⟩
      · refine ⟨hcl, ?_⟩
        rw [nxt_end (by simp)]
        exact hnew.apart (by show w.heap.size ≠ b; have := hlt j b y hb; omega) _
      · obtain ⟨h1, h2⟩ := h.nds.node i g x hx'
        refine ⟨h1, ?_⟩
        by_cases hij : i = j
        · subst hij
          rw [hb] at hx'
          cases hx'
          have := (h2.alloc (.cells (ncs m none) 51)).store 3 (.pointer (some ⟨w.heap.size, 0, none⟩))
          rw [nxt_app_r (by omega), show i + 1 - X.length = 0 by omega]
          exact this
        · rw [nxt_app_l (by omega)]
          exact (h2.alloc _).apart (by show g ≠ b; exact h.nds.ne hx' hb hij) _
/-- A node taken out. -/
theorem Chn.drop {K R : NX} {y : Nat × ML} (h : Chn w c n (K ++ y :: R)) : Chn (w.setCell (lnk c (K ++ y :: R) K.length) (.pointer (nxt R 0))) c n (K ++ R) := by
  have hasc : (K ++ R).Pairwise fun a b => a.1 < b.1 := List.Pairwise.sublist (List.Sublist.append (List.Sublist.refl _) (List.sublist_cons_self _ _)) h.nds.asc
  have hat : ∀ i g x, (K ++ R)[i]? = some (g, x) → ∃ j, (K ++ y :: R)[j]? = some (g, x) ∧ nxt (K ++ y :: R) (j + 1) = (if i + 1 = K.length then nxt (y :: R) 0 else nxt (K ++ R) (i + 1)) ∧ (i < K.length → j = i) ∧ (K.length ≤ i → K.length < j) := fun i g x hx => by
    rcases Nat.lt_or_ge i K.length with hl | hl
    · rw [List.getElem?_append_left hl] at hx
      refine ⟨i, by rw [List.getElem?_append_left hl]; exact hx, ?_, fun _ => rfl, fun h => by omega⟩
      split
      · rename_i e
        rw [nxt_app_r (by omega), e, Nat.sub_self]
      · rename_i e
        rw [nxt_app_l (by omega), nxt_app_l (by omega)]
    · rw [List.getElem?_append_right hl] at hx
      refine ⟨i + 1, ?_, ?_, fun h => by omega, fun _ => by omega⟩
      · rw [List.getElem?_append_right (by omega), show i + 1 - K.length = (i - K.length) + 1 by omega, List.getElem?_cons_succ]
        exact hx
      · rw [if_neg (by omega), nxt_app_r (by omega), nxt_app_r (by omega), show i + 1 + 1 - K.length = (i + 1 - K.length) + 1 by omega]
        rfl
  cases hK : K.length with
  | zero =>
    have e : K = [] := List.eq_nil_of_length_eq_zero hK
    subst e
    refine ⟨?_, fun i g x hx => ?_, hasc⟩
    · exact h.head.store 1 (.pointer (nxt R 0))
    · obtain ⟨j, h1, h2, _, _⟩ := hat i g x hx
      obtain ⟨h3, h4⟩ := h.nds.node j g x h1
      rw [h2, if_neg (by simp)] at h4
      exact ⟨h3, h4.apart (by show g ≠ c; omega) _⟩
  | succ l =>
    obtain ⟨⟨b, z⟩, hb⟩ : ∃ y, K[l]? = some y := ⟨_, List.getElem?_eq_getElem (by omega)⟩
    have hb' : (K ++ y :: R)[l]? = some (b, z) := by rw [List.getElem?_append_left (by omega)]; exact hb
    rw [lnk_succ hb']
    have hbc := (h.nds.node l b z hb').1
    refine ⟨?_, fun i g x hx => ?_, hasc⟩
    · have := h.head.apart (p := ⟨b, 3, none⟩) (by show c ≠ b; omega) (.pointer (nxt R 0))
      rw [nxt_app_l (by omega)] at this ⊢
      exact this
    · obtain ⟨j, h1, h2, h5, h6⟩ := hat i g x hx
      obtain ⟨h3, h4⟩ := h.nds.node j g x h1
      refine ⟨h3, ?_⟩
      by_cases hij : i = l
      · subst hij
        obtain rfl := h5 (by omega)
        rw [hb'] at h1
        cases h1
        have := h4.store 3 (.pointer (nxt R 0))
        rw [nxt_app_r (by omega), show j + 1 - K.length = 0 by omega]
        exact this
      · rw [h2, if_neg (by omega)] at h4
        refine h4.apart ?_ _
        show g ≠ b
        refine h.nds.ne h1 hb' ?_
        rcases Nat.lt_or_ge i K.length with hl | hl
        · rw [h5 hl]; exact hij
        · have := h6 hl; omega
/-- Flags changed. -/
theorem Chn.flag (h : Chn w c n X) (hx : X[i]? = some (g, m)) (f : Int) : Chn (w.setCell ⟨g, 1, none⟩ (.int .i64 f)) c n (X.set i (g, (m.1, f, m.2.2))) := by
  have hg := (h.nds.node i g m hx).1
  have hil := (List.getElem?_eq_some_iff.1 hx).1
  have hn : ∀ j, nxt (X.set i (g, (m.1, f, m.2.2))) j = nxt X j := fun j => by
    unfold nxt
    by_cases e : i = j
    · subst e
      rw [List.getElem?_set_self hil, hx]
      rfl
    · rw [List.getElem?_set_ne e]
  refine ⟨?_, fun j b x hj => ?_, ?_⟩
  · rw [hn]
    exact h.head.apart (by show c ≠ g; omega) _
  · rw [hn]
    by_cases e : i = j
    · subst e
      rw [List.getElem?_set_self hil] at hj
      cases hj
      exact ⟨hg, (h.nds.node i g m hx).2.store 1 (.int .i64 f)⟩
    · rw [List.getElem?_set_ne e] at hj
      exact ⟨(h.nds.node j b x hj).1, (h.nds.node j b x hj).2.apart (by show b ≠ g; exact h.nds.ne hj hx (fun e2 => e e2.symm)) _⟩
  · have e : (X.set i (g, (m.1, f, m.2.2))).map (·.1) = X.map (·.1) := by
      rw [List.map_set]
      refine List.ext_getElem? fun j => ?_
      by_cases e : i = j
      · subst e
        rw [List.getElem?_set_self (by simpa using hil), List.getElem?_map, hx]
        rfl
      · rw [List.getElem?_set_ne e]
    have h1 := List.pairwise_map.2 h.nds.asc
    rw [← e] at h1
    exact List.pairwise_map.1 h1
end
end Go.Proofs.Ytllhcogmcfgnoaa

namespace Go.Proofs.Ytllhcogmcfgnoaa
set_option linter.unusedVariables false

theorem asc_get {L : List ML} (h : Asc L) {i j : Nat} {a b : ML} (hij : i < j) (ha : L[i]? = some a) (hb : L[j]? = some b) : a.1 < b.1 := by
  obtain ⟨h1, rfl⟩ := List.getElem?_eq_some_iff.1 ha
  obtain ⟨h2, rfl⟩ := List.getElem?_eq_some_iff.1 hb
  exact List.pairwise_iff_getElem.1 h i j h1 h2 hij
theorem bOk_get {n : Int} {L : List ML} (h : bOk n L = true) {i : Nat} {a : ML} (ha : L[i]? = some a) : mOk a = true ∧ a.1 < n := (bOk_iff.1 h).1 a (List.mem_of_getElem? ha)

/-- Flags. -/
theorem chM_ok {m : ML} {h f : Int} (hm : mOk m = true) (hh : howB h = true) (hf : isF f = true) : mOk (chM h f m) = true := by
  obtain ⟨h1, h2, h3⟩ := mOk_iff.1 hm
  obtain ⟨a, ha, e⟩ := isF_nat h2
  obtain ⟨b, hb, rfl⟩ := isF_nat hf
  exact mOk_iff.2 ⟨h1, by unfold chM; rw [e]; exact isF_of (chN_lt ha hb hh), h3⟩
theorem flM_mem (P : List Int) (h f : Int) : ∀ {i : Nat} {L : List ML} {m : ML}, m ∈ flM P h f i L → ∃ x ∈ L, m = x ∨ m = chM h f x
  | _, [], m, hm => by cases hm
  | i, x :: r, m, hm => by
    rw [flM] at hm
    rcases List.mem_cons.1 hm with rfl | hm
    · refine ⟨x, by simp, ?_⟩
      split
      · exact .inr rfl
      · exact .inl rfl
    · obtain ⟨y, hy, e⟩ := flM_mem P h f hm
      exact ⟨y, by simp [hy], e⟩
theorem flM_fst (P : List Int) (h f : Int) : ∀ (i : Nat) (L : List ML), (flM P h f i L).map (·.1) = L.map (·.1)
  | _, [] => rfl
  | i, m :: r => by
    rw [flM, List.map_cons, List.map_cons, flM_fst]
    split <;> rfl
theorem asc_map {L : List ML} : Asc L ↔ (L.map (·.1)).Pairwise (· < ·) := by unfold Asc; rw [List.pairwise_map]
theorem flM_ok {n : Int} {L : List ML} {P : List Int} {h f : Int} (hb : bOk n L = true) (hh : howB h = true) (hf : isF f = true) : bOk n (flM P h f 1 L) = true := by
  obtain ⟨h1, h2, h3, h4, h5⟩ := bOk_iff.1 hb
  refine bOk_iff.2 ⟨fun m hm => ?_, by rw [asc_map, flM_fst, ← asc_map]; exact h2, h3, h4, by rw [flM_len]; exact h5⟩
  obtain ⟨x, hx, e⟩ := flM_mem P h f hm
  have := h1 x hx
  rcases e with rfl | rfl
  · exact this
  · exact ⟨chM_ok this.1 hh hf, this.2⟩
theorem chM_twice {m : ML} {h f : Int} (hm : mOk m = true) (hh : howB h = true) (hf : isF f = true) : chM h f (chM h f m) = chM h f m := by
  obtain ⟨_, h2, _⟩ := mOk_iff.1 hm
  obtain ⟨a, ha, e⟩ := isF_nat h2
  obtain ⟨b, hb, rfl⟩ := isF_nat hf
  unfold chM
  simp only [e, Int.toNat_natCast]
  rw [twice_law ha hb hh]
theorem flM_twice (P : List Int) {h f : Int} (hh : howB h = true) (hf : isF f = true) : ∀ (i : Nat) {L : List ML}, (∀ m ∈ L, mOk m = true) → flM P h f i (flM P h f i L) = flM P h f i L
  | _, [], _ => rfl
  | i, m :: r, hm => by
    rw [flM, flM, flM_twice P hh hf (i + 1) (fun x hx => hm x (by simp [hx]))]
    congr 1
    split
    · exact chM_twice (hm m (by simp)) hh hf
    · rfl
theorem plc_past {len : Nat} {P : List Int} : plc len 0 (P ++ [(len : Int) + 1]) = false := by
  rw [← Bool.not_eq_true, plc_iff]
  rintro ⟨h1, _⟩
  have := (h1 ((len : Int) + 1) (by simp)).2
  omega
theorem plc_twice {len : Nat} {P : List Int} : plc len 0 (P ++ P) = decide (P.length = 0) := by
  cases P with
  | nil => rfl
  | cons x P =>
    rw [decide_eq_false (by simp), ← Bool.not_eq_true, plc_iff]
    rintro ⟨_, h2⟩
    have := (List.pairwise_append.1 h2).2.2 x (by simp) x (by simp)
    omega

/-- Removal. -/
theorem kpM_ok {n : Int} {L : List ML} (h : bOk n L = true) : bOk n (kpM L) = true := bOk_sub h List.filter_sublist
theorem kpM_cons (m : ML) (r : List ML) : kpM (m :: r) = if dlM m then kpM r else m :: kpM r := by
  unfold kpM
  rw [List.filter_cons]
  cases dlM m <;> rfl
theorem kpM_twice (L : List ML) : kpM (kpM L) = kpM L := by unfold kpM; rw [List.filter_filter]; simp
theorem gnM_len : ∀ (k : Nat) (L : List ML), (kpM L).length + (gnM k L).length = L.length
  | _, [] => rfl
  | k, m :: r => by
    rw [kpM_cons, gnM]
    have h1 := gnM_len k r
    have h2 := gnM_len (k + 1) r
    cases dlM m
    · simp; omega
    · simp; omega
theorem gnM_none : ∀ {k : Nat} {L : List ML}, (∀ m ∈ L, dlM m = false) → gnM k L = [] ∧ kpM L = L
  | _, [], _ => ⟨rfl, rfl⟩
  | k, m :: r, h => by
    have hm := h m (by simp)
    obtain ⟨h1, h2⟩ := gnM_none (k := k + 1) (L := r) (fun x hx => h x (by simp [hx]))
    rw [gnM, hm, kpM_cons, hm]
    exact ⟨h1, by rw [if_neg (by simp), h2]⟩
theorem gnM_kept (L : List ML) (k : Nat) : gnM k (kpM L) = [] := (gnM_none fun m hm => by
  unfold kpM at hm
  have := (List.mem_filter.1 hm).2
  simpa using this).1
theorem gnM_split : ∀ {k g : Nat} {M : List ML} {G : List Nat}, gnM k M = g :: G → ∃ M1 m M2, M = M1 ++ m :: M2 ∧ kpM M1 = M1 ∧ dlM m = true ∧ g = k + M1.length + 1 ∧ G = gnM (k + M1.length) M2
  | k, g, [], G, h => by cases h
  | k, g, m :: r, G, h => by
    rw [gnM] at h
    cases hd : dlM m with
    | true =>
      rw [hd, if_pos rfl] at h
      cases h
      exact ⟨[], m, r, rfl, rfl, hd, rfl, rfl⟩
    | false =>
      rw [hd, if_neg (by simp)] at h
      obtain ⟨M1, x, M2, e, h1, h2, h3, h4⟩ := gnM_split h
      refine ⟨m :: M1, x, M2, by rw [e]; rfl, by rw [kpM_cons, hd, if_neg (by simp), h1], h2, by rw [List.length_cons]; omega, ?_⟩
      rw [h4, List.length_cons]
      congr 1
      omega
theorem gnM_nil : ∀ {k : Nat} {M : List ML}, gnM k M = [] → kpM M = M
  | k, [], _ => rfl
  | k, m :: r, h => by
    rw [gnM] at h
    cases hd : dlM m with
    | true => rw [hd, if_pos rfl] at h; cases h
    | false =>
      rw [hd, if_neg (by simp)] at h
      rw [kpM_cons, hd, if_neg (by simp), gnM_nil h]
theorem kpM_app (L M : List ML) : kpM (L ++ M) = kpM L ++ kpM M := by unfold kpM; rw [List.filter_append]
theorem gnM_app : ∀ (k : Nat) (L M : List ML), gnM k (L ++ M) = gnM k L ++ gnM (k + (kpM L).length) M
  | k, [], M => rfl
  | k, m :: r, M => by
    rw [List.cons_append, gnM, gnM, kpM_cons]
    cases dlM m
    · rw [if_neg (by simp), if_neg (by simp), if_neg (by simp), gnM_app (k + 1) r M, List.length_cons]
      congr 2
      omega
    · rw [if_pos rfl, if_pos rfl, if_pos rfl, gnM_app k r M]
      rfl
/-- The places as numbers. -/
def gnI (L : List ML) : List Int := (gnM 0 L).map fun (x : Nat) => (x : Int)
theorem kp_dl {L : List ML} {k : Nat} {x : ML} (hx : L[k]? = some x) (h : dlM x = true) : kpM (L.take (k + 1)) = kpM (L.take k) ∧ gnI (L.take (k + 1)) = gnI (L.take k) ++ [(((kpM (L.take k)).length + 1 : Nat) : Int)] := by
  rw [List.take_add_one, hx]
  refine ⟨?_, ?_⟩
  · show kpM (L.take k ++ [x]) = _
    rw [kpM_app, kpM_cons, h, if_pos rfl]
    exact List.append_nil _
  · show gnI (L.take k ++ [x]) = _
    unfold gnI
    rw [gnM_app, List.map_append, gnM, h, if_pos rfl, Nat.zero_add]
    rfl
theorem kp_no {L : List ML} {k : Nat} {x : ML} (hx : L[k]? = some x) (h : dlM x = false) : kpM (L.take (k + 1)) = kpM (L.take k) ++ [x] ∧ gnI (L.take (k + 1)) = gnI (L.take k) := by
  rw [List.take_add_one, hx]
  refine ⟨?_, ?_⟩
  · show kpM (L.take k ++ [x]) = _
    rw [kpM_app, kpM_cons, h, if_neg (by simp)]
    rfl
  · show gnI (L.take k ++ [x]) = _
    unfold gnI
    rw [gnM_app, List.map_append, gnM, h, if_neg (by simp)]
    exact List.append_nil _
theorem kpM_le (L : List ML) : (kpM L).length ≤ L.length := List.length_filter_le _ _
/-- One place removed. -/
theorem rm_step {K M : List ML} {g : Nat} {G : List Nat} (h : gnM K.length M = g :: G) : ∃ K2 M2, 1 ≤ g ∧ g ≤ (K ++ M).length ∧ (K ++ M).take (g - 1) ++ (K ++ M).drop g = K2 ++ M2 ∧ G = gnM K2.length M2 ∧ K ++ kpM M = K2 ++ kpM M2 := by
  obtain ⟨M1, m, M2, rfl, h1, h2, rfl, rfl⟩ := gnM_split h
  have e : K ++ (M1 ++ m :: M2) = (K ++ M1) ++ m :: M2 := by rw [List.append_assoc]
  have hl : K.length + M1.length = (K ++ M1).length := by rw [List.length_append]
  refine ⟨K ++ M1, M2, by omega, by rw [e, List.length_append, List.length_cons, ← hl]; omega, ?_, by rw [hl], ?_⟩
  · rw [e, show K.length + M1.length + 1 - 1 = (K ++ M1).length by omega, List.take_left, hl]
    congr 1
    rw [← List.drop_drop, List.drop_left]
    rfl
  · rw [kpM_app, h1, kpM_cons, h2, if_pos rfl, List.append_assoc]
theorem dl_removed {m : ML} (hm : mOk m = true) : dlM (chM (-1) 8 m) = false := by
  obtain ⟨_, h2, _⟩ := mOk_iff.1 hm
  obtain ⟨a, ha, e⟩ := isF_nat h2
  unfold dlM chM
  simp only [e, Int.toNat_natCast]
  have key : ∀ a : Fin 32, tb (chN a.1 (-1) 8) 3 = false := by decide +kernel
  exact key ⟨a, ha⟩
/-- All places. -/
def upL (n : Nat) : List Int := (List.range n).map fun i => ((i + 1 : Nat) : Int)
theorem upL_has {n k : Nat} : (upL n).contains ((1 + k : Nat) : Int) = decide (k < n) := by
  unfold upL
  rw [Bool.eq_iff_iff, List.contains_iff_mem, List.mem_map, decide_eq_true_eq]
  constructor
  · rintro ⟨i, hi, e⟩
    have := List.mem_range.1 hi
    omega
  · intro h
    exact ⟨k, List.mem_range.2 h, by omega⟩
theorem upL_plc (n : Nat) : plc n 0 (upL n) = true := by
  rw [plc_iff]
  unfold upL
  refine ⟨fun x hx => ?_, ?_⟩
  · obtain ⟨i, hi, rfl⟩ := List.mem_map.1 hx
    have := List.mem_range.1 hi
    omega
  · rw [List.pairwise_map]
    exact List.pairwise_lt_range.imp fun h => by omega
theorem upL_succ (n : Nat) : upL (n + 1) = upL n ++ [((n + 1 : Nat) : Int)] := by unfold upL; rw [List.range_succ, List.map_append]; rfl
theorem upL_len (n : Nat) : (upL n).length = n := by unfold upL; simp
theorem flM_all {L : List ML} (hm : ∀ m ∈ L, mOk m = true) : ∀ m ∈ flM (upL L.length) (-1) 8 1 L, dlM m = false := by
  intro m hm'
  obtain ⟨k, hk⟩ := List.mem_iff_getElem?.1 hm'
  have hkl : k < L.length := by have := (List.getElem?_eq_some_iff.1 hk).1; rw [flM_len] at this; exact this
  rw [flM_get _ _ _ 1 k L L[k] (List.getElem?_eq_getElem hkl), upL_has, decide_eq_true hkl, if_pos rfl] at hk
  rw [← Option.some.inj hk]
  exact dl_removed (hm _ (List.getElem_mem _))

/-- Copies. -/
def nbM : Int → List ML → List ML
  | _, [] => []
  | n, m :: r => (n, m.2.1, m.2.2) :: nbM (n + 1) r
theorem nbM_len : ∀ (n : Int) (X : List ML), (nbM n X).length = X.length
  | _, [] => rfl
  | n, m :: r => by rw [nbM, List.length_cons, nbM_len, List.length_cons]
theorem nbM_get : ∀ (n : Int) (k : Nat) (X : List ML) (m : ML), X[k]? = some m → (nbM n X)[k]? = some (n + (k : Int), m.2.1, m.2.2)
  | n, k, [], m, h => by simp at h
  | n, 0, x :: r, m, h => by
    simp at h
    subst h
    rw [nbM]
    simp
  | n, k + 1, x :: r, m, h => by
    rw [nbM, List.getElem?_cons_succ, nbM_get (n + 1) k r m (by simpa using h)]
    rw [show n + 1 + (k : Int) = n + ((k + 1 : Nat) : Int) by omega]
theorem cpA_some : ∀ {X M M' : List ML} {n n' : Int}, cpA n M X = some (n', M') → n' = n + X.length ∧ M' = M ++ nbM n X
  | [], M, M', n, n', h => by
    rw [cpA] at h
    cases h
    exact ⟨by simp, by rw [nbM, List.append_nil]⟩
  | m :: r, M, M', n, n', h => by
    rw [cpA] at h
    split at h
    · cases h
    · obtain ⟨h1, h2⟩ := cpA_some h
      refine ⟨by rw [h1, List.length_cons]; omega, ?_⟩
      rw [h2, nbM, List.append_assoc]
      rfl
theorem cpA_none : ∀ {X M : List ML} {n : Int}, cpA n M X = none → 10 < M.length + X.length ∨ 100 < n + X.length
  | [], M, n, h => by rw [cpA] at h; cases h
  | m :: r, M, n, h => by
    rw [cpA] at h
    split at h
    · rename_i hc
      rw [List.length_cons]
      omega
    · have := cpA_none h
      rw [List.length_append, List.length_singleton] at this
      rw [List.length_cons]
      omega
theorem atM_len (L : List ML) (P : List Int) : (atM L P).length = P.length := by unfold atM; rw [List.length_map]
theorem atM_get {L : List ML} {P : List Int} {i : Nat} {x : Int} (hx : P[i]? = some x) {m : ML} (hm : L[x.toNat - 1]? = some m) : (atM L P)[i]? = some m := by
  unfold atM
  rw [List.getElem?_map, hx]
  show some (L.getD (x.toNat - 1) (0, 0, [])) = some m
  rw [List.getD_eq_getElem?_getD, hm]
  rfl

/-- Numbers. -/
theorem udM_all : ∀ {U : List Int} {i : Nat} {L : List ML}, (∀ m ∈ L, m.1 ∈ U) → udM U i L = (List.range L.length).map fun j => i + j
  | U, i, [], _ => rfl
  | U, i, m :: r, h => by
    have hm : U.contains m.1 = true := List.contains_iff_mem.2 (h m (by simp))
    rw [udM, hm, if_pos rfl, udM_all (fun x hx => h x (by simp [hx])), List.length_cons, List.range_succ_eq_map, List.map_cons, List.map_map]
    congr 1
    refine List.map_congr_left fun j _ => ?_
    show i + 1 + j = i + (j + 1)
    omega

/-- Sizes. -/
theorem szM_app (L M : List ML) : szM (L ++ M) = szM L + szM M := by unfold szM; rw [List.map_append, List.sum_append]
theorem szM_split (L : List ML) (k : Nat) : szM (L.take k) + szM (L.drop k) = szM L := by rw [← szM_app, List.take_append_drop]
theorem szM_le {L : List ML} (h : ∀ m ∈ L, m.2.2.length ≤ 20) : szM L ≤ 20 * L.length := by
  induction L with
  | nil => exact Nat.zero_le _
  | cons m r ih =>
    have h1 := h m (by simp)
    have h2 := ih (fun x hx => h x (by simp [hx]))
    unfold szM at h2 ⊢
    rw [List.map_cons, List.sum_cons, List.length_cons]
    omega
end Go.Proofs.Ytllhcogmcfgnoaa

namespace Go.Proofs.Ytllhcogmcfgnoaa
open Go.RowKit
set_option linter.unusedVariables false

set_option maxHeartbeats 1000000 in
theorem spec_mail (u f : Int) (t : List UInt8) (w : World) : Calls Try.prog 32 #[.agg #[.int .i64 u, .int .i64 f, .string (sB t)]] w (SaysB w (mOk (u, f, t))) := by
  have hW := Whole.made w 49 #[.int .i64 u, .int .i64 f, .string (sB t)]
  have c0 : (w.alloc (.cells #[.int .i64 u, .int .i64 f, .string (sB t)] 49)).cell? ⟨w.heap.size, 0, none⟩ = some (.int .i64 u) := hW.cell 0
  have c1 : (w.alloc (.cells #[.int .i64 u, .int .i64 f, .string (sB t)] 49)).cell? ⟨w.heap.size, 1, none⟩ = some (.int .i64 f) := hW.cell 1
  have c2 : (w.alloc (.cells #[.int .i64 u, .int .i64 f, .string (sB t)] 49)).cell? ⟨w.heap.size, 2, none⟩ = some (.string (sB t)) := hW.cell 2
  have HB := Lib.hid ((Below.refl w.heap.size w).alloc (Nat.le_refl _) (.cells #[.int .i64 u, .int .i64 f, .string (sB t)] 49))
  have hsz := sB_size t
  obtain ⟨v, hv⟩ : ∃ v, sB t = v := ⟨_, rfl⟩
  rw [hv] at c0 c1 c2 hsz HB ⊢
  clear hW hv
  have HM : Hid (mOk (u, f, t) = ((decide (1 ≤ u) && decide (u ≤ 99)) && isF f && decide (v.size ≤ 20))) := by
    show _ = _
    rw [hsz]
    rfl
  clear hsz
  cases h1 : (decide (1 ≤ u) && decide (u ≤ 99)) with
  | false =>
    have H1 := Lib.hid h1
    clear h1
    go_enter Try.func32, Try.ntmps32
    go_wp2_with fail
    refine (spec_in u 1 99 _).mono ?_
    rintro e w0 ⟨rfl, hw0⟩
    subst w0
    rw [H1.out]
    go_wp2
    go_ret
    exact ⟨ret_bool (by rw [HM.out, H1.out]; rfl), HB.out⟩
  | true =>
    have H1 := Lib.hid h1
    clear h1
    cases h2 : isF f with
    | false =>
      have H2 := Lib.hid h2
      clear h2
      go_enter Try.func32, Try.ntmps32
      go_wp2_with fail
      refine (spec_in u 1 99 _).mono ?_
      rintro e w0 ⟨rfl, hw0⟩
      subst w0
      rw [H1.out]
      go_wp2_with fail
      refine (spec_isflags f _).mono ?_
      rintro e w0 ⟨rfl, hw0⟩
      subst w0
      rw [H2.out]
      go_wp2
      go_ret
      exact ⟨ret_bool (by rw [HM.out, H1.out, H2.out]; rfl), HB.out⟩
    | true =>
      have H2 := Lib.hid h2
      clear h2
      by_cases h3 : v.size ≤ 20
      · have h3' : (v.size : Int) ≤ 20 := by omega
        have H3 := Lib.hid (decide_eq_true h3)
        clear h3
        go_enter Try.func32, Try.ntmps32
        go_wp2_with fail
        refine (spec_in u 1 99 _).mono ?_
        rintro e w0 ⟨rfl, hw0⟩
        subst w0
        rw [H1.out]
        go_wp2_with fail
        refine (spec_isflags f _).mono ?_
        rintro e w0 ⟨rfl, hw0⟩
        subst w0
        rw [H2.out]
        go_wp2
        go_ret
        exact ⟨ret_bool (by rw [HM.out, H1.out, H2.out, H3.out]; rfl), HB.out⟩
      · have h3' : ¬ (v.size : Int) ≤ 20 := by omega
        have H3 := Lib.hid (decide_eq_false h3)
        clear h3
        go_enter Try.func32, Try.ntmps32
        go_wp2_with fail
        refine (spec_in u 1 99 _).mono ?_
        rintro e w0 ⟨rfl, hw0⟩
        subst w0
        rw [H1.out]
        go_wp2_with fail
        refine (spec_isflags f _).mono ?_
        rintro e w0 ⟨rfl, hw0⟩
        subst w0
        rw [H2.out]
        go_wp2
        go_ret
        exact ⟨ret_bool (by rw [HM.out, H1.out, H2.out, H3.out, decide_eq_false (p := (v.size : Int) ≤ 20) (by omega)]; rfl), HB.out⟩

theorem chk_yes {u f l : Int} {t : List UInt8} {r : List ML} (h1 : mOk (u, f, t) = true) (h2 : l < u) : chk l ((u, f, t) :: r) = chk u r := by rw [chk, if_pos (by rw [h1, decide_eq_true h2]; rfl)]
theorem chk_no {u f l : Int} {t : List UInt8} {r : List ML} (h : mOk (u, f, t) = false ∨ ¬ l < u) : chk l ((u, f, t) :: r) = none := by
  rw [chk, if_neg]
  rw [Bool.and_eq_true, decide_eq_true_eq]
  rintro ⟨h1, h2⟩
  rcases h with h | h
  · rw [h] at h1; cases h1
  · exact h h2
theorem drop_at {α : Type} {L : List α} {k : Nat} {x : α} (h : L[k]? = some x) : L.drop k = x :: L.drop (k + 1) := by
  obtain ⟨hk, rfl⟩ := List.getElem?_eq_some_iff.1 h
  exact List.drop_eq_getElem_cons hk
theorem bOk_none {n : Int} {L : List ML} (h : chk 0 L = none) : bOk n L = false := by unfold bOk; rw [h]
theorem bOk_some {n z : Int} {L : List ML} (h : chk 0 L = some z) : bOk n L = ((decide (z + 1 ≤ n) && decide (n ≤ 100)) && decide (L.length ≤ 10)) := by unfold bOk; rw [h]

set_option maxRecDepth 20000 in
set_option maxHeartbeats 4000000 in
theorem spec_boxvalid (n : Int) (A : Option Addr) (N cap : Nat) (L : List ML) (w : World) (hN : L.length = N) (h : RAt mailR w A L) (hl : N ≤ 33554432) :
    Calls Try.prog 17 #[.agg #[.int .i64 n, .slice A N cap]] w (SaysB w (bOk n L)) := by
  have HN := Lib.hid hN
  have HB0 := Lib.hid ((Below.refl w.heap.size w).alloc (Nat.le_refl _) (.cells #[.int .i64 n, .slice A N cap] 25))
  obtain ⟨w1, hw1⟩ : ∃ w1, w.alloc (.cells #[.int .i64 n, .slice A N cap] 25) = w1 := ⟨_, rfl⟩
  have hW := Whole.made w 25 #[.int .i64 n, .slice A N cap]
  rw [hw1] at hW HB0
  have hz1 : w.heap.size < w1.heap.size := hW.lt
  have HW := Lib.hid hW
  have HR := Lib.hid (h.below HB0.out (Nat.le_refl _))
  have HW1 := Lib.hid hw1
  clear hN h hW hw1
  go_enter Try.func17, Try.ntmps17
  go_wp2
  rw [HW1.out]
  go_loopw [3, 4] (fun l i wr => ∃ (k : Nat) (z : Int), k ≤ N ∧ 0 ≤ z ∧ z ≤ 99 ∧ l = .int .i64 z ∧ i = .int .i64 (k : Int) ∧ Hid (Below w1.heap.size w1 wr) ∧ Hid (chk 0 L = chk z (L.drop k))) (fun _ i _ => N - (intOf i).toNat)
  case atStart => exact ⟨0, 0, Nat.zero_le _, by omega, by omega, by go_num, by go_num, Below.refl _ _, rfl⟩
  case round =>
    obtain ⟨k, z, hk, z0, z9, rfl, rfl, HB, HK⟩ := hrel
    have hW := HW.out.below HB.out hz1
    have b0 := hW.cell 0
    have b1 := hW.cell 1
    simp at b0 b1
    have HBT := Lib.hid (HB0.out.trans (HB.out.mono (Nat.le_of_lt hz1)))
    clear hW
    by_cases hlt : k < N
    · have h0 : (0 : Int) ≤ (k : Int) := by omega
      have h5 : (k : Int) < (N : Int) := by omega
      obtain ⟨⟨u, f, t⟩, hx⟩ : ∃ x, L[k]? = some x := ⟨_, List.getElem?_eq_getElem (by rw [HN.out]; exact hlt)⟩
      obtain ⟨b, o, rfl, hb, c0, c1, c2⟩ := mail_at (HR.out.below HB.out (Nat.le_refl _)) hx
      have HD := Lib.hid (drop_at hx)
      clear hx
      cases hm : mOk (u, f, t) with
      | false =>
        have HM := Lib.hid hm
        clear hm
        go_wp2_with fail
        refine (spec_mail u f t _).mono ?_
        rintro e w2 ⟨rfl, hb2⟩
        have HB2 := Lib.hid (HBT.out.trans (hb2.mono HBT.out.size))
        clear hb2
        rw [HM.out]
        go_wp2
        go_ret
        exact ⟨ret_bool (by rw [bOk_none (by rw [HK.out, HD.out, chk_no (.inl HM.out)])]), HB2.out⟩
      | true =>
        have HM := Lib.hid hm
        have hu := (mOk_iff.1 hm).1
        clear hm
        go_wp2_with fail
        refine (spec_mail u f t _).mono ?_
        rintro e w2 ⟨rfl, hb2⟩
        have HB2 := Lib.hid (HBT.out.trans (hb2.mono HBT.out.size))
        have HB2' := Lib.hid (HB.out.trans (hb2.mono HB.out.size))
        have b1' := (hb2.cell (p := ⟨w.heap.size, 1, none⟩) (by simp; exact Nat.lt_of_lt_of_le hz1 HB.out.size)).trans b1
        have c0' := (hb2.cell (p := ⟨b, o + k * 3, none⟩) (by simp; exact hb)).trans c0
        clear hb2
        rw [HM.out]
        by_cases hul : z < u
        · have hul' : ¬ u ≤ z := by omega
          go_wp2
          go_roundw
          case rel => exact ⟨k + 1, u, by omega, by omega, by omega, rfl, by go_num, HB2'.out, HK.out.trans ((congrArg (chk z) HD.out).trans (chk_yes HM.out (by omega)))⟩
          case measure => simp [intOf]; omega
        · have hul' : u ≤ z := by omega
          go_wp2
          go_ret
          exact ⟨ret_bool (by rw [bOk_none (by rw [HK.out, HD.out, chk_no (.inr (by omega))])]), HB2.out⟩
    · have h5 : ¬ (k : Int) < (N : Int) := by omega
      have hkk : L.drop k = [] := List.drop_eq_nil_of_le (by rw [HN.out]; omega)
      have HKK : Hid (chk 0 L = some z) := by show _ = _; rw [HK.out, hkk]; rfl
      have W1 : IntKind.i64.wrap (z + 1) = z + 1 := IntWalk.i64_in _ (by omega)
      clear hkk
      cases hi : (decide (z + 1 ≤ n) && decide (n ≤ 100)) with
      | false =>
        have HI := Lib.hid hi
        clear hi
        go_wp2_with fail
        refine (spec_in n (z + 1) 100 _).mono ?_
        rintro e w2 ⟨rfl, hw2⟩
        subst w2
        rw [HI.out]
        go_wp2
        go_ret
        exact ⟨ret_bool (by rw [bOk_some HKK.out, HI.out]; rfl), HBT.out⟩
      | true =>
        have HI := Lib.hid hi
        clear hi
        by_cases h10 : N ≤ 10
        · have h10' : (N : Int) ≤ 10 := by omega
          go_wp2_with fail
          refine (spec_in n (z + 1) 100 _).mono ?_
          rintro e w2 ⟨rfl, hw2⟩
          subst w2
          rw [HI.out]
          go_wp2
          go_ret
          exact ⟨ret_bool (by rw [bOk_some HKK.out, HI.out, HN.out, decide_eq_true h10]; rfl), HBT.out⟩
        · have h10' : ¬ (N : Int) ≤ 10 := by omega
          go_wp2_with fail
          refine (spec_in n (z + 1) 100 _).mono ?_
          rintro e w2 ⟨rfl, hw2⟩
          subst w2
          rw [HI.out]
          go_wp2
          go_ret
          exact ⟨ret_bool (by rw [bOk_some HKK.out, HI.out, HN.out, decide_eq_false h10, decide_eq_false (p := (N : Int) ≤ 10) (by omega)]; rfl), HBT.out⟩
end Go.Proofs.Ytllhcogmcfgnoaa

namespace Go.Proofs.Ytllhcogmcfgnoaa
open Go.RowKit
set_option linter.unusedVariables false

set_option maxRecDepth 20000 in
set_option maxHeartbeats 4000000 in
theorem spec_copy (n : Int) (A : Option Addr) (N cap : Nat) (L : List ML) (w : World) (h : MIn w A N cap L) :
    Calls Try.prog 21 #[.agg #[.int .i64 n, .slice A N cap]] w (GivesB w n L) := by
  obtain ⟨i0, hi, hq0, hq1, hq2⟩ := info_parts Try.infoMail
  obtain ⟨hN, hl, hat, hA, hsp⟩ := h
  obtain ⟨B, hB⟩ : ∃ B, w.heap.size = B := ⟨_, rfl⟩
  have H1 := Whole.made w 25 #[.int .i64 n, .slice A N cap]
  have H2 := (H1.alloc (.cells #[.int .i64 0, .slice none 0 0] 25)).alloc (.cells #[] 49)
  have H3 := (Whole.made (w.alloc (.cells #[.int .i64 n, .slice A N cap] 25)) 25 #[.int .i64 0, .slice none 0 0]).alloc (.cells #[] 49)
  have hown := ROwn.lit (R := mailR) (B := B + 1 + 1) ((w.alloc (.cells #[.int .i64 n, .slice A N cap] 25)).alloc (.cells #[.int .i64 0, .slice none 0 0] 25)) (B + 1 + 1) (by simp [hB]) (by simp [hB])
  have hbel := (((Below.refl w.heap.size w).alloc (Nat.le_refl _) (.cells #[.int .i64 n, .slice A N cap] 25)).alloc (by simp) (.cells #[.int .i64 0, .slice none 0 0] 25)).alloc (by simp; omega) (.cells #[] 49)
  have hat3 := hat.below hbel (Nat.le_refl _)
  rw [show (w.alloc (.cells #[.int .i64 n, .slice A N cap] 25)).heap.size = B + 1 by simp [hB]] at H3
  rw [hB] at H2 hbel
  have hml : 0 + N ≤ maxLen := by unfold maxLen; omega
  have hby : (0 + N) * 32 ≤ 140737488355328 := by omega
  go_enter Try.func21, Try.ntmps21
  go_wp2_with (at_builtin; refine wpList_append_rows rfl _ _ 23 rfl mailR (B + 1 + 1) i0 _ 32 Try.underlying23 hi hq0 hq1 hq2 rfl (by decide) _ [] L 0 rfl rfl hown A N cap rfl hN hat3 hA hsp hml hby (by simp [hB]) ?_)
  intro v' w4 hown4 hgrow hnn
  obtain ⟨A', N', cap', rfl⟩ := hown4.val
  have K2 := H2.grown hgrow (by simp [Value.ownBlock] <;> omega)
  have K3 := H3.grown hgrow (by simp [Value.ownBlock] <;> omega)
  have hb4 := hbel.grown hgrow (by simp [hB]; omega) (fun z hz => by simp [Value.ownBlock] at hz; omega)
  have b0 := K2.cell 0
  have b1 := K2.cell 1
  have r0 := K3.cell 0
  have r1 := K3.cell 1
  simp at b0 b1 r0 r1
  have f0 := K2.free 0
  have f1 := K2.free 1
  have g0 := K3.free 0
  have g1 := K3.free 1
  have HO := Lib.hid hown4
  have HB4 := Lib.hid hb4
  clear hown hown4 hgrow hb4 H2 H3 K2 K3 hbel hat3 hat hnn H1
  go_wp2
  refine bodyPost_ret (v := .agg #[.int .i64 n, .slice A' N' cap']) (by simp [results, Try.results21, go_sem, r0, r1]) rfl ?_
  have n1 : (Value.slice A' N' cap').ownBlock ≠ some B := HO.out.base B (by omega)
  have n2 : (Value.slice A' N' cap').ownBlock ≠ some (B + 1) := HO.out.base (B + 1) (by omega)
  refine ⟨A', N', cap', rfl, ?_, ?_⟩
  · rw [hB]
    exact (((HO.out.store (p := ⟨B, 1, none⟩) n1 _).store (p := ⟨B + 1, 0, none⟩) n2 _).store (p := ⟨B + 1, 1, none⟩) n2 _).from (by omega)
  · rw [hB]
    exact ((HB4.out.setCell (p := ⟨B, 1, none⟩) (Nat.le_refl _) _).setCell (p := ⟨B + 1, 0, none⟩) (Nat.le_succ _) _).setCell (p := ⟨B + 1, 1, none⟩) (Nat.le_succ _) _

theorem give_two {w w' : World} {B N cap : Nat} {A : Option Addr} {n : Int} {L : List ML} {b : Bool} {u u2 : Value} (hB : w.heap.size = B) (ho : ROwn mailR w' (B + 1 + 1) (.slice A N cap) L) (hb : Below B w w') :
    GivesBB w n L b (.returned (.tuple #[.agg #[.int .i64 n, .slice A N cap], .bool b])) ((w'.setCell ⟨B + 1, 0, none⟩ u).setCell ⟨B + 1, 1, none⟩ u2) := by
  refine ⟨A, N, cap, rfl, ?_, ?_⟩
  · rw [hB]
    exact ((ho.store (p := ⟨B + 1, 0, none⟩) (ho.base (B + 1) (by omega)) _).store (p := ⟨B + 1, 1, none⟩) (ho.base (B + 1) (by omega)) _).from (by omega)
  · rw [hB]
    exact (hb.setCell (p := ⟨B + 1, 0, none⟩) (Nat.le_succ _) _).setCell (p := ⟨B + 1, 1, none⟩) (Nat.le_succ _) _
theorem box_zero (w : World) (B : Nat) : ROwn mailR w B (.slice none 0 0) [] := ROwn.nil w B
set_option maxRecDepth 20000 in
set_option maxHeartbeats 8000000 in
theorem spec_add (n : Int) (A : Option Addr) (N cap : Nat) (L : List ML) (f : Int) (t : List UInt8) (w : World) (h : MIn w A N cap L) (hn : -1000 ≤ n) :
    Calls Try.prog 34 #[.agg #[.int .i64 n, .slice A N cap], .int .i64 f, .string (sB t)] w (GivesBB w (bxAdd n L f t).1 (bxAdd n L f t).2.1 (bxAdd n L f t).2.2) := by
  obtain ⟨i0, hi, hq0, hq1, hq2⟩ := info_parts Try.infoMail
  obtain ⟨B, hB⟩ : ∃ B, w.heap.size = B := ⟨_, rfl⟩
  have HNL := Lib.hid h.1
  have H1 := (Whole.made w 25 #[.int .i64 n, .slice A N cap]).alloc (.cells #[.int .i64 0, .slice none 0 0] 25)
  have H2 := Whole.made (w.alloc (.cells #[.int .i64 n, .slice A N cap] 25)) 25 #[.int .i64 0, .slice none 0 0]
  rw [show (w.alloc (.cells #[.int .i64 n, .slice A N cap] 25)).heap.size = B + 1 by simp [hB]] at H2
  rw [hB] at H1
  have hbel := ((Below.refl w.heap.size w).alloc (Nat.le_refl _) (.cells #[.int .i64 n, .slice A N cap] 25)).alloc (by simp) (.cells #[.int .i64 0, .slice none 0 0] 25)
  have h2 := h.below hbel (Nat.le_refl _)
  rw [hB] at hbel
  have hsz : ((w.alloc (.cells #[.int .i64 n, .slice A N cap] 25)).alloc (.cells #[.int .i64 0, .slice none 0 0] 25)).heap.size = B + 1 + 1 := by simp [hB]
  obtain ⟨v, hv⟩ : ∃ v, sB t = v := ⟨_, rfl⟩
  have HV := Lib.hid hv
  rw [hv]
  clear hv
  have HI := Lib.hid h2
  have K1 := Lib.hid H1
  have K2 := Lib.hid H2
  have HB0 := Lib.hid hbel
  have HSZ := Lib.hid hsz
  have hNl := h.2.1
  clear H1 H2 hbel h2 h hsz
  go_enter Try.func34, Try.ntmps34
  go_wp2_with fail
  refine (spec_copy n A N cap L _ HI.out).mono ?_
  rintro e w2 ⟨A1, N1, cap1, rfl, hown, hb⟩
  rw [HSZ.out] at hown hb
  have hN1 : N1 = N := by have := hown.len.1; have := HNL.out; omega
  subst hN1
  have hc1 : N1 ≤ cap1 ∧ cap1 ≤ maxLen := hown.len.2
  obtain ⟨C, hC⟩ : ∃ C, w2.heap.size = C := ⟨_, rfl⟩
  have hCB : B + 1 + 1 ≤ C := by have := hb.size; rw [HSZ.out, hC] at this; exact this
  have J1 := (K1.out.below hb (by omega)).alloc (.cells #[.int .i64 n, .slice A1 N1 cap1] 25)
  have J2 := (K2.out.below hb (by omega)).alloc (.cells #[.int .i64 n, .slice A1 N1 cap1] 25)
  have J3 := Whole.made w2 25 #[.int .i64 n, .slice A1 N1 cap1]
  have hb3 := (HB0.out.trans (hb.mono (by omega))).alloc (show B ≤ w2.heap.size by omega) (.cells #[.int .i64 n, .slice A1 N1 cap1] 25)
  have HO := Lib.hid (hown.alloc (.cells #[.int .i64 n, .slice A1 N1 cap1] 25))
  have HNE := Lib.hid hown.ne
  rw [hC] at J3 HNE
  have b0 := J1.cell 0
  have b1 := J1.cell 1
  have r0 := J2.cell 0
  have r1 := J2.cell 1
  have d0 := J3.cell 0
  have d1 := J3.cell 1
  simp at b0 b1 r0 r1 d0 d1
  have g0 := J2.free 0
  have g1 := J2.free 1
  have HB3 := Lib.hid hb3
  have HJ1 := Lib.hid J1
  have HJ2 := Lib.hid J2
  have HJ3 := Lib.hid J3
  clear hb3 hb hown J1 J2 J3
  by_cases hfull : 10 ≤ N1 ∨ 99 < n
  · have HR : Hid (bxAdd n L f t = (n, L, false)) := by show _ = _; unfold bxAdd; rw [HNL.out, if_pos hfull]
    rw [HR.out]
    by_cases h10 : 10 ≤ N1
    · have h10' : (10 : Int) ≤ (N1 : Int) := by omega
      clear hfull
      go_wp2
      refine bodyPost_ret (v := .tuple #[.agg #[.int .i64 n, .slice A1 N1 cap1], .bool false]) (by simp [results, Try.results34, go_sem, r0, r1]) rfl ?_
      rw [HR.out]
      exact give_two hB HO.out HB3.out
    · have h10' : ¬ (10 : Int) ≤ (N1 : Int) := by omega
      have h99 : (99 : Int) < n := by omega
      clear hfull
      go_wp2
      refine bodyPost_ret (v := .tuple #[.agg #[.int .i64 n, .slice A1 N1 cap1], .bool false]) (by simp [results, Try.results34, go_sem, r0, r1]) rfl ?_
      rw [HR.out]
      exact give_two hB HO.out HB3.out
  · have HR : Hid (bxAdd n L f t = (n + 1, L ++ [(n, f, t)], true)) := by show _ = _; unfold bxAdd; rw [HNL.out, if_neg hfull]
    have h10' : ¬ (10 : Int) ≤ (N1 : Int) := by omega
    have h99 : ¬ (99 : Int) < n := by omega
    have W1 : IntKind.i64.wrap (n + 1) = n + 1 := IntWalk.i64_in _ (by omega)
    clear hfull
    have hz3 : (w2.alloc (.cells #[.int .i64 n, .slice A1 N1 cap1] 25)).heap.size = C + 1 := by simp [hC]
    have HZ3 := Lib.hid hz3
    have hnew : RAt mailR ((w2.alloc (.cells #[.int .i64 n, .slice A1 N1 cap1] 25)).alloc (.cells #[.int .i64 n, .int .i64 f, .string v] 49)) (some ⟨C + 1, 0, none⟩) [(n, f, t)] := by
      rw [← HV.out]
      exact RAt.made mailR (w2.alloc (.cells #[.int .i64 n, .slice A1 N1 cap1] 25)) [(n, f, t)] (C + 1) hz3
    have hown := HO.out.alloc (.cells #[.int .i64 n, .int .i64 f, .string v] 49)
    have hml : N1 + 1 ≤ maxLen := by unfold maxLen; omega
    have hby : (N1 + 1) * 32 ≤ 140737488355328 := by omega
    have hba : B + 1 + 1 ≤ ((w2.alloc (.cells #[.int .i64 n, .slice A1 N1 cap1] 25)).alloc (.cells #[.int .i64 n, .int .i64 f, .string v] 49)).heap.size := by simp [hC]; omega
    clear hz3
    go_wp2_with (at_builtin; refine wpList_append_rows rfl _ _ 23 rfl mailR (B + 1 + 1) i0 _ 32 Try.underlying23 hi hq0 hq1 hq2 rfl (by decide) _ L [(n, f, t)] N1 HNL.out rfl hown (some ⟨C + 1, 0, none⟩) 1 1 rfl rfl hnew (fun e => by cases e) (fun q e => by cases e; rfl) hml hby hba ?_)
    intro v' w5 hown5 hgrow hnn
    obtain ⟨A2, N2, cap2, rfl⟩ := hown5.val
    have M1 := (HJ1.out.alloc (.cells #[.int .i64 n, .int .i64 f, .string v] 49)).grown hgrow (fun e => HO.out.base B (by omega) e.symm)
    have M2 := (HJ2.out.alloc (.cells #[.int .i64 n, .int .i64 f, .string v] 49)).grown hgrow (fun e => HO.out.base (B + 1) (by omega) e.symm)
    have M3 := (HJ3.out.alloc (.cells #[.int .i64 n, .int .i64 f, .string v] 49)).grown hgrow (fun e => HNE.out e.symm)
    have hb5 := (HB3.out.alloc (by simp [hC]; omega) (.cells #[.int .i64 n, .int .i64 f, .string v] 49)).grown hgrow (by simp [hC]; omega) (fun z hz => by
      rcases Nat.lt_or_ge z B with h | h
      · exact absurd hz (HO.out.base z (by omega))
      · exact h)
    have b0' := M1.cell 0
    have r0' := M2.cell 0
    have r1' := M2.cell 1
    have d0' := M3.cell 0
    have d1' := M3.cell 1
    simp at b0' r0' r1' d0' d1'
    have g0' := M2.free 0
    have g1' := M2.free 1
    have k0' := M3.free 0
    have k1' := M3.free 1
    have HO5 := Lib.hid hown5
    have HB5 := Lib.hid hb5
    have HN5 := Lib.hid (hown5.whole M3 (by decide))
    have hCB' : ¬ C = B := by omega
    have hCB'' : ¬ C = B + 1 := by omega
    clear hown5 hgrow hb5 M1 M2 M3 hown hnew hml hby hba hnn b0 b1 r0 r1 d0 d1 g0 g1
    go_wp2
    refine bodyPost_ret (v := .tuple #[.agg #[.int .i64 (n + 1), .slice A2 N2 cap2], .bool true]) (by simp [results, Try.results34, go_sem, r0', r1']) rfl ?_
    rw [HR.out]
    refine give_two hB ?_ ?_
    · exact (HO5.out.store (p := ⟨C, 1, none⟩) HN5.out _).store (p := ⟨C, 0, none⟩) HN5.out _
    · exact (HB5.out.setCell (p := ⟨C, 1, none⟩) (by simp; omega) _).setCell (p := ⟨C, 0, none⟩) (by simp; omega) _

/-- BoxAppend of the model. -/
def bxR (n : Int) (L : List ML) (f : Int) (t : List UInt8) : Int × List ML × Bool := bxAp n L f t
theorem bxAp_no {n : Int} {L : List ML} {f : Int} {t : List UInt8} (h : (bOk n L && isF f && decide (t.length ≤ 20)) = false) : bxAp n L f t = (0, [], false) := by unfold bxAp; rw [h]; rfl
theorem bxAp_go {n : Int} {L : List ML} {f : Int} {t : List UInt8} (h : (bOk n L && isF f && decide (t.length ≤ 20)) = true) : bxAp n L f t = bxAdd n L f t := by unfold bxAp; rw [h]; rfl
end Go.Proofs.Ytllhcogmcfgnoaa

namespace Go.Proofs.Ytllhcogmcfgnoaa
open Go.RowKit
set_option linter.unusedVariables false

theorem gtake_same {α : Type} {L M : List α} {k : Nat} {x : α} (h : L.take k = M.take k) (hl : L[k]? = some x) (hm : M[k]? = some x) : L.take (k + 1) = M.take (k + 1) := by
  rw [List.take_add_one, List.take_add_one, h, hl, hm]
theorem gtake_diff {α : Type} {L M : List α} {k : Nat} {x y : α} (hl : L[k]? = some x) (hm : M[k]? = some y) (h : x ≠ y) : L ≠ M := by
  rintro rfl
  rw [hl] at hm
  exact h (Option.some.inj hm)
theorem glen_diff {α : Type} {L M : List α} (h : L.length ≠ M.length) : L ≠ M := fun e => h (by rw [e])
theorem says_mk {w w' : World} {o p : Bool} (h : o = p) (hb : Below w.heap.size w w') : SaysB w o (.returned (.bool p)) w' := ⟨by rw [h], hb⟩
/-- A slice of numbers that came in. -/
def IIn (w : World) (A : Option Addr) (N cap : Nat) (P : List Int) : Prop := P.length = N ∧ N ≤ 33554432 ∧ RAt intR w A P ∧ (A = none → cap = 0) ∧ (∀ q, A = some q → q.spot = none)
theorem IIn.below {w w' : World} {A : Option Addr} {N cap B : Nat} {P : List Int} (h : IIn w A N cap P) (hb : Below B w w') (hB : w.heap.size ≤ B) : IIn w' A N cap P := ⟨h.1, h.2.1, h.2.2.1.below hb hB, h.2.2.2⟩
theorem IIn.of {w : World} {B N cap : Nat} {A : Option Addr} {P : List Int} (h : ROwn intR w B (.slice A N cap) P) (hl : N ≤ 33554432) : IIn w A N cap P := ⟨h.len.1.symm, hl, h.at, h.nilcap, h.spot⟩
theorem text_same {a b : List UInt8} (h : a = b) : ((sB a).toList == (sB b).toList) = true ∧ (sB a).toList = (sB b).toList := by subst h; exact ⟨by simp, rfl⟩
theorem text_other {a b : List UInt8} (h : a ≠ b) : ((sB a).toList == (sB b).toList) = false ∧ ¬ (sB a).toList = (sB b).toList := by
  have e : ∀ l : List UInt8, (sB l).toList = l := fun l => by rw [ByteArray.toList_eq, sB_list]
  rw [e, e]
  exact ⟨beq_eq_false_iff_ne.2 h, h⟩

set_option maxRecDepth 20000 in
set_option maxHeartbeats 4000000 in
theorem same_mail {A A2 : Option Addr} {N N2 cap cap2 : Nat} {L M : List ML} (w : World) (h : MIn w A N cap L) (h2 : MIn w A2 N2 cap2 M) :
    Calls Try.prog 23 #[.slice A N cap, .slice A2 N2 cap2] w (SaysB w (decide (L = M))) := by
  have H := Lib.hid h
  have H2 := Lib.hid h2
  have hl := h.2.1
  have hl2 := h2.2.1
  clear h h2
  by_cases hlen : N = N2
  · subst hlen
    have hlb : ((N : Int) != (N : Int)) = false := by simp
    go_enter Try.func23, Try.ntmps23
    go_wp2
    go_loopw [5] (fun i wr => ∃ k : Nat, k ≤ N ∧ i = .int .i64 (k : Int) ∧ Hid (L.take k = M.take k) ∧ Hid (Below w.heap.size w wr)) (fun i _ => N - (intOf i).toNat)
    case atStart => exact ⟨0, Nat.zero_le _, by go_num, rfl, Below.refl _ _⟩
    case round =>
      obtain ⟨k, hk, rfl, HT, HB⟩ := hrel
      by_cases hlt : k < N
      · have h0 : (0 : Int) ≤ (k : Int) := by omega
        have h5 : (k : Int) < (N : Int) := by omega
        obtain ⟨⟨u, f, t⟩, hx⟩ : ∃ x, L[k]? = some x := ⟨_, List.getElem?_eq_getElem (by rw [H.out.1]; exact hlt)⟩
        obtain ⟨⟨u', f', t'⟩, hy⟩ : ∃ x, M[k]? = some x := ⟨_, List.getElem?_eq_getElem (by rw [H2.out.1]; exact hlt)⟩
        obtain ⟨b, o, rfl, hb, c0, c1, c2⟩ := mail_at (H.out.2.2.1.below HB.out (Nat.le_refl _)) hx
        obtain ⟨b', o', rfl, hb', d0, d1, d2⟩ := mail_at (H2.out.2.2.1.below HB.out (Nat.le_refl _)) hy
        have HX := Lib.hid hx
        have HY := Lib.hid hy
        clear hx hy
        by_cases e1 : u = u'
        · subst e1
          by_cases e2 : f = f'
          · subst e2
            by_cases e3 : t = t'
            · subst e3
              go_wp2
              go_quiet (fail)
              go_wp2
              go_roundw
              case rel => exact ⟨k + 1, by omega, by go_num, gtake_same HT.out HX.out HY.out, below_drewN' HB.out _⟩
              case measure => simp [intOf]; omega
            · obtain ⟨s1, s2⟩ := text_other e3
              have HNE : Hid (L ≠ M) := gtake_diff HX.out HY.out (by intro e; exact e3 (Prod.mk.inj (Prod.mk.inj e).2).2)
              obtain ⟨v1, hv1⟩ : ∃ v, sB t = v := ⟨_, rfl⟩
              obtain ⟨v2, hv2⟩ : ∃ v, sB t' = v := ⟨_, rfl⟩
              rw [hv1] at c2 s1 s2
              rw [hv2] at d2 s1 s2
              clear e3 hv1 hv2
              go_wp2
              go_quiet (fail)
              go_wp2
              go_ret
              exact says_mk (decide_eq_false HNE.out) (below_drewN' HB.out _)
          · have hne : (f == f') = false := beq_eq_false_iff_ne.2 e2
            have HNE : Hid (L ≠ M) := gtake_diff HX.out HY.out (by intro e; exact e2 (Prod.mk.inj (Prod.mk.inj e).2).1)
            clear e2
            go_wp2
            go_quiet (fail)
            go_wp2
            go_ret
            exact says_mk (decide_eq_false HNE.out) (below_drewN' HB.out _)
        · have hne : (u == u') = false := beq_eq_false_iff_ne.2 e1
          have HNE : Hid (L ≠ M) := gtake_diff HX.out HY.out (by intro e; exact e1 (Prod.mk.inj e).1)
          clear e1
          go_wp2
          go_quiet (fail)
          go_wp2
          go_ret
          exact says_mk (decide_eq_false HNE.out) (below_drewN' HB.out _)
      · have h5 : ¬ (k : Int) < (N : Int) := by omega
        have HE : Hid (L = M) := by
          have h := HT.out
          rw [List.take_of_length_le (by rw [H.out.1]; omega), List.take_of_length_le (by rw [H2.out.1]; omega)] at h
          exact h
        go_wp2
        go_ret
        exact says_mk (decide_eq_true HE.out) HB.out
  · have hlb : ((N : Int) != (N2 : Int)) = true := bne_iff_ne.2 (by omega)
    have HNE : Hid (L ≠ M) := glen_diff (by rw [H.out.1, H2.out.1]; exact hlen)
    clear hlen
    go_enter Try.func23, Try.ntmps23
    go_wp2
    go_ret
    exact says_mk (decide_eq_false HNE.out) (Below.refl _ _)
/-- A number of a list. -/
def hasI (P : List Int) (x : Int) : Bool := P.contains x
theorem has_yes {P : List Int} {k : Nat} {x : Int} (h : P[k]? = some x) : hasI P x = true := List.contains_iff_mem.2 (List.mem_of_getElem? h)
theorem has_no {P : List Int} {k : Nat} {x y : Int} (h : hasI (P.take k) x = false) (hy : P[k]? = some y) (hne : y ≠ x) : hasI (P.take (k + 1)) x = false := by
  unfold hasI at h ⊢
  rw [List.take_add_one, hy, ← Bool.not_eq_true, List.contains_iff_mem]
  intro hm
  rcases List.mem_append.1 hm with hm | hm
  · rw [List.contains_iff_mem.2 hm] at h
    cases h
  · simp at hm
    exact hne hm.symm
theorem box_dec {n m : Int} {L M : List ML} : decide (n = m ∧ L = M) = (decide (n = m) && decide (L = M)) := by
  rw [Bool.eq_iff_iff]
  simp
set_option maxRecDepth 20000 in
set_option maxHeartbeats 4000000 in
theorem same_box {A A2 : Option Addr} {N N2 cap cap2 : Nat} {L M : List ML} (n m : Int) (w : World) (h : MIn w A N cap L) (h2 : MIn w A2 N2 cap2 M) :
    Calls Try.prog 7 #[.agg #[.int .i64 n, .slice A N cap], .agg #[.int .i64 m, .slice A2 N2 cap2]] w (SaysB w (decide (n = m ∧ L = M))) := by
  obtain ⟨B, hB⟩ : ∃ B, w.heap.size = B := ⟨_, rfl⟩
  have K1 := (Whole.made w 25 #[.int .i64 n, .slice A N cap]).alloc (.cells #[.int .i64 m, .slice A2 N2 cap2] 25)
  have K2 := Whole.made (w.alloc (.cells #[.int .i64 n, .slice A N cap] 25)) 25 #[.int .i64 m, .slice A2 N2 cap2]
  rw [show (w.alloc (.cells #[.int .i64 n, .slice A N cap] 25)).heap.size = B + 1 by simp [hB]] at K2
  rw [hB] at K1
  have hb2 := ((Below.refl w.heap.size w).alloc (Nat.le_refl _) (.cells #[.int .i64 n, .slice A N cap] 25)).alloc (by simp) (.cells #[.int .i64 m, .slice A2 N2 cap2] 25)
  have b0 := K1.cell 0
  have b1 := K1.cell 1
  have d0 := K2.cell 0
  have d1 := K2.cell 1
  simp at b0 b1 d0 d1
  have HM := Lib.hid (same_mail _ (h.below hb2 (Nat.le_refl _)) (h2.below hb2 (Nat.le_refl _)))
  have HB := Lib.hid hb2
  clear K1 K2 hb2 h h2
  rw [box_dec]
  by_cases e1 : n = m
  · subst e1
    have hee : (n == n) = true := by simp
    obtain ⟨z, hz⟩ : ∃ z, decide (L = M) = z := ⟨_, rfl⟩
    have HZ := Lib.hid hz
    clear hz
    go_enter Try.func7, Try.ntmps7
    go_wp2_with fail
    refine HM.out.mono ?_
    rw [HZ.out]
    rintro e w2 ⟨rfl, hb⟩
    have HB2 := Lib.hid (HB.out.trans (hb.mono HB.out.size))
    clear hb
    go_wp2
    go_ret
    exact says_mk (by rw [HZ.out]; simp) HB2.out
  · have hee : (n == m) = false := beq_eq_false_iff_ne.2 e1
    have HE := Lib.hid (decide_eq_false e1)
    clear e1
    go_enter Try.func7, Try.ntmps7
    go_wp2
    go_ret
    exact says_mk (by rw [HE.out]; rfl) HB.out
end Go.Proofs.Ytllhcogmcfgnoaa

namespace Go.Proofs.Ytllhcogmcfgnoaa
open Go.RowKit
set_option linter.unusedVariables false

theorem plc_yes {len : Nat} {l x : Int} {r : List Int} (h1 : l < x) (h2 : x ≤ (len : Int)) : plc len l (x :: r) = plc len x r := by rw [plc, decide_eq_true h1, decide_eq_true h2]; rfl
theorem plc_no {len : Nat} {l x : Int} {r : List Int} (h : ¬ l < x ∨ ¬ x ≤ (len : Int)) : plc len l (x :: r) = false := by
  rw [plc]
  rcases h with h | h
  · rw [decide_eq_false h]; rfl
  · rw [decide_eq_false h]; simp
theorem in_at (x a b : Int) (r : Bool) (h : (decide (a ≤ x) && decide (x ≤ b)) = r) (w : World) : Calls Try.prog 19 #[.int .i64 x, .int .i64 a, .int .i64 b] w fun e w' => e = .returned (.bool r) ∧ w' = w := h ▸ spec_in x a b w
set_option maxRecDepth 20000 in
set_option maxHeartbeats 4000000 in
theorem spec_numbers {A A2 : Option Addr} {N N2 cap cap2 : Nat} {P : List Int} (n : Int) (w : World) (hN : N ≤ 33554432) (h : IIn w A2 N2 cap2 P) :
    Calls Try.prog 18 #[.agg #[.int .i64 n, .slice A N cap], .slice A2 N2 cap2] w (SaysB w (plc N 0 P)) := by
  have HB0 := Lib.hid ((Below.refl w.heap.size w).alloc (Nat.le_refl _) (.cells #[.int .i64 n, .slice A N cap] 25))
  obtain ⟨w1, hw1⟩ : ∃ w1, w.alloc (.cells #[.int .i64 n, .slice A N cap] 25) = w1 := ⟨_, rfl⟩
  have hW := Whole.made w 25 #[.int .i64 n, .slice A N cap]
  rw [hw1] at hW HB0
  have hz1 : w.heap.size < w1.heap.size := hW.lt
  have HW := Lib.hid hW
  have H := Lib.hid (h.below HB0.out (Nat.le_refl _))
  have hl2 := h.2.1
  have HW1 := Lib.hid hw1
  clear h hW hw1
  go_enter Try.func18, Try.ntmps18
  go_wp2
  rw [HW1.out]
  go_loopw [5] (fun i wr => ∃ (k : Nat) (l : Int), k ≤ N2 ∧ i = .int .i64 (k : Int) ∧ 0 ≤ l ∧ (k = 0 ∧ l = 0 ∨ 0 < k ∧ 1 ≤ l) ∧ Hid (0 < k → P[k - 1]? = some l) ∧ Hid (Below w1.heap.size w1 wr) ∧ Hid (plc N 0 P = plc N l (P.drop k))) (fun i _ => N2 - (intOf i).toNat)
  case atStart => exact ⟨0, 0, Nat.zero_le _, by go_num, by omega, .inl ⟨rfl, rfl⟩, fun h => absurd h (by omega), Below.refl _ _, rfl⟩
  case round =>
    obtain ⟨k, l, hk, rfl, l0, hkl, HP, HB, HR⟩ := hrel
    have hW := HW.out.below HB.out hz1
    have b1 := hW.cell 1
    simp at b1
    have HBT := Lib.hid (HB0.out.trans (HB.out.mono (Nat.le_of_lt hz1)))
    clear hW
    by_cases hlt : k < N2
    · have h0 : (0 : Int) ≤ (k : Int) := by omega
      have h5 : (k : Int) < (N2 : Int) := by omega
      obtain ⟨x, hx⟩ : ∃ x, P[k]? = some x := ⟨_, List.getElem?_eq_getElem (by rw [H.out.1]; exact hlt)⟩
      have hat := H.out.2.2.1.below HB.out (Nat.le_refl _)
      have HAT := Lib.hid hat
      obtain ⟨b, o, rfl, hb, c0⟩ := int_at hat hx
      have HD := Lib.hid (drop_at hx)
      have HX := Lib.hid hx
      clear hx hat
      cases hin : (decide (1 ≤ x) && decide (x ≤ (N : Int))) with
      | false =>
        have HIN := Lib.hid hin
        have HF : Hid (plc N 0 P = false) := by
          have h1 : ¬ (1 ≤ x ∧ x ≤ (N : Int)) := by simpa using hin
          show _ = _
          rw [HR.out, HD.out, plc_no (by omega)]
        clear hin hkl
        go_wp2
        go_quiet ((go_at_call 19; exact Calls.quiet_of_same (in_at _ _ _ _ HIN.out _)))
        go_wp2
        go_ret
        exact says_mk HF.out (below_drewN' HBT.out _)
      | true =>
        have HIN := Lib.hid hin
        have hxx : 1 ≤ x ∧ x ≤ (N : Int) := by simpa using hin
        have x1 := hxx.1
        have HXX := Lib.hid hxx.2
        clear hin hxx
        rcases hkl with ⟨hk0, hl0⟩ | ⟨hk0, hl0⟩
        · subst hk0
          subst hl0
          simp only [Nat.add_zero] at c0
          go_wp2
          go_quiet ((go_at_call 19; exact Calls.quiet_of_same (in_at _ _ _ _ HIN.out _)))
          go_wp2
          go_roundw
          case rel => exact ⟨1, x, by omega, by go_num, by omega, .inr ⟨by omega, x1⟩, fun _ => HX.out, below_drewN' HB.out _, HR.out.trans ((congrArg (plc N 0) HD.out).trans (plc_yes (by omega) HXX.out))⟩
          case measure => simp [intOf]; omega
        · obtain ⟨j, rfl⟩ : ∃ j, k = j + 1 := ⟨k - 1, by omega⟩
          obtain ⟨b2, o2, he, hb2, c1⟩ := int_at HAT.out (show P[j]? = some l from HP.out (by omega))
          cases he
          have hk0' : decide (0 < j + 1) = true := decide_eq_true (by omega)
          have E1 : ((j + 1 : Nat) : Int) - 1 = (j : Int) := by omega
          have W1 : IntKind.i64.wrap (((j + 1 : Nat) : Int) - 1) = (j : Int) := (IntWalk.i64_in _ (by omega)).trans E1
          have j0 : (0 : Int) ≤ (j : Int) := by omega
          have j5 : (j : Int) < (N2 : Int) := by omega
          obtain ⟨q, hq⟩ : ∃ q, j + 1 = q := ⟨_, rfl⟩
          rw [hq] at c0 hk0' E1 W1 h0 h5 hk hlt ⊢
          have HQ := Lib.hid hq
          clear hq hk0
          by_cases hlx : l < x
          · have hlx' : ¬ x ≤ l := by omega
            go_wp2
            go_quiet ((go_at_call 19; exact Calls.quiet_of_same (in_at _ _ _ _ HIN.out _)))
            go_wp2
            go_roundw
            case rel => exact ⟨q + 1, x, by omega, by go_num, by omega, .inr ⟨by omega, x1⟩, fun _ => (by rw [← HQ.out]; exact HX.out), below_drewN' HB.out _, HR.out.trans (by rw [HD.out, plc_yes hlx HXX.out, HQ.out])⟩
            case measure => simp [intOf]; omega
          · have hlx' : x ≤ l := by omega
            have HF : Hid (plc N 0 P = false) := by
              show _ = _
              rw [HR.out, HD.out, plc_no (by omega)]
            go_wp2
            go_quiet ((go_at_call 19; exact Calls.quiet_of_same (in_at _ _ _ _ HIN.out _)))
            go_wp2
            go_ret
            exact says_mk HF.out (below_drewN' HBT.out _)
    · have h5 : ¬ (k : Int) < (N2 : Int) := by omega
      have HE : Hid (plc N 0 P = true) := by
        show _ = _
        rw [HR.out, List.drop_eq_nil_of_le (by rw [H.out.1]; omega)]
        rfl
      go_wp2
      go_ret
      exact says_mk HE.out HBT.out
theorem szM_take {L : List ML} {k : Nat} {x : ML} (h : L[k]? = some x) : szM (L.take (k + 1)) = szM (L.take k) + x.2.2.length := by
  rw [List.take_add_one, h]
  show szM (L.take k ++ [x]) = _
  rw [szM_app]
  rfl
end Go.Proofs.Ytllhcogmcfgnoaa
