/-
  My texts Jm, Jc, Qshl, Jd, Til, Jf, Jg, Jh in one, so that a claim holds fewer files. Conditions: each contract's own.
-/
import Derived.Test.YtinbdibenbplnaaQe
import Derived.Shelf.Slices.Turned
import Derived.Ground.Names2Prog
import Derived.Shelf.Slices.Delete
import Derived.Shelf.Slices.Cells
import Derived.Shelf.Slices.Empties
import Derived.Test.YtinbdibenbplnaaProg
import Derived.Lib.OwnBridge
import Derived.OrdersHeld
import Derived.Deep.RegionHeld
namespace Go.Proofs.Ytinbdibenbplnaa
open Go.RowKit
set_option linter.unusedVariables false

abbrev QK := Int × ByteArray × ByteArray × List ByteArray
def ascI (L : List QI) : Prop := L.Pairwise fun a b => a.id < b.id
theorem okQ_asc : ∀ {L : List QI} {b : Int}, okQ b L = true → ascI L ∧ ∀ g ∈ L, b < g.id ∧ itB g = true
  | [], b, h => ⟨List.Pairwise.nil, fun g hg => by cases hg⟩
  | x :: L, b, h => by
    have h1 : b < x.id ∧ itB x = true ∧ okQ x.id L = true := by
      have h2 : (decide (b < x.id) && (itB x && okQ x.id L)) = true := h
      simp only [Bool.and_eq_true, decide_eq_true_eq] at h2
      exact h2
    obtain ⟨h3, h4⟩ := okQ_asc h1.2.2
    refine ⟨List.Pairwise.cons (fun g hg => (h4 g hg).1) h3, fun g hg => ?_⟩
    rcases List.mem_cons.1 hg with rfl | hg
    · exact ⟨h1.1, h1.2.1⟩
    · exact ⟨by have := (h4 g hg).1; omega, (h4 g hg).2⟩
theorem vQ_parts {n : Int} {L : List QI} (h : vQ n L = true) : L.length ≤ 6 ∧ n ≤ 100 ∧ okQ 0 L = true ∧ lastQ 0 L < n := by
  unfold vQ at h
  simp only [Bool.and_eq_true, decide_eq_true_eq] at h
  exact ⟨h.1.1, h.1.2, h.2.1, h.2.2⟩
theorem vQ_low {n : Int} {L : List QI} (h : vQ n L = true) : 1 ≤ n := by
  obtain ⟨_, _, h3, h4⟩ := vQ_parts h
  have := (okQ_le h3).1
  omega
/-- The first number of a heap of known numbers. -/
theorem heap_first {H R : List Int} {x : Int} (hh : HeapTo H H.length) (hp : H.Perm (x :: R)) (hx : ∀ y ∈ R, x < y) : hat H 0 = x := by
  have hlen : 0 < H.length := by rw [hp.length_eq]; simp
  have hm : x ∈ H := hp.mem_iff.2 (by simp)
  obtain ⟨k, hk, e⟩ := List.getElem_of_mem hm
  have h1 := heap_min hh k hk
  have h2 : hat H k = x := by
    have := hat_some hk
    rw [List.getElem?_eq_getElem hk] at this
    rw [← Option.some.inj this, e]
  have h3 : hat H 0 ∈ H := List.mem_of_getElem? (hat_some hlen)
  rcases List.mem_cons.1 (hp.mem_iff.1 h3) with h4 | h4
  · exact h4
  · have := hx _ h4
    omega
theorem heap_rest {H H' R : List Int} {x : Int} (hp : H.Perm (x :: R)) (h : (x :: H').Perm H) : H'.Perm R := (h.trans hp).cons_inv
theorem erase_ids {X : WX} {i g : Nat} {q : QI} (hx : X[i]? = some (g, q)) : (X.map fun y => y.2.id).Perm (q.id :: (X.eraseIdx i).map fun y => y.2.id) := by
  obtain ⟨h1, e1⟩ := List.getElem?_eq_some_iff.1 hx
  have e : X = X.take i ++ (g, q) :: X.drop (i + 1) := by
    conv => lhs; rw [← List.take_append_drop i X, List.drop_eq_getElem_cons h1, e1]
  rw [List.eraseIdx_eq_take_drop_succ]
  conv => lhs; rw [e]
  rw [List.map_append, List.map_append, List.map_cons]
  exact List.perm_middle
/-- One copy less. -/
def tk1 (id : Int) (u : ByteArray) (k : QK) : QK := if k.1 = id ∧ u ∈ k.2.2.2 then (k.1, k.2.1, k.2.2.1, k.2.2.2.filter fun x => decide (x ≠ u)) else k
def neT (k : QK) : Bool := decide (k.2.2.2 ≠ [])
def mtch (id : Int) (u : ByteArray) (k : QK) : Bool := decide (k.1 = id) && decide (u ∈ k.2.2.2)
/-- What QueueTake leaves; the text; whether there was such a copy. -/
def tkK (K : List QK) (id : Int) (u : ByteArray) : List QK := (K.map (tk1 id u)).filter neT
def tkT (K : List QK) (id : Int) (u : ByteArray) : ByteArray := ((K.find? (mtch id u)).map fun k => k.2.2.1).getD ⟨#[]⟩
def tkO (K : List QK) (id : Int) (u : ByteArray) : Bool := (K.find? (mtch id u)).isSome
def qtN (n : Int) (L : List QI) : Int := if vQ n L = true then n else 0
def qtK (n : Int) (L : List QI) (id : Int) (u : ByteArray) : List QK := if vQ n L = true then tkK (L.map keyI) id u else []
def qtT (n : Int) (L : List QI) (id : Int) (u : ByteArray) : ByteArray := if vQ n L = true then tkT (L.map keyI) id u else ⟨#[]⟩
def qtO (n : Int) (L : List QI) (id : Int) (u : ByteArray) : Bool := vQ n L && tkO (L.map keyI) id u
/-- What QueueAdd leaves. -/
def qaV (n : Int) (L : List QI) (u t : ByteArray) (T : List ByteArray) : Bool := vQ n L && letB u T t
def qaG (n : Int) (L : List QI) : Bool := decide (L.length < 6) && decide (n ≤ 99)
def qaN (n : Int) (L : List QI) (u t : ByteArray) (T : List ByteArray) : Int := if qaV n L u t T = true then (if qaG n L = true then n + 1 else n) else 0
def qaK (n : Int) (L : List QI) (u t : ByteArray) (T : List ByteArray) : List QK := if qaV n L u t T = true then (if qaG n L = true then L.map keyI ++ [(n, u, t, T)] else L.map keyI) else []
def qaO (n : Int) (L : List QI) (u t : ByteArray) (T : List ByteArray) : Bool := qaV n L u t T && qaG n L
section
variable {K : List QK} {k k' : QK} {id : Int} {u : ByteArray} {i : Nat}
def dst (K : List QK) : Prop := K.Pairwise fun a b => a.1 ≠ b.1
theorem dst_ne (hd : dst K) {j : Nat} {x y : QK} (hi : K[i]? = some x) (hj : K[j]? = some y) (hij : i ≠ j) : x.1 ≠ y.1 := by
  obtain ⟨h1, e1⟩ := List.getElem?_eq_some_iff.1 hi
  obtain ⟨h2, e2⟩ := List.getElem?_eq_some_iff.1 hj
  have h3 := List.pairwise_iff_getElem.1 hd
  rcases (by omega : i < j ∨ j < i) with h4 | h4
  · have := h3 i j h1 h2 h4
    rw [e1, e2] at this
    exact this
  · have := h3 j i h2 h1 h4
    rw [e1, e2] at this
    exact fun e => this e.symm
theorem tk1_no (h : ¬ (k.1 = id ∧ u ∈ k.2.2.2)) : tk1 id u k = k := by unfold tk1; rw [if_neg h]
theorem tk1_yes (h : k.1 = id) (h2 : u ∈ k.2.2.2) : tk1 id u k = (k.1, k.2.1, k.2.2.1, k.2.2.2.filter fun x => decide (x ≠ u)) := by unfold tk1; rw [if_pos ⟨h, h2⟩]
theorem tk_map (hd : dst K) (hi : K[i]? = some k) (h1 : k.1 = id) : K.map (tk1 id u) = K.set i (tk1 id u k) := by
  apply List.ext_getElem?
  intro j
  rw [List.getElem?_map, List.getElem?_set]
  by_cases hij : i = j
  · subst hij
    rw [if_pos rfl, hi, if_pos (List.getElem?_eq_some_iff.1 hi).1]
    rfl
  · rw [if_neg hij]
    cases hj : K[j]? with
    | none => rfl
    | some y =>
      have := dst_ne hd hi hj hij
      show some (tk1 id u y) = some y
      rw [tk1_no (fun h => this (h1.trans h.1.symm))]
theorem tk_same (h : ∀ k ∈ K, ¬ (k.1 = id ∧ u ∈ k.2.2.2)) : K.map (tk1 id u) = K := by
  refine (List.map_congr_left (g := fun k => k) fun k hk => tk1_no (h k hk)).trans ?_
  exact List.map_id _
theorem keep_all (h : ∀ k ∈ K, k.2.2.2 ≠ []) : K.filter neT = K := List.filter_eq_self.2 fun k hk => decide_eq_true (h k hk)
theorem tkK_none (h : ∀ k ∈ K, k.2.2.2 ≠ []) (h2 : ∀ k ∈ K, ¬ (k.1 = id ∧ u ∈ k.2.2.2)) : tkK K id u = K := by unfold tkK; rw [tk_same h2, keep_all h]
theorem find_none (h2 : ∀ k ∈ K, ¬ (k.1 = id ∧ u ∈ k.2.2.2)) : K.find? (mtch id u) = none := List.find?_eq_none.2 fun k hk h => by
  unfold mtch at h
  simp only [Bool.and_eq_true, decide_eq_true_eq] at h
  exact h2 k hk h
theorem find_here (hd : dst K) (hi : K[i]? = some k) (h1 : k.1 = id) (h2 : u ∈ k.2.2.2) : K.find? (mtch id u) = some k := by
  cases hf : K.find? (mtch id u) with
  | none =>
    have := List.find?_eq_none.1 hf k (List.mem_of_getElem? hi)
    unfold mtch at this
    rw [decide_eq_true h1, decide_eq_true h2] at this
    exact absurd rfl this
  | some y =>
    have h3 := List.find?_some hf
    unfold mtch at h3
    simp only [Bool.and_eq_true, decide_eq_true_eq] at h3
    obtain ⟨j, hj, e⟩ := List.getElem_of_mem (List.mem_of_find?_eq_some hf)
    have hj' : K[j]? = some y := by rw [List.getElem?_eq_getElem hj, e]
    by_cases hij : i = j
    · subst hij
      rw [hi] at hj'
      exact hj'.symm
    · exact absurd (h1.trans h3.1.symm) (dst_ne hd hi hj' hij)
theorem set_filter (h : ∀ k ∈ K, k.2.2.2 ≠ []) (hi : i < K.length) : (K.set i k').filter neT = if k'.2.2.2 ≠ [] then K.set i k' else K.eraseIdx i := by
  have e : K.set i k' = K.take i ++ k' :: K.drop (i + 1) := by rw [List.set_eq_take_append_cons_drop, if_pos hi]
  have h1 : (K.take i).filter neT = K.take i := keep_all fun k hk => h k (List.mem_of_mem_take hk)
  have h2 : (K.drop (i + 1)).filter neT = K.drop (i + 1) := keep_all fun k hk => h k (List.mem_of_mem_drop hk)
  by_cases hk : k'.2.2.2 ≠ []
  · rw [if_pos hk]
    refine keep_all fun k hm => ?_
    rcases List.mem_or_eq_of_mem_set hm with hm | rfl
    · exact h k hm
    · exact hk
  · rw [if_neg hk, e, List.filter_append, List.filter_cons, if_neg (by unfold neT; rw [decide_eq_false hk]; simp), h1, h2, List.eraseIdx_eq_take_drop_succ]
theorem tkK_here (hd : dst K) (h : ∀ k ∈ K, k.2.2.2 ≠ []) (hi : K[i]? = some k) (h1 : k.1 = id) : tkK K id u = if (tk1 id u k).2.2.2 ≠ [] then K.set i (tk1 id u k) else K.eraseIdx i := by
  unfold tkK
  rw [tk_map hd hi h1, set_filter h (List.getElem?_eq_some_iff.1 hi).1]
end
theorem asc_dst {L : List QI} (h : ascI L) : dst (L.map keyI) := by
  unfold dst
  rw [List.pairwise_map]
  exact h.imp fun hab e => by
    have e1 : _ = _ := e
    simp only [keyI] at e1
    omega
theorem rev_get {α : Type} {L : List α} {i : Nat} {x : α} (hx : L.reverse[i]? = some x) : L[L.length - 1 - i]? = some x := by
  have hi := (List.getElem?_eq_some_iff.1 hx).1
  rw [List.length_reverse] at hi
  rw [← hx, List.getElem?_reverse hi]
theorem rev_set {α : Type} {L : List α} {i : Nat} {x : α} (hi : i < L.length) : (L.set i x).reverse = L.reverse.set (L.length - 1 - i) x := by
  apply List.ext_getElem?
  intro j
  by_cases hj : j < L.length
  · rw [List.getElem?_reverse (by rw [List.length_set]; exact hj), List.length_set, List.getElem?_set, List.getElem?_set, List.getElem?_reverse hj, List.length_reverse]
    by_cases h : i = L.length - 1 - j
    · rw [if_pos h, if_pos (by omega), if_pos (by omega), if_pos (by omega)]
    · rw [if_neg h, if_neg (by omega)]
  · rw [List.getElem?_eq_none (by simp; omega), List.getElem?_eq_none (by simp; omega)]
theorem rev_erase {α : Type} {L : List α} {i : Nat} (hi : i < L.length) : (L.eraseIdx i).reverse = L.reverse.eraseIdx (L.length - 1 - i) := by
  rw [List.eraseIdx_eq_take_drop_succ, List.eraseIdx_eq_take_drop_succ, List.reverse_append, List.reverse_drop, List.reverse_take]
  congr 1
  · congr 1
    omega
  · congr 1
    omega
theorem erase_filter {T : List ByteArray} {u : ByteArray} {c : Nat} (hn : T.Nodup) (hc : T[c]? = some u) : T.eraseIdx c = T.filter fun x => decide (x ≠ u) := by
  obtain ⟨h1, e1⟩ := List.getElem?_eq_some_iff.1 hc
  have e : T = T.take c ++ u :: T.drop (c + 1) := by
    conv => lhs; rw [← List.take_append_drop c T, List.drop_eq_getElem_cons h1, e1]
  have hn2 := hn
  rw [e, List.nodup_append, List.nodup_cons] at hn2
  obtain ⟨_, ⟨h3, _⟩, h4⟩ := hn2
  rw [List.eraseIdx_eq_take_drop_succ]
  conv => rhs; rw [e]
  have f1 : (T.take c).filter (fun x => decide (x ≠ u)) = T.take c := List.filter_eq_self.2 fun x hx => decide_eq_true fun e => h4 x hx u (by simp) e
  have f2 : (T.drop (c + 1)).filter (fun x => decide (x ≠ u)) = T.drop (c + 1) := List.filter_eq_self.2 fun x hx => decide_eq_true fun e => h3 (e ▸ hx)
  rw [List.filter_append, List.filter_cons, if_neg (by simp), f1, f2]
end Go.Proofs.Ytinbdibenbplnaa
namespace Go.Proofs.Ytinbdibenbplnaa
open Go.RowKit
set_option linter.unusedVariables false

section
variable {w w' : World} {B B' : Nat} {L M : List QI}
theorem OwnS.alloc (h : OwnS w B L) (o : Obj) : OwnS (w.alloc o) B L := fun g hg => (h g hg).alloc o
theorem OwnS.drewN (h : OwnS w B L) (m : Nat) : OwnS (w.drewN m) B L := fun g hg => (h g hg).drewN m
theorem OwnS.from (h : OwnS w B L) (hb : B' ≤ B) : OwnS w B' L := fun g hg => (h g hg).from hb
theorem OwnS.grownT {α : Type} {R : RowT α} {v : Value} {K : List α} {B2 : Nat} (h : OwnS w B L) (ho : ROwn R w B2 v K) (ht : 9 ≠ R.t) (hg : w.grownBy w' v.ownBlock) : OwnS w' B L := fun g hg' => (h g hg').apart hg (own_apart (h g hg') ho ht)
theorem OwnS.storeT (h : OwnS w B L) {b k : Nat} {t : TypeId} {cs : Array Value} (hW : Whole w b t cs) (ht : t ≠ 9) (u : Value) : OwnS (w.setCell ⟨b, k, none⟩ u) B L := fun g hg => (h g hg).store (p := ⟨b, k, none⟩) ((h g hg).whole hW ht) u
theorem OwnS.push (h : OwnS w B L) {g : QI} (hg : ROwn stR w B (.slice g.A g.N g.cap) g.T) : OwnS w B (L ++ [g]) := fun x hx => by
  rcases List.mem_append.1 hx with hx | hx
  · exact h x hx
  · simp at hx; rw [hx]; exact hg
/-- A row that was made behind older ones may be written. -/
theorem OwnS.grownR {v : Value} {T : List ByteArray} {B2 : Nat} (h : OwnS w B L) (ho : ROwn stR w B2 v T) (hn : ∀ g ∈ L, ∀ b, (lfV g).ownBlock = some b → b < B2) (hg : w.grownBy w' v.ownBlock) : OwnS w' B L := fun g hg' => by
  refine (h g hg').apart hg ?_
  cases hb : (lfV g).ownBlock with
  | none => exact .inl hb
  | some b =>
    refine .inr fun e => ?_
    have h1 := hn g hg' b hb
    have h2 := (World.ownsRow.lt ho b (by rw [← e]; exact hb)).1
    omega
theorem OwnS.lt (h : OwnS w B L) : ∀ g ∈ L, ∀ b, (lfV g).ownBlock = some b → B ≤ b ∧ b < w.heap.size := fun g hg b hb => World.ownsRow.lt (h g hg) b hb
/-- A queue's items of the call's own. -/
def OwnQ (w : World) (B : Nat) (A : Option Addr) (N cap : Nat) (L : List QI) : Prop := ROwn qiR w B (.slice A N cap) L ∧ OwnS w B L ∧ L.Pairwise Apt
variable {A A' : Option Addr} {N cap N' cap' : Nat}
theorem OwnQ.kept (h : OwnQ w B A N cap L) (hb : Below w.heap.size w w') : OwnQ w' B A N cap L := ⟨h.1.kept hb, h.2.1.kept hb, h.2.2⟩
theorem OwnQ.from (h : OwnQ w B A N cap L) (hb : B' ≤ B) : OwnQ w B' A N cap L := ⟨h.1.from hb, h.2.1.from hb, h.2.2⟩
theorem OwnQ.storeT (h : OwnQ w B A N cap L) {b k : Nat} {t : TypeId} {cs : Array Value} (hW : Whole w b t cs) (ht : t ≠ 9) (ht2 : t ≠ 38) (u : Value) : OwnQ (w.setCell ⟨b, k, none⟩ u) B A N cap L := ⟨h.1.store (p := ⟨b, k, none⟩) (h.1.whole hW ht2) u, h.2.1.storeT hW ht u, h.2.2⟩
theorem OwnQ.keep (h : OwnQ w B A N cap L) : Kp w fun w' => OwnQ w' B A N cap L := fun w2 h2 => h.kept h2
theorem OwnQ.qin (h : OwnQ w B A N cap L) (hl : L.length ≤ 4194304) (hs : ∀ g ∈ L, SmI 1048576 g) : QIn w A N cap L := QIn.of h.1 h.2.1 hl hs
theorem apt_push (h : L.Pairwise Apt) {g : QI} (hg : ∀ x ∈ L, Apt x g) : (L ++ [g]).Pairwise Apt := List.pairwise_append.2 ⟨h, List.pairwise_singleton _ _, fun a ha b hb => by simp at hb; rw [hb]; exact hg a ha⟩
end
/-- What counts of the items is this. -/
def GiveQ (w : World) (n : Int) (K : List QK) (e : Ending) (w' : World) : Prop := ∃ A N cap L, e = .returned (.agg #[.int .i64 n, .slice A N cap]) ∧ OwnQ w' w.heap.size A N cap L ∧ L.map keyI = K ∧ Below w.heap.size w w'
def ZQ : Array Value := #[.int .i64 0, .slice none 0 0]
theorem key_snoc {L M : List QI} {k : Nat} {g x : QI} (h : M.map keyI = (L.take k).map keyI) (hx : L[k]? = some g) (hg : keyI x = keyI g) : (M ++ [x]).map keyI = (L.take (k + 1)).map keyI := by
  rw [List.map_append, h, List.take_add_one, hx, List.map_append]
  show _ ++ [keyI x] = _ ++ [keyI g]
  rw [hg]
set_option maxRecDepth 20000 in
set_option maxHeartbeats 8000000 in
theorem spec_copyq {n : Int} {A : Option Addr} {N cap : Nat} {L : List QI} (w : World) (h : QIn w A N cap L) (hN : N ≤ 1000) : Calls Try.prog 55 #[.agg #[.int .i64 n, .slice A N cap]] w (GiveQ w n (L.map keyI)) := by
  obtain ⟨i0, hi0, hq0, hq1, hq2⟩ := info_parts Try.infoString
  obtain ⟨j0, hj0, hp0, hp1, hp2⟩ := info_parts Try.infoItem
  obtain ⟨Q, hQ⟩ : ∃ Q, w.heap.size = Q := ⟨_, rfl⟩
  obtain ⟨wq, hwq⟩ : ∃ wq, ((((w.alloc (.cells #[.int .i64 n, .slice A N cap] 31)).alloc (.cells #[.int .i64 0, .slice none 0 0] 31)).alloc (.cells #[] 38)).alloc (.cells #[.int .i64 n, .slice (some ⟨Q + 1 + 1, 0, none⟩) 0 0] 31)) = wq := ⟨_, rfl⟩
  have e1 : (w.alloc (.cells #[.int .i64 n, .slice A N cap] 31)).heap.size = Q + 1 := by simp [hQ]
  have e2 : ((w.alloc (.cells #[.int .i64 n, .slice A N cap] 31)).alloc (.cells #[.int .i64 0, .slice none 0 0] 31)).heap.size = Q + 1 + 1 := by simp [hQ]
  have e3 : (((w.alloc (.cells #[.int .i64 n, .slice A N cap] 31)).alloc (.cells #[.int .i64 0, .slice none 0 0] 31)).alloc (.cells #[] 38)).heap.size = Q + 1 + 1 + 1 := by simp [hQ]
  have h1 : Whole wq Q 31 #[.int .i64 n, .slice A N cap] := by rw [← hwq, ← hQ]; exact (((Whole.made w _ _).alloc _).alloc _).alloc _
  have h2 : Whole wq (Q + 1) 31 #[.int .i64 0, .slice none 0 0] := by rw [← hwq]; have := ((Whole.made (w.alloc (.cells #[.int .i64 n, .slice A N cap] 31)) 31 #[.int .i64 0, .slice none 0 0]).alloc (.cells #[] 38)).alloc (.cells #[.int .i64 n, .slice (some ⟨Q + 1 + 1, 0, none⟩) 0 0] 31); rw [e1] at this; exact this
  have h3 : ROwn qiR wq (Q + 1 + 1) (.slice (some ⟨Q + 1 + 1, 0, none⟩) 0 0) [] := by rw [← hwq]; exact (ROwn.lit (R := qiR) (B := Q + 1 + 1) _ (Q + 1 + 1) (by rw [e2]; exact Nat.le_refl _) e2).alloc _
  have h4 : Whole wq (Q + 1 + 1 + 1) 31 #[.int .i64 n, .slice (some ⟨Q + 1 + 1, 0, none⟩) 0 0] := by rw [← hwq]; have := Whole.made (((w.alloc (.cells #[.int .i64 n, .slice A N cap] 31)).alloc (.cells #[.int .i64 0, .slice none 0 0] 31)).alloc (.cells #[] 38)) 31 #[.int .i64 n, .slice (some ⟨Q + 1 + 1, 0, none⟩) 0 0]; rw [e3] at this; exact this
  have h5 : Below w.heap.size w wq := by rw [← hwq]; exact (((below_new w _).alloc (by simp) _).alloc (by simp; omega) _).alloc (by simp; omega) _
  have HW := Lib.hid h1
  have HR := Lib.hid h2
  have HO := Lib.hid h3
  have HT := Lib.hid h4
  have HB := Lib.hid h5
  have HH := Lib.hid h
  have HL := Lib.hid h.1
  have HQ := Lib.hid hQ
  have c0 := (Whole.made w 31 #[.int .i64 n, .slice A N cap]).alloc (.cells #[.int .i64 0, .slice none 0 0] 31) |>.cell 0
  simp at c0
  clear h h1 h2 h3 h4 h5 e1 e2 e3
  go_enter Try.func55, Try.ntmps55
  go_wp2
  clear hwq c0
  go_loopw [4] (fun iv wr => ∃ (k : Nat) (A1 : Option Addr) (c1 : Nat) (M : List QI), k ≤ N ∧ iv = .int .i64 (k : Int) ∧ Hid (Whole wr Q 31 #[.int .i64 n, .slice A N cap]) ∧ Hid (Whole wr (Q + 1) 31 #[.int .i64 0, .slice none 0 0]) ∧ Hid (Whole wr (Q + 1 + 1 + 1) 31 #[.int .i64 n, .slice A1 k c1]) ∧ Hid (OwnQ wr (Q + 1 + 1) A1 k c1 M) ∧ Hid (M.map keyI = (L.take k).map keyI) ∧ Hid (Below w.heap.size w wr)) (fun iv _ => N - (intOf iv).toNat)
  case atStart => exact ⟨0, _, 0, [], Nat.zero_le _, rfl, HW, HR, HT, ⟨HO.out, (fun g hg => by cases hg), List.Pairwise.nil⟩, rfl, HB⟩
  case round =>
    obtain ⟨k, A1, c1, M, hk, rfl, KW, KR, KT, KO, KM, KB⟩ := hrel
    have z0 := KW.out.cell 1
    simp at z0
    by_cases hlt : k < N
    · have i0' : (0 : Int) ≤ (k : Int) := by omega
      have i1' : (k : Int) < (N : Int) := by omega
      obtain ⟨g, hx⟩ : ∃ x, L[k]? = some x := ⟨_, List.getElem?_eq_getElem (by rw [HL.out]; exact hlt)⟩
      have HX := Lib.hid hx
      obtain ⟨id, us, tx, A2, N2, cap2, T2⟩ := g
      have KH := Lib.hid (HH.out.below KB.out (Nat.le_refl _))
      obtain ⟨b, o, rfl, hb, x0, x1, x2, x3⟩ := qi_at KH.out.2.2.1 hx
      simp only at x0 x1 x2 x3
      have HT2 := Lib.hid (KH.out.2.2.2.2.2 _ (List.mem_of_getElem? hx)).2
      obtain ⟨I, hI⟩ : ∃ I, wr.heap.size = I := ⟨_, rfl⟩
      have HII := Lib.hid hI
      obtain ⟨w1, hw1⟩ : ∃ w1, wr.alloc (.cells #[.int .i64 id, .string us, .string tx, .slice A2 N2 cap2] 38) = w1 := ⟨_, rfl⟩
      have HI1 := Lib.hid (show Whole w1 I 38 #[.int .i64 id, .string us, .string tx, .slice A2 N2 cap2] by rw [← hw1, ← hI]; exact Whole.made wr _ _)
      have HB1 := Lib.hid (show Below wr.heap.size wr w1 by rw [← hw1]; exact below_new wr _)
      have hs1 : w1.heap.size = I + 1 := by rw [← hw1, ← hI]; simp
      have HS1 := Lib.hid hs1
      obtain ⟨w2, hw2⟩ : ∃ w2, w1.alloc (.cells #[] 9) = w2 := ⟨_, rfl⟩
      have HI2 := Lib.hid (show Whole w2 I 38 #[.int .i64 id, .string us, .string tx, .slice A2 N2 cap2] by rw [← hw2]; exact HI1.out.alloc _)
      have HB2 := Lib.hid (show Below wr.heap.size wr w2 by rw [← hw2]; exact HB1.out.alloc HB1.out.size _)
      have HE2 := Lib.hid (show ROwn stR w2 (I + 1) (.slice (some ⟨I + 1, 0, none⟩) 0 0) [] by rw [← hw2]; exact ROwn.lit (R := stR) w1 (I + 1) (by rw [hs1]; exact Nat.le_refl _) hs1)
      have HU2 := Lib.hid (HT2.out.below HB2.out (Nat.le_refl _))
      have hsz2 : I + 1 ≤ w2.heap.size := by rw [← hw2, ← hs1]; simp
      have y3 := HI2.out.cell 3
      simp at y3
      have hml : 0 + N2 ≤ maxLen := by have : N2 ≤ 4194304 := HT2.out.2.1; unfold maxLen; omega
      have hby : (0 + N2) * 16 ≤ 140737488355328 := by have : N2 ≤ 4194304 := HT2.out.2.1; omega
      have HTN := Lib.hid HT2.out.1
      clear hx
      go_wp2_with (at_builtin; refine wpList_append_rows rfl (.tmp 22) (.tmp 24) 23 rfl stR (I + 1) i0 _ 16 Try.underlying23 hi0 hq0 hq1 hq2 rfl (by decide) _ [] T2 0 rfl rfl HE2.out A2 N2 cap2 rfl HTN.out HU2.out.2.2.1 HU2.out.2.2.2.1 HU2.out.2.2.2.2.1 hml hby hsz2 ?_)
      intro v' w3 ho3 hg3 hnn
      try rw [List.nil_append] at ho3
      obtain ⟨A3, N3, c3, rfl⟩ := ho3.val
      have hN3 : N2 = N3 := (ho3.len.1.trans HTN.out).symm
      subst hN3
      have HO3 := Lib.hid ho3
      have HI3 := Lib.hid (HI2.out.grown hg3 (fun e => by have h2 := Option.some.inj (show some I = some (I + 1) from e); omega))
      have HB3 := Lib.hid (HB2.out.grown hg3 (by have := HII.out; omega) (fun z e => by have h2 := Option.some.inj (show some (I + 1) = some z from e); have := HII.out; omega))
      have hs3 : I + 1 ≤ w3.heap.size := Nat.le_trans hsz2 hg3.size
      obtain ⟨w4, hw4⟩ : ∃ w4, w3.setCell ⟨I, 3, none⟩ (.slice A3 N2 c3) = w4 := ⟨_, rfl⟩
      have HI4 := Lib.hid (show Whole w4 I 38 #[.int .i64 id, .string us, .string tx, .slice A3 N2 c3] by rw [← hw4]; exact HI3.out.store 3 (.slice A3 N2 c3))
      have HB4 := Lib.hid (show Below wr.heap.size wr w4 by rw [← hw4]; exact HB3.out.setCell (p := ⟨I, 3, none⟩) (by rw [HII.out]; exact Nat.le_refl _) _)
      have HO4 := Lib.hid (show ROwn stR w4 (I + 1) (.slice A3 N2 c3) T2 by rw [← hw4]; exact HO3.out.store (p := ⟨I, 3, none⟩) (HO3.out.whole HI3.out (by decide)) _)
      have hs4 : I + 1 ≤ w4.heap.size := by rw [← hw4]; simpa [World.setCell] using hs3
      have HM4 := Lib.hid (KO.out.kept HB4.out)
      have HT4 := Lib.hid (KT.out.below HB4.out KT.out.lt)
      have HAP : Hid (∀ x ∈ M, Apt x ⟨id, us, tx, A3, N2, c3, T2⟩) := Lib.hid (fun x hx b e1 e2 => by
        have h5 := (World.ownsRow.lt HO4.out b e2).1
        have h6 := (KO.out.2.1.lt x hx b e1).2
        have := HII.out
        omega)
      have y3' := HI3.out.cell 3
      have y3f := HI3.out.free 3
      have q0 := HI4.out.cell 0
      have q1 := HI4.out.cell 1
      have q2 := HI4.out.cell 2
      have q3 := HI4.out.cell 3
      have u1 := HT4.out.cell 1
      simp at y3' q0 q1 q2 q3 u1
      obtain ⟨P, hP⟩ : ∃ P, w4.heap.size = P := ⟨_, rfl⟩
      have HPP := Lib.hid hP
      obtain ⟨w5, hw5⟩ : ∃ w5, w4.alloc (.cells #[.int .i64 id, .string us, .string tx, .slice A3 N2 c3] 38) = w5 := ⟨_, rfl⟩
      have HN5 : Hid (RAt qiR w5 (some ⟨P, 0, none⟩) [⟨id, us, tx, A3, N2, c3, T2⟩]) := Lib.hid (by rw [← hw5]; exact RAt.made qiR w4 [⟨id, us, tx, A3, N2, c3, T2⟩] P hP)
      have HB5 := Lib.hid (show Below w4.heap.size w4 w5 by rw [← hw5]; exact below_new w4 _)
      have HM5 := Lib.hid (HM4.out.kept HB5.out)
      have HO5 := Lib.hid (HO4.out.kept HB5.out)
      have HT5 := Lib.hid (HT4.out.below HB5.out HT4.out.lt)
      have hs5 : Q + 1 + 1 ≤ w5.heap.size := by have h1 := HB5.out.size; have h2 := KT.out.lt; have h3 := HB4.out.size; omega
      have hml2 : k + 1 ≤ maxLen := by unfold maxLen; omega
      have hby2 : (k + 1) * 64 ≤ 140737488355328 := by omega
      have HK1 : Hid (M.length = k) := Lib.hid HM5.out.1.len.1.symm
      clear ho3 hg3 hnn
      go_wp2_with (at_builtin; refine wpList_append_rows rfl (.tmp 28) (.tmp 30) 29 rfl qiR (Q + 1 + 1) j0 _ 64 Try.underlying29 hj0 hp0 hp1 hp2 rfl (by decide) _ M [⟨id, us, tx, A3, N2, c3, T2⟩] k HK1.out rfl HM5.out.1 (some ⟨P, 0, none⟩) 1 1 rfl rfl HN5.out (fun e => by cases e) (fun q e => by cases e; rfl) hml2 hby2 hs5 ?_)
      intro v'' w6 ho6 hg6 hnn
      obtain ⟨A6, N6, c6, rfl⟩ := ho6.val
      have hN6 : N6 = k + 1 := ho6.len.1.trans (by rw [List.length_append, HK1.out]; rfl)
      subst hN6
      have HO6 := Lib.hid ho6
      have HS6 := Lib.hid ((HM5.out.2.1.push (g := ⟨id, us, tx, A3, N2, c3, T2⟩) (HO5.out.from (by have := KT.out.lt; have := HII.out; omega))).grownT HM5.out.1 (by decide) hg6)
      have hq : ∀ (b : Nat) (t : TypeId) (cs : Array Value), Whole w5 b t cs → t ≠ 38 → Whole w6 b t cs := fun b t cs hw ht => hw.grown hg6 (fun e => HM5.out.1.whole hw ht e.symm)
      have HT6 := Lib.hid (hq _ _ _ HT5.out (by decide))
      have HR6 := Lib.hid (hq _ _ _ ((KR.out.below HB4.out KR.out.lt).below HB5.out (Nat.lt_of_lt_of_le KR.out.lt HB4.out.size)) (by decide))
      have HW6 := Lib.hid (hq _ _ _ ((KW.out.below HB4.out KW.out.lt).below HB5.out (Nat.lt_of_lt_of_le KW.out.lt HB4.out.size)) (by decide))
      have HB6 : Hid (Below w.heap.size w w6) := Lib.hid (((KB.out.trans (HB4.out.mono KB.out.size)).trans (HB5.out.mono (Nat.le_trans KB.out.size HB4.out.size))).grown hg6 (by have := KB.out.size; have := HB4.out.size; have := HB5.out.size; omega) (fun z e => by have h1 := (World.ownsRow.lt HM5.out.1 z e).1; rw [HQ.out]; omega))
      have u1' := HT6.out.cell 1
      have u1f := HT6.out.free 1
      simp at u1'
      have hj : ((k + 1 : Nat) : Int) = (k : Int) + 1 := by omega
      have HJ := Lib.hid hj
      clear ho6 hg6 hnn hq hj
      go_wp2
      go_roundw
      case rel =>
        refine ⟨k + 1, A6, c6, M ++ [⟨id, us, tx, A3, N2, c3, T2⟩], by omega, by go_num, HW6.out.apart (p := ⟨Q + 1 + 1 + 1, 1, none⟩) (by show Q ≠ Q + 1 + 1 + 1; omega) _, HR6.out.apart (p := ⟨Q + 1 + 1 + 1, 1, none⟩) (by show Q + 1 ≠ Q + 1 + 1 + 1; omega) _, HT6.out.store 1 _, ?_, key_snoc KM.out HX.out rfl, HB6.out.setCell (p := ⟨Q + 1 + 1 + 1, 1, none⟩) (by rw [HQ.out]; show Q ≤ Q + 1 + 1 + 1; omega) _⟩
        exact OwnQ.storeT (L := M ++ [⟨id, us, tx, A3, N2, c3, T2⟩]) ⟨HO6.out, HS6.out, apt_push KO.out.2.2 HAP.out⟩ HT6.out (by decide) (by decide) _
      case measure => simp [intOf]; omega
    · have i1' : ¬ (k : Int) < (N : Int) := by omega
      have hkN : k = N := by omega
      have HE : Hid (M.map keyI = L.map keyI) := Lib.hid (by
        have h2 := KM.out
        rw [hkN, ← HL.out, List.take_length] at h2
        exact h2)
      have t0 := KT.out.cell 0
      have t1 := KT.out.cell 1
      have r0 := KR.out.cell 0
      have r1 := KR.out.cell 1
      have f0 := KR.out.free 0
      have f1 := KR.out.free 1
      simp at t0 t1 r0 r1
      have hr2 := (KR.out.store 0 (.int .i64 n)).store 1 (.slice A1 k c1)
      have p0 := hr2.cell 0
      have p1 := hr2.cell 1
      simp at p0 p1
      clear hkN hr2
      go_wp2
      refine bodyPost_ret (v := .agg #[.int .i64 n, .slice A1 k c1]) (by simp [results, Try.results55, go_sem, p0, p1]) rfl ?_
      refine ⟨A1, k, c1, M, rfl, ?_, HE.out, ?_⟩
      · rw [HQ.out]
        exact ((KO.out.storeT KR.out (by decide) (by decide) _).storeT (KR.out.store 0 _) (by decide) (by decide) _).from (by omega)
      · rw [HQ.out]
        exact ((HQ.out ▸ KB.out).setCell (p := ⟨Q + 1, 0, none⟩) (Nat.le_succ Q) _).setCell (p := ⟨Q + 1, 1, none⟩) (Nat.le_succ Q) _
end Go.Proofs.Ytinbdibenbplnaa
namespace Go.Proofs.Ytinbdibenbplnaa
open Go.Shelf
def Try.lays109_ren : Go.Shelf.Ren := ⟨fun | 109 => 81 | n => n, fun | 31 => 23 | 9 => 9 | 3 => 3 | 0 => 0 | 4 => 4 | n => n, fun | n => n⟩
theorem Try.lays109 : Go.Proofs.Lays.n109 Try.prog Try.lays109_ren := {
  mixed := by kernel_rfl
  f109 := Try.func81.trans (congrArg some (by kernel_rfl))
  t0 := Try.underlying0
  a0 := Try.isAgg0
  z0 := Try.sizeOf0
  v0 := Try.zeroValue0
  t3 := Try.underlying3
  a3 := Try.isAgg3
  z3 := Try.sizeOf3
  v3 := Try.zeroValue3
  t4 := Try.underlying4
  a4 := Try.isAgg4
  z4 := Try.sizeOf4
  v4 := Try.zeroValue4
  t9 := Try.underlying9
  a9 := Try.isAgg9
  z9 := Try.sizeOf9
  v9 := Try.zeroValue9
  t31 := Try.underlying23
  a31 := Try.isAgg23
  z31 := Try.sizeOf23
  v31 := Try.zeroValue23 }
open Go.Lib in
/-- slices.Index at []string: "Index returns the index of the first occurrence of v in s, or -1 if not present.": IT RETURNS 'Lib.idxOfS (the elements) v'; the world is as it was. 'zs': what the cells behind the slice's address hold (its spare capacity too, if you have it); 'zs.take n': its elements. (LAID: no walk: one application.) -/
theorem Try.slices_Index_string (b off n c : Nat) (zs : List ByteArray) (x : ByteArray) (w : World) (hz : n ≤ zs.length) (hbig : n ≤ 9223372036854775807) (hc : ∀ j, j < zs.length → w.cell? ⟨b, off + j, none⟩ = some (.string (zs.getD j ByteArray.empty))) :
    Calls Try.prog 81 #[.slice (some ⟨b, off, none⟩) n c, .string x] w fun e w' => e = .returned (.int .i64 (Lib.idxOfS (zs.take n) x)) ∧ w' = w := Any.slices_Index_string Try.lays109 b off n c zs x w hz hbig hc
open Go.Lib in
/-- The same at a slice of length 0, a nil one too: no cell is known, none is asked for. (LAID: no walk: one application.) -/
theorem Try.slices_Index_string_empty (a : Option Addr) (c : Nat) (x : ByteArray) (w : World) :
    Calls Try.prog 81 #[.slice a 0 c, .string x] w fun e w' => e = .returned (.int .i64 (Lib.idxOfS [] x)) ∧ w' = w := Any.slices_Index_string_empty Try.lays109 a c x w
def Try.laysNm224_ren : Go.Shelf.Ren := ⟨fun | 24 => 82 | n => n, fun | 24 => 23 | 9 => 9 | 3 => 3 | 4 => 4 | 0 => 0 | n => n, fun | n => n⟩
theorem Try.laysNm224 : Go.Proofs.Lays2.n24 Try.prog Try.laysNm224_ren := {
  mixed := by kernel_rfl
  f24 := Try.func82.trans (congrArg some (by kernel_rfl))
  t0 := Try.underlying0
  a0 := Try.isAgg0
  z0 := Try.sizeOf0
  v0 := Try.zeroValue0
  t3 := Try.underlying3
  a3 := Try.isAgg3
  z3 := Try.sizeOf3
  v3 := Try.zeroValue3
  t4 := Try.underlying4
  a4 := Try.isAgg4
  z4 := Try.sizeOf4
  v4 := Try.zeroValue4
  t9 := Try.underlying9
  a9 := Try.isAgg9
  z9 := Try.sizeOf9
  v9 := Try.zeroValue9
  t24 := Try.underlying23
  a24 := Try.isAgg23
  z24 := Try.sizeOf23
  v24 := Try.zeroValue23
  i9 := by kernel_rfl }
open Go.RowKit Go.Lib Go.Sort in
/-- slices.Delete at []string, over an array. (LAID: no walk: one application.) -/
theorem Try.slices_Delete_string_arr (blk off cap i j : Nat) (d : Array (List UInt8)) (w : World) (hH : Holds encStr w blk off d) (hcap : d.size ≤ cap) (hm : cap ≤ 9223372036854775807) (hij : i ≤ j) (hj : j ≤ d.size) :
    Calls Try.prog 82 #[.slice (some ⟨blk, off, none⟩) d.size cap, .int .i64 i, .int .i64 j] w fun e w' => e = .returned (.slice (some ⟨blk, off, none⟩) (d.size - (j - i)) cap) ∧ ∃ q, w' = putRow encStr (Sort.ahead w q) blk off (d.toList.take i ++ d.toList.drop j ++ List.replicate (j - i) []).toArray := Any.slices_Delete_string_arr Try.laysNm224 blk off cap i j d w hH hcap hm hij hj
open Go.RowKit Go.Lib Go.Sort in
/-- slices.Delete at []string: "Delete modifies s in place by removing the elements s[i:j], and returns the modified slice. Delete panics if j > len(s) or s[i:j] is not a valid slice of s. Delete is O(len(s)-i), so if many items must be deleted, it is better to make a single call deleting them all together than to delete one at a time. Delete zeroes the elements s[len(s)-(j-i):len(s)]. If the result is empty, it has the same nilness as s.": FOR i ≤ j ≤ len(s) IT RETURNS THE SLICE CUT TO len(s) - (j - i) ELEMENTS; ITS CELLS HOLD what stood ahead of i, what stood from j on, then j - i zero values; all else is as it was, but for the count of draws. IN THE WORDS OF slices.Sort's CONTRACT ('Holds', 'putRow'). It asks 'zs.length ≤ cap ≤ 2^63 - 1' (every slice's). (Outside i ≤ j ≤ len(s) it panics: no contract here.) (LAID: no walk: one application.) -/
theorem Try.slices_Delete_string (blk off cap i j : Nat) (zs : List (List UInt8)) (w : World) (hH : Holds encStr w blk off zs.toArray) (hcap : zs.length ≤ cap) (hm : cap ≤ 9223372036854775807) (hij : i ≤ j) (hj : j ≤ zs.length) :
    Calls Try.prog 82 #[.slice (some ⟨blk, off, none⟩) zs.length cap, .int .i64 i, .int .i64 j] w fun e w' => e = .returned (.slice (some ⟨blk, off, none⟩) (zs.length - (j - i)) cap) ∧ ∃ q, w' = putRow encStr (Sort.ahead w q) blk off (zs.take i ++ zs.drop j ++ List.replicate (j - i) []).toArray := Any.slices_Delete_string Try.laysNm224 blk off cap i j zs w hH hcap hm hij hj
open Go.RowKit Go.Lib Go.Sort in
/-- slices.Delete at []string, of an argument, for i ≤ j ≤ n. (LAID: no walk: one application.) -/
theorem Try.slices_Delete_string_cells (b off n c i j : Nat) (Sx : Nat → ByteArray) (w : World) (hcap : n ≤ c) (hm : c ≤ 9223372036854775807) (hij : i ≤ j) (hj : j ≤ n) (hc : ∀ i, i < n → w.cell? ⟨b, off + i, none⟩ = some (.string (Sx i))) (hf : ∀ j, j < n → w.frozen? ⟨b, off + j, none⟩ = false) :
    Calls Try.prog 82 #[.slice (some ⟨b, off, none⟩) n c, .int .i64 i, .int .i64 j] w fun e w' => e = .returned (.slice (some ⟨b, off, none⟩) (n - (j - i)) c) ∧ ∃ q, w' = (w.drewN q).setCells b off (((Lib.strsOf Sx n).take i ++ (Lib.strsOf Sx n).drop j ++ List.replicate (j - i) []).map encStr) := Any.slices_Delete_string_cells Try.laysNm224 b off n c i j Sx w hcap hm hij hj hc hf
open Go.RowKit Go.Lib in
/-- slices.Delete at []string of no element ('Delete(s, 0, 0)'): s comes back; the world is as it was. (LAID: no walk: one application.) -/
theorem Try.slices_Delete_string_empty (a : Option Addr) (c : Nat) (w : World) :
    Calls Try.prog 82 #[.slice a 0 c, .int .i64 0, .int .i64 0] w fun e w' => e = .returned (.slice a 0 c) ∧ w' = w := Any.slices_Delete_string_empty Try.laysNm224 a c w
end Go.Proofs.Ytinbdibenbplnaa
namespace Go.Proofs.Ytinbdibenbplnaa
open Go.RowKit
set_option linter.unusedVariables false

def bL (x : ByteArray) : List UInt8 := x.data.toList
theorem bL_str (x : ByteArray) : encStr (bL x) = Value.string x := by
  cases x with
  | mk d => simp [encStr, bL]
theorem rcells_bL (T : List ByteArray) : rcells stR T = (T.map bL).map encStr := by
  rw [rcells_str, List.map_map]
  exact List.map_congr_left fun x _ => (bL_str x).symm
/-- One text is taken out of a slice of the call's own. -/
theorem lib_del {B N cap c : Nat} {A : Option Addr} {T : List ByteArray} (w : World) (h : ROwn stR w B (.slice A N cap) T) (hc : c < N) :
    Calls Try.prog 82 #[.slice A N cap, .int .i64 (c : Int), .int .i64 ((c + 1 : Nat) : Int)] w fun e w' => e = .returned (.slice A (N - 1) cap) ∧ ROwn stR w' B (.slice A (N - 1) cap) (T.eraseIdx c) ∧ w.grownBy w' (Value.slice A N cap).ownBlock := by
  have hN := h.len.1
  obtain ⟨g, cap', he, hB, hg, hn, hm, hl, hH⟩ := Lib.holds_of_ownsRow (enc := encStr) (zs := T.map bL) (by have := ROwn.row h hN.symm; rw [rcells_bL] at this; exact this) (by intro e; cases e; omega)
  cases he
  have hl2 : (T.map bL).length = N := by simpa using hN.symm
  have hd := Try.slices_Delete_string g 0 cap c (c + 1) (T.map bL) w hH (by rw [hl2]; exact hn) (by unfold maxLen at hm; omega) (by omega) (by rw [hl2]; omega)
  rw [hl2] at hd
  refine hd.mono ?_
  rintro e w' ⟨rfl, q, rfl⟩
  have e1 : N - (c + 1 - c) = N - 1 := by omega
  refine ⟨by rw [e1], ?_, ?_⟩
  · have h2 := Lib.ownsRow_putRow (q := q) (k := N - 1) (ys := (T.map bL).take c ++ (T.map bL).drop (c + 1) ++ List.replicate (c + 1 - c) []) (by have := ROwn.row h hN.symm; rw [rcells_bL] at this; exact this) (by simp; omega) (by omega)
    have e2 : ((T.map bL).take c ++ (T.map bL).drop (c + 1) ++ List.replicate (c + 1 - c) []).take (N - 1) = (T.eraseIdx c).map bL := by
      rw [List.take_append_of_le_length (by simp; omega), List.take_of_length_le (by simp; omega), List.eraseIdx_eq_take_drop_succ, List.map_append, List.map_take, List.map_drop]
    rw [e2, ← rcells_bL] at h2
    exact ROwn.of h2 (by rw [List.length_eraseIdx, if_pos (by omega)]; omega)
  · exact ⟨rfl, rfl, rfl, by simp [Sort.putRow, Sort.mapBlock, Sort.ahead], fun k hk hne => by
      have : g ≠ k := fun e => hne (by rw [e]; rfl)
      simp [Sort.putRow, Sort.mapBlock, Sort.ahead, Array.getElem?_modify, this]⟩
end Go.Proofs.Ytinbdibenbplnaa
namespace Go.Proofs.Ytinbdibenbplnaa
open Go.RowKit
set_option linter.unusedVariables false

section
variable {P : Program} {ops : Array Oper} {Q : Exit → Act → World → Prop} {md : Region.Mode} {C : World → Prop} {m : Nat}
/-- Whatever order is picked: behind each operation but number 'm' the condition holds. -/
def wpTill (P : Program) (md : Region.Mode) (ops : Array Oper) (Q : Exit → Act → World → Prop) (C : World → Prop) (m : Nat) : Nat → Array Bool → Act → World → Prop
  | 0, listed, a, w => Region.ready md ops listed = [] ∧ Q .normal a w
  | n + 1, listed, a, w => (Region.ready md ops listed = [] → Q .normal a w) ∧
      ∀ j ∈ Region.ready md ops listed, wpOp P ops Q j (fun a' w' => (j ≠ m → C w') ∧ wpTill P md ops Q C m n (listed.setIfInBounds j true) a' w') a w
theorem wpTill_any : ∀ (n : Nat) (listed : Array Bool) (a : Act) (w : World), wpTill P md ops Q C m n listed a w → wpAny P md ops Q n listed a w
  | 0, _, _, _, h => h
  | n + 1, _, _, _, h => ⟨h.1, fun j hj => wpOp_mono (fun a' w' h' => wpTill_any n _ a' w' h'.2) (h.2 j hj)⟩
/-- Number 'm' waits for number 'i', by way of others too. -/
def waitsFor (md : Region.Mode) (ops : Array Oper) (i : Nat) : Nat → Nat → Bool
  | 0, _ => false
  | n + 1, m => match ops[m]? with
    | some o => o.after.any fun e => Region.binds md e && ((e.on == i) || waitsFor md ops i n e.on)
    | none => false
/-- Whoever has come up has come up behind those for whom it waits. -/
def shutB (md : Region.Mode) (ops : Array Oper) (listed : Array Bool) : Bool := (List.range ops.size).all fun j => match ops[j]? with
  | some o => !listed.getD j false || o.after.all fun e => !Region.binds md e || listed.getD e.on false
  | none => true
def ShutL (md : Region.Mode) (ops : Array Oper) (listed : Array Bool) : Prop := ∀ j o, ops[j]? = some o → listed.getD j false = true → ∀ e ∈ o.after, Region.binds md e = true → listed.getD e.on false = true
theorem shutL_of {listed : Array Bool} (h : shutB md ops listed = true) : ShutL md ops listed := fun j o ho hl e he hb => by
  unfold shutB at h
  have hj : j < ops.size := (Array.getElem?_eq_some_iff.1 ho).1
  have h1 := List.all_eq_true.1 h j (List.mem_range.2 hj)
  rw [ho] at h1
  simp only [hl, Bool.not_true, Bool.false_or] at h1
  have h2 := Array.all_eq_true_iff_forall_mem.1 h1 e he
  rw [hb] at h2
  simpa using h2
theorem shutL_set {listed : Array Bool} {j : Nat} (h : ShutL md ops listed) (hj : j ∈ Region.ready md ops listed) : ShutL md ops (listed.setIfInBounds j true) := fun k o ho hl e he hb => by
  refine getD_set_true ?_
  obtain ⟨_, o', ho', hall⟩ := mem_ready.1 hj
  by_cases hjk : j = k
  · subst hjk
    rw [ho] at ho'
    cases ho'
    exact hall e he hb
  · rw [getD_set_ne false hjk] at hl
    exact h k o ho hl e he hb
theorem waits_listed {i : Nat} {listed : Array Bool} (h : ShutL md ops listed) : ∀ (n j : Nat), listed.getD j false = true → waitsFor md ops i n j = true → listed.getD i false = true
  | 0, j, _, hw => by cases hw
  | n + 1, j, hl, hw => by
    unfold waitsFor at hw
    cases ho : ops[j]? with
    | none => rw [ho] at hw; cases hw
    | some o =>
      rw [ho] at hw
      simp only [Array.any_eq_true, Bool.and_eq_true, Bool.or_eq_true, beq_iff_eq] at hw
      obtain ⟨k, hk, hb, he⟩ := hw
      have h1 := h j o ho hl o.after[k] (Array.getElem_mem hk) hb
      rcases he with he | he
      · rw [he] at h1; exact h1
      · exact waits_listed h n _ h1 he
theorem not_ready {i j n : Nat} {listed : Array Bool} (h : ShutL md ops listed) (hw : waitsFor md ops i n m = true) (hi : i ∈ Region.ready md ops listed) (hj : j ∈ Region.ready md ops listed) : j ≠ m := by
  rintro rfl
  have h0 := (mem_ready.1 hi).1
  obtain ⟨_, o, ho, hall⟩ := mem_ready.1 hj
  have key : listed.getD i false = true := by
    cases n with
    | zero => cases hw
    | succ n =>
      unfold waitsFor at hw
      rw [ho] at hw
      simp only [Array.any_eq_true, Bool.and_eq_true, Bool.or_eq_true, beq_iff_eq] at hw
      obtain ⟨k, hk, hb, he⟩ := hw
      have h1 := hall o.after[k] (Array.getElem_mem hk) hb
      rcases he with he | he
      · rw [he] at h1; exact h1
      · exact waits_listed h n _ h1 he
  rcases Nat.lt_or_ge i listed.size with h' | h'
  · simp [h'] at h0 key; rw [h0] at key; cases key
  · simp [Array.getElem?_eq_none h'] at key
theorem wpTill_first {i : Nat} {oi : Oper} {v : Value} (hi : ops[i]? = some oi) (hsel : ∀ (j : Nat) (o : Oper) cs b, ops[j]? = some o → o.op ≠ .select cs b)
    (hQ : ∀ c a w, Q (.panic c) (a.put oi.dst v) w → Q (.panic c) a w) {nw : Nat} (hw : waitsFor md ops i nw m = true) :
    ∀ (n : Nat) (listed : Array Bool) (a : Act) (w : World), ShutL md ops listed →
      (∀ j oj, ops[j]? = some oj → j ≠ i → listed.getD j true = false → (∀ e ∈ oj.after, Region.binds md e = true → e.on ≠ i) → oi.apart ops oj = true) →
      i ∈ Region.ready md ops listed → YieldsIf P ops C oi v a → C w → wpTill P md ops Q C m n (listed.setIfInBounds i true) (a.put oi.dst v) w → wpTill P md ops Q C m (n + 1) listed a w := by
  intro n
  induction n with
  | zero =>
    intro listed a w _ _ hr hy hC H
    refine ⟨fun h => (by rw [h] at hr; cases hr), fun j hj => ?_⟩
    rcases Nat.decEq j i with hji | hji
    · have := ready_mono hj hji
      rw [H.1] at this
      cases this
    · subst hji
      exact hy.wpOp hi hC ⟨fun _ => hC, H⟩
  | succ n ih =>
    intro listed a w hsh hfree hr hy hC H
    refine ⟨fun h => (by rw [h] at hr; cases hr), fun j hj => ?_⟩
    rcases Nat.decEq j i with hji | hji
    · obtain ⟨hjun, oj, hoj, hall⟩ := mem_ready.1 hj
      have hnot : ∀ e ∈ oj.after, Region.binds md e = true → e.on ≠ i := fun e he hb heq => by
        have h1 := hall e he hb
        have h0 := (mem_ready.1 hr).1
        rw [heq] at h1
        rcases Nat.lt_or_ge i listed.size with h' | h'
        · simp [h'] at h0 h1; rw [h0] at h1; cases h1
        · simp [Array.getElem?_eq_none h'] at h1
      have h2 := wpOp_putIf hoj (hfree j oj hoj hji hjun hnot) (fun cs b => hsel i oi cs b hi) (fun cs b => hsel j oj cs b hoj) hQ hy (H.2 j (ready_mono hj hji))
      refine wpOp_mono (fun a' w' h3 => ?_) h2
      have hc := h3.2.1 (not_ready hsh hw hr hj)
      refine ⟨fun _ => hc, ih _ a' w' (shutL_set hsh hj) (fun k ok hk hki hun hno => hfree k ok hk hki ?_ hno) (ready_mono hr (Ne.symm hji)) h3.1 hc ?_⟩
      · by_cases hjk : j = k
        · subst hjk; exact hjun
        · rw [getD_set_ne true hjk] at hun; exact hun
      · rw [Array.setIfInBounds_comm _ _ hji]
        exact h3.2.2
    · subst hji
      exact hy.wpOp hi hC ⟨fun _ => hC, H⟩
/-- A read is taken first. -/
theorem wpTill_take {i : Nat} {oi : Oper} {v : Value} {n : Nat} {listed : Array Bool} {a : Act} {w : World} (hi : ops[i]? = some oi)
    (hs : Region.noSelect ops = true) (hf : Region.free md ops listed i = true) (hr : (Region.ready md ops listed).contains i = true) (hsh : shutB md ops listed = true) (hw : waitsFor md ops i 40 m = true)
    (hQ : ∀ c a w, Q (.panic c) (a.put oi.dst v) w → Q (.panic c) a w) (hC : C w) (hg : Region.wanted oi (yielded ops a.tmps) = true) (hy : ∀ w, C w → (execOp a.eval oi).run P w = .ok (.value v) w)
    (h : wpTill P md ops Q C m n (listed.setIfInBounds i true) (a.put oi.dst v) w) : wpTill P md ops Q C m (n + 1) listed a w :=
  wpTill_first hi (Region.noSelect_spec hs) hQ hw n listed a w (shutL_of hsh) (Region.free_spec hi hf) (by simpa using hr) (.inl ⟨hg, hy⟩) hC h
/-- One alone may come up. -/
theorem wpTill_one {i : Nat} {o : Oper} {n : Nat} {listed : Array Bool} {a : Act} {w : World} (hr : Region.ready md ops listed = [i]) (ho : ops[i]? = some o)
    (h : ∀ K : Act → World → Prop, Shut (∀ a w, (i ≠ m → C w) → wpTill P md ops Q C m n (listed.setIfInBounds i true) a w → K a w) → if Region.wanted o (yielded ops a.tmps) = true then Oper.wp P o a w K Q else K (a.put o.dst undef) w) : wpTill P md ops Q C m (n + 1) listed a w := by
  refine ⟨fun h0 => (by rw [hr] at h0; cases h0), fun j hj => ?_⟩
  rw [hr] at hj
  simp only [List.mem_singleton] at hj
  subst hj
  have h1 := h (fun a' w' => (j ≠ m → C w') ∧ wpTill P md ops Q C m n (listed.setIfInBounds j true) a' w') (fun a w h1 h2 => ⟨h1, h2⟩)
  unfold wpOp
  simp only [ho]
  split
  · rename_i hw
    rw [if_pos hw] at h1
    exact .inl h1
  · rename_i hw
    rw [if_neg hw] at h1
    exact h1
theorem wpTill_done {listed : Array Bool} {a : Act} {w : World} (hr : Region.ready md ops listed = []) (h : Q .normal a w) : ∀ n, wpTill P md ops Q C m n listed a w
  | 0 => ⟨hr, h⟩
  | _ + 1 => ⟨fun _ => h, by rw [hr]; simp⟩
theorem wp_region_till {id : Nat} {a : Act} {w : World} (C : World → Prop) (m : Nat) (hm : P.follows .mixedOrders = true)
    (h : wpTill P .any ops Q C m ops.size (Array.replicate ops.size false) a w.drew) : (Code.region id ops true).wp P Q a w :=
  wp_region_any hm (wpTill_any _ _ _ _ h)
end
end Go.Proofs.Ytinbdibenbplnaa
namespace Go.Proofs.Ytinbdibenbplnaa
open Go.RowKit
set_option linter.unusedVariables false

section
variable {w w' : World} {B D i g : Nat} {n : Int} {X : WX} {v v' : Value} {q : QI} {H H' : List Int}
theorem Spl.linkW (h : Spl w B D n X v) (hi : i ≤ X.length) : ∃ t cs, Whole w (lnkw D X i).block t cs ∧ t ≠ 3 ∧ t ≠ 9 := by
  cases i with
  | zero => exact ⟨_, _, h.head, by decide, by decide⟩
  | succ j =>
    obtain ⟨⟨g, q⟩, hx⟩ : ∃ y, X[j]? = some y := ⟨_, List.getElem?_eq_getElem (by omega)⟩
    rw [lnkw_succ hx]
    exact ⟨_, _, (h.node j g q hx).2, by decide, by decide⟩
theorem Spl.linkG (h : Spl w B D n X v) (hx : X[i]? = some (g, q)) : g ≠ (lnkw D X i).block := by
  cases i with
  | zero => exact h.neD hx
  | succ j =>
    have hi := (List.getElem?_eq_some_iff.1 hx).1
    obtain ⟨⟨g0, q0⟩, hx0⟩ : ∃ y, X[j]? = some y := ⟨_, List.getElem?_eq_getElem (by omega)⟩
    rw [lnkw_succ hx0]
    exact h.ne hx hx0 (by omega)
theorem SpH.form (h : SpH w B D n X v H) (hx : X[i]? = some (g, q)) : ∃ A n0 cap, v = .slice A (n0 + 1) cap ∧ H.length = n0 + 1 ∧ X.length = n0 + 1 := by
  obtain ⟨A, cap, hv, _⟩ := h.o.form
  have hl := h.pm.length_eq
  simp at hl
  have hi := (List.getElem?_eq_some_iff.1 hx).1
  exact ⟨A, H.length - 1, cap, by rw [hv]; congr 1; omega, by omega, by omega⟩
end
/-- A node has been cut out. -/
def CutI (w : World) (B D : Nat) (n : Int) (X : WX) (i g : Nat) (q : QI) (e : Ending) (w' : World) : Prop :=
  ∃ v' H', e = .returned (.tuple #[]) ∧ SpH w' B D n (X.eraseIdx i) v' H' ∧ Below B w w' ∧ Whole w' g 105 (wcs q (nxw X (i + 1)))
set_option maxRecDepth 20000 in
set_option maxHeartbeats 8000000 in
theorem sp_cut {B D i g : Nat} {n : Int} {X : WX} {v : Value} {H : List Int} {q : QI} (w : World) (h : SpH w B D n X v H) (hx : X[i]? = some (g, q)) (hX : X.length ≤ 1000) (hB : B ≤ w.heap.size) :
    Calls Try.prog 83 #[.pointer (some ⟨D, 0, none⟩), .pointer (some (lnkw D X i))] w (CutI w B D n X i g q) := by
  obtain ⟨A, n0, cap, rfl, hHl, hXl⟩ := h.form hx
  have HH := Lib.hid h
  have HX := Lib.hid hx
  have HIL := Lib.hid (List.getElem?_eq_some_iff.1 hx).1
  have HHL := Lib.hid hHl
  have HXL := Lib.hid hXl
  have HBB := Lib.hid hB
  obtain ⟨pb, po, hp⟩ := lnkw_spot D X i
  have HP0 := Lib.hid hp
  obtain ⟨l0, -, l2, l3⟩ := HH.out.s.link (Nat.le_of_lt HIL.out)
  rw [nxw_some hx] at l0
  rw [hp] at l0 l3 ⊢
  obtain ⟨c0, -, -, -, c4⟩ := HH.out.s.cells hx
  have d2 := HH.out.s.head.cell 2
  simp at d2
  have hn0 : n0 < 1000 := by omega
  have HN0 := Lib.hid hn0
  clear h hx hXl hHl hp l2 c4
  go_enter Try.func83, Try.ntmps83
  go_wp2
  refine wp_region_till (fun w' => w'.cell? ⟨D, 2, none⟩ = some (.slice A (n0 + 1) cap) ∧ w'.cell? ⟨pb, po, none⟩ = some (.pointer (some ⟨g, 0, none⟩)) ∧ w'.cell? ⟨g, 0, none⟩ = some (.int .i64 q.id)) 16 (by kernel_rfl) ?_
  refine wpTill_take (i := 0) (v := ?v0) rfl (by kernel_rfl) (by kernel_rfl) (by kernel_rfl) (by kernel_rfl) (by kernel_rfl) (fun _ _ _ h => h) ⟨d2, l0, c0⟩ (by rfl) ?hy0 ?r0
  case hy0 =>
    rintro wz ⟨z0, z1, z2⟩
    go_simp
    try with_reducible rfl
  try simp only [Act.put]
  refine wpTill_take (i := 1) (v := ?v1) rfl (by kernel_rfl) (by kernel_rfl) (by kernel_rfl) (by kernel_rfl) (by kernel_rfl) (fun _ _ _ h => h) ⟨d2, l0, c0⟩ (by rfl) ?hy1 ?r1
  case hy1 =>
    rintro wz ⟨z0, z1, z2⟩
    go_simp
    try with_reducible rfl
  try simp only [Act.put]
  refine wpTill_take (i := 2) (v := ?v2) rfl (by kernel_rfl) (by kernel_rfl) (by kernel_rfl) (by kernel_rfl) (by kernel_rfl) (fun _ _ _ h => h) ⟨d2, l0, c0⟩ (by rfl) ?hy2 ?r2
  case hy2 =>
    rintro wz ⟨z0, z1, z2⟩
    go_simp
    try with_reducible rfl
  try simp only [Act.put]
  refine wpTill_take (i := 3) (v := ?v3) rfl (by kernel_rfl) (by kernel_rfl) (by kernel_rfl) (by kernel_rfl) (by kernel_rfl) (fun _ _ _ h => h) ⟨d2, l0, c0⟩ (by rfl) ?hy3 ?r3
  case hy3 =>
    rintro wz ⟨z0, z1, z2⟩
    go_simp
    try with_reducible rfl
  try simp only [Act.put]
  refine wpTill_take (i := 4) (v := ?v4) rfl (by kernel_rfl) (by kernel_rfl) (by kernel_rfl) (by kernel_rfl) (by kernel_rfl) (fun _ _ _ h => h) ⟨d2, l0, c0⟩ (by rfl) ?hy4 ?r4
  case hy4 =>
    rintro wz ⟨z0, z1, z2⟩
    go_simp
    try with_reducible rfl
  try simp only [Act.put]
  refine wpTill_take (i := 5) (v := ?v5) rfl (by kernel_rfl) (by kernel_rfl) (by kernel_rfl) (by kernel_rfl) (by kernel_rfl) (fun _ _ _ h => h) ⟨d2, l0, c0⟩ (by rfl) ?hy5 ?r5
  case hy5 =>
    rintro wz ⟨z0, z1, z2⟩
    go_simp
    try with_reducible rfl
  try simp only [Act.put]
  refine wpTill_take (i := 6) (v := ?v6) rfl (by kernel_rfl) (by kernel_rfl) (by kernel_rfl) (by kernel_rfl) (by kernel_rfl) (fun _ _ _ h => h) ⟨d2, l0, c0⟩ (by rfl) ?hy6 ?r6
  case hy6 =>
    rintro wz ⟨z0, z1, z2⟩
    go_simp
    try with_reducible rfl
  try simp only [Act.put]
  refine wpTill_take (i := 7) (v := ?v7) rfl (by kernel_rfl) (by kernel_rfl) (by kernel_rfl) (by kernel_rfl) (by kernel_rfl) (fun _ _ _ h => h) ⟨d2, l0, c0⟩ (by rfl) ?hy7 ?r7
  case hy7 =>
    rintro wz ⟨z0, z1, z2⟩
    go_simp
    try with_reducible rfl
  try simp only [Act.put]
  refine wpTill_take (i := 8) (v := ?v8) rfl (by kernel_rfl) (by kernel_rfl) (by kernel_rfl) (by kernel_rfl) (by kernel_rfl) (fun _ _ _ h => h) ⟨d2, l0, c0⟩ (by rfl) ?hy8 ?r8
  case hy8 =>
    rintro wz ⟨z0, z1, z2⟩
    go_simp
    try with_reducible rfl
  try simp only [Act.put]
  refine wpTill_take (i := 9) (v := ?v9) rfl (by kernel_rfl) (by kernel_rfl) (by kernel_rfl) (by kernel_rfl) (by kernel_rfl) (fun _ _ _ h => h) ⟨d2, l0, c0⟩ (by rfl) ?hy9 ?r9
  case hy9 =>
    rintro wz ⟨z0, z1, z2⟩
    go_simp
    try with_reducible rfl
  try simp only [Act.put]
  refine wpTill_take (i := 10) (v := ?v10) rfl (by kernel_rfl) (by kernel_rfl) (by kernel_rfl) (by kernel_rfl) (by kernel_rfl) (fun _ _ _ h => h) ⟨d2, l0, c0⟩ (by rfl) ?hy10 ?r10
  case hy10 =>
    rintro wz ⟨z0, z1, z2⟩
    go_simp
    try with_reducible rfl
  try simp only [Act.put]
  refine wpTill_take (i := 11) (v := ?v11) rfl (by kernel_rfl) (by kernel_rfl) (by kernel_rfl) (by kernel_rfl) (by kernel_rfl) (fun _ _ _ h => h) ⟨d2, l0, c0⟩ (by rfl) ?hy11 ?r11
  case hy11 =>
    rintro wz ⟨z0, z1, z2⟩
    go_simp
    try with_reducible rfl
  try simp only [Act.put]
  refine wpTill_take (i := 12) (v := ?v12) rfl (by kernel_rfl) (by kernel_rfl) (by kernel_rfl) (by kernel_rfl) (by kernel_rfl) (fun _ _ _ h => h) ⟨d2, l0, c0⟩ (by rfl) ?hy12 ?r12
  case hy12 =>
    rintro wz ⟨z0, z1, z2⟩
    go_simp
    try with_reducible rfl
  try simp only [Act.put]
  refine wpTill_take (i := 13) (v := ?v13) rfl (by kernel_rfl) (by kernel_rfl) (by kernel_rfl) (by kernel_rfl) (by kernel_rfl) (fun _ _ _ h => h) ⟨d2, l0, c0⟩ (by rfl) ?hy13 ?r13
  case hy13 =>
    rintro wz ⟨z0, z1, z2⟩
    go_simp
    try with_reducible rfl
  try simp only [Act.put]
  refine wpTill_take (i := 14) (v := ?v14) rfl (by kernel_rfl) (by kernel_rfl) (by kernel_rfl) (by kernel_rfl) (by kernel_rfl) (fun _ _ _ h => h) ⟨d2, l0, c0⟩ (by rfl) ?hy14 ?r14
  case hy14 =>
    rintro wz ⟨z0, z1, z2⟩
    go_simp
    try with_reducible rfl
  try simp only [Act.put]
  refine wpTill_one (i := 15) (by kernel_rfl) rfl (fun K hK => ?_)
  go_simp
  refine (heap_index w.drew (HH.out.o.drewN 1) (by have := HN0.out; omega)).mono ?_
  rintro e w2 ⟨rfl, hpost⟩
  obtain ⟨j, hj⟩ : ∃ j : Nat, e = .returned (.int .i64 (j : Int)) ∧ j < n0 + 1 ∧ hat H j = q.id := by
    rcases hpost with ⟨j, h1, h2, h3⟩ | ⟨_, h2⟩
    · exact ⟨j, h1, h2, h3⟩
    · exact absurd (HH.out.pm.mem_iff.2 (List.mem_map.2 ⟨(g, q), List.mem_of_getElem? HX.out, rfl⟩)) h2
  obtain ⟨rfl, hj1, hj2⟩ := hj
  have HJ1 := Lib.hid hj1
  have HJ2 := Lib.hid hj2
  clear hpost hj1 hj2
  refine hK.out _ _ (fun _ => ⟨d2, l0, c0⟩) ?_
  clear hK K
  try simp only [Act.put]
  refine wpTill_one (i := 16) (by kernel_rfl) rfl (fun K hK => ?_)
  go_simp
  refine (heap_remove (i := j) w.drew ((HH.out.s.hp HH.out.o).drewN 1) (by have := HN0.out; omega) HJ1.out HH.out.hp).mono ?_
  rintro e w3 ⟨H', rfl, hpm, hto, hhp, hst⟩
  have HS3 := Lib.hid (HH.out.s.drew.hstep hst (HH.out.o.drewN 1) hhp.2.1)
  have HO3 := Lib.hid hhp.2.1
  have HT3 := Lib.hid hto
  have HB3 := Lib.hid ((below_drewN' (Below.refl B w) 1).trans (hst.below (HH.out.o.drewN 1) hhp.2.1 HH.out.s.lo HBB.out))
  have HPM3 : Hid (H'.Perm ((X.eraseIdx i).map fun y => y.2.id)) := Lib.hid (by
    rw [HJ2.out] at hpm
    exact heap_rest (HH.out.pm.trans (erase_ids HX.out)) hpm)
  clear hpm hto hhp hst
  refine hK.out _ _ (fun h => absurd rfl h) ?_
  clear hK K
  try simp only [Act.put]
  refine wpTill_done (by kernel_rfl) ?_ _
  obtain ⟨m0, m1, m2, m3⟩ := HS3.out.link (Nat.le_of_lt HIL.out)
  obtain ⟨k0, k1, k2, k3, k4⟩ := HS3.out.cells HX.out
  have hcut := HS3.out.cut HIL.out
  obtain ⟨tl, cl, hwl, ht1, ht2⟩ := HS3.out.linkW (Nat.le_of_lt HIL.out)
  have HOC := Lib.hid (HO3.out.store (p := lnkw D X i) (HO3.out.whole hwl ht1) (.pointer (nxw X (i + 1))))
  have HGC := Lib.hid ((HS3.out.node i g q HX.out).2.apart (p := lnkw D X i) (HS3.out.linkG HX.out) (.pointer (nxw X (i + 1))))
  have HBC := Lib.hid (HB3.out.setCell m2 (.pointer (nxw X (i + 1))))
  have HCUT := Lib.hid hcut
  rw [nxw_some HX.out] at m0
  rw [HP0.out] at m0 m1 HOC HGC HBC HCUT
  clear hcut hwl m2 m3 k0 k1 k2 k3 d2 l0 c0
  go_wp2
  refine bodyPost_end (v := .tuple #[]) (by simp [results, Try.results83]) rfl ?_
  exact ⟨_, H', rfl, ⟨HCUT.out, HOC.out, HT3.out, HPM3.out⟩, HBC.out, HGC.out⟩
/-- A spool of a queue's items, the latest first. -/
def LinkQ (w : World) (n : Int) (K : List QK) (e : Ending) (w' : World) : Prop := ∃ D X v H, e = .returned (.tuple #[.pointer (some ⟨D, 0, none⟩), .bool true]) ∧ SpH w' w.heap.size D n X v H ∧ (X.map fun y => keyI y.2) = K.reverse ∧ Below w.heap.size w w'
theorem spl_new (w : World) {B D : Nat} (n : Int) (hD : w.heap.size = D) (hB : B ≤ D) : SpH (w.alloc (.cells #[.int .i64 n, .pointer none, .slice none 0 0] 100)) B D n [] (.slice none 0 0) [] := by
  subst hD
  exact ⟨⟨Whole.made w _ _, (fun i g q hx => by simp at hx), List.Pairwise.nil, (fun y hy => by cases hy), List.Pairwise.nil, hB⟩, ROwn.nil _ _, (fun k k0 hk => by simp at hk), List.Perm.nil⟩
set_option maxRecDepth 20000 in
set_option maxHeartbeats 8000000 in
theorem link_q_no {n : Int} {A : Option Addr} {N cap : Nat} {L : List QI} (w : World) (h : QIn w A N cap L) (hv : vQ n L = false) : Calls Try.prog 52 #[.agg #[.int .i64 n, .slice A N cap]] w fun e w' => e = .returned (.tuple #[.pointer none, .bool false]) ∧ Below w.heap.size w w' := by
  obtain ⟨Q, hQ⟩ : ∃ Q, w.heap.size = Q := ⟨_, rfl⟩
  have HV := Lib.hid hv
  obtain ⟨w1, hw1⟩ : ∃ w1, w.alloc (.cells #[.int .i64 n, .slice A N cap] 31) = w1 := ⟨_, rfl⟩
  have HW1 := Lib.hid (show Whole w1 Q 31 #[.int .i64 n, .slice A N cap] by rw [← hw1, ← hQ]; exact Whole.made w _ _)
  have HB1 := Lib.hid (show Below w.heap.size w w1 by rw [← hw1]; exact below_new w _)
  have H1 := Lib.hid (h.below HB1.out (Nat.le_refl _))
  have a0 := HW1.out.cell 0
  have a1 := HW1.out.cell 1
  simp at a0 a1
  clear h hv
  go_enter Try.func52, Try.ntmps52
  go_wp2_with fail
  refine (iqv_at HV.out w1 H1.out).mono ?_
  rintro e w2 ⟨rfl, hb⟩
  have HB2 := Lib.hid (HB1.out.trans (hb.mono HB1.out.size))
  clear hb
  go_wp2
  go_ret2
  exact ⟨rfl, HB2.out⟩
set_option maxRecDepth 20000 in
set_option maxHeartbeats 8000000 in
theorem link_q_yes {n : Int} {A : Option Addr} {N cap : Nat} {L : List QI} (w : World) (h : QIn w A N cap L) (hv : vQ n L = true) : Calls Try.prog 52 #[.agg #[.int .i64 n, .slice A N cap]] w (LinkQ w n (L.map keyI)) := by
  obtain ⟨Q, hQ⟩ : ∃ Q, w.heap.size = Q := ⟨_, rfl⟩
  have HQ := Lib.hid hQ
  have HV := Lib.hid hv
  have hL := h.1
  have hN6 : N ≤ 6 := by rw [← hL]; exact (vQ_parts hv).1
  have HL := Lib.hid hL
  obtain ⟨w1, hw1⟩ : ∃ w1, w.alloc (.cells #[.int .i64 n, .slice A N cap] 31) = w1 := ⟨_, rfl⟩
  have HW1 := Lib.hid (show Whole w1 Q 31 #[.int .i64 n, .slice A N cap] by rw [← hw1, ← hQ]; exact Whole.made w _ _)
  have HB1 := Lib.hid (show Below w.heap.size w w1 by rw [← hw1]; exact below_new w _)
  have H0 := Lib.hid h
  have H1 := Lib.hid (h.below HB1.out (Nat.le_refl _))
  have a0 := HW1.out.cell 0
  have a1 := HW1.out.cell 1
  simp at a0 a1
  clear h hv hL
  go_enter Try.func52, Try.ntmps52
  go_wp2_with fail
  refine (iqv_at HV.out w1 H1.out).mono ?_
  rintro e w2 ⟨rfl, hb⟩
  have HW2 := Lib.hid (HW1.out.below hb HW1.out.lt)
  have HB2 := Lib.hid (HB1.out.trans (hb.mono HB1.out.size))
  have HZ2 : Hid (Q < w2.heap.size) := Lib.hid HW2.out.lt
  obtain ⟨D, hD⟩ : ∃ D, w2.heap.size = D := ⟨_, rfl⟩
  have HDD := Lib.hid hD
  obtain ⟨w3, hw3⟩ : ∃ w3, w2.alloc (.cells #[.int .i64 n, .pointer none, .slice none 0 0] 100) = w3 := ⟨_, rfl⟩
  have HS3 := Lib.hid (show SpH w3 Q D n [] (.slice none 0 0) [] by rw [← hw3]; exact spl_new w2 n hD (by have := HZ2.out; omega))
  have HW3 := Lib.hid (show Whole w3 Q 31 #[.int .i64 n, .slice A N cap] by rw [← hw3]; exact HW2.out.alloc _)
  have HB3 := Lib.hid (show Below w.heap.size w w3 by rw [← hw3]; exact HB2.out.alloc HB2.out.size _)
  have b0 := HW2.out.cell 0
  have b1 := HW3.out.cell 1
  simp at b0 b1
  clear hb a0 a1
  go_wp2
  clear hw1 hw3 b0 hD
  go_loopw [17] (fun iv wr => ∃ (k : Nat) (X : WX) (v : Value) (H : List Int), k ≤ N ∧ iv = .int .i64 (k : Int) ∧ Hid (SpH wr Q D n X v H) ∧ Hid ((X.map fun y => keyI y.2) = ((L.take k).map keyI).reverse) ∧ Hid (Below w.heap.size w wr)) (fun iv _ => N - (intOf iv).toNat)
  case atStart => exact ⟨0, [], _, [], Nat.zero_le _, rfl, HS3, rfl, HB3⟩
  case round =>
    obtain ⟨k, X, v, H, hk, rfl, KS, KX, KB⟩ := hrel
    by_cases hlt : k < N
    · have i0 : (0 : Int) ≤ (k : Int) := by omega
      have i1 : (k : Int) < (N : Int) := by omega
      obtain ⟨q, hx⟩ : ∃ x, L[k]? = some x := ⟨_, List.getElem?_eq_getElem (by rw [HL.out]; exact hlt)⟩
      have HX := Lib.hid hx
      obtain ⟨id, us, tx, A2, N2, cap2, T2⟩ := q
      have KH := Lib.hid (H0.out.below KB.out (Nat.le_refl _))
      obtain ⟨b, o, rfl, hb, x0, x1, x2, x3⟩ := qi_at KH.out.2.2.1 hx
      simp only at x0 x1 x2 x3
      have HT2 := Lib.hid (KH.out.2.2.2.2.2 _ (List.mem_of_getElem? hx)).2
      obtain ⟨I, hI⟩ : ∃ I, wr.heap.size = I := ⟨_, rfl⟩
      obtain ⟨w4, hw4⟩ : ∃ w4, wr.alloc (.cells #[.int .i64 id, .string us, .string tx, .slice A2 N2 cap2] 38) = w4 := ⟨_, rfl⟩
      have HI4 := Lib.hid (show Whole w4 I 38 #[.int .i64 id, .string us, .string tx, .slice A2 N2 cap2] by rw [← hw4, ← hI]; exact Whole.made wr _ _)
      have HB4 := Lib.hid (show Below wr.heap.size wr w4 by rw [← hw4]; exact below_new wr _)
      have HS4 := Lib.hid (KS.out.below HB4.out)
      have HU4 := Lib.hid (HT2.out.below HB4.out (Nat.le_refl _))
      have q0 := HI4.out.cell 0
      have q1 := HI4.out.cell 1
      have q2 := HI4.out.cell 2
      have q3 := HI4.out.cell 3
      simp at q0 q1 q2 q3
      have HXL : Hid (X.length ≤ 1000) := Lib.hid (by
        have := congrArg List.length KX.out
        simp at this
        omega)
      have HBQ : Hid (Q ≤ w4.heap.size) := Lib.hid (by have := HB4.out.size; have := KS.out.s.head.lt; have := KS.out.s.lo; omega)
      clear hx
      go_wp2_with fail
      refine (sp_put id us tx T2 A2 N2 cap2 w4 HS4.out HU4.out HXL.out HBQ.out).mono ?_
      rintro e w5 ⟨G, q, v5, H5, rfl, hs5, hk5, hb5⟩
      have HS5 := Lib.hid hs5
      have HK5 : Hid ((((G, q) :: X).map fun y => keyI y.2) = ((L.take (k + 1)).map keyI).reverse) := Lib.hid (by
        rw [List.map_cons, KX.out, List.take_add_one, HX.out, List.map_append, List.reverse_append]
        show keyI q :: _ = _
        rw [hk5]
        rfl)
      have HB5 := Lib.hid ((KB.out.trans (HB4.out.mono KB.out.size)).trans (by rw [HQ.out]; exact hb5))
      clear hs5 hk5 hb5
      go_wp2
      go_roundw
      case rel => exact ⟨k + 1, (G, q) :: X, v5, H5, by omega, by go_num, HS5, HK5, HB5⟩
      case measure => simp [intOf]; omega
    · have i1 : ¬ (k : Int) < (N : Int) := by omega
      have hkN : k = N := by omega
      have HE : Hid ((X.map fun y => keyI y.2) = (L.map keyI).reverse) := Lib.hid (by
        have h2 := KX.out
        rw [hkN, ← HL.out, List.take_length] at h2
        exact h2)
      clear hkN
      go_wp2
      go_ret2
      exact ⟨D, X, v, H, rfl, by rw [HQ.out]; exact KS.out, HE.out, KB.out⟩
end Go.Proofs.Ytinbdibenbplnaa
namespace Go.Proofs.Ytinbdibenbplnaa
open Go.RowKit
set_option linter.unusedVariables false

theorem SpH.drewN {w : World} {B D : Nat} {n : Int} {X : WX} {v : Value} {H : List Int} (h : SpH w B D n X v H) (m : Nat) : SpH (w.drewN m) B D n X v H := ⟨h.s.drewN m, h.o.drewN m, h.hp, h.pm⟩
theorem SpH.next {w : World} {B D : Nat} {n : Int} {X : WX} {v : Value} {H : List Int} (h : SpH w B D n X v H) (m : Int) : SpH (w.setCell ⟨D, 0, none⟩ (.int .i64 m)) B D m X v H := ⟨h.s.next m, h.o.store (p := ⟨D, 0, none⟩) (h.o.whole h.s.head (by decide)) _, h.hp, h.pm⟩
/-- A letter was put behind all others. -/
def AddI (w : World) (B D : Nat) (n : Int) (X : WX) (us tx : ByteArray) (T : List ByteArray) (e : Ending) (w' : World) : Prop :=
  ∃ G q v H, e = .returned (.bool true) ∧ SpH w' B D (n + 1) ((G, q) :: X) v H ∧ keyI q = (n, us, tx, T) ∧ Below B w w'
set_option maxRecDepth 20000 in
set_option maxHeartbeats 8000000 in
theorem sp_add_no {B D : Nat} {n : Int} {X : WX} {v : Value} {H : List Int} (us tx : ByteArray) (A : Option Addr) (N cap : Nat) (w : World) (h : SpH w B D n X v H) (hX : X.length ≤ 6) (hno : X.length = 6 ∨ 99 < n) :
    Calls Try.prog 53 #[.pointer (some ⟨D, 0, none⟩), .agg #[.string us, .slice A N cap, .string tx]] w fun e w' => e = .returned (.bool false) ∧ Below w.heap.size w w' := by
  obtain ⟨AH, capH, rfl, _⟩ := h.o.form
  have hl := h.pm.length_eq
  simp at hl
  obtain ⟨Z, hZ⟩ : ∃ Z, X.length = Z := ⟨_, rfl⟩
  rw [hl, hZ] at h
  rw [hZ] at hX hno
  obtain ⟨w1, hw1⟩ : ∃ w1, w.alloc (.cells #[.string us, .slice A N cap, .string tx] 25) = w1 := ⟨_, rfl⟩
  have HB1 := Lib.hid (show Below w.heap.size w w1 by rw [← hw1]; exact below_new w _)
  have H1 := Lib.hid (h.below HB1.out)
  have d0 := H1.out.s.head.cell 0
  have d2 := H1.out.s.head.cell 2
  simp at d0 d2
  clear h hl hZ
  go_enter Try.func53, Try.ntmps53
  by_cases h6 : Z = 6
  · subst h6
    go_wp2
    go_ret
    exact ⟨rfl, HB1.out⟩
  · have h6' : ((Z : Int) == 6) = false := beq_eq_false_iff_ne.2 (by omega)
    have h9 : (99 : Int) < n := by omega
    clear hno h6
    go_wp2
    go_ret
    exact ⟨rfl, HB1.out⟩
set_option maxRecDepth 20000 in
set_option maxHeartbeats 8000000 in
theorem sp_add_yes {B D : Nat} {n : Int} {X : WX} {v : Value} {H : List Int} (us tx : ByteArray) (T : List ByteArray) (A : Option Addr) (N cap : Nat) (w : World) (h : SpH w B D n X v H) (hs : SIn w A N cap T) (hX : X.length < 6) (hn : n ≤ 99) (hn0 : 0 ≤ n) (hB : B ≤ w.heap.size) :
    Calls Try.prog 53 #[.pointer (some ⟨D, 0, none⟩), .agg #[.string us, .slice A N cap, .string tx]] w (AddI w B D n X us tx T) := by
  obtain ⟨AH, capH, rfl, _⟩ := h.o.form
  have hl := h.pm.length_eq
  simp at hl
  obtain ⟨Z, hZ⟩ : ∃ Z, X.length = Z := ⟨_, rfl⟩
  rw [hl, hZ] at h
  have HXL : Hid (X.length ≤ 1000) := Lib.hid (by omega)
  rw [hZ] at hX
  obtain ⟨Lx, hLx⟩ : ∃ Lx, w.heap.size = Lx := ⟨_, rfl⟩
  obtain ⟨w1, hw1⟩ : ∃ w1, w.alloc (.cells #[.string us, .slice A N cap, .string tx] 25) = w1 := ⟨_, rfl⟩
  have HL1 := Lib.hid (show Whole w1 Lx 25 #[.string us, .slice A N cap, .string tx] by rw [← hw1, ← hLx]; exact Whole.made w _ _)
  have HB1 := Lib.hid (show Below w.heap.size w w1 by rw [← hw1]; exact below_new w _)
  have H1 := Lib.hid (h.below HB1.out)
  have HS1 := Lib.hid (hs.below HB1.out (Nat.le_refl _))
  have HBB : Hid (B ≤ w.heap.size) := Lib.hid hB
  have HB1s : Hid (B ≤ w1.drew.heap.size) := Lib.hid (Nat.le_trans hB HB1.out.size)
  have d0 := H1.out.s.head.cell 0
  have d2 := H1.out.s.head.cell 2
  have x0 := HL1.out.cell 0
  have x1 := HL1.out.cell 1
  have x2 := HL1.out.cell 2
  simp at d0 d2 x0 x1 x2
  have h6' : ((Z : Int) == 6) = false := beq_eq_false_iff_ne.2 (by omega)
  have h9 : ¬ (99 : Int) < n := by omega
  have wn : IntKind.i64.wrap (n + 1) = n + 1 := IntWalk.i64_in _ (by omega)
  clear h hs hl hZ hB
  go_enter Try.func53, Try.ntmps53
  go_wp2
  refine wp_region_till (fun w' => w'.cell? ⟨D, 0, none⟩ = some (.int .i64 n) ∧ w'.cell? ⟨Lx, 0, none⟩ = some (.string us) ∧ w'.cell? ⟨Lx, 2, none⟩ = some (.string tx) ∧ w'.cell? ⟨Lx, 1, none⟩ = some (.slice A N cap)) 12 (by kernel_rfl) ?_
  refine wpTill_take (i := 0) (v := ?v0) rfl (by kernel_rfl) (by kernel_rfl) (by kernel_rfl) (by kernel_rfl) (by kernel_rfl) (fun _ _ _ h => h) ⟨d0, x0, x2, x1⟩ (by rfl) ?hy0 ?r0
  case hy0 =>
    rintro wz ⟨z0, z1, z2, z3⟩
    go_simp
    try with_reducible rfl
  try simp only [Act.put]
  refine wpTill_take (i := 1) (v := ?v1) rfl (by kernel_rfl) (by kernel_rfl) (by kernel_rfl) (by kernel_rfl) (by kernel_rfl) (fun _ _ _ h => h) ⟨d0, x0, x2, x1⟩ (by rfl) ?hy1 ?r1
  case hy1 =>
    rintro wz ⟨z0, z1, z2, z3⟩
    go_simp
    try with_reducible rfl
  try simp only [Act.put]
  refine wpTill_take (i := 2) (v := ?v2) rfl (by kernel_rfl) (by kernel_rfl) (by kernel_rfl) (by kernel_rfl) (by kernel_rfl) (fun _ _ _ h => h) ⟨d0, x0, x2, x1⟩ (by rfl) ?hy2 ?r2
  case hy2 =>
    rintro wz ⟨z0, z1, z2, z3⟩
    go_simp
    try with_reducible rfl
  try simp only [Act.put]
  refine wpTill_take (i := 3) (v := ?v3) rfl (by kernel_rfl) (by kernel_rfl) (by kernel_rfl) (by kernel_rfl) (by kernel_rfl) (fun _ _ _ h => h) ⟨d0, x0, x2, x1⟩ (by rfl) ?hy3 ?r3
  case hy3 =>
    rintro wz ⟨z0, z1, z2, z3⟩
    go_simp
    try with_reducible rfl
  try simp only [Act.put]
  refine wpTill_take (i := 4) (v := ?v4) rfl (by kernel_rfl) (by kernel_rfl) (by kernel_rfl) (by kernel_rfl) (by kernel_rfl) (fun _ _ _ h => h) ⟨d0, x0, x2, x1⟩ (by rfl) ?hy4 ?r4
  case hy4 =>
    rintro wz ⟨z0, z1, z2, z3⟩
    go_simp
    try with_reducible rfl
  try simp only [Act.put]
  refine wpTill_take (i := 5) (v := ?v5) rfl (by kernel_rfl) (by kernel_rfl) (by kernel_rfl) (by kernel_rfl) (by kernel_rfl) (fun _ _ _ h => h) ⟨d0, x0, x2, x1⟩ (by rfl) ?hy5 ?r5
  case hy5 =>
    rintro wz ⟨z0, z1, z2, z3⟩
    go_simp
    try with_reducible rfl
  try simp only [Act.put]
  refine wpTill_take (i := 6) (v := ?v6) rfl (by kernel_rfl) (by kernel_rfl) (by kernel_rfl) (by kernel_rfl) (by kernel_rfl) (fun _ _ _ h => h) ⟨d0, x0, x2, x1⟩ (by rfl) ?hy6 ?r6
  case hy6 =>
    rintro wz ⟨z0, z1, z2, z3⟩
    go_simp
    try with_reducible rfl
  try simp only [Act.put]
  refine wpTill_take (i := 7) (v := ?v7) rfl (by kernel_rfl) (by kernel_rfl) (by kernel_rfl) (by kernel_rfl) (by kernel_rfl) (fun _ _ _ h => h) ⟨d0, x0, x2, x1⟩ (by rfl) ?hy7 ?r7
  case hy7 =>
    rintro wz ⟨z0, z1, z2, z3⟩
    go_simp
    try with_reducible rfl
  try simp only [Act.put]
  refine wpTill_take (i := 8) (v := ?v8) rfl (by kernel_rfl) (by kernel_rfl) (by kernel_rfl) (by kernel_rfl) (by kernel_rfl) (fun _ _ _ h => h) ⟨d0, x0, x2, x1⟩ (by rfl) ?hy8 ?r8
  case hy8 =>
    rintro wz ⟨z0, z1, z2, z3⟩
    go_simp
    try with_reducible rfl
  try simp only [Act.put]
  refine wpTill_take (i := 9) (v := ?v9) rfl (by kernel_rfl) (by kernel_rfl) (by kernel_rfl) (by kernel_rfl) (by kernel_rfl) (fun _ _ _ h => h) ⟨d0, x0, x2, x1⟩ (by rfl) ?hy9 ?r9
  case hy9 =>
    rintro wz ⟨z0, z1, z2, z3⟩
    go_simp
    try with_reducible rfl
  try simp only [Act.put]
  refine wpTill_take (i := 10) (v := ?v10) rfl (by kernel_rfl) (by kernel_rfl) (by kernel_rfl) (by kernel_rfl) (by kernel_rfl) (fun _ _ _ h => h) ⟨d0, x0, x2, x1⟩ (by rfl) ?hy10 ?r10
  case hy10 =>
    rintro wz ⟨z0, z1, z2, z3⟩
    go_simp
    try with_reducible rfl
  try simp only [Act.put]
  refine wpTill_take (i := 11) (v := ?v11) rfl (by kernel_rfl) (by kernel_rfl) (by kernel_rfl) (by kernel_rfl) (by kernel_rfl) (fun _ _ _ h => h) ⟨d0, x0, x2, x1⟩ (by rfl) ?hy11 ?r11
  case hy11 =>
    rintro wz ⟨z0, z1, z2, z3⟩
    go_simp
    try with_reducible rfl
  try simp only [Act.put]
  refine wpTill_one (i := 12) (by kernel_rfl) rfl (fun K hK => ?_)
  go_simp
  refine (sp_put n us tx T A N cap w1.drew (H1.out.drewN 1) (show SIn w1.drew A N cap T from HS1.out) HXL.out HB1s.out).mono ?_
  rintro e w2 ⟨G, q, v2, H2, rfl, hs2, hk2, hb2⟩
  have HS2 := Lib.hid hs2
  have HK2 := Lib.hid hk2
  have HB2 := Lib.hid ((below_drewN' (HB1.out.mono HBB.out) 1).trans hb2)
  clear hs2 hk2 hb2
  refine hK.out _ _ (fun h => absurd rfl h) ?_
  clear hK K
  try simp only [Act.put]
  refine wpTill_done (by kernel_rfl) ?_ _
  have e0 := HS2.out.s.head.cell 0
  have f0 := HS2.out.s.head.free 0
  simp at e0
  clear d0 d2 x0 x1 x2
  go_wp2
  go_ret
  exact ⟨G, q, v2, H2, rfl, HS2.out.next (n + 1), HK2.out, HB2.out.setCell (p := ⟨D, 0, none⟩) HS2.out.s.lo _⟩
theorem desc_rev {X : WX} (h : X.Pairwise fun a b => b.2.id < a.2.id) : ascI (X.map fun y => y.2).reverse := by
  unfold ascI
  rw [List.pairwise_reverse, List.pairwise_map]
  exact h
theorem rev_ids {X : WX} : (X.map fun y => y.2.id).Perm ((X.map fun y => y.2).reverse.map fun q => q.id) := by
  rw [List.map_reverse, List.map_map]
  exact (List.reverse_perm _).symm
theorem fx_desc {X : WX} {i g : Nat} {q : QI} (h : X.Pairwise fun a b => b.2.id < a.2.id) (hx : X[i]? = some (g, q)) : fx X q.id = i := by
  have hi := (List.getElem?_eq_some_iff.1 hx).1
  rcases Nat.lt_or_ge (fx X q.id) X.length with h1 | h1
  · obtain ⟨g', q', hx', he⟩ := fx_some h1
    by_cases hne : fx X q.id = i
    · exact hne
    · exfalso
      obtain ⟨h2, e2⟩ := List.getElem?_eq_some_iff.1 hx
      obtain ⟨h3, e3⟩ := List.getElem?_eq_some_iff.1 hx'
      have h4 := List.pairwise_iff_getElem.1 h
      rcases (by omega : fx X q.id < i ∨ i < fx X q.id) with h5 | h5
      · have := h4 _ _ h3 h2 h5
        rw [e2, e3] at this
        simp only at this
        omega
      · have := h4 _ _ h2 h3 h5
        rw [e2, e3] at this
        simp only at this
        omega
  · have := fx_le X q.id
    exact absurd rfl (fx_none (X := X) (id := q.id) (by omega) (g, q) (List.mem_of_getElem? hx))
/-- The queue of a spool. -/
def QueueI (w : World) (B : Nat) (n : Int) (L : List QI) (e : Ending) (w' : World) : Prop := ∃ A N cap, e = .returned (.agg #[.int .i64 n, .slice A N cap]) ∧ OwnQ w' B A N cap L ∧ Below B w w'
set_option maxRecDepth 20000 in
set_option maxHeartbeats 8000000 in
theorem sp_queue {B D : Nat} {n : Int} {X : WX} {v : Value} {H : List Int} (w : World) (h : SpH w B D n X v H) (hd : X.Pairwise fun a b => b.2.id < a.2.id) (hX : X.length ≤ 1000) (hB : B ≤ w.heap.size) :
    Calls Try.prog 54 #[.pointer (some ⟨D, 0, none⟩)] w (QueueI w B n (X.map fun y => y.2).reverse) := by
  obtain ⟨j0, hj0, hp0, hp1, hp2⟩ := info_parts Try.infoItem
  obtain ⟨R, hR⟩ : ∃ R, w.heap.size = R := ⟨_, rfl⟩
  have HRR := Lib.hid hR
  have HDS := Lib.hid hd
  obtain ⟨Z, hZ⟩ : ∃ Z, X.length = Z := ⟨_, rfl⟩
  have HZ := Lib.hid hZ
  obtain ⟨L, hL⟩ : ∃ L, (X.map fun y => y.2).reverse = L := ⟨_, rfl⟩
  have HL := Lib.hid hL
  have hLl : L.length = Z := by rw [← hL]; simp [hZ]
  have HLL := Lib.hid hLl
  have HAS := Lib.hid (show ascI L by rw [← hL]; exact desc_rev hd)
  have HPM := Lib.hid (show H.Perm (L.map fun q => q.id) by rw [← hL]; exact h.pm.trans rev_ids)
  have HX0 := Lib.hid h
  have HBB := Lib.hid hB
  rw [hL]
  rw [hZ] at hX
  have e1 : (w.alloc (.cells #[.int .i64 0, .slice none 0 0] 31)).heap.size = R + 1 := by simp [hR]
  obtain ⟨w1, hw1⟩ : ∃ w1, (w.alloc (.cells #[.int .i64 0, .slice none 0 0] 31)).alloc (.cells #[.int .i64 n, .slice none 0 0] 31) = w1 := ⟨_, rfl⟩
  have HR1 := Lib.hid (show Whole w1 R 31 #[.int .i64 0, .slice none 0 0] by rw [← hw1, ← hR]; exact (Whole.made w _ _).alloc _)
  have HO1 := Lib.hid (show Whole w1 (R + 1) 31 #[.int .i64 n, .slice none 0 0] by rw [← hw1, ← e1]; exact Whole.made _ _ _)
  have HB1 := Lib.hid (show Below w.heap.size w w1 by rw [← hw1]; exact (below_new w _).alloc (by simp) _)
  have H1 := Lib.hid (h.below HB1.out)
  have d0 := (h.s.head.alloc (.cells #[.int .i64 0, .slice none 0 0] 31)).cell 0
  simp at d0
  have HWE := Lib.hid hw1
  clear h hd hZ hL hLl hB e1 hw1
  go_enter Try.func54, Try.ntmps54
  go_wp2
  rw [HWE.out]
  clear d0
  go_loopg [4] Z (fun gk idv wr => ∃ (k : Nat) (A1 : Option Addr) (c1 : Nat) (v1 : Value) (H1 : List Int), k + gk = Z ∧ Hid (Spl wr B D n X v1) ∧ Hid (ROwn iR wr B v1 H1) ∧ Hid (HeapTo H1 H1.length) ∧ Hid (H1.Perm ((L.drop k).map fun q => q.id)) ∧ Hid (Whole wr R 31 #[.int .i64 0, .slice none 0 0]) ∧ Hid (Whole wr (R + 1) 31 #[.int .i64 n, .slice A1 k c1]) ∧ Hid (ROwn qiR wr (R + 1 + 1) (.slice A1 k c1) (L.take k)) ∧ Hid (Below B w wr))
  case atStart => exact ⟨0, none, 0, v, H, by omega, H1.out.s, H1.out.o, H1.out.hp, HPM, HR1, HO1, ROwn.nil _ _, HB1.out.mono HBB.out⟩
  case round =>
    obtain ⟨k, A1, c1, v1, H1, hk, KS, KH, KT, KP, KR, KO, KQ, KB⟩ := hrel
    obtain ⟨AH, capH, rfl, _⟩ := KH.out.form
    have hHl : H1.length = Z - k := by rw [KP.out.length_eq, List.length_map, List.length_drop, HLL.out]
    have d2 := KS.out.head.cell 2
    simp [hHl] at d2
    by_cases hlt : k < Z
    · obtain ⟨m, hm⟩ : ∃ m, Z - k = m + 1 := ⟨Z - k - 1, by omega⟩
      rw [hm] at d2 hHl
      rw [hHl] at KS KH
      have HM := Lib.hid hm
      obtain ⟨q, hq⟩ : ∃ q, L[k]? = some q := ⟨_, List.getElem?_eq_getElem (by rw [HLL.out]; exact hlt)⟩
      have HQ := Lib.hid hq
      have hdk : L.drop k = q :: L.drop (k + 1) := by
        rw [List.drop_eq_getElem_cons (by rw [HLL.out]; exact hlt), (List.getElem?_eq_some_iff.1 hq).2]
      have HDK := Lib.hid hdk
      have HP2 : Hid (H1.Perm (q.id :: (L.drop (k + 1)).map fun q => q.id)) := Lib.hid (by
        have h2 := KP.out
        rw [hdk, List.map_cons] at h2
        exact h2)
      have HF : Hid (hat H1 0 = q.id) := Lib.hid (heap_first KT.out HP2.out (fun y hy => by
        obtain ⟨q2, hq2, rfl⟩ := List.mem_map.1 hy
        have h2 := HAS.out
        unfold ascI at h2
        rw [← List.take_append_drop k L, hdk, List.pairwise_append] at h2
        exact (List.pairwise_cons.1 h2.2.1).1 q2 hq2))
      -- the node
      have HXI : Hid (∃ g, X[Z - 1 - k]? = some (g, q)) := Lib.hid (by
        have h2 := hq
        rw [← HL.out] at h2
        have h3 := rev_get h2
        rw [List.length_map, HZ.out, List.getElem?_map] at h3
        cases h4 : X[Z - 1 - k]? with
        | none => rw [h4] at h3; cases h3
        | some y =>
          rw [h4] at h3
          cases h3
          exact ⟨y.1, rfl⟩)
      obtain ⟨g, hxg⟩ := HXI.out
      have HXG := Lib.hid hxg
      have HFX := Lib.hid (fx_desc HDS.out hxg)
      obtain ⟨ix, hix⟩ : ∃ ix, Z - 1 - k = ix := ⟨_, rfl⟩
      rw [hix] at HXG HFX
      have HZ1 : Hid (Z ≤ 1000) := Lib.hid hX
      have HHP : Hid (HP wr ⟨D, 2, none⟩ B (.slice AH (m + 1) capH) H1) := Lib.hid (KS.out.hp KH.out)
      have HHL := Lib.hid hHl
      have hm0 : (0 : Int) < ((m + 1 : Nat) : Int) := by omega
      have t0 := fun wz : World => ta_int q.id wz
      clear hq hdk hm hxg hHl
      go_wp2_with fail
      refine (heap_pop wr HHP.out (by have := HM.out; have := HZ1.out; omega) KT.out).mono ?_
      rintro e w2 ⟨H2, rfl, hpm, hto, hhp, hst⟩
      have HS2 := Lib.hid (KS.out.hstep hst KH.out hhp.2.1)
      have HO2 := Lib.hid hhp.2.1
      have HT2 := Lib.hid hto
      have HP3 : Hid (H2.Perm ((L.drop (k + 1)).map fun q => q.id)) := Lib.hid (by
        rw [HF.out] at hpm
        exact heap_rest HP2.out hpm)
      have HB2 := Lib.hid (KB.out.trans (hst.below KH.out hhp.2.1 KS.out.lo (by have := KB.out.size; have := HBB.out; omega)))
      have HR2 := Lib.hid (hst.other KH.out KR.out (by decide) (by have := KS.out.lo; have := HX0.out.s.head.lt; have := HRR.out; omega))
      have HW2 := Lib.hid (hst.other KH.out KO.out (by decide) (by have := HX0.out.s.head.lt; have := HRR.out; omega))
      have HQ2 : Hid (ROwn qiR w2 (R + 1 + 1) (.slice A1 k c1) (L.take k)) := Lib.hid (KQ.out.same (fun b hb => by
        obtain ⟨cs, hw⟩ := KQ.out.blk hb
        exact (hst.other KH.out hw (by decide) (by have := (World.ownsRow.lt KQ.out b hb).1; have := HX0.out.s.head.lt; have := HRR.out; omega)).trans hw.symm))
      clear hpm hto hhp hst d2
      rw [HF.out]
      obtain ⟨pb, po, hp⟩ := lnkw_spot D X ix
      have HP0 := Lib.hid hp
      have hixl : ix ≤ X.length := Nat.le_of_lt (List.getElem?_eq_some_iff.1 HXG.out).1
      obtain ⟨l0, -, -, -⟩ := HS2.out.link hixl
      rw [nxw_some HXG.out, hp] at l0
      obtain ⟨c0, c1', c2, c3, c4⟩ := HS2.out.cells HXG.out
      have o1 := HW2.out.cell 1
      simp at o1
      obtain ⟨P, hP⟩ : ∃ P, w2.heap.size = P := ⟨_, rfl⟩
      obtain ⟨w4, hw4⟩ : ∃ w4, w2.alloc (.cells #[.int .i64 q.id, .string q.us, .string q.tx, .slice q.A q.N q.cap] 38) = w4 := ⟨_, rfl⟩
      have HB4 := Lib.hid (show Below w2.heap.size w2 w4 by rw [← hw4]; exact below_new w2 _)
      have HN4 : Hid (RAt qiR w4 (some ⟨P, 0, none⟩) [q]) := Lib.hid (by rw [← hw4]; exact RAt.made qiR w2 [q] P hP)
      have HS4 := Lib.hid (HS2.out.below HB4.out)
      have HO4 := Lib.hid (HO2.out.kept HB4.out)
      have HR4 := Lib.hid (HR2.out.below HB4.out HR2.out.lt)
      have HW4 := Lib.hid (HW2.out.below HB4.out HW2.out.lt)
      have HQ4 := Lib.hid (HQ2.out.kept HB4.out)
      have HB4' := Lib.hid (HB2.out.trans (HB4.out.mono (by have := HB2.out.size; have := HBB.out; have := HR2.out.lt; have := HRR.out; omega)))
      have m0 := (HB4.out.cell (p := ⟨pb, po, none⟩) (block_lt_of_cell l0)).trans l0
      have k0 := (HB4.out.cell (p := ⟨g, 0, none⟩) (block_lt_of_cell c0)).trans c0
      have k1 := (HB4.out.cell (p := ⟨g, 1, none⟩) (block_lt_of_cell c1')).trans c1'
      have k2 := (HB4.out.cell (p := ⟨g, 2, none⟩) (block_lt_of_cell c2)).trans c2
      have k3 := (HB4.out.cell (p := ⟨g, 3, none⟩) (block_lt_of_cell c3)).trans c3
      have HQL : Hid ((L.take k).length = k) := Lib.hid HQ2.out.len.1.symm
      have HTK : Hid (L.take (k + 1) = L.take k ++ [q]) := Lib.hid (by rw [List.take_add_one, HQ.out]; rfl)
      have hml2 : k + 1 ≤ maxLen := by unfold maxLen; omega
      have hby2 : (k + 1) * 64 ≤ 140737488355328 := by omega
      have hs4 : R + 1 + 1 ≤ w4.drew.heap.size := by have := HW4.out.lt; show R + 1 + 1 ≤ w4.heap.size; omega
      clear hp hixl c4
      go_wp2
      refine wp_region_till (fun w' => w'.cell? ⟨R + 1, 1, none⟩ = some (.slice A1 k c1) ∧ w'.cell? ⟨pb, po, none⟩ = some (.pointer (some ⟨g, 0, none⟩)) ∧ w'.cell? ⟨g, 0, none⟩ = some (.int .i64 q.id) ∧ w'.cell? ⟨g, 1, none⟩ = some (.string q.us) ∧ w'.cell? ⟨g, 2, none⟩ = some (.string q.tx) ∧ w'.cell? ⟨g, 3, none⟩ = some (.slice q.A q.N q.cap)) 13 (by kernel_rfl) ?_
      refine wpTill_take (i := 0) (v := ?v0) rfl (by kernel_rfl) (by kernel_rfl) (by kernel_rfl) (by kernel_rfl) (by kernel_rfl) (fun _ _ _ h => h) ⟨o1, l0, c0, c1', c2, c3⟩ (by rfl) ?hy0 ?r0
      case hy0 =>
        rintro wz ⟨z0, z1, z2, z3, z4, z5⟩
        go_simp
        try with_reducible rfl
      try simp only [Act.put]
      refine wpTill_take (i := 1) (v := ?v1) rfl (by kernel_rfl) (by kernel_rfl) (by kernel_rfl) (by kernel_rfl) (by kernel_rfl) (fun _ _ _ h => h) ⟨o1, l0, c0, c1', c2, c3⟩ (by rfl) ?hy1 ?r1
      case hy1 =>
        rintro wz ⟨z0, z1, z2, z3, z4, z5⟩
        go_simp
        try with_reducible rfl
      try simp only [Act.put]
      refine wpTill_take (i := 2) (v := ?v2) rfl (by kernel_rfl) (by kernel_rfl) (by kernel_rfl) (by kernel_rfl) (by kernel_rfl) (fun _ _ _ h => h) ⟨o1, l0, c0, c1', c2, c3⟩ (by rfl) ?hy2 ?r2
      case hy2 =>
        rintro wz ⟨z0, z1, z2, z3, z4, z5⟩
        go_simp
        try with_reducible rfl
      try simp only [Act.put]
      refine wpTill_take (i := 3) (v := ?v3) rfl (by kernel_rfl) (by kernel_rfl) (by kernel_rfl) (by kernel_rfl) (by kernel_rfl) (fun _ _ _ h => h) ⟨o1, l0, c0, c1', c2, c3⟩ (by rfl) ?hy3 ?r3
      case hy3 =>
        rintro wz ⟨z0, z1, z2, z3, z4, z5⟩
        go_simp
        try with_reducible rfl
      try simp only [Act.put]
      refine wpTill_one (i := 4) (by kernel_rfl) rfl (fun K hK => ?_)
      go_simp
      refine (sp_find (id := q.id) w2.drew (HS2.out.drewN 1)).mono ?_
      rintro e w3 ⟨rfl, rfl⟩
      rw [HFX.out, HP0.out]
      refine hK.out _ _ (fun _ => ⟨o1, l0, c0, c1', c2, c3⟩) ?_
      clear hK K
      try simp only [Act.put]
      refine wpTill_take (i := 5) (v := ?v5) rfl (by kernel_rfl) (by kernel_rfl) (by kernel_rfl) (by kernel_rfl) (by kernel_rfl) (fun _ _ _ h => h) ⟨o1, l0, c0, c1', c2, c3⟩ (by rfl) ?hy5 ?r5
      case hy5 =>
        rintro wz ⟨z0, z1, z2, z3, z4, z5⟩
        go_simp
        try with_reducible rfl
      try simp only [Act.put]
      refine wpTill_take (i := 6) (v := ?v6) rfl (by kernel_rfl) (by kernel_rfl) (by kernel_rfl) (by kernel_rfl) (by kernel_rfl) (fun _ _ _ h => h) ⟨o1, l0, c0, c1', c2, c3⟩ (by rfl) ?hy6 ?r6
      case hy6 =>
        rintro wz ⟨z0, z1, z2, z3, z4, z5⟩
        go_simp
        try with_reducible rfl
      try simp only [Act.put]
      refine wpTill_take (i := 7) (v := ?v7) rfl (by kernel_rfl) (by kernel_rfl) (by kernel_rfl) (by kernel_rfl) (by kernel_rfl) (fun _ _ _ h => h) ⟨o1, l0, c0, c1', c2, c3⟩ (by rfl) ?hy7 ?r7
      case hy7 =>
        rintro wz ⟨z0, z1, z2, z3, z4, z5⟩
        go_simp
        try with_reducible rfl
      try simp only [Act.put]
      refine wpTill_take (i := 8) (v := ?v8) rfl (by kernel_rfl) (by kernel_rfl) (by kernel_rfl) (by kernel_rfl) (by kernel_rfl) (fun _ _ _ h => h) ⟨o1, l0, c0, c1', c2, c3⟩ (by rfl) ?hy8 ?r8
      case hy8 =>
        rintro wz ⟨z0, z1, z2, z3, z4, z5⟩
        go_simp
        try with_reducible rfl
      try simp only [Act.put]
      refine wpTill_take (i := 9) (v := ?v9) rfl (by kernel_rfl) (by kernel_rfl) (by kernel_rfl) (by kernel_rfl) (by kernel_rfl) (fun _ _ _ h => h) ⟨o1, l0, c0, c1', c2, c3⟩ (by rfl) ?hy9 ?r9
      case hy9 =>
        rintro wz ⟨z0, z1, z2, z3, z4, z5⟩
        go_simp
        try with_reducible rfl
      try simp only [Act.put]
      refine wpTill_one (i := 10) (by kernel_rfl) rfl (fun K hK => ?_)
      go_simp
      refine hK.out _ _ (fun _ => ⟨HW4.out.cell 1, m0, k0, k1, k2, k3⟩) ?_
      clear hK K
      try simp only [Act.put]
      refine wpTill_one (i := 11) (by kernel_rfl) rfl (fun K hK => ?_)
      refine step_append_rows rfl (.tmp 23) (.tmp 32) 29 rfl qiR (R + 1 + 1) j0 _ 64 Try.underlying29 hj0 hp0 hp1 hp2 rfl (by decide) (.slice A1 k c1) (L.take k) [q] k HQL.out rfl (show ROwn qiR w4.drew (R + 1 + 1) (.slice A1 k c1) (L.take k) from HQ4.out) (some ⟨P, 0, none⟩) 1 1 rfl rfl (show RAt qiR w4.drew (some ⟨P, 0, none⟩) [q] from HN4.out) (fun e => by cases e) (fun q e => by cases e; rfl) hml2 hby2 hs4 ?_
      intro v' w6 ho6 hg6 hnn
      obtain ⟨A6, N6, c6, rfl⟩ := ho6.val
      have hN6 : N6 = k + 1 := ho6.len.1.trans (by rw [List.length_append, HQL.out]; rfl)
      subst hN6
      have hg6' : w4.grownBy w6 (Value.slice A1 k c1).ownBlock := ⟨hg6.os, hg6.tape, hg6.output, hg6.size, hg6.block⟩
      have hq6 : ∀ (b : Nat) (t : TypeId) (cs : Array Value), Whole w4 b t cs → t ≠ 38 → Whole w6 b t cs := fun b t cs hw ht => hw.grown hg6' (fun e => HQ4.out.whole hw ht e.symm)
      have HS6 := Lib.hid (HS4.out.grown HQ4.out hg6' (by decide) (by decide) (by decide))
      have HO6 : Hid (ROwn iR w6 B (.slice AH m capH) H2) := Lib.hid (HO4.out.apart hg6' (own_apart HO4.out HQ4.out (by decide)))
      have HR6 := Lib.hid (hq6 _ _ _ HR4.out (by decide))
      have HW6 := Lib.hid (hq6 _ _ _ HW4.out (by decide))
      have HQ6 : Hid (ROwn qiR w6 (R + 1 + 1) (.slice A6 (k + 1) c6) (L.take (k + 1))) := Lib.hid (by rw [HTK.out]; exact ho6)
      have HB6 : Hid (Below B w w6) := Lib.hid (HB4'.out.grown hg6' (by have := HB4'.out.size; have := HBB.out; omega) (fun z e => by have h1 := (World.ownsRow.lt HQ4.out z e).1; have := HBB.out; have := HRR.out; omega))
      have HL6 := Lib.hid (HS6.out.link (Nat.le_of_lt (List.getElem?_eq_some_iff.1 HXG.out).1))
      have hl6 := HL6.out.1
      rw [nxw_some HXG.out, HP0.out] at hl6
      obtain ⟨n0, n1, n2, n3, n4⟩ := HS6.out.cells HXG.out
      have p1 := HW6.out.cell 1
      have pf := HW6.out.free 1
      simp at p1
      clear ho6 hg6 hg6' hnn hq6 n4
      refine hK.out _ _ (fun _ => ⟨p1, hl6, n0, n1, n2, n3⟩) ?_
      clear hK K
      try simp only [Act.put]
      refine wpTill_take (i := 12) (v := ?v12) rfl (by kernel_rfl) (by kernel_rfl) (by kernel_rfl) (by kernel_rfl) (by kernel_rfl) (fun _ _ _ h => h) ⟨p1, hl6, n0, n1, n2, n3⟩ (by rfl) ?hy12 ?r12
      case hy12 =>
        rintro wz ⟨z0, z1, z2, z3, z4, z5⟩
        go_simp
        try with_reducible rfl
      try simp only [Act.put]
      refine wpTill_one (i := 13) (by kernel_rfl) rfl (fun K hK => ?_)
      go_simp
      refine hK.out _ _ (fun h => absurd rfl h) ?_
      clear hK K
      try simp only [Act.put]
      refine wpTill_done (by kernel_rfl) ?_ _
      have HS7 := Lib.hid (HS6.out.same (w' := w6.setCell ⟨R + 1, 1, none⟩ (.slice A6 (k + 1) c6)) (fun b t cs hw ht => Below.heap_setCell w6 _ _ b (by
        rintro rfl
        have := HW6.out.symm.trans hw
        injection this with h1
        injection h1 with h2 h3 h4
        subst h3
        rcases ht with h | h | h <;> exact absurd h (by decide))))
      have HO7 := Lib.hid (HO6.out.store (p := ⟨R + 1, 1, none⟩) (HO6.out.whole HW6.out (by decide)) (.slice A6 (k + 1) c6))
      have HR7 := Lib.hid (HR6.out.apart (p := ⟨R + 1, 1, none⟩) (by show R ≠ R + 1; omega) (.slice A6 (k + 1) c6))
      have HW7 : Hid (Whole (w6.setCell ⟨R + 1, 1, none⟩ (.slice A6 (k + 1) c6)) (R + 1) 31 #[.int .i64 n, .slice A6 (k + 1) c6]) := Lib.hid (HW6.out.store 1 _)
      have HQ7 := Lib.hid (HQ6.out.store (p := ⟨R + 1, 1, none⟩) (HQ6.out.whole HW6.out (by decide)) (.slice A6 (k + 1) c6))
      have HB7 := Lib.hid (HB6.out.setCell (p := ⟨R + 1, 1, none⟩) (by have := HBB.out; have := HRR.out; show B ≤ R + 1; omega) (.slice A6 (k + 1) c6))
      clear o1 l0 c0 c1' c2 c3 m0 k0 k1 k2 k3 hl6 n0 n1 n2 n3 p1 pf
      go_wp2
      go_roundg (gk - 1)
      case measure => omega
      case rel => exact ⟨k + 1, A6, c6, _, H2, by omega, HS7, HO7, HT2, HP3, HR7, HW7, HQ7, HB7⟩
    · have hkZ : k = Z := by omega
      have hz0 : Z - k = 0 := by omega
      rw [hz0] at d2 hHl
      have hTK : L.take k = L := by rw [hkZ, ← HLL.out, List.take_length]
      have HQE := Lib.hid (hTK ▸ KQ.out)
      have b0 := KO.out.cell 0
      have b1 := KO.out.cell 1
      have r0 := KR.out.cell 0
      have r1 := KR.out.cell 1
      have f0 := KR.out.free 0
      have f1 := KR.out.free 1
      have p := (KR.out.store 0 (.int .i64 n)).store 1 (.slice A1 k c1)
      have p0 := p.cell 0
      have p1 := p.cell 1
      simp at b0 b1 r0 r1 p0 p1
      have HFI : Hid (OwnQ wr B A1 k c1 L) := Lib.hid ⟨HQE.out.from (by have := HX0.out.s.head.lt; have := HX0.out.s.lo; have := HRR.out; omega), (fun q hq => by
        rw [← HL.out, List.mem_reverse] at hq
        obtain ⟨y, hy, rfl⟩ := List.mem_map.1 hq
        exact KS.out.left y hy), (by
        rw [← HL.out, List.pairwise_reverse, List.pairwise_map]
        exact KS.out.apt.imp fun h => h.symm)⟩
      have HRB : Hid (B ≤ R) := Lib.hid (by rw [← HRR.out]; exact HBB.out)
      clear p hkZ hz0 hTK hHl
      go_wp2
      refine bodyPost_ret (v := .agg #[.int .i64 n, .slice A1 k c1]) (by simp [results, Try.results54, go_sem, p0, p1]) rfl ?_
      exact ⟨A1, k, c1, rfl, (HFI.out.storeT KR.out (by decide) (by decide) _).storeT (KR.out.store 0 _) (by decide) (by decide) _, (KB.out.setCell (p := ⟨R, 0, none⟩) HRB.out _).setCell (p := ⟨R, 1, none⟩) HRB.out _⟩
end Go.Proofs.Ytinbdibenbplnaa
namespace Go.Proofs.Ytinbdibenbplnaa
open Go.RowKit
set_option linter.unusedVariables false

theorem lib_idx {A : Option Addr} {N cap : Nat} {L : List ByteArray} (x : ByteArray) (w : World) (h : SIn w A N cap L) : Calls Try.prog 81 #[.slice A N cap, .string x] w fun e w' => w' = w ∧ ((∃ c : Nat, e = .returned (.int .i64 (c : Int)) ∧ c < N ∧ L[c]? = some x) ∨ (e = .returned (.int .i64 (-1)) ∧ x ∉ L)) := by
  by_cases h0 : N = 0
  · subst h0
    have : L = [] := List.eq_nil_of_length_eq_zero h.1
    subst this
    refine (Try.slices_Index_string_empty A cap x w).mono ?_
    rintro e w' ⟨rfl, rfl⟩
    exact ⟨rfl, .inr ⟨rfl, by simp⟩⟩
  · obtain ⟨b, o, rfl, hc⟩ := txt_cells h h0
    have hl := h.1
    refine (Try.slices_Index_string b o N cap L x w (by rw [hl]; exact Nat.le_refl _) (by have := h.2.1; omega) hc).mono ?_
    rintro e w' ⟨rfl, rfl⟩
    refine ⟨rfl, ?_⟩
    by_cases hm : x ∈ L
    · obtain ⟨p, hp⟩ : ∃ p : ByteArray → Bool, p = fun y => decide (y = x) := ⟨_, rfl⟩
      have hi : L.findIdx p < L.length := List.findIdx_lt_length_of_exists ⟨x, hm, by rw [hp]; exact decide_eq_true rfl⟩
      have hpx : ∀ y, p y = true → y = x := fun y h => by rw [hp] at h; exact of_decide_eq_true h
      have hg : L[L.findIdx p]? = some x := (List.getElem?_eq_getElem hi).trans (congrArg some (hpx _ (List.findIdx_of_getElem?_eq_some (List.getElem?_eq_getElem hi))))
      refine .inl ⟨L.findIdx p, ?_, by omega, hg⟩
      rw [Lib.idxOfS_hit L N (L.findIdx p) x (by omega) (by omega) (by rw [List.getD_eq_getElem?_getD, hg]; rfl) (fun j hj he => ?_)]
      have hjl : j < L.length := by omega
      rw [List.getD_eq_getElem?_getD, List.getElem?_eq_getElem hjl] at he
      have h2 : L[j] = x := he
      have h3 := List.not_of_lt_findIdx hj
      rw [h2, hp] at h3
      simp at h3
    · refine .inr ⟨?_, hm⟩
      rw [Lib.idxOfS_miss L N x (fun j hj he => ?_)]
      have hjl : j < L.length := by omega
      rw [List.getD_eq_getElem?_getD, List.getElem?_eq_getElem hjl] at he
      have h2 : L[j] = x := he
      exact hm (h2 ▸ List.getElem_mem hjl)
section
variable {w w' : World} {B D i g : Nat} {n : Int} {X : WX} {v : Value} {q q' : QI} {H : List Int}
theorem set_get {j : Nat} {y : Nat × QI} (hx : X[i]? = some (g, q)) : (X.set i y)[j]? = if i = j then some y else X[j]? := by
  rw [List.getElem?_set]
  by_cases h : i = j
  · rw [if_pos h, if_pos (List.getElem?_eq_some_iff.1 hx).1, if_pos h]
  · rw [if_neg h, if_neg h]
theorem set_fst (hx : X[i]? = some (g, q)) : (X.set i (g, q')).map (·.1) = X.map (·.1) := by
  apply List.ext_getElem?
  intro j
  rw [List.getElem?_map, List.getElem?_map, set_get hx]
  by_cases h : i = j
  · subst h; rw [if_pos rfl, hx]; rfl
  · rw [if_neg h]
theorem set_nxw (hx : X[i]? = some (g, q)) (j : Nat) : nxw (X.set i (g, q')) j = nxw X j := by
  unfold nxw
  rw [set_get hx]
  by_cases h : i = j
  · subst h; rw [if_pos rfl, hx]; rfl
  · rw [if_neg h]
theorem set_lnkw (hx : X[i]? = some (g, q)) : lnkw D (X.set i (g, q')) i = lnkw D X i := by
  cases i with
  | zero => rfl
  | succ j =>
    show (⟨((X.set (j + 1) (g, q')).getD j (0, noI)).1, 4, none⟩ : Addr) = ⟨(X.getD j (0, noI)).1, 4, none⟩
    rw [List.getD_eq_getElem?_getD, List.getD_eq_getElem?_getD, set_get hx, if_neg (by omega)]
theorem set_pair {R : QI → QI → Prop} (hx : X[i]? = some (g, q)) (h : X.Pairwise fun a b => R a.2 b.2) (h1 : ∀ x, R x q → R x q') (h2 : ∀ x, R q x → R q' x) : (X.set i (g, q')).Pairwise fun a b => R a.2 b.2 := by
  rw [List.pairwise_iff_getElem]
  intro a b ha hb hab
  rw [List.length_set] at ha hb
  have h3 := List.pairwise_iff_getElem.1 h a b ha hb hab
  obtain ⟨hi, e1⟩ := List.getElem?_eq_some_iff.1 hx
  rw [List.getElem_set, List.getElem_set]
  by_cases hia : i = a
  · subst hia
    rw [if_pos rfl, if_neg (by omega)]
    rw [e1] at h3
    exact h2 _ h3
  · rw [if_neg hia]
    by_cases hib : i = b
    · subst hib
      rw [if_pos rfl]
      rw [e1] at h3
      exact h1 _ h3
    · rw [if_neg hib]
      exact h3
/-- The slice of those who are left has turned in its own block. -/
theorem Spl.left_turned (h : Spl w B D n X v) (hx : X[i]? = some (g, q)) (hA : q'.A = q.A) (he : q'.id = q.id ∧ q'.us = q.us ∧ q'.tx = q.tx) (ho : ROwn stR w' B (lfV q') q'.T) (hg : w.grownBy w' (lfV q).ownBlock) : Spl (w'.setCell ⟨g, 3, none⟩ (lfV q')) B D n (X.set i (g, q')) v := by
  have hob : (lfV q').ownBlock = (lfV q).ownBlock := by
    unfold lfV
    rw [hA]
    cases q.A <;> rfl
  have hm : (g, q) ∈ X := List.mem_of_getElem? hx
  have hi := (List.getElem?_eq_some_iff.1 hx).1
  have hW : ∀ (b : Nat) (t : TypeId) (cs : Array Value), Whole w b t cs → t ≠ 9 → Whole w' b t cs := fun b t cs hw ht => hw.grown hg (fun e => (h.left _ hm).whole hw ht e.symm)
  have hgW := hW _ _ _ (h.node i g q hx).2 (by decide)
  refine ⟨?_, fun j g2 q2 hj => ?_, ?_, fun y hy => ?_, set_pair hx h.apt (fun x hxq b e1 e2 => hxq b e1 (by rw [← hob]; exact e2)) (fun x hqx b e1 e2 => hqx b (by rw [← hob]; exact e1) e2), h.lo⟩
  · rw [set_nxw hx]
    exact (hW _ _ _ h.head (by decide)).apart (p := ⟨g, 3, none⟩) (fun e => h.neD hx e.symm) _
  · rw [set_get hx] at hj
    rw [set_nxw hx]
    by_cases hij : i = j
    · subst hij
      rw [if_pos rfl] at hj
      have hj2 := Option.some.inj hj
      have k1 : g = g2 := congrArg Prod.fst hj2
      have k2 : q' = q2 := congrArg Prod.snd hj2
      rw [← k1, ← k2]
      refine ⟨(h.node i g q hx).1, ?_⟩
      have h2 := hgW.store 3 (lfV q')
      obtain ⟨e1, e2, e3⟩ := he
      have e4 : (wcs q (nxw X (i + 1))).setIfInBounds 3 (lfV q') = wcs q' (nxw X (i + 1)) := by
        unfold wcs lfV
        rw [e1, e2, e3]
        rfl
      rw [e4] at h2
      exact h2
    · rw [if_neg hij] at hj
      exact ⟨(h.node j g2 q2 hj).1, (hW _ _ _ (h.node j g2 q2 hj).2 (by decide)).apart (p := ⟨g, 3, none⟩) (h.ne hj hx (fun e => hij e.symm)) _⟩
  · have h3 : ((X.set i (g, q')).map (·.1)).Pairwise (· ≠ ·) := by rw [set_fst hx, List.pairwise_map]; exact h.nd
    rw [List.pairwise_map] at h3
    exact h3
  · obtain ⟨j, hj, rfl⟩ := List.getElem_of_mem hy
    rw [List.length_set] at hj
    rw [List.getElem_set]
    by_cases hij : i = j
    · rw [if_pos hij]
      exact ho.store (p := ⟨g, 3, none⟩) (ho.whole hgW (by decide)) _
    · rw [if_neg hij]
      have hjm : X[j] ∈ X := List.getElem_mem hj
      have h4 := h.left _ hjm
      have hap : (lfV X[j].2).ownBlock = none ∨ (lfV X[j].2).ownBlock ≠ (lfV q).ownBlock := by
        cases hb : (lfV X[j].2).ownBlock with
        | none => exact .inl rfl
        | some b =>
          refine .inr fun e => ?_
          have hxe := (List.getElem?_eq_some_iff.1 hx).2
          have h5 := List.pairwise_iff_getElem.1 h.apt
          rcases (by omega : i < j ∨ j < i) with hl | hl
          · have := h5 i j hi hj hl
            rw [hxe] at this
            exact this b e.symm hb
          · have := h5 j i hj hi hl
            rw [hxe] at this
            exact this b hb e.symm
      have h6 := h4.apart hg hap
      exact h6.store (p := ⟨g, 3, none⟩) (h6.whole hgW (by decide)) _
theorem set_ids (hx : X[i]? = some (g, q)) (he : q'.id = q.id) : (X.set i (g, q')).map (fun y => y.2.id) = X.map fun y => y.2.id := by
  apply List.ext_getElem?
  intro j
  rw [List.getElem?_map, List.getElem?_map, set_get hx]
  by_cases h : i = j
  · subst h; rw [if_pos rfl, hx]; show some q'.id = some q.id; rw [he]
  · rw [if_neg h]
end
theorem map_erase {α β : Type} (f : α → β) (L : List α) (i : Nat) : (L.eraseIdx i).map f = (L.map f).eraseIdx i := by
  apply List.ext_getElem?
  intro j
  rw [List.getElem?_map, List.getElem?_eraseIdx, List.getElem?_eraseIdx]
  split <;> rw [List.getElem?_map]
abbrev kyX (X : WX) : List QK := X.map fun y => keyI y.2
set_option maxRecDepth 20000 in
set_option maxHeartbeats 8000000 in
theorem sp_take_no {B D : Nat} {n id : Int} {u : ByteArray} {X : WX} {v : Value} {H : List Int} (w : World) (h : SpH w B D n X v H) (hsz : ∀ y ∈ X, y.2.T.length ≤ 1000 ∧ ∀ x ∈ y.2.T, x.size ≤ 16777216) (hno : ∀ g q, X[fx X id]? = some (g, q) → u ∉ q.T) :
    Calls Try.prog 61 #[.pointer (some ⟨D, 0, none⟩), .int .i64 id, .string u] w fun e w' => e = .returned (.tuple #[.string ⟨#[]⟩, .bool false]) ∧ w' = w := by
  have HH := Lib.hid h
  obtain ⟨i, hi⟩ : ∃ i, fx X id = i := ⟨_, rfl⟩
  have HI := Lib.hid hi
  have hil : i ≤ X.length := by rw [← hi]; exact fx_le X id
  obtain ⟨pb, po, hp⟩ := lnkw_spot D X i
  have HP0 := Lib.hid hp
  obtain ⟨l0, -, -, -⟩ := HH.out.s.link hil
  rw [hp] at l0
  rw [hi] at hno
  cases hx : X[i]? with
  | none =>
    have e0 : nxw X i = none := by unfold nxw; rw [hx]; rfl
    rw [e0] at l0
    clear h hi hil hp hno hsz hx e0
    go_enter Try.func61, Try.ntmps61
    go_wp2_with fail
    refine (sp_find (id := id) w HH.out.s).mono ?_
    rintro e w1 ⟨rfl, rfl⟩
    rw [HI.out, HP0.out]
    go_wp2
    go_ret2
    exact ⟨rfl, rfl⟩
  | some y =>
    obtain ⟨g, q⟩ := y
    rw [nxw_some hx] at l0
    obtain ⟨c0, c1, c2, c3, c4⟩ := HH.out.s.cells hx
    have hm := List.mem_of_getElem? hx
    have HS := Lib.hid (SIn.made (HH.out.s.left _ hm) (by have := (hsz _ hm).1; omega) (hsz _ hm).2)
    have HNO := Lib.hid (hno g q hx)
    clear h hi hil hp hno hsz hx hm c0 c1 c2 c4
    go_enter Try.func61, Try.ntmps61
    go_wp2_with fail
    refine (sp_find (id := id) w HH.out.s).mono ?_
    rintro e w1 ⟨rfl, rfl⟩
    rw [HI.out, HP0.out]
    go_wp2_with fail
    refine (lib_idx u w1 HS.out).mono ?_
    rintro e w2 ⟨rfl, hpost⟩
    have he : e = .returned (.int .i64 (-1)) := by
      rcases hpost with ⟨c, _, _, h3⟩ | ⟨h1, _⟩
      · exact absurd (List.mem_of_getElem? h3) HNO.out
      · exact h1
    subst he
    clear hpost
    go_wp2
    go_ret2
    exact ⟨rfl, rfl⟩
/-- A copy was taken. -/
def TakeI (w : World) (B D : Nat) (n : Int) (X : WX) (i : Nat) (tx u : ByteArray) (e : Ending) (w' : World) : Prop :=
  ∃ X' v H, e = .returned (.tuple #[.string tx, .bool true]) ∧ SpH w' B D n X' v H ∧ (∃ k, (kyX X)[i]? = some k ∧ kyX X' = if (k.2.2.2.filter fun x => decide (x ≠ u)) ≠ [] then (kyX X).set i (k.1, k.2.1, k.2.2.1, k.2.2.2.filter fun x => decide (x ≠ u)) else (kyX X).eraseIdx i) ∧ (X'.Pairwise fun a b => b.2.id < a.2.id) ∧ X'.length ≤ X.length ∧ Below B w w'
set_option maxRecDepth 20000 in
set_option maxHeartbeats 8000000 in
theorem sp_take_yes {B D i g : Nat} {n id : Int} {u : ByteArray} {X : WX} {v : Value} {H : List Int} {q : QI} (w : World) (h : SpH w B D n X v H) (hx : X[i]? = some (g, q)) (hf : fx X id = i) (hd : X.Pairwise fun a b => b.2.id < a.2.id) (hsz : q.T.length ≤ 1000 ∧ ∀ x ∈ q.T, x.size ≤ 16777216) (hnd : q.T.Nodup) (hu : u ∈ q.T) (hX : X.length ≤ 1000) (hB : B ≤ w.heap.size) :
    Calls Try.prog 61 #[.pointer (some ⟨D, 0, none⟩), .int .i64 id, .string u] w (TakeI w B D n X i q.tx u) := by
  have HH := Lib.hid h
  have HF := Lib.hid hf
  have HX := Lib.hid hx
  have hil : i ≤ X.length := Nat.le_of_lt (List.getElem?_eq_some_iff.1 hx).1
  have HIL := Lib.hid hil
  obtain ⟨pb, po, hp⟩ := lnkw_spot D X i
  have HP0 := Lib.hid hp
  obtain ⟨l0, -, -, -⟩ := HH.out.s.link hil
  rw [nxw_some hx, hp] at l0
  obtain ⟨c0, c1, c2, c3, c4⟩ := HH.out.s.cells hx
  have hm := List.mem_of_getElem? hx
  have HOWN := Lib.hid (HH.out.s.left _ hm)
  have HS := Lib.hid (SIn.made (HH.out.s.left _ hm) (show q.T.length ≤ 4194304 by have := hsz.1; omega) hsz.2)
  have HND := Lib.hid hnd
  have HU := Lib.hid hu
  have HD := Lib.hid hd
  have HXL := Lib.hid hX
  have HBB := Lib.hid hB
  have hT1 := hsz.1
  obtain ⟨qid, qus, qtx, qA, qN, qc, qT⟩ := q
  simp only at *
  have HNL := Lib.hid HOWN.out.len.1
  have hN1 : qN ≤ 1000 := by have h1 : qN = qT.length := HNL.out; omega
  clear h hx hf hil hp hsz hnd hu hd hX hB hm c0 c1 c4 hT1
  go_enter Try.func61, Try.ntmps61
  go_wp2_with fail
  refine (sp_find (id := id) w HH.out.s).mono ?_
  rintro e w1 ⟨rfl, rfl⟩
  rw [HF.out, HP0.out]
  go_wp2_with fail
  refine (lib_idx u w1 HS.out).mono ?_
  rintro e w2 ⟨rfl, hpost⟩
  obtain ⟨c, hc⟩ : ∃ c : Nat, e = .returned (.int .i64 (c : Int)) ∧ c < qN ∧ qT[c]? = some u := by
    rcases hpost with ⟨c, h1, h2, h3⟩ | ⟨_, h2⟩
    · exact ⟨c, h1, h2, h3⟩
    · exact absurd HU.out h2
  obtain ⟨rfl, hcN, hcT⟩ := hc
  have HCN := Lib.hid hcN
  have HEF := Lib.hid (erase_filter HND.out hcT)
  have hc0 : ¬ (c : Int) < 0 := by omega
  have wc : IntKind.i64.wrap ((c : Int) + 1) = ((c + 1 : Nat) : Int) := by rw [IntWalk.i64_in _ (by omega)]; rfl
  obtain ⟨c9, hc9⟩ : ∃ c9, c + 1 = c9 := ⟨_, rfl⟩
  have HC9 := Lib.hid hc9
  rw [hc9] at wc
  clear hpost hcT
  go_wp2_with fail
  rw [← HC9.out]
  refine (lib_del (c := c) w2 HOWN.out HCN.out).mono ?_
  rintro e w3 ⟨rfl, ho3, hg3⟩
  obtain ⟨T', hT'⟩ : ∃ T', qT.eraseIdx c = T' := ⟨_, rfl⟩
  rw [hT'] at HEF ho3
  have HO3 := Lib.hid ho3
  have HTN : Hid (T'.length = qN - 1) := Lib.hid ho3.len.1.symm
  obtain ⟨q', hq'⟩ : ∃ q' : QI, (⟨qid, qus, qtx, qA, qN - 1, qc, T'⟩ : QI) = q' := ⟨_, rfl⟩
  have HQ' := Lib.hid hq'
  have HS4 := Lib.hid (HH.out.s.left_turned (q' := ⟨qid, qus, qtx, qA, qN - 1, qc, T'⟩) HX.out rfl ⟨rfl, rfl, rfl⟩ ho3 hg3)
  have HW3 : Hid (Whole w3 g 105 (wcs ⟨qid, qus, qtx, qA, qN, qc, qT⟩ (nxw X (i + 1)))) := Lib.hid ((HH.out.s.node i g _ HX.out).2.grown hg3 (fun e => HOWN.out.whole (HH.out.s.node i g _ HX.out).2 (by decide) e.symm))
  have HIO : Hid (ROwn iR (w3.setCell ⟨g, 3, none⟩ (.slice qA (qN - 1) qc)) B v H) := Lib.hid (by
    have h1 := HH.out.o.apart hg3 (own_apart HH.out.o HOWN.out (by decide))
    exact h1.store (p := ⟨g, 3, none⟩) (h1.whole HW3.out (by decide)) _)
  have HB4 : Hid (Below B w2 (w3.setCell ⟨g, 3, none⟩ (.slice qA (qN - 1) qc))) := Lib.hid (((Below.refl B w2).grown hg3 HBB.out (fun z e => (World.ownsRow.lt HOWN.out z e).1)).setCell (p := ⟨g, 3, none⟩) (HH.out.s.node i g _ HX.out).1 _)
  have HGD : Hid ((X.set i (g, (⟨qid, qus, qtx, qA, qN - 1, qc, T'⟩ : QI))).Pairwise fun a b => b.2.id < a.2.id) := Lib.hid (set_pair (R := fun a b => b.id < a.id) HX.out HD.out (fun x h => h) (fun x h => h))
  have HPM : Hid (H.Perm ((X.set i (g, (⟨qid, qus, qtx, qA, qN - 1, qc, T'⟩ : QI))).map fun y => y.2.id)) := Lib.hid (by rw [set_ids (q' := ⟨qid, qus, qtx, qA, qN - 1, qc, T'⟩) HX.out rfl]; exact HH.out.pm)
  have HKY : Hid ((kyX X)[i]? = some (qid, qus, qtx, qT)) := Lib.hid (by show (X.map _)[i]? = _; rw [List.getElem?_map, HX.out]; rfl)
  have g3 := HW3.out.cell 3
  have f3 := HW3.out.free 3
  simp [wcs] at g3
  obtain ⟨w4, hw4⟩ : ∃ w4, w3.setCell ⟨g, 3, none⟩ (.slice qA (qN - 1) qc) = w4 := ⟨_, rfl⟩
  have e4 : w3.setCell ⟨g, 3, none⟩ (lfV ⟨qid, qus, qtx, qA, qN - 1, qc, T'⟩) = w4 := hw4
  rw [e4] at HS4
  rw [hw4] at HIO HB4
  have hXi : (X.set i (g, (⟨qid, qus, qtx, qA, qN - 1, qc, T'⟩ : QI)))[i]? = some (g, ⟨qid, qus, qtx, qA, qN - 1, qc, T'⟩) := by rw [set_get HX.out, if_pos rfl]
  have HXI := Lib.hid hXi
  obtain ⟨d0, d1, d2, d3, d4⟩ := HS4.out.cells hXi
  simp only at d2 d3
  clear ho3 hg3 hT' hq' hXi d0 d1 d4 e4 c2 c3 hc9
  by_cases hz : qN - 1 = 0
  · have hz' : (((qN - 1 : Nat) : Int) == 0) = true := by rw [hz]; rfl
    have HTE : Hid (T' = []) := Lib.hid (List.eq_nil_of_length_eq_zero (by rw [HTN.out]; exact hz))
    have hBs : Hid (B ≤ w4.heap.size) := Lib.hid (by have := HB4.out.size; have := HBB.out; omega)
    have HXL2 : Hid ((X.set i (g, (⟨qid, qus, qtx, qA, qN - 1, qc, T'⟩ : QI))).length ≤ 1000) := Lib.hid (by rw [List.length_set]; exact HXL.out)
    have hcut := sp_cut w4 ⟨HS4.out, HIO.out, HH.out.hp, HPM.out⟩ HXI.out HXL2.out hBs.out
    rw [set_lnkw HX.out, HP0.out] at hcut
    clear hz
    go_wp2_with fail
    refine hcut.mono ?_
    rintro e w5 ⟨v', H', rfl, hs5, hb5, hw5⟩
    have k2 := hw5.cell 2
    simp [wcs] at k2
    have HS5 := Lib.hid hs5
    have HB5 := Lib.hid (HB4.out.trans hb5)
    clear hs5 hb5 hw5 d2 d3 g3 f3 hcut
    go_wp2
    go_ret2
    refine ⟨_, v', H', rfl, HS5.out, ⟨_, HKY.out, ?_⟩, HGD.out.sublist (List.eraseIdx_sublist _ _), ?_, HB5.out⟩
    · show kyX _ = if (qT.filter _) ≠ [] then _ else _
      rw [← HEF.out, HTE.out, if_neg (by simp)]
      show ((X.set i _).eraseIdx i).map _ = (X.map _).eraseIdx i
      rw [List.eraseIdx_set_eq, map_erase]
    · rw [List.eraseIdx_set_eq, List.length_eraseIdx]
      split <;> omega
  · have hz' : (((qN - 1 : Nat) : Int) == 0) = false := beq_eq_false_iff_ne.2 (by omega)
    have HTE : Hid (T' ≠ []) := Lib.hid (fun e => by have := HTN.out; rw [e] at this; simp at this; omega)
    clear hz
    go_wp2
    go_ret2
    refine ⟨_, v, H, rfl, ⟨HS4.out, HIO.out, HH.out.hp, HPM.out⟩, ⟨_, HKY.out, ?_⟩, HGD.out, by rw [List.length_set]; exact Nat.le_refl _, HB4.out⟩
    show kyX _ = if (qT.filter _) ≠ [] then _ else _
    rw [← HEF.out, if_pos HTE.out]
    show (X.set i _).map _ = (X.map _).set i _
    rw [List.map_set]
    rfl
end Go.Proofs.Ytinbdibenbplnaa
