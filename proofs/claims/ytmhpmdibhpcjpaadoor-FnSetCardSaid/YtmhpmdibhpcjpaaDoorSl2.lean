/-
  The walks of the laws FnSetMore and FnSetZero. Condition: the code can be read.
-/
import Derived.Test.YtmhpmdibhpcjpaaDoorSl1
namespace Go.Proofs.YtmhpmdibhpcjpaaDoor
open Go.RowKit
set_option linter.unusedVariables false

/-- A parser of sets read a list. -/
def ReadS (w : World) (b : Bool) (M : List (Int × Int)) (e : Ending) (w' : World) : Prop :=
  ∃ (A : Option Addr) (cap : Nat), e = .returned (.tuple #[.slice A M.length cap, .bool b]) ∧ M.length ≤ cap ∧ cap ≤ maxLen ∧ SpA w' A M ∧ Below w.heap.size w w'
theorem parsed_read {w w' : World} {o : Option (List (Nat × Nat))} {M : List (Int × Int)} {b : Bool} {e : Ending} (h : ParsedS w o e w') (hb : o.isSome = b) (hM : up (o.getD []) = M) : ReadS w b M e w' := by
  subst hM
  subst hb
  obtain ⟨v, rfl, hown, hbl⟩ := h
  obtain ⟨A, cap, rfl, h1, h2, h3⟩ := hown.form
  exact ⟨A, cap, rfl, h1, h2, h3, hbl⟩
/-- What a text's set is. -/
def IsSet (s : ByteArray) (b : Bool) (M : List (Int × Int)) : Prop := (setO s.data.toList).isSome = b ∧ up ((setO s.data.toList).getD []) = M
theorem impl_read {s : ByteArray} {b : Bool} {M : List (Int × Int)} (h : IsSet s b M) (w : World) (hs : s.size ≤ 16777216) : Calls Tryd.prog 7 #[.string s] w (ReadS w b M) :=
  (impl_setparse s w hs).mono fun e w' h1 => parsed_read h1 h.1 h.2
theorem spec_read {s : ByteArray} {b : Bool} {M : List (Int × Int)} (h : IsSet s b M) (w : World) (hs : s.size ≤ 16777216) : Calls Tryd.prog 8 #[.string s] w (ReadS w b M) :=
  (spec_setparse s w hs).mono fun e w' h1 => parsed_read h1 h.1 h.2
theorem isSet_no {s : ByteArray} (h : setO s.data.toList = none) : IsSet s false [] := by
  unfold IsSet
  rw [h]
  exact ⟨rfl, rfl⟩
theorem isSet_yes {s : ByteArray} {P : List (Nat × Nat)} (h : setO s.data.toList = some P) : IsSet s true (up P) := by
  unfold IsSet
  rw [h]
  exact ⟨rfl, rfl⟩
theorem same_spans_at {A A2 : Option Addr} {n n2 cap cap2 : Nat} {L M : List (Int × Int)} {o : Bool} (w : World) (h : SpA w A L) (h2 : SpA w A2 M) (hn : L.length = n) (hn2 : M.length = n2) (hl : n ≤ 33554432) (hl2 : n2 ≤ 33554432) (ho : decide (L = M) = o) :
    Calls Tryd.prog 9 #[.slice A n cap, .slice A2 n2 cap2] w (Tests w o) := by
  subst hn
  subst hn2
  subst ho
  exact same_spans A A2 cap cap2 L M w h h2 hl hl2
theorem more_size {s : ByteArray} (h : s.size ≤ 100) : (s ++ (⟨#[44, 42]⟩ : ByteArray)).size ≤ 16777216 := by
  rw [ByteArray.size_append, show (⟨#[44, 42]⟩ : ByteArray).size = 2 from rfl]
  omega
theorem zero_size {s : ByteArray} (c : UInt8) (h : s.size ≤ 100) : ((⟨#[c]⟩ : ByteArray) ++ s).size ≤ 16777216 := by
  rw [ByteArray.size_append, show (⟨#[c]⟩ : ByteArray).size = 1 from rfl]
  omega
theorem set_up {L : List UInt8} {l : List (Nat × Nat)} (h : setO L = some l) : up l ≠ [] ∧ (up l).length ≤ 6 := by
  obtain ⟨h1, h2, _⟩ := set_mem h
  rw [up_len]
  refine ⟨fun e => h1 ?_, h2⟩
  have := congrArg List.length e
  rw [up_len] at this
  exact List.eq_nil_of_length_eq_zero this
theorem isSet_more {s : ByteArray} {P : List (Nat × Nat)} (h : setO s.data.toList = some P) (h6 : (up P).length < 6) : IsSet (s ++ ⟨#[44, 42]⟩) true (up P ++ [((0 : Int), (0 : Int))]) := by
  unfold IsSet
  rw [cat_list, show (⟨#[44, 42]⟩ : ByteArray).data.toList = [44, 42] from rfl, set_more h, if_pos (by rw [up_len] at h6; exact h6), Option.getD_some, up_snoc]
  exact ⟨rfl, rfl⟩
theorem isSet_much {s : ByteArray} {P : List (Nat × Nat)} (h : setO s.data.toList = some P) (h6 : ¬ (up P).length < 6) : IsSet (s ++ ⟨#[44, 42]⟩) false [] := by
  unfold IsSet
  rw [cat_list, show (⟨#[44, 42]⟩ : ByteArray).data.toList = [44, 42] from rfl, set_more h, if_neg (by rw [up_len] at h6; exact h6)]
  exact ⟨rfl, rfl⟩
theorem isSet_zero (c : UInt8) (hc : c = 48 ∨ c = 32 ∨ c = 44) (s : ByteArray) : IsSet ((⟨#[c]⟩ : ByteArray) ++ s) false [] := by
  unfold IsSet
  rw [cat_list, show (⟨#[c]⟩ : ByteArray).data.toList ++ s.data.toList = c :: s.data.toList from rfl, set_zero c hc]
  exact ⟨rfl, rfl⟩

section
variable {P : Program} {w : World}
/-- An append to a slice of the call's own, guarded: the guard is met. -/
theorem wpList_append_own_g {ops : Array Oper} {rest : List Oper} {o : Oper} {a : Act} {Q : Exit → Act → World → Prop} (hw : Region.wanted o (yielded ops a.tmps) = true) (s x : Operand) (t : TypeId)
    (ho : o.op = .call { callee := .builtin .append, args := #[s, x], argTypes := #[t, t] })
    (base : Nat) (e : TypeId) (i : TypeInfo) (z : Value) (size bytes : Nat) (ht : P.underlying t = some (.slice e)) (hi : P.info? e = some i) (hz : i.zero = some z)
    (hsize : i.size = size) (hby : i.bytes = bytes) (hzs : z.cells.size = size) (hsz : 0 < size)
    (v : Value) (n : Nat) (xs : List Value) (hs : a.eval s = v) (hown : w.ownsRow base e size v n xs)
    (ad : Addr) (m c : Nat) (news : List Value) (hx : a.eval x = .slice (some ad) m c) (hl : news.length = m * size) (hnews : ∀ j u, news[j]? = some u → w.cell? (ad.add j) = some u) (h1 : ∀ u ∈ news, u.oneCell' = true)
    (h63 : n + m ≤ maxLen) (hbytes : (n + m) * bytes ≤ 140737488355328) (hbase : base ≤ w.heap.size)
    (h : ∀ v' w', w'.ownsRow base e size v' (n + m) (xs ++ news) → w.grownBy w' v.ownBlock → (v' = .slice none 0 0 ↔ v = .slice none 0 0 ∧ m = 0) → wpList P ops Q rest (a.put o.dst v') w') : wpList P ops Q (o :: rest) a w :=
  wpList_step fun K hK => by
    rw [if_pos hw]
    exact wp_append_own w s x t ho base e i z size bytes ht hi hz hsize hby hzs hsz v n xs hs hown ad m c news hx hl hnews h1 h63 hbytes hbase fun v' w' h2 h3 h4 => hK _ _ (h v' w' h2 h3 h4)
end

end Go.Proofs.YtmhpmdibhpcjpaaDoor
