/-
  My texts Bmath, Base, Math, Spec, Cut, Cursor, Domain, Addr, Impl, Parse, SpecB, Eq, Draw in one, so that a claim holds fewer files. Conditions: each contract's own.
-/
import Derived.WalkKit
import Derived.Deep.Draws
import Derived.Test.YtichajalinkcdaaGreatDoorProg
import Derived.Deep.QuietTactic
import Derived.Deep.LoopGhost
import Derived.BigQuiet
import Derived.Lib.Hide
import Derived.Outline
import Derived.Maps.AppendAt
import Derived.Deep.AppendLies
import Derived.RegionTactic
import Derived.BigRegion
namespace Go.Proofs.YtichajalinkcdaaGreatDoor
set_option linter.unusedVariables false

/-- The sign of a number of six bits. -/
def sigN (n : Nat) : Nat := if n < 26 then 65 + n else if n < 52 then 71 + n else if n < 62 then n - 4 else if n = 62 then 43 else 47
def sig (n : Nat) : UInt8 := UInt8.ofNat (sigN n)
/-- The number of a sign, if it has one. -/
def numN (c : Nat) : Option Nat := if 65 ≤ c ∧ c ≤ 90 then some (c - 65) else if 97 ≤ c ∧ c ≤ 122 then some (c - 71) else if 48 ≤ c ∧ c ≤ 57 then some (c + 4) else if c = 43 then some 62 else if c = 47 then some 63 else none
def num (c : UInt8) : Option Nat := numN c.toNat
theorem sigN_lt (n : Nat) : sigN n < 123 + n := by unfold sigN; split <;> (try split) <;> (try split) <;> (try split) <;> omega
theorem sig_nat {n : Nat} (h : n < 64) : (sig n).toNat = sigN n := by
  unfold sig
  rw [UInt8.toNat_ofNat']
  exact Nat.mod_eq_of_lt (by have := sigN_lt n; omega)
theorem num_sigN {n : Nat} (h : n < 64) : numN (sigN n) = some n := by
  unfold sigN
  unfold numN
  split
  · rw [if_pos (by omega)]; congr 1; omega
  · split
    · rw [if_neg (by omega), if_pos (by omega)]; congr 1; omega
    · split
      · rw [if_neg (by omega), if_neg (by omega), if_pos (by omega)]; congr 1; omega
      · split
        · rw [if_neg (by omega), if_neg (by omega), if_neg (by omega), if_pos (by omega)]; congr 1; omega
        · rw [if_neg (by omega), if_neg (by omega), if_neg (by omega), if_neg (by omega), if_pos (by omega)]; congr 1; omega
theorem num_sig {n : Nat} (h : n < 64) : num (sig n) = some n := by unfold num; rw [sig_nat h]; exact num_sigN h
theorem sig_inj {a b : Nat} (ha : a < 64) (hb : b < 64) (h : sig a = sig b) : a = b := by
  have h1 := num_sig ha
  rw [h, num_sig hb] at h1
  exact (Option.some.inj h1).symm
theorem numN_some {c n : Nat} (h : numN c = some n) : n < 64 ∧ sigN n = c := by
  unfold numN at h
  unfold sigN
  repeat' (split at h)
  all_goals (first | (cases h; fail) | skip)
  all_goals (try (injection h with h))
  · subst h; refine ⟨by omega, ?_⟩; rw [if_pos (by omega)]; omega
  · subst h; refine ⟨by omega, ?_⟩; rw [if_neg (by omega), if_pos (by omega)]; omega
  · subst h; refine ⟨by omega, ?_⟩; rw [if_neg (by omega), if_neg (by omega), if_pos (by omega)]; omega
  · subst h; refine ⟨by omega, ?_⟩; rw [if_neg (by omega), if_neg (by omega), if_neg (by omega), if_pos (by omega)]; omega
  · subst h; refine ⟨by omega, ?_⟩; rw [if_neg (by omega), if_neg (by omega), if_neg (by omega), if_neg (by omega)]; omega
  · cases h
theorem num_some {c : UInt8} {n : Nat} (h : num c = some n) : n < 64 ∧ sig n = c := by
  obtain ⟨h1, h2⟩ := numN_some h
  refine ⟨h1, UInt8.toNat_inj.1 ?_⟩
  rw [sig_nat h1, h2]
theorem num_none {c : UInt8} (h : num c = none) : ∀ n, n < 64 → sig n ≠ c := by
  rintro n hn rfl
  rw [num_sig hn] at h
  cases h
theorem sig_ne {n : Nat} (h : n < 64) {c : UInt8} (hc : num c = none) : sig n ≠ c := num_none hc n h
theorem num61 : num 61 = none := by decide
theorem num45 : num 45 = none := by decide

/-- The four signs of a number of 24 bits. -/
def q0 (n : Nat) : UInt8 := sig (n / 262144)
def q1 (n : Nat) : UInt8 := sig (n / 4096 % 64)
def q2 (n : Nat) : UInt8 := sig (n / 64 % 64)
def q3 (n : Nat) : UInt8 := sig (n % 64)
/-- The number of three bytes. -/
def n24 (a b c : UInt8) : Nat := 65536 * a.toNat + 256 * b.toNat + c.toNat
theorem n24_lt (a b c : UInt8) : n24 a b c < 16777216 := by
  unfold n24
  have := a.toNat_lt; have := b.toNat_lt; have := c.toNat_lt
  omega
/-- The text of bytes. -/
def enc : List UInt8 → List UInt8
  | [] => []
  | [a] => [q0 (n24 a 0 0), q1 (n24 a 0 0), 61, 61]
  | [a, b] => [q0 (n24 a b 0), q1 (n24 a b 0), q2 (n24 a b 0), 61]
  | a :: b :: c :: t => q0 (n24 a b c) :: q1 (n24 a b c) :: q2 (n24 a b c) :: q3 (n24 a b c) :: enc t
theorem enc_nil : enc [] = [] := rfl
theorem enc_one (a : UInt8) : enc [a] = [q0 (n24 a 0 0), q1 (n24 a 0 0), 61, 61] := rfl
theorem enc_two (a b : UInt8) : enc [a, b] = [q0 (n24 a b 0), q1 (n24 a b 0), q2 (n24 a b 0), 61] := rfl
theorem enc_more (a b c : UInt8) (t : List UInt8) : enc (a :: b :: c :: t) = q0 (n24 a b c) :: q1 (n24 a b c) :: q2 (n24 a b c) :: q3 (n24 a b c) :: enc t := by
  cases t <;> rfl

theorem q0_lt {n : Nat} (h : n < 16777216) : n / 262144 < 64 := by omega
theorem q_inj {n m : Nat} (hn : n < 16777216) (hm : m < 16777216) (h0 : q0 n = q0 m) (h1 : q1 n = q1 m) (h2 : q2 n = q2 m) (h3 : q3 n = q3 m) : n = m := by
  have e0 := sig_inj (q0_lt hn) (q0_lt hm) h0
  have e1 := sig_inj (by omega) (by omega) h1
  have e2 := sig_inj (by omega) (by omega) h2
  have e3 := sig_inj (by omega) (by omega) h3
  omega
theorem n24_inj {a b c d e f : UInt8} (h : n24 a b c = n24 d e f) : a = d ∧ b = e ∧ c = f := by
  unfold n24 at h
  have := a.toNat_lt; have := b.toNat_lt; have := c.toNat_lt
  have := d.toNat_lt; have := e.toNat_lt; have := f.toNat_lt
  refine ⟨UInt8.toNat_inj.1 ?_, UInt8.toNat_inj.1 ?_, UInt8.toNat_inj.1 ?_⟩ <;> omega
theorem ne61 {n : Nat} (h : n < 64) : sig n ≠ 61 := sig_ne h num61
theorem q2_61 (n : Nat) : q2 n ≠ 61 := ne61 (by omega)
theorem q3_61 (n : Nat) : q3 n ≠ 61 := ne61 (by omega)
theorem n24_a {a b : UInt8} (h0 : q0 (n24 a 0 0) = q0 (n24 b 0 0)) (h1 : q1 (n24 a 0 0) = q1 (n24 b 0 0)) : a = b := by
  have e0 := sig_inj (q0_lt (n24_lt a 0 0)) (q0_lt (n24_lt b 0 0)) h0
  have e1 := sig_inj (by omega) (by omega) h1
  unfold n24 at e0 e1
  have := a.toNat_lt; have := b.toNat_lt
  have hz : (0 : UInt8).toNat = 0 := rfl
  rw [hz] at e0 e1
  refine UInt8.toNat_inj.1 ?_
  omega
theorem n24_b {a b c d : UInt8} (h0 : q0 (n24 a b 0) = q0 (n24 c d 0)) (h1 : q1 (n24 a b 0) = q1 (n24 c d 0)) (h2 : q2 (n24 a b 0) = q2 (n24 c d 0)) : a = c ∧ b = d := by
  have e0 := sig_inj (q0_lt (n24_lt a b 0)) (q0_lt (n24_lt c d 0)) h0
  have e1 := sig_inj (by omega) (by omega) h1
  have e2 := sig_inj (by omega) (by omega) h2
  unfold n24 at e0 e1 e2
  have := a.toNat_lt; have := b.toNat_lt; have := c.toNat_lt; have := d.toNat_lt
  have hz : (0 : UInt8).toNat = 0 := rfl
  rw [hz] at e0 e1 e2
  refine ⟨UInt8.toNat_inj.1 ?_, UInt8.toNat_inj.1 ?_⟩ <;> omega

/-- No two byte strings have the same text. -/
theorem enc_inj : ∀ s t : List UInt8, enc s = enc t → s = t
  | [], [], _ => rfl
  | [], [_], h => by cases h
  | [], [_, _], h => by cases h
  | [], _ :: _ :: _ :: _, h => by rw [enc_more] at h; cases h
  | [_], [], h => by cases h
  | [a], [b], h => by
    rw [enc_one, enc_one] at h
    simp only [List.cons.injEq] at h
    rw [n24_a h.1 h.2.1]
  | [a], [b, c], h => by
    rw [enc_one, enc_two] at h
    simp only [List.cons.injEq] at h
    exact absurd h.2.2.1.symm (q2_61 _)
  | [a], b :: c :: d :: t, h => by
    rw [enc_one, enc_more] at h
    simp only [List.cons.injEq] at h
    exact absurd h.2.2.1.symm (q2_61 _)
  | [_, _], [], h => by cases h
  | [a, b], [c], h => by
    rw [enc_one, enc_two] at h
    simp only [List.cons.injEq] at h
    exact absurd h.2.2.1 (q2_61 _)
  | [a, b], [c, d], h => by
    rw [enc_two, enc_two] at h
    simp only [List.cons.injEq] at h
    obtain ⟨rfl, rfl⟩ := n24_b h.1 h.2.1 h.2.2.1
    rfl
  | [a, b], c :: d :: e :: t, h => by
    rw [enc_two, enc_more] at h
    simp only [List.cons.injEq] at h
    exact absurd h.2.2.2.1.symm (q3_61 _)
  | _ :: _ :: _ :: _, [], h => by rw [enc_more] at h; cases h
  | a :: b :: c :: t, [d], h => by
    rw [enc_one, enc_more] at h
    simp only [List.cons.injEq] at h
    exact absurd h.2.2.1 (q2_61 _)
  | a :: b :: c :: t, [d, e], h => by
    rw [enc_two, enc_more] at h
    simp only [List.cons.injEq] at h
    exact absurd h.2.2.2.1 (q3_61 _)
  | a :: b :: c :: t, d :: e :: f :: u, h => by
    rw [enc_more, enc_more] at h
    simp only [List.cons.injEq] at h
    obtain ⟨rfl, rfl, rfl⟩ := n24_inj (q_inj (n24_lt a b c) (n24_lt d e f) h.1 h.2.1 h.2.2.1 h.2.2.2.1)
    rw [enc_inj t u h.2.2.2.2]
theorem enc_len : ∀ s : List UInt8, (enc s).length = (s.length + 2) / 3 * 4
  | [] => rfl
  | [a] => by rw [enc_one]; simp
  | [a, b] => by rw [enc_two]; simp
  | a :: b :: c :: t => by
    rw [enc_more]
    simp only [List.length_cons]
    rw [enc_len t]
    omega
/-- The signs of a text. -/
theorem enc_signs : ∀ s : List UInt8, ∀ x ∈ enc s, x = 61 ∨ ∃ n, n < 64 ∧ x = sig n
  | [] => by simp [enc]
  | [a] => by
    intro x hx
    rw [enc_one] at hx
    simp only [List.mem_cons, List.not_mem_nil, or_false] at hx
    rcases hx with rfl | rfl | rfl | rfl
    · exact .inr ⟨_, q0_lt (n24_lt a 0 0), rfl⟩
    · exact .inr ⟨_, by omega, rfl⟩
    · exact .inl rfl
    · exact .inl rfl
  | [a, b] => by
    intro x hx
    rw [enc_two] at hx
    simp only [List.mem_cons, List.not_mem_nil, or_false] at hx
    rcases hx with rfl | rfl | rfl | rfl
    · exact .inr ⟨_, q0_lt (n24_lt a b 0), rfl⟩
    · exact .inr ⟨_, by omega, rfl⟩
    · exact .inr ⟨_, by omega, rfl⟩
    · exact .inl rfl
  | a :: b :: c :: t => by
    intro x hx
    rw [enc_more] at hx
    simp only [List.mem_cons] at hx
    rcases hx with rfl | rfl | rfl | rfl | hx
    · exact .inr ⟨_, q0_lt (n24_lt a b c), rfl⟩
    · exact .inr ⟨_, by omega, rfl⟩
    · exact .inr ⟨_, by omega, rfl⟩
    · exact .inr ⟨_, by omega, rfl⟩
    · exact enc_signs t x hx
theorem enc_no45 (s : List UInt8) : ¬ (45 : UInt8) ∈ enc s := by
  intro h
  rcases enc_signs s 45 h with h | ⟨n, hn, h⟩
  · exact absurd h (by decide)
  · exact sig_ne hn num45 h.symm
/-- Groups of three bytes are encoded alone. -/
theorem enc_app : ∀ s t : List UInt8, s.length % 3 = 0 → enc (s ++ t) = enc s ++ enc t
  | [], t, _ => rfl
  | [_], _, h => by simp at h
  | [_, _], _, h => by simp at h
  | a :: b :: c :: s, t, h => by
    simp only [List.length_cons] at h
    rw [List.cons_append, List.cons_append, List.cons_append, enc_more, enc_more, enc_app s t (by omega)]
    rfl
/-- The last two signs. -/
theorem enc_last : ∀ s : List UInt8, s ≠ [] → ∃ p x y, enc s = p ++ [x, y] ∧ (y = 61 ↔ s.length % 3 ≠ 0) ∧ (x = 61 ↔ s.length % 3 = 1)
  | [], h => absurd rfl h
  | [a], _ => ⟨[q0 (n24 a 0 0), q1 (n24 a 0 0)], 61, 61, rfl, by simp, by simp⟩
  | [a, b], _ => ⟨[q0 (n24 a b 0), q1 (n24 a b 0)], q2 (n24 a b 0), 61, rfl, by simp, by simpa using q2_61 _⟩
  | [a, b, c], _ => ⟨[q0 (n24 a b c), q1 (n24 a b c)], q2 (n24 a b c), q3 (n24 a b c), rfl, by simpa using q3_61 _, by simpa using q2_61 _⟩
  | a :: b :: c :: d :: t, _ => by
    obtain ⟨p, x, y, h1, h2, h3⟩ := enc_last (d :: t) (by simp)
    refine ⟨q0 (n24 a b c) :: q1 (n24 a b c) :: q2 (n24 a b c) :: q3 (n24 a b c) :: p, x, y, by rw [enc_more, h1]; rfl, ?_, ?_⟩
    · rw [h2]; simp only [List.length_cons]; omega
    · rw [h3]; simp only [List.length_cons]; omega

/-- What a decoder tells. -/
def Dec (text : List UInt8) (o : Bool) (s : List UInt8) : Prop :=
  (o = true → s.length ≤ 30 ∧ enc s = text) ∧ (o = false → s = [] ∧ ∀ t : List UInt8, t.length ≤ 30 → enc t ≠ text)
theorem dec_any (text : List UInt8) : ∃ o s, Dec text o s := by
  by_cases h : ∃ t : List UInt8, t.length ≤ 30 ∧ enc t = text
  · obtain ⟨t, h1, h2⟩ := h
    exact ⟨true, t, fun _ => ⟨h1, h2⟩, fun h => by cases h⟩
  · exact ⟨false, [], fun h => (by cases h), fun _ => ⟨rfl, fun t h1 h2 => h ⟨t, h1, h2⟩⟩⟩
theorem dec_one {text : List UInt8} {o p : Bool} {s t : List UInt8} (h : Dec text o s) (k : Dec text p t) : o = p ∧ s = t := by
  cases o <;> cases p
  · exact ⟨rfl, (h.2 rfl).1.trans (k.2 rfl).1.symm⟩
  · exact absurd (k.1 rfl).2 ((h.2 rfl).2 t (k.1 rfl).1)
  · exact absurd (h.1 rfl).2 ((k.2 rfl).2 s (h.1 rfl).1)
  · exact ⟨rfl, enc_inj s t ((h.1 rfl).2.trans (k.1 rfl).2.symm)⟩
theorem dec_of {s : List UInt8} (h : s.length ≤ 30) : Dec (enc s) true s := ⟨fun _ => ⟨h, rfl⟩, fun h => by cases h⟩
theorem dec_no {text : List UInt8} (h : ∀ t : List UInt8, enc t ≠ text) : Dec text false [] := ⟨fun h => (by cases h), fun _ => ⟨rfl, fun t _ => h t⟩⟩
theorem dec_len {text : List UInt8} (h : text.length % 4 ≠ 0) : Dec text false [] := dec_no (by
  rintro t rfl
  rw [enc_len] at h
  omega)
theorem dec_sign {text : List UInt8} (h : (45 : UInt8) ∈ text) : Dec text false [] := dec_no (by
  rintro t rfl
  exact enc_no45 t h)
theorem dec_long {text : List UInt8} (h : 40 < text.length) : Dec text false [] := ⟨fun h => (by cases h), fun _ => ⟨rfl, by
  rintro t ht rfl
  rw [enc_len] at h
  omega⟩⟩
end Go.Proofs.YtichajalinkcdaaGreatDoor
namespace Go.Proofs.YtichajalinkcdaaGreatDoor
open Go.RowKit

/-- Block 'b' is just the cells 'cs' of element type 't', none of them frozen. -/
def Whole (w : World) (b : Nat) (t : TypeId) (cs : Array Value) : Prop := w.heap[b]? = some (.cells cs t (0, 0))

section
variable {w w' a : World} {b : Nat} {t : TypeId} {cs : Array Value}

theorem Whole.lt (h : Whole w b t cs) : b < w.heap.size := by
  rcases Nat.lt_or_ge b w.heap.size with hl | hg
  · exact hl
  · unfold Whole at h; rw [Array.getElem?_eq_none hg] at h; cases h
theorem Whole.cell (h : Whole w b t cs) (i : Nat) : w.cell? ⟨b, i, none⟩ = cs[i]? := cell_of_row w b i cs t (0, 0) h
theorem Whole.free (h : Whole w b t cs) (i : Nat) : w.frozen? ⟨b, i, none⟩ = false := by
  unfold Whole at h
  simp [World.frozen?, h]
theorem Whole.made (w : World) (t : TypeId) (cs : Array Value) : Whole (w.alloc (.cells cs t)) w.heap.size t cs := heap_alloc_new w _
theorem Whole.drewN (h : Whole w b t cs) (n : Nat) : Whole (w.drewN n) b t cs := h
theorem Whole.drew (h : Whole w b t cs) : Whole w.drew b t cs := h
theorem Whole.alloc (h : Whole w b t cs) (o : Obj) : Whole (w.alloc o) b t cs := (Below.heap_alloc w o b h.lt).trans h
theorem Whole.store (h : Whole w b t cs) (i : Nat) (u : Value) : Whole (w.setCell ⟨b, i, none⟩ u) b t (cs.setIfInBounds i u) := by
  unfold Whole at h ⊢
  simp [World.setCell, Array.getElem?_modify, h]
theorem Whole.apart (h : Whole w b t cs) {p : Addr} (hp : b ≠ p.block) (u : Value) : Whole (w.setCell p u) b t cs := (Below.heap_setCell w p u b hp).trans h
theorem Whole.below {B : Nat} (h : Whole w b t cs) (hb : Below B w w') (hl : b < B) : Whole w' b t cs := (hb.block b hl).trans h
theorem Whole.grown {row : Option Nat} (h : Whole w b t cs) (hg : w.grownBy w' row) (hn : some b ≠ row) : Whole w' b t cs := (hg.block b h.lt hn).trans h

theorem gr_refl (w : World) (row : Option Nat) : w.grownBy w row := World.grownBy.refl w row
theorem gr_trans {c : World} {row : Option Nat} (h : a.grownBy w row) (k : w.grownBy c row) : a.grownBy c row :=
  ⟨k.os.trans h.os, k.tape.trans h.tape, k.output.trans h.output, Nat.le_trans h.size k.size, fun i hi hn => (k.block i (Nat.lt_of_lt_of_le hi h.size) hn).trans (h.block i hi hn)⟩
theorem gr_drewN {row : Option Nat} (h : a.grownBy w row) (n : Nat) : a.grownBy (w.drewN n) row := ⟨h.os, h.tape, h.output, h.size, h.block⟩
theorem gr_drew {row : Option Nat} (h : a.grownBy w row) : a.grownBy w.drew row := ⟨h.os, h.tape, h.output, h.size, h.block⟩
theorem gr_alloc {row : Option Nat} (h : a.grownBy w row) (o : Obj) : a.grownBy (w.alloc o) row :=
  ⟨h.os, h.tape, h.output, Nat.le_trans h.size (by simp), fun i hi hn => (Below.heap_alloc w o i (Nat.lt_of_lt_of_le hi h.size)).trans (h.block i hi hn)⟩
theorem gr_store {g : Nat} (h : a.grownBy w (some g)) {p : Addr} (hp : p.block = g ∨ a.heap.size ≤ p.block) (u : Value) : a.grownBy (w.setCell p u) (some g) :=
  ⟨h.os, h.tape, h.output, by simpa [World.setCell] using h.size, fun i hi hn => (Below.heap_setCell w p u i (by
    rintro rfl
    rcases hp with hp | hp
    · exact hn (by rw [hp])
    · omega)).trans (h.block i hi hn)⟩
theorem gr_below (h : Below a.heap.size a w) (row : Option Nat) : a.grownBy w row := ⟨h.os, h.tape, h.output, h.size, fun i hi _ => h.block i hi⟩
theorem below_drewN' {B : Nat} (h : Below B a w) (n : Nat) : Below B a (w.drewN n) := ⟨h.os, h.tape, h.output, h.size, h.block⟩
theorem below_gr {B g : Nat} (h : Below B a w) (hg : w.grownBy w' (some g)) (hB : B ≤ w.heap.size) (hb : B ≤ g) : Below B a w' :=
  h.grown hg hB (fun k hk => by cases hk; exact hb)
end

theorem ret_bool {a b : Bool} (h : a = b) : Ending.returned (.bool a) = .returned (.bool b) := by rw [h]
theorem noEmpty {v : ByteArray} (h : v.size ≠ 0) : v.toList.isEmpty = false ∧ ¬ v.toList = [] := by
  have hn : ¬ v.toList = [] := by
    rw [ByteArray.toList_eq]
    intro e
    have : v.data.toList.length = 0 := by rw [e]; rfl
    exact h (by simpa using this)
  refine ⟨?_, hn⟩
  cases he : v.toList with
  | nil => exact absurd he hn
  | cons _ _ => rfl
theorem isEmpty {v : ByteArray} (h : v.size = 0) : v.toList.isEmpty = true ∧ v.toList = [] := by
  have hn : v.toList = [] := by
    rw [ByteArray.toList_eq]
    exact List.eq_nil_of_length_eq_zero (by simpa using h)
  exact ⟨by rw [hn]; rfl, hn⟩
end Go.Proofs.YtichajalinkcdaaGreatDoor
namespace Go.Proofs.YtichajalinkcdaaGreatDoor

/-- A sign of a name. -/
def sgn (c : UInt8) : Bool := decide ((97 ≤ c.toNat ∧ c.toNat ≤ 122) ∨ (48 ≤ c.toNat ∧ c.toNat ≤ 57))
/-- A name. -/
def nameB (l : List UInt8) : Bool := l.all sgn && decide (1 ≤ l.length) && decide (l.length ≤ 8)
/-- How many signs of a name follow from place 'k' on. -/
def nmLen (L : List UInt8) (k : Nat) : Nat := ((L.drop k).takeWhile sgn).length

theorem nmLen_go (L : List UInt8) (k : Nat) (h : k < L.length) (hs : sgn L[k] = true) : nmLen L k = nmLen L (k + 1) + 1 := by
  unfold nmLen
  rw [List.drop_eq_getElem_cons h, List.takeWhile_cons, if_pos hs, List.length_cons]
theorem nmLen_stop (L : List UInt8) (k : Nat) (h : k < L.length) (hs : sgn L[k] = false) : nmLen L k = 0 := by
  unfold nmLen
  rw [List.drop_eq_getElem_cons h, List.takeWhile_cons, if_neg (by simp [hs])]
  rfl
theorem nmLen_end (L : List UInt8) (k : Nat) (h : L.length ≤ k) : nmLen L k = 0 := by
  unfold nmLen
  rw [List.drop_eq_nil_of_le h]
  rfl
theorem nmLen_le (L : List UInt8) (k : Nat) (h : k ≤ L.length) : k + nmLen L k ≤ L.length := by
  unfold nmLen
  have h1 := (List.takeWhile_sublist sgn (l := L.drop k)).length_le
  rw [List.length_drop] at h1
  omega

/-- The length of a name. -/
def okLen (n : Nat) : Bool := decide (1 ≤ n) && decide (n ≤ 8)

/-- The next byte is 'c'. -/
def nextIs (L : List UInt8) (k : Nat) (c : UInt8) : Bool := L[k]? == some c
/-- Further names of a domain, at most 'n' of them; whether the last one was a name, and where they end. -/
def domGo (L : List UInt8) : Nat → Bool → Nat → Bool × Nat
  | 0, ok, k => (ok, k)
  | n + 1, ok, k => if ok && nextIs L k 46 then domGo L n (okLen (nmLen L (k + 1))) (k + 1 + nmLen L (k + 1)) else (ok, k)
/-- Where the names of a domain end. -/
def domEnd (L : List UInt8) (k : Nat) : Nat := (domGo L 2 (okLen (nmLen L k)) (k + nmLen L k)).2
/-- Whether a domain stands from place 'k' on. -/
def domOk (L : List UInt8) (k : Nat) : Bool := (domGo L 2 (okLen (nmLen L k)) (k + nmLen L k)).1 && decide (domEnd L k - k ≤ 20)

/-- Whether a user, an at sign and a domain stand from place 'k' on. -/
def adOk (L : List UInt8) (k : Nat) : Bool := okLen (nmLen L k) && nextIs L (k + nmLen L k) 64 && domOk L (k + nmLen L k + 1)
/-- Where the domain ends. -/
def adEnd (L : List UInt8) (k : Nat) : Nat := domEnd L (k + nmLen L k + 1)
/-- The user. -/
def adUser (L : List UInt8) (k : Nat) : List UInt8 := (L.drop k).take (nmLen L k)
/-- The domain. -/
def adDom (L : List UInt8) (k : Nat) : List UInt8 := (L.drop (k + nmLen L k + 1)).take (adEnd L k - (k + nmLen L k + 1))

/-- Whether the whole text is an address. -/
def apB (L : List UInt8) : Bool := adOk L 0 && decide (adEnd L 0 = L.length)
/-- Whether a path in brackets stands. -/
def ppB (L : List UInt8) : Bool := nextIs L 0 60 && adOk L 1 && nextIs L (adEnd L 1) 62 && decide (adEnd L 1 + 1 = L.length)

theorem domGo_off (L : List UInt8) (n k : Nat) : domGo L n false k = (false, k) := by cases n <;> rfl
theorem domGo_zero (L : List UInt8) (o : Bool) (k : Nat) : domGo L 0 o k = (o, k) := rfl
theorem domGo_no (L : List UInt8) (n k : Nat) (o : Bool) (h : nextIs L k 46 = false) : domGo L n o k = (o, k) := by
  cases n with
  | zero => rfl
  | succ n => unfold domGo; rw [h]; simp
theorem domGo_yes (L : List UInt8) (n k : Nat) (h : nextIs L k 46 = true) : domGo L (n + 1) true k = domGo L n (okLen (nmLen L (k + 1))) (k + 1 + nmLen L (k + 1)) := by
  conv => lhs; unfold domGo
  rw [h]; simp
theorem nextIs_lt {L : List UInt8} {k : Nat} {c : UInt8} (h : nextIs L k c = true) : k < L.length := by
  unfold nextIs at h
  rcases Nat.lt_or_ge k L.length with h1 | h1
  · exact h1
  · rw [List.getElem?_eq_none h1] at h; cases h

theorem int_beq (a b : Nat) : ((a : Int) == (b : Int)) = decide (a = b) := by
  rw [Bool.eq_iff_iff]; simp; omega
theorem extract_list (s : ByteArray) (a b : Nat) : (s.extract a b).data.toList = (s.data.toList.drop a).take (b - a) := by
  rw [ByteArray.data_extract, Array.toList_extract, List.extract_eq_take_drop]
end Go.Proofs.YtichajalinkcdaaGreatDoor
namespace Go.Proofs.YtichajalinkcdaaGreatDoor
open Go.RowKit
set_option linter.unusedVariables false

/-- 'n' lies between 'a' and 'b'. -/
def inB (n a b : Int) : Bool := decide (a ≤ n ∧ n ≤ b)
set_option maxHeartbeats 400000 in
theorem in_any (n a b : Int) (w : World) : Calls Tryz.prog 80 #[.int .i64 n, .int .i64 a, .int .i64 b] w fun e w' => e = .returned (.bool (inB n a b)) ∧ w = w' := by
  by_cases h1 : a ≤ n <;> by_cases h2 : n ≤ b
  all_goals
    go_enter Tryz.func80, Tryz.ntmps80
    go_wp2
    go_ret
    refine ⟨ret_bool ?_, rfl⟩
    unfold inB
    first
      | exact (decide_eq_true (by omega)).symm
      | exact (decide_eq_false (by omega)).symm

theorem all_take (L : List UInt8) (k : Nat) (hk : k < L.length) (h : (L.take k).all sgn = true) : (L.take (k + 1)).all sgn = sgn L[k] := by
  rw [List.take_succ_eq_append_getElem hk, List.all_append, h]
  simp
theorem all_stop (L : List UInt8) (k : Nat) (hk : k < L.length) (h : sgn L[k] = false) : L.all sgn = false := by
  rw [← Bool.not_eq_true]
  intro ha
  rw [List.all_eq_true] at ha
  have := ha L[k] (List.getElem_mem hk)
  rw [h] at this
  cases this

set_option maxHeartbeats 1000000 in
theorem spec_name (s : ByteArray) (w : World) (hs : s.size ≤ 16777216) :
    Calls Tryz.prog 82 #[.string s] w fun e w' => e = .returned (.bool (nameB s.data.toList)) ∧ w = w' := by
  have hl : s.data.toList.length = s.size := by simp
  have HL := Lib.hid hl
  clear hl
  go_enter Tryz.func82, Tryz.ntmps82
  go_wp2
  go_loop [3] (fun i => ∃ k : Nat, k ≤ s.size ∧ i = .int .i64 (k : Int) ∧ Hid ((s.data.toList.take k).all sgn = true)) (fun i => s.size - (intOf i).toNat)
  case atStart => exact ⟨0, Nat.zero_le _, by go_num, rfl⟩
  case round =>
    obtain ⟨k, hk, rfl, HA⟩ := hrel
    by_cases hlt : k < s.size
    · have h0 : (0 : Int) ≤ (k : Int) := by omega
      have h5 : (k : Int) < (s.size : Int) := by omega
      by_cases h1 : (97 : Int) ≤ (s[k].toNat : Int) <;> by_cases h2 : (s[k].toNat : Int) ≤ 122 <;> by_cases h3 : (48 : Int) ≤ (s[k].toNat : Int) <;> by_cases h4 : (s[k].toNat : Int) ≤ 57
      all_goals first
        | (exfalso; omega)
        | (go_wp2
           first
             | (go_round
                case rel =>
                  refine ⟨k + 1, by omega, by go_num, ?_⟩
                  show _ = true
                  rw [all_take _ _ (by rw [HL.out]; exact hlt) HA.out]
                  exact decide_eq_true (by show (97 ≤ s[k].toNat ∧ s[k].toNat ≤ 122) ∨ (48 ≤ s[k].toNat ∧ s[k].toNat ≤ 57); omega)
                case measure => simp [intOf]; omega)
             | (go_ret
                refine ⟨ret_bool ?_, rfl⟩
                have e1 : sgn s.data.toList[k] = false := decide_eq_false (by show ¬ ((97 ≤ s[k].toNat ∧ s[k].toNat ≤ 122) ∨ (48 ≤ s[k].toNat ∧ s[k].toNat ≤ 57)); omega)
                unfold nameB
                rw [all_stop _ k (by rw [HL.out]; exact hlt) e1]
                rfl))
    · have hkk : k = s.size := by omega
      have HK := Lib.hid hkk
      clear hkk
      go_wp2_with fail
      refine (in_any _ _ _ _).mono ?_
      rintro e w1 ⟨rfl, rfl⟩
      go_wp2
      go_ret
      refine ⟨ret_bool ?_, rfl⟩
      have ha : s.data.toList.all sgn = true := by
        have := HA.out
        rw [HK.out, ← HL.out, List.take_length] at this
        exact this
      show inB _ _ _ = _
      unfold nameB inB
      rw [ha, HL.out]
      by_cases h1 : 1 ≤ s.size <;> by_cases h2 : s.size ≤ 8
      · rw [decide_eq_true (by omega), decide_eq_true h1, decide_eq_true h2]; rfl
      · rw [decide_eq_false (by omega), decide_eq_false h2]; simp
      · rw [decide_eq_false (by omega), decide_eq_false h1]; simp
      · rw [decide_eq_false (by omega), decide_eq_false h1]; simp
end Go.Proofs.YtichajalinkcdaaGreatDoor
namespace Go.Proofs.YtichajalinkcdaaGreatDoor
open Go.RowKit
set_option linter.unusedVariables false

/-- A string value. -/
def str (l : List UInt8) : Value := .string ⟨l.toArray⟩
theorem str_of (s : ByteArray) : Value.string s = str s.data.toList := by
  unfold str
  cases s
  simp
/-- The parts of a text at a byte, the first one begun with 'cur'. -/
def cutGo (c : UInt8) : List UInt8 → List UInt8 → List (List UInt8)
  | cur, [] => [cur]
  | cur, x :: t => if x = c then cur :: cutGo c [] t else cutGo c (cur ++ [x]) t
/-- The parts of a text at a byte. -/
def cut (c : UInt8) (L : List UInt8) : List (List UInt8) := cutGo c [] L

theorem cutGo_len (c : UInt8) (l : List UInt8) : ∀ cur, 1 ≤ (cutGo c cur l).length ∧ (cutGo c cur l).length ≤ l.length + 1 := by
  induction l with
  | nil => intro cur; simp [cutGo]
  | cons x t ih =>
    intro cur
    unfold cutGo
    split
    · have := ih []; simp; omega
    · have := ih (cur ++ [x]); simp; omega
theorem cut_len (c : UInt8) (L : List UInt8) : 1 ≤ (cut c L).length ∧ (cut c L).length ≤ L.length + 1 := cutGo_len c L []

/-- What the loop has found: the parts 'P', and where the next one begins. -/
def CutAt (c : UInt8) (L : List UInt8) (P : List (List UInt8)) (f i : Nat) : Prop := cut c L = P ++ cutGo c ((L.drop f).take (i - f)) (L.drop i)

theorem CutAt.begin (c : UInt8) (L : List UInt8) : CutAt c L [] 0 0 := by unfold CutAt cut; simp
theorem CutAt.hit {c : UInt8} {L : List UInt8} {P : List (List UInt8)} {f i : Nat} (h : CutAt c L P f i) (hi : i < L.length) (hc : L[i] = c) : CutAt c L (P ++ [(L.drop f).take (i - f)]) (i + 1) (i + 1) := by
  unfold CutAt at h ⊢
  rw [h, List.drop_eq_getElem_cons hi]
  conv => lhs; rw [cutGo, if_pos hc]
  simp
theorem CutAt.miss {c : UInt8} {L : List UInt8} {P : List (List UInt8)} {f i : Nat} (h : CutAt c L P f i) (hf : f ≤ i) (hi : i < L.length) (hc : L[i] ≠ c) : CutAt c L P f (i + 1) := by
  unfold CutAt at h ⊢
  rw [h, List.drop_eq_getElem_cons hi]
  conv => lhs; rw [cutGo, if_neg hc]
  congr 2
  have e : i + 1 - f = (i - f) + 1 := by omega
  rw [e, List.take_succ_eq_append_getElem (by rw [List.length_drop]; omega), List.getElem_drop]
  congr 2
  congr 1
  omega
theorem CutAt.finish {c : UInt8} {L : List UInt8} {P : List (List UInt8)} {f : Nat} (h : CutAt c L P f L.length) : cut c L = P ++ [L.drop f] := by
  unfold CutAt at h
  rw [h, List.drop_length]
  unfold cutGo
  congr 2
  rw [List.take_of_length_le (by rw [List.length_drop]; omega)]
theorem CutAt.len {c : UInt8} {L : List UInt8} {P : List (List UInt8)} {f i : Nat} (h : CutAt c L P f i) : P.length ≤ L.length := by
  have h1 := cut_len c L
  unfold CutAt at h
  rw [h, List.length_append] at h1
  have h2 := cutGo_len c (L.drop i) ((L.drop f).take (i - f))
  omega

theorem Tryz.infoString : (Tryz.prog.info? 9).map (fun i => (i.zero, i.size, i.bytes)) = some (some (.string ⟨#[]⟩), 1, 16) := by kernel_rfl

/-- What 'l1Cut' leaves: a slice that holds the parts. -/
def Cuts (w : World) (ps : List (List UInt8)) (e : Ending) (w' : World) : Prop :=
  ∃ (g cap : Nat), e = .returned (.slice (some ⟨g, 0, none⟩) ps.length cap) ∧ w.heap.size ≤ g ∧ g < w'.heap.size ∧ (∀ j, j < ps.length → w'.cell? ⟨g, j, none⟩ = some (str (ps.getD j []))) ∧ Below w.heap.size w w'

set_option maxHeartbeats 2000000 in
theorem cut_any (s : ByteArray) (c : UInt8) (w : World) (hs : s.size ≤ 16777216) :
    Calls Tryz.prog 83 #[.string s, .int .u8 (c.toNat : Int)] w (Cuts w (cut c s.data.toList)) := by
  have hl : s.data.toList.length = s.size := by simp
  have HL := Lib.hid hl
  clear hl
  obtain ⟨i0, hi, hz0, hz1, hz2⟩ := info_parts Tryz.infoString
  go_enter Tryz.func83, Tryz.ntmps83
  go_wp2
  go_loopw [5, 6, 7] (fun v fr i wr => ∃ (k f : Nat) (P : List (List UInt8)), k ≤ s.size ∧ f ≤ k ∧ fr = .int .i64 (f : Int) ∧ i = .int .i64 (k : Int) ∧ wr.ownsRow w.heap.size 9 1 v P.length (P.map str) ∧ Below w.heap.size w wr ∧ CutAt c s.data.toList P f k)
    (fun _ _ i _ => s.size - (intOf i).toNat)
  case atStart =>
    exact ⟨0, 0, [], Nat.zero_le _, Nat.le_refl _, by go_num, by go_num, World.ownsRow_lit w #[] 0 (Nat.le_refl _) (by unfold maxLen; omega) rfl, (Below.refl _ _).alloc (Nat.le_refl _) _, CutAt.begin _ _⟩
  case round =>
    obtain ⟨k, f, P, hk, hf, rfl, rfl, hown, hbel, hcut⟩ := hrel
    have hP : P.length ≤ s.size := by have := hcut.len; have := HL.out; omega
    have hz := hbel.size
    have HC := Lib.hid hcut
    have HB := Lib.hid hbel
    clear hcut hbel
    have h0 : (0 : Int) ≤ (f : Int) := by omega
    have h1 : (f : Int) ≤ (k : Int) := by omega
    have h2 : (k : Int) ≤ (s.size : Int) := by omega
    have h2' : (f : Int) ≤ (s.size : Int) := by omega
    by_cases hlt : k < s.size
    · have h3 : (k : Int) < (s.size : Int) := by omega
      by_cases hc : s[k] = c
      · have hcb : ((s[k].toNat : Int) == (c.toNat : Int)) = true := by rw [hc]; simp
        have HE := Lib.hid hc
        clear hc
        go_wp2_with (at_builtin; refine wpList_append_own _ rfl _ _ 23 rfl w.heap.size 9 i0 (.string ⟨#[]⟩) 1 16 Tryz.underlying23 hi hz0 hz1 hz2 rfl (by decide) _ _ _ rfl (hown.alloc _) ⟨wr.heap.size, 0, none⟩ 1 1 [.string (s.extract f k)] rfl rfl ?c1 ?c2 ?c3 ?c4 ?c5 ?_)
        case c1 =>
          intro j u hj
          match j, hj with
          | 0, hj => simp at hj; subst hj; simp [Addr.add]
        case c2 => intro u hu; simp at hu; subst hu; rfl
        case c3 => unfold maxLen; omega
        case c4 => omega
        case c5 => simp; omega
        intro v' w1 hown1 hgrow _
        have hbl := (HB.out.alloc hz (.cells #[.string (s.extract f k)] 9)).grown hgrow (by simp; omega) (fun q hq => (hown.lt q hq).1)
        have HO := Lib.hid hown1
        have HBL := Lib.hid hbl
        clear hown1 hgrow hbl hown
        go_wp2
        go_roundw
        case rel =>
          refine ⟨k + 1, k + 1, P ++ [(s.data.toList.drop f).take (k - f)], by omega, Nat.le_refl _, by go_num, by go_num, ?_, HBL.out, HC.out.hit (by rw [HL.out]; exact hlt) HE.out⟩
          have := HO.out
          rw [str_of, extract_list] at this
          simpa using this
        case measure => simp [intOf]; omega
      · have hcb : ((s[k].toNat : Int) == (c.toNat : Int)) = false := by
          have : s[k].toNat ≠ c.toNat := fun e => hc (UInt8.toNat_inj.1 e)
          simp; omega
        have HE := Lib.hid hc
        clear hc
        go_wp2
        go_roundw
        case rel => exact ⟨k + 1, f, P, by omega, by omega, rfl, by go_num, hown, HB.out, HC.out.miss hf (by rw [HL.out]; exact hlt) HE.out⟩
        case measure => simp [intOf]; omega
    · have hkk : k = s.size := by omega
      have HK := Lib.hid hkk
      clear hkk
      go_wp2_with (at_builtin; refine wpList_append_own _ rfl _ _ 23 rfl w.heap.size 9 i0 (.string ⟨#[]⟩) 1 16 Tryz.underlying23 hi hz0 hz1 hz2 rfl (by decide) _ _ _ rfl (hown.alloc _) ⟨wr.heap.size, 0, none⟩ 1 1 [.string (s.extract f s.size)] rfl rfl ?c1 ?c2 ?c3 ?c4 ?c5 ?_)
      case c1 =>
        intro j u hj
        match j, hj with
        | 0, hj => simp at hj; subst hj; simp [Addr.add]
      case c2 => intro u hu; simp at hu; subst hu; rfl
      case c3 => unfold maxLen; omega
      case c4 => omega
      case c5 => simp; omega
      intro v' w1 hown1 hgrow _
      have hbl := (HB.out.alloc hz (.cells #[.string (s.extract f s.size)] 9)).grown hgrow (by simp; omega) (fun q hq => (hown.lt q hq).1)
      have HO := Lib.hid hown1
      have HBL := Lib.hid hbl
      clear hown1 hgrow hbl hown
      go_wp2
      go_ret
      have e1 : cut c s.data.toList = P ++ [s.data.toList.drop f] := by
        have h := HC.out
        rw [HK.out, ← HL.out] at h
        exact h.finish
      have hn : (cut c s.data.toList).length = P.length + 1 := by rw [e1]; simp
      have hown2 : w1.ownsRow w.heap.size 9 1 v' (cut c s.data.toList).length ((cut c s.data.toList).map str) := by
        have := HO.out
        rw [str_of, extract_list] at this
        rw [hn, e1]
        have e2 : (s.data.toList.drop f).take (s.size - f) = s.data.toList.drop f := List.take_of_length_le (by rw [List.length_drop, HL.out]; omega)
        rw [e2] at this
        simpa using this
      obtain ⟨g, cap, rfl, hg1, hg2⟩ := hown2.form (by omega)
      refine ⟨g, cap, rfl, hg1, hg2, fun j hj => ?_, HBL.out⟩
      rw [hown2.cellAt j (by omega)]
      rw [List.getElem?_map, List.getElem?_eq_getElem hj, List.getD_eq_getElem?_getD, List.getElem?_eq_getElem hj]
      rfl
end Go.Proofs.YtichajalinkcdaaGreatDoor
namespace Go.Proofs.YtichajalinkcdaaGreatDoor
open Go.RowKit
set_option linter.unusedVariables false

set_option maxHeartbeats 400000 in
theorem sign_any (c : UInt8) (w : World) : Calls Tryz.prog 110 #[.int .u8 (c.toNat : Int)] w fun e w' => e = .returned (.bool (sgn c)) ∧ w' = w := by
  by_cases h1 : (97 : Int) ≤ (c.toNat : Int) <;> by_cases h2 : (c.toNat : Int) ≤ 122 <;> by_cases h3 : (48 : Int) ≤ (c.toNat : Int) <;> by_cases h4 : (c.toNat : Int) ≤ 57
  all_goals first
    | (exfalso; omega)
    | (go_enter Tryz.func110, Tryz.ntmps110
       go_wp2
       go_ret
       refine ⟨ret_bool ?_, rfl⟩
       unfold sgn
       first
         | exact (decide_eq_true (by omega)).symm
         | exact (decide_eq_false (by omega)).symm)
theorem sign_yes (c : UInt8) (w : World) (h : sgn c = true) : Calls Tryz.prog 110 #[.int .u8 (c.toNat : Int)] w fun e w' => e = .returned (.bool true) ∧ w' = w := h ▸ sign_any c w
theorem sign_no (c : UInt8) (w : World) (h : sgn c = false) : Calls Tryz.prog 110 #[.int .u8 (c.toNat : Int)] w fun e w' => e = .returned (.bool false) ∧ w' = w := h ▸ sign_any c w

/-- The cursor's block: the text and the place. -/
def Cur (w : World) (b : Nat) (s : ByteArray) (k : Nat) : Prop := Whole w b 92 #[.string s, .int .i64 (k : Int)]

section
variable {w w' : World} {b k : Nat} {s : ByteArray}
theorem Cur.text (h : Cur w b s k) : w.cell? ⟨b, 0, none⟩ = some (.string s) := Whole.cell h 0
theorem Cur.place (h : Cur w b s k) : w.cell? ⟨b, 1, none⟩ = some (.int .i64 (k : Int)) := Whole.cell h 1
theorem Cur.free (h : Cur w b s k) (i : Nat) : w.frozen? ⟨b, i, none⟩ = false := Whole.free h i
theorem Cur.drewN (h : Cur w b s k) (n : Nat) : Cur (w.drewN n) b s k := h
theorem Cur.go (h : Cur w b s k) : Cur (w.setCell ⟨b, 1, none⟩ (.int .i64 ((k + 1 : Nat) : Int))) b s (k + 1) := Whole.store h 1 _
end

set_option maxHeartbeats 400000 in
theorem done_yes (b k : Nat) (s : ByteArray) (w : World) (h : Cur w b s k) (hk : k = s.size) :
    Calls Tryz.prog 91 #[.pointer (some ⟨b, 0, none⟩)] w fun e w' => e = .returned (.bool true) ∧ ∃ n, w' = w.drewN n := by
  have ht := h.text
  have hp := h.place
  clear h
  have hd : ((k : Int) == (s.size : Int)) = true := by rw [int_beq]; simpa using hk
  clear hk
  go_enter Tryz.func91, Tryz.ntmps91
  go_wp2
  go_quiet (fail)
  go_wp2
  go_ret
  exact ⟨rfl, _, rfl⟩
set_option maxHeartbeats 400000 in
theorem done_no (b k : Nat) (s : ByteArray) (w : World) (h : Cur w b s k) (hk : k < s.size) :
    Calls Tryz.prog 91 #[.pointer (some ⟨b, 0, none⟩)] w fun e w' => e = .returned (.bool false) ∧ ∃ n, w' = w.drewN n := by
  have ht := h.text
  have hp := h.place
  clear h
  have hd : ((k : Int) == (s.size : Int)) = false := by rw [int_beq]; simp; omega
  clear hk
  go_enter Tryz.func91, Tryz.ntmps91
  go_wp2
  go_quiet (fail)
  go_wp2
  go_ret
  exact ⟨rfl, _, rfl⟩

/-- 'take' where the next byte is asked for. -/
def Took (w : World) (b : Nat) (s : ByteArray) (k : Nat) (r : Bool) (e : Ending) (w' : World) : Prop := e = .returned (.bool r) ∧ Cur w' b s k ∧ w.grownBy w' (some b)
set_option maxHeartbeats 400000 in
theorem take_yes (b k : Nat) (s : ByteArray) (c : UInt8) (w : World) (h : Cur w b s k) (hs : s.size ≤ 16777216) (hk : k < s.size) (hc : s[k] = c) :
    Calls Tryz.prog 117 #[.pointer (some ⟨b, 0, none⟩), .int .u8 (c.toNat : Int)] w (Took w b s (k + 1) true) := by
  have ht := h.text
  have hp := h.place
  have hf := h.free 1
  have H := Lib.hid h
  clear h
  subst hc
  have hne : ((s[k].toNat : Int) != (s[k].toNat : Int)) = false := by simp
  have h0 : (0 : Int) ≤ (k : Int) := by omega
  have h1 : (k : Int) < (s.size : Int) := by omega
  go_enter Tryz.func117, Tryz.ntmps117
  go_wp2
  go_quiet ((go_at_call 91; exact Calls.quiet_of (done_no b k s _ (H.out.drewN _) hk)))
  go_wp2
  go_ret
  exact ⟨rfl, H.out.go.drewN _, gr_drewN (gr_store (gr_refl _ _) (.inl rfl) _) _⟩
set_option maxHeartbeats 400000 in
theorem take_end (b k : Nat) (s : ByteArray) (c : UInt8) (w : World) (h : Cur w b s k) (hk : k = s.size) :
    Calls Tryz.prog 117 #[.pointer (some ⟨b, 0, none⟩), .int .u8 (c.toNat : Int)] w (Took w b s k false) := by
  have ht := h.text
  have hp := h.place
  have H := Lib.hid h
  have K := Lib.hid hk
  clear h hk
  go_enter Tryz.func117, Tryz.ntmps117
  go_wp2
  go_quiet ((go_at_call 91; exact Calls.quiet_of (done_yes b k s _ (H.out.drewN _) K.out)))
  go_wp2
  go_ret
  exact ⟨rfl, H.out.drewN _, gr_drewN (gr_refl _ _) _⟩
set_option maxHeartbeats 400000 in
theorem take_other (b k : Nat) (s : ByteArray) (c : UInt8) (w : World) (h : Cur w b s k) (hs : s.size ≤ 16777216) (hk : k < s.size) (hc : s[k] ≠ c) :
    Calls Tryz.prog 117 #[.pointer (some ⟨b, 0, none⟩), .int .u8 (c.toNat : Int)] w (Took w b s k false) := by
  have ht := h.text
  have hp := h.place
  have H := Lib.hid h
  clear h
  have hne : ((s[k].toNat : Int) != (c.toNat : Int)) = true := by
    have : s[k].toNat ≠ c.toNat := fun e => hc (UInt8.toNat_inj.1 e)
    simp; omega
  clear hc
  have h0 : (0 : Int) ≤ (k : Int) := by omega
  have h1 : (k : Int) < (s.size : Int) := by omega
  go_enter Tryz.func117, Tryz.ntmps117
  go_wp2
  go_quiet ((go_at_call 91; exact Calls.quiet_of (done_no b k s _ (H.out.drewN _) hk)))
  go_wp2
  go_ret
  exact ⟨rfl, H.out.drewN _, gr_drewN (gr_refl _ _) _⟩

theorem take_any (b k : Nat) (s : ByteArray) (c : UInt8) (w : World) (h : Cur w b s k) (hs : s.size ≤ 16777216) (hk : k ≤ s.size) :
    Calls Tryz.prog 117 #[.pointer (some ⟨b, 0, none⟩), .int .u8 (c.toNat : Int)] w (Took w b s (if nextIs s.data.toList k c then k + 1 else k) (nextIs s.data.toList k c)) := by
  have hl : s.data.toList.length = s.size := by simp
  by_cases h1 : k < s.size
  · have e : s.data.toList[k]? = some s[k] := List.getElem?_eq_getElem (by omega)
    by_cases h2 : s[k] = c
    · have : nextIs s.data.toList k c = true := by unfold nextIs; rw [e, h2]; simp
      rw [this]
      exact take_yes b k s c w h hs h1 h2
    · have : nextIs s.data.toList k c = false := by unfold nextIs; rw [e]; simpa using h2
      rw [this]
      exact take_other b k s c w h hs h1 h2
  · have : nextIs s.data.toList k c = false := by unfold nextIs; rw [List.getElem?_eq_none (by omega)]; rfl
    rw [this]
    exact take_end b k s c w h (by omega)

/-- What 'name' leaves: the text of the signs, if there are not too few or too many, and the place behind them. -/
def Named (w : World) (b : Nat) (s : ByteArray) (k : Nat) (e : Ending) (w' : World) : Prop :=
  ∃ v : ByteArray, e = .returned (.tuple #[.string v, .bool (okLen (nmLen s.data.toList k))]) ∧ v.data.toList = (if okLen (nmLen s.data.toList k) then (s.data.toList.drop k).take (nmLen s.data.toList k) else []) ∧
    Cur w' b s (k + nmLen s.data.toList k) ∧ w.grownBy w' (some b)

theorem ret_two {a b : Value} {c d : Bool} (h1 : a = b) (h2 : c = d) : Ending.returned (.tuple #[a, .bool c]) = .returned (.tuple #[b, .bool d]) := by rw [h1, h2]
theorem named_no {b k j : Nat} {s : ByteArray} {w wr : World} (n : Nat) (hgr : w.grownBy wr (some b)) (hc : Cur wr b s j) (hk : nmLen s.data.toList k = j - k) (hn : j - k = 0 ∨ 8 < j - k) (h3 : (k : Int) ≤ (j : Int)) :
    Named w b s k (.returned (.tuple #[.string ⟨#[]⟩, .bool false])) (wr.drewN n) := by
  have ho : okLen (nmLen s.data.toList k) = false := by
    unfold okLen
    rw [hk]
    rcases hn with h | h
    · rw [decide_eq_false (p := 1 ≤ j - k) (by omega)]; rfl
    · rw [decide_eq_false (p := j - k ≤ 8) (by omega)]; simp
  refine ⟨⟨#[]⟩, ?_, ?_, ?_, gr_drewN hgr _⟩
  · rw [ho]
  · rw [ho]; rfl
  · rw [hk]
    have : k + (j - k) = j := by omega
    rw [this]
    exact hc.drewN _
theorem named_yes {b k j : Nat} {s : ByteArray} {w wr : World} (n : Nat) (hgr : w.grownBy wr (some b)) (hc : Cur wr b s j) (hk : nmLen s.data.toList k = j - k) (hn : 1 ≤ j - k) (hn8 : j - k ≤ 8) (h3 : (k : Int) ≤ (j : Int)) :
    Named w b s k (.returned (.tuple #[.string (s.extract k j), .bool true])) (wr.drewN n) := by
  have ho : okLen (nmLen s.data.toList k) = true := by
    unfold okLen
    rw [hk, decide_eq_true hn, decide_eq_true hn8]; rfl
  refine ⟨s.extract k j, ?_, ?_, ?_, gr_drewN hgr _⟩
  · rw [ho]
  · rw [ho, if_pos rfl, hk]; exact extract_list _ _ _
  · rw [hk]
    have : k + (j - k) = j := by omega
    rw [this]
    exact hc.drewN _

set_option maxHeartbeats 1000000 in
theorem name_any (b k : Nat) (s : ByteArray) (w : World) (h : Cur w b s k) (hs : s.size ≤ 16777216) (hk : k ≤ s.size) :
    Calls Tryz.prog 90 #[.pointer (some ⟨b, 0, none⟩)] w (Named w b s k) := by
  have hl : s.data.toList.length = s.size := by simp
  have hp := h.place
  have H := Lib.hid h
  have HL := Lib.hid hl
  clear h hl
  go_enter Tryz.func90, Tryz.ntmps90
  go_wp2
  clear hp
  go_loopg [] (s.size - k) (fun g wr => ∃ j, k ≤ j ∧ j ≤ s.size ∧ g = s.size - j ∧ j + nmLen s.data.toList j = k + nmLen s.data.toList k ∧ Cur wr b s j ∧ w.grownBy wr (some b))
  case atStart => exact ⟨k, Nat.le_refl _, hk, rfl, rfl, H.out, gr_refl _ _⟩
  case round =>
    obtain ⟨j, hkj, hjs, hg, hnm, hcur, hgr⟩ := hrel
    have HN := Lib.hid hnm
    have HG := Lib.hid hg
    clear hnm hg
    have HC := Lib.hid hcur
    have hte := hcur.text
    have hpl := hcur.place
    have hfr := hcur.free 1
    have h0 : (0 : Int) ≤ (j : Int) := by omega
    clear hcur
    by_cases hgo : ∃ hj : j < s.size, sgn s[j] = true
    · obtain ⟨hj, hsg⟩ := hgo
      have h1 : (j : Int) < (s.size : Int) := by omega
      have HS := Lib.hid hsg
      clear hsg
      go_wp2
      go_quiet ((first
        | (go_at_call 91; exact Calls.quiet_of (done_no b j s _ (HC.out.drewN _) hj))
        | (go_at_call 110; exact Calls.quiet_of_same (sign_yes _ _ HS.out))))
      go_wp2
      go_roundg (s.size - (j + 1))
      case measure => have := HG.out; omega
      case rel =>
        refine ⟨j + 1, by omega, by omega, rfl, ?_, (HC.out.drewN _).go, gr_store (gr_drewN hgr _) (.inl rfl) _⟩
        have e1 := nmLen_go s.data.toList j (by rw [HL.out]; exact hj) HS.out
        have e2 := HN.out
        omega
    · have HK : Hid (nmLen s.data.toList k = j - k) := by
        have e2 := HN.out
        show _ = _
        by_cases hj : j < s.size
        · have e1 := nmLen_stop s.data.toList j (by rw [HL.out]; exact hj) (Bool.eq_false_iff.2 fun h => hgo ⟨hj, h⟩)
          omega
        · have e1 := nmLen_end s.data.toList j (by rw [HL.out]; omega)
          omega
      have HX : Hid ((∃ hj : j < s.size, sgn s[j] = false) ∨ j = s.size) := by
        by_cases hj : j < s.size
        · exact .inl ⟨hj, Bool.eq_false_iff.2 fun h => hgo ⟨hj, h⟩⟩
        · exact .inr (by omega)
      clear hgo
      have h2 : (0 : Int) ≤ (k : Int) := by omega
      have h3 : (k : Int) ≤ (j : Int) := by omega
      have h4 : (j : Int) ≤ (s.size : Int) := by omega
      have hez : (s.extract k j).size = j - k := by rw [ByteArray.size_extract]; omega
      rcases HX.out with ⟨hj, hsg⟩ | hj
      · have h1 : (j : Int) < (s.size : Int) := by omega
        have HS := Lib.hid hsg
        clear hsg HX
        by_cases hn0 : j = k
        · obtain ⟨hE, hE'⟩ := isEmpty (v := s.extract k j) (by omega)
          have HM := Lib.hid hn0
          clear hez hn0
          go_wp2
          go_quiet ((first
            | (go_at_call 91; exact Calls.quiet_of (done_no b j s _ (HC.out.drewN _) hj))
            | (go_at_call 110; exact Calls.quiet_of_same (sign_no _ _ HS.out))))
          go_wp2
          go_quiet (fail)
          go_wp2
          go_ret2
          exact named_no _ hgr HC.out HK.out (by have := HM.out; omega) h3
        · obtain ⟨hE, hE'⟩ := noEmpty (v := s.extract k j) (by omega)
          have HZ := Lib.hid hez
          clear hez
          by_cases hn8 : j - k ≤ 8
          · have hn8' : ((j - k : Nat) : Int) ≤ 8 := by omega
            go_wp2
            go_quiet ((first
              | (go_at_call 91; exact Calls.quiet_of (done_no b j s _ (HC.out.drewN _) hj))
              | (go_at_call 110; exact Calls.quiet_of_same (sign_no _ _ HS.out))))
            go_wp2
            go_quiet (fail)
            go_wp2
            go_ret2
            exact named_yes _ hgr HC.out HK.out (by omega) hn8 h3
          · have hn8' : (8 : Int) < ((j - k : Nat) : Int) := by omega
            go_wp2
            go_quiet ((first
              | (go_at_call 91; exact Calls.quiet_of (done_no b j s _ (HC.out.drewN _) hj))
              | (go_at_call 110; exact Calls.quiet_of_same (sign_no _ _ HS.out))))
            go_wp2
            go_quiet (fail)
            go_wp2
            go_ret2
            exact named_no _ hgr HC.out HK.out (by omega) h3
      · have HJ := Lib.hid hj
        clear hj HX
        by_cases hn0 : j = k
        · obtain ⟨hE, hE'⟩ := isEmpty (v := s.extract k j) (by omega)
          have HM := Lib.hid hn0
          clear hez hn0
          go_wp2
          go_quiet ((go_at_call 91; exact Calls.quiet_of (done_yes b j s _ (HC.out.drewN _) HJ.out)))
          go_wp2
          go_quiet (fail)
          go_wp2
          go_ret2
          exact named_no _ hgr HC.out HK.out (by have := HM.out; omega) h3
        · obtain ⟨hE, hE'⟩ := noEmpty (v := s.extract k j) (by omega)
          have HZ := Lib.hid hez
          clear hez
          by_cases hn8 : j - k ≤ 8
          · have hn8' : ((j - k : Nat) : Int) ≤ 8 := by omega
            go_wp2
            go_quiet ((go_at_call 91; exact Calls.quiet_of (done_yes b j s _ (HC.out.drewN _) HJ.out)))
            go_wp2
            go_quiet (fail)
            go_wp2
            go_ret2
            exact named_yes _ hgr HC.out HK.out (by omega) hn8 h3
          · have hn8' : (8 : Int) < ((j - k : Nat) : Int) := by omega
            go_wp2
            go_quiet ((go_at_call 91; exact Calls.quiet_of (done_yes b j s _ (HC.out.drewN _) HJ.out)))
            go_wp2
            go_quiet (fail)
            go_wp2
            go_ret2
            exact named_no _ hgr HC.out HK.out (by omega) h3
end Go.Proofs.YtichajalinkcdaaGreatDoor
namespace Go.Proofs.YtichajalinkcdaaGreatDoor
open Go.RowKit
set_option linter.unusedVariables false

/-- What 'domain' leaves. -/
def Domained (w : World) (b : Nat) (s : ByteArray) (k : Nat) (e : Ending) (w' : World) : Prop :=
  ∃ v : ByteArray, e = .returned (.tuple #[.string v, .bool (domOk s.data.toList k)]) ∧ v.data.toList = (if domOk s.data.toList k then (s.data.toList.drop k).take (domEnd s.data.toList k - k) else []) ∧
    domEnd s.data.toList k ≤ s.size ∧ Cur w' b s (domEnd s.data.toList k) ∧ w.grownBy w' (some b)

theorem domained_no {b k j : Nat} {o : Bool} {s : ByteArray} {w wr : World} (n : Nat) (hgr : w.grownBy wr (some b)) (hc : Cur wr b s j) (hjs : j ≤ s.size) (hd : domGo s.data.toList 2 (okLen (nmLen s.data.toList k)) (k + nmLen s.data.toList k) = (o, j)) (hn : o = false ∨ 20 < j - k) :
    Domained w b s k (.returned (.tuple #[.string ⟨#[]⟩, .bool false])) (wr.drewN n) := by
  have he : domEnd s.data.toList k = j := by unfold domEnd; rw [hd]
  have ho : domOk s.data.toList k = false := by
    unfold domOk
    rw [he, hd]
    rcases hn with h | h
    · rw [h]; rfl
    · rw [decide_eq_false (p := j - k ≤ 20) (by omega)]; simp
  refine ⟨⟨#[]⟩, ?_, ?_, ?_, ?_, gr_drewN hgr _⟩
  · rw [ho]
  · rw [ho]; rfl
  · rw [he]; exact hjs
  · rw [he]; exact hc.drewN _
theorem domained_yes {b k j : Nat} {s : ByteArray} {w wr : World} (n : Nat) (hgr : w.grownBy wr (some b)) (hc : Cur wr b s j) (hjs : j ≤ s.size) (hd : domGo s.data.toList 2 (okLen (nmLen s.data.toList k)) (k + nmLen s.data.toList k) = (true, j)) (hn : j - k ≤ 20) :
    Domained w b s k (.returned (.tuple #[.string (s.extract k j), .bool true])) (wr.drewN n) := by
  have he : domEnd s.data.toList k = j := by unfold domEnd; rw [hd]
  have ho : domOk s.data.toList k = true := by
    unfold domOk
    rw [he, hd, decide_eq_true hn]; rfl
  refine ⟨s.extract k j, ?_, ?_, ?_, ?_, gr_drewN hgr _⟩
  · rw [ho]
  · rw [ho, if_pos rfl, he]; exact extract_list _ _ _
  · rw [he]; exact hjs
  · rw [he]; exact hc.drewN _

theorem take_at (c : UInt8) (z : Int) (hz : (c.toNat : Int) = z) (b k : Nat) (s : ByteArray) (w : World) (h : Cur w b s k) (hs : s.size ≤ 16777216) (hk : k ≤ s.size) :
    Calls Tryz.prog 117 #[.pointer (some ⟨b, 0, none⟩), .int .u8 z] w (Took w b s (if nextIs s.data.toList k c then k + 1 else k) (nextIs s.data.toList k c)) := hz ▸ take_any b k s c w h hs hk
theorem take_at_yes (c : UInt8) (z : Int) (hz : (c.toNat : Int) = z) (b k : Nat) (s : ByteArray) (w : World) (h : Cur w b s k) (hs : s.size ≤ 16777216) (hk : k ≤ s.size) (hn : nextIs s.data.toList k c = true) :
    Calls Tryz.prog 117 #[.pointer (some ⟨b, 0, none⟩), .int .u8 z] w (Took w b s (k + 1) true) := by
  have := take_at c z hz b k s w h hs hk
  rw [hn] at this
  exact this
theorem take_at_no (c : UInt8) (z : Int) (hz : (c.toNat : Int) = z) (b k : Nat) (s : ByteArray) (w : World) (h : Cur w b s k) (hs : s.size ≤ 16777216) (hk : k ≤ s.size) (hn : nextIs s.data.toList k c = false) :
    Calls Tryz.prog 117 #[.pointer (some ⟨b, 0, none⟩), .int .u8 z] w (Took w b s k false) := by
  have := take_at c z hz b k s w h hs hk
  rw [hn] at this
  exact this

set_option maxHeartbeats 1000000 in
theorem domain_any (b k : Nat) (s : ByteArray) (w : World) (h : Cur w b s k) (hs : s.size ≤ 16777216) (hk : k ≤ s.size) :
    Calls Tryz.prog 100 #[.pointer (some ⟨b, 0, none⟩)] w (Domained w b s k) := by
  have hl : s.data.toList.length = s.size := by simp
  have hnl := nmLen_le s.data.toList k (by omega)
  have hp := h.place
  have H := Lib.hid h
  have HL := Lib.hid hl
  clear h hl
  go_enter Tryz.func100, Tryz.ntmps100
  go_wp2_with fail
  refine (name_any b k s _ H.out hs hk).mono ?_
  rintro e w1 ⟨v, rfl, hv, hc1, hg1⟩
  have HV := Lib.hid hv
  have HC := Lib.hid hc1
  have HG := Lib.hid hg1
  clear hv hc1 hg1 hp
  go_wp2
  go_loopg [6, 7] 2 (fun g o6 n7 wr => ∃ (m j : Nat) (o : Bool), 1 ≤ m ∧ m ≤ 3 ∧ g = 3 - m ∧ o6 = .bool o ∧ n7 = .int .i64 (m : Int) ∧ k ≤ j ∧ j ≤ s.size ∧
    domGo s.data.toList 2 (okLen (nmLen s.data.toList k)) (k + nmLen s.data.toList k) = domGo s.data.toList (3 - m) o j ∧ Cur wr b s j ∧ w.grownBy wr (some b))
  case atStart =>
    have h1 := HL.out
    exact ⟨1, k + nmLen s.data.toList k, _, by omega, by omega, rfl, rfl, by go_num, by omega, by omega, rfl, HC.out, HG.out⟩
  case round =>
    obtain ⟨m, j, o, hm1, hm3, hg, rfl, rfl, hkj, hjs, hd, hcur, hgr⟩ := hrel
    have HC' := Lib.hid hcur
    have hte := hcur.text
    have hpl := hcur.place
    have HD := Lib.hid hd
    have HG' := Lib.hid hg
    have HR := Lib.hid hgr
    have h0 : (0 : Int) ≤ (j : Int) := by omega
    have h2 : (0 : Int) ≤ (k : Int) := by omega
    have h3 : (k : Int) ≤ (j : Int) := by omega
    have h4 : (j : Int) ≤ (s.size : Int) := by omega
    have hez : (s.extract k j).size = j - k := by rw [ByteArray.size_extract]; omega
    clear hcur hd hg hgr
    cases o with
    | false =>
      go_wp2
      go_quiet (fail)
      go_wp2
      go_ret2
      exact domained_no _ HR.out HC'.out hjs (by rw [HD.out, domGo_off]) (.inl rfl)
    | true =>
      by_cases hlt : m < 3
      · have hlt' : (m : Int) < 3 := by omega
        by_cases hnx : nextIs s.data.toList j 46 = true
        · have HN := Lib.hid hnx
          have hjl : j < s.size := by have := nextIs_lt hnx; have := HL.out; omega
          clear hnx hez
          go_wp2_with fail
          refine (take_at_yes 46 46 rfl b j s _ HC'.out hs hjs HN.out).mono ?_
          rintro e w2 ⟨rfl, hc2, hg2⟩
          have HC2 := Lib.hid hc2
          have HG2 := Lib.hid hg2
          clear hc2 hg2 hte hpl
          go_wp2_with fail
          refine (name_any b (j + 1) s _ HC2.out hs (by omega)).mono ?_
          rintro e w3 ⟨v3, rfl, hv3, hc3, hg3⟩
          have HC3 := Lib.hid hc3
          have HG3 := Lib.hid hg3
          clear hv3 hc3 hg3
          go_wp2
          go_roundg (3 - (m + 1))
          case measure => have := HG'.out; omega
          case rel =>
            have h5 := nmLen_le s.data.toList (j + 1) (by have := HL.out; omega)
            have h6 := HL.out
            refine ⟨m + 1, j + 1 + nmLen s.data.toList (j + 1), _, by omega, by omega, rfl, rfl, by go_num, by omega, by omega, ?_, HC3.out, gr_trans HR.out (gr_trans HG2.out HG3.out)⟩
            rw [HD.out]
            have e : 3 - m = (3 - (m + 1)) + 1 := by omega
            rw [e, domGo_yes _ _ _ HN.out]
        · have HN := Lib.hid (Bool.eq_false_iff.2 hnx)
          clear hnx
          have HZ := Lib.hid hez
          clear hez
          by_cases h20 : j - k ≤ 20
          · have h20' : ((j - k : Nat) : Int) ≤ 20 := by omega
            go_wp2_with fail
            refine (take_at_no 46 46 rfl b j s _ HC'.out hs hjs HN.out).mono ?_
            rintro e w2 ⟨rfl, hc2, hg2⟩
            have HC2 := Lib.hid hc2
            have HG2 := Lib.hid hg2
            have hte2 := hc2.text
            have hpl2 := hc2.place
            clear hc2 hg2 hte hpl
            go_wp2
            go_quiet (fail)
            go_wp2
            go_ret2
            exact domained_yes _ (gr_trans HR.out HG2.out) HC2.out hjs (by rw [HD.out, domGo_no _ _ _ _ HN.out]) h20
          · have h20' : (20 : Int) < ((j - k : Nat) : Int) := by omega
            go_wp2_with fail
            refine (take_at_no 46 46 rfl b j s _ HC'.out hs hjs HN.out).mono ?_
            rintro e w2 ⟨rfl, hc2, hg2⟩
            have HC2 := Lib.hid hc2
            have HG2 := Lib.hid hg2
            have hte2 := hc2.text
            have hpl2 := hc2.place
            clear hc2 hg2 hte hpl
            go_wp2
            go_quiet (fail)
            go_wp2
            go_ret2
            exact domained_no _ (gr_trans HR.out HG2.out) HC2.out hjs (by rw [HD.out, domGo_no _ _ _ _ HN.out]) (.inr (by omega))
      · have hm : m = 3 := by omega
        have HM := Lib.hid hm
        clear hm
        have hlt' : (3 : Int) ≤ (m : Int) := by omega
        have HZ := Lib.hid hez
        clear hez hlt
        by_cases h20 : j - k ≤ 20
        · have h20' : ((j - k : Nat) : Int) ≤ 20 := by omega
          go_wp2
          go_quiet (fail)
          go_wp2
          go_ret2
          exact domained_yes _ HR.out HC'.out hjs (by rw [HD.out, HM.out]; rfl) h20
        · have h20' : (20 : Int) < ((j - k : Nat) : Int) := by omega
          go_wp2
          go_quiet (fail)
          go_wp2
          go_ret2
          exact domained_no _ HR.out HC'.out hjs (by rw [HD.out, HM.out]; rfl) (.inr (by omega))
end Go.Proofs.YtichajalinkcdaaGreatDoor
namespace Go.Proofs.YtichajalinkcdaaGreatDoor
open Go.RowKit
set_option linter.unusedVariables false

/-- What 'address' leaves. -/
def Addressed (w : World) (b : Nat) (s : ByteArray) (k : Nat) (e : Ending) (w' : World) : Prop :=
  ∃ (u d : ByteArray) (j : Nat), e = .returned (.tuple #[.agg #[.string u, .string d], .bool (adOk s.data.toList k)]) ∧
    (adOk s.data.toList k = true → u.data.toList = adUser s.data.toList k ∧ d.data.toList = adDom s.data.toList k ∧ j = adEnd s.data.toList k) ∧
    (adOk s.data.toList k = false → u = ⟨#[]⟩ ∧ d = ⟨#[]⟩) ∧ j ≤ s.size ∧ Cur w' b s j ∧ w.grownBy w' (some b)

theorem bytes_nil {v : ByteArray} (h : v.data.toList = []) : v = ⟨#[]⟩ := by
  cases v with
  | mk d => cases d with
    | mk l => simp at h; subst h; rfl
theorem name_yes (b k : Nat) (s : ByteArray) (w : World) (h : Cur w b s k) (hs : s.size ≤ 16777216) (hk : k ≤ s.size) (ho : okLen (nmLen s.data.toList k) = true) :
    Calls Tryz.prog 90 #[.pointer (some ⟨b, 0, none⟩)] w fun e w' => ∃ v : ByteArray, e = .returned (.tuple #[.string v, .bool true]) ∧ v.data.toList = (s.data.toList.drop k).take (nmLen s.data.toList k) ∧ Cur w' b s (k + nmLen s.data.toList k) ∧ w.grownBy w' (some b) := by
  refine (name_any b k s w h hs hk).mono ?_
  rintro e w' ⟨v, he, hv, hc, hg⟩
  rw [ho] at he
  rw [ho, if_pos rfl] at hv
  exact ⟨v, he, hv, hc, hg⟩
theorem name_no (b k : Nat) (s : ByteArray) (w : World) (h : Cur w b s k) (hs : s.size ≤ 16777216) (hk : k ≤ s.size) (ho : okLen (nmLen s.data.toList k) = false) :
    Calls Tryz.prog 90 #[.pointer (some ⟨b, 0, none⟩)] w fun e w' => e = .returned (.tuple #[.string ⟨#[]⟩, .bool false]) ∧ Cur w' b s (k + nmLen s.data.toList k) ∧ w.grownBy w' (some b) := by
  refine (name_any b k s w h hs hk).mono ?_
  rintro e w' ⟨v, he, hv, hc, hg⟩
  rw [ho] at he
  rw [ho] at hv
  have := bytes_nil (v := v) (by simpa using hv)
  subst this
  exact ⟨he, hc, hg⟩
theorem domain_yes (b k : Nat) (s : ByteArray) (w : World) (h : Cur w b s k) (hs : s.size ≤ 16777216) (hk : k ≤ s.size) (ho : domOk s.data.toList k = true) :
    Calls Tryz.prog 100 #[.pointer (some ⟨b, 0, none⟩)] w fun e w' => ∃ v : ByteArray, e = .returned (.tuple #[.string v, .bool true]) ∧ v.data.toList = (s.data.toList.drop k).take (domEnd s.data.toList k - k) ∧ domEnd s.data.toList k ≤ s.size ∧ Cur w' b s (domEnd s.data.toList k) ∧ w.grownBy w' (some b) := by
  refine (domain_any b k s w h hs hk).mono ?_
  rintro e w' ⟨v, he, hv, hc⟩
  rw [ho] at he
  rw [ho, if_pos rfl] at hv
  exact ⟨v, he, hv, hc⟩
theorem domain_no (b k : Nat) (s : ByteArray) (w : World) (h : Cur w b s k) (hs : s.size ≤ 16777216) (hk : k ≤ s.size) (ho : domOk s.data.toList k = false) :
    Calls Tryz.prog 100 #[.pointer (some ⟨b, 0, none⟩)] w fun e w' => e = .returned (.tuple #[.string ⟨#[]⟩, .bool false]) ∧ domEnd s.data.toList k ≤ s.size ∧ Cur w' b s (domEnd s.data.toList k) ∧ w.grownBy w' (some b) := by
  refine (domain_any b k s w h hs hk).mono ?_
  rintro e w' ⟨v, he, hv, hc⟩
  rw [ho] at he
  rw [ho] at hv
  have := bytes_nil (v := v) (by simpa using hv)
  subst this
  exact ⟨he, hc⟩

theorem addressed_no {b k j : Nat} {s : ByteArray} {w wr : World} (ho : adOk s.data.toList k = false) (hj : j ≤ s.size) (hc : Cur wr b s j) (hg : w.grownBy wr (some b)) :
    Addressed w b s k (.returned (.tuple #[.agg #[.string ⟨#[]⟩, .string ⟨#[]⟩], .bool false])) wr :=
  ⟨_, _, j, by rw [ho], fun h => by rw [ho] at h; (cases h), fun _ => ⟨rfl, rfl⟩, hj, hc, hg⟩

set_option maxHeartbeats 1000000 in
theorem address_any (b k : Nat) (s : ByteArray) (w : World) (h : Cur w b s k) (hs : s.size ≤ 16777216) (hk : k ≤ s.size) :
    Calls Tryz.prog 139 #[.pointer (some ⟨b, 0, none⟩)] w (Addressed w b s k) := by
  have hl : s.data.toList.length = s.size := by simp
  have hnl := nmLen_le s.data.toList k (by omega)
  have hkn : k + nmLen s.data.toList k ≤ s.size := by omega
  have hbl : b < w.heap.size := Whole.lt h
  have hbn : w.heap.size ≠ b := by omega
  have hbn' : b ≠ w.heap.size := by omega
  have H := Lib.hid h
  have HL := Lib.hid hl
  clear h hl
  by_cases ho : okLen (nmLen s.data.toList k) = true
  · have HO := Lib.hid ho
    clear ho
    by_cases hx : nextIs s.data.toList (k + nmLen s.data.toList k) 64 = true
    · have HX := Lib.hid hx
      have hxl : k + nmLen s.data.toList k + 1 ≤ s.size := by have := nextIs_lt hx; have := HL.out; omega
      clear hx
      by_cases hd : domOk s.data.toList (k + nmLen s.data.toList k + 1) = true
      · have HD := Lib.hid hd
        clear hd
        go_enter Tryz.func139, Tryz.ntmps139
        go_wp2_with fail
        refine (name_yes b k s _ (H.out.alloc _) hs hk HO.out).mono ?_
        rintro e w1 ⟨u, rfl, hu, hc1, hg1⟩
        have hR := (Whole.made w 112 #[.string ⟨#[]⟩, .string ⟨#[]⟩]).grown hg1 (by simpa using hbn)
        have HU := Lib.hid hu
        have HC1 := Lib.hid hc1
        have HG1 := Lib.hid hg1
        have HR1 := Lib.hid hR
        clear hu hc1 hg1 hR
        go_wp2_with fail
        refine (take_at_yes 64 64 rfl b (k + nmLen s.data.toList k) s _ HC1.out hs hkn HX.out).mono ?_
        rintro e w2 ⟨rfl, hc2, hg2⟩
        have HR2 := Lib.hid (HR1.out.grown hg2 (by simpa using hbn))
        have HC2 := Lib.hid hc2
        have HG2 := Lib.hid (gr_trans HG1.out hg2)
        clear hc2 hg2
        go_wp2_with fail
        refine (domain_yes b (k + nmLen s.data.toList k + 1) s _ HC2.out hs hxl HD.out).mono ?_
        rintro e w3 ⟨d, rfl, hd, hde, hc3, hg3⟩
        have hR3 := HR2.out.grown hg3 (by simpa using hbn)
        have hr0 : w3.cell? ⟨w.heap.size, 0, none⟩ = some (.string ⟨#[]⟩) := hR3.cell 0
        have hr1 : w3.cell? ⟨w.heap.size, 1, none⟩ = some (.string ⟨#[]⟩) := hR3.cell 1
        have hf0 := hR3.free 0
        have hf1 := hR3.free 1
        have hz3 := hR3.lt
        have HD3 := Lib.hid hd
        have HC3 := Lib.hid hc3
        have HG3 := Lib.hid (gr_trans HG2.out hg3)
        clear hd hc3 hg3 hR3
        go_wp2
        refine bodyPost_ret (v := .tuple #[.agg #[.string u, .string d], .bool true]) (by simp [results, Tryz.results139, go_sem, hr0, hr1]) rfl ?_
        have hok : adOk s.data.toList k = true := by unfold adOk; rw [HO.out, HX.out, HD.out]; rfl
        refine ⟨u, d, _, by rw [hok], fun _ => ⟨HU.out, HD3.out, rfl⟩, fun h => by rw [hok] at h; (cases h), hde, ?_, ?_⟩
        · exact (HC3.out.apart hbn' _).apart hbn' _
        · exact gr_store (gr_store (gr_trans (gr_alloc (gr_refl _ _) _) HG3.out) (.inr (Nat.le_refl _)) _) (.inr (Nat.le_refl _)) _
      · have HD := Lib.hid (Bool.eq_false_iff.2 hd)
        clear hd
        go_enter Tryz.func139, Tryz.ntmps139
        go_wp2_with fail
        refine (name_yes b k s _ (H.out.alloc _) hs hk HO.out).mono ?_
        rintro e w1 ⟨u, rfl, hu, hc1, hg1⟩
        have hR := (Whole.made w 112 #[.string ⟨#[]⟩, .string ⟨#[]⟩]).grown hg1 (by simpa using hbn)
        have HC1 := Lib.hid hc1
        have HG1 := Lib.hid hg1
        have HR1 := Lib.hid hR
        clear hu hc1 hg1 hR
        go_wp2_with fail
        refine (take_at_yes 64 64 rfl b (k + nmLen s.data.toList k) s _ HC1.out hs hkn HX.out).mono ?_
        rintro e w2 ⟨rfl, hc2, hg2⟩
        have HR2 := Lib.hid (HR1.out.grown hg2 (by simpa using hbn))
        have HC2 := Lib.hid hc2
        have HG2 := Lib.hid (gr_trans HG1.out hg2)
        clear hc2 hg2
        go_wp2_with fail
        refine (domain_no b (k + nmLen s.data.toList k + 1) s _ HC2.out hs hxl HD.out).mono ?_
        rintro e w3 ⟨rfl, hde, hc3, hg3⟩
        have hR3 := HR2.out.grown hg3 (by simpa using hbn)
        have hr0 : w3.cell? ⟨w.heap.size, 0, none⟩ = some (.string ⟨#[]⟩) := hR3.cell 0
        have hr1 : w3.cell? ⟨w.heap.size, 1, none⟩ = some (.string ⟨#[]⟩) := hR3.cell 1
        have hf0 := hR3.free 0
        have hf1 := hR3.free 1
        have hz3 := hR3.lt
        have HC3 := Lib.hid hc3
        have HG3 := Lib.hid (gr_trans HG2.out hg3)
        clear hc3 hg3 hR3
        go_wp2
        refine bodyPost_ret (v := .tuple #[.agg #[.string ⟨#[]⟩, .string ⟨#[]⟩], .bool false]) (by simp [results, Tryz.results139, go_sem, hr0, hr1]) rfl ?_
        refine addressed_no (by unfold adOk; rw [HO.out, HX.out, HD.out]; rfl) hde ?_ ?_
        · exact (HC3.out.apart hbn' _).apart hbn' _
        · exact gr_store (gr_store (gr_trans (gr_alloc (gr_refl _ _) _) HG3.out) (.inr (Nat.le_refl _)) _) (.inr (Nat.le_refl _)) _
    · have HX := Lib.hid (Bool.eq_false_iff.2 hx)
      clear hx
      go_enter Tryz.func139, Tryz.ntmps139
      go_wp2_with fail
      refine (name_yes b k s _ (H.out.alloc _) hs hk HO.out).mono ?_
      rintro e w1 ⟨u, rfl, hu, hc1, hg1⟩
      have hR := (Whole.made w 112 #[.string ⟨#[]⟩, .string ⟨#[]⟩]).grown hg1 (by simpa using hbn)
      have HC1 := Lib.hid hc1
      have HG1 := Lib.hid hg1
      have HR1 := Lib.hid hR
      clear hu hc1 hg1 hR
      go_wp2_with fail
      refine (take_at_no 64 64 rfl b (k + nmLen s.data.toList k) s _ HC1.out hs hkn HX.out).mono ?_
      rintro e w2 ⟨rfl, hc2, hg2⟩
      have hR3 := HR1.out.grown hg2 (by simpa using hbn)
      have hr0 : w2.cell? ⟨w.heap.size, 0, none⟩ = some (.string ⟨#[]⟩) := hR3.cell 0
      have hr1 : w2.cell? ⟨w.heap.size, 1, none⟩ = some (.string ⟨#[]⟩) := hR3.cell 1
      have hf0 := hR3.free 0
      have hf1 := hR3.free 1
      have hz3 := hR3.lt
      have HC3 := Lib.hid hc2
      have HG3 := Lib.hid (gr_trans HG1.out hg2)
      clear hc2 hg2 hR3
      go_wp2
      refine bodyPost_ret (v := .tuple #[.agg #[.string ⟨#[]⟩, .string ⟨#[]⟩], .bool false]) (by simp [results, Tryz.results139, go_sem, hr0, hr1]) rfl ?_
      refine addressed_no (by unfold adOk; rw [HO.out, HX.out]; rfl) hkn ?_ ?_
      · exact (HC3.out.apart hbn' _).apart hbn' _
      · exact gr_store (gr_store (gr_trans (gr_alloc (gr_refl _ _) _) HG3.out) (.inr (Nat.le_refl _)) _) (.inr (Nat.le_refl _)) _
  · have HO := Lib.hid (Bool.eq_false_iff.2 ho)
    clear ho
    go_enter Tryz.func139, Tryz.ntmps139
    go_wp2_with fail
    refine (name_no b k s _ (H.out.alloc _) hs hk HO.out).mono ?_
    rintro e w2 ⟨rfl, hc2, hg2⟩
    have hR3 := (Whole.made w 112 #[.string ⟨#[]⟩, .string ⟨#[]⟩]).grown hg2 (by simpa using hbn)
    have hr0 : w2.cell? ⟨w.heap.size, 0, none⟩ = some (.string ⟨#[]⟩) := hR3.cell 0
    have hr1 : w2.cell? ⟨w.heap.size, 1, none⟩ = some (.string ⟨#[]⟩) := hR3.cell 1
    have hf0 := hR3.free 0
    have hf1 := hR3.free 1
    have hz3 := hR3.lt
    have HC3 := Lib.hid hc2
    have HG3 := Lib.hid hg2
    clear hc2 hg2 hR3
    go_wp2
    refine bodyPost_ret (v := .tuple #[.agg #[.string ⟨#[]⟩, .string ⟨#[]⟩], .bool false]) (by simp [results, Tryz.results139, go_sem, hr0, hr1]) rfl ?_
    refine addressed_no (by unfold adOk; rw [HO.out]; rfl) hkn ?_ ?_
    · exact (HC3.out.apart hbn' _).apart hbn' _
    · exact gr_store (gr_store (gr_trans (gr_alloc (gr_refl _ _) _) HG3.out) (.inr (Nat.le_refl _)) _) (.inr (Nat.le_refl _)) _
end Go.Proofs.YtichajalinkcdaaGreatDoor
namespace Go.Proofs.YtichajalinkcdaaGreatDoor
open Go.RowKit
set_option linter.unusedVariables false

theorem cur_new (w : World) (s : ByteArray) : Cur (w.alloc (.cells #[.string s, .int .i64 0] 92)) w.heap.size s 0 := Whole.made w _ _
theorem new_below {w w1 : World} {o : Obj} (h : (w.alloc o).grownBy w1 (some w.heap.size)) : Below w.heap.size w w1 :=
  below_gr ((Below.refl _ _).alloc (Nat.le_refl _) o) h (by simp) (Nat.le_refl _)

set_option maxHeartbeats 400000 in
theorem impl_name_ (s : ByteArray) (w : World) (hs : s.size ≤ 16777216) :
    Calls Tryz.prog 52 #[.string s] w fun e w' => e = .returned (.bool (okLen (nmLen s.data.toList 0) && decide (nmLen s.data.toList 0 = s.size))) ∧ Below w.heap.size w w' := by
  by_cases ho : okLen (nmLen s.data.toList 0) = true
  · have HO := Lib.hid ho
    clear ho
    by_cases hz : nmLen s.data.toList 0 = s.size
    · have HZ := Lib.hid hz
      clear hz
      go_enter Tryz.func52, Tryz.ntmps52
      go_wp2_with fail
      refine (name_yes w.heap.size 0 s _ (cur_new w s) hs (Nat.zero_le _) HO.out).mono ?_
      rintro e w1 ⟨v, rfl, hv, hc, hg⟩
      have HC := Lib.hid hc
      have HG := Lib.hid hg
      clear hv hc hg
      go_wp2_with fail
      refine (done_yes w.heap.size _ s _ HC.out (by have := HZ.out; omega)).mono ?_
      rintro e w2 ⟨rfl, n, rfl⟩
      go_wp2
      go_ret
      exact ⟨ret_bool (by rw [HO.out, decide_eq_true HZ.out]; rfl), below_drewN' (new_below HG.out) _⟩
    · have HZ := Lib.hid hz
      clear hz
      go_enter Tryz.func52, Tryz.ntmps52
      go_wp2_with fail
      refine (name_yes w.heap.size 0 s _ (cur_new w s) hs (Nat.zero_le _) HO.out).mono ?_
      rintro e w1 ⟨v, rfl, hv, hc, hg⟩
      have HC := Lib.hid hc
      have HG := Lib.hid hg
      clear hv hc hg
      go_wp2_with fail
      refine (done_no w.heap.size _ s _ HC.out (by have := HZ.out; have := nmLen_le s.data.toList 0 (Nat.zero_le _); have hl : s.data.toList.length = s.size := (by simp); omega)).mono ?_
      rintro e w2 ⟨rfl, n, rfl⟩
      go_wp2
      go_ret
      exact ⟨ret_bool (by rw [HO.out, decide_eq_false HZ.out]; rfl), below_drewN' (new_below HG.out) _⟩
  · have HO := Lib.hid (Bool.eq_false_iff.2 ho)
    clear ho
    go_enter Tryz.func52, Tryz.ntmps52
    go_wp2_with fail
    refine (name_no w.heap.size 0 s _ (cur_new w s) hs (Nat.zero_le _) HO.out).mono ?_
    rintro e w1 ⟨rfl, hc, hg⟩
    have HG := Lib.hid hg
    clear hc hg
    go_wp2
    go_ret
    exact ⟨ret_bool (by rw [HO.out]; rfl), new_below HG.out⟩

set_option maxHeartbeats 400000 in
theorem impl_domain_ (s : ByteArray) (w : World) (hs : s.size ≤ 16777216) :
    Calls Tryz.prog 71 #[.string s] w fun e w' => e = .returned (.bool (domOk s.data.toList 0 && decide (domEnd s.data.toList 0 = s.size))) ∧ Below w.heap.size w w' := by
  by_cases ho : domOk s.data.toList 0 = true
  · have HO := Lib.hid ho
    clear ho
    by_cases hz : domEnd s.data.toList 0 = s.size
    · have HZ := Lib.hid hz
      clear hz
      go_enter Tryz.func71, Tryz.ntmps71
      go_wp2_with fail
      refine (domain_yes w.heap.size 0 s _ (cur_new w s) hs (Nat.zero_le _) HO.out).mono ?_
      rintro e w1 ⟨v, rfl, hv, hde, hc, hg⟩
      have HC := Lib.hid hc
      have HG := Lib.hid hg
      clear hv hc hg
      go_wp2_with fail
      refine (done_yes w.heap.size _ s _ HC.out HZ.out).mono ?_
      rintro e w2 ⟨rfl, n, rfl⟩
      go_wp2
      go_ret
      exact ⟨ret_bool (by rw [HO.out, decide_eq_true HZ.out]; rfl), below_drewN' (new_below HG.out) _⟩
    · have HZ := Lib.hid hz
      clear hz
      go_enter Tryz.func71, Tryz.ntmps71
      go_wp2_with fail
      refine (domain_yes w.heap.size 0 s _ (cur_new w s) hs (Nat.zero_le _) HO.out).mono ?_
      rintro e w1 ⟨v, rfl, hv, hde, hc, hg⟩
      have HC := Lib.hid hc
      have HG := Lib.hid hg
      clear hv hc hg
      go_wp2_with fail
      refine (done_no w.heap.size _ s _ HC.out (Nat.lt_of_le_of_ne hde HZ.out)).mono ?_
      rintro e w2 ⟨rfl, n, rfl⟩
      go_wp2
      go_ret
      exact ⟨ret_bool (by rw [HO.out, decide_eq_false HZ.out]; rfl), below_drewN' (new_below HG.out) _⟩
  · have HO := Lib.hid (Bool.eq_false_iff.2 ho)
    clear ho
    go_enter Tryz.func71, Tryz.ntmps71
    go_wp2_with fail
    refine (domain_no w.heap.size 0 s _ (cur_new w s) hs (Nat.zero_le _) HO.out).mono ?_
    rintro e w1 ⟨rfl, hde, hc, hg⟩
    have HG := Lib.hid hg
    clear hc hg
    go_wp2
    go_ret
    exact ⟨ret_bool (by rw [HO.out]; rfl), new_below HG.out⟩

end Go.Proofs.YtichajalinkcdaaGreatDoor
namespace Go.Proofs.YtichajalinkcdaaGreatDoor
open Go.RowKit
set_option linter.unusedVariables false

/-- What a parser of addresses leaves: 'ok' says whether it succeeds, 'U' and 'D' are the user's and the domain's bytes. -/
def Parsed (w : World) (ok : Bool) (U D : List UInt8) (e : Ending) (w' : World) : Prop :=
  ∃ u d : ByteArray, e = .returned (.tuple #[.agg #[.string u, .string d], .bool ok]) ∧ (ok = true → u.data.toList = U ∧ d.data.toList = D) ∧ (ok = false → u = ⟨#[]⟩ ∧ d = ⟨#[]⟩) ∧ Below w.heap.size w w'

theorem parsed_no {w w' : World} {ok : Bool} {U D : List UInt8} (h : ok = false) (hb : Below w.heap.size w w') : Parsed w ok U D (.returned (.tuple #[.agg #[.string ⟨#[]⟩, .string ⟨#[]⟩], .bool false])) w' :=
  ⟨_, _, by rw [h], fun h' => by rw [h] at h'; (cases h'), fun _ => ⟨rfl, rfl⟩, hb⟩
theorem parsed_yes {w w' : World} {ok : Bool} {u d : ByteArray} {U D : List UInt8} (h : ok = true) (hu : u.data.toList = U) (hd : d.data.toList = D) (hb : Below w.heap.size w w') : Parsed w ok U D (.returned (.tuple #[.agg #[.string u, .string d], .bool true])) w' :=
  ⟨u, d, by rw [h], fun _ => ⟨hu, hd⟩, fun h' => by rw [h] at h'; (cases h'), hb⟩

theorem address_yes (b k : Nat) (s : ByteArray) (w : World) (h : Cur w b s k) (hs : s.size ≤ 16777216) (hk : k ≤ s.size) (ho : adOk s.data.toList k = true) :
    Calls Tryz.prog 139 #[.pointer (some ⟨b, 0, none⟩)] w fun e w' => ∃ u d : ByteArray, e = .returned (.tuple #[.agg #[.string u, .string d], .bool true]) ∧
      u.data.toList = adUser s.data.toList k ∧ d.data.toList = adDom s.data.toList k ∧ adEnd s.data.toList k ≤ s.size ∧ Cur w' b s (adEnd s.data.toList k) ∧ w.grownBy w' (some b) := by
  refine (address_any b k s w h hs hk).mono ?_
  rintro e w' ⟨u, d, j, he, hy, _, hj, hc, hg⟩
  rw [ho] at he
  obtain ⟨h1, h2, rfl⟩ := hy ho
  exact ⟨u, d, he, h1, h2, hj, hc, hg⟩
theorem address_no (b k : Nat) (s : ByteArray) (w : World) (h : Cur w b s k) (hs : s.size ≤ 16777216) (hk : k ≤ s.size) (ho : adOk s.data.toList k = false) :
    Calls Tryz.prog 139 #[.pointer (some ⟨b, 0, none⟩)] w fun e w' => e = .returned (.tuple #[.agg #[.string ⟨#[]⟩, .string ⟨#[]⟩], .bool false]) ∧ w.grownBy w' (some b) := by
  refine (address_any b k s w h hs hk).mono ?_
  rintro e w' ⟨u, d, j, he, _, hn, hj, hc, hg⟩
  rw [ho] at he
  obtain ⟨rfl, rfl⟩ := hn ho
  exact ⟨he, hg⟩

theorem two_below {w w1 : World} {o p : Obj} (h : ((w.alloc o).alloc p).grownBy w1 (some (w.heap.size + 1))) : Below w.heap.size w w1 :=
  below_gr (((Below.refl _ _).alloc (Nat.le_refl _) o).alloc (by simp) p) h (by simp; omega) (by omega)

theorem cur_new2 (w : World) (s : ByteArray) (o : Obj) : Cur ((w.alloc o).alloc (.cells #[.string s, .int .i64 0] 92)) (w.heap.size + 1) s 0 := by
  have := Whole.made (w.alloc o) 92 #[.string s, .int .i64 0]
  show Whole _ _ _ _
  simpa using this

/-- The path without an address. -/
def bare : List UInt8 := [60, 62]
def ppA (L : List UInt8) : Bool := decide (L = bare) || ppB L
def pathU (L : List UInt8) : List UInt8 := if L = bare then [] else adUser L 1
def pathD (L : List UInt8) : List UInt8 := if L = bare then [] else adDom L 1
theorem path_no {L : List UInt8} (h : ¬ L = bare) (hp : ppB L = false) : ppA L = false := by unfold ppA; rw [hp, decide_eq_false h]; rfl
theorem path_yes {L : List UInt8} (hp : ppB L = true) : ppA L = true := by unfold ppA; rw [hp]; simp
set_option maxHeartbeats 2000000 in
theorem impl_path (s : ByteArray) (w : World) (hs : s.size ≤ 16777216) :
    Calls Tryz.prog 125 #[.string s] w (Parsed w (ppA s.data.toList) (pathU s.data.toList) (pathD s.data.toList)) := by
  have hl : s.data.toList.length = s.size := by simp
  have HL := Lib.hid hl
  clear hl
  have hne : some w.heap.size ≠ some (w.heap.size + 1) := by simp
  by_cases hb : s.data.toList = bare
  · have hq : (s.toList == [60, 62]) = true := by rw [ByteArray.toList_eq, hb]; rfl
    have HB := Lib.hid hb
    clear hb
    go_enter Tryz.func125, Tryz.ntmps125
    go_wp2
    refine bodyPost_ret (v := .tuple #[.agg #[.string ⟨#[]⟩, .string ⟨#[]⟩], .bool true]) (by simp [results, Tryz.results125, go_sem]) rfl ?_
    refine parsed_yes (by unfold ppA; rw [decide_eq_true HB.out]; rfl) (by unfold pathU; rw [if_pos HB.out]) (by unfold pathD; rw [if_pos HB.out]) ?_
    exact (Below.refl _ _).alloc (Nat.le_refl _) _
  · have hq : (s.toList == [60, 62]) = false := by
      rw [ByteArray.toList_eq]
      exact beq_eq_false_iff_ne.2 hb
    have HB := Lib.hid hb
    clear hb
    by_cases hx : nextIs s.data.toList 0 60 = true
    · have HX := Lib.hid hx
      have hxl : 1 ≤ s.size := by have := nextIs_lt hx; have := HL.out; omega
      clear hx
      by_cases ho : adOk s.data.toList 1 = true
      · have HO := Lib.hid ho
        clear ho
        go_enter Tryz.func125, Tryz.ntmps125
        go_wp2_with fail
        refine (take_at_yes 60 60 rfl (w.heap.size + 1) 0 s _ (cur_new2 w s _) hs (Nat.zero_le _) HX.out).mono ?_
        rintro e w0 ⟨rfl, hc0, hg0⟩
        have HC0 := Lib.hid hc0
        have HG0 := Lib.hid hg0
        clear hc0 hg0
        go_wp2_with fail
        refine (address_yes (w.heap.size + 1) 1 s _ HC0.out hs hxl HO.out).mono ?_
        rintro e w1 ⟨u, d, rfl, hu, hd, hde, hc, hg⟩
        have HR := Lib.hid (((Whole.made w 112 #[.string ⟨#[]⟩, .string ⟨#[]⟩]).alloc _).grown (gr_trans HG0.out hg) hne)
        have hcl : w.heap.size + 1 < w1.heap.size := Whole.lt hc
        have hne2 : some w1.heap.size ≠ some (w.heap.size + 1) := by simp; omega
        have HU := Lib.hid hu
        have HD := Lib.hid hd
        have HC := Lib.hid hc
        have HG := Lib.hid (gr_trans HG0.out hg)
        clear hu hd hc hg
        by_cases hy : nextIs s.data.toList (adEnd s.data.toList 1) 62 = true
        · have HY := Lib.hid hy
          have hyl : adEnd s.data.toList 1 + 1 ≤ s.size := by have := nextIs_lt hy; have := HL.out; omega
          clear hy
          go_wp2_with fail
          refine (take_at_yes 62 62 rfl (w.heap.size + 1) _ s _ (HC.out.alloc _) hs hde HY.out).mono ?_
          rintro e w2 ⟨rfl, hc2, hg2⟩
          have hR := (HR.out.alloc _).grown hg2 hne
          have hr0 : w2.cell? ⟨w.heap.size, 0, none⟩ = some (.string ⟨#[]⟩) := hR.cell 0
          have hr1 : w2.cell? ⟨w.heap.size, 1, none⟩ = some (.string ⟨#[]⟩) := hR.cell 1
          have hf0 := hR.free 0
          have hf1 := hR.free 1
          have hz1 := hR.lt
          have hA := (Whole.made w1 112 #[.string u, .string d]).grown hg2 hne2
          have ha0 : w2.cell? ⟨w1.heap.size, 0, none⟩ = some (.string u) := hA.cell 0
          have ha1 : w2.cell? ⟨w1.heap.size, 1, none⟩ = some (.string d) := hA.cell 1
          have HC2 := Lib.hid hc2
          have HB2 := Lib.hid (below_gr ((two_below HG.out).alloc (by omega) _) hg2 (by simp; omega) (by omega))
          clear hc2 hg2 hR hA
          by_cases hz : adEnd s.data.toList 1 + 1 = s.size
          · have HZ := Lib.hid hz
            clear hz
            go_wp2_with fail
            refine (done_yes (w.heap.size + 1) _ s _ HC2.out HZ.out).mono ?_
            rintro e w3 ⟨rfl, n, rfl⟩
            go_wp2
            refine bodyPost_ret (v := .tuple #[.agg #[.string u, .string d], .bool true]) (by simp [results, Tryz.results125, go_sem, hr0, hr1]) rfl ?_
            refine parsed_yes (path_yes (by unfold ppB; rw [HX.out, HO.out, HY.out, HZ.out, HL.out]; simp)) (by unfold pathU; rw [if_neg HB.out]; exact HU.out) (by unfold pathD; rw [if_neg HB.out]; exact HD.out) ?_
            exact ((below_drewN' HB2.out _).setCell (p := ⟨w.heap.size, 0, none⟩) (Nat.le_refl _) _).setCell (p := ⟨w.heap.size, 1, none⟩) (Nat.le_refl _) _
          · have HZ := Lib.hid hz
            clear hz
            go_wp2_with fail
            refine (done_no (w.heap.size + 1) _ s _ HC2.out (Nat.lt_of_le_of_ne hyl HZ.out)).mono ?_
            rintro e w3 ⟨rfl, n, rfl⟩
            go_wp2
            refine bodyPost_ret (v := .tuple #[.agg #[.string ⟨#[]⟩, .string ⟨#[]⟩], .bool false]) (by simp [results, Tryz.results125, go_sem, hr0, hr1]) rfl ?_
            refine parsed_no (path_no HB.out (by unfold ppB; rw [decide_eq_false (by rw [HL.out]; exact HZ.out)]; simp)) ?_
            exact ((below_drewN' HB2.out _).setCell (p := ⟨w.heap.size, 0, none⟩) (Nat.le_refl _) _).setCell (p := ⟨w.heap.size, 1, none⟩) (Nat.le_refl _) _
        · have HY := Lib.hid (Bool.eq_false_iff.2 hy)
          clear hy
          go_wp2_with fail
          refine (take_at_no 62 62 rfl (w.heap.size + 1) _ s _ (HC.out.alloc _) hs hde HY.out).mono ?_
          rintro e w2 ⟨rfl, hc2, hg2⟩
          have hR := (HR.out.alloc _).grown hg2 hne
          have hr0 : w2.cell? ⟨w.heap.size, 0, none⟩ = some (.string ⟨#[]⟩) := hR.cell 0
          have hr1 : w2.cell? ⟨w.heap.size, 1, none⟩ = some (.string ⟨#[]⟩) := hR.cell 1
          have hf0 := hR.free 0
          have hf1 := hR.free 1
          have hz1 := hR.lt
          have HB2 := Lib.hid (below_gr ((two_below HG.out).alloc (by omega) _) hg2 (by simp; omega) (by omega))
          clear hc2 hg2 hR
          go_wp2
          refine bodyPost_ret (v := .tuple #[.agg #[.string ⟨#[]⟩, .string ⟨#[]⟩], .bool false]) (by simp [results, Tryz.results125, go_sem, hr0, hr1]) rfl ?_
          refine parsed_no (path_no HB.out (by unfold ppB; rw [HY.out]; simp)) ?_
          exact (HB2.out.setCell (p := ⟨w.heap.size, 0, none⟩) (Nat.le_refl _) _).setCell (p := ⟨w.heap.size, 1, none⟩) (Nat.le_refl _) _
      · have HO := Lib.hid (Bool.eq_false_iff.2 ho)
        clear ho
        go_enter Tryz.func125, Tryz.ntmps125
        go_wp2_with fail
        refine (take_at_yes 60 60 rfl (w.heap.size + 1) 0 s _ (cur_new2 w s _) hs (Nat.zero_le _) HX.out).mono ?_
        rintro e w0 ⟨rfl, hc0, hg0⟩
        have HC0 := Lib.hid hc0
        have HG0 := Lib.hid hg0
        clear hc0 hg0
        go_wp2_with fail
        refine (address_no (w.heap.size + 1) 1 s _ HC0.out hs hxl HO.out).mono ?_
        rintro e w1 ⟨rfl, hg⟩
        have hR := ((Whole.made w 112 #[.string ⟨#[]⟩, .string ⟨#[]⟩]).alloc _).grown (gr_trans HG0.out hg) hne
        have hr0 : w1.cell? ⟨w.heap.size, 0, none⟩ = some (.string ⟨#[]⟩) := hR.cell 0
        have hr1 : w1.cell? ⟨w.heap.size, 1, none⟩ = some (.string ⟨#[]⟩) := hR.cell 1
        have hf0 := hR.free 0
        have hf1 := hR.free 1
        have hz1 := hR.lt
        have HG := Lib.hid (gr_trans HG0.out hg)
        clear hg hR
        go_wp2
        refine bodyPost_ret (v := .tuple #[.agg #[.string ⟨#[]⟩, .string ⟨#[]⟩], .bool false]) (by simp [results, Tryz.results125, go_sem, hr0, hr1, hz1]) rfl ?_
        refine parsed_no (path_no HB.out (by unfold ppB; rw [HO.out]; simp)) ?_
        exact (((two_below HG.out).setCell (p := ⟨w.heap.size, 0, none⟩) (Nat.le_refl _) _).setCell (p := ⟨w.heap.size, 1, none⟩) (Nat.le_refl _) _).alloc (by simp; omega) _
    · have HX := Lib.hid (Bool.eq_false_iff.2 hx)
      clear hx
      go_enter Tryz.func125, Tryz.ntmps125
      go_wp2_with fail
      refine (take_at_no 60 60 rfl (w.heap.size + 1) 0 s _ (cur_new2 w s _) hs (Nat.zero_le _) HX.out).mono ?_
      rintro e w0 ⟨rfl, hc0, hg0⟩
      have hR := ((Whole.made w 112 #[.string ⟨#[]⟩, .string ⟨#[]⟩]).alloc _).grown hg0 hne
      have hr0 : w0.cell? ⟨w.heap.size, 0, none⟩ = some (.string ⟨#[]⟩) := hR.cell 0
      have hr1 : w0.cell? ⟨w.heap.size, 1, none⟩ = some (.string ⟨#[]⟩) := hR.cell 1
      have hf0 := hR.free 0
      have hf1 := hR.free 1
      have hz1 := hR.lt
      have HG := Lib.hid hg0
      clear hg0 hR hc0
      go_wp2
      refine bodyPost_ret (v := .tuple #[.agg #[.string ⟨#[]⟩, .string ⟨#[]⟩], .bool false]) (by simp [results, Tryz.results125, go_sem, hr0, hr1]) rfl ?_
      refine parsed_no (path_no HB.out (by unfold ppB; rw [HX.out]; simp)) ?_
      exact ((two_below HG.out).setCell (p := ⟨w.heap.size, 0, none⟩) (Nat.le_refl _) _).setCell (p := ⟨w.heap.size, 1, none⟩) (Nat.le_refl _) _
end Go.Proofs.YtichajalinkcdaaGreatDoor
namespace Go.Proofs.YtichajalinkcdaaGreatDoor
open Go.RowKit
set_option linter.unusedVariables false

/-- A domain. -/
def domB (L : List UInt8) : Bool := (cut 46 L).all nameB && decide ((cut 46 L).length ≤ 3) && decide (L.length ≤ 20)
theorem part_mem {α : Type} {l : List α} {x : α} {j : Nat} (d : α) (h : j < l.length) (e : l.getD j d = x) : x ∈ l := by
  rw [List.getD_eq_getElem?_getD, List.getElem?_eq_getElem h] at e
  subst e
  exact List.getElem_mem h
theorem spec_name_str (l : List UInt8) (w : World) (hs : l.length ≤ 16777216) : Calls Tryz.prog 82 #[str l] w fun e w' => e = .returned (.bool (nameB l)) ∧ w = w' := by
  have := spec_name ⟨l.toArray⟩ w hs
  simpa [str] using this
theorem cutGo_le (c : UInt8) (l : List UInt8) : ∀ cur, ∀ x ∈ cutGo c cur l, x.length ≤ cur.length + l.length := by
  induction l with
  | nil => intro cur x hx; simp [cutGo] at hx; subst hx; simp
  | cons y t ih =>
    intro cur x hx
    unfold cutGo at hx
    split at hx
    · rcases List.mem_cons.1 hx with rfl | h
      · omega
      · have := ih [] x h; simp at this; simp; omega
    · have := ih _ x hx; simp at this; simp; omega
theorem cut_le {c : UInt8} {L x : List UInt8} (h : x ∈ cut c L) : x.length ≤ L.length := by have := cutGo_le c L [] x h; simpa using this
theorem all_tk {α : Type} (f : α → Bool) (L : List α) (k : Nat) (hk : k < L.length) (h : (L.take k).all f = true) (hf : f (L[k]) = true) : (L.take (k + 1)).all f = true := by
  rw [List.take_succ_eq_append_getElem hk, List.all_append, h]
  simp [hf]
theorem all_no {α : Type} (f : α → Bool) (L : List α) (k : Nat) (hk : k < L.length) (h : f L[k] = false) : L.all f = false := by
  rw [← Bool.not_eq_true]
  intro ha
  rw [List.all_eq_true] at ha
  have := ha L[k] (List.getElem_mem hk)
  rw [h] at this
  cases this

set_option maxHeartbeats 2000000 in
theorem spec_domain (s : ByteArray) (w : World) (hs : s.size ≤ 16777216) :
    Calls Tryz.prog 49 #[.string s] w fun e w' => e = .returned (.bool (domB s.data.toList)) ∧ Below w.heap.size w w' := by
  have hl : s.data.toList.length = s.size := by simp
  have HL := Lib.hid hl
  clear hl
  go_enter Tryz.func49, Tryz.ntmps49
  go_wp2_with fail
  refine (cut_any s 46 w hs).mono ?_
  rintro e w1 ⟨g, cap, rfl, hg, hgl, hc, hb⟩
  have hcl := cut_len 46 s.data.toList
  rw [HL.out] at hcl
  obtain ⟨ps, hps⟩ : ∃ ps, cut 46 s.data.toList = ps := ⟨_, rfl⟩
  rw [hps] at hc hcl ⊢
  obtain ⟨n, hn⟩ : ∃ n, ps.length = n := ⟨_, rfl⟩
  rw [hn] at hc hcl ⊢
  have HP := Lib.hid hps
  have HN := Lib.hid hn
  have HC := Lib.hid hc
  have HB := Lib.hid hb
  clear hps hn hc hb
  go_wp2
  go_loop [4] (fun i => ∃ k : Nat, k ≤ n ∧ i = .int .i64 (k : Int) ∧ Hid ((ps.take k).all nameB = true)) (fun i => n - (intOf i).toNat)
  case atStart => exact ⟨0, Nat.zero_le _, by go_num, rfl⟩
  case round =>
    obtain ⟨k, hk, rfl, HA⟩ := hrel
    by_cases hlt : k < n
    · have h0 : (0 : Int) ≤ (k : Int) := by omega
      have h5 : (k : Int) < (n : Int) := by omega
      have hcell := HC.out k hlt
      obtain ⟨x, hx⟩ : ∃ x, ps.getD k [] = x := ⟨_, rfl⟩
      have hxm : Hid (x ∈ cut 46 s.data.toList) := by rw [HP.out]; exact part_mem [] (by rw [HN.out]; exact hlt) hx
      have hxk : Hid (∃ h : k < ps.length, ps[k] = x) := by
        refine ⟨by rw [HN.out]; exact hlt, ?_⟩
        rw [← hx, List.getD_eq_getElem?_getD, List.getElem?_eq_getElem (by rw [HN.out]; exact hlt)]
        rfl
      have hxl : x.length ≤ 16777216 := by have := cut_le hxm.out; rw [HL.out] at this; omega
      rw [hx] at hcell
      unfold str at hcell
      clear hx
      by_cases hnm : nameB x = true
      · have HM := Lib.hid hnm
        clear hnm
        go_wp2_with fail
        refine (spec_name_str x _ hxl).mono ?_
        rintro e w2 ⟨rfl, rfl⟩
        have hnm := HM.out
        go_wp2
        go_round
        case rel =>
          obtain ⟨hk1, hk2⟩ := hxk.out
          exact ⟨k + 1, by omega, by go_num, all_tk nameB ps k hk1 HA.out (by rw [hk2]; exact hnm)⟩
        case measure => simp [intOf]; omega
      · have HM := Lib.hid (Bool.eq_false_iff.2 hnm)
        clear hnm
        go_wp2_with fail
        refine (spec_name_str x _ hxl).mono ?_
        rintro e w2 ⟨rfl, rfl⟩
        have hnm := HM.out
        go_wp2
        go_ret
        refine ⟨ret_bool ?_, HB.out⟩
        obtain ⟨hk1, hk2⟩ := hxk.out
        unfold domB
        rw [HP.out, all_no nameB ps k hk1 (by rw [hk2]; exact hnm)]
        rfl
    · have ha : Hid (ps.all nameB = true) := by
        have h1 := HA.out
        rw [List.take_of_length_le (by rw [HN.out]; omega)] at h1
        exact h1
      clear HA
      by_cases h3 : (n : Int) ≤ 3 <;> by_cases h4 : (s.size : Int) ≤ 20
      all_goals
        go_wp2
        go_ret
        refine ⟨ret_bool ?_, HB.out⟩
        unfold domB
        rw [HP.out, ha.out, HN.out, HL.out]
        first
          | (rw [decide_eq_true (p := n ≤ 3) (by omega), decide_eq_true (p := s.size ≤ 20) (by omega)]; rfl)
          | (rw [decide_eq_false (p := n ≤ 3) (by omega)]; simp)
          | (rw [decide_eq_false (p := s.size ≤ 20) (by omega)]; simp)

theorem str_back (l : List UInt8) : (⟨l.toArray⟩ : ByteArray).data.toList = l := rfl
set_option maxHeartbeats 1000000 in
theorem spec_valid (u d : ByteArray) (w : World) (hu : u.size ≤ 16777216) (hd : d.size ≤ 16777216) :
    Calls Tryz.prog 150 #[.agg #[.string u, .string d]] w fun e w' => e = .returned (.bool (nameB u.data.toList && domB d.data.toList)) ∧ Below w.heap.size w w' := by
  by_cases hn : nameB u.data.toList = true
  · have HN := Lib.hid hn
    clear hn
    go_enter Tryz.func150, Tryz.ntmps150
    go_wp2_with fail
    refine (spec_name u _ hu).mono ?_
    rintro e w1 ⟨rfl, rfl⟩
    rw [HN.out]
    go_wp2_with fail
    refine (spec_domain d _ hd).mono ?_
    rintro e w2 ⟨rfl, hb⟩
    have HB := Lib.hid hb
    clear hb
    go_wp2
    go_ret
    exact ⟨ret_bool (by rw [HN.out]; rfl), ((Below.refl w.heap.size w).alloc (Nat.le_refl _) _).trans (HB.out.mono (by simp))⟩
  · have HN := Lib.hid (Bool.eq_false_iff.2 hn)
    clear hn
    go_enter Tryz.func150, Tryz.ntmps150
    go_wp2_with fail
    refine (spec_name u _ hu).mono ?_
    rintro e w1 ⟨rfl, rfl⟩
    rw [HN.out]
    go_wp2
    go_ret
    exact ⟨ret_bool (by rw [HN.out]; rfl), (Below.refl w.heap.size w).alloc (Nat.le_refl _) _⟩

/-- The user and the domain of a text, if there are just two parts. -/
def two (L : List UInt8) : List (List UInt8) := cut 64 L
def spB (L : List UInt8) : Bool := decide ((two L).length = 2) && (nameB ((two L).getD 0 []) && domB ((two L).getD 1 []))
set_option maxHeartbeats 2000000 in
theorem spec_parse (s : ByteArray) (w : World) (hs : s.size ≤ 16777216) :
    Calls Tryz.prog 142 #[.string s] w (Parsed w (spB s.data.toList) ((two s.data.toList).getD 0 []) ((two s.data.toList).getD 1 [])) := by
  have hl : s.data.toList.length = s.size := by simp
  have HL := Lib.hid hl
  clear hl
  go_enter Tryz.func142, Tryz.ntmps142
  go_wp2_with fail
  refine (cut_any s 64 _ hs).mono ?_
  rintro e w1 ⟨g, cap, rfl, hg, hgl, hc, hb⟩
  have ez : (w.alloc (.cells #[.string ⟨#[]⟩, .string ⟨#[]⟩] 112)).heap.size = w.heap.size + 1 := by simp
  rw [ez] at hg hb
  have hcl := cut_len 64 s.data.toList
  rw [HL.out] at hcl
  have hle : ∀ x ∈ cut 64 s.data.toList, x.length ≤ 16777216 := fun x hx => by have := cut_le hx; rw [HL.out] at this; omega
  obtain ⟨ps, hps⟩ : ∃ ps, cut 64 s.data.toList = ps := ⟨_, rfl⟩
  have HP : Hid (two s.data.toList = ps) := hps
  rw [hps] at hc hcl hle ⊢
  have hW := (Whole.made w 112 #[.string ⟨#[]⟩, .string ⟨#[]⟩]).below hb (by omega)
  have hr0 : w1.cell? ⟨w.heap.size, 0, none⟩ = some (.string ⟨#[]⟩) := hW.cell 0
  have hr1 : w1.cell? ⟨w.heap.size, 1, none⟩ = some (.string ⟨#[]⟩) := hW.cell 1
  have hf0 := hW.free 0
  have hf1 := hW.free 1
  have hz1 := hW.lt
  have HW := Lib.hid hW
  have HB := Lib.hid (((Below.refl w.heap.size w).alloc (Nat.le_refl _) _).trans (hb.mono (Nat.le_succ _)))
  clear hW hb ez hps
  by_cases h2 : ps.length = 2
  · have hc0 := hc 0 (by omega)
    have hc1 := hc 1 (by omega)
    obtain ⟨u, hu⟩ : ∃ u, ps.getD 0 [] = u := ⟨_, rfl⟩
    obtain ⟨d, hd⟩ : ∃ d, ps.getD 1 [] = d := ⟨_, rfl⟩
    have hul : u.length ≤ 16777216 := hle u (part_mem [] (by omega) hu)
    have hdl : d.length ≤ 16777216 := hle d (part_mem [] (by omega) hd)
    rw [hu] at hc0
    rw [hd] at hc1
    unfold str at hc0 hc1
    have HU := Lib.hid hu
    have HD := Lib.hid hd
    have H2 := Lib.hid h2
    clear hu hd hle hc
    rw [h2]
    clear h2
    go_wp2
    go_region
    go_wp2_with fail
    refine (spec_valid ⟨u.toArray⟩ ⟨d.toArray⟩ _ hul hdl).mono ?_
    rintro e w2 ⟨rfl, hb⟩
    have ez : ((w1.alloc (.cells #[.string ⟨u.toArray⟩, .string ⟨d.toArray⟩] 112)).drew).heap.size = w1.heap.size + 1 := by simp
    rw [ez] at hb
    have hW2 := (HW.out.alloc (.cells #[.string ⟨u.toArray⟩, .string ⟨d.toArray⟩] 112)).drew.below hb (by omega)
    have hA := (Whole.made w1 112 #[.string ⟨u.toArray⟩, .string ⟨d.toArray⟩]).drew.below hb (by omega)
    clear hr0 hr1 hf0 hf1
    have hr0 : w2.cell? ⟨w.heap.size, 0, none⟩ = some (.string ⟨#[]⟩) := hW2.cell 0
    have hr1 : w2.cell? ⟨w.heap.size, 1, none⟩ = some (.string ⟨#[]⟩) := hW2.cell 1
    have hf0 := hW2.free 0
    have hf1 := hW2.free 1
    have hz2 := hW2.lt
    have ha0 : w2.cell? ⟨w1.heap.size, 0, none⟩ = some (.string ⟨u.toArray⟩) := hA.cell 0
    have ha1 : w2.cell? ⟨w1.heap.size, 1, none⟩ = some (.string ⟨d.toArray⟩) := hA.cell 1
    have HB2 := Lib.hid (((HB.out.alloc (by omega) _).drew).trans (hb.mono (by omega)))
    clear hb ez hW2 hA
    by_cases hv : (nameB u && domB d) = true
    · have HV := Lib.hid hv
      rw [str_back, str_back, hv]
      clear hv
      go_wp2
      refine bodyPost_ret (v := .tuple #[.agg #[.string ⟨u.toArray⟩, .string ⟨d.toArray⟩], .bool true]) (by simp [results, Tryz.results142, go_sem, hr0, hr1]) rfl ?_
      refine parsed_yes (by unfold spB; rw [HP.out, decide_eq_true H2.out, HU.out, HD.out, HV.out]; rfl) (by rw [HP.out, HU.out]) (by rw [HP.out, HD.out]) ?_
      exact (HB2.out.setCell (p := ⟨w.heap.size, 0, none⟩) (Nat.le_refl _) _).setCell (p := ⟨w.heap.size, 1, none⟩) (Nat.le_refl _) _
    · have HV := Lib.hid (Bool.eq_false_iff.2 hv)
      rw [str_back, str_back, Bool.eq_false_iff.2 hv]
      clear hv
      go_wp2
      refine bodyPost_ret (v := .tuple #[.agg #[.string ⟨#[]⟩, .string ⟨#[]⟩], .bool false]) (by simp [results, Tryz.results142, go_sem, hr0, hr1]) rfl ?_
      refine parsed_no (by unfold spB; rw [HP.out, HU.out, HD.out, HV.out]; simp) ?_
      exact (HB2.out.setCell (p := ⟨w.heap.size, 0, none⟩) (Nat.le_refl _) _).setCell (p := ⟨w.heap.size, 1, none⟩) (Nat.le_refl _) _
  · have h2' : ((ps.length : Int) != 2) = true := by simp; omega
    have H2 := Lib.hid h2
    clear h2 hle hc
    go_wp2
    refine bodyPost_ret (v := .tuple #[.agg #[.string ⟨#[]⟩, .string ⟨#[]⟩], .bool false]) (by simp [results, Tryz.results142, go_sem, hr0, hr1]) rfl ?_
    refine parsed_no (by unfold spB; rw [HP.out, decide_eq_false H2.out]; rfl) ?_
    exact (HB.out.setCell (p := ⟨w.heap.size, 0, none⟩) (Nat.le_refl _) _).setCell (p := ⟨w.heap.size, 1, none⟩) (Nat.le_refl _) _

/-- The text of an address. -/
def adText (u d : List UInt8) : List UInt8 := if (nameB u && domB d) = true then u ++ 64 :: d else []
theorem adText_yes {u d : List UInt8} (h : (nameB u && domB d) = true) : adText u d = u ++ 64 :: d := by unfold adText; rw [if_pos h]
theorem adText_no {u d : List UInt8} (h : (nameB u && domB d) = false) : adText u d = [] := by unfold adText; rw [h]; rfl
/-- What a writer of addresses leaves. -/
def Wrote (w : World) (L : List UInt8) (e : Ending) (w' : World) : Prop := ∃ v : ByteArray, v.data.toList = L ∧ e = .returned (.string v) ∧ Below w.heap.size w w'
theorem cat_data (u d : ByteArray) : (u ++ ⟨#[64]⟩ ++ d).data.toList = u.data.toList ++ 64 :: d.data.toList := by simp
end Go.Proofs.YtichajalinkcdaaGreatDoor
namespace Go.Proofs.YtichajalinkcdaaGreatDoor
set_option linter.unusedVariables false

theorem sgn_ne {x c : UInt8} (h : sgn x = true) (hc : sgn c = false) : x ≠ c := by rintro rfl; rw [h] at hc; cases hc
theorem sgn46 : sgn 46 = false := by decide
theorem sgn64 : sgn 64 = false := by decide
theorem sgn62 : sgn 62 = false := by decide

/-- A list is its leading signs, and nothing or something that begins with no sign. -/
theorem span_sgn (r : List UInt8) : ∃ p q, r = p ++ q ∧ p.all sgn = true ∧ (r.takeWhile sgn) = p ∧ (q = [] ∨ ∃ x t, q = x :: t ∧ sgn x = false) := by
  induction r with
  | nil => exact ⟨[], [], rfl, rfl, rfl, .inl rfl⟩
  | cons a r ih =>
    by_cases ha : sgn a = true
    · obtain ⟨p, q, rfl, hp, ht, hq⟩ := ih
      refine ⟨a :: p, q, rfl, by simp [ha, hp], by rw [List.takeWhile_cons, if_pos ha, ht], hq⟩
    · refine ⟨[], a :: r, rfl, rfl, by rw [List.takeWhile_cons, if_neg ha], .inr ⟨a, r, rfl, Bool.eq_false_iff.2 ha⟩⟩

theorem nameB_all {p : List UInt8} (h : p.all sgn = true) : nameB p = okLen p.length := by unfold nameB okLen; rw [h]; rfl
theorem nameB_bad {p : List UInt8} {x : UInt8} (hx : x ∈ p) (h : sgn x = false) : nameB p = false := by
  unfold nameB
  have : p.all sgn = false := by
    rw [← Bool.not_eq_true]; intro ha; rw [List.all_eq_true] at ha; have := ha x hx; rw [h] at this; cases this
  rw [this]; rfl

theorem cutGo_skip (c : UInt8) (p q : List UInt8) (hp : ∀ x ∈ p, x ≠ c) : ∀ cur, cutGo c cur (p ++ q) = cutGo c (cur ++ p) q := by
  induction p with
  | nil => intro cur; simp
  | cons a p ih =>
    intro cur
    rw [List.cons_append, cutGo, if_neg (hp a (by simp)), ih (fun x hx => hp x (by simp [hx]))]
    simp
theorem cutGo_head (c : UInt8) (l : List UInt8) : ∀ cur, ∃ q rest, cutGo c cur l = (cur ++ q) :: rest := by
  induction l with
  | nil => intro cur; exact ⟨[], [], by simp [cutGo]⟩
  | cons a l ih =>
    intro cur
    unfold cutGo
    split
    · exact ⟨[], cutGo c [] l, by simp⟩
    · obtain ⟨q, rest, h⟩ := ih (cur ++ [a])
      exact ⟨a :: q, rest, by rw [h]; simp⟩
theorem cut_nil_of (c : UInt8) (p : List UInt8) (hp : ∀ x ∈ p, x ≠ c) : cut c p = [p] := by
  have := cutGo_skip c p [] hp []
  simp [cutGo] at this
  exact this
theorem cut_at (c : UInt8) (p t : List UInt8) (hp : ∀ x ∈ p, x ≠ c) : cut c (p ++ c :: t) = p :: cut c t := by
  unfold cut
  rw [cutGo_skip c p _ hp, cutGo, if_pos rfl]
  simp
theorem cut_other (c : UInt8) (p t : List UInt8) (x : UInt8) (hp : ∀ y ∈ p, y ≠ c) (hx : x ≠ c) : ∃ q rest, cut c (p ++ x :: t) = (p ++ x :: q) :: rest := by
  unfold cut
  rw [cutGo_skip c p _ hp, cutGo, if_neg hx]
  obtain ⟨q, rest, h⟩ := cutGo_head c t ([] ++ p ++ [x])
  exact ⟨q, rest, by rw [h]; simp⟩
theorem cutGo_mem (c : UInt8) (l : List UInt8) : ∀ cur x, (x ∈ cur ∨ x ∈ l) → x ≠ c → ∃ y ∈ cutGo c cur l, x ∈ y := by
  induction l with
  | nil => intro cur x hx hc; exact ⟨cur, by simp [cutGo], by simpa using hx⟩
  | cons a l ih =>
    intro cur x hx hc
    unfold cutGo
    split
    · rename_i ha
      rcases hx with hx | hx
      · exact ⟨cur, by simp, hx⟩
      · rcases List.mem_cons.1 hx with rfl | h
        · exact absurd ha hc
        · obtain ⟨y, hy, hxy⟩ := ih [] x (.inr h) hc
          exact ⟨y, by simp [hy], hxy⟩
    · refine ih (cur ++ [a]) x ?_ hc
      rcases hx with hx | hx
      · exact .inl (by simp [hx])
      · rcases List.mem_cons.1 hx with rfl | h
        · exact .inl (by simp)
        · exact .inr h

theorem nm_eq (L : List UInt8) (k : Nat) {p q : List UInt8} (h : L.drop k = p ++ q) (ht : (L.drop k).takeWhile sgn = p) : nmLen L k = p.length ∧ L.drop (k + nmLen L k) = q := by
  have e : nmLen L k = p.length := by unfold nmLen; rw [ht]
  refine ⟨e, ?_⟩
  rw [e, ← List.drop_drop, h, List.drop_left]
theorem next_nil {L : List UInt8} {k : Nat} {c : UInt8} (h : L.drop k = []) : nextIs L k c = false := by
  unfold nextIs
  rw [List.getElem?_eq_none (by simpa using h)]; rfl
theorem next_cons {L : List UInt8} {k : Nat} {c x : UInt8} {t : List UInt8} (h : L.drop k = x :: t) : nextIs L k c = (x == c) ∧ L.drop (k + 1) = t ∧ k < L.length := by
  have h1 : L[k]? = some x := by
    have : (L.drop k)[0]? = some x := by rw [h]; rfl
    simpa using this
  refine ⟨by unfold nextIs; rw [h1]; rfl, by rw [← List.drop_drop, h]; rfl, ?_⟩
  rcases Nat.lt_or_ge k L.length with hl | hl
  · exact hl
  · rw [List.getElem?_eq_none hl] at h1; cases h1
theorem len_of_drop {L : List UInt8} {k : Nat} (hk : k ≤ L.length) (h : L.drop k = []) : k = L.length := by
  have : L.length ≤ k := by simpa using h
  omega

theorem domGo_eq (L : List UInt8) : ∀ (n k : Nat), k ≤ L.length → (((domGo L n (okLen (nmLen L k)) (k + nmLen L k)).1 && decide ((domGo L n (okLen (nmLen L k)) (k + nmLen L k)).2 = L.length)) =
    ((cut 46 (L.drop k)).all nameB && decide ((cut 46 (L.drop k)).length ≤ n + 1))) := by
  intro n
  induction n with
  | zero =>
    intro k hk
    obtain ⟨p, q, hpq, hp, ht, hq⟩ := span_sgn (L.drop k)
    obtain ⟨e1, e2⟩ := nm_eq L k hpq ht
    have hle := nmLen_le L k hk
    have hne : ∀ x ∈ p, x ≠ (46 : UInt8) := fun x hx => sgn_ne (List.all_eq_true.1 hp x hx) sgn46
    rw [domGo_zero]
    rcases hq with rfl | ⟨x, t, rfl, hx⟩
    · have e3 := len_of_drop hle e2
      rw [hpq, List.append_nil, cut_nil_of 46 p hne]
      simp only [List.all_cons, List.all_nil, Bool.and_true, List.length_singleton]
      rw [nameB_all hp, ← e1, decide_eq_true e3]
      simp
    · obtain ⟨e3, e4, e5⟩ := next_cons (c := 46) e2
      rw [decide_eq_false (p := k + nmLen L k = L.length) (by omega), Bool.and_false, hpq]
      by_cases hx4 : x = 46
      · subst hx4
        rw [cut_at 46 p t hne]
        have := (cut_len 46 t).1
        rw [decide_eq_false (by rw [List.length_cons]; omega), Bool.and_false]
      · obtain ⟨q', rest, hc⟩ := cut_other 46 p t x hne hx4
        rw [hc, List.all_cons, nameB_bad (x := x) (by simp) hx]
        rfl
  | succ n ih =>
    intro k hk
    obtain ⟨p, q, hpq, hp, ht, hq⟩ := span_sgn (L.drop k)
    obtain ⟨e1, e2⟩ := nm_eq L k hpq ht
    have hle := nmLen_le L k hk
    have hne : ∀ x ∈ p, x ≠ (46 : UInt8) := fun x hx => sgn_ne (List.all_eq_true.1 hp x hx) sgn46
    rcases hq with rfl | ⟨x, t, rfl, hx⟩
    · have e3 := len_of_drop hle e2
      rw [domGo_no L _ _ _ (next_nil e2), hpq, List.append_nil, cut_nil_of 46 p hne]
      simp only [List.all_cons, List.all_nil, Bool.and_true, List.length_singleton]
      rw [nameB_all hp, ← e1, decide_eq_true e3]
      simp
    · obtain ⟨e3, e4, e5⟩ := next_cons (c := 46) e2
      by_cases hx4 : x = 46
      · subst hx4
        rw [hpq, cut_at 46 p t hne, List.all_cons, nameB_all hp, ← e1]
        by_cases ho : okLen (nmLen L k) = true
        · rw [ho, domGo_yes L n _ (by rw [e3]; rfl), ih (k + nmLen L k + 1) (by omega), e4]
          simp
        · rw [Bool.eq_false_iff.2 ho, domGo_off]; rfl
      · have h0 : nextIs L (k + nmLen L k) 46 = false := by rw [e3]; simpa using hx4
        rw [domGo_no L _ _ _ h0, decide_eq_false (p := k + nmLen L k = L.length) (by omega), Bool.and_false, hpq]
        obtain ⟨q', rest, hc⟩ := cut_other 46 p t x hne hx4
        rw [hc, List.all_cons, nameB_bad (x := x) (by simp) hx]
        rfl

theorem name_eq (L : List UInt8) : (okLen (nmLen L 0) && decide (nmLen L 0 = L.length)) = nameB L := by
  obtain ⟨p, q, hpq, hp, ht, hq⟩ := span_sgn (L.drop 0)
  obtain ⟨e1, e2⟩ := nm_eq L 0 hpq ht
  have hle := nmLen_le L 0 (Nat.zero_le _)
  rw [Nat.zero_add] at e2 hle
  rw [List.drop_zero] at hpq
  rcases hq with rfl | ⟨x, t, rfl, hx⟩
  · have e3 := len_of_drop hle e2
    rw [decide_eq_true e3, Bool.and_true, hpq, List.append_nil, nameB_all hp, ← hpq.trans (List.append_nil p), ← e3]
  · obtain ⟨e3, e4, e5⟩ := next_cons (c := 46) e2
    rw [decide_eq_false (by omega), Bool.and_false, nameB_bad (x := x) (by rw [hpq]; simp) hx]

theorem dom_eq (L : List UInt8) (k : Nat) (hk : k ≤ L.length) : (domOk L k && decide (domEnd L k = L.length)) = domB (L.drop k) := by
  have h := domGo_eq L 2 k hk
  unfold domOk domEnd domB
  by_cases he : (domGo L 2 (okLen (nmLen L k)) (k + nmLen L k)).2 = L.length
  · rw [decide_eq_true he, Bool.and_true] at h ⊢
    rw [he, h, List.length_drop]
  · rw [decide_eq_false he, Bool.and_false] at h ⊢
    rw [← h]; rfl

theorem dom_eq0 (L : List UInt8) : (domOk L 0 && decide (domEnd L 0 = L.length)) = domB L := dom_eq L 0 (Nat.zero_le _)
theorem domB_bad {t : List UInt8} (h : (64 : UInt8) ∈ t) : domB t = false := by
  obtain ⟨y, hy, hxy⟩ := cutGo_mem 46 t [] 64 (.inr h) (by decide)
  have : (cut 46 t).all nameB = false := by
    rw [← Bool.not_eq_true]; intro ha; rw [List.all_eq_true] at ha; have := ha y hy; rw [nameB_bad hxy sgn64] at this; cases this
  unfold domB
  rw [this]; rfl
theorem cut_more {c : UInt8} {t : List UInt8} (h : c ∈ t) : 2 ≤ (cut c t).length := by
  obtain ⟨a, b, rfl, hn⟩ := List.append_of_mem h |>.elim fun a h1 => h1.elim fun b h2 => (⟨a, b, h2, trivial⟩ : ∃ a b, t = a ++ c :: b ∧ True)
  unfold cut
  have key : ∀ (l cur : List UInt8), 1 ≤ (cutGo c cur l).length := fun l cur => (cutGo_len c l cur).1
  have : ∀ (a cur : List UInt8), 2 ≤ (cutGo c cur (a ++ c :: b)).length := by
    intro a
    induction a with
    | nil => intro cur; rw [List.nil_append, cutGo, if_pos rfl, List.length_cons]; have := key b []; omega
    | cons x a ih =>
      intro cur
      rw [List.cons_append, cutGo]
      split
      · rw [List.length_cons]; have := ih []; omega
      · exact ih _
  exact this a []

theorem ad_eq (L : List UInt8) : apB L = spB L ∧ (apB L = true → adUser L 0 = (two L).getD 0 [] ∧ adDom L 0 = (two L).getD 1 []) := by
  obtain ⟨p, q, hpq, hp, ht, hq⟩ := span_sgn (L.drop 0)
  obtain ⟨e1, e2⟩ := nm_eq L 0 hpq ht
  have hle := nmLen_le L 0 (Nat.zero_le _)
  rw [Nat.zero_add] at e2 hle
  rw [List.drop_zero] at hpq
  have hne : ∀ x ∈ p, x ≠ (64 : UInt8) := fun x hx => sgn_ne (List.all_eq_true.1 hp x hx) sgn64
  unfold apB adOk adEnd spB two
  rw [Nat.zero_add]
  rcases hq with rfl | ⟨x, t, rfl, hx⟩
  · rw [next_nil e2, Bool.and_false, Bool.false_and, Bool.false_and]
    refine ⟨?_, fun h => by cases h⟩
    rw [hpq, List.append_nil, cut_nil_of 64 p hne]
    rfl
  · obtain ⟨e3, e4, e5⟩ := next_cons (c := 64) e2
    by_cases hx4 : x = 64
    · subst hx4
      have e6 := dom_eq L (nmLen L 0 + 1) (by omega)
      rw [e4] at e6
      have en : okLen (nmLen L 0) = nameB p := by rw [e1, nameB_all hp]
      have hc : cut 64 L = p :: cut 64 t := (congrArg (cut 64) hpq).trans (cut_at 64 p t hne)
      rw [e3, beq_self_eq_true, Bool.and_true, Bool.and_assoc, e6, en, hc]
      simp only [List.getD_cons_succ, List.getD_cons_zero]
      by_cases hm : (64 : UInt8) ∈ t
      · rw [domB_bad hm, Bool.and_false, decide_eq_false (by rw [List.length_cons]; have := cut_more hm; omega)]
        exact ⟨rfl, fun h => by cases h⟩
      · rw [cut_nil_of 64 t (fun y hy e => hm (e ▸ hy))]
        refine ⟨rfl, fun h => ?_⟩
        have hd : domB t = true := by
          rw [Bool.and_eq_true] at h; exact h.2
        rw [← e6, Bool.and_eq_true] at hd
        have hend : domEnd L (nmLen L 0 + 1) = L.length := of_decide_eq_true hd.2
        constructor
        · unfold adUser
          rw [List.drop_zero, e1]
          conv => lhs; rw [hpq]
          simp
        · unfold adDom adEnd
          rw [Nat.zero_add, hend, e4]
          simp only [List.getD_cons_zero]
          rw [List.take_of_length_le]
          rw [← e4, List.length_drop]
          exact Nat.le_refl _
    · have h0 : nextIs L (nmLen L 0) 64 = false := by rw [e3]; simpa using hx4
      rw [h0, Bool.and_false, Bool.false_and, Bool.false_and]
      refine ⟨?_, fun h => by cases h⟩
      obtain ⟨q', rest, hc⟩ := cut_other 64 p t x hne hx4
      rw [hpq, hc]
      simp only [List.getD_cons_zero]
      rw [nameB_bad (x := x) (by simp) hx]
      simp
end Go.Proofs.YtichajalinkcdaaGreatDoor
namespace Go.Proofs.YtichajalinkcdaaGreatDoor
open Go.RowKit
set_option linter.unusedVariables false

/-- The bytes of a code: 'len' of them lie below block 'B', each from 0 to 255. -/
def Bytes (w : World) (B : Nat) (A : Option Addr) (len : Nat) : Prop :=
  len ≤ 2000 ∧ (0 < len → ∃ (xb xo : Nat) (f : Nat → Int), A = some ⟨xb, xo, none⟩ ∧ xb < B ∧ ∀ i, i < len → w.cell? ⟨xb, xo + i, none⟩ = some (.int .u8 (f i)) ∧ 0 ≤ f i ∧ f i ≤ 255)
theorem Bytes.kept {w w' : World} {B len : Nat} {A : Option Addr} (h : Bytes w B A len) (hk : ∀ p : Addr, p.block < B → w'.cell? p = w.cell? p) : Bytes w' B A len :=
  ⟨h.1, fun hl => by
    obtain ⟨xb, xo, f, hA, hb, hc⟩ := h.2 hl
    exact ⟨xb, xo, f, hA, hb, fun i hi => ⟨(hk _ hb).trans (hc i hi).1, (hc i hi).2⟩⟩⟩
/-- A reader of codes, in block 'b', at place 'p'. -/
def Rd (w : World) (b p : Nat) : Prop := ∃ (A : Option Addr) (len cap : Nat), Whole w b 76 #[.slice A len cap, .int .i64 (p : Int)] ∧ Bytes w b A len
theorem Rd.lt {w : World} {b p : Nat} (h : Rd w b p) : b < w.heap.size := by
  obtain ⟨_, _, _, h, _⟩ := h
  exact h.lt
theorem Rd.drewN {w : World} {b p : Nat} (h : Rd w b p) (n : Nat) : Rd (w.drewN n) b p := h
theorem Rd.grown {w w' : World} {b p g : Nat} (h : Rd w b p) (hg : w.grownBy w' (some g)) (hb : b < g) : Rd w' b p := by
  obtain ⟨A, len, cap, hW, hB⟩ := h
  have hl := hW.lt
  exact ⟨A, len, cap, hW.grown hg (by simp; omega), hB.kept fun q hq => World.cell?_of_block (hg.block q.block (by omega) (by simp; omega))⟩
theorem Rd.below {w w' : World} {b p B : Nat} (h : Rd w b p) (hg : Below B w w') (hb : b < B) : Rd w' b p := by
  obtain ⟨A, len, cap, hW, hB⟩ := h
  have hl := hW.lt
  exact ⟨A, len, cap, hW.below hg hb, hB.kept fun q hq => hg.cell (by omega)⟩

theorem xor_nonneg (a b : Int) (ha : 0 ≤ a) (ha' : a < 9223372036854775808) (hb : 0 ≤ b) (hb' : b < 9223372036854775808) : 0 ≤ bits .xor .i64 a b := by
  obtain ⟨x, rfl⟩ : ∃ x : Nat, a = x := ⟨a.toNat, by omega⟩
  obtain ⟨y, rfl⟩ : ∃ y : Nat, b = y := ⟨b.toNat, by omega⟩
  have hx : (BitVec.ofInt 64 (x : Int)).toNat = x := by rw [BitVec.ofInt_natCast, BitVec.toNat_ofNat]; exact Nat.mod_eq_of_lt (by omega)
  have hy : (BitVec.ofInt 64 (y : Int)).toNat = y := by rw [BitVec.ofInt_natCast, BitVec.toNat_ofNat]; exact Nat.mod_eq_of_lt (by omega)
  have hlt : x ^^^ y < 2 ^ 63 := Nat.xor_lt_two_pow (by omega) (by omega)
  show 0 ≤ IntKind.i64.wrap ((BitVec.ofInt 64 (x : Int) ^^^ BitVec.ofInt 64 (y : Int)).toNat : Int)
  rw [BitVec.toNat_xor, hx, hy, IntKind.wrap_i64]
  omega
theorem rem_nat (x : Int) (n : Nat) (hx : 0 ≤ x) (hn : 1 ≤ n) : ∃ r : Nat, r < n ∧ x % (n : Int) = (r : Int) := by
  have h1 : 0 ≤ x % (n : Int) := Int.emod_nonneg _ (by omega)
  have h2 : x % (n : Int) < (n : Int) := Int.emod_lt_of_pos _ (by omega)
  exact ⟨(x % (n : Int)).toNat, by omega, by omega⟩

theorem ret_int {k : IntKind} {a b : Int} (h : a = b) : Ending.returned (.int k a) = .returned (.int k b) := by rw [h]
theorem rd_next {w : World} {b p len cap : Nat} {A : Option Addr} (h : Whole w b 76 #[.slice A len cap, .int .i64 (p : Int)]) (hB : Bytes w b A len) : Rd (w.setCell ⟨b, 1, none⟩ (.int .i64 ((p : Int) + 1))) b (p + 1) :=
  ⟨A, len, cap, by have := h.store 1 (.int .i64 ((p : Int) + 1)); exact this, hB.kept fun q hq => World.cell?_setCell_other w _ q _ (fun e => by subst e; simp at hq)⟩
/-- What 'pick' leaves. -/
def Picked (w : World) (b p : Nat) (n : Nat) (e : Ending) (w' : World) : Prop := ∃ x : Nat, x < n ∧ e = .returned (.int .i64 (x : Int)) ∧ Rd w' b (p + 1) ∧ w.grownBy w' (some b)

set_option maxHeartbeats 2000000 in
theorem pick_any (b p n : Nat) (w : World) (h : Rd w b p) (hp : p ≤ 1000000) (hn : 1 ≤ n) (hn' : n ≤ 1000000) :
    Calls Tryz.prog 42 #[.pointer (some ⟨b, 0, none⟩), .int .i64 (n : Int)] w (Picked w b p n) := by
  obtain ⟨A, len, cap, hW, hB⟩ := h
  have h0 : w.cell? ⟨b, 0, none⟩ = some (.slice A len cap) := hW.cell 0
  have h1 : w.cell? ⟨b, 1, none⟩ = some (.int .i64 (p : Int)) := hW.cell 1
  have hf := hW.free 1
  have HW := Lib.hid hW
  have hl := hB.1
  have HB := Lib.hid hB
  clear hW hB
  have hn1 : ¬ (n : Int) < 1 := by omega
  by_cases hz : len = 0
  · subst hz
    go_enter Tryz.func42, Tryz.ntmps42
    go_wp2
    go_ret
    exact ⟨0, by omega, rfl, rd_next HW.out HB.out, gr_store (gr_refl _ _) (.inl rfl) _⟩
  · obtain ⟨xb, xo, f, rfl, hxb, hc⟩ := HB.out.2 (by omega)
    have hlz : ((len : Int) == 0) = false := by simp; omega
    by_cases hlt : p < len
    · obtain ⟨hcp, hf0, hf1⟩ := hc p hlt
      have HCC := Lib.hid hc
      clear hc
      go_enter Tryz.func42, Tryz.ntmps42
      go_wp2
      go_ret
      obtain ⟨r, hr, he⟩ := rem_nat (f p) n hf0 hn
      exact ⟨r, hr, ret_int he, rd_next HW.out HB.out, gr_store (gr_refl _ _) (.inl rfl) _⟩
    · obtain ⟨q1, hq1⟩ : ∃ q, p % len = q := ⟨_, rfl⟩
      obtain ⟨q2, hq2⟩ : ∃ q, (p * 7 + 3) % len = q := ⟨_, rfl⟩
      obtain ⟨d, hd⟩ : ∃ q, p / len = q := ⟨_, rfl⟩
      have l1 : q1 < len := hq1 ▸ Nat.mod_lt _ (by omega)
      have l2 : q2 < len := hq2 ▸ Nat.mod_lt _ (by omega)
      have ld : d ≤ p := hd ▸ Nat.div_le_self _ _
      obtain ⟨c1, a1, b1⟩ := hc q1 l1
      obtain ⟨c2, a2, b2⟩ := hc q2 l2
      obtain ⟨v1, hv1⟩ : ∃ v, f q1 = v := ⟨_, rfl⟩
      obtain ⟨v2, hv2⟩ : ∃ v, f q2 = v := ⟨_, rfl⟩
      rw [hv1] at c1 a1 b1
      rw [hv2] at c2 a2 b2
      have E1 : (p : Int).tmod (len : Int) = (q1 : Int) := by rw [← hq1]; exact IntWalk.up_tmod rfl rfl
      have E2 : ((p : Int) * 7 + 3).tmod (len : Int) = (q2 : Int) := by rw [← hq2]; exact IntWalk.up_tmod (by omega) rfl
      have E3 : (p : Int).tdiv (len : Int) = (d : Int) := by rw [← hd]; exact IntWalk.up_tdiv rfl rfl
      have W1 : IntKind.i64.wrap ((p : Int) * 7) = (p : Int) * 7 := IntWalk.i64_in _ (by omega)
      have W2 : IntKind.i64.wrap ((p : Int) * 7 + 3) = (p : Int) * 7 + 3 := IntWalk.i64_in _ (by omega)
      have W3 : IntKind.i64.wrap v1 = v1 := IntWalk.i64_in _ (by omega)
      have W4 : IntKind.i64.wrap v2 = v2 := IntWalk.i64_in _ (by omega)
      have W5 : IntKind.i64.wrap (v1 * 131) = v1 * 131 := IntWalk.i64_in _ (by omega)
      have W6 : IntKind.i64.wrap (v2 * 1117) = v2 * 1117 := IntWalk.i64_in _ (by omega)
      have W7 : IntKind.i64.wrap (v1 * 131 + v2 * 1117) = v1 * 131 + v2 * 1117 := IntWalk.i64_in _ (by omega)
      have W8 : IntKind.i64.wrap ((p : Int) * 29) = (p : Int) * 29 := IntWalk.i64_in _ (by omega)
      have W9 : IntKind.i64.wrap (v1 * 131 + v2 * 1117 + (p : Int) * 29) = v1 * 131 + v2 * 1117 + (p : Int) * 29 := IntWalk.i64_in _ (by omega)
      have Wa : IntKind.i64.wrap (d : Int) = (d : Int) := IntWalk.i64_in _ (by omega)
      have Wb : IntKind.i64.wrap ((d : Int) * 53) = (d : Int) * 53 := IntWalk.i64_in _ (by omega)
      have Wc : IntKind.i64.wrap (v1 * 131 + v2 * 1117 + (p : Int) * 29 + (d : Int) * 53) = v1 * 131 + v2 * 1117 + (p : Int) * 29 + (d : Int) * 53 := IntWalk.i64_in _ (by omega)
      have i1 : (0 : Int) ≤ (q1 : Int) := by omega
      have i2 : (0 : Int) ≤ (q2 : Int) := by omega
      have i3 : (q1 : Int) < (len : Int) := by omega
      have i4 : (q2 : Int) < (len : Int) := by omega
      clear hq1 hq2 hd hv1 hv2 hc
      go_enter Tryz.func42, Tryz.ntmps42
      go_wp2
      go_quiet (fail)
      obtain ⟨X, hX, x1, x2⟩ : ∃ X : Int, v1 * 131 + v2 * 1117 + (p : Int) * 29 + (d : Int) * 53 = X ∧ 0 ≤ X ∧ X ≤ 1000000000 := ⟨_, rfl, by omega, by omega⟩
      rw [hX]
      clear hX E1 E2 E3 W1 W2 W3 W4 W5 W6 W7 W8 W9 Wa Wb Wc
      have hx := xor_nonneg X (X / 64) (by omega) (by omega) (by omega) (by omega)
      go_wp2
      go_ret
      obtain ⟨r, hr, he⟩ := rem_nat (bits .xor .i64 X (X / 64)) n hx hn
      exact ⟨r, hr, ret_int he, (rd_next HW.out HB.out).drewN _, gr_drewN (gr_store (gr_refl _ _) (.inl rfl) _) _⟩

/-- What 'of' leaves: one of the texts. -/
def Chosen (w : World) (b p : Nat) (ls : List (List UInt8)) (e : Ending) (w' : World) : Prop := ∃ l, l ∈ ls ∧ e = .returned (str l) ∧ Rd w' b (p + 1) ∧ w.grownBy w' (some b)

theorem ret_val {a b : Value} (h : a = b) : Ending.returned a = .returned b := by rw [h]
set_option maxHeartbeats 1000000 in
theorem of_any (b p g cap : Nat) (ls : List (List UInt8)) (w : World) (h : Rd w b p) (hp : p ≤ 1000000) (hn : 1 ≤ ls.length) (hn' : ls.length ≤ 1000000) (hg : g ≠ b) (hgl : g < w.heap.size)
    (hc : ∀ j, j < ls.length → w.cell? ⟨g, j, none⟩ = some (str (ls.getD j []))) :
    Calls Tryz.prog 67 #[.pointer (some ⟨b, 0, none⟩), .slice (some ⟨g, 0, none⟩) ls.length cap] w (Chosen w b p ls) := by
  have HC := Lib.hid hc
  have H := Lib.hid h
  clear hc h
  obtain ⟨n, hln⟩ : ∃ n, ls.length = n := ⟨_, rfl⟩
  rw [hln] at hn hn' ⊢
  have HN := Lib.hid hln
  clear hln
  go_enter Tryz.func67, Tryz.ntmps67
  go_wp2_with fail
  refine (pick_any b p n w H.out hp hn hn').mono ?_
  rintro e w1 ⟨x, hx, rfl, hr, hgr⟩
  have hcx : w1.cell? ⟨g, x, none⟩ = some (str (ls.getD x [])) := (World.cell?_of_block (hgr.block g hgl (by simp; omega))).trans (HC.out x (by rw [HN.out]; exact hx))
  have HR := Lib.hid hr
  have HG := Lib.hid hgr
  clear hr hgr
  have i0 : (0 : Int) ≤ (x : Int) := by omega
  have i1 : (x : Int) < (n : Int) := by omega
  go_wp2
  go_ret
  refine ⟨ls.getD x [], ?_, rfl, HR.out, HG.out⟩
  rw [List.getD_eq_getElem?_getD, List.getElem?_eq_getElem (by rw [HN.out]; exact hx)]
  exact List.getElem_mem _

set_option maxHeartbeats 1000000 in
theorem open_any (A : Option Addr) (len cap : Nat) (w : World) (hc : len ≤ cap) (hcap : cap ≤ maxLen)
    (h : 0 < len → ∃ (xb xo : Nat) (f : Nat → Int), A = some ⟨xb, xo, none⟩ ∧ xb < w.heap.size ∧ ∀ i, i < len → w.cell? ⟨xb, xo + i, none⟩ = some (.int .u8 (f i)) ∧ 0 ≤ f i ∧ f i ≤ 255) :
    Calls Tryz.prog 39 #[.slice A len cap] w fun e w' => e = .returned (.pointer (some ⟨w.heap.size, 0, none⟩)) ∧ Rd w' w.heap.size 0 ∧ Below w.heap.size w w' ∧ w.heap.size < w'.heap.size := by
  unfold maxLen at hcap
  have fin : ∀ (l : Nat), l ≤ 2000 → l ≤ len → Rd (w.alloc (.cells #[.slice A l cap, .int .i64 0] 76)) w.heap.size 0 := by
    intro l h1 h2
    refine ⟨A, l, cap, Whole.made w _ _, h1, fun hl => ?_⟩
    obtain ⟨xb, xo, f, hA, hb, hcc⟩ := h (by omega)
    exact ⟨xb, xo, f, hA, hb, fun i hi => ⟨(World.cell?_alloc_lt w _ ⟨xb, xo + i, none⟩ hb).trans (hcc i (by omega)).1, (hcc i (by omega)).2⟩⟩
  have F := Lib.hid fin
  clear fin h
  by_cases hl : len ≤ 2000
  · have hl' : ¬ (2000 : Int) < (len : Int) := by omega
    go_enter Tryz.func39, Tryz.ntmps39
    go_wp2
    go_ret
    exact ⟨rfl, F.out len hl (Nat.le_refl _), (Below.refl _ _).alloc (Nat.le_refl _) _, by simp⟩
  · have hl' : (2000 : Int) < (len : Int) := by omega
    have hl2 : (2000 : Int) ≤ (len : Int) := by omega
    have hl3 : (2000 : Int) ≤ (cap : Int) := by omega
    go_enter Tryz.func39, Tryz.ntmps39
    go_wp2
    go_ret
    exact ⟨rfl, F.out 2000 (Nat.le_refl _) (by omega), (Below.refl _ _).alloc (Nat.le_refl _) _, by simp⟩
end Go.Proofs.YtichajalinkcdaaGreatDoor
