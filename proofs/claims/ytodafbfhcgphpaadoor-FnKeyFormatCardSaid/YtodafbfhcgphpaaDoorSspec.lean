/-
  The contracts of the model's l3Number and SetParse. No condition beyond a bound on the text's length.
-/
import Derived.Test.YtodafbfhcgphpaaDoorSpar
import Derived.Deep.RegionHeld3
namespace Go.Proofs.YtodafbfhcgphpaaDoor
open Go.RowKit
set_option linter.unusedVariables false

/-- The number of a word, or -1. -/
def numI (l : List UInt8) : Int := match numO l with
  | some n => (n : Int)
  | none => -1
theorem numI_some {l : List UInt8} {n : Nat} (h : numO l = some n) : numI l = (n : Int) := by unfold numI; rw [h]
theorem numI_none {l : List UInt8} (h : numO l = none) : numI l = -1 := by unfold numI; rw [h]
theorem numO_len {l : List UInt8} (h : ¬ (1 ≤ l.length ∧ l.length ≤ 2)) : numO l = none := by
  match l with
  | [] => rfl
  | [x] => simp at h
  | [x, y] => simp at h
  | x :: y :: z :: t => rfl
theorem numO_48 {l : List UInt8} {x : UInt8} (h : l[0]? = some x) (hx : x = 48) : numO l = none := by
  subst hx
  match l, h with
  | [x], h => simp at h; subst h; rfl
  | [x, y], h =>
    simp at h
    subst h
    have hn : ¬ ((49 ≤ (48 : UInt8).toNat ∧ (48 : UInt8).toNat ≤ 57) ∧ 48 ≤ y.toNat ∧ y.toNat ≤ 57) := by
      rintro ⟨⟨h1, _⟩, _⟩
      revert h1
      decide
    unfold numO
    exact if_neg hn
  | x :: y :: z :: t, h => rfl
theorem numO_bad {l : List UInt8} {k : Nat} {x : UInt8} (h : l[k]? = some x) (hx : dgt x = false) (h42 : l ≠ [42]) : numO l = none := by
  have hx' : ¬ (48 ≤ x.toNat ∧ x.toNat ≤ 57) := of_decide_eq_false hx
  match l, k, h with
  | [a], 0, h =>
    simp at h
    subst h
    show (if _ then _ else _) = _
    rw [if_neg (fun e => h42 (by rw [e])), if_neg (by omega)]
  | [a], k + 1, h => simp at h
  | [a, b], 0, h =>
    simp at h
    subst h
    show (if _ then _ else _) = _
    rw [if_neg (by omega)]
  | [a, b], 1, h =>
    simp at h
    subst h
    show (if _ then _ else _) = _
    rw [if_neg (by omega)]
  | [a, b], k + 2, h => simp at h
  | a :: b :: c :: t, k, h => rfl
/-- The value of digits. -/
def valD (l : List UInt8) : Nat := l.foldl (fun a c => 10 * a + (c.toNat - 48)) 0
theorem valD_snoc (l : List UInt8) (c : UInt8) : valD (l ++ [c]) = 10 * valD l + (c.toNat - 48) := by unfold valD; rw [List.foldl_append]; rfl
theorem numO_all {l : List UInt8} (h1 : 1 ≤ l.length) (h2 : l.length ≤ 2) (h0 : l[0]? ≠ some 48) (ha : l.all dgt = true) : numO l = some (valD l) := by
  match l with
  | [] => simp at h1
  | [x] =>
    simp at ha h0
    have hx := of_decide_eq_true ha
    have hn : x.toNat ≠ 48 := fun e => h0 (UInt8.toNat_inj.1 e)
    show (if _ then _ else _) = _
    rw [if_neg (ne42 (by omega)), if_pos (by omega)]
    simp [valD]
  | [x, y] =>
    simp at ha h0
    have hx := of_decide_eq_true ha.1
    have hy := of_decide_eq_true ha.2
    have hn : x.toNat ≠ 48 := fun e => h0 (UInt8.toNat_inj.1 e)
    show (if _ then _ else _) = _
    rw [if_pos (by omega)]
    simp [valD]
  | x :: y :: z :: t => simp at h2
theorem star_eq {v : ByteArray} : v.toList = [42] ↔ v.data.toList = [42] := by rw [ByteArray.toList_eq]

theorem part_len {p : List UInt8} (h : 2 < (cut 58 p).length) : partO p = none := by
  unfold partO
  match hc : cut 58 p, h with
  | [], h => simp at h
  | [a], h => simp at h
  | [a, b], h => simp at h
  | a :: b :: c :: t, h => rfl
theorem part_two {p : List UInt8} (h1 : 1 ≤ (cut 58 p).length) (h : (cut 58 p).length ≤ 2) :
    partO p = match numO ((cut 58 p).getD 0 []), numO ((cut 58 p).getD ((cut 58 p).length - 1) []) with
      | some m, some n => some (m, n)
      | _, _ => none := by
  unfold partO
  match hc : cut 58 p, h1, h with
  | [a], _, _ =>
    show (match numO a with
      | some m => some (m, m)
      | none => none) = match numO a, numO a with
      | some m, some n => some (m, n)
      | _, _ => none
    cases numO a <;> rfl
  | [a, b], _, _ => rfl
  | a :: b :: c :: t, _, h => simp at h
theorem part_nat {p : List UInt8} (h1 : 1 ≤ (cut 58 p).length) (h : (cut 58 p).length ≤ 2) (h2 : 0 ≤ numI ((cut 58 p).getD 0 [])) (h3 : 0 ≤ numI ((cut 58 p).getD ((cut 58 p).length - 1) [])) :
    ∃ m n : Nat, partO p = some (m, n) ∧ numI ((cut 58 p).getD 0 []) = (m : Int) ∧ numI ((cut 58 p).getD ((cut 58 p).length - 1) []) = (n : Int) := by
  have e := part_two h1 h
  cases hm : numO ((cut 58 p).getD 0 []) with
  | none => rw [numI_none hm] at h2; omega
  | some m =>
    cases hn : numO ((cut 58 p).getD ((cut 58 p).length - 1) []) with
    | none => rw [numI_none hn] at h3; omega
    | some n => exact ⟨m, n, by rw [e, hm, hn], numI_some hm, numI_some hn⟩
theorem part_neg {p : List UInt8} (h1 : 1 ≤ (cut 58 p).length) (h : (cut 58 p).length ≤ 2) (h2 : numI ((cut 58 p).getD 0 []) < 0 ∨ numI ((cut 58 p).getD ((cut 58 p).length - 1) []) < 0) : partO p = none := by
  have e := part_two h1 h
  cases hm : numO ((cut 58 p).getD 0 []) with
  | none => rw [e, hm]
  | some m =>
    cases hn : numO ((cut 58 p).getD ((cut 58 p).length - 1) []) with
    | none => rw [e, hm, hn]
    | some n =>
      rw [numI_some hm, numI_some hn] at h2
      omega
theorem set_of_none {L : List UInt8} (h : listO (cut 44 L) = none) : setO L = none := by unfold setO; rw [h]; rfl
theorem set_of_some {L : List UInt8} {P : List (Nat × Nat)} (h : listO (cut 44 L) = some P) : setO L = if P.length ≤ 6 then some P else none := by unfold setO; rw [h]; rfl

theorem Own.lit' (w : World) {B : Nat} (N : Nat) (hB : B ≤ w.heap.size) (hN : w.heap.size = N) : Own (w.alloc (.cells #[] 78)) B (.slice (some ⟨N, 0, none⟩) 0 0) [] := hN ▸ Own.lit w hB
theorem two_new' (w : World) (x y : Value) (t : TypeId) (N : Nat) (hN : w.heap.size = N) : ∀ j u, [x, y][j]? = some u → (w.alloc (.cells #[x, y] t)).cell? ((⟨N, 0, none⟩ : Addr).add j) = some u := hN ▸ two_new w x y t
theorem two_one (x y : Int) : ∀ u ∈ [Value.int .i64 x, Value.int .i64 y], u.oneCell' = true := by
  intro u hu
  simp at hu
  rcases hu with rfl | rfl <;> rfl
theorem below_drew' {B : Nat} {a w : World} (h : Below B a w) : Below B a w.drew := ⟨h.os, h.tape, h.output, h.size, h.block⟩
theorem cell_drew (w : World) (p : Addr) : w.drew.cell? p = w.cell? p := rfl
end Go.Proofs.YtodafbfhcgphpaaDoor
