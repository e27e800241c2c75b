/-
  Slices of names in memory. Plain definitions and lemmas; no condition.
-/
import Derived.Test.YtjengfefedbhpaaTm
namespace Go.Proofs.Ytjengfefedbhpaa
open Go.RowKit
set_option linter.unusedVariables false

def stR : RowT ByteArray where
  t := 9
  sz := 1
  enc := fun g => [.string g]
  len := fun _ => rfl
  one := fun x u hu => by
    simp at hu
    subst hu
    rfl
theorem str_at {w : World} {A : Option Addr} {L : List ByteArray} {k : Nat} {x : ByteArray} (h : RAt stR w A L) (hx : L[k]? = some x) :
    ∃ b o, A = some ⟨b, o, none⟩ ∧ b < w.heap.size ∧ w.cell? ⟨b, o + k, none⟩ = some (.string x) := by
  obtain ⟨b, o, hA, hb, h1⟩ := h k _ hx
  have := h1 0 _ rfl
  simp only [stR, Nat.mul_one, Nat.add_zero] at this
  exact ⟨b, o, hA, hb, this⟩
/-- A slice of texts that came in. -/
def SIn (w : World) (A : Option Addr) (N cap : Nat) (L : List ByteArray) : Prop := L.length = N ∧ N ≤ 4194304 ∧ RAt stR w A L ∧ (A = none → cap = 0) ∧ (∀ q, A = some q → q.spot = none) ∧ (∀ g ∈ L, g.size ≤ 16777216) ∧ N ≤ cap ∧ (∀ q, A = some q → q.block < w.heap.size)
theorem SIn.below {w w' : World} {A : Option Addr} {N cap B : Nat} {L : List ByteArray} (h : SIn w A N cap L) (hb : Below B w w') (hB : w.heap.size ≤ B) : SIn w' A N cap L := ⟨h.1, h.2.1, h.2.2.1.below hb hB, h.2.2.2.1, h.2.2.2.2.1, h.2.2.2.2.2.1, h.2.2.2.2.2.2.1, fun q e => Nat.lt_of_lt_of_le (h.2.2.2.2.2.2.2 q e) hb.size⟩
theorem SIn.made {w : World} {B N cap : Nat} {A : Option Addr} {L : List ByteArray} (h : ROwn stR w B (.slice A N cap) L) (hl : L.length ≤ 4194304) (hs : ∀ g ∈ L, g.size ≤ 16777216) : SIn w A N cap L := ⟨h.len.1.symm, h.len.1 ▸ hl, h.at, h.nilcap, h.spot, hs, h.len.2.1, fun q e => by
  subst e
  obtain ⟨A', c', he, _, _, _, hb, _⟩ := h.form
  cases he
  rcases h.2 with ⟨he, _⟩ | ⟨g, c, cur, he, _⟩
  · cases he
  · cases he
    exact (World.ownsRow.lt h g rfl).2⟩
theorem SIn.nil (w : World) : SIn w none 0 0 [] := ⟨rfl, by omega, RAt.nil _ _, fun _ => rfl, fun q h => (by cases h), fun g h => (by cases h), by omega, fun q h => (by cases h)⟩
theorem SIn.front {w : World} {A : Option Addr} {N cap k : Nat} {L : List ByteArray} (h : SIn w A N cap L) (hk : k ≤ N) : SIn w A k cap (L.take k) := ⟨by rw [List.length_take, h.1]; omega, by have := h.2.1; omega, h.2.2.1.take k, h.2.2.2.1, h.2.2.2.2.1, fun g hg => h.2.2.2.2.2.1 g (List.mem_of_mem_take hg), by have := h.2.2.2.2.2.2.1; omega, h.2.2.2.2.2.2.2⟩
theorem SIn.lt {w : World} {A : Option Addr} {N cap : Nat} {L : List ByteArray} (h : SIn w A N cap L) : ∀ q, A = some q → q.block < w.heap.size := h.2.2.2.2.2.2.2
/-- Texts that can be read, no more. -/
def WIn (w : World) (A : Option Addr) (N : Nat) (L : List ByteArray) : Prop := L.length = N ∧ RAt stR w A L
theorem WIn.below {w w' : World} {A : Option Addr} {N B : Nat} {L : List ByteArray} (h : WIn w A N L) (hb : Below B w w') (hB : w.heap.size ≤ B) : WIn w' A N L := ⟨h.1, h.2.below hb hB⟩
theorem mem_here {L : List ByteArray} {k : Nat} {x n : ByteArray} (hx : L[k]? = some x) (hn : x = n) : decide (n ∈ L) = true := decide_eq_true (hn ▸ List.mem_of_getElem? hx)
theorem mem_step {L : List ByteArray} {k : Nat} {x n : ByteArray} (h : ¬ n ∈ L.take k) (hx : L[k]? = some x) (hn : x ≠ n) : ¬ n ∈ L.take (k + 1) := by
  rw [tsnoc hx]
  simp
  exact ⟨h, fun e => hn e.symm⟩
end Go.Proofs.Ytjengfefedbhpaa
