/-
  The contracts of the reader of codes (spec.l6Open, pick, of). Condition: the code's bytes can be read below the reader's own block, and the place is small.
-/
import Derived.Test.YtkhfflbgnojcfaaCut
namespace Go.Proofs.Ytkhfflbgnojcfaa
open Go.RowKit
set_option linter.unusedVariables false

/-- The bytes of a code: 'len' of them lie below block 'B', each from 0 to 255. -/
def Bytes (w : World) (B : Nat) (A : Option Addr) (len : Nat) : Prop :=
  len ≤ 2000 ∧ (0 < len → ∃ (xb xo : Nat) (f : Nat → Int), A = some ⟨xb, xo, none⟩ ∧ xb < B ∧ ∀ i, i < len → w.cell? ⟨xb, xo + i, none⟩ = some (.int .u8 (f i)) ∧ 0 ≤ f i ∧ f i ≤ 255)
theorem Bytes.kept {w w' : World} {B len : Nat} {A : Option Addr} (h : Bytes w B A len) (hk : ∀ p : Addr, p.block < B → w'.cell? p = w.cell? p) : Bytes w' B A len :=
  ⟨h.1, fun hl => by
    obtain ⟨xb, xo, f, hA, hb, hc⟩ := h.2 hl
    exact ⟨xb, xo, f, hA, hb, fun i hi => ⟨(hk _ hb).trans (hc i hi).1, (hc i hi).2⟩⟩⟩
theorem xor_nonneg (a b : Int) (ha : 0 ≤ a) (ha' : a < 9223372036854775808) (hb : 0 ≤ b) (hb' : b < 9223372036854775808) : 0 ≤ bits .xor .i64 a b := by
  obtain ⟨x, rfl⟩ : ∃ x : Nat, a = x := ⟨a.toNat, by omega⟩
  obtain ⟨y, rfl⟩ : ∃ y : Nat, b = y := ⟨b.toNat, by omega⟩
  have hx : (BitVec.ofInt 64 (x : Int)).toNat = x := by rw [BitVec.ofInt_natCast, BitVec.toNat_ofNat]; exact Nat.mod_eq_of_lt (by omega)
  have hy : (BitVec.ofInt 64 (y : Int)).toNat = y := by rw [BitVec.ofInt_natCast, BitVec.toNat_ofNat]; exact Nat.mod_eq_of_lt (by omega)
  have hlt : x ^^^ y < 2 ^ 63 := Nat.xor_lt_two_pow (by omega) (by omega)
  show 0 ≤ IntKind.i64.wrap ((BitVec.ofInt 64 (x : Int) ^^^ BitVec.ofInt 64 (y : Int)).toNat : Int)
  rw [BitVec.toNat_xor, hx, hy, IntKind.wrap_i64]
  omega
theorem rem_nat (x : Int) (n : Nat) (hx : 0 ≤ x) (hn : 1 ≤ n) : ∃ r : Nat, r < n ∧ x % (n : Int) = (r : Int) := by
  have h1 : 0 ≤ x % (n : Int) := Int.emod_nonneg _ (by omega)
  have h2 : x % (n : Int) < (n : Int) := Int.emod_lt_of_pos _ (by omega)
  exact ⟨(x % (n : Int)).toNat, by omega, by omega⟩

theorem ret_int {k : IntKind} {a b : Int} (h : a = b) : Ending.returned (.int k a) = .returned (.int k b) := by rw [h]
theorem ret_val {a b : Value} (h : a = b) : Ending.returned a = .returned b := by rw [h]
end Go.Proofs.Ytkhfflbgnojcfaa
