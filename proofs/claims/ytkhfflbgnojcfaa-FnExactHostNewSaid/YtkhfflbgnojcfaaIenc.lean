/-
  The contract of the code's encoder of one group of bytes. Condition: the group has one to three bytes.
-/
import Derived.Test.YtkhfflbgnojcfaaBenc
import Derived.IntWalk
namespace Go.Proofs.Ytkhfflbgnojcfaa
open Go.RowKit
set_option linter.unusedVariables false
/-- The number of the first 'k' bytes of a group. -/
def nb (l : List UInt8) : Nat → Nat
  | 0 => 0
  | 1 => 65536 * (l.getD 0 0).toNat
  | 2 => 65536 * (l.getD 0 0).toNat + 256 * (l.getD 1 0).toNat
  | _ => 65536 * (l.getD 0 0).toNat + 256 * (l.getD 1 0).toNat + (l.getD 2 0).toNat
theorem nb_lt (l : List UInt8) (k : Nat) : nb l k < 16777216 := by
  have h0 := (l.getD 0 0).toNat_lt
  have h1 := (l.getD 1 0).toNat_lt
  have h2 := (l.getD 2 0).toNat_lt
  match k with
  | 0 => show 0 < _; omega
  | 1 => show 65536 * (l.getD 0 0).toNat < _; omega
  | 2 => show 65536 * (l.getD 0 0).toNat + 256 * (l.getD 1 0).toNat < _; omega
  | k + 3 => show 65536 * (l.getD 0 0).toNat + 256 * (l.getD 1 0).toNat + (l.getD 2 0).toNat < _; omega
theorem or_i64 (x y : Nat) (hx : x < 2 ^ 62) (hy : y < 2 ^ 62) : bits .or .i64 (x : Int) (y : Int) = ((x ||| y : Nat) : Int) := by
  have ex : (BitVec.ofInt 64 (x : Int)).toNat = x := by rw [BitVec.ofInt_natCast, BitVec.toNat_ofNat]; exact Nat.mod_eq_of_lt (by omega)
  have ey : (BitVec.ofInt 64 (y : Int)).toNat = y := by rw [BitVec.ofInt_natCast, BitVec.toNat_ofNat]; exact Nat.mod_eq_of_lt (by omega)
  have hlt : x ||| y < 2 ^ 62 := Nat.or_lt_two_pow hx hy
  show IntKind.i64.wrap ((BitVec.ofInt 64 (x : Int) ||| BitVec.ofInt 64 (y : Int)).toNat : Int) = _
  rw [BitVec.toNat_or, ex, ey, IntKind.wrap_i64]
  omega
theorem or_join (x y i : Nat) (hx : x < 2 ^ 62) (hi : y < 2 ^ i) (hy : y < 2 ^ 62) (h : x % 2 ^ i = 0) : bits .or .i64 (x : Int) (y : Int) = ((x + y : Nat) : Int) := by rw [or_i64 x y hx hy, nat_join i x y h hi]
theorem list_at {s : ByteArray} {k : Nat} (h : k < s.size) (d : UInt8) : s.data.toList.getD k d = s[k] := by
  rw [List.getD_eq_getElem?_getD, List.getElem?_eq_getElem (by simpa using h)]
  rfl
theorem nb_step {s : ByteArray} {k : Nat} (h : k < s.size) (h2 : k ≤ 2) : bits .or .i64 ((nb s.data.toList k : Nat) : Int) (wrap64 ((s[k].toNat : Int) * 2 ^ (8 * (2 - k)))) = ((nb s.data.toList (k + 1) : Nat) : Int) := by
  have hb := s[k].toNat_lt
  have e := list_at h 0
  have hl := nb_lt s.data.toList k
  rcases (by omega : k = 0 ∨ k = 1 ∨ k = 2) with rfl | rfl | rfl
  · have e1 : wrap64 ((s[0].toNat : Int) * 2 ^ (8 * (2 - 0))) = ((65536 * s[0].toNat : Nat) : Int) := by unfold wrap64; simp; omega
    rw [e1, or_join _ _ 24 (by omega) (by omega) (by omega) (by rfl)]
    show ((0 + 65536 * s[0].toNat : Nat) : Int) = ((65536 * (s.data.toList.getD 0 0).toNat : Nat) : Int)
    rw [e, Nat.zero_add]
  · have e1 : wrap64 ((s[1].toNat : Int) * 2 ^ (8 * (2 - 1))) = ((256 * s[1].toNat : Nat) : Int) := by unfold wrap64; simp; omega
    rw [e1, or_join _ _ 16 (by omega) (by omega) (by omega) (by show 65536 * _ % 65536 = 0; omega)]
    show ((65536 * (s.data.toList.getD 0 0).toNat + 256 * s[1].toNat : Nat) : Int) = ((65536 * (s.data.toList.getD 0 0).toNat + 256 * (s.data.toList.getD 1 0).toNat : Nat) : Int)
    rw [e]
  · have e1 : wrap64 ((s[2].toNat : Int) * 2 ^ (8 * (2 - 2))) = ((s[2].toNat : Nat) : Int) := by unfold wrap64; simp; omega
    rw [e1, or_join _ _ 8 (by omega) (by omega) (by omega) (by show (65536 * _ + 256 * _) % 256 = 0; omega)]
    show ((65536 * (s.data.toList.getD 0 0).toNat + 256 * (s.data.toList.getD 1 0).toNat + s[2].toNat : Nat) : Int) = ((65536 * (s.data.toList.getD 0 0).toNat + 256 * (s.data.toList.getD 1 0).toNat + (s.data.toList.getD 2 0).toNat : Nat) : Int)
    rw [e]

/-- The signs of a group, of which 'c' are written. -/
def sv (N c j : Nat) : UInt8 := if j < c then sig (N / 2 ^ (6 * (3 - j)) % 64) else 61
def cs (N c : Nat) : Array Value := #[.int .u8 ((sv N c 0).toNat : Int), .int .u8 ((sv N c 1).toNat : Int), .int .u8 ((sv N c 2).toNat : Int), .int .u8 ((sv N c 3).toNat : Int)]
theorem cs_step (N c : Nat) (h : c ≤ 3) : (cs N c).setIfInBounds c (.int .u8 ((sig (N / 2 ^ (6 * (3 - c)) % 64)).toNat : Int)) = cs N (c + 1) := by
  rcases (by omega : c = 0 ∨ c = 1 ∨ c = 2 ∨ c = 3) with rfl | rfl | rfl | rfl <;> rfl
theorem cs_at (N c : Nat) (h : c ≤ 3) : (cs N c)[c]? = some (.int .u8 61) := by
  rcases (by omega : c = 0 ∨ c = 1 ∨ c = 2 ∨ c = 3) with rfl | rfl | rfl | rfl <;> rfl
theorem cs_zero (N : Nat) : cs N 0 = #[.int .u8 61, .int .u8 61, .int .u8 61, .int .u8 61] := rfl
theorem cs_bytes (N c : Nat) : (cs N c).toList = Lib.byteCells [sv N c 0, sv N c 1, sv N c 2, sv N c 3] := rfl
theorem and63 (m c : Nat) (hm : m < 16777216) : bits .and .i64 ((m : Int) / 2 ^ (6 * (3 - c))) 63 = ((m / 2 ^ (6 * (3 - c)) % 64 : Nat) : Int) := by
  have e : (m : Int) / 2 ^ (6 * (3 - c)) = ((m / 2 ^ (6 * (3 - c)) : Nat) : Int) := by simp
  rw [e]
  have hle : m / 2 ^ (6 * (3 - c)) ≤ m := Nat.div_le_self _ _
  obtain ⟨x, hx⟩ : ∃ x, m / 2 ^ (6 * (3 - c)) = x := ⟨_, rfl⟩
  rw [hx] at hle ⊢
  have ex : (BitVec.ofInt 64 (x : Int)).toNat = x := by rw [BitVec.ofInt_natCast, BitVec.toNat_ofNat]; exact Nat.mod_eq_of_lt (by omega)
  show IntKind.i64.wrap ((BitVec.ofInt 64 (x : Int) &&& BitVec.ofInt 64 (63 : Int)).toNat : Int) = _
  rw [BitVec.toNat_and, ex]
  have e63 : (BitVec.ofInt 64 (63 : Int)).toNat = 63 := by rfl
  rw [e63, nat_mask6, IntKind.wrap_i64]
  omega
theorem enc_signs_of {s : ByteArray} (h1 : 1 ≤ s.size) (h3 : s.size ≤ 3) : [sv (nb s.data.toList s.size) (s.size + 1) 0, sv (nb s.data.toList s.size) (s.size + 1) 1, sv (nb s.data.toList s.size) (s.size + 1) 2, sv (nb s.data.toList s.size) (s.size + 1) 3] = enc s.data.toList := by
  have hl : s.data.toList.length = s.size := by simp
  obtain ⟨l, hs⟩ : ∃ l, s.data.toList = l := ⟨_, rfl⟩
  rw [← hl, hs]
  rw [← hl, hs] at h1 h3
  have hz : (0 : UInt8).toNat = 0 := rfl
  match l, h1, h3 with
  | [a], _, _ =>
    have e : nb [a] 1 = n24 a 0 0 := by unfold n24; rw [hz]; show 65536 * a.toNat = _; omega
    have hn := n24_lt a 0 0
    show [sv (nb [a] 1) 2 0, sv (nb [a] 1) 2 1, 61, 61] = _
    rw [enc_one, e]
    unfold sv q0 q1
    rw [if_pos (by decide), if_pos (by decide)]
    congr 2
    · congr 1; omega
  | [a, b], _, _ =>
    have e : nb [a, b] 2 = n24 a b 0 := by unfold n24; rw [hz]; show 65536 * a.toNat + 256 * b.toNat = _; omega
    have hn := n24_lt a b 0
    show [sv (nb [a, b] 2) 3 0, sv (nb [a, b] 2) 3 1, sv (nb [a, b] 2) 3 2, 61] = _
    rw [enc_two, e]
    unfold sv q0 q1 q2
    rw [if_pos (by decide), if_pos (by decide), if_pos (by decide)]
    congr 2
    · congr 1; omega
  | [a, b, c], _, _ =>
    have e : nb [a, b, c] 3 = n24 a b c := rfl
    have hn := n24_lt a b c
    show [sv (nb [a, b, c] 3) 4 0, sv (nb [a, b, c] 3) 4 1, sv (nb [a, b, c] 3) 4 2, sv (nb [a, b, c] 3) 4 3] = _
    rw [enc_more, enc_nil, e]
    unfold sv q0 q1 q2 q3
    rw [if_pos (by decide), if_pos (by decide), if_pos (by decide), if_pos (by decide)]
    congr 2
    · congr 1; omega
    · simp

end Go.Proofs.Ytkhfflbgnojcfaa
