/-
  My texts Shelf, Bld, Ienc, Bdec, Idec, Bbase, Iloop, Pmake, Pparse, Um, Cm, Aval, Apath, Tm, Tr, Keep, Jt, Ju in one, so that a claim holds fewer files. Conditions: each contract's own.
-/
import Derived.Test.YtinbdibenbplnaaQb
import Derived.Shelf.Strings.BuilderK
import Derived.Shelf.Small.Strs
import Derived.Test.YtinbdibenbplnaaProg
import Derived.WalkKit
import Derived.Lib.OthersKept
import Derived.Lib.Hide
import Derived.IntWalk
import Derived.Deep.LoopGhost
import Derived.ArgAppend
namespace Go.Proofs.Ytinbdibenbplnaa
open Go.Shelf
end Go.Proofs.Ytinbdibenbplnaa
namespace Go.Proofs.Ytinbdibenbplnaa
open Go.RowKit Go.Shelf
set_option linter.unusedVariables false

end Go.Proofs.Ytinbdibenbplnaa
namespace Go.Proofs.Ytinbdibenbplnaa
open Go.RowKit
set_option linter.unusedVariables false
/-- The number of the first 'k' bytes of a group. -/
def nb (l : List UInt8) : Nat → Nat
  | 0 => 0
  | 1 => 65536 * (l.getD 0 0).toNat
  | 2 => 65536 * (l.getD 0 0).toNat + 256 * (l.getD 1 0).toNat
  | _ => 65536 * (l.getD 0 0).toNat + 256 * (l.getD 1 0).toNat + (l.getD 2 0).toNat
theorem nb_lt (l : List UInt8) (k : Nat) : nb l k < 16777216 := by
  have h0 := (l.getD 0 0).toNat_lt
  have h1 := (l.getD 1 0).toNat_lt
  have h2 := (l.getD 2 0).toNat_lt
  match k with
  | 0 => show 0 < _; omega
  | 1 => show 65536 * (l.getD 0 0).toNat < _; omega
  | 2 => show 65536 * (l.getD 0 0).toNat + 256 * (l.getD 1 0).toNat < _; omega
  | k + 3 => show 65536 * (l.getD 0 0).toNat + 256 * (l.getD 1 0).toNat + (l.getD 2 0).toNat < _; omega
theorem or_i64 (x y : Nat) (hx : x < 2 ^ 62) (hy : y < 2 ^ 62) : bits .or .i64 (x : Int) (y : Int) = ((x ||| y : Nat) : Int) := by
  have ex : (BitVec.ofInt 64 (x : Int)).toNat = x := by rw [BitVec.ofInt_natCast, BitVec.toNat_ofNat]; exact Nat.mod_eq_of_lt (by omega)
  have ey : (BitVec.ofInt 64 (y : Int)).toNat = y := by rw [BitVec.ofInt_natCast, BitVec.toNat_ofNat]; exact Nat.mod_eq_of_lt (by omega)
  have hlt : x ||| y < 2 ^ 62 := Nat.or_lt_two_pow hx hy
  show IntKind.i64.wrap ((BitVec.ofInt 64 (x : Int) ||| BitVec.ofInt 64 (y : Int)).toNat : Int) = _
  rw [BitVec.toNat_or, ex, ey, IntKind.wrap_i64]
  omega
theorem or_join (x y i : Nat) (hx : x < 2 ^ 62) (hi : y < 2 ^ i) (hy : y < 2 ^ 62) (h : x % 2 ^ i = 0) : bits .or .i64 (x : Int) (y : Int) = ((x + y : Nat) : Int) := by rw [or_i64 x y hx hy, nat_join i x y h hi]
theorem list_at {s : ByteArray} {k : Nat} (h : k < s.size) (d : UInt8) : s.data.toList.getD k d = s[k] := by
  rw [List.getD_eq_getElem?_getD, List.getElem?_eq_getElem (by simpa using h)]
  rfl
theorem nb_step {s : ByteArray} {k : Nat} (h : k < s.size) (h2 : k ≤ 2) : bits .or .i64 ((nb s.data.toList k : Nat) : Int) (wrap64 ((s[k].toNat : Int) * 2 ^ (8 * (2 - k)))) = ((nb s.data.toList (k + 1) : Nat) : Int) := by
  have hb := s[k].toNat_lt
  have e := list_at h 0
  have hl := nb_lt s.data.toList k
  rcases (by omega : k = 0 ∨ k = 1 ∨ k = 2) with rfl | rfl | rfl
  · have e1 : wrap64 ((s[0].toNat : Int) * 2 ^ (8 * (2 - 0))) = ((65536 * s[0].toNat : Nat) : Int) := by unfold wrap64; simp; omega
    rw [e1, or_join _ _ 24 (by omega) (by omega) (by omega) (by rfl)]
    show ((0 + 65536 * s[0].toNat : Nat) : Int) = ((65536 * (s.data.toList.getD 0 0).toNat : Nat) : Int)
    rw [e, Nat.zero_add]
  · have e1 : wrap64 ((s[1].toNat : Int) * 2 ^ (8 * (2 - 1))) = ((256 * s[1].toNat : Nat) : Int) := by unfold wrap64; simp; omega
    rw [e1, or_join _ _ 16 (by omega) (by omega) (by omega) (by show 65536 * _ % 65536 = 0; omega)]
    show ((65536 * (s.data.toList.getD 0 0).toNat + 256 * s[1].toNat : Nat) : Int) = ((65536 * (s.data.toList.getD 0 0).toNat + 256 * (s.data.toList.getD 1 0).toNat : Nat) : Int)
    rw [e]
  · have e1 : wrap64 ((s[2].toNat : Int) * 2 ^ (8 * (2 - 2))) = ((s[2].toNat : Nat) : Int) := by unfold wrap64; simp; omega
    rw [e1, or_join _ _ 8 (by omega) (by omega) (by omega) (by show (65536 * _ + 256 * _) % 256 = 0; omega)]
    show ((65536 * (s.data.toList.getD 0 0).toNat + 256 * (s.data.toList.getD 1 0).toNat + s[2].toNat : Nat) : Int) = ((65536 * (s.data.toList.getD 0 0).toNat + 256 * (s.data.toList.getD 1 0).toNat + (s.data.toList.getD 2 0).toNat : Nat) : Int)
    rw [e]

/-- The signs of a group, of which 'c' are written. -/
def sv (N c j : Nat) : UInt8 := if j < c then sig (N / 2 ^ (6 * (3 - j)) % 64) else 61
def cs (N c : Nat) : Array Value := #[.int .u8 ((sv N c 0).toNat : Int), .int .u8 ((sv N c 1).toNat : Int), .int .u8 ((sv N c 2).toNat : Int), .int .u8 ((sv N c 3).toNat : Int)]
theorem cs_step (N c : Nat) (h : c ≤ 3) : (cs N c).setIfInBounds c (.int .u8 ((sig (N / 2 ^ (6 * (3 - c)) % 64)).toNat : Int)) = cs N (c + 1) := by
  rcases (by omega : c = 0 ∨ c = 1 ∨ c = 2 ∨ c = 3) with rfl | rfl | rfl | rfl <;> rfl
theorem cs_at (N c : Nat) (h : c ≤ 3) : (cs N c)[c]? = some (.int .u8 61) := by
  rcases (by omega : c = 0 ∨ c = 1 ∨ c = 2 ∨ c = 3) with rfl | rfl | rfl | rfl <;> rfl
theorem cs_zero (N : Nat) : cs N 0 = #[.int .u8 61, .int .u8 61, .int .u8 61, .int .u8 61] := rfl
theorem cs_bytes (N c : Nat) : (cs N c).toList = Lib.byteCells [sv N c 0, sv N c 1, sv N c 2, sv N c 3] := rfl
theorem and63 (m c : Nat) (hm : m < 16777216) : bits .and .i64 ((m : Int) / 2 ^ (6 * (3 - c))) 63 = ((m / 2 ^ (6 * (3 - c)) % 64 : Nat) : Int) := by
  have e : (m : Int) / 2 ^ (6 * (3 - c)) = ((m / 2 ^ (6 * (3 - c)) : Nat) : Int) := by simp
  rw [e]
  have hle : m / 2 ^ (6 * (3 - c)) ≤ m := Nat.div_le_self _ _
  obtain ⟨x, hx⟩ : ∃ x, m / 2 ^ (6 * (3 - c)) = x := ⟨_, rfl⟩
  rw [hx] at hle ⊢
  have ex : (BitVec.ofInt 64 (x : Int)).toNat = x := by rw [BitVec.ofInt_natCast, BitVec.toNat_ofNat]; exact Nat.mod_eq_of_lt (by omega)
  show IntKind.i64.wrap ((BitVec.ofInt 64 (x : Int) &&& BitVec.ofInt 64 (63 : Int)).toNat : Int) = _
  rw [BitVec.toNat_and, ex]
  have e63 : (BitVec.ofInt 64 (63 : Int)).toNat = 63 := by rfl
  rw [e63, nat_mask6, IntKind.wrap_i64]
  omega
theorem enc_signs_of {s : ByteArray} (h1 : 1 ≤ s.size) (h3 : s.size ≤ 3) : [sv (nb s.data.toList s.size) (s.size + 1) 0, sv (nb s.data.toList s.size) (s.size + 1) 1, sv (nb s.data.toList s.size) (s.size + 1) 2, sv (nb s.data.toList s.size) (s.size + 1) 3] = enc s.data.toList := by
  have hl : s.data.toList.length = s.size := by simp
  obtain ⟨l, hs⟩ : ∃ l, s.data.toList = l := ⟨_, rfl⟩
  rw [← hl, hs]
  rw [← hl, hs] at h1 h3
  have hz : (0 : UInt8).toNat = 0 := rfl
  match l, h1, h3 with
  | [a], _, _ =>
    have e : nb [a] 1 = n24 a 0 0 := by unfold n24; rw [hz]; show 65536 * a.toNat = _; omega
    have hn := n24_lt a 0 0
    show [sv (nb [a] 1) 2 0, sv (nb [a] 1) 2 1, 61, 61] = _
    rw [enc_one, e]
    unfold sv q0 q1
    rw [if_pos (by decide), if_pos (by decide)]
    congr 2
    · congr 1; omega
  | [a, b], _, _ =>
    have e : nb [a, b] 2 = n24 a b 0 := by unfold n24; rw [hz]; show 65536 * a.toNat + 256 * b.toNat = _; omega
    have hn := n24_lt a b 0
    show [sv (nb [a, b] 2) 3 0, sv (nb [a, b] 2) 3 1, sv (nb [a, b] 2) 3 2, 61] = _
    rw [enc_two, e]
    unfold sv q0 q1 q2
    rw [if_pos (by decide), if_pos (by decide), if_pos (by decide)]
    congr 2
    · congr 1; omega
  | [a, b, c], _, _ =>
    have e : nb [a, b, c] 3 = n24 a b c := rfl
    have hn := n24_lt a b c
    show [sv (nb [a, b, c] 3) 4 0, sv (nb [a, b, c] 3) 4 1, sv (nb [a, b, c] 3) 4 2, sv (nb [a, b, c] 3) 4 3] = _
    rw [enc_more, enc_nil, e]
    unfold sv q0 q1 q2 q3
    rw [if_pos (by decide), if_pos (by decide), if_pos (by decide), if_pos (by decide)]
    congr 2
    · congr 1; omega
    · simp

end Go.Proofs.Ytinbdibenbplnaa
namespace Go.Proofs.Ytinbdibenbplnaa
open Go.RowKit
set_option linter.unusedVariables false

/-- The number of signs, read from the left. -/
def fold64 (l : List UInt8) : Nat := l.foldl (fun n c => 64 * n + val c) 0
theorem fold64_add (l : List UInt8) (c : UInt8) : fold64 (l ++ [c]) = 64 * fold64 l + val c := by unfold fold64; rw [List.foldl_append]; rfl
theorem fold64_lt (l : List UInt8) : fold64 l < 64 ^ l.length := by
  have h : ∀ n, l.foldl (fun n c => 64 * n + val c) n < 64 ^ l.length * (n + 1) := by
    induction l with
    | nil => intro n; simp
    | cons a l ih =>
      intro n
      have h1 := ih (64 * n + val a)
      have h2 := val_lt a
      rw [List.foldl_cons, List.length_cons, Nat.pow_succ]
      refine Nat.lt_of_lt_of_le h1 ?_
      rw [Nat.mul_assoc]
      exact Nat.mul_le_mul_left _ (by omega)
  have := h 0
  simpa [fold64] using this
theorem fold64_four (a b c d : UInt8) : fold64 [a, b, c, d] = n4 a b c d := by unfold fold64 n4; simp
theorem max_val (c : UInt8) : max (valI c) 0 = (val c : Int) := by
  unfold valI val
  cases h : num c with
  | none => rfl
  | some n => simp
theorem valI_le (c : UInt8) : -1 ≤ valI c ∧ valI c ≤ 63 := by
  unfold valI
  cases h : num c with
  | none => simp
  | some n => have := (num_some h).1; simp; omega
theorem valI_or (c : UInt8) : valI c = (val c : Int) ∨ (valI c = -1 ∧ val c = 0) := by
  unfold valI val
  cases h : num c with
  | none => exact .inr ⟨rfl, rfl⟩
  | some n => exact .inl rfl
theorem drop4 {s : ByteArray} (k : Nat) (h : k + 4 ≤ s.size) : s.data.toList.drop k = s[k] :: s[k + 1] :: s[k + 2] :: s[k + 3] :: s.data.toList.drop (k + 4) := by
  rw [drop1 k (by omega), drop1 (k + 1) (by omega), drop1 (k + 2) (by omega), drop1 (k + 3) (by omega)]
theorem dl_short {t : List UInt8} (h : t.length < 4) : dl t = [] := by
  have := dl_len t
  exact List.eq_nil_of_length_eq_zero (by omega)
theorem ofNat_nat {n : Nat} (h : n < 256) : (UInt8.ofNat n).toNat = n := by rw [UInt8.toNat_ofNat']; exact Nat.mod_eq_of_lt h

end Go.Proofs.Ytinbdibenbplnaa
namespace Go.Proofs.Ytinbdibenbplnaa
open Go.RowKit
set_option linter.unusedVariables false

theorem index_letters : ∀ c : Fin 256, Lib.indexByte (⟨#[65, 66, 67, 68, 69, 70, 71, 72, 73, 74, 75, 76, 77, 78, 79, 80, 81, 82, 83, 84, 85, 86, 87, 88, 89, 90, 97, 98, 99, 100, 101, 102, 103, 104, 105, 106, 107, 108, 109, 110, 111, 112, 113, 114, 115, 116, 117, 118, 119, 120, 121, 122, 48, 49, 50, 51, 52, 53, 54, 55, 56, 57, 43, 47]⟩ : ByteArray).data.toList (UInt8.ofNat c.1) = valI (UInt8.ofNat c.1) := by decide +kernel
theorem valI_yes {c : UInt8} (h : (num c).isSome = true) : valI c = (val c : Int) := by
  rcases valI_or c with e | ⟨e, _⟩
  · exact e
  · unfold valI at e
    cases hn : num c with
    | none => rw [hn] at h; cases h
    | some n => rw [hn] at e; simp at e
theorem valI_not {c : UInt8} (h : (num c).isSome = false) : valI c = -1 := by
  unfold valI
  cases hn : num c with
  | none => rfl
  | some n => rw [hn] at h; cases h
theorem acc_join {s : ByteArray} {k : Nat} (h : k < s.size) (h3 : k ≤ 3) : bits .or .i64 ((acc s.data.toList k : Nat) : Int) (wrap64 ((val s[k] : Int) * 2 ^ (6 * (3 - k)))) = ((acc s.data.toList (k + 1) : Nat) : Int) := by
  have hb := val_lt s[k]
  have e := list_at h 61
  have hl := acc_lt s.data.toList k
  rcases (by omega : k = 0 ∨ k = 1 ∨ k = 2 ∨ k = 3) with rfl | rfl | rfl | rfl
  · have e1 : wrap64 ((val s[0] : Int) * 2 ^ (6 * (3 - 0))) = ((262144 * val s[0] : Nat) : Int) := by unfold wrap64; simp; omega
    rw [e1, or_join _ _ 24 (by omega) (by omega) (by omega) (by rfl), acc_step1, e]
  · have e1 : wrap64 ((val s[1] : Int) * 2 ^ (6 * (3 - 1))) = ((4096 * val s[1] : Nat) : Int) := by unfold wrap64; simp; omega
    rw [e1, or_join _ _ 18 (by omega) (by omega) (by omega) (acc_mod1 _), acc_step2, e]
  · have e1 : wrap64 ((val s[2] : Int) * 2 ^ (6 * (3 - 2))) = ((64 * val s[2] : Nat) : Int) := by unfold wrap64; simp; omega
    rw [e1, or_join _ _ 12 (by omega) (by omega) (by omega) (acc_mod2 _), acc_step3, e]
  · have e1 : wrap64 ((val s[3] : Int) * 2 ^ (6 * (3 - 3))) = ((val s[3] : Nat) : Int) := by unfold wrap64; simp; omega
    rw [e1, or_join _ _ 6 (by omega) (by omega) (by omega) (acc_mod3 _), acc_step4, e]
/-- The bytes of a group, of which 'd' are written. -/
def pv (m d j : Nat) : Int := if j < d then ((m : Int) / 2 ^ (8 * (2 - j))) % 256 else 0
def ps (m d : Nat) : Array Value := #[.int .u8 (pv m d 0), .int .u8 (pv m d 1), .int .u8 (pv m d 2)]
theorem ps_step (m d : Nat) (h : d ≤ 2) : (ps m d).setIfInBounds d (.int .u8 (((m : Int) / 2 ^ (8 * (2 - d))) % 256)) = ps m (d + 1) := by
  rcases (by omega : d = 0 ∨ d = 1 ∨ d = 2) with rfl | rfl | rfl <;> rfl
theorem ps_three (m j : Nat) (hm : m < 16777216) (hj : j < 3) : (ps m 3)[j]? = some (.int .u8 (((three m)[j]'hj).toNat : Int)) := by
  have h0 := ofNat_nat (n := m / 65536 % 256) (by omega)
  have h1 := ofNat_nat (n := m / 256 % 256) (by omega)
  have h2 := ofNat_nat (n := m % 256) (by omega)
  rcases (by omega : j = 0 ∨ j = 1 ∨ j = 2) with rfl | rfl | rfl
  · show some (Value.int .u8 ((m : Int) / 2 ^ (8 * (2 - 0)) % 256)) = some (Value.int .u8 ((UInt8.ofNat (m / 65536 % 256)).toNat : Int))
    rw [h0]
    congr 2
  · show some (Value.int .u8 ((m : Int) / 2 ^ (8 * (2 - 1)) % 256)) = some (Value.int .u8 ((UInt8.ofNat (m / 256 % 256)).toNat : Int))
    rw [h1]
    congr 2
  · show some (Value.int .u8 ((m : Int) / 2 ^ (8 * (2 - 2)) % 256)) = some (Value.int .u8 ((UInt8.ofNat (m % 256)).toNat : Int))
    rw [h2]
    congr 2
    omega
theorem ps_at (m d : Nat) (h : d ≤ 2) : (ps m d)[d]? = some (.int .u8 0) := by
  rcases (by omega : d = 0 ∨ d = 1 ∨ d = 2) with rfl | rfl | rfl <;> rfl

end Go.Proofs.Ytinbdibenbplnaa
namespace Go.Proofs.Ytinbdibenbplnaa
open Go.RowKit
set_option linter.unusedVariables false

theorem bt_of (v : ByteArray) : bt v.data.toList = v := by cases v; simp [bt]
theorem bt_eq {v : ByteArray} {l : List UInt8} (h : v.data.toList = l) : v = bt l := by rw [← h, bt_of]
theorem bt_list (l : List UInt8) : (bt l).data.toList = l := rfl
theorem bt_size (l : List UInt8) : (bt l).size = l.length := rfl
/-- A text is told. -/
def Says (w : World) (t : ByteArray) (e : Ending) (w' : World) : Prop := e = .returned (.string t) ∧ Below w.heap.size w w'
/-- What the encoder gives. -/
def encB (s : ByteArray) : ByteArray := if s.size ≤ 30 then bt (enc s.data.toList) else ⟨#[]⟩
theorem encB_yes {s : ByteArray} (h : s.size ≤ 30) : encB s = bt (enc s.data.toList) := by unfold encB; rw [if_pos h]
theorem encB_no {s : ByteArray} (h : ¬ s.size ≤ 30) : encB s = ⟨#[]⟩ := by unfold encB; rw [if_neg h]
theorem encB_le (s : ByteArray) : (encB s).size ≤ 40 := by
  by_cases h : s.size ≤ 30
  · rw [encB_yes h, bt_size, enc_len]
    have : s.data.toList.length = s.size := by simp
    omega
  · rw [encB_no h]; exact Nat.zero_le _
/-- Bytes and whether there are any are told. -/
def Gives (w : World) (x : ByteArray) (o : Bool) (e : Ending) (w' : World) : Prop := e = .returned (.tuple #[.string x, .bool o]) ∧ Below w.heap.size w w'
/-- What a decoder tells of a text. -/
def IsD (s : ByteArray) (o : Bool) (x : ByteArray) : Prop := Dec s.data.toList o x.data.toList
theorem isD_any (s : ByteArray) : ∃ o x, IsD s o x := by
  obtain ⟨o, x, h⟩ := dec_any s.data.toList
  exact ⟨o, bt x, h⟩
theorem isD_one {s x y : ByteArray} {o p : Bool} (h : IsD s o x) (k : IsD s p y) : o = p ∧ x = y := by
  obtain ⟨h1, h2⟩ := dec_one h k
  exact ⟨h1, by rw [← bt_of x, h2, bt_of]⟩
theorem isD_le {s x : ByteArray} {o : Bool} (h : IsD s o x) : x.size ≤ 30 := by
  have hl : x.data.toList.length = x.size := by simp
  cases o
  · have h0 : x.data.toList.length = 0 := by rw [(h.2 rfl).1]; rfl
    omega
  · have := (h.1 rfl).1
    omega
theorem gives_mk {w w' : World} {s x y : ByteArray} {o p : Bool} (h : IsD s o x) (k : IsD s p y) (hb : Below w.heap.size w w') : Gives w x o (.returned (.tuple #[.string y, .bool p])) w' := by
  obtain ⟨h1, h2⟩ := isD_one h k
  subst h1
  subst h2
  exact ⟨rfl, hb⟩
theorem isD_no {s : ByteArray} (h : Dec s.data.toList false []) : IsD s false ⟨#[]⟩ := h

end Go.Proofs.Ytinbdibenbplnaa
namespace Go.Proofs.Ytinbdibenbplnaa
open Go.RowKit Go.Shelf
set_option linter.unusedVariables false
attribute [local go_sem] Oper.semAt_some

theorem builder_kept {T e : TypeId} {B b : Nat} {bs : List Value} {W W' : World} {row : Option Nat} (h : Lib.IsBuilder T e B b bs W) (hg : W.grownBy W' row) (hr : ∀ r, row = some r → ∃ o : Obj, W.heap[r]? = some o ∧ o.isCells = false) : Lib.IsBuilder T e B b bs W' := by
  have one : ∀ p, Lib.BuilderAt T e B b p bs W → Lib.BuilderAt T e B b p bs W' := by
    rintro p ⟨hB, v, hb, hown, hne⟩
    have hlt : b < W.heap.size := (Array.getElem?_eq_some_iff.1 hb).1
    refine ⟨hB, v, ?_, ?_, hne⟩
    · rw [hg.block b hlt ?_]
      · exact hb
      · intro e
        obtain ⟨o, ho, hc⟩ := hr b e.symm
        rw [hb] at ho
        cases ho
        cases hc
    · refine hown.kept hg ?_
      cases hv : v.ownBlock with
      | none =>
        rcases hown.2 with ⟨rfl, _⟩ | ⟨g, cap, cur, rfl, _⟩
        · exact Or.inl rfl
        · simp [Value.ownBlock] at hv
      | some g =>
        refine Or.inr ?_
        intro e
        obtain ⟨o, ho, hc⟩ := hr g e.symm
        obtain ⟨c, fz, hh⟩ := Lib.ownsRowF_kind (World.ownsRowF_of hown) g hv
        rw [hh] at ho
        cases ho
        cases hc
  rcases h with h | h
  · exact .inl (one _ h)
  · exact .inr (one _ h)
theorem others_keep {e : TypeId} {b : Nat} {W W' : World} {t : TypeId} {cs : Array Value} (h : Lib.OthersKept e (some b) W W') (hw : Whole W b t cs) (hs : W.heap.size ≤ W'.heap.size) : KeepsOthers W W' :=
  ⟨hs, fun k o hk ho => h k o hk (by
    intro e
    cases e
    rw [show W.heap[b]? = _ from hw] at hk
    cases hk
    cases ho) (by
    intro c fz e
    subst e
    cases ho)⟩
theorem others_whole {e : TypeId} {b c : Nat} {W W' : World} {t : TypeId} {cs : Array Value} (h : Lib.OthersKept e (some b) W W') (hw : Whole W c t cs) (hc : c ≠ b) (ht : t ≠ e) : Whole W' c t cs :=
  h c _ hw (by intro e; cases e; exact hc rfl) (by intro c' fz e; cases e; exact ht rfl)
theorem Lib_byteCells_append (a b : List UInt8) : Lib.byteCells (a ++ b) = Lib.byteCells a ++ Lib.byteCells b := by simp [Lib.byteCells]
theorem str_cells (l : List UInt8) : Lib.strCells (bt l) = Lib.byteCells l := rfl
theorem builder_new {T e : TypeId} (w : World) : Lib.IsBuilder T e w.heap.size w.heap.size [] (w.alloc (.cells #[.pointer none, .slice none 0 0] T)) := Lib.fresh_isBuilder T e w

theorem whole_kept {W W' : World} {b : Nat} {t : TypeId} {cs : Array Value} {row : Option Nat} (h : Whole W b t cs) (hg : W.grownBy W' row) (hr : ∀ r, row = some r → ∃ o : Obj, W.heap[r]? = some o ∧ o.isCells = false) : Whole W' b t cs :=
  h.grown hg (fun e => by
    obtain ⟨o, ho, hc⟩ := hr b e.symm
    rw [show W.heap[b]? = _ from h] at ho
    cases ho
    cases hc)
theorem flat_len {n k : Nat} {f : List UInt8 → List UInt8} (hf : ∀ x : Gn n, (f x.1.data.toList).length ≤ k) (pre : List (Gn n)) : ((gl pre).flatMap f).length ≤ k * pre.length := by
  induction pre with
  | nil => simp [gl]
  | cons x t ih =>
    have := hf x
    show (f x.1.data.toList ++ (gl t).flatMap f).length ≤ _
    rw [List.length_append, List.length_cons, Nat.mul_add]
    omega
theorem toList_iff {x y : ByteArray} : x.toList = y.toList ↔ x = y := by
  rw [ByteArray.toList_eq, ByteArray.toList_eq]
  constructor
  · intro h; rw [← bt_of x, h, bt_of]
  · rintro rfl; rfl
theorem isD_same {s : ByteArray} (h : (encB (bt (dg s.data.toList))).toList = s.toList) : IsD s true (bt (dg s.data.toList)) := by
  rw [toList_iff] at h
  by_cases hl : (bt (dg s.data.toList)).size ≤ 30
  · rw [encB_yes hl] at h
    exact dg_same hl (by rw [bt_list] at h; rw [← bt_list (enc (dg s.data.toList)), h])
  · rw [encB_no hl] at h
    subst h
    exact absurd (show (bt (dg [])).size ≤ 30 by decide) hl
theorem isD_other {s : ByteArray} (h : ¬ (encB (bt (dg s.data.toList))).toList = s.toList) : IsD s false ⟨#[]⟩ := by
  refine isD_no (dg_other (fun hl he => h ?_))
  rw [toList_iff, encB_yes (by rw [bt_size]; exact hl), bt_list, he, bt_of]
end Go.Proofs.Ytinbdibenbplnaa
namespace Go.Proofs.Ytinbdibenbplnaa
open Go.RowKit
set_option linter.unusedVariables false

/-- The text of a proof. -/
def mkB (u p : ByteArray) : ByteArray := bt (mk u.data.toList p.data.toList)
theorem zero_cat (u p : ByteArray) : ((⟨#[0]⟩ : ByteArray) ++ u ++ ⟨#[0]⟩ ++ p).data.toList = two0 u.data.toList p.data.toList := by
  unfold two0
  rw [cat_list, cat_list, cat_list]
  simp
theorem zero_size (u p : ByteArray) : ((⟨#[0]⟩ : ByteArray) ++ u ++ ⟨#[0]⟩ ++ p).size = u.size + p.size + 2 := by
  rw [ByteArray.size_append, ByteArray.size_append, ByteArray.size_append, one_size]
  omega
theorem name_size {u : ByteArray} (h : nameB u.data.toList = true) : u.size ≤ 8 := by
  have h1 := (nameB_iff.1 h).2.2
  have hl : u.data.toList.length = u.size := by simp
  omega
theorem mkB_yes {u p : ByteArray} (hu : nameB u.data.toList = true) (hp : nameB p.data.toList = true) : encB ((⟨#[0]⟩ : ByteArray) ++ u ++ ⟨#[0]⟩ ++ p) = mkB u p := by
  have h1 := name_size hu
  have h2 := name_size hp
  rw [encB_yes (by rw [zero_size]; omega), zero_cat]
  unfold mkB
  rw [mk_yes hu hp]
theorem mkB_yes' {u p : ByteArray} (hu : nameB u.data.toList = true) (hp : nameB p.data.toList = true) : bt (enc ((⟨#[0]⟩ : ByteArray) ++ u ++ ⟨#[0]⟩ ++ p).data.toList) = mkB u p := by
  have h1 := name_size hu
  have h2 := name_size hp
  rw [← mkB_yes hu hp, encB_yes (by rw [zero_size]; omega)]
theorem mkB_no {u p : ByteArray} (h : (nameB u.data.toList && nameB p.data.toList) = false) : mkB u p = ⟨#[]⟩ := by
  unfold mkB
  rw [mk_no h]
  rfl
theorem mkB_le (u p : ByteArray) : (mkB u p).size ≤ 24 := by
  unfold mkB
  rw [bt_size]
  unfold mk
  split
  · rename_i h
    rw [Bool.and_eq_true] at h
    have h1 := name_size h.1
    have h2 := name_size h.2
    rw [enc_len, ← zero_cat]
    have hl : ∀ v : ByteArray, v.data.toList.length = v.size := fun v => by simp
    rw [hl, zero_size]
    omega
  · exact Nat.zero_le _

end Go.Proofs.Ytinbdibenbplnaa
namespace Go.Proofs.Ytinbdibenbplnaa
open Go.RowKit
set_option linter.unusedVariables false

/-- What a reader of proofs tells. -/
def IsPP (s : ByteArray) (o : Bool) (u p : ByteArray) : Prop := PP s.data.toList o u.data.toList p.data.toList
theorem isPP_any (s : ByteArray) : ∃ o u p, IsPP s o u p := by
  obtain ⟨o, u, p, h⟩ := pp_any s.data.toList
  exact ⟨o, bt u, bt p, h⟩
theorem isPP_one {s u p v q : ByteArray} {o r : Bool} (h : IsPP s o u p) (k : IsPP s r v q) : o = r ∧ u = v ∧ p = q := by
  obtain ⟨h1, h2, h3⟩ := pp_one h k
  exact ⟨h1, by rw [← bt_of u, h2, bt_of], by rw [← bt_of p, h3, bt_of]⟩
def Gives3 (w : World) (u p : ByteArray) (o : Bool) (e : Ending) (w' : World) : Prop := e = .returned (.tuple #[.string u, .string p, .bool o]) ∧ Below w.heap.size w w'
theorem gives3_mk {w w' : World} {s u p v q : ByteArray} {o r : Bool} (h : IsPP s o u p) (k : IsPP s r v q) (hb : Below w.heap.size w w') : Gives3 w u p o (.returned (.tuple #[.string v, .string q, .bool r])) w' := by
  obtain ⟨h1, h2, h3⟩ := isPP_one h k
  subst h1
  subst h2
  subst h3
  exact ⟨rfl, hb⟩
theorem isPP_fail {s x : ByteArray} (hd : IsD s true x) (h : ¬ Reads x.data.toList) : IsPP s false ⟨#[]⟩ ⟨#[]⟩ := pp_fails hd h
theorem isPP_off {s x : ByteArray} (hd : IsD s false x) : IsPP s false ⟨#[]⟩ ⟨#[]⟩ := pp_off hd

end Go.Proofs.Ytinbdibenbplnaa
namespace Go.Proofs.Ytinbdibenbplnaa
set_option linter.unusedVariables false

/-- A user: a name, a password, a quota. -/
abbrev Us := ByteArray × ByteArray × Int
/-- The name of everybody. -/
def evB : ByteArray := ⟨#[97, 110, 121, 111, 110, 101]⟩
/-- A valid user. -/
def okU (u : Us) : Bool := nameB (kb u.1) && (!(kb u.1 == kb evB) && (nameB (kb u.2.1) && (decide (0 ≤ u.2.2) && decide (u.2.2 ≤ 200))))
def ascU (L : List Us) : Prop := L.Pairwise fun a b => ltG a.1 b.1 = true
instance (L : List Us) : Decidable (ascU L) := by unfold ascU; infer_instance
/-- Valid users. -/
def vU (L : List Us) : Bool := (decide (1 ≤ L.length) && decide (L.length ≤ 4)) && (L.all okU && decide (ascU L))
theorem vU_iff {L : List Us} : vU L = true ↔ (1 ≤ L.length ∧ L.length ≤ 4) ∧ (∀ g ∈ L, okU g = true) ∧ ascU L := by
  unfold vU
  simp [List.all_eq_true]
theorem vU_long {L : List Us} (h : ¬ (1 ≤ L.length ∧ L.length ≤ 4)) : vU L = false := by
  cases hv : vU L with
  | false => rfl
  | true => exact absurd (vU_iff.1 hv).1 h
/-- The first users are valid. -/
def goodU (L : List Us) (k : Nat) : Prop := (∀ g ∈ L.take k, okU g = true) ∧ ascU (L.take k)
theorem goodU_zero (L : List Us) : goodU L 0 := ⟨fun g hg => by simp at hg, by unfold ascU; simp⟩
theorem goodU_all {L : List Us} {k : Nat} (h : goodU L k) (hk : L.length ≤ k) : vU L = (decide (1 ≤ L.length) && decide (L.length ≤ 4)) := by
  unfold goodU at h
  rw [List.take_of_length_le hk] at h
  by_cases h4 : 1 ≤ L.length ∧ L.length ≤ 4
  · rw [decide_eq_true h4.1, decide_eq_true h4.2]
    exact vU_iff.2 ⟨h4, h⟩
  · rw [vU_long h4]
    symm
    rw [Bool.and_eq_false_iff]
    by_cases h1 : 1 ≤ L.length
    · exact .inr (decide_eq_false fun h2 => h4 ⟨h1, h2⟩)
    · exact .inl (decide_eq_false h1)
theorem goodU_first {L : List Us} {g : Us} (hg : L[0]? = some g) (ho : okU g = true) : goodU L 1 := by
  unfold goodU
  rw [tsnoc hg, List.take_zero]
  exact ⟨fun x hx => by simp at hx; rw [hx]; exact ho, by unfold ascU; simp⟩
theorem goodU_next {L : List Us} {k : Nat} {p g : Us} (h : goodU L (k + 1)) (hp : L[k]? = some p) (hg : L[k + 1]? = some g) (ho : okU g = true) (hl : ltG p.1 g.1 = true) : goodU L (k + 1 + 1) := by
  unfold goodU at *
  rw [tsnoc hg]
  rw [tsnoc hp] at h ⊢
  refine ⟨fun x hx => ?_, ?_⟩
  · rcases List.mem_append.1 hx with h1 | h1
    · exact h.1 x h1
    · simp at h1
      rw [h1]
      exact ho
  · unfold ascU at *
    rw [List.pairwise_append]
    refine ⟨h.2, by simp, fun a ha b hb => ?_⟩
    simp at hb
    subst hb
    rcases List.mem_append.1 ha with h1 | h1
    · exact ltG_trans ((List.pairwise_append.1 h.2).2.2 a h1 p (by simp)) hl
    · simp at h1
      rw [h1]
      exact hl
theorem vU_bad {L : List Us} {k : Nat} {g : Us} (hg : L[k]? = some g) (ho : okU g = false) : vU L = false := by
  cases hv : vU L with
  | false => rfl
  | true => have := (vU_iff.1 hv).2.1 g (List.mem_of_getElem? hg); rw [ho] at this; cases this
theorem vU_order {L : List Us} {k : Nat} {p g : Us} (hp : L[k]? = some p) (hg : L[k + 1]? = some g) (hl : ltG p.1 g.1 = false) : vU L = false := by
  cases hv : vU L with
  | false => rfl
  | true =>
    have h3 := (vU_iff.1 hv).2.2
    have hk := (List.getElem?_eq_some_iff.1 hp)
    have hk1 := (List.getElem?_eq_some_iff.1 hg)
    have := List.pairwise_iff_getElem.1 h3 k (k + 1) hk.1 hk1.1 (by omega)
    rw [hk.2, hk1.2, hl] at this
    cases this

/-- The place of the first user with a name, counted from 'k', or -1. -/
def ixG : List Us → ByteArray → Nat → Int
  | [], _, _ => -1
  | u :: L, n, k => if kb u.1 = kb n then (k : Int) else ixG L n (k + 1)
/-- The user with a name. -/
def fU (L : List Us) (n : ByteArray) : Option Us := L.find? fun u => kb u.1 == kb n
def noU : Us := (⟨#[]⟩, ⟨#[]⟩, 0)
/-- What UsersFind answers. -/
def usF (L : List Us) (n : ByteArray) : Us × Bool := if vU L then (match fU L n with | some u => (u, true) | none => (noU, false)) else (noU, false)
/-- What UsersProve answers. -/
def prU (L : List Us) (n p : ByteArray) : Bool := (usF L n).2 && (kb (usF L n).1.2.1 == kb p)
/-- What UsersPlain answers, if PlainParse of the text is 'n', 'p', 'o'. -/
def upU (L : List Us) (n p : ByteArray) (o : Bool) : ByteArray × Bool := if o && prU L n p then (n, true) else (⟨#[]⟩, false)

theorem fU_skip {L : List Us} {k : Nat} {u : Us} {n : ByteArray} (hx : L[k]? = some u) (hne : u.1 ≠ n) : fU (L.drop k) n = fU (L.drop (k + 1)) n := by
  obtain ⟨hk, rfl⟩ := List.getElem?_eq_some_iff.1 hx
  unfold fU
  rw [List.drop_eq_getElem_cons hk, List.find?_cons, ne_kb hne]
theorem fU_here {L : List Us} {k : Nat} {u : Us} (hx : L[k]? = some u) : fU (L.drop k) u.1 = some u := by
  obtain ⟨hk, rfl⟩ := List.getElem?_eq_some_iff.1 hx
  unfold fU
  rw [List.drop_eq_getElem_cons hk, List.find?_cons, show (kb L[k].1 == kb L[k].1) = true by simp]
/-- What findBy answers. -/
def fuF (L : List Us) (n : ByteArray) : Us × Bool := match fU L n with | some u => (u, true) | none => (noU, false)
theorem usF_fu (L : List Us) (n : ByteArray) : usF L n = if vU L then fuF L n else (noU, false) := rfl
theorem fuF_skip {L : List Us} {k : Nat} {u : Us} {n : ByteArray} (hx : L[k]? = some u) (hne : u.1 ≠ n) : fuF (L.drop k) n = fuF (L.drop (k + 1)) n := by unfold fuF; rw [fU_skip hx hne]
theorem fuF_here {L : List Us} {k : Nat} {u : Us} (hx : L[k]? = some u) : fuF (L.drop k) u.1 = (u, true) := by unfold fuF; rw [fU_here hx]
theorem ixG_skip {L : List Us} {k : Nat} {u : Us} {n : ByteArray} (hx : L[k]? = some u) (hne : u.1 ≠ n) : ixG (L.drop k) n k = ixG (L.drop (k + 1)) n (k + 1) := by
  obtain ⟨hk, rfl⟩ := List.getElem?_eq_some_iff.1 hx
  rw [List.drop_eq_getElem_cons hk, ixG, if_neg (fun e => hne (kb_inj e))]
theorem ixG_here {L : List Us} {k : Nat} {u : Us} (hx : L[k]? = some u) : ixG (L.drop k) u.1 k = (k : Int) := by
  obtain ⟨hk, rfl⟩ := List.getElem?_eq_some_iff.1 hx
  rw [List.drop_eq_getElem_cons hk, ixG, if_pos rfl]
theorem ixG_case : ∀ (L : List Us) (n : ByteArray) (k : Nat), (fU L n = none ∧ ixG L n k = -1) ∨ ∃ j u, L[j]? = some u ∧ fU L n = some u ∧ ixG L n k = ((k + j : Nat) : Int)
  | [], n, k => .inl ⟨rfl, rfl⟩
  | a :: L, n, k => by
    by_cases h : a.1 = n
    · refine .inr ⟨0, a, rfl, ?_, ?_⟩
      · unfold fU; rw [List.find?_cons, h]; simp
      · rw [ixG, if_pos (by rw [h])]; rfl
    · have e1 : fU (a :: L) n = fU L n := by unfold fU; rw [List.find?_cons, ne_kb h]
      have e2 : ixG (a :: L) n k = ixG L n (k + 1) := by rw [ixG, if_neg (fun e => h (kb_inj e))]
      rcases ixG_case L n (k + 1) with ⟨h1, h2⟩ | ⟨j, u, h1, h2, h3⟩
      · exact .inl ⟨e1.trans h1, e2.trans h2⟩
      · exact .inr ⟨j + 1, u, h1, e1.trans h2, e2.trans (h3.trans (by omega))⟩
theorem fU_some {L : List Us} {n : ByteArray} {u : Us} (h : fU L n = some u) : u ∈ L ∧ u.1 = n := by
  unfold fU at h
  refine ⟨List.mem_of_find?_eq_some h, kb_inj ?_⟩
  have := List.find?_some h
  simpa using this
theorem fU_mem {L : List Us} (ha : ascU L) {u : Us} (hu : u ∈ L) : fU L u.1 = some u := by
  induction L with
  | nil => cases hu
  | cons a L ih =>
    unfold ascU at ha
    rw [List.pairwise_cons] at ha
    unfold fU at ih ⊢
    rw [List.find?_cons]
    rcases List.mem_cons.1 hu with rfl | h
    · rw [show (kb u.1 == kb u.1) = true by simp]
    · rw [ne_kb (ltG_ne (ha.1 u h))]
      exact ih ha.2 h
theorem usF_no {L : List Us} (n : ByteArray) (h : vU L = false) : usF L n = (noU, false) := by unfold usF; rw [h]; rfl
theorem usF_yes {L : List Us} {n : ByteArray} {u : Us} (h : vU L = true) (hf : fU L n = some u) : usF L n = (u, true) := by unfold usF; rw [h, hf]; rfl
theorem usF_none {L : List Us} {n : ByteArray} (h : vU L = true) (hf : fU L n = none) : usF L n = (noU, false) := by unfold usF; rw [h, hf]; rfl
theorem usF_true {L : List Us} {n : ByteArray} {u : Us} (h : usF L n = (u, true)) : vU L = true ∧ fU L n = some u ∧ u ∈ L ∧ u.1 = n ∧ okU u = true := by
  cases hv : vU L with
  | false => rw [usF_no n hv] at h; cases h
  | true =>
    cases hf : fU L n with
    | none => rw [usF_none hv hf] at h; cases h
    | some v =>
      rw [usF_yes hv hf] at h
      cases h
      obtain ⟨h1, h2⟩ := fU_some hf
      exact ⟨rfl, rfl, h1, h2, (vU_iff.1 hv).2.1 u h1⟩
theorem usF_false {L : List Us} {n : ByteArray} {u : Us} (h : usF L n = (u, false)) : u = noU := by
  cases hv : vU L with
  | false => rw [usF_no n hv] at h; cases h; rfl
  | true =>
    cases hf : fU L n with
    | none => rw [usF_none hv hf] at h; cases h; rfl
    | some v => rw [usF_yes hv hf] at h; cases h
theorem okU_parts {u : Us} (h : okU u = true) : nameB (kb u.1) = true ∧ u.1 ≠ evB ∧ nameB (kb u.2.1) = true ∧ 0 ≤ u.2.2 ∧ u.2.2 ≤ 200 := by
  unfold okU at h
  simp at h
  exact ⟨h.1, fun e => h.2.1 (by rw [e]), h.2.2.1, h.2.2.2.1, h.2.2.2.2⟩
theorem usF_ev (L : List Us) : usF L evB = (noU, false) := by
  cases hu : usF L evB with
  | mk u z =>
    cases z with
    | false => rw [usF_false hu]
    | true =>
      obtain ⟨_, _, _, h1, h2⟩ := usF_true hu
      exact absurd h1 (okU_parts h2).2.1
theorem prU_true {L : List Us} {n p : ByteArray} (h : prU L n p = true) : ∃ q : Int, usF L n = ((n, p, q), true) ∧ nameB (kb n) = true ∧ nameB (kb p) = true := by
  unfold prU at h
  cases hu : usF L n with
  | mk u z =>
    rw [hu] at h
    simp only [Bool.and_eq_true] at h
    obtain ⟨h1, h2⟩ := h
    subst h1
    obtain ⟨_, _, _, h3, h4⟩ := usF_true hu
    obtain ⟨u1, u2, q⟩ := u
    obtain rfl : u1 = n := h3
    obtain rfl : u2 = p := kb_inj (by simpa using h2)
    have h5 := okU_parts h4
    exact ⟨q, rfl, h5.1, h5.2.2.1⟩
theorem prU_other {L : List Us} {n p p' : ByteArray} (h : prU L n p = true) (hne : p' ≠ p) : prU L n p' = false := by
  obtain ⟨q, h1, _⟩ := prU_true h
  unfold prU
  rw [h1]
  exact ne_kb (fun e => hne e.symm)
theorem prU_is {L : List Us} {n p : ByteArray} {u : Us} {z : Bool} (h : usF L n = (u, z)) : prU L n p = (z && (kb u.2.1 == kb p)) := by unfold prU; rw [h]
theorem prU_nil {L : List Us} {n p : ByteArray} (h : prU L n p = true) : prU L n ⟨#[]⟩ = false := by
  refine prU_other h ?_
  rintro rfl
  obtain ⟨_, _, _, h3⟩ := prU_true h
  exact absurd h3 (by decide)
theorem prU_more {L : List Us} {n p : ByteArray} (h : prU L n p = true) : prU L n (p ++ ⟨#[97]⟩) = false := by
  refine prU_other h ?_
  intro e
  have := congrArg ByteArray.size e
  rw [ByteArray.size_append] at this
  have h2 : (⟨#[97]⟩ : ByteArray).size = 1 := rfl
  omega
/-- A proof that was made of a name and a password tells them, or nothing if one is none. -/
theorem up_made {L : List Us} {n p v q t : ByteArray} {o : Bool} (hm : mkB n p = t) (hp : IsPP t o v q) : upU L v q o = if prU L n p then (n, true) else (⟨#[]⟩, false) := by
  cases hr : prU L n p with
  | true =>
    obtain ⟨_, _, h2, h3⟩ := prU_true hr
    have hq : IsPP t true n p := by
      rw [← hm]
      exact pp_mk (by rw [mk_yes (u := n.data.toList) (p := p.data.toList) h2 h3]; exact enc_ne (by unfold two0; simp))
    obtain ⟨h4, h5, h6⟩ := isPP_one hp hq
    subst h4 h5 h6
    unfold upU
    rw [hr]
    rfl
  | false =>
    unfold upU
    cases o with
    | false => rfl
    | true =>
      cases hv : prU L v q with
      | false => rfl
      | true =>
        exfalso
        obtain ⟨_, _, h2, h3⟩ := prU_true hv
        have h1 : mk v.data.toList q.data.toList = t.data.toList := mk_pp hp
        have hne : mk n.data.toList p.data.toList ≠ [] := by
          intro e
          have h4 : t.data.toList = [] := by rw [← hm]; unfold mkB; rw [e]; rfl
          rw [h4] at h1
          rw [mk_yes (u := v.data.toList) (p := q.data.toList) h2 h3] at h1
          exact enc_ne (by unfold two0; simp) h1
        have hq : IsPP t true n p := by
          rw [← hm]
          exact pp_mk hne
        obtain ⟨_, h5, h6⟩ := isPP_one hp hq
        subst h5 h6
        rw [hr] at hv
        cases hv
end Go.Proofs.Ytinbdibenbplnaa
namespace Go.Proofs.Ytinbdibenbplnaa
open Go.RowKit
set_option linter.unusedVariables false

def rB (l : List UInt8) : ByteArray := ⟨l.toArray⟩
theorem rB_list (l : List UInt8) : (rB l).data.toList = l := by unfold rB; simp
theorem rB_size (l : List UInt8) : (rB l).size = l.length := by unfold rB; rw [ByteArray.size]; simp
theorem rB_ext {u v : ByteArray} (h : u.data.toList = v.data.toList) : u = v := by
  cases u
  cases v
  congr
  exact Array.toList_inj.1 h
theorem rB_cat (a b : List UInt8) : rB a ++ rB b = rB (a ++ b) := by
  refine rB_ext ?_
  rw [ByteArray.data_append, Array.toList_append, rB_list, rB_list, rB_list]
theorem rB_of (s : ByteArray) : rB s.data.toList = s := rB_ext (rB_list _)
/-- Numbers, truths and texts that are told. -/
def SayI (w : World) (z : Int) (e : Ending) (w' : World) : Prop := e = .returned (.int .i64 z) ∧ Below w.heap.size w w'
def SayT (w : World) (l : List UInt8) (e : Ending) (w' : World) : Prop := e = .returned (.string (rB l)) ∧ Below w.heap.size w w'
def SayB (w : World) (z : Bool) (e : Ending) (w' : World) : Prop := e = .returned (.bool z) ∧ Below w.heap.size w w'
theorem ret_bl {a b : Bool} (h : a = b) : Ending.returned (.bool a) = .returned (.bool b) := by rw [h]
theorem ret_st {a b : ByteArray} (h : a = b) : Ending.returned (.string a) = .returned (.string b) := by rw [h]
set_option maxHeartbeats 400000 in
theorem spec_inr (n a b : Int) (w : World) : Calls Try.prog 58 #[.int .i64 n, .int .i64 a, .int .i64 b] w fun e w' => e = .returned (.bool (decide (a ≤ n) && decide (n ≤ b))) ∧ w' = w := by
  by_cases h1 : a ≤ n <;> by_cases h2 : n ≤ b
  all_goals
    have h1' := h1
    go_enter Try.func58, Try.ntmps58
    go_wp2
    go_ret
    refine ⟨ret_bl ?_, rfl⟩
    first
      | exact (Bool.and_eq_true_iff.2 ⟨decide_eq_true (by omega), decide_eq_true (by omega)⟩).symm
      | exact (decide_eq_false (by omega)).symm
      | exact (decide_eq_true (by omega)).symm
      | (rw [decide_eq_false (p := a ≤ n) (by omega)]; done)
      | (rw [decide_eq_false (p := a ≤ n) (by omega)]; rfl)
      | (rw [decide_eq_false (p := n ≤ b) (by omega)]; simp)
theorem says_b {w w' : World} {o p : Bool} (h : o = p) (hb : Below w.heap.size w w') : SayB w o (.returned (.bool p)) w' := ⟨by rw [h], hb⟩
theorem ret_i {a b : Int} (h : a = b) : Ending.returned (.int .i64 a) = .returned (.int .i64 b) := by rw [h]
theorem sname_at {u : ByteArray} {z : Bool} (h : nameB (kb u) = z) (hu : u.size ≤ 16777216) (w : World) : Calls Try.prog 49 #[.string u] w fun e w' => e = .returned (.bool z) ∧ w' = w := by
  subst h
  exact (spec_name u w hu).mono fun e w' h => ⟨h.1, h.2.symm⟩
theorem sin_at {r a b : Int} {z : Bool} (h : (decide (a ≤ r) && decide (r ≤ b)) = z) (w : World) : Calls Try.prog 58 #[.int .i64 r, .int .i64 a, .int .i64 b] w fun e w' => e = .returned (.bool z) ∧ w' = w := by
  subst h
  exact spec_inr r a b w
theorem iname_at {u : ByteArray} {z : Bool} (h : nameB (kb u) = z) (hu : u.size ≤ 16777216) (w : World) : Calls Try.prog 47 #[.string u] w (SayB w z) := by
  subst h
  exact impl_name u w hu
theorem rd_far {w w' : World} {b p : Nat} {row : Option Nat} (h : Rd w b p) (hg : w.grownBy w' row) (hne : ∀ g, row = some g → b < g) : Rd w' b p := by
  cases row with
  | none =>
    obtain ⟨A, len, cap, hW, hB⟩ := h
    have hl := hW.lt
    exact ⟨A, len, cap, hW.grown hg (by simp), hB.kept fun q hq => World.cell?_of_block (hg.block q.block (by omega) (by simp))⟩
  | some g => exact h.grown hg (hne g rfl)
theorem gr_far {w a c : World} {b : Nat} {row : Option Nat} (h : w.grownBy a (some b)) (hg : a.grownBy c row) (hrow : ∀ g, row = some g → w.heap.size ≤ g) : w.grownBy c (some b) :=
  ⟨hg.os.trans h.os, hg.tape.trans h.tape, hg.output.trans h.output, Nat.le_trans h.size hg.size, fun i hi hne => (hg.block i (Nat.lt_of_lt_of_le hi h.size) (fun e => by have := hrow i e.symm; omega)).trans (h.block i hi hne)⟩
theorem rat_far {α : Type} {R : RowT α} {w0 w w' : World} {A : Option Addr} {L : List α} {row : Option Nat} (h0 : RAt R w0 A L) (h : RAt R w A L) (hg : w.grownBy w' row) (hrow : ∀ g, row = some g → w0.heap.size ≤ g) : RAt R w' A L := fun i x hx => by
  obtain ⟨b, o, hA, hb, h1⟩ := h i x hx
  obtain ⟨b', o', hA', hb', _⟩ := h0 i x hx
  rw [hA] at hA'
  cases hA'
  exact ⟨b, o, hA, Nat.lt_of_lt_of_le hb hg.size, fun j u hu => (World.cell?_of_block (hg.block b hb (fun e => by have := hrow b e.symm; omega))).trans (h1 j u hu)⟩
theorem below_far {w0 w w' : World} {row : Option Nat} (h : Below w0.heap.size w0 w) (hg : w.grownBy w' row) (hrow : ∀ g, row = some g → w0.heap.size ≤ g) : Below w0.heap.size w0 w' := h.grown hg h.size hrow
end Go.Proofs.Ytinbdibenbplnaa
namespace Go.Proofs.Ytinbdibenbplnaa
open Go.RowKit
set_option linter.unusedVariables false

/-- The bytes 'l' as a text. -/
def bs (l : List UInt8) : ByteArray := ⟨l.toArray⟩
theorem bs_of (v : ByteArray) : bs v.data.toList = v := by cases v; simp [bs]
theorem bs_eq {v : ByteArray} {l : List UInt8} (h : v.data.toList = l) : v = bs l := by rw [← h, bs_of]
theorem bs_list (l : List UInt8) : (bs l).data.toList = l := rfl
theorem bs_size (l : List UInt8) : (bs l).size = l.length := rfl
/-- What a parser leaves. -/
def Gave (w : World) (ok : Bool) (u d : ByteArray) (e : Ending) (w' : World) : Prop :=
  e = .returned (.tuple #[.agg #[.string u, .string d], .bool ok]) ∧ Below w.heap.size w w'
theorem gave_of {w w' : World} {ok : Bool} {U D : List UInt8} {e : Ending} {u d : ByteArray} (h : Parsed w ok U D e w') (hy : ok = true → u = bs U ∧ d = bs D) (hn : ok = false → u = ⟨#[]⟩ ∧ d = ⟨#[]⟩) : Gave w ok u d e w' := by
  obtain ⟨u', d', he, h1, h2, hb⟩ := h
  refine ⟨?_, hb⟩
  rw [he]
  cases hok : ok
  · obtain ⟨e1, e2⟩ := h2 hok
    obtain ⟨e3, e4⟩ := hn hok
    rw [e1, e2, e3, e4]
  · obtain ⟨e1, e2⟩ := h1 hok
    obtain ⟨e3, e4⟩ := hy hok
    rw [e3, e4, bs_eq e1, bs_eq e2]
theorem gave_ad {L : List UInt8} {w w' : World} {e : Ending} (h : Parsed w (spB L) ((two L).getD 0 []) ((two L).getD 1 []) e w') : Gave w (spB L) (bs (pU L)) (bs (pD L)) e w' :=
  gave_of h (fun h => by unfold pU pD; rw [if_pos h, if_pos h]; exact ⟨rfl, rfl⟩) (fun h => by rw [pU_no h, pD_no h]; exact ⟨rfl, rfl⟩)
theorem pU_size (s : ByteArray) : (bs (pU s.data.toList)).size ≤ s.size := by
  have := pU_le s.data.toList
  rw [bs_size]
  simpa using this
theorem pD_size (s : ByteArray) : (bs (pD s.data.toList)).size ≤ s.size := by
  have := pD_le s.data.toList
  rw [bs_size]
  simpa using this

/-- What a writer leaves. -/
def Told (w : World) (t : ByteArray) (e : Ending) (w' : World) : Prop := e = .returned (.string t) ∧ Below w.heap.size w w'
theorem told_of {w w' : World} {L : List UInt8} {e : Ending} (h : Wrote w L e w') : Told w (bs L) e w' := by
  obtain ⟨v, h1, h2, h3⟩ := h
  exact ⟨by rw [h2, bs_eq h1], h3⟩
/-- The text of an address. -/
def adT (u d : ByteArray) : ByteArray := bs (adText u.data.toList d.data.toList)
theorem adT_le (u d : ByteArray) : (adT u d).size ≤ 29 := by
  unfold adT
  rw [bs_size]
  cases h : (nameB u.data.toList && domB d.data.toList)
  · rw [adText_no h]; simp
  · rw [adText_yes h]
    rw [Bool.and_eq_true] at h
    have h1 := (nameB_iff.1 h.1).2.2
    have h2 := dom_len h.2
    simp only [List.length_append, List.length_cons]
    omega

theorem gave_path {L : List UInt8} {w w' : World} {e : Ending} (h : Parsed w (ppA L) (pathU L) (pathD L) e w') : Gave w (spP L) (bs (qU L)) (bs (qD L)) e w' := by
  obtain ⟨h1, h2⟩ := pa_eq L
  have h3 := gave_of (u := bs (qU L)) (d := bs (qD L)) h (fun h => by rw [(h2 h).1, (h2 h).2]; exact ⟨rfl, rfl⟩) (fun h => by rw [h1] at h; obtain ⟨e1, e2⟩ := q_no h; rw [e1, e2]; exact ⟨rfl, rfl⟩)
  rw [h1] at h3
  exact h3
theorem qU_size (s : ByteArray) : (bs (qU s.data.toList)).size ≤ s.size := by
  have := (q_le s.data.toList).1
  rw [bs_size]
  simpa using this
theorem qD_size (s : ByteArray) : (bs (qD s.data.toList)).size ≤ s.size := by
  have := (q_le s.data.toList).2
  rw [bs_size]
  simpa using this

/-- A text and what its reading tells. -/
def Is (s : ByteArray) (o : Bool) (u d : ByteArray) : Prop := spB s.data.toList = o ∧ bs (pU s.data.toList) = u ∧ bs (pD s.data.toList) = d
theorem read_any (s : ByteArray) : ∃ o u d, Is s o u d ∧ u.size ≤ s.size ∧ d.size ≤ s.size := ⟨_, _, _, ⟨rfl, rfl, rfl⟩, pU_size s, pD_size s⟩
/-- A path and what its reading tells. -/
def IsP (s : ByteArray) (o : Bool) (u d : ByteArray) : Prop := spP s.data.toList = o ∧ bs (qU s.data.toList) = u ∧ bs (qD s.data.toList) = d
theorem readP_any (s : ByteArray) : ∃ o u d, IsP s o u d ∧ u.size ≤ s.size ∧ d.size ≤ s.size := ⟨_, _, _, ⟨rfl, rfl, rfl⟩, qU_size s, qD_size s⟩
end Go.Proofs.Ytinbdibenbplnaa
namespace Go.Proofs.Ytinbdibenbplnaa
open Go.RowKit
set_option linter.unusedVariables false

theorem gave_mk {w w' : World} {ok ok' : Bool} {u u' d d' : ByteArray} (h1 : ok = ok') (h2 : u = u') (h3 : d = d') (hb : Below w.heap.size w w') : Gave w ok u d (.returned (.tuple #[.agg #[.string u', .string d'], .bool ok'])) w' := by
  subst h1
  subst h2
  subst h3
  exact ⟨rfl, hb⟩
theorem q_bare {L : List UInt8} (h : L = bare) : spP L = true ∧ bs (qU L) = ⟨#[]⟩ ∧ bs (qD L) = ⟨#[]⟩ := by
  unfold spP qU qD
  rw [decide_eq_true h, if_pos h, if_pos h]
  exact ⟨rfl, rfl, rfl⟩
theorem q_off {L : List UInt8} (h : ¬ L = bare) (hr : brB L = false) : spP L = false ∧ bs (qU L) = ⟨#[]⟩ ∧ bs (qD L) = ⟨#[]⟩ := by
  have hs : spP L = false := by unfold spP; rw [decide_eq_false h, hr]; rfl
  obtain ⟨e1, e2⟩ := q_no hs
  rw [e1, e2]
  exact ⟨hs, rfl, rfl⟩
theorem q_in {L : List UInt8} (h : ¬ L = bare) (hr : brB L = true) : spP L = spB (mid L) ∧ qU L = pU (mid L) ∧ qD L = pD (mid L) := by
  unfold spP qU qD
  rw [decide_eq_false h, hr, if_neg h, if_neg h, if_pos rfl, if_pos rfl]
  exact ⟨rfl, rfl, rfl⟩
theorem next_at {s : ByteArray} {k : Nat} (hk : k < s.size) (c : UInt8) : nextIs s.data.toList k c = (s[k] == c) := by
  unfold nextIs
  have hl : k < s.data.toList.length := by simpa using hk
  rw [List.getElem?_eq_getElem hl]
  rfl
theorem br_at {s : ByteArray} {m : Nat} (hm : s.size = m + 1) (h0 : 0 < s.size) (h1 : m < s.size) (h2 : 1 ≤ m) : brB s.data.toList = (s[0] == (60 : UInt8) && s[m] == (62 : UInt8)) := by
  have hl : s.data.toList.length = s.size := by simp
  unfold brB
  rw [next_at h0, hl, hm, Nat.add_sub_cancel, next_at h1, decide_eq_true (by omega)]
  rfl
theorem mid_at {s : ByteArray} {m : Nat} (hm : s.size = m + 1) : (s.extract 1 m).data.toList = mid s.data.toList := by
  have hl : s.data.toList.length = s.size := by simp
  rw [extract_list]
  unfold mid
  rw [hl, hm]
  rfl

end Go.Proofs.Ytinbdibenbplnaa
namespace Go.Proofs.Ytinbdibenbplnaa
set_option linter.unusedVariables false

/-- A submission: its stage, its user, its receivers, its text. -/
structure Sb where
  st : Int
  us : ByteArray
  to : List ByteArray
  tx : ByteArray
def eB : ByteArray := ⟨#[]⟩
instance (x : ByteArray) (L : List ByteArray) : Decidable (x ∈ L) := @List.instDecidableMemOfLawfulBEq ByteArray instBEqOfDecidableEq inferInstance x L
/-- Different names. -/
def namesB (T : List ByteArray) : Bool := T.all (fun x => nameB (kb x)) && decide T.Nodup
/-- At most three different names. -/
def n21 (T : List ByteArray) : Bool := namesB T && decide (T.length ≤ 3)
/-- One to three different names. -/
def recB (T : List ByteArray) : Bool := n21 T && decide (1 ≤ T.length)
/-- A valid letter. -/
def letB (f : ByteArray) (T : List ByteArray) (x : ByteArray) : Bool := nameB (kb f) && (recB T && decide (x.size ≤ 20))
/-- A valid submission. -/
def sbV (s : Sb) : Bool :=
  if s.st = 0 ∨ s.st = 1 ∨ s.st = 6 then decide (s.us = eB) && (decide (s.to = []) && decide (s.tx = eB))
  else if s.st = 2 ∨ s.st = 3 then nameB (kb s.us) && (decide (s.to = []) && decide (s.tx = eB))
  else if s.st = 4 then nameB (kb s.us) && (recB s.to && decide (s.tx = eB))
  else if s.st = 5 then nameB (kb s.us) && (recB s.to && decide (s.tx.size ≤ 21))
  else false
theorem namesB_iff {T : List ByteArray} : namesB T = true ↔ (∀ x ∈ T, nameB (kb x) = true) ∧ T.Nodup := by
  unfold namesB
  simp [List.all_eq_true]
theorem namesB_nil : namesB [] = true := namesB_iff.2 ⟨fun x h => (by cases h), List.nodup_nil⟩
theorem namesB_next {T : List ByteArray} {k : Nat} {x : ByteArray} (h : namesB (T.take k) = true) (hx : T[k]? = some x) (hn : nameB (kb x) = true) (hm : decide (x ∈ T.take k) = false) : namesB (T.take (k + 1)) = true := by
  rw [tsnoc hx]
  obtain ⟨h1, h2⟩ := namesB_iff.1 h
  have hm' := of_decide_eq_false hm
  refine namesB_iff.2 ⟨fun y hy => ?_, ?_⟩
  · rcases List.mem_append.1 hy with h3 | h3
    · exact h1 y h3
    · simp at h3; rw [h3]; exact hn
  · rw [List.nodup_append]
    refine ⟨h2, by simp, fun a ha b hb => ?_⟩
    simp at hb
    subst hb
    rintro rfl
    exact hm' ha
theorem namesB_bad {T : List ByteArray} {k : Nat} {x : ByteArray} (hx : T[k]? = some x) (hn : nameB (kb x) = false) : namesB T = false := by
  cases h : namesB T with
  | false => rfl
  | true => have := (namesB_iff.1 h).1 x (List.mem_of_getElem? hx); rw [hn] at this; cases this
theorem namesB_twice {T : List ByteArray} {k : Nat} {x : ByteArray} (hx : T[k]? = some x) (hm : decide (x ∈ T.take k) = true) : namesB T = false := by
  cases h : namesB T with
  | false => rfl
  | true =>
    exfalso
    have h2 := (namesB_iff.1 h).2
    obtain ⟨hk, rfl⟩ := List.getElem?_eq_some_iff.1 hx
    have h3 : T = T.take k ++ T[k] :: T.drop (k + 1) := by
      conv => lhs; rw [← List.take_append_drop k T, List.drop_eq_getElem_cons hk]
    rw [h3, List.nodup_append] at h2
    exact h2.2.2 _ (of_decide_eq_true hm) _ (List.mem_cons_self) rfl
theorem n21_bad {T : List ByteArray} (h : namesB T = false) : n21 T = false := by unfold n21; rw [h]; rfl
theorem recB_bad {T : List ByteArray} (h : namesB T = false) : recB T = false := by unfold recB; rw [n21_bad h]; rfl
theorem recB_all {T : List ByteArray} {k : Nat} (h : namesB (T.take k) = true) (hk : T.length ≤ k) (h1 : 1 ≤ T.length) (h3 : T.length ≤ 3) : recB T = true := by
  rw [List.take_of_length_le hk] at h
  unfold recB n21
  rw [h, decide_eq_true h1, decide_eq_true h3]
  rfl
theorem n21_all {T : List ByteArray} {k : Nat} (h : namesB (T.take k) = true) (hk : T.length ≤ k) : n21 T = decide (T.length ≤ 3) := by
  rw [List.take_of_length_le hk] at h
  unfold n21
  rw [h]
  rfl
theorem recB_long {T : List ByteArray} (h : ¬ (1 ≤ T.length ∧ T.length ≤ 3)) : recB T = false := by
  unfold recB n21
  by_cases h1 : 1 ≤ T.length
  · rw [decide_eq_false (show ¬ T.length ≤ 3 by omega)]; simp
  · rw [decide_eq_false h1]; simp
theorem recB_parts {T : List ByteArray} (h : recB T = true) : namesB T = true ∧ 1 ≤ T.length ∧ T.length ≤ 3 := by
  unfold recB n21 at h
  simp at h
  exact ⟨h.1.1, h.2, h.1.2⟩
theorem n21_nil : n21 [] = true := rfl

/-- Going back. -/
def backF (s : Sb) : Sb := if 2 ≤ s.st then ⟨2, s.us, [], eB⟩ else ⟨s.st, eB, [], eB⟩
/-- The text after a line. -/
def addF (t l : ByteArray) : ByteArray := (t ++ (if l.data.toList.head? = some 46 then l.extract 1 l.size else l) ++ ⟨#[10]⟩).extract 0 21
def dataF (s : Sb) (l : ByteArray) : Sb × Int :=
  if l = ⟨#[46]⟩ then (backF s, if s.tx.size ≤ 20 then 250 else 552) else (⟨s.st, s.us, s.to, addF s.tx l⟩, 0)
/-- The words of a line. -/
def wdsF (l : ByteArray) : List ByteArray := (cut 32 (kb l)).map rB
theorem wdsF_len (l : ByteArray) : 1 ≤ (wdsF l).length ∧ (wdsF l).length ≤ l.size + 1 := by
  have := cut_len 32 (kb l)
  unfold wdsF
  rw [List.length_map]
  have e : (kb l).length = l.size := by unfold kb; simp
  omega
def helloF (s : Sb) (W : List ByteArray) : Sb × Int :=
  if W.length = 2 ∧ domB (kb (W.getD 1 eB)) = true then (backF ⟨if s.st = 0 then 1 else s.st, s.us, s.to, s.tx⟩, 250) else (s, 501)
/-- What UsersPlain tells of a text. -/
def IsUp (L : List Us) (t : ByteArray) (u : ByteArray) (o : Bool) : Prop := ∃ ok n p, IsPP t ok n p ∧ upU L n p ok = (u, o)
theorem isUp_any (L : List Us) (t : ByteArray) : ∃ u o, IsUp L t u o := by
  obtain ⟨ok, n, p, h⟩ := isPP_any t
  exact ⟨_, _, ok, n, p, h, rfl⟩
theorem isUp_one {L : List Us} {t u v : ByteArray} {o z : Bool} (h : IsUp L t u o) (k : IsUp L t v z) : u = v ∧ o = z := by
  obtain ⟨a, b, c, h1, h2⟩ := h
  obtain ⟨a', b', c', h3, h4⟩ := k
  obtain ⟨e1, e2, e3⟩ := isPP_one h1 h3
  subst e1 e2 e3
  rw [h2] at h4
  cases h4
  exact ⟨rfl, rfl⟩
def wEHLO : ByteArray := ⟨#[69, 72, 76, 79]⟩
def wAUTH : ByteArray := ⟨#[65, 85, 84, 72]⟩
def wMAIL : ByteArray := ⟨#[77, 65, 73, 76]⟩
def wRCPT : ByteArray := ⟨#[82, 67, 80, 84]⟩
def wDATA : ByteArray := ⟨#[68, 65, 84, 65]⟩
def wRSET : ByteArray := ⟨#[82, 83, 69, 84]⟩
def wNOOP : ByteArray := ⟨#[78, 79, 79, 80]⟩
def wQUIT : ByteArray := ⟨#[81, 85, 73, 84]⟩
def wPLAIN : ByteArray := ⟨#[80, 76, 65, 73, 78]⟩
/-- "MAIL FROM:" and "RCPT TO:". -/
def bMAIL : ByteArray := ⟨#[77, 65, 73, 76, 32, 70, 82, 79, 77, 58]⟩
def bRCPT : ByteArray := ⟨#[82, 67, 80, 84, 32, 84, 79, 58]⟩
def authF (s : Sb) (W : List ByteArray) (u : ByteArray) (o : Bool) : Sb × Int :=
  if s.st ≠ 1 then (s, 503) else if W.length = 3 ∧ W.getD 1 eB = wPLAIN then (if o = true then (⟨2, u, [], eB⟩, 235) else (s, 535)) else (s, 501)
/-- What follows a beginning. -/
def tlB (b l : ByteArray) : List UInt8 := (kb l).drop (kb b).length
def preB (b l : ByteArray) : Bool := decide ((kb l).take (kb b).length = kb b)
/-- Is there an address behind a beginning; its user and its domain. -/
def ptO (b l : ByteArray) : Bool := preB b l && (spP (tlB b l) && decide (qU (tlB b l) ≠ []))
def ptU (b l : ByteArray) : ByteArray := if preB b l = true then bs (qU (tlB b l)) else eB
def ptD (b l : ByteArray) : ByteArray := if preB b l = true then bs (qD (tlB b l)) else eB
def mailF (s : Sb) (d l : ByteArray) : Sb × Int :=
  if s.st < 2 then (s, 530) else if s.st ≠ 2 then (s, 503) else if ptO bMAIL l = false then (s, 501)
  else if ptU bMAIL l = s.us ∧ ptD bMAIL l = d then (⟨3, s.us, s.to, s.tx⟩, 250) else (s, 550)
def rcptF (s : Sb) (L : List Us) (d l : ByteArray) : Sb × Int :=
  if s.st ≠ 3 ∧ s.st ≠ 4 then (s, 503) else if ptO bRCPT l = false then (s, 501)
  else if ptD bRCPT l = d ∧ (fU L (ptU bRCPT l)).isSome = true then
    (if ptU bRCPT l ∈ s.to then (s, 250) else if 3 ≤ s.to.length then (s, 452) else (⟨4, s.us, s.to ++ [ptU bRCPT l], eB⟩, 250))
  else (s, 550)
def quitS : Sb := ⟨6, eB, [], eB⟩
def cmdF (s : Sb) (l : ByteArray) : Sb × Int :=
  if l = wDATA then (if s.st = 4 then (⟨5, s.us, s.to, s.tx⟩, 354) else (s, 503)) else if l = wRSET then (backF s, 250) else if l = wNOOP then (s, 250) else if l = wQUIT then (quitS, 221) else (s, 500)
/-- What a line does, and the reply; 'u', 'o': what UsersPlain tells of the third word. -/
def lineF (s : Sb) (L : List Us) (d l u : ByteArray) (o : Bool) : Sb × Int :=
  if s.st = 6 then (s, 503) else if s.st = 5 then dataF s l
  else if (wdsF l).getD 0 eB = wEHLO then helloF s (wdsF l) else if (wdsF l).getD 0 eB = wAUTH then authF s (wdsF l) u o
  else if (wdsF l).getD 0 eB = wMAIL then mailF s d l else if (wdsF l).getD 0 eB = wRCPT then rcptF s L d l else cmdF s l

theorem sbV_low {s : Sb} (h : s.st = 0 ∨ s.st = 1 ∨ s.st = 6) : sbV s = (decide (s.us = eB) && (decide (s.to = []) && decide (s.tx = eB))) := by unfold sbV; rw [if_pos h]
theorem sbV_mid {s : Sb} (h : s.st = 2 ∨ s.st = 3) : sbV s = (nameB (kb s.us) && (decide (s.to = []) && decide (s.tx = eB))) := by unfold sbV; rw [if_neg (by omega), if_pos h]
theorem sbV_to {s : Sb} (h : s.st = 4) : sbV s = (nameB (kb s.us) && (recB s.to && decide (s.tx = eB))) := by unfold sbV; rw [if_neg (by omega), if_neg (by omega), if_pos h]
theorem sbV_data {s : Sb} (h : s.st = 5) : sbV s = (nameB (kb s.us) && (recB s.to && decide (s.tx.size ≤ 21))) := by unfold sbV; rw [if_neg (by omega), if_neg (by omega), if_neg (by omega), if_pos h]
theorem sbV_off {s : Sb} (h : s.st < 0 ∨ 6 < s.st) : sbV s = false := by unfold sbV; rw [if_neg (by omega), if_neg (by omega), if_neg (by omega), if_neg (by omega)]
theorem sbV_range {s : Sb} (h : sbV s = true) : 0 ≤ s.st ∧ s.st ≤ 6 := by
  by_cases h1 : s.st < 0 ∨ 6 < s.st
  · rw [sbV_off h1] at h; cases h
  · omega
theorem eB_size : eB.size = 0 := rfl
theorem nm_size {n : ByteArray} (h : nameB (kb n) = true) : 1 ≤ n.size ∧ n.size ≤ 8 := by
  have h1 := nameB_iff.1 h
  have e : (kb n).length = n.size := by unfold kb; simp
  omega
/-- What a valid submission has. -/
theorem sbV_has {s : Sb} (h : sbV s = true) : s.us.size ≤ 8 ∧ s.to.length ≤ 3 ∧ (∀ x ∈ s.to, x.size ≤ 8) ∧ s.tx.size ≤ 21 ∧ (s.st ≠ 5 → s.tx = eB) ∧ (s.st ≠ 4 → s.st ≠ 5 → s.to = []) ∧ (s.st < 2 → s.us = eB) ∧ ((2 ≤ s.st ∧ s.st ≤ 5) → nameB (kb s.us) = true) ∧ (s.st = 6 → s.us = eB) := by
  obtain ⟨h0, h6⟩ := sbV_range h
  have hnil : ∀ T : List ByteArray, T = [] → T.length ≤ 3 ∧ ∀ x ∈ T, x.size ≤ 8 := fun T e => by subst e; exact ⟨by simp, fun x hx => by cases hx⟩
  have hrec : ∀ T : List ByteArray, recB T = true → T.length ≤ 3 ∧ ∀ x ∈ T, x.size ≤ 8 := fun T e => by
    obtain ⟨h1, h2, h3⟩ := recB_parts e
    exact ⟨h3, fun x hx => (nm_size ((namesB_iff.1 h1).1 x hx)).2⟩
  obtain ⟨st, us, to, tx⟩ := s
  simp only at *
  rcases (show (st = 0 ∨ st = 1 ∨ st = 6) ∨ (st = 2 ∨ st = 3) ∨ st = 4 ∨ st = 5 by omega) with h1 | h1 | h1 | h1
  · rw [sbV_low (by exact h1)] at h
    simp at h
    obtain ⟨rfl, rfl, rfl⟩ := h
    exact ⟨by rw [eB_size]; omega, (hnil _ rfl).1, (hnil _ rfl).2, by rw [eB_size]; omega, fun _ => rfl, fun _ _ => rfl, fun _ => rfl, fun h => by omega, fun _ => rfl⟩
  · rw [sbV_mid (by exact h1)] at h
    simp at h
    obtain ⟨hn, rfl, rfl⟩ := h
    exact ⟨(nm_size hn).2, (hnil _ rfl).1, (hnil _ rfl).2, by rw [eB_size]; omega, fun _ => rfl, fun _ _ => rfl, fun h => by omega, fun _ => hn, fun h => by omega⟩
  · rw [sbV_to (by exact h1)] at h
    simp at h
    obtain ⟨hn, hr, rfl⟩ := h
    exact ⟨(nm_size hn).2, (hrec _ hr).1, (hrec _ hr).2, by rw [eB_size]; omega, fun _ => rfl, fun h => absurd h1 h, fun h => by omega, fun _ => hn, fun h => by omega⟩
  · rw [sbV_data (by exact h1)] at h
    simp at h
    obtain ⟨hn, hr, ht⟩ := h
    exact ⟨(nm_size hn).2, (hrec _ hr).1, (hrec _ hr).2, ht, fun h => absurd h1 h, fun _ h => absurd h1 h, fun h => by omega, fun _ => hn, fun h => by omega⟩
theorem backF_valid {s : Sb} (h : sbV s = true) (h6 : s.st ≠ 6) : sbV (backF s) = true := by
  obtain ⟨h1, h2⟩ := sbV_range h
  obtain ⟨_, _, _, _, _, _, _, hn, _⟩ := sbV_has h
  unfold backF
  by_cases h3 : 2 ≤ s.st
  · rw [if_pos h3, sbV_mid (.inl rfl)]
    simp [hn ⟨h3, by omega⟩]
  · rw [if_neg h3, sbV_low (by simp only; omega)]
    simp
theorem addF_size (t l : ByteArray) : (addF t l).size ≤ 21 := by unfold addF; rw [ByteArray.size_extract]; omega
theorem pt_name {b l : ByteArray} (h : ptO b l = true) : nameB (kb (ptU b l)) = true ∧ domB (kb (ptD b l)) = true := by
  unfold ptO at h
  simp only [Bool.and_eq_true, decide_eq_true_eq] at h
  obtain ⟨h1, h2, h3⟩ := h
  unfold ptU ptD
  rw [if_pos h1, if_pos h1]
  unfold kb
  rw [bs_list, bs_list]
  unfold spP at h2
  unfold qU at h3 ⊢
  unfold qD
  by_cases hb : tlB b l = bare
  · rw [if_pos hb] at h3; exact absurd rfl h3
  · rw [decide_eq_false hb, Bool.false_or, Bool.and_eq_true] at h2
    rw [if_neg hb, if_neg hb, if_pos h2.1, if_pos h2.1]
    obtain ⟨u, d, e1, e2, e3, e4⟩ := sp_parts h2.2
    unfold pU pD
    rw [if_pos h2.2, if_pos h2.2, e1]
    exact ⟨e3, e4⟩
theorem isUp_name {L : List Us} {t u : ByteArray} (h : IsUp L t u true) : nameB (kb u) = true := by
  obtain ⟨ok, n, p, h1, h2⟩ := h
  unfold upU at h2
  split at h2
  · rename_i h3
    cases h2
    simp at h3
    obtain ⟨_, _, h4, _⟩ := prU_true h3.2
    exact h4
  · cases h2
/-- A line leaves a valid submission. -/
theorem lineF_valid {s : Sb} {L : List Us} {d l u : ByteArray} {o : Bool} (h : sbV s = true) (hu : o = true → nameB (kb u) = true) : sbV (lineF s L d l u o).1 = true := by
  obtain ⟨h0, h6⟩ := sbV_range h
  obtain ⟨k1, k2, k3, k4, k5, k6, k7, k8, k9⟩ := sbV_has h
  unfold lineF
  split
  · exact h
  rename_i n6
  split
  · rename_i n5
    unfold dataF
    split
    · exact backF_valid h n6
    · rw [sbV_data n5] at h
      simp at h
      rw [sbV_data (by exact n5)]
      simp [h.1, h.2.1, addF_size]
  rename_i n5
  have e5 := k5 n5
  split
  · unfold helloF
    split
    · unfold backF
      have hs : (if s.st = 0 then (1 : Int) else s.st) ≠ 6 := by split <;> omega
      by_cases h2 : 2 ≤ s.st
      · rw [if_neg (show ¬ s.st = 0 by omega), if_pos h2, sbV_mid (.inl rfl)]
        simp [k8 ⟨h2, by omega⟩]
      · have h3 : (if s.st = 0 then (1 : Int) else s.st) = 1 := by split <;> omega
        rw [h3, if_neg (show ¬ (2 : Int) ≤ 1 by omega), sbV_low (.inr (.inl rfl))]
        simp
    · exact h
  split
  · unfold authF
    split
    · exact h
    split
    · split
      · rename_i ho
        rw [sbV_mid (.inl rfl)]
        simp [hu ho]
      · exact h
    · exact h
  split
  · unfold mailF
    split
    · exact h
    split
    · exact h
    rename_i n2
    split
    · exact h
    split
    · have hst : s.st = 2 := by omega
      rw [sbV_mid (.inl hst)] at h
      rw [sbV_mid (.inr rfl)]
      exact h
    · exact h
  split
  · unfold rcptF
    split
    · exact h
    rename_i n3
    split
    · exact h
    rename_i npt
    have hpt : ptO bRCPT l = true := by simpa using npt
    split
    · split
      · exact h
      rename_i nin
      split
      · exact h
      rename_i nl
      have hn := k8 (by omega)
      rw [sbV_to rfl]
      simp only [hn, Bool.true_and, decide_true, Bool.and_true]
      have hT : namesB s.to = true := by
        rcases (show s.st = 3 ∨ s.st = 4 by omega) with h4 | h4
        · rw [k6 (by omega) (by omega)]; exact namesB_nil
        · rw [sbV_to h4] at h
          simp at h
          exact (recB_parts h.2.1).1
      obtain ⟨q1, q2⟩ := namesB_iff.1 hT
      have h5 : namesB (s.to ++ [ptU bRCPT l]) = true := by
        refine namesB_iff.2 ⟨fun x hx => ?_, ?_⟩
        · rcases List.mem_append.1 hx with h6 | h6
          · exact q1 x h6
          · simp at h6; rw [h6]; exact (pt_name hpt).1
        · rw [List.nodup_append]
          refine ⟨q2, by simp, fun a ha b hb => ?_⟩
          simp at hb
          subst hb
          rintro rfl
          exact nin ha
      refine (by unfold recB n21; rw [h5]; simp; omega)
    · exact h
  unfold cmdF
  split
  · split
    · rename_i h4
      rw [sbV_to h4] at h
      simp at h
      rw [sbV_data rfl]
      simp [h.1, h.2.1, h.2.2, eB_size]
    · exact h
  split
  · exact backF_valid h n6
  split
  · exact h
  split
  · rfl
  · exact h
end Go.Proofs.Ytinbdibenbplnaa
namespace Go.Proofs.Ytinbdibenbplnaa
open Go.RowKit
set_option linter.unusedVariables false

def stR : RowT ByteArray where
  t := 9
  sz := 1
  enc := fun g => [.string g]
  len := fun _ => rfl
  one := fun x u hu => by
    simp at hu
    subst hu
    rfl
theorem str_at {w : World} {A : Option Addr} {L : List ByteArray} {k : Nat} {x : ByteArray} (h : RAt stR w A L) (hx : L[k]? = some x) :
    ∃ b o, A = some ⟨b, o, none⟩ ∧ b < w.heap.size ∧ w.cell? ⟨b, o + k, none⟩ = some (.string x) := by
  obtain ⟨b, o, hA, hb, h1⟩ := h k _ hx
  have := h1 0 _ rfl
  simp only [stR, Nat.mul_one, Nat.add_zero] at this
  exact ⟨b, o, hA, hb, this⟩
/-- A slice of texts that came in. -/
def SIn (w : World) (A : Option Addr) (N cap : Nat) (L : List ByteArray) : Prop := L.length = N ∧ N ≤ 4194304 ∧ RAt stR w A L ∧ (A = none → cap = 0) ∧ (∀ q, A = some q → q.spot = none) ∧ (∀ g ∈ L, g.size ≤ 16777216) ∧ N ≤ cap ∧ (∀ q, A = some q → q.block < w.heap.size)
theorem SIn.below {w w' : World} {A : Option Addr} {N cap B : Nat} {L : List ByteArray} (h : SIn w A N cap L) (hb : Below B w w') (hB : w.heap.size ≤ B) : SIn w' A N cap L := ⟨h.1, h.2.1, h.2.2.1.below hb hB, h.2.2.2.1, h.2.2.2.2.1, h.2.2.2.2.2.1, h.2.2.2.2.2.2.1, fun q e => Nat.lt_of_lt_of_le (h.2.2.2.2.2.2.2 q e) hb.size⟩
theorem SIn.made {w : World} {B N cap : Nat} {A : Option Addr} {L : List ByteArray} (h : ROwn stR w B (.slice A N cap) L) (hl : L.length ≤ 4194304) (hs : ∀ g ∈ L, g.size ≤ 16777216) : SIn w A N cap L := ⟨h.len.1.symm, h.len.1 ▸ hl, h.at, h.nilcap, h.spot, hs, h.len.2.1, fun q e => by
  subst e
  obtain ⟨A', c', he, _, _, _, hb, _⟩ := h.form
  cases he
  rcases h.2 with ⟨he, _⟩ | ⟨g, c, cur, he, _⟩
  · cases he
  · cases he
    exact (World.ownsRow.lt h g rfl).2⟩
theorem SIn.nil (w : World) : SIn w none 0 0 [] := ⟨rfl, by omega, RAt.nil _ _, fun _ => rfl, fun q h => (by cases h), fun g h => (by cases h), by omega, fun q h => (by cases h)⟩
theorem SIn.front {w : World} {A : Option Addr} {N cap k : Nat} {L : List ByteArray} (h : SIn w A N cap L) (hk : k ≤ N) : SIn w A k cap (L.take k) := ⟨by rw [List.length_take, h.1]; omega, by have := h.2.1; omega, h.2.2.1.take k, h.2.2.2.1, h.2.2.2.2.1, fun g hg => h.2.2.2.2.2.1 g (List.mem_of_mem_take hg), by have := h.2.2.2.2.2.2.1; omega, h.2.2.2.2.2.2.2⟩
theorem SIn.lt {w : World} {A : Option Addr} {N cap : Nat} {L : List ByteArray} (h : SIn w A N cap L) : ∀ q, A = some q → q.block < w.heap.size := h.2.2.2.2.2.2.2
/-- Texts that can be read, no more. -/
def WIn (w : World) (A : Option Addr) (N : Nat) (L : List ByteArray) : Prop := L.length = N ∧ RAt stR w A L
theorem WIn.below {w w' : World} {A : Option Addr} {N B : Nat} {L : List ByteArray} (h : WIn w A N L) (hb : Below B w w') (hB : w.heap.size ≤ B) : WIn w' A N L := ⟨h.1, h.2.below hb hB⟩
theorem mem_here {L : List ByteArray} {k : Nat} {x n : ByteArray} (hx : L[k]? = some x) (hn : x = n) : decide (n ∈ L) = true := decide_eq_true (hn ▸ List.mem_of_getElem? hx)
theorem mem_step {L : List ByteArray} {k : Nat} {x n : ByteArray} (h : ¬ n ∈ L.take k) (hx : L[k]? = some x) (hn : x ≠ n) : ¬ n ∈ L.take (k + 1) := by
  rw [tsnoc hx]
  simp
  exact ⟨h, fun e => hn e.symm⟩
end Go.Proofs.Ytinbdibenbplnaa
namespace Go.Proofs.Ytinbdibenbplnaa
open Go.RowKit
set_option linter.unusedVariables false

/-- A fact that stands in every world that keeps all blocks of this one. -/
def Kp (w : World) (F : World → Prop) : Prop := ∀ w', Below w.heap.size w w' → F w'
section
variable {w w' a : World} {F G : World → Prop} {B n : Nat} {p : Prop}
theorem Kp.here (h : Kp w F) : F w := h w (Below.refl _ _)
theorem Kp.move (h : Kp w F) (hb : Below w.heap.size w w') : Kp w' F := fun w2 h2 => h w2 (hb.trans (h2.mono hb.size))
theorem below_new (w : World) (o : Obj) : Below w.heap.size w (w.alloc o) := (Below.refl _ _).alloc (Nat.le_refl _) o
theorem below_drawn (w : World) (k : Nat) : Below w.heap.size w (w.drewN k) := below_drewN' (Below.refl _ _) k
theorem below_drew1 (w : World) : Below w.heap.size w w.drew := ⟨rfl, rfl, rfl, Nat.le_refl _, fun _ _ => rfl⟩
theorem Kp.alloc (h : Kp w F) (o : Obj) : Kp (w.alloc o) F := h.move (below_new w o)
theorem Kp.drewN (h : Kp w F) (k : Nat) : Kp (w.drewN k) F := h.move (below_drawn w k)
theorem Kp.drew (h : Kp w F) : Kp w.drew F := h.move (below_drew1 w)
theorem Kp.and (h : Kp w F) (k : Kp w G) : Kp w fun w => F w ∧ G w := fun w2 h2 => ⟨h w2 h2, k w2 h2⟩
theorem Kp.map (h : Kp w F) (f : ∀ w, F w → G w) : Kp w G := fun w2 h2 => f w2 (h w2 h2)
theorem Kp.l (h : Kp w fun w => F w ∧ G w) : Kp w F := fun w2 h2 => (h w2 h2).1
theorem Kp.r (h : Kp w fun w => F w ∧ G w) : Kp w G := fun w2 h2 => (h w2 h2).2
theorem below_keep (h : Below B a w) (hB : B ≤ w.heap.size) : Kp w fun w' => Below B a w' := fun w2 h2 => h.trans (h2.mono hB)
theorem kp_start (w : World) : Kp w fun w' => Below w.heap.size w w' := fun w2 h2 => h2
theorem size_keep (h : n ≤ w.heap.size) : Kp w fun w' => n ≤ w'.heap.size := fun w2 h2 => Nat.le_trans h h2.size
theorem kp_pure (h : p) : Kp w fun _ => p := fun _ _ => h
theorem kp_whole {b : Nat} {t : TypeId} {cs : Array Value} (h : Whole w b t cs) : Kp w fun w' => Whole w' b t cs := fun w2 h2 => h.below h2 h.lt
end

/-- Only blocks from 'lo' up to 'hi' and new ones have turned. -/
structure Mv (lo hi : Nat) (w w' : World) : Prop where
  os : w'.os = w.os
  tape : w'.tape = w.tape
  output : w'.output = w.output
  size : w.heap.size ≤ w'.heap.size
  block : ∀ b, b < w.heap.size → ¬ (lo ≤ b ∧ b < hi) → w'.heap[b]? = w.heap[b]?
/-- A fact that speaks of the blocks from 'lo' up to 'hi' alone. -/
def Kr (w : World) (lo hi : Nat) (F : World → Prop) : Prop := hi ≤ w.heap.size ∧ ∀ w', w.heap.size ≤ w'.heap.size → (∀ b, lo ≤ b → b < hi → w'.heap[b]? = w.heap[b]?) → F w'
section
variable {w w' a : World} {F G : World → Prop} {B n lo hi lo' hi' : Nat} {p : Prop}
theorem Kr.here (h : Kr w lo hi F) : F w := h.2 w (Nat.le_refl _) fun _ _ _ => rfl
theorem Kr.below (h : Kr w lo hi F) (hb : Below B w w') (hB : hi ≤ B) : Kr w' lo hi F :=
  ⟨Nat.le_trans h.1 hb.size, fun w2 hz h2 => h.2 w2 (Nat.le_trans hb.size hz) fun b h3 h4 => (h2 b h3 h4).trans (hb.block b (by omega))⟩
theorem Kr.move (h : Kr w lo hi F) (hm : Mv lo' hi' w w') (hd : hi ≤ lo' ∨ hi' ≤ lo) : Kr w' lo hi F :=
  ⟨Nat.le_trans h.1 hm.size, fun w2 hz h2 => h.2 w2 (Nat.le_trans hm.size hz) fun b h3 h4 => (h2 b h3 h4).trans (hm.block b (by have := h.1; omega) (by omega))⟩
theorem Kr.and (h : Kr w lo hi F) (k : Kr w lo hi G) : Kr w lo hi fun w => F w ∧ G w := ⟨h.1, fun w2 hz h2 => ⟨h.2 w2 hz h2, k.2 w2 hz h2⟩⟩
theorem Kr.map (h : Kr w lo hi F) (f : ∀ w, F w → G w) : Kr w lo hi G := ⟨h.1, fun w2 hz h2 => f w2 (h.2 w2 hz h2)⟩
theorem Kr.widen (h : Kr w lo hi F) (hl : lo' ≤ lo) (hh : hi ≤ hi') (hz : hi' ≤ w.heap.size) : Kr w lo' hi' F := ⟨hz, fun w2 hz h2 => h.2 w2 hz fun b h3 h4 => h2 b (by omega) (by omega)⟩
theorem Mv.of_below (h : Below B w w') (hB : w.heap.size ≤ B) : Mv lo hi w w' := ⟨h.os, h.tape, h.output, h.size, fun b hb _ => h.block b (by omega)⟩
theorem Mv.to_below (h : Mv lo hi w w') (hB : B ≤ lo) (hz : B ≤ w.heap.size) : Below B w w' := ⟨h.os, h.tape, h.output, h.size, fun b hb => h.block b (by omega) (by omega)⟩
theorem Mv.of_grown {g : Nat} (h : w.grownBy w' (some g)) (hl : lo ≤ g) (hh : g < hi) : Mv lo hi w w' := ⟨h.os, h.tape, h.output, h.size, fun b hb hn => h.block b hb (by simp; omega)⟩
theorem Mv.of_grown0 (h : w.grownBy w' none) : Mv lo hi w w' := ⟨h.os, h.tape, h.output, h.size, fun b hb hn => h.block b hb (by simp)⟩
end
end Go.Proofs.Ytinbdibenbplnaa
namespace Go.Proofs.Ytinbdibenbplnaa
open Go.RowKit
set_option linter.unusedVariables false

theorem below_new' (w : World) (o : Obj) : Below w.heap.size w (w.alloc o) := below_new w o
theorem ROwn.front {α : Type} {R : RowT α} {w : World} {B g n cap k : Nat} {L : List α} (h : ROwn R w B (.slice (some ⟨g, 0, none⟩) n cap) L) (hk : k ≤ n) : ROwn R w B (.slice (some ⟨g, 0, none⟩) k cap) (L.take k) := by
  have hn := h.len.1
  have hkl : (L.take k).length = k := by rw [List.length_take]; omega
  rcases h.2 with ⟨he, _⟩ | ⟨g', c, cur, he, hB, hg, h1, h2, h3, h4⟩
  · cases he
  · cases he
    refine ⟨rcells_len R _, .inr ⟨g, cap, cur, by rw [hkl], hB, hg, by omega, h2, h3, ?_⟩⟩
    have e : (rcells R L).take (k * R.sz) = rcells R (L.take k) := by
      have e2 : rcells R L = rcells R (L.take k) ++ rcells R (L.drop k) := by rw [← rcells_app, List.take_append_drop]
      rw [e2, List.take_append_of_le_length (by rw [rcells_len, hkl]; exact Nat.le_refl _), List.take_of_length_le (by rw [rcells_len, hkl]; exact Nat.le_refl _)]
    rw [hkl, ← e, ← h4, List.take_take]
    congr 1
    have := Nat.mul_le_mul_right R.sz (show k ≤ L.length by omega)
    omega
theorem many_odd {k s o T : Nat} (h : o + k * s ≤ T) (hk : k % 2 = 1) : (o + s) + k / 2 * (s + s) ≤ T := by
  have e : k * s = k / 2 * (s + s) + s := by
    conv => lhs; rw [← Nat.div_add_mod k 2, hk, Nat.add_mul, Nat.one_mul, Nat.mul_comm 2, Nat.mul_assoc, Nat.two_mul]
  omega
theorem many_even {k s o T : Nat} (h : o + k * s ≤ T) (hk : k % 2 = 0) : o + k / 2 * (s + s) ≤ T := by
  have e : k * s = k / 2 * (s + s) := by
    conv => lhs; rw [← Nat.div_add_mod k 2, hk, Nat.add_zero, Nat.mul_comm 2, Nat.mul_assoc, Nat.two_mul]
  omega
theorem many_le {k s o T : Nat} (h : o + k * s ≤ T) (hk : 0 < k) : s ≤ T ∧ o ≤ T := by
  have : s ≤ k * s := Nat.le_mul_of_pos_left s hk
  omega
theorem many_odd' {k : Nat} (h : k % 2 = 1) : (k : Int) % 2 = 1 := by omega
theorem many_even' {k : Nat} (h : ¬ k % 2 = 1) : (k : Int) % 2 = 0 := by omega
/-- A text of at most so many bytes. -/
def SaysMany (T : Nat) (w : World) (e : Ending) (w' : World) : Prop := ∃ v : ByteArray, v.size ≤ T ∧ e = .returned (.string v) ∧ w = w'
set_option maxHeartbeats 2000000 in
theorem spec_many (s : ByteArray) (k T : Nat) (w : World) (hk : k ≤ 1000) (h : k * s.size ≤ T) (hT : T ≤ 100000) (hs : s.size ≤ 100000) :
    Calls Try.prog 90 #[.string s, .int .i64 (k : Int)] w (SaysMany T w) := by
  have HI := Lib.hid (show (ByteArray.empty).size + k * s.size ≤ T by rw [ByteArray.size_empty]; omega)
  clear h
  go_enter Try.func90, Try.ntmps90
  go_wp2
  go_loop [0, 1, 5] (fun x y z => ∃ (k : Nat) (s o : ByteArray), k ≤ 1000 ∧ s.size ≤ 200000 ∧ o.size ≤ 100000 ∧ x = .string s ∧ y = .int .i64 (k : Int) ∧ z = .string o ∧ Hid (o.size + k * s.size ≤ T)) (fun _ y _ => (intOf y).toNat)
  case atStart => exact ⟨k, s, ByteArray.empty, hk, by omega, by rw [ByteArray.size_empty]; omega, rfl, rfl, rfl, HI⟩
  case round =>
    clear HI
    obtain ⟨k, s, o, hk, hs, ho, rfl, rfl, rfl, HI⟩ := hrel
    by_cases hlt : 0 < k
    · have hlt' : (0 : Int) < (k : Int) := by omega
      obtain ⟨m1, m2⟩ := many_le HI.out hlt
      have m1' : s.size ≤ 100000 := by omega
      by_cases hm : k % 2 = 1
      · have hm' := many_odd' hm
        have HN := Lib.hid (many_odd HI.out hm)
        have m3 : o.size + s.size ≤ T := by have := HN.out; omega
        clear hm
        go_wp2
        go_round
        case rel => exact ⟨k / 2, s ++ s, o ++ s, by omega, by rw [ByteArray.size_append]; omega, by rw [ByteArray.size_append]; omega, rfl, by go_num, rfl, by show _ ≤ _; rw [ByteArray.size_append, ByteArray.size_append]; exact HN.out⟩
        case measure => simp [intOf]; omega
      · have hm' := many_even' hm
        have HN := Lib.hid (many_even HI.out (by omega))
        clear hm
        go_wp2
        go_round
        case rel => exact ⟨k / 2, s ++ s, o, by omega, by rw [ByteArray.size_append]; omega, by omega, rfl, by go_num, rfl, by show _ ≤ _; rw [ByteArray.size_append]; exact HN.out⟩
        case measure => simp [intOf]; omega
    · have hlt' : ¬ (0 : Int) < (k : Int) := by omega
      have HO : Hid (o.size ≤ T) := by have := HI.out; show _ ≤ _; omega
      go_wp2
      go_ret
      exact ⟨o, HO.out, rfl, rfl⟩

/-- A drawn text of a message. -/
def DrewX (w : World) (b p : Nat) (e : Ending) (w' : World) : Prop := ∃ (t : List UInt8) (q : Nat), t.length ≤ 30 ∧ q ≤ p + 2 ∧ e = .returned (.string (rB t)) ∧ Rd w' b q ∧ w.grownBy w' (some b)
theorem texts_le {l : List UInt8} (h : l ∈ [([] : List UInt8), [104, 101, 108, 108, 111], [97, 109, 121, 32, 97, 110, 100, 32, 98, 111, 98], [120], [98, 111, 120, 49, 32, 111, 114, 32, 120], [116, 111, 32, 98, 111, 98]]) : l.length ≤ 30 := by
  simp at h
  rcases h with rfl | rfl | rfl | rfl | rfl | rfl <;> decide
set_option maxRecDepth 20000 in
set_option maxHeartbeats 2000000 in
theorem text_draw (b p : Nat) (w : World) (h : Rd w b p) (hp : p ≤ 900000) :
    Calls Try.prog 75 #[.pointer (some ⟨b, 0, none⟩)] w (DrewX w b p) := by
  have H := Lib.hid h
  clear h
  go_enter Try.func75, Try.ntmps75
  go_wp2_with fail
  refine (pick_any b p 16 w H.out (by omega) (by omega) (by omega)).mono ?_
  rintro e w1 ⟨x, hx, rfl, hr, hg⟩
  have HR := Lib.hid hr
  have HG := Lib.hid hg
  clear hr hg
  by_cases h0 : x = 0
  · subst h0
    go_wp2_with fail
    refine (pick_any b (p + 1) 3 _ HR.out (by omega) (by omega) (by omega)).mono ?_
    rintro e w2 ⟨y, hy, rfl, hr, hg⟩
    have H2 := Lib.hid (And.intro hr (gr_trans HG.out hg))
    clear hr hg
    obtain ⟨z, hz⟩ : ∃ z, 19 + y = z := ⟨_, rfl⟩
    have hz21 : z ≤ 21 := by omega
    have e1 : (19 : Int) + (y : Int) = (z : Int) := by omega
    have W1 : IntKind.i64.wrap (19 + (y : Int)) = (z : Int) := (IntWalk.i64_in _ (by omega)).trans e1
    clear hz
    go_wp2_with fail
    refine (spec_many ⟨#[120]⟩ z 21 _ (by omega) (by show z * 1 ≤ 21; omega) (by omega) (by decide)).mono ?_
    rintro e w3 ⟨v, hv, rfl, rfl⟩
    go_wp2_with fail
    go_ret
    have hvl : v.data.toList.length = v.size := by rw [← rB_size, rB_of]
    exact ⟨v.data.toList, _, by omega, by omega, by rw [rB_of]; rfl, H2.out.1, H2.out.2⟩
  · have h0' : ((x : Int) == 0) = false := beq_eq_false_iff_ne.2 (by omega)
    clear h0
    go_wp2_with fail
    refine (of_new b (p + 1) [[], [104, 101, 108, 108, 111], [97, 109, 121, 32, 97, 110, 100, 32, 98, 111, 98], [120], [98, 111, 120, 49, 32, 111, 114, 32, 120], [116, 111, 32, 98, 111, 98]] w1 HR.out (by omega) (by decide) (by decide)).mono ?_
    rintro e w2 ⟨l, hl, rfl, hr, hg⟩
    have H2 := Lib.hid (And.intro hr (gr_trans HG.out hg))
    have hl30 := texts_le hl
    clear hr hg hl
    unfold str
    go_wp2_with fail
    go_ret
    exact ⟨l, _, hl30, by omega, rfl, H2.out.1, H2.out.2⟩
def NMS : Array Value := #[.string ⟨#[97, 109, 121]⟩, .string ⟨#[98, 111, 98]⟩, .string ⟨#[99, 121, 100]⟩, .string ⟨#[100, 97, 110]⟩]
/-- Drawn receivers. -/
def DrewT (w : World) (b p : Nat) (e : Ending) (w' : World) : Prop := ∃ A N cap T q, e = .returned (.slice A N cap) ∧ q ≤ p + 7 ∧ Rd w' b q ∧ ROwn stR w' w.heap.size (.slice A N cap) T ∧ w.grownBy w' (some b) ∧ T.length ≤ 6 ∧ (∀ g ∈ T, g.size ≤ 30)
/-- Receivers so far: 'NB' is the block of the names. -/
def TSt (w wr : World) (b q NB : Nat) (A : Option Addr) (n cap : Nat) (T : List ByteArray) : Prop :=
  Rd wr b q ∧ w.grownBy wr (some b) ∧ b < w.heap.size ∧ w.heap.size < NB ∧ NB < wr.heap.size ∧ Whole wr NB 9 NMS ∧ (∀ g ∈ T, g.size ≤ 30) ∧
    ((T = [] ∧ A = some ⟨w.heap.size, 0, none⟩ ∧ n = 0 ∧ cap = 0 ∧ Whole wr w.heap.size 9 #[]) ∨ ROwn stR wr (NB + 1) (.slice A n cap) T)
theorem TSt.read {w wr w' : World} {b q q' NB n cap : Nat} {A : Option Addr} {T : List ByteArray} (h : TSt w wr b q NB A n cap T) (hr : Rd w' b q') (hg : wr.grownBy w' (some b)) : TSt w w' b q' NB A n cap T := by
  obtain ⟨h1, h2, h3, h4, h5, h6, h7, h8⟩ := h
  refine ⟨hr, gr_trans h2 hg, h3, h4, Nat.lt_of_lt_of_le h5 hg.size, h6.grown hg (by simp; omega), h7, ?_⟩
  rcases h8 with ⟨e1, e2, e3, e4, e5⟩ | h8
  · exact .inl ⟨e1, e2, e3, e4, e5.grown hg (by simp; omega)⟩
  · exact .inr (h8.grown hg (by omega))
theorem TSt.len {w wr : World} {b q NB n cap : Nat} {A : Option Addr} {T : List ByteArray} (h : TSt w wr b q NB A n cap T) : n = T.length := by
  rcases h.2.2.2.2.2.2.2 with ⟨e1, e2, e3, e4, e5⟩ | h8
  · rw [e1, e3]; rfl
  · exact h8.len.1
theorem TSt.own {w wr : World} {b q NB n cap : Nat} {A : Option Addr} {T : List ByteArray} (h : TSt w wr b q NB A n cap T) : ROwn stR wr w.heap.size (.slice A n cap) T := by
  rcases h.2.2.2.2.2.2.2 with ⟨rfl, rfl, rfl, rfl, e5⟩ | h8
  · refine ⟨rfl, .inr ⟨w.heap.size, 0, #[], rfl, Nat.le_refl _, e5, by simp, by unfold maxLen; omega, by simp, rfl⟩⟩
  · exact h8.from (by have := h.2.2.2.1; omega)
/-- One more receiver. -/
theorem TSt.push {w wr w1 w' : World} {b q NB n cap N' cap' : Nat} {A A' : Option Addr} {T : List ByteArray} {x : ByteArray} {row : Option Nat} (h : TSt w wr b q NB A n cap T) (h1 : Below wr.heap.size wr w1) (hg : w1.grownBy w' row) (hrow : ∀ g, row = some g → NB < g) (ho : ROwn stR w' (NB + 1) (.slice A' N' cap') (T ++ [x])) (hx : x.size ≤ 30) : TSt w w' b q NB A' N' cap' (T ++ [x]) := by
  obtain ⟨k1, k2, k3, k4, k5, k6, k7, k8⟩ := h
  have hb1 := k1.lt
  refine ⟨rd_far (k1.below h1 hb1) hg (fun g e => by have := hrow g e; omega), gr_far (gr_trans k2 (gr_below h1 _)) hg (fun g e => by have := hrow g e; omega), k3, k4, Nat.lt_of_lt_of_le (Nat.lt_of_lt_of_le k5 h1.size) hg.size, (k6.below h1 k5).grown hg (fun e => by have := hrow NB e.symm; omega), fun g hgm => ?_, .inr ho⟩
  rcases List.mem_append.1 hgm with h2 | h2
  · exact k7 g h2
  · simp at h2; rw [h2]; exact hx
theorem nms_get {j : Nat} (h : j < 4) : ∃ s : ByteArray, NMS[j]? = some (.string s) ∧ s.size ≤ 30 := by
  match j, h with
  | 0, _ => exact ⟨_, rfl, by decide⟩
  | 1, _ => exact ⟨_, rfl, by decide⟩
  | 2, _ => exact ⟨_, rfl, by decide⟩
  | 3, _ => exact ⟨_, rfl, by decide⟩
theorem small_app {T U : List ByteArray} {k : Nat} (h : ∀ g ∈ T, g.size ≤ k) (h2 : ∀ g ∈ U, g.size ≤ k) : ∀ g ∈ T ++ U, g.size ≤ k := fun g hg => (List.mem_append.1 hg).elim (h g) (h2 g)
set_option maxRecDepth 20000 in
set_option maxHeartbeats 8000000 in
theorem to_draw (b p : Nat) (w : World) (h : Rd w b p) (hp : p ≤ 800000) : Calls Try.prog 74 #[.pointer (some ⟨b, 0, none⟩)] w (DrewT w b p) := by
  obtain ⟨i0, hi0, hq0, hq1, hq2⟩ := info_parts Try.infoString
  have hbl := h.lt
  have hw1 := Whole.made w 9 #[]
  have hw2 := Whole.made (w.alloc (.cells #[] 9)) 9 NMS
  have es : (w.alloc (.cells #[] 9)).heap.size = w.heap.size + 1 := by simp
  rw [es] at hw2
  have hbB : Below w.heap.size w ((w.alloc (.cells #[] 9)).alloc (.cells NMS 9)) := ((Below.refl _ _).alloc (Nat.le_refl _) _).alloc (by simp) _
  have HS0 : Hid (TSt w ((w.alloc (.cells #[] 9)).alloc (.cells NMS 9)) b p (w.heap.size + 1) (some ⟨w.heap.size, 0, none⟩) 0 0 []) :=
    Lib.hid ⟨h.below hbB hbl, gr_below hbB _, hbl, by omega, by simp, hw2, fun g hg => (by cases hg), .inl ⟨rfl, rfl, rfl, rfl, hw1.alloc _⟩⟩
  obtain ⟨wa, hwa⟩ : ∃ wa, (w.alloc (.cells #[] 9)).alloc (.cells NMS 9) = wa := ⟨_, rfl⟩
  rw [hwa] at HS0
  unfold NMS at hwa
  have HWA := Lib.hid hwa
  clear h hw1 hw2 es hbB hwa
  obtain ⟨NB, hNB⟩ : ∃ NB, w.heap.size + 1 = NB := ⟨_, rfl⟩
  rw [hNB] at HS0
  have HNB := Lib.hid hNB
  clear hNB
  go_enter Try.func74, Try.ntmps74
  go_wp2
  rw [HWA.out, HNB.out]
  go_loopw [3, 5] (fun v i wr => ∃ (k n cap q : Nat) (A : Option Addr) (T : List ByteArray), k ≤ 3 ∧ n ≤ k ∧ v = .slice A n cap ∧ i = .int .i64 (k : Int) ∧ q ≤ p + k ∧ Hid (TSt w wr b q NB A n cap T)) (fun _ i _ => 3 - (intOf i).toNat)
  case atStart => exact ⟨0, 0, 0, p, _, [], Nat.zero_le _, Nat.le_refl _, rfl, by go_num, by omega, HS0⟩
  case round =>
    obtain ⟨k, n, cap, q, A, T, hk, hnk, rfl, rfl, hq, HS⟩ := hrel
    by_cases hlt : k < 3
    · have h5 : (k : Int) < 3 := by omega
      have k0 : (0 : Int) ≤ (k : Int) := by omega
      have k4 : (k : Int) < 4 := by omega
      go_wp2_with fail
      refine (pick_any b q 2 _ HS.out.1 (by omega) (by omega) (by omega)).mono ?_
      rintro e w4 ⟨x, hx, rfl, hr, hg⟩
      have HS4 := Lib.hid (TSt.read HS.out hr hg)
      clear hr hg
      by_cases h0 : x = 0
      · subst h0
        obtain ⟨s, hsn, hxs⟩ := nms_get (show k < 4 by omega)
        have ks := (HS4.out.2.2.2.2.2.1.cell k).trans hsn
        clear hsn
        have hbs : NB < w4.heap.size := HS4.out.2.2.2.2.1
        rcases HS4.out.2.2.2.2.2.2.2 with ⟨hT, hA, hn, hc, hE⟩ | hown
        ·
          subst hT
          subst hA
          try subst hn
          try subst hc
          have hnew := RAt.made stR w4 [s] w4.heap.size rfl
          have hnc : ∀ j u, [Value.string s][j]? = some u → (w4.alloc (.cells #[.string s] 9)).cell? ((⟨w4.heap.size, 0, none⟩ : Addr).add j) = some u := rnew w4 [.string s] 9 _ rfl
          have hml1 : 0 + 1 ≤ maxLen := by unfold maxLen; omega
          go_wp2_with (at_builtin; refine wpList_append_grows _ rfl (.tmp 15) (.tmp 20) 23 rfl 9 i0 (.string ⟨#[]⟩) 1 16 Try.underlying23 hi0 hq0 hq1 hq2 rfl (by decide) (some ⟨w.heap.size, 0, none⟩) 0 0 [] rfl (fun e => by cases e) rfl (fun b0 e j u hj => by simp at hj) ⟨w4.heap.size, 0, none⟩ 1 1 [.string s] rfl rfl hnc (by intro u hu; simp at hu; subst hu; rfl) (by omega) hml1 (by omega) ?_)
          intro v' w9 hown hgrow
          have hown : ROwn stR w9 (NB + 1) v' [s] := ROwn.from (B := w4.heap.size + 1) hown (by omega)
          obtain ⟨A9, N9, cap9, rfl⟩ := hown.val
          have hN9 : N9 = 1 := hown.len.1
          subst hN9
          have HT9 : Hid (TSt w w9 b _ NB A9 1 cap9 [s]) := Lib.hid (TSt.push (T := []) HS4.out (below_new' w4 (.cells #[.string s] 9)) hgrow (fun g e => by cases e) hown hxs)
          clear hown hgrow hnew hnc
          go_wp2
          go_roundw
          case rel => exact ⟨k + 1, _, cap9, q + 1, A9, _, by omega, by omega, rfl, by go_num, by omega, HT9⟩
          case measure => simp [intOf]; omega
        ·
          have hnew := RAt.made stR w4 [s] w4.heap.size rfl
          have HLN := Lib.hid hown.len.1.symm
          have hml : n + 1 ≤ maxLen := by unfold maxLen; omega
          have hby : (n + 1) * 16 ≤ 140737488355328 := by omega
          have hba : NB + 1 ≤ (w4.alloc (.cells #[.string s] 9)).heap.size := by simp; omega
          have HOW := Lib.hid hown
          have howna := hown.alloc (.cells #[.string s] 9)
          clear hown
          go_wp2_with (at_builtin; refine wpList_append_rows rfl (.tmp 15) (.tmp 20) 23 rfl stR (NB + 1) i0 _ 16 Try.underlying23 hi0 hq0 hq1 hq2 rfl (by decide) _ (T) [s] n HLN.out rfl howna (some ⟨w4.heap.size, 0, none⟩) 1 1 rfl rfl hnew (fun e => by cases e) (fun q e => by cases e; rfl) hml hby hba ?_)
          intro v' w9 hown hgrow hnn
          obtain ⟨A9, N9, cap9, rfl⟩ := hown.val
          have hN9 : N9 = n + 1 := hown.len.1.trans (by rw [List.length_append, HLN.out]; rfl)
          subst hN9
          have HT9 := Lib.hid (TSt.push HS4.out (below_new' w4 (.cells #[.string s] 9)) hgrow (fun g e => by have := (World.ownsRow.lt HOW.out g e).1; omega) hown hxs)
          clear hown hgrow hnn hnew howna
          go_wp2
          go_roundw
          case rel => exact ⟨k + 1, _, cap9, q + 1, A9, _, by omega, by omega, rfl, by go_num, by omega, HT9⟩
          case measure => simp [intOf]; omega
      · have h0' : ((x : Int) == 0) = false := beq_eq_false_iff_ne.2 (by omega)
        go_wp2
        go_roundw
        case rel => exact ⟨k + 1, n, cap, q + 1, A, T, by omega, by omega, rfl, by go_num, by omega, HS4⟩
        case measure => simp [intOf]; omega
    · have h5 : ¬ (k : Int) < 3 := by omega
      have HNL := Lib.hid HS.out.len
      by_cases hn0 : n = 0
      ·
        have hn0' : ((n : Int) == 0) = true := by rw [hn0]; rfl
        go_wp2_with fail
        refine (pick_any b q 4 _ HS.out.1 (by omega) (by omega) (by omega)).mono ?_
        rintro e w4 ⟨x, hx, rfl, hr, hg⟩
        have HS4 := Lib.hid (TSt.read HS.out hr hg)
        clear hr hg
        obtain ⟨s, hsn, hxs⟩ := nms_get hx
        have ks := (HS4.out.2.2.2.2.2.1.cell x).trans hsn
        have x0 : (0 : Int) ≤ (x : Int) := by omega
        have x4 : (x : Int) < 4 := by omega
        subst hn0
        clear hsn hn0'
        have hbs : NB < w4.heap.size := HS4.out.2.2.2.2.1
        rcases HS4.out.2.2.2.2.2.2.2 with ⟨hT, hA, hn, hc, hE⟩ | hown
        ·
          subst hT
          subst hA
          try subst hn
          try subst hc
          have hnew := RAt.made stR w4 [s] w4.heap.size rfl
          have hnc : ∀ j u, [Value.string s][j]? = some u → (w4.alloc (.cells #[.string s] 9)).cell? ((⟨w4.heap.size, 0, none⟩ : Addr).add j) = some u := rnew w4 [.string s] 9 _ rfl
          have hml1 : 0 + 1 ≤ maxLen := by unfold maxLen; omega
          go_wp2_with (at_builtin; refine wpList_append_grows _ rfl (.tmp 25) (.tmp 31) 23 rfl 9 i0 (.string ⟨#[]⟩) 1 16 Try.underlying23 hi0 hq0 hq1 hq2 rfl (by decide) (some ⟨w.heap.size, 0, none⟩) 0 0 [] rfl (fun e => by cases e) rfl (fun b0 e j u hj => by simp at hj) ⟨w4.heap.size, 0, none⟩ 1 1 [.string s] rfl rfl hnc (by intro u hu; simp at hu; subst hu; rfl) (by omega) hml1 (by omega) ?_)
          intro v' w9 hown hgrow
          have hown : ROwn stR w9 (NB + 1) v' [s] := ROwn.from (B := w4.heap.size + 1) hown (by omega)
          obtain ⟨A9, N9, cap9, rfl⟩ := hown.val
          have hN9 : N9 = 1 := hown.len.1
          subst hN9
          have HT9 : Hid (TSt w w9 b _ NB A9 1 cap9 [s]) := Lib.hid (TSt.push (T := []) HS4.out (below_new' w4 (.cells #[.string s] 9)) hgrow (fun g e => by cases e) hown hxs)
          clear hown hgrow hnew hnc
          go_wp2_with fail
          refine (pick_any b (q + 1) 20 _ HT9.out.1 (by omega) (by omega) (by omega)).mono ?_
          rintro e w5 ⟨y, hy, rfl, hr, hg⟩
          have HS5 := Lib.hid (TSt.read HT9.out hr hg)
          clear hr hg
          have HO5 := Lib.hid HS5.out.own
          have HL5 := Lib.hid HO5.out.len.1
          obtain ⟨g5, hg5⟩ : ∃ g, A9 = some ⟨g, 0, none⟩ := by
            obtain ⟨A', c', he, _, _, _, _, hne⟩ := HO5.out.form
            injection he with he1 he2 he3
            subst he1
            exact hne (fun e => by have h9 := HL5.out; rw [e] at h9; first | (simp at h9; done) | (simp at h9; omega))
          subst hg5
          by_cases h0 : y = 0
          ·
            subst h0
            obtain ⟨x, hx⟩ : ∃ x, ([s])[0]? = some x := ⟨_, List.getElem?_eq_getElem (by rw [← HL5.out]; omega)⟩
            have hxs : x.size ≤ 30 := HS5.out.2.2.2.2.2.2.1 x (List.mem_of_getElem? hx)
            obtain ⟨b0, o0, hA0, hb0, k0⟩ := str_at HO5.out.at hx
            cases hA0
            simp only [Nat.add_zero] at k0
            have hn0 : (0 : Int) < ((1 : Nat) : Int) := by omega
            have hnew := RAt.made stR w5 [x] w5.heap.size rfl
            have HLN : Hid (([s]).length = 1) := Lib.hid HL5.out.symm
            have hml : 1 + 1 ≤ maxLen := by unfold maxLen; omega
            have hby : (1 + 1) * 16 ≤ 140737488355328 := by omega
            have hba : w.heap.size ≤ (w5.alloc (.cells #[.string x] 9)).heap.size := by have := HS5.out.2.1.size; simp; omega
            have howna := HO5.out.alloc (.cells #[.string x] 9)
            clear hx
            go_wp2_with (at_builtin; refine wpList_append_rows rfl (.tmp 37) (.tmp 41) 23 rfl stR w.heap.size i0 _ 16 Try.underlying23 hi0 hq0 hq1 hq2 rfl (by decide) _ ([s]) [x] 1 HLN.out rfl howna (some ⟨w5.heap.size, 0, none⟩) 1 1 rfl rfl hnew (fun e => by cases e) (fun q e => by cases e; rfl) hml hby hba ?_)
            intro v' w9 hown hgrow hnn
            obtain ⟨A9, N9, cap9, rfl⟩ := hown.val
            have hN9 := hown.len.1
            have HR9 := Lib.hid (rd_far (HS5.out.1.below (below_new' w5 (.cells #[.string x] 9)) HS5.out.1.lt) hgrow (fun g e => by have h1 := (World.ownsRow.lt HO5.out g e).1; have h2 := HS5.out.2.2.1; omega))
            have HG9 := Lib.hid (gr_far (gr_trans HS5.out.2.1 (gr_below (below_new' w5 (.cells #[.string x] 9)) _)) hgrow (fun g e => (World.ownsRow.lt HO5.out g e).1))
            have HO9 := Lib.hid hown
            clear hown hgrow hnn hnew howna
            go_wp2
            go_ret
            exact ⟨A9, N9, cap9, ([s]) ++ [x], _, rfl, by omega, HR9.out, (by have h9 := HO9.out; first | exact h9 | simpa [List.append_assoc] using h9), HG9.out, by rw [List.length_append, HLN.out]; simp only [List.length_cons, List.length_nil]; omega, small_app HS5.out.2.2.2.2.2.2.1 (fun g hg => by simp at hg; rw [hg]; exact hxs)⟩
          have h0' : ((y : Int) == 0) = false := beq_eq_false_iff_ne.2 (by omega)
          by_cases h1 : y = 1
          ·
            subst h1
            have hc0 : (0 : Int) ≤ (cap9 : Int) := by omega
            have HOF := Lib.hid (HO5.out.front (Nat.zero_le _))
            go_wp2
            go_ret
            exact ⟨_, 0, _, _, _, rfl, by omega, HS5.out.1, HOF.out, HS5.out.2.1, by simp, fun g hg => by simp at hg⟩
          have h1' : ((y : Int) == 1) = false := beq_eq_false_iff_ne.2 (by omega)
          by_cases h2 : y = 2
          ·
            subst h2
            have hnew := RAt.made stR w5 [(⟨#[100, 97, 110]⟩ : ByteArray), ⟨#[101, 118, 101]⟩] w5.heap.size rfl
            have HLN : Hid (([s]).length = 1) := Lib.hid HL5.out.symm
            have hml : 1 + 2 ≤ maxLen := by unfold maxLen; omega
            have hby : (1 + 2) * 16 ≤ 140737488355328 := by omega
            have hba : w.heap.size ≤ (w5.alloc (.cells #[.string ⟨#[100, 97, 110]⟩, .string ⟨#[101, 118, 101]⟩] 9)).heap.size := by have := HS5.out.2.1.size; simp; omega
            have howna := HO5.out.alloc (.cells #[.string ⟨#[100, 97, 110]⟩, .string ⟨#[101, 118, 101]⟩] 9)
            go_wp2_with (at_builtin; refine wpList_append_rows rfl (.tmp 49) (.tmp 50) 23 rfl stR w.heap.size i0 _ 16 Try.underlying23 hi0 hq0 hq1 hq2 rfl (by decide) _ ([s]) [(⟨#[100, 97, 110]⟩ : ByteArray), ⟨#[101, 118, 101]⟩] 1 HLN.out rfl howna (some ⟨w5.heap.size, 0, none⟩) 2 2 rfl rfl hnew (fun e => by cases e) (fun q e => by cases e; rfl) hml hby hba ?_)
            intro v' w9 hown hgrow hnn
            obtain ⟨A9, N9, cap9, rfl⟩ := hown.val
            have hN9 := hown.len.1
            have HR9 := Lib.hid (rd_far (HS5.out.1.below (below_new' w5 (.cells #[.string ⟨#[100, 97, 110]⟩, .string ⟨#[101, 118, 101]⟩] 9)) HS5.out.1.lt) hgrow (fun g e => by have h1 := (World.ownsRow.lt HO5.out g e).1; have h2 := HS5.out.2.2.1; omega))
            have HG9 := Lib.hid (gr_far (gr_trans HS5.out.2.1 (gr_below (below_new' w5 (.cells #[.string ⟨#[100, 97, 110]⟩, .string ⟨#[101, 118, 101]⟩] 9)) _)) hgrow (fun g e => (World.ownsRow.lt HO5.out g e).1))
            have HO9 := Lib.hid hown
            clear hown hgrow hnn hnew howna
            go_wp2
            go_ret
            exact ⟨A9, N9, cap9, ([s]) ++ [(⟨#[100, 97, 110]⟩ : ByteArray), ⟨#[101, 118, 101]⟩], _, rfl, by omega, HR9.out, (by have h9 := HO9.out; first | exact h9 | simpa [List.append_assoc] using h9), HG9.out, by rw [List.length_append, HLN.out]; simp only [List.length_cons, List.length_nil]; omega, small_app HS5.out.2.2.2.2.2.2.1 (fun g hg => by simp at hg; rcases hg with rfl | rfl <;> decide)⟩
          have h2' : ((y : Int) == 2) = false := beq_eq_false_iff_ne.2 (by omega)
          go_wp2
          go_ret
          exact ⟨_, _, _, _, _, rfl, by omega, HS5.out.1, HO5.out, HS5.out.2.1, by have := HL5.out; omega, HS5.out.2.2.2.2.2.2.1⟩
        ·
          have hnew := RAt.made stR w4 [s] w4.heap.size rfl
          have HLN := Lib.hid hown.len.1.symm
          have hml : 0 + 1 ≤ maxLen := by unfold maxLen; omega
          have hby : (0 + 1) * 16 ≤ 140737488355328 := by omega
          have hba : NB + 1 ≤ (w4.alloc (.cells #[.string s] 9)).heap.size := by simp; omega
          have HOW := Lib.hid hown
          have howna := hown.alloc (.cells #[.string s] 9)
          clear hown
          go_wp2_with (at_builtin; refine wpList_append_rows rfl (.tmp 25) (.tmp 31) 23 rfl stR (NB + 1) i0 _ 16 Try.underlying23 hi0 hq0 hq1 hq2 rfl (by decide) _ (T) [s] 0 HLN.out rfl howna (some ⟨w4.heap.size, 0, none⟩) 1 1 rfl rfl hnew (fun e => by cases e) (fun q e => by cases e; rfl) hml hby hba ?_)
          intro v' w9 hown hgrow hnn
          obtain ⟨A9, N9, cap9, rfl⟩ := hown.val
          have hN9 : N9 = 0 + 1 := hown.len.1.trans (by rw [List.length_append, HLN.out]; rfl)
          subst hN9
          have HT9 := Lib.hid (TSt.push HS4.out (below_new' w4 (.cells #[.string s] 9)) hgrow (fun g e => by have := (World.ownsRow.lt HOW.out g e).1; omega) hown hxs)
          clear hown hgrow hnn hnew howna
          go_wp2_with fail
          refine (pick_any b (q + 1) 20 _ HT9.out.1 (by omega) (by omega) (by omega)).mono ?_
          rintro e w5 ⟨y, hy, rfl, hr, hg⟩
          have HS5 := Lib.hid (TSt.read HT9.out hr hg)
          clear hr hg
          have HO5 := Lib.hid HS5.out.own
          have HL5 := Lib.hid HO5.out.len.1
          obtain ⟨g5, hg5⟩ : ∃ g, A9 = some ⟨g, 0, none⟩ := by
            obtain ⟨A', c', he, _, _, _, _, hne⟩ := HO5.out.form
            injection he with he1 he2 he3
            subst he1
            exact hne (fun e => by have h9 := HL5.out; rw [e] at h9; first | (simp at h9; done) | (simp at h9; omega))
          subst hg5
          by_cases h0 : y = 0
          ·
            subst h0
            obtain ⟨x, hx⟩ : ∃ x, (T ++ [s])[0]? = some x := ⟨_, List.getElem?_eq_getElem (by rw [← HL5.out]; omega)⟩
            have hxs : x.size ≤ 30 := HS5.out.2.2.2.2.2.2.1 x (List.mem_of_getElem? hx)
            obtain ⟨b0, o0, hA0, hb0, k0⟩ := str_at HO5.out.at hx
            cases hA0
            simp only [Nat.add_zero] at k0
            have hn0 : (0 : Int) < (((0 + 1) : Nat) : Int) := by omega
            have hnew := RAt.made stR w5 [x] w5.heap.size rfl
            have HLN : Hid ((T ++ [s]).length = (0 + 1)) := Lib.hid HL5.out.symm
            have hml : (0 + 1) + 1 ≤ maxLen := by unfold maxLen; omega
            have hby : ((0 + 1) + 1) * 16 ≤ 140737488355328 := by omega
            have hba : w.heap.size ≤ (w5.alloc (.cells #[.string x] 9)).heap.size := by have := HS5.out.2.1.size; simp; omega
            have howna := HO5.out.alloc (.cells #[.string x] 9)
            clear hx
            go_wp2_with (at_builtin; refine wpList_append_rows rfl (.tmp 37) (.tmp 41) 23 rfl stR w.heap.size i0 _ 16 Try.underlying23 hi0 hq0 hq1 hq2 rfl (by decide) _ (T ++ [s]) [x] (0 + 1) HLN.out rfl howna (some ⟨w5.heap.size, 0, none⟩) 1 1 rfl rfl hnew (fun e => by cases e) (fun q e => by cases e; rfl) hml hby hba ?_)
            intro v' w9 hown hgrow hnn
            obtain ⟨A9, N9, cap9, rfl⟩ := hown.val
            have hN9 := hown.len.1
            have HR9 := Lib.hid (rd_far (HS5.out.1.below (below_new' w5 (.cells #[.string x] 9)) HS5.out.1.lt) hgrow (fun g e => by have h1 := (World.ownsRow.lt HO5.out g e).1; have h2 := HS5.out.2.2.1; omega))
            have HG9 := Lib.hid (gr_far (gr_trans HS5.out.2.1 (gr_below (below_new' w5 (.cells #[.string x] 9)) _)) hgrow (fun g e => (World.ownsRow.lt HO5.out g e).1))
            have HO9 := Lib.hid hown
            clear hown hgrow hnn hnew howna
            go_wp2
            go_ret
            exact ⟨A9, N9, cap9, (T ++ [s]) ++ [x], _, rfl, by omega, HR9.out, (by have h9 := HO9.out; first | exact h9 | simpa [List.append_assoc] using h9), HG9.out, by rw [List.length_append, HLN.out]; simp only [List.length_cons, List.length_nil]; omega, small_app HS5.out.2.2.2.2.2.2.1 (fun g hg => by simp at hg; rw [hg]; exact hxs)⟩
          have h0' : ((y : Int) == 0) = false := beq_eq_false_iff_ne.2 (by omega)
          by_cases h1 : y = 1
          ·
            subst h1
            have hc0 : (0 : Int) ≤ (cap9 : Int) := by omega
            have HOF := Lib.hid (HO5.out.front (Nat.zero_le _))
            go_wp2
            go_ret
            exact ⟨_, 0, _, _, _, rfl, by omega, HS5.out.1, HOF.out, HS5.out.2.1, by simp, fun g hg => by simp at hg⟩
          have h1' : ((y : Int) == 1) = false := beq_eq_false_iff_ne.2 (by omega)
          by_cases h2 : y = 2
          ·
            subst h2
            have hnew := RAt.made stR w5 [(⟨#[100, 97, 110]⟩ : ByteArray), ⟨#[101, 118, 101]⟩] w5.heap.size rfl
            have HLN : Hid ((T ++ [s]).length = (0 + 1)) := Lib.hid HL5.out.symm
            have hml : (0 + 1) + 2 ≤ maxLen := by unfold maxLen; omega
            have hby : ((0 + 1) + 2) * 16 ≤ 140737488355328 := by omega
            have hba : w.heap.size ≤ (w5.alloc (.cells #[.string ⟨#[100, 97, 110]⟩, .string ⟨#[101, 118, 101]⟩] 9)).heap.size := by have := HS5.out.2.1.size; simp; omega
            have howna := HO5.out.alloc (.cells #[.string ⟨#[100, 97, 110]⟩, .string ⟨#[101, 118, 101]⟩] 9)
            go_wp2_with (at_builtin; refine wpList_append_rows rfl (.tmp 49) (.tmp 50) 23 rfl stR w.heap.size i0 _ 16 Try.underlying23 hi0 hq0 hq1 hq2 rfl (by decide) _ (T ++ [s]) [(⟨#[100, 97, 110]⟩ : ByteArray), ⟨#[101, 118, 101]⟩] (0 + 1) HLN.out rfl howna (some ⟨w5.heap.size, 0, none⟩) 2 2 rfl rfl hnew (fun e => by cases e) (fun q e => by cases e; rfl) hml hby hba ?_)
            intro v' w9 hown hgrow hnn
            obtain ⟨A9, N9, cap9, rfl⟩ := hown.val
            have hN9 := hown.len.1
            have HR9 := Lib.hid (rd_far (HS5.out.1.below (below_new' w5 (.cells #[.string ⟨#[100, 97, 110]⟩, .string ⟨#[101, 118, 101]⟩] 9)) HS5.out.1.lt) hgrow (fun g e => by have h1 := (World.ownsRow.lt HO5.out g e).1; have h2 := HS5.out.2.2.1; omega))
            have HG9 := Lib.hid (gr_far (gr_trans HS5.out.2.1 (gr_below (below_new' w5 (.cells #[.string ⟨#[100, 97, 110]⟩, .string ⟨#[101, 118, 101]⟩] 9)) _)) hgrow (fun g e => (World.ownsRow.lt HO5.out g e).1))
            have HO9 := Lib.hid hown
            clear hown hgrow hnn hnew howna
            go_wp2
            go_ret
            exact ⟨A9, N9, cap9, (T ++ [s]) ++ [(⟨#[100, 97, 110]⟩ : ByteArray), ⟨#[101, 118, 101]⟩], _, rfl, by omega, HR9.out, (by have h9 := HO9.out; first | exact h9 | simpa [List.append_assoc] using h9), HG9.out, by rw [List.length_append, HLN.out]; simp only [List.length_cons, List.length_nil]; omega, small_app HS5.out.2.2.2.2.2.2.1 (fun g hg => by simp at hg; rcases hg with rfl | rfl <;> decide)⟩
          have h2' : ((y : Int) == 2) = false := beq_eq_false_iff_ne.2 (by omega)
          go_wp2
          go_ret
          exact ⟨_, _, _, _, _, rfl, by omega, HS5.out.1, HO5.out, HS5.out.2.1, by have := HL5.out; omega, HS5.out.2.2.2.2.2.2.1⟩
      ·
        have hn0' : ((n : Int) == 0) = false := beq_eq_false_iff_ne.2 (by omega)
        go_wp2_with fail
        refine (pick_any b (q) 20 _ HS.out.1 (by omega) (by omega) (by omega)).mono ?_
        rintro e w5 ⟨y, hy, rfl, hr, hg⟩
        have HS5 := Lib.hid (TSt.read HS.out hr hg)
        clear hr hg
        have HO5 := Lib.hid HS5.out.own
        have HL5 := Lib.hid HO5.out.len.1
        obtain ⟨g5, hg5⟩ : ∃ g, A = some ⟨g, 0, none⟩ := by
          obtain ⟨A', c', he, _, _, _, _, hne⟩ := HO5.out.form
          injection he with he1 he2 he3
          subst he1
          exact hne (fun e => by have h9 := HL5.out; rw [e] at h9; first | (simp at h9; done) | (simp at h9; omega))
        subst hg5
        by_cases h0 : y = 0
        ·
          subst h0
          obtain ⟨x, hx⟩ : ∃ x, (T)[0]? = some x := ⟨_, List.getElem?_eq_getElem (by rw [← HL5.out]; omega)⟩
          have hxs : x.size ≤ 30 := HS5.out.2.2.2.2.2.2.1 x (List.mem_of_getElem? hx)
          obtain ⟨b0, o0, hA0, hb0, k0⟩ := str_at HO5.out.at hx
          cases hA0
          simp only [Nat.add_zero] at k0
          have hn0 : (0 : Int) < ((n : Nat) : Int) := by omega
          have hnew := RAt.made stR w5 [x] w5.heap.size rfl
          have HLN : Hid ((T).length = n) := Lib.hid HL5.out.symm
          have hml : n + 1 ≤ maxLen := by unfold maxLen; omega
          have hby : (n + 1) * 16 ≤ 140737488355328 := by omega
          have hba : w.heap.size ≤ (w5.alloc (.cells #[.string x] 9)).heap.size := by have := HS5.out.2.1.size; simp; omega
          have howna := HO5.out.alloc (.cells #[.string x] 9)
          clear hx
          go_wp2_with (at_builtin; refine wpList_append_rows rfl (.tmp 37) (.tmp 41) 23 rfl stR w.heap.size i0 _ 16 Try.underlying23 hi0 hq0 hq1 hq2 rfl (by decide) _ (T) [x] n HLN.out rfl howna (some ⟨w5.heap.size, 0, none⟩) 1 1 rfl rfl hnew (fun e => by cases e) (fun q e => by cases e; rfl) hml hby hba ?_)
          intro v' w9 hown hgrow hnn
          obtain ⟨A9, N9, cap9, rfl⟩ := hown.val
          have hN9 := hown.len.1
          have HR9 := Lib.hid (rd_far (HS5.out.1.below (below_new' w5 (.cells #[.string x] 9)) HS5.out.1.lt) hgrow (fun g e => by have h1 := (World.ownsRow.lt HO5.out g e).1; have h2 := HS5.out.2.2.1; omega))
          have HG9 := Lib.hid (gr_far (gr_trans HS5.out.2.1 (gr_below (below_new' w5 (.cells #[.string x] 9)) _)) hgrow (fun g e => (World.ownsRow.lt HO5.out g e).1))
          have HO9 := Lib.hid hown
          clear hown hgrow hnn hnew howna
          go_wp2
          go_ret
          exact ⟨A9, N9, cap9, (T) ++ [x], _, rfl, by omega, HR9.out, (by have h9 := HO9.out; first | exact h9 | simpa [List.append_assoc] using h9), HG9.out, by rw [List.length_append, HLN.out]; simp only [List.length_cons, List.length_nil]; omega, small_app HS5.out.2.2.2.2.2.2.1 (fun g hg => by simp at hg; rw [hg]; exact hxs)⟩
        have h0' : ((y : Int) == 0) = false := beq_eq_false_iff_ne.2 (by omega)
        by_cases h1 : y = 1
        ·
          subst h1
          have hc0 : (0 : Int) ≤ (cap : Int) := by omega
          have HOF := Lib.hid (HO5.out.front (Nat.zero_le _))
          go_wp2
          go_ret
          exact ⟨_, 0, _, _, _, rfl, by omega, HS5.out.1, HOF.out, HS5.out.2.1, by simp, fun g hg => by simp at hg⟩
        have h1' : ((y : Int) == 1) = false := beq_eq_false_iff_ne.2 (by omega)
        by_cases h2 : y = 2
        ·
          subst h2
          have hnew := RAt.made stR w5 [(⟨#[100, 97, 110]⟩ : ByteArray), ⟨#[101, 118, 101]⟩] w5.heap.size rfl
          have HLN : Hid ((T).length = n) := Lib.hid HL5.out.symm
          have hml : n + 2 ≤ maxLen := by unfold maxLen; omega
          have hby : (n + 2) * 16 ≤ 140737488355328 := by omega
          have hba : w.heap.size ≤ (w5.alloc (.cells #[.string ⟨#[100, 97, 110]⟩, .string ⟨#[101, 118, 101]⟩] 9)).heap.size := by have := HS5.out.2.1.size; simp; omega
          have howna := HO5.out.alloc (.cells #[.string ⟨#[100, 97, 110]⟩, .string ⟨#[101, 118, 101]⟩] 9)
          go_wp2_with (at_builtin; refine wpList_append_rows rfl (.tmp 49) (.tmp 50) 23 rfl stR w.heap.size i0 _ 16 Try.underlying23 hi0 hq0 hq1 hq2 rfl (by decide) _ (T) [(⟨#[100, 97, 110]⟩ : ByteArray), ⟨#[101, 118, 101]⟩] n HLN.out rfl howna (some ⟨w5.heap.size, 0, none⟩) 2 2 rfl rfl hnew (fun e => by cases e) (fun q e => by cases e; rfl) hml hby hba ?_)
          intro v' w9 hown hgrow hnn
          obtain ⟨A9, N9, cap9, rfl⟩ := hown.val
          have hN9 := hown.len.1
          have HR9 := Lib.hid (rd_far (HS5.out.1.below (below_new' w5 (.cells #[.string ⟨#[100, 97, 110]⟩, .string ⟨#[101, 118, 101]⟩] 9)) HS5.out.1.lt) hgrow (fun g e => by have h1 := (World.ownsRow.lt HO5.out g e).1; have h2 := HS5.out.2.2.1; omega))
          have HG9 := Lib.hid (gr_far (gr_trans HS5.out.2.1 (gr_below (below_new' w5 (.cells #[.string ⟨#[100, 97, 110]⟩, .string ⟨#[101, 118, 101]⟩] 9)) _)) hgrow (fun g e => (World.ownsRow.lt HO5.out g e).1))
          have HO9 := Lib.hid hown
          clear hown hgrow hnn hnew howna
          go_wp2
          go_ret
          exact ⟨A9, N9, cap9, (T) ++ [(⟨#[100, 97, 110]⟩ : ByteArray), ⟨#[101, 118, 101]⟩], _, rfl, by omega, HR9.out, (by have h9 := HO9.out; first | exact h9 | simpa [List.append_assoc] using h9), HG9.out, by rw [List.length_append, HLN.out]; simp only [List.length_cons, List.length_nil]; omega, small_app HS5.out.2.2.2.2.2.2.1 (fun g hg => by simp at hg; rcases hg with rfl | rfl <;> decide)⟩
        have h2' : ((y : Int) == 2) = false := beq_eq_false_iff_ne.2 (by omega)
        go_wp2
        go_ret
        exact ⟨_, _, _, _, _, rfl, by omega, HS5.out.1, HO5.out, HS5.out.2.1, by have := HL5.out; omega, HS5.out.2.2.2.2.2.2.1⟩
end Go.Proofs.Ytinbdibenbplnaa
namespace Go.Proofs.Ytinbdibenbplnaa
open Go.RowKit
set_option linter.unusedVariables false

/-- The cursor, and what was made since. -/
def DG (w wr : World) (b q : Nat) : Prop := Rd wr b q ∧ w.grownBy wr (some b)
section
variable {w wr w' : World} {b q q' S : Nat}
theorem DG.read (h : DG w wr b q) (hr : Rd w' b q') (hg : wr.grownBy w' (some b)) : DG w w' b q' := ⟨hr, gr_trans h.2 hg⟩
theorem DG.later (h : DG w wr b q) (hb : Below wr.heap.size wr w') : DG w w' b q := ⟨h.1.below hb h.1.lt, gr_trans h.2 (gr_below hb _)⟩
theorem DG.set (h : DG w wr b q) (hb : b < w.heap.size) (hS : w.heap.size ≤ S) (j : Nat) (u : Value) : DG w (wr.setCell ⟨S, j, none⟩ u) b q := by
  have hg : wr.grownBy (wr.setCell ⟨S, j, none⟩ u) (some S) := gr_store (gr_refl wr _) (.inl rfl) u
  exact ⟨rd_far h.1 hg (fun g e => by cases e; omega), gr_far h.2 hg (fun g e => by cases e; exact hS)⟩
end
def ZL : Array Value := #[.string ⟨#[]⟩, .slice none 0 0, .string ⟨#[]⟩]
/-- A drawn letter. -/
def DrewL (w : World) (b p : Nat) (e : Ending) (w' : World) : Prop := ∃ (us tx : ByteArray) (A : Option Addr) (N cap : Nat) (T : List ByteArray) (q : Nat), e = .returned (.agg #[.string us, .slice A N cap, .string tx]) ∧ q ≤ p + 14 ∧ DG w w' b q ∧ ROwn stR w' w.heap.size (.slice A N cap) T ∧ us.size ≤ 30 ∧ tx.size ≤ 30 ∧ T.length ≤ 6 ∧ (∀ g ∈ T, g.size ≤ 30)
/-- The letter so far, in block 'S'. -/
def LD (w wr : World) (b q S : Nat) (us tx : ByteArray) (A : Option Addr) (N cap : Nat) (T : List ByteArray) : Prop := DG w wr b q ∧ Whole wr S 25 #[.string us, .slice A N cap, .string tx] ∧ Whole wr w.heap.size 25 ZL ∧ ROwn stR wr w.heap.size (.slice A N cap) T ∧ b < w.heap.size ∧ w.heap.size < S
section
variable {w wr w' : World} {b q q' S N cap : Nat} {us tx : ByteArray} {A : Option Addr} {T : List ByteArray}
theorem LD.read (h : LD w wr b q S us tx A N cap T) (hr : Rd w' b q') (hg : wr.grownBy w' (some b)) : LD w w' b q' S us tx A N cap T :=
  ⟨DG.read h.1 hr hg, h.2.1.grown hg (by have := h.2.2.2.2; simp; omega), h.2.2.1.grown hg (by have := h.2.2.2.2; simp; omega), h.2.2.2.1.grown hg h.2.2.2.2.1, h.2.2.2.2⟩
theorem LD.user (h : LD w wr b q S us tx A N cap T) (us' : ByteArray) : LD w (wr.setCell ⟨S, 0, none⟩ (.string us')) b q S us' tx A N cap T := by
  have hS : w.heap.size ≠ S := by have := h.2.2.2.2.2; omega
  exact ⟨h.1.set h.2.2.2.2.1 (Nat.le_of_lt h.2.2.2.2.2) 0 _, h.2.1.store 0 _, h.2.2.1.apart (p := ⟨S, 0, none⟩) hS _, h.2.2.2.1.store (p := ⟨S, 0, none⟩) (h.2.2.2.1.whole h.2.1 (by decide)) _, h.2.2.2.2⟩
/-- The result is stored. -/
theorem LD.done (h : LD w wr b q S us tx A N cap T) (a0 a1 a2 : Value) : DG w (((wr.setCell ⟨w.heap.size, 0, none⟩ a0).setCell ⟨w.heap.size, 1, none⟩ a1).setCell ⟨w.heap.size, 2, none⟩ a2) b q ∧ ROwn stR (((wr.setCell ⟨w.heap.size, 0, none⟩ a0).setCell ⟨w.heap.size, 1, none⟩ a1).setCell ⟨w.heap.size, 2, none⟩ a2) w.heap.size (.slice A N cap) T ∧ Whole (((wr.setCell ⟨w.heap.size, 0, none⟩ a0).setCell ⟨w.heap.size, 1, none⟩ a1).setCell ⟨w.heap.size, 2, none⟩ a2) w.heap.size 25 #[a0, a1, a2] := by
  have hb := h.2.2.2.2.1
  have hn := h.2.2.2.1.whole h.2.2.1 (by decide)
  exact ⟨((h.1.set hb (Nat.le_refl _) 0 a0).set hb (Nat.le_refl _) 1 a1).set hb (Nat.le_refl _) 2 a2, ((h.2.2.2.1.store (p := ⟨w.heap.size, 0, none⟩) hn a0).store (p := ⟨w.heap.size, 1, none⟩) hn a1).store (p := ⟨w.heap.size, 2, none⟩) hn a2, ((h.2.2.1.store 0 a0).store 1 a1).store 2 a2⟩
end
set_option maxRecDepth 20000 in
set_option maxHeartbeats 4000000 in
theorem letter_draw (b p : Nat) (w : World) (h : Rd w b p) (hp : p ≤ 700000) : Calls Try.prog 45 #[.pointer (some ⟨b, 0, none⟩)] w (DrewL w b p) := by
  have hbl := h.lt
  obtain ⟨E, hE⟩ : ∃ E, w.heap.size = E := ⟨_, rfl⟩
  obtain ⟨wz, hwz⟩ : ∃ wz, w.alloc (.cells #[.string ⟨#[]⟩, .slice none 0 0, .string ⟨#[]⟩] 25) = wz := ⟨_, rfl⟩
  have HZ := Lib.hid hwz
  have hbz : Below w.heap.size w wz := by rw [← hwz]; exact below_new' _ _
  have HS : Hid (E + 1 = wz.heap.size) := Lib.hid (by rw [← hwz, ← hE]; simp)
  have HD := Lib.hid (show DG w wz b p from ⟨h.below hbz hbl, gr_below hbz _⟩)
  have HW := Lib.hid (show Whole wz E 25 ZL by rw [← hwz, ← hE]; exact Whole.made w _ _)
  have HE := Lib.hid hE
  have hbE : b < E := by omega
  clear h hwz hbz hE
  go_enter Try.func45, Try.ntmps45
  go_wp2_with fail
  rw [HE.out, HZ.out, HS.out]
  refine (of_new b p [[97, 109, 121], [98, 111, 98], [99, 121, 100]] wz HD.out.1 (by omega) (by decide) (by decide)).mono ?_
  rintro e w1 ⟨l, hl, rfl, hr, hg⟩
  have HD1 := Lib.hid (HD.out.read hr hg)
  have HW1 := Lib.hid (HW.out.grown hg (by simp; omega))
  have HU := Lib.hid (text_le (by decide) hl)
  clear hr hg hl
  unfold str
  obtain ⟨us, hus⟩ : ∃ us, (⟨l.toArray⟩ : ByteArray) = us := ⟨_, rfl⟩
  rw [hus]
  rw [hus] at HU
  clear hus
  go_wp2_with fail
  refine (to_draw b (p + 1) w1 HD1.out.1 (by omega)).mono ?_
  rintro e w2 ⟨A, N, cap, T, q, rfl, hq, hr, ho, hg, hTl, hTs⟩
  have HD2 := Lib.hid (HD1.out.read hr hg)
  have HW2 := Lib.hid (HW1.out.grown hg (by simp; omega))
  have HT2 := Lib.hid (And.intro (show ROwn stR w2 E (.slice A N cap) T from ho.from (by have := HD1.out.2.size; have := HE.out; omega)) (And.intro hTl hTs))
  clear hr hg ho hTl hTs
  go_wp2_with fail
  refine (text_draw b q w2 HD2.out.1 (by omega)).mono ?_
  rintro e w3 ⟨t, q2, ht, hq2, rfl, hr, hg⟩
  obtain ⟨tx, htx⟩ : ∃ tx, rB t = tx := ⟨_, rfl⟩
  have HX : Hid (tx.size ≤ 30) := Lib.hid (by rw [← htx, rB_size]; exact ht)
  rw [htx]
  have hD3 := HD2.out.read hr hg
  have hW3 := HW2.out.grown hg (by simp; omega)
  have hO3 := HT2.out.1.grown hg (by omega)
  obtain ⟨S, hS⟩ : ∃ S, w3.heap.size = S := ⟨_, rfl⟩
  obtain ⟨wa, hwa⟩ : ∃ wa, w3.alloc (.cells #[.string us, .slice A N cap, .string tx] 25) = wa := ⟨_, rfl⟩
  have hbn : Below w3.heap.size w3 wa := by rw [← hwa]; exact below_new' _ _
  have HL := Lib.hid (show LD w wa b q2 S us tx A N cap T from ⟨hD3.later hbn, by rw [← hwa, ← hS]; exact Whole.made _ _ _, by rw [HE.out]; exact hW3.below hbn hW3.lt, by rw [HE.out]; exact hO3.kept hbn, by rw [HE.out]; exact hbE, by rw [HE.out, ← hS]; exact hW3.lt⟩)
  have HWA := Lib.hid hwa
  have HSS := Lib.hid hS
  clear hr hg hD3 hW3 hO3 hbn htx hwa hS ht
  go_wp2_with fail
  rw [HWA.out, HSS.out]
  refine (pick_any b q2 24 wa HL.out.1.1 (by omega) (by omega) (by omega)).mono ?_
  rintro e w5 ⟨x, hx, rfl, hr, hg⟩
  have HL5 := Lib.hid (HL.out.read hr hg)
  clear hr hg
  by_cases h0 : x = 0
  · subst h0
    go_wp2_with fail
    refine (name_text b (q2 + 1) w5 HL5.out.1.1 (by omega)).mono ?_
    rintro e w6 ⟨s, hs, rfl, hr, hg⟩
    have hL6 := HL5.out.read hr hg
    have f0 := hL6.2.1.free 0
    have d0 := hL6.2.1.cell 0
    have HL6 := Lib.hid (hL6.user s)
    clear hr hg hL6
    simp only [List.getElem?_toArray, List.getElem?_cons_zero] at d0
    have hs2 := HL6.out.2.1
    have hz2 := HL6.out.2.2.1
    have hf := HL6.out.done (.string s) (.slice A N cap) (.string tx) |>.2.2
    have c0 := hs2.cell 0
    have c1 := hs2.cell 1
    have c2 := hs2.cell 2
    have z0 := hz2.cell 0
    have z1 := hz2.cell 1
    have z2 := hz2.cell 2
    have f10 := hz2.free 0
    have f11 := hz2.free 1
    have f12 := hz2.free 2
    have r0 := hf.cell 0
    have r1 := hf.cell 1
    have r2 := hf.cell 2
    unfold ZL at z0 z1 z2
    simp only [List.getElem?_toArray, List.getElem?_cons_zero, List.getElem?_cons_succ] at c0 c1 c2 z0 z1 z2 r0 r1 r2
    rw [HE.out] at r0 r1 r2 z0 z1 z2 f10 f11 f12
    clear hs2 hz2 hf
    go_wp2
    refine bodyPost_ret (v := .agg #[.string s, .slice A N cap, .string tx]) (by simp [results, Try.results45, go_sem, r0, r1, r2]) rfl ?_
    have hfin := HL6.out.done (.string s) (.slice A N cap) (.string tx)
    rw [HE.out] at hfin
    exact ⟨s, tx, A, N, cap, T, q2 + 1 + 2, rfl, by omega, hfin.1, by rw [HE.out]; exact hfin.2.1, Nat.le_trans hs (by omega), HX.out, HT2.out.2.1, HT2.out.2.2⟩
  · have h0' : ((x : Int) == 0) = false := beq_eq_false_iff_ne.2 (by omega)
    have hs2 := HL5.out.2.1
    have hz2 := HL5.out.2.2.1
    have hf := HL5.out.done (.string us) (.slice A N cap) (.string tx) |>.2.2
    have c0 := hs2.cell 0
    have c1 := hs2.cell 1
    have c2 := hs2.cell 2
    have z0 := hz2.cell 0
    have z1 := hz2.cell 1
    have z2 := hz2.cell 2
    have f10 := hz2.free 0
    have f11 := hz2.free 1
    have f12 := hz2.free 2
    have r0 := hf.cell 0
    have r1 := hf.cell 1
    have r2 := hf.cell 2
    unfold ZL at z0 z1 z2
    simp only [List.getElem?_toArray, List.getElem?_cons_zero, List.getElem?_cons_succ] at c0 c1 c2 z0 z1 z2 r0 r1 r2
    rw [HE.out] at r0 r1 r2 z0 z1 z2 f10 f11 f12
    clear hs2 hz2 hf
    go_wp2
    refine bodyPost_ret (v := .agg #[.string us, .slice A N cap, .string tx]) (by simp [results, Try.results45, go_sem, r0, r1, r2]) rfl ?_
    have hfin := HL5.out.done (.string us) (.slice A N cap) (.string tx)
    rw [HE.out] at hfin
    exact ⟨us, tx, A, N, cap, T, q2 + 1, rfl, by omega, hfin.1, by rw [HE.out]; exact hfin.2.1, HU.out, HX.out, HT2.out.2.1, HT2.out.2.2⟩
end Go.Proofs.Ytinbdibenbplnaa
