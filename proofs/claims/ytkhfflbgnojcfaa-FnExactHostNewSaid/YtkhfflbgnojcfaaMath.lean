/-
  The plain mathematics of names, domains and addresses on lists of bytes. Plain definitions and lemmas; no condition.
-/
import Derived.WalkKit
namespace Go.Proofs.Ytkhfflbgnojcfaa

/-- A sign of a name. -/
def sgn (c : UInt8) : Bool := decide ((97 ≤ c.toNat ∧ c.toNat ≤ 122) ∨ (48 ≤ c.toNat ∧ c.toNat ≤ 57))
/-- A name. -/
def nameB (l : List UInt8) : Bool := l.all sgn && decide (1 ≤ l.length) && decide (l.length ≤ 8)
/-- How many signs of a name follow from place 'k' on. -/
def nmLen (L : List UInt8) (k : Nat) : Nat := ((L.drop k).takeWhile sgn).length

theorem nmLen_go (L : List UInt8) (k : Nat) (h : k < L.length) (hs : sgn L[k] = true) : nmLen L k = nmLen L (k + 1) + 1 := by
  unfold nmLen
  rw [List.drop_eq_getElem_cons h, List.takeWhile_cons, if_pos hs, List.length_cons]
theorem nmLen_stop (L : List UInt8) (k : Nat) (h : k < L.length) (hs : sgn L[k] = false) : nmLen L k = 0 := by
  unfold nmLen
  rw [List.drop_eq_getElem_cons h, List.takeWhile_cons, if_neg (by simp [hs])]
  rfl
theorem nmLen_end (L : List UInt8) (k : Nat) (h : L.length ≤ k) : nmLen L k = 0 := by
  unfold nmLen
  rw [List.drop_eq_nil_of_le h]
  rfl
theorem nmLen_le (L : List UInt8) (k : Nat) (h : k ≤ L.length) : k + nmLen L k ≤ L.length := by
  unfold nmLen
  have h1 := (List.takeWhile_sublist sgn (l := L.drop k)).length_le
  rw [List.length_drop] at h1
  omega

/-- The length of a name. -/
def okLen (n : Nat) : Bool := decide (1 ≤ n) && decide (n ≤ 8)

/-- The next byte is 'c'. -/
def nextIs (L : List UInt8) (k : Nat) (c : UInt8) : Bool := L[k]? == some c
/-- Further names of a domain, at most 'n' of them; whether the last one was a name, and where they end. -/
def domGo (L : List UInt8) : Nat → Bool → Nat → Bool × Nat
  | 0, ok, k => (ok, k)
  | n + 1, ok, k => if ok && nextIs L k 46 then domGo L n (okLen (nmLen L (k + 1))) (k + 1 + nmLen L (k + 1)) else (ok, k)
/-- Where the names of a domain end. -/
def domEnd (L : List UInt8) (k : Nat) : Nat := (domGo L 2 (okLen (nmLen L k)) (k + nmLen L k)).2
/-- Whether a domain stands from place 'k' on. -/
def domOk (L : List UInt8) (k : Nat) : Bool := (domGo L 2 (okLen (nmLen L k)) (k + nmLen L k)).1 && decide (domEnd L k - k ≤ 20)

/-- Whether a user, an at sign and a domain stand from place 'k' on. -/
def adOk (L : List UInt8) (k : Nat) : Bool := okLen (nmLen L k) && nextIs L (k + nmLen L k) 64 && domOk L (k + nmLen L k + 1)
/-- Where the domain ends. -/
def adEnd (L : List UInt8) (k : Nat) : Nat := domEnd L (k + nmLen L k + 1)
/-- The user. -/
def adUser (L : List UInt8) (k : Nat) : List UInt8 := (L.drop k).take (nmLen L k)
/-- The domain. -/
def adDom (L : List UInt8) (k : Nat) : List UInt8 := (L.drop (k + nmLen L k + 1)).take (adEnd L k - (k + nmLen L k + 1))

/-- Whether the whole text is an address. -/
def apB (L : List UInt8) : Bool := adOk L 0 && decide (adEnd L 0 = L.length)
/-- Whether a path in brackets stands. -/
def ppB (L : List UInt8) : Bool := nextIs L 0 60 && adOk L 1 && nextIs L (adEnd L 1) 62 && decide (adEnd L 1 + 1 = L.length)

theorem domGo_off (L : List UInt8) (n k : Nat) : domGo L n false k = (false, k) := by cases n <;> rfl
theorem domGo_zero (L : List UInt8) (o : Bool) (k : Nat) : domGo L 0 o k = (o, k) := rfl
theorem domGo_no (L : List UInt8) (n k : Nat) (o : Bool) (h : nextIs L k 46 = false) : domGo L n o k = (o, k) := by
  cases n with
  | zero => rfl
  | succ n => unfold domGo; rw [h]; simp
theorem domGo_yes (L : List UInt8) (n k : Nat) (h : nextIs L k 46 = true) : domGo L (n + 1) true k = domGo L n (okLen (nmLen L (k + 1))) (k + 1 + nmLen L (k + 1)) := by
  conv => lhs; unfold domGo
  rw [h]; simp
theorem nextIs_lt {L : List UInt8} {k : Nat} {c : UInt8} (h : nextIs L k c = true) : k < L.length := by
  unfold nextIs at h
  rcases Nat.lt_or_ge k L.length with h1 | h1
  · exact h1
  · rw [List.getElem?_eq_none h1] at h; cases h

theorem int_beq (a b : Nat) : ((a : Int) == (b : Int)) = decide (a = b) := by
  rw [Bool.eq_iff_iff]; simp; omega
theorem extract_list (s : ByteArray) (a b : Nat) : (s.extract a b).data.toList = (s.data.toList.drop a).take (b - a) := by
  rw [ByteArray.data_extract, Array.toList_extract, List.extract_eq_take_drop]
end Go.Proofs.Ytkhfflbgnojcfaa
