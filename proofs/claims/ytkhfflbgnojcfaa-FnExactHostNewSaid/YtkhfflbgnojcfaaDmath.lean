/-
  Groups of bytes and of signs, as the code takes them: what a group of signs stands for, and that a text which is read and written again is the same just where it is a text of bytes. Plain definitions and lemmas; no condition.
-/
import Derived.Test.YtkhfflbgnojcfaaBplain
namespace Go.Proofs.Ytkhfflbgnojcfaa
set_option linter.unusedVariables false

/-- 'xs' are the groups of at most 'n' of 'l', one after the other. -/
def Grp (n : Nat) : List (List UInt8) → List UInt8 → Prop
  | [], l => l = []
  | x :: xs, l => x = l.take n ∧ l ≠ [] ∧ Grp n xs (l.drop n)
theorem grp_enc : ∀ (xs : List (List UInt8)) (l : List UInt8), Grp 3 xs l → xs.flatMap enc = enc l
  | [], l, h => by have h' : l = [] := h; subst h'; rfl
  | x :: xs, l, ⟨hx, hl, hr⟩ => by
    have ih := grp_enc xs _ hr
    rw [List.flatMap_cons, ih, hx]
    match l with
    | [] => exact absurd rfl hl
    | [a] => rfl
    | [a, b] => rfl
    | a :: b :: c :: t => rw [enc_more]; rfl

/-- The number that the first 'k' signs of a group stand for. -/
def acc (l : List UInt8) : Nat → Nat
  | 0 => 0
  | 1 => 262144 * val (l.getD 0 61)
  | 2 => 262144 * val (l.getD 0 61) + 4096 * val (l.getD 1 61)
  | 3 => 262144 * val (l.getD 0 61) + 4096 * val (l.getD 1 61) + 64 * val (l.getD 2 61)
  | _ => 262144 * val (l.getD 0 61) + 4096 * val (l.getD 1 61) + 64 * val (l.getD 2 61) + val (l.getD 3 61)
/-- How many signs lead a group. -/
def leads : List UInt8 → Nat
  | [] => 0
  | a :: t => if (num a).isSome then leads t + 1 else 0
theorem leads_le : ∀ l : List UInt8, leads l ≤ l.length
  | [] => Nat.le_refl _
  | a :: t => by
    have := leads_le t
    unfold leads
    split
    · simp only [List.length_cons]; omega
    · exact Nat.zero_le _
/-- The three bytes of a number. -/
def three (n : Nat) : List UInt8 := [UInt8.ofNat (n / 65536 % 256), UInt8.ofNat (n / 256 % 256), UInt8.ofNat (n % 256)]
/-- The bytes for which a group of at most four signs stands. -/
def decG (l : List UInt8) : List UInt8 := (three (acc l (leads l))).take (leads l - 1)
theorem decG_len (l : List UInt8) : (decG l).length ≤ 3 := by unfold decG three; rw [List.length_take]; simp; omega
/-- The bytes for which a text of groups of four signs stands. -/
def dg : List UInt8 → List UInt8
  | a :: b :: c :: d :: t => decG [a, b, c, d] ++ dg t
  | [] => []
  | l => decG l
theorem dg_more (a b c d : UInt8) (t : List UInt8) : dg (a :: b :: c :: d :: t) = decG [a, b, c, d] ++ dg t := rfl
theorem grp_dg : ∀ (xs : List (List UInt8)) (l : List UInt8), Grp 4 xs l → xs.flatMap decG = dg l
  | [], l, h => by have h' : l = [] := h; subst h'; rfl
  | x :: xs, l, ⟨hx, hl, hr⟩ => by
    have ih := grp_dg xs _ hr
    rw [List.flatMap_cons, ih, hx]
    match l with
    | [] => exact absurd rfl hl
    | [a] => show decG [a] ++ dg [] = dg [a]; exact List.append_nil _
    | [a, b] => show decG [a, b] ++ dg [] = dg [a, b]; exact List.append_nil _
    | [a, b, c] => show decG [a, b, c] ++ dg [] = dg [a, b, c]; exact List.append_nil _
    | a :: b :: c :: d :: t => rw [dg_more]; rfl

theorem num_sig_some {n : Nat} (h : n < 64) : (num (sig n)).isSome = true := by rw [num_sig h]; rfl
theorem none61 : (num 61).isSome = false := by rw [num61]; rfl
theorem decG_full (n : Nat) (h : n < 16777216) : decG [q0 n, q1 n, q2 n, q3 n] = three n := by
  have e : leads [q0 n, q1 n, q2 n, q3 n] = 4 := by
    unfold q0 q1 q2 q3
    simp only [leads, num_sig_some (q0_lt h), num_sig_some (show n / 4096 % 64 < 64 by omega), num_sig_some (show n / 64 % 64 < 64 by omega), num_sig_some (show n % 64 < 64 by omega), if_true]
  unfold decG
  rw [e]
  have ea : acc [q0 n, q1 n, q2 n, q3 n] 4 = n := by
    show 262144 * val (q0 n) + 4096 * val (q1 n) + 64 * val (q2 n) + val (q3 n) = n
    unfold q0 q1 q2 q3
    rw [val_sig (q0_lt h), val_sig (by omega), val_sig (by omega), val_sig (by omega)]
    omega
  rw [ea]
  rfl
theorem decG_two (n : Nat) (h : n < 16777216) (h6 : n % 64 = 0) : decG [q0 n, q1 n, q2 n, 61] = (three n).take 2 := by
  have e : leads [q0 n, q1 n, q2 n, 61] = 3 := by
    unfold q0 q1 q2
    simp only [leads, num_sig_some (q0_lt h), num_sig_some (show n / 4096 % 64 < 64 by omega), num_sig_some (show n / 64 % 64 < 64 by omega), none61, if_true, Bool.false_eq_true, if_false]
  unfold decG
  rw [e]
  have ea : acc [q0 n, q1 n, q2 n, 61] 3 = n := by
    show 262144 * val (q0 n) + 4096 * val (q1 n) + 64 * val (q2 n) = n
    unfold q0 q1 q2
    rw [val_sig (q0_lt h), val_sig (by omega), val_sig (by omega)]
    omega
  rw [ea]
theorem decG_one (n : Nat) (h : n < 16777216) (h6 : n % 4096 = 0) : decG [q0 n, q1 n, 61, 61] = (three n).take 1 := by
  have e : leads [q0 n, q1 n, 61, 61] = 2 := by
    unfold q0 q1
    simp only [leads, num_sig_some (q0_lt h), num_sig_some (show n / 4096 % 64 < 64 by omega), none61, if_true, Bool.false_eq_true, if_false]
  unfold decG
  rw [e]
  have ea : acc [q0 n, q1 n, 61, 61] 2 = n := by
    show 262144 * val (q0 n) + 4096 * val (q1 n) = n
    unfold q0 q1
    rw [val_sig (q0_lt h), val_sig (by omega)]
    omega
  rw [ea]
theorem three24 (a b c : UInt8) : three (n24 a b c) = [a, b, c] := by
  have := a.toNat_lt; have := b.toNat_lt; have := c.toNat_lt
  unfold three n24
  rw [byte_back a _ (by omega), byte_back b _ (by omega), byte_back c _ (by omega)]
/-- The bytes come back. -/
theorem dg_enc : ∀ s : List UInt8, dg (enc s) = s
  | [] => rfl
  | [a] => by
    have hz : (0 : UInt8).toNat = 0 := rfl
    rw [enc_one, dg_more, decG_one _ (n24_lt a 0 0) (by unfold n24; rw [hz]; omega), three24]
    rfl
  | [a, b] => by
    have hz : (0 : UInt8).toNat = 0 := rfl
    rw [enc_two, dg_more, decG_two _ (n24_lt a b 0) (by unfold n24; rw [hz]; omega), three24]
    rfl
  | a :: b :: c :: t => by
    rw [enc_more, dg_more, decG_full _ (n24_lt a b c), three24, dg_enc t]
    rfl
theorem dg_len : ∀ l : List UInt8, (dg l).length ≤ l.length
  | [] => Nat.le_refl _
  | [a] => by show (decG [a]).length ≤ 1; unfold decG; rw [List.length_take]; have := leads_le [a]; simp only [List.length_cons, List.length_nil] at this; omega
  | [a, b] => by show (decG [a, b]).length ≤ 2; unfold decG; rw [List.length_take]; have := leads_le [a, b]; simp only [List.length_cons, List.length_nil] at this; omega
  | [a, b, c] => by show (decG [a, b, c]).length ≤ 3; exact decG_len _
  | a :: b :: c :: d :: t => by
    rw [dg_more, List.length_append]
    have := decG_len [a, b, c, d]
    have := dg_len t
    simp only [List.length_cons]
    omega
/-- What is read and written again, and is the same: it is a text of these bytes. -/
theorem dg_same {text : List UInt8} (hl : (dg text).length ≤ 30) (h : enc (dg text) = text) : Dec text true (dg text) := ⟨fun _ => ⟨hl, h⟩, fun h => by cases h⟩
theorem dg_other {text : List UInt8} (h : (dg text).length ≤ 30 → enc (dg text) ≠ text) : Dec text false [] := ⟨fun h => (by cases h), fun _ => ⟨rfl, by
  rintro t ht rfl
  rw [dg_enc] at h
  exact h ht rfl⟩⟩

/-- One more sign. -/
theorem leads_step {l : List UInt8} {k : Nat} (hk : k < l.length) (h : k ≤ leads l) (hs : (num l[k]).isSome = true) : k + 1 ≤ leads l := by
  induction l generalizing k with
  | nil => simp at hk
  | cons a t ih =>
    cases k with
    | zero =>
      have hs' : (num a).isSome = true := hs
      unfold leads
      rw [if_pos hs']
      omega
    | succ k =>
      unfold leads at h ⊢
      split at h
      · rename_i ha
        rw [if_pos ha]
        have := ih (k := k) (by simpa using hk) (by omega) hs
        omega
      · omega
theorem leads_stop {l : List UInt8} {k : Nat} (hk : k < l.length) (h : k ≤ leads l) (hs : (num l[k]).isSome = false) : leads l = k := by
  induction l generalizing k with
  | nil => simp at hk
  | cons a t ih =>
    cases k with
    | zero =>
      have hs' : (num a).isSome = false := hs
      unfold leads
      rw [if_neg (by rw [hs']; decide)]
    | succ k =>
      unfold leads at h ⊢
      split at h
      · rename_i ha
        rw [if_pos ha]
        have := ih (k := k) (by simpa using hk) (by omega) hs
        omega
      · omega
theorem acc_lt (l : List UInt8) (k : Nat) : acc l k < 16777216 := by
  have h0 := val_lt (l.getD 0 61)
  have h1 := val_lt (l.getD 1 61)
  have h2 := val_lt (l.getD 2 61)
  have h3 := val_lt (l.getD 3 61)
  match k with
  | 0 => show 0 < _; omega
  | 1 => show 262144 * val (l.getD 0 61) < _; omega
  | 2 => show 262144 * val (l.getD 0 61) + 4096 * val (l.getD 1 61) < _; omega
  | 3 => show 262144 * val (l.getD 0 61) + 4096 * val (l.getD 1 61) + 64 * val (l.getD 2 61) < _; omega
  | k + 4 => show 262144 * val (l.getD 0 61) + 4096 * val (l.getD 1 61) + 64 * val (l.getD 2 61) + val (l.getD 3 61) < _; omega
theorem acc_step1 (l : List UInt8) : acc l 1 = acc l 0 + 262144 * val (l.getD 0 61) := by show 262144 * val (l.getD 0 61) = 0 + _; omega
theorem acc_step2 (l : List UInt8) : acc l 2 = acc l 1 + 4096 * val (l.getD 1 61) := rfl
theorem acc_step3 (l : List UInt8) : acc l 3 = acc l 2 + 64 * val (l.getD 2 61) := rfl
theorem acc_step4 (l : List UInt8) : acc l 4 = acc l 3 + val (l.getD 3 61) := rfl
theorem acc_mod1 (l : List UInt8) : acc l 1 % 262144 = 0 := by show 262144 * val (l.getD 0 61) % 262144 = 0; omega
theorem acc_mod2 (l : List UInt8) : acc l 2 % 4096 = 0 := by show (262144 * val (l.getD 0 61) + 4096 * val (l.getD 1 61)) % 4096 = 0; omega
theorem acc_mod3 (l : List UInt8) : acc l 3 % 64 = 0 := by show (262144 * val (l.getD 0 61) + 4096 * val (l.getD 1 61) + 64 * val (l.getD 2 61)) % 64 = 0; omega
end Go.Proofs.Ytkhfflbgnojcfaa
