/-
  Base64 on lists of bytes: signs, groups, encoding and its inverse. Plain definitions and lemmas; no condition.
-/
import Derived.WalkKit
namespace Go.Proofs.Ytkhfflbgnojcfaa
set_option linter.unusedVariables false

/-- The sign of a number of six bits. -/
def sigN (n : Nat) : Nat := if n < 26 then 65 + n else if n < 52 then 71 + n else if n < 62 then n - 4 else if n = 62 then 43 else 47
def sig (n : Nat) : UInt8 := UInt8.ofNat (sigN n)
/-- The number of a sign, if it has one. -/
def numN (c : Nat) : Option Nat := if 65 ≤ c ∧ c ≤ 90 then some (c - 65) else if 97 ≤ c ∧ c ≤ 122 then some (c - 71) else if 48 ≤ c ∧ c ≤ 57 then some (c + 4) else if c = 43 then some 62 else if c = 47 then some 63 else none
def num (c : UInt8) : Option Nat := numN c.toNat
theorem sigN_lt (n : Nat) : sigN n < 123 + n := by unfold sigN; split <;> (try split) <;> (try split) <;> (try split) <;> omega
theorem sig_nat {n : Nat} (h : n < 64) : (sig n).toNat = sigN n := by
  unfold sig
  rw [UInt8.toNat_ofNat']
  exact Nat.mod_eq_of_lt (by have := sigN_lt n; omega)
theorem num_sigN {n : Nat} (h : n < 64) : numN (sigN n) = some n := by
  unfold sigN
  unfold numN
  split
  · rw [if_pos (by omega)]; congr 1; omega
  · split
    · rw [if_neg (by omega), if_pos (by omega)]; congr 1; omega
    · split
      · rw [if_neg (by omega), if_neg (by omega), if_pos (by omega)]; congr 1; omega
      · split
        · rw [if_neg (by omega), if_neg (by omega), if_neg (by omega), if_pos (by omega)]; congr 1; omega
        · rw [if_neg (by omega), if_neg (by omega), if_neg (by omega), if_neg (by omega), if_pos (by omega)]; congr 1; omega
theorem num_sig {n : Nat} (h : n < 64) : num (sig n) = some n := by unfold num; rw [sig_nat h]; exact num_sigN h
theorem sig_inj {a b : Nat} (ha : a < 64) (hb : b < 64) (h : sig a = sig b) : a = b := by
  have h1 := num_sig ha
  rw [h, num_sig hb] at h1
  exact (Option.some.inj h1).symm
theorem numN_some {c n : Nat} (h : numN c = some n) : n < 64 ∧ sigN n = c := by
  unfold numN at h
  unfold sigN
  repeat' (split at h)
  all_goals (first | (cases h; fail) | skip)
  all_goals (try (injection h with h))
  · subst h; refine ⟨by omega, ?_⟩; rw [if_pos (by omega)]; omega
  · subst h; refine ⟨by omega, ?_⟩; rw [if_neg (by omega), if_pos (by omega)]; omega
  · subst h; refine ⟨by omega, ?_⟩; rw [if_neg (by omega), if_neg (by omega), if_pos (by omega)]; omega
  · subst h; refine ⟨by omega, ?_⟩; rw [if_neg (by omega), if_neg (by omega), if_neg (by omega), if_pos (by omega)]; omega
  · subst h; refine ⟨by omega, ?_⟩; rw [if_neg (by omega), if_neg (by omega), if_neg (by omega), if_neg (by omega)]; omega
  · cases h
theorem num_some {c : UInt8} {n : Nat} (h : num c = some n) : n < 64 ∧ sig n = c := by
  obtain ⟨h1, h2⟩ := numN_some h
  refine ⟨h1, UInt8.toNat_inj.1 ?_⟩
  rw [sig_nat h1, h2]
theorem num_none {c : UInt8} (h : num c = none) : ∀ n, n < 64 → sig n ≠ c := by
  rintro n hn rfl
  rw [num_sig hn] at h
  cases h
theorem sig_ne {n : Nat} (h : n < 64) {c : UInt8} (hc : num c = none) : sig n ≠ c := num_none hc n h
theorem num61 : num 61 = none := by decide
theorem num45 : num 45 = none := by decide

/-- The four signs of a number of 24 bits. -/
def q0 (n : Nat) : UInt8 := sig (n / 262144)
def q1 (n : Nat) : UInt8 := sig (n / 4096 % 64)
def q2 (n : Nat) : UInt8 := sig (n / 64 % 64)
def q3 (n : Nat) : UInt8 := sig (n % 64)
/-- The number of three bytes. -/
def n24 (a b c : UInt8) : Nat := 65536 * a.toNat + 256 * b.toNat + c.toNat
theorem n24_lt (a b c : UInt8) : n24 a b c < 16777216 := by
  unfold n24
  have := a.toNat_lt; have := b.toNat_lt; have := c.toNat_lt
  omega
/-- The text of bytes. -/
def enc : List UInt8 → List UInt8
  | [] => []
  | [a] => [q0 (n24 a 0 0), q1 (n24 a 0 0), 61, 61]
  | [a, b] => [q0 (n24 a b 0), q1 (n24 a b 0), q2 (n24 a b 0), 61]
  | a :: b :: c :: t => q0 (n24 a b c) :: q1 (n24 a b c) :: q2 (n24 a b c) :: q3 (n24 a b c) :: enc t
theorem enc_nil : enc [] = [] := rfl
theorem enc_one (a : UInt8) : enc [a] = [q0 (n24 a 0 0), q1 (n24 a 0 0), 61, 61] := rfl
theorem enc_two (a b : UInt8) : enc [a, b] = [q0 (n24 a b 0), q1 (n24 a b 0), q2 (n24 a b 0), 61] := rfl
theorem enc_more (a b c : UInt8) (t : List UInt8) : enc (a :: b :: c :: t) = q0 (n24 a b c) :: q1 (n24 a b c) :: q2 (n24 a b c) :: q3 (n24 a b c) :: enc t := by
  cases t <;> rfl

theorem q0_lt {n : Nat} (h : n < 16777216) : n / 262144 < 64 := by omega
theorem q_inj {n m : Nat} (hn : n < 16777216) (hm : m < 16777216) (h0 : q0 n = q0 m) (h1 : q1 n = q1 m) (h2 : q2 n = q2 m) (h3 : q3 n = q3 m) : n = m := by
  have e0 := sig_inj (q0_lt hn) (q0_lt hm) h0
  have e1 := sig_inj (by omega) (by omega) h1
  have e2 := sig_inj (by omega) (by omega) h2
  have e3 := sig_inj (by omega) (by omega) h3
  omega
theorem n24_inj {a b c d e f : UInt8} (h : n24 a b c = n24 d e f) : a = d ∧ b = e ∧ c = f := by
  unfold n24 at h
  have := a.toNat_lt; have := b.toNat_lt; have := c.toNat_lt
  have := d.toNat_lt; have := e.toNat_lt; have := f.toNat_lt
  refine ⟨UInt8.toNat_inj.1 ?_, UInt8.toNat_inj.1 ?_, UInt8.toNat_inj.1 ?_⟩ <;> omega
theorem ne61 {n : Nat} (h : n < 64) : sig n ≠ 61 := sig_ne h num61
theorem q2_61 (n : Nat) : q2 n ≠ 61 := ne61 (by omega)
theorem q3_61 (n : Nat) : q3 n ≠ 61 := ne61 (by omega)
theorem n24_a {a b : UInt8} (h0 : q0 (n24 a 0 0) = q0 (n24 b 0 0)) (h1 : q1 (n24 a 0 0) = q1 (n24 b 0 0)) : a = b := by
  have e0 := sig_inj (q0_lt (n24_lt a 0 0)) (q0_lt (n24_lt b 0 0)) h0
  have e1 := sig_inj (by omega) (by omega) h1
  unfold n24 at e0 e1
  have := a.toNat_lt; have := b.toNat_lt
  have hz : (0 : UInt8).toNat = 0 := rfl
  rw [hz] at e0 e1
  refine UInt8.toNat_inj.1 ?_
  omega
theorem n24_b {a b c d : UInt8} (h0 : q0 (n24 a b 0) = q0 (n24 c d 0)) (h1 : q1 (n24 a b 0) = q1 (n24 c d 0)) (h2 : q2 (n24 a b 0) = q2 (n24 c d 0)) : a = c ∧ b = d := by
  have e0 := sig_inj (q0_lt (n24_lt a b 0)) (q0_lt (n24_lt c d 0)) h0
  have e1 := sig_inj (by omega) (by omega) h1
  have e2 := sig_inj (by omega) (by omega) h2
  unfold n24 at e0 e1 e2
  have := a.toNat_lt; have := b.toNat_lt; have := c.toNat_lt; have := d.toNat_lt
  have hz : (0 : UInt8).toNat = 0 := rfl
  rw [hz] at e0 e1 e2
  refine ⟨UInt8.toNat_inj.1 ?_, UInt8.toNat_inj.1 ?_⟩ <;> omega

/-- No two byte strings have the same text. -/
theorem enc_inj : ∀ s t : List UInt8, enc s = enc t → s = t
  | [], [], _ => rfl
  | [], [_], h => by cases h
  | [], [_, _], h => by cases h
  | [], _ :: _ :: _ :: _, h => by rw [enc_more] at h; cases h
  | [_], [], h => by cases h
  | [a], [b], h => by
    rw [enc_one, enc_one] at h
    simp only [List.cons.injEq] at h
    rw [n24_a h.1 h.2.1]
  | [a], [b, c], h => by
    rw [enc_one, enc_two] at h
    simp only [List.cons.injEq] at h
    exact absurd h.2.2.1.symm (q2_61 _)
  | [a], b :: c :: d :: t, h => by
    rw [enc_one, enc_more] at h
    simp only [List.cons.injEq] at h
    exact absurd h.2.2.1.symm (q2_61 _)
  | [_, _], [], h => by cases h
  | [a, b], [c], h => by
    rw [enc_one, enc_two] at h
    simp only [List.cons.injEq] at h
    exact absurd h.2.2.1 (q2_61 _)
  | [a, b], [c, d], h => by
    rw [enc_two, enc_two] at h
    simp only [List.cons.injEq] at h
    obtain ⟨rfl, rfl⟩ := n24_b h.1 h.2.1 h.2.2.1
    rfl
  | [a, b], c :: d :: e :: t, h => by
    rw [enc_two, enc_more] at h
    simp only [List.cons.injEq] at h
    exact absurd h.2.2.2.1.symm (q3_61 _)
  | _ :: _ :: _ :: _, [], h => by rw [enc_more] at h; cases h
  | a :: b :: c :: t, [d], h => by
    rw [enc_one, enc_more] at h
    simp only [List.cons.injEq] at h
    exact absurd h.2.2.1 (q2_61 _)
  | a :: b :: c :: t, [d, e], h => by
    rw [enc_two, enc_more] at h
    simp only [List.cons.injEq] at h
    exact absurd h.2.2.2.1 (q3_61 _)
  | a :: b :: c :: t, d :: e :: f :: u, h => by
    rw [enc_more, enc_more] at h
    simp only [List.cons.injEq] at h
    obtain ⟨rfl, rfl, rfl⟩ := n24_inj (q_inj (n24_lt a b c) (n24_lt d e f) h.1 h.2.1 h.2.2.1 h.2.2.2.1)
    rw [enc_inj t u h.2.2.2.2]
theorem enc_len : ∀ s : List UInt8, (enc s).length = (s.length + 2) / 3 * 4
  | [] => rfl
  | [a] => by rw [enc_one]; simp
  | [a, b] => by rw [enc_two]; simp
  | a :: b :: c :: t => by
    rw [enc_more]
    simp only [List.length_cons]
    rw [enc_len t]
    omega
/-- The signs of a text. -/
theorem enc_signs : ∀ s : List UInt8, ∀ x ∈ enc s, x = 61 ∨ ∃ n, n < 64 ∧ x = sig n
  | [] => by simp [enc]
  | [a] => by
    intro x hx
    rw [enc_one] at hx
    simp only [List.mem_cons, List.not_mem_nil, or_false] at hx
    rcases hx with rfl | rfl | rfl | rfl
    · exact .inr ⟨_, q0_lt (n24_lt a 0 0), rfl⟩
    · exact .inr ⟨_, by omega, rfl⟩
    · exact .inl rfl
    · exact .inl rfl
  | [a, b] => by
    intro x hx
    rw [enc_two] at hx
    simp only [List.mem_cons, List.not_mem_nil, or_false] at hx
    rcases hx with rfl | rfl | rfl | rfl
    · exact .inr ⟨_, q0_lt (n24_lt a b 0), rfl⟩
    · exact .inr ⟨_, by omega, rfl⟩
    · exact .inr ⟨_, by omega, rfl⟩
    · exact .inl rfl
  | a :: b :: c :: t => by
    intro x hx
    rw [enc_more] at hx
    simp only [List.mem_cons] at hx
    rcases hx with rfl | rfl | rfl | rfl | hx
    · exact .inr ⟨_, q0_lt (n24_lt a b c), rfl⟩
    · exact .inr ⟨_, by omega, rfl⟩
    · exact .inr ⟨_, by omega, rfl⟩
    · exact .inr ⟨_, by omega, rfl⟩
    · exact enc_signs t x hx
theorem enc_no45 (s : List UInt8) : ¬ (45 : UInt8) ∈ enc s := by
  intro h
  rcases enc_signs s 45 h with h | ⟨n, hn, h⟩
  · exact absurd h (by decide)
  · exact sig_ne hn num45 h.symm
/-- Groups of three bytes are encoded alone. -/
theorem enc_app : ∀ s t : List UInt8, s.length % 3 = 0 → enc (s ++ t) = enc s ++ enc t
  | [], t, _ => rfl
  | [_], _, h => by simp at h
  | [_, _], _, h => by simp at h
  | a :: b :: c :: s, t, h => by
    simp only [List.length_cons] at h
    rw [List.cons_append, List.cons_append, List.cons_append, enc_more, enc_more, enc_app s t (by omega)]
    rfl
/-- The last two signs. -/
theorem enc_last : ∀ s : List UInt8, s ≠ [] → ∃ p x y, enc s = p ++ [x, y] ∧ (y = 61 ↔ s.length % 3 ≠ 0) ∧ (x = 61 ↔ s.length % 3 = 1)
  | [], h => absurd rfl h
  | [a], _ => ⟨[q0 (n24 a 0 0), q1 (n24 a 0 0)], 61, 61, rfl, by simp, by simp⟩
  | [a, b], _ => ⟨[q0 (n24 a b 0), q1 (n24 a b 0)], q2 (n24 a b 0), 61, rfl, by simp, by simpa using q2_61 _⟩
  | [a, b, c], _ => ⟨[q0 (n24 a b c), q1 (n24 a b c)], q2 (n24 a b c), q3 (n24 a b c), rfl, by simpa using q3_61 _, by simpa using q2_61 _⟩
  | a :: b :: c :: d :: t, _ => by
    obtain ⟨p, x, y, h1, h2, h3⟩ := enc_last (d :: t) (by simp)
    refine ⟨q0 (n24 a b c) :: q1 (n24 a b c) :: q2 (n24 a b c) :: q3 (n24 a b c) :: p, x, y, by rw [enc_more, h1]; rfl, ?_, ?_⟩
    · rw [h2]; simp only [List.length_cons]; omega
    · rw [h3]; simp only [List.length_cons]; omega

/-- What a decoder tells. -/
def Dec (text : List UInt8) (o : Bool) (s : List UInt8) : Prop :=
  (o = true → s.length ≤ 30 ∧ enc s = text) ∧ (o = false → s = [] ∧ ∀ t : List UInt8, t.length ≤ 30 → enc t ≠ text)
theorem dec_any (text : List UInt8) : ∃ o s, Dec text o s := by
  by_cases h : ∃ t : List UInt8, t.length ≤ 30 ∧ enc t = text
  · obtain ⟨t, h1, h2⟩ := h
    exact ⟨true, t, fun _ => ⟨h1, h2⟩, fun h => by cases h⟩
  · exact ⟨false, [], fun h => (by cases h), fun _ => ⟨rfl, fun t h1 h2 => h ⟨t, h1, h2⟩⟩⟩
theorem dec_one {text : List UInt8} {o p : Bool} {s t : List UInt8} (h : Dec text o s) (k : Dec text p t) : o = p ∧ s = t := by
  cases o <;> cases p
  · exact ⟨rfl, (h.2 rfl).1.trans (k.2 rfl).1.symm⟩
  · exact absurd (k.1 rfl).2 ((h.2 rfl).2 t (k.1 rfl).1)
  · exact absurd (h.1 rfl).2 ((k.2 rfl).2 s (h.1 rfl).1)
  · exact ⟨rfl, enc_inj s t ((h.1 rfl).2.trans (k.1 rfl).2.symm)⟩
theorem dec_of {s : List UInt8} (h : s.length ≤ 30) : Dec (enc s) true s := ⟨fun _ => ⟨h, rfl⟩, fun h => by cases h⟩
theorem dec_no {text : List UInt8} (h : ∀ t : List UInt8, enc t ≠ text) : Dec text false [] := ⟨fun h => (by cases h), fun _ => ⟨rfl, fun t _ => h t⟩⟩
theorem dec_len {text : List UInt8} (h : text.length % 4 ≠ 0) : Dec text false [] := dec_no (by
  rintro t rfl
  rw [enc_len] at h
  omega)
theorem dec_sign {text : List UInt8} (h : (45 : UInt8) ∈ text) : Dec text false [] := dec_no (by
  rintro t rfl
  exact enc_no45 t h)
theorem dec_long {text : List UInt8} (h : 40 < text.length) : Dec text false [] := ⟨fun h => (by cases h), fun _ => ⟨rfl, by
  rintro t ht rfl
  rw [enc_len] at h
  omega⟩⟩
end Go.Proofs.Ytkhfflbgnojcfaa
