/-
  Texts of sets of numbers, on lists of bytes: what the model reads of a text, what the code's cursor reads, that both agree, and that a written set is read again. Plain definitions and lemmas; no condition.
-/
import Derived.Test.YtnfigpknejmkmaaGreatDoorEq
namespace Go.Proofs.YtnfigpknejmkmaaGreatDoor
set_option linter.unusedVariables false

/-- A digit. -/
def dgt (c : UInt8) : Bool := decide (48 ≤ c.toNat ∧ c.toNat ≤ 57)
/-- The number of a word, if it has one. -/
def numO : List UInt8 → Option Nat
  | [x] => if x = 42 then some 0 else if 49 ≤ x.toNat ∧ x.toNat ≤ 57 then some (x.toNat - 48) else none
  | [x, y] => if (49 ≤ x.toNat ∧ x.toNat ≤ 57) ∧ 48 ≤ y.toNat ∧ y.toNat ≤ 57 then some (10 * (x.toNat - 48) + (y.toNat - 48)) else none
  | _ => none
theorem numO_le {l : List UInt8} {n : Nat} (h : numO l = some n) : n ≤ 99 := by
  unfold numO at h
  split at h
  · split at h
    · cases h; omega
    · split at h
      · cases h; omega
      · cases h
  · split at h
    · cases h; omega
    · cases h
  · cases h
/-- A span of a word, if it has one. -/
def partO (p : List UInt8) : Option (Nat × Nat) :=
  match cut 58 p with
  | [a] => match numO a with
    | some m => some (m, m)
    | none => none
  | [a, b] => match numO a, numO b with
    | some m, some n => some (m, n)
    | _, _ => none
  | _ => none
/-- The spans of words, if each has one. -/
def listO : List (List UInt8) → Option (List (Nat × Nat))
  | [] => some []
  | p :: ps => match partO p, listO ps with
    | some s, some l => some (s :: l)
    | _, _ => none
/-- The spans of words, at most 'n' of them. -/
def atMost (n : Nat) : Option (List (Nat × Nat)) → Option (List (Nat × Nat))
  | some l => if l.length ≤ n then some l else none
  | none => none
/-- The set of a text, if it has one. -/
def setO (L : List UInt8) : Option (List (Nat × Nat)) := atMost 6 (listO (cut 44 L))

/-- The cursor's reading of digits. -/
def digF : Nat → List UInt8 → Nat × List UInt8
  | n, [] => (n, [])
  | n, c :: t => if n ≤ 99 ∧ dgt c = true then digF (10 * n + (c.toNat - 48)) t else (n, c :: t)
theorem digF_nil (n : Nat) : digF n [] = (n, []) := by unfold digF; rfl
theorem digF_go {n : Nat} {c : UInt8} (t : List UInt8) (h : n ≤ 99) (hc : dgt c = true) : digF n (c :: t) = digF (10 * n + (c.toNat - 48)) t := by
  conv => lhs; unfold digF
  rw [if_pos ⟨h, hc⟩]
theorem digF_stop {n : Nat} {c : UInt8} (t : List UInt8) (h : 99 < n ∨ dgt c = false) : digF n (c :: t) = (n, c :: t) := by
  unfold digF
  rw [if_neg]
  rintro ⟨h1, h2⟩
  rcases h with h | h
  · omega
  · rw [h] at h2; cases h2
theorem digF_big {n : Nat} (t : List UInt8) (h : 99 < n) : digF n t = (n, t) := by
  cases t with
  | nil => exact digF_nil n
  | cons c t => exact digF_stop t (.inl h)
/-- The cursor's reading of a number: the number, whether there is one, and what is left. -/
def numF : List UInt8 → Nat × Bool × List UInt8
  | [] => (0, false, [])
  | c :: t => if c = 42 then (0, true, t) else if c = 48 then (0, false, t) else
    if (digF 0 (c :: t)).1 = 0 ∨ 99 < (digF 0 (c :: t)).1 then (0, false, (digF 0 (c :: t)).2) else ((digF 0 (c :: t)).1, true, (digF 0 (c :: t)).2)
theorem numF_cons (c : UInt8) (t : List UInt8) : numF (c :: t) = if c = 42 then (0, true, t) else if c = 48 then (0, false, t) else
    if (digF 0 (c :: t)).1 = 0 ∨ 99 < (digF 0 (c :: t)).1 then (0, false, (digF 0 (c :: t)).2) else ((digF 0 (c :: t)).1, true, (digF 0 (c :: t)).2) := rfl
/-- The cursor's reading of a span. -/
def spanF (S : List UInt8) : (Nat × Nat) × Bool × List UInt8 :=
  match numF S with
  | (m, false, r) => ((m, m), false, r)
  | (m, true, []) => ((m, m), true, [])
  | (m, true, c :: t) => if c = 58 then ((m, (numF t).1), (numF t).2.1, (numF t).2.2) else ((m, m), true, c :: t)
/-- The cursor's reading of a set of at most 'n' spans. -/
def setF : Nat → List UInt8 → Option (List (Nat × Nat))
  | 0, _ => none
  | n + 1, S => match spanF S with
    | (_, false, _) => none
    | (s, true, []) => some [s]
    | (s, true, c :: t) => if c = 44 then (setF n t).map (s :: ·) else none

/-- A byte that ends a number. -/
def sepB (c : UInt8) : Bool := c == 44 || c == 58
theorem sep_digit {c : UInt8} (h : sepB c = true) : dgt c = false := by
  unfold sepB at h
  rw [Bool.or_eq_true, beq_iff_eq, beq_iff_eq] at h
  rcases h with rfl | rfl <;> decide
/-- Nothing, or something that begins with a comma or a colon. -/
def Ends (q : List UInt8) : Prop := q = [] ∨ ∃ c t, q = c :: t ∧ sepB c = true
theorem digF_ends {n : Nat} {q : List UInt8} (hq : Ends q) : digF n q = (n, q) := by
  rcases hq with rfl | ⟨c, t, rfl, hc⟩
  · exact digF_nil n
  · exact digF_stop t (.inr (sep_digit hc))
theorem dgt_of {c : UInt8} (h1 : 48 ≤ c.toNat) (h2 : c.toNat ≤ 57) : dgt c = true := decide_eq_true ⟨h1, h2⟩
theorem ne_of_nat {c : UInt8} {n : Nat} (hn : n < 256) (h : c.toNat ≠ n) : c ≠ UInt8.ofNat n := by
  rintro rfl
  rw [UInt8.toNat_ofNat'] at h
  exact h (Nat.mod_eq_of_lt (by omega))
theorem ne42 {c : UInt8} (h : 49 ≤ c.toNat) : c ≠ 42 := ne_of_nat (n := 42) (by omega) (by omega)
theorem ne48 {c : UInt8} (h : 49 ≤ c.toNat) : c ≠ 48 := ne_of_nat (n := 48) (by omega) (by omega)
theorem numF_ends {q : List UInt8} (hq : Ends q) : numF q = (0, false, q) := by
  rcases hq with rfl | ⟨c, t, rfl, hc⟩
  · rfl
  · rw [numF_cons]
    have h := digF_ends (n := 0) (q := c :: t) (.inr ⟨c, t, rfl, hc⟩)
    have h1 : c ≠ 42 := by rintro rfl; revert hc; decide
    have h2 : c ≠ 48 := by rintro rfl; revert hc; decide
    rw [if_neg h1, if_neg h2, h, if_pos (.inl rfl)]
theorem numF_good {a q : List UInt8} {n : Nat} (h : numO a = some n) (hq : Ends q) : numF (a ++ q) = (n, true, q) := by
  unfold numO at h
  split at h
  · rename_i x
    split at h
    · rename_i hx
      subst hx
      cases h
      rfl
    · split at h
      · rename_i hx h1
        cases h
        show numF (x :: q) = _
        rw [numF_cons, if_neg hx, if_neg (ne48 h1.1), digF_go q (by omega) (dgt_of (by omega) h1.2), digF_ends hq]
        rw [if_neg (by simp only; omega)]
        simp
      · cases h
  · rename_i x y
    split at h
    · rename_i h1
      cases h
      show numF (x :: y :: q) = _
      rw [numF_cons, if_neg (ne42 h1.1.1), if_neg (ne48 h1.1.1), digF_go _ (by omega) (dgt_of (by omega) h1.1.2), digF_go q (by omega) (dgt_of h1.2.1 h1.2.2), digF_ends hq]
      rw [if_neg (by simp only; omega)]
      simp
    · cases h
  · cases h
/-- A reading that fails: there is none, or something is left that begins with neither a comma nor a colon. -/
def Bad (ok : Bool) (r : List UInt8) : Prop := ok = true → ∃ x t, r = x :: t ∧ sepB x = false
theorem bad_no (r : List UInt8) : Bad false r := fun h => by cases h
theorem numF_bad {a q : List UInt8} (h : numO a = none) (ha : ∀ x ∈ a, sepB x = false) (hq : Ends q) : Bad (numF (a ++ q)).2.1 (numF (a ++ q)).2.2 := by
  cases a with
  | nil => rw [List.nil_append, numF_ends hq]; exact bad_no _
  | cons x a =>
    show Bad (numF (x :: (a ++ q))).2.1 (numF (x :: (a ++ q))).2.2
    rw [numF_cons]
    by_cases h42 : x = 42
    · rw [if_pos h42]
      intro _
      cases a with
      | nil => subst h42; cases h
      | cons y a => exact ⟨y, a ++ q, rfl, ha y (by simp)⟩
    · rw [if_neg h42]
      by_cases h48 : x = 48
      · rw [if_pos h48]; exact bad_no _
      · rw [if_neg h48]
        by_cases hx : dgt x = true
        · have hx' := of_decide_eq_true hx
          have h49 : 49 ≤ x.toNat := by
            have : x.toNat ≠ 48 := fun e => h48 (UInt8.toNat_inj.1 e)
            omega
          rw [digF_go _ (by omega) hx]
          cases a with
          | nil =>
            unfold numO at h
            simp only [if_neg h42, if_pos (show 49 ≤ x.toNat ∧ x.toNat ≤ 57 from ⟨h49, hx'.2⟩)] at h
            cases h
          | cons y a =>
            by_cases hy : dgt y = true
            · have hy' := of_decide_eq_true hy
              rw [List.cons_append, digF_go _ (by omega) hy]
              cases a with
              | nil =>
                unfold numO at h
                simp only [if_pos (show (49 ≤ x.toNat ∧ x.toNat ≤ 57) ∧ 48 ≤ y.toNat ∧ y.toNat ≤ 57 from ⟨⟨h49, hx'.2⟩, hy'.1, hy'.2⟩)] at h
                cases h
              | cons z a =>
                by_cases hz : dgt z = true
                · have hz' := of_decide_eq_true hz
                  rw [List.cons_append, digF_go _ (by omega) hz, digF_big _ (by omega), if_pos (.inr (by simp only; omega))]
                  exact bad_no _
                · rw [List.cons_append, digF_stop _ (.inr (Bool.eq_false_iff.2 hz)), if_neg (by simp only; omega)]
                  exact fun _ => ⟨z, a ++ q, rfl, ha z (by simp)⟩
            · rw [List.cons_append, digF_stop _ (.inr (Bool.eq_false_iff.2 hy)), if_neg (by simp only; omega)]
              exact fun _ => ⟨y, a ++ q, rfl, ha y (by simp)⟩
        · rw [digF_stop _ (.inr (Bool.eq_false_iff.2 hx)), if_pos (.inl rfl)]
          exact bad_no _

/-- A list is what stands ahead of the first 'c', and nothing or 'c' and the rest. -/
theorem cut_split (c : UInt8) (p : List UInt8) : (cut c p = [p] ∧ ∀ x ∈ p, x ≠ c) ∨ ∃ a t, p = a ++ c :: t ∧ cut c p = a :: cut c t ∧ ∀ x ∈ a, x ≠ c := by
  by_cases h : c ∈ p
  · obtain ⟨a, t, rfl, ha⟩ : ∃ a t, p = a ++ c :: t ∧ ∀ x ∈ a, x ≠ c := by
      induction p with
      | nil => cases h
      | cons x p ih =>
        by_cases hx : x = c
        · exact ⟨[], p, by rw [hx]; rfl, by simp⟩
        · obtain ⟨a, t, rfl, ha⟩ := ih ((List.mem_cons.1 h).resolve_left (fun e => hx e.symm))
          refine ⟨x :: a, t, rfl, fun y hy => ?_⟩
          rcases List.mem_cons.1 hy with rfl | hy
          · exact hx
          · exact ha y hy
    exact .inr ⟨a, t, rfl, cut_at c a t ha, ha⟩
  · have hp : ∀ x ∈ p, x ≠ c := fun x hx e => h (e ▸ hx)
    exact .inl ⟨cut_nil_of c p hp, hp⟩
theorem sep_no {x : UInt8} (h1 : x ≠ 44) (h2 : x ≠ 58) : sepB x = false := by unfold sepB; simp [h1, h2]
/-- Nothing, or something that begins with a comma. -/
def Ends44 (q : List UInt8) : Prop := q = [] ∨ ∃ t, q = 44 :: t
theorem Ends44.ends {q : List UInt8} (h : Ends44 q) : Ends q := by
  rcases h with rfl | ⟨t, rfl⟩
  · exact .inl rfl
  · exact .inr ⟨44, t, rfl, by decide⟩
theorem ends58 (t : List UInt8) : Ends (58 :: t) := .inr ⟨58, t, rfl, by decide⟩
theorem spanF_colon {S t : List UInt8} {m : Nat} (h : numF S = (m, true, 58 :: t)) : spanF S = ((m, (numF t).1), (numF t).2.1, (numF t).2.2) := by
  unfold spanF; rw [h]; simp
theorem spanF_no {S r : List UInt8} {m : Nat} (h : numF S = (m, false, r)) : spanF S = ((m, m), false, r) := by
  unfold spanF; rw [h]
theorem spanF_one {S r : List UInt8} {m : Nat} (h : numF S = (m, true, r)) (hr : ∀ t, r ≠ 58 :: t) : spanF S = ((m, m), true, r) := by
  unfold spanF; rw [h]
  cases r with
  | nil => rfl
  | cons c t =>
    have hc : c ≠ 58 := fun e => hr t (by rw [e])
    simp [hc]
theorem part_good {p q : List UInt8} {s : Nat × Nat} (h : partO p = some s) (hp : ∀ x ∈ p, x ≠ 44) (hq : Ends44 q) : spanF (p ++ q) = (s, true, q) := by
  unfold partO at h
  split at h
  · rename_i a hc
    rcases cut_split 58 p with ⟨h1, h2⟩ | ⟨a', t, rfl, h1, h2⟩
    · rw [h1] at hc
      cases hc
      split at h
      · rename_i m hm
        cases h
        exact spanF_one (numF_good hm hq.ends) (by
          rintro t rfl
          rcases hq with h | ⟨_, h⟩
          · cases h
          · cases h)
      · cases h
    · rw [h1] at hc
      have := (cut_len 58 t).1
      rw [List.cons.injEq] at hc
      rw [hc.2] at this
      simp at this
  · rename_i a b hc
    rcases cut_split 58 p with ⟨h1, h2⟩ | ⟨a', t, rfl, h1, h2⟩
    · rw [h1] at hc; cases hc
    · rw [h1, List.cons.injEq] at hc
      obtain ⟨rfl, hc⟩ := hc
      have hb : t = b := by
        rcases cut_split 58 t with ⟨h3, h4⟩ | ⟨b', u, rfl, h3, h4⟩
        · rw [h3] at hc; cases hc; rfl
        · rw [h3, List.cons.injEq] at hc
          have := (cut_len 58 u).1
          rw [hc.2] at this
          simp at this
      subst hb
      split at h
      · rename_i m n hm hn
        cases h
        have e : (a' ++ 58 :: t) ++ q = a' ++ 58 :: (t ++ q) := by simp
        rw [e, spanF_colon (numF_good hm (ends58 _)), numF_good hn hq.ends]
      · cases h
  · cases h
/-- A reading that fails: there is none, or something is left that begins with no comma. -/
def Bad44 (ok : Bool) (r : List UInt8) : Prop := ok = true → ∃ x t, r = x :: t ∧ x ≠ 44
theorem Bad.to44 {ok : Bool} {r : List UInt8} (h : Bad ok r) : Bad44 ok r := fun ho => by
  obtain ⟨x, t, hr, hx⟩ := h ho
  exact ⟨x, t, hr, by rintro rfl; revert hx; decide⟩
theorem span_bad {S : List UInt8} (h : Bad (numF S).2.1 (numF S).2.2) : Bad44 (spanF S).2.1 (spanF S).2.2 := by
  obtain ⟨⟨m, o, r⟩, hm⟩ : ∃ x, numF S = x := ⟨_, rfl⟩
  rw [hm] at h
  cases o with
  | false => rw [spanF_no hm]; exact fun h => by cases h
  | true =>
    obtain ⟨x, t, hr, hx⟩ := h rfl
    simp only at hr
    subst hr
    rw [spanF_one hm (by rintro u e; cases e; revert hx; decide)]
    exact fun _ => ⟨x, t, rfl, by rintro rfl; revert hx; decide⟩
theorem part_bad {p q : List UInt8} (h : partO p = none) (hp : ∀ x ∈ p, x ≠ 44) (hq : Ends44 q) : Bad44 (spanF (p ++ q)).2.1 (spanF (p ++ q)).2.2 := by
  rcases cut_split 58 p with ⟨h1, h2⟩ | ⟨a, t, rfl, h1, h2⟩
  · have hn : numO p = none := by
      unfold partO at h
      rw [h1] at h
      simp only at h
      split at h
      · cases h
      · assumption
    exact span_bad (numF_bad hn (fun x hx => sep_no (hp x hx) (h2 x hx)) hq.ends)
  · have ha : ∀ x ∈ a, sepB x = false := fun x hx => sep_no (hp x (by simp [hx])) (h2 x hx)
    have e : (a ++ 58 :: t) ++ q = a ++ 58 :: (t ++ q) := by simp
    rw [e]
    cases hm : numO a with
    | none => exact span_bad (numF_bad hm ha (ends58 _))
    | some m =>
      rw [spanF_colon (numF_good hm (ends58 _))]
      rcases cut_split 58 t with ⟨h3, h4⟩ | ⟨b, u, rfl, h3, h4⟩
      · have hn : numO t = none := by
          unfold partO at h
          rw [h1, h3] at h
          simp only [hm] at h
          split at h
          · cases h
          · rename_i hx
            cases hn : numO t with
            | none => rfl
            | some n => exact absurd hn (hx m n rfl)
        exact (numF_bad hn (fun x hx => sep_no (hp x (by simp [hx])) (h4 x hx)) hq.ends).to44
      · have e2 : (b ++ 58 :: u) ++ q = b ++ 58 :: (u ++ q) := by simp
        rw [e2]
        cases hn : numO b with
        | none => exact (numF_bad hn (fun x hx => sep_no (hp x (by simp [hx])) (h4 x hx)) (ends58 _)).to44
        | some n =>
          rw [numF_good hn (ends58 _)]
          exact fun _ => ⟨58, u ++ q, rfl, by decide⟩

theorem setF_eq : ∀ (n : Nat) (S : List UInt8), setF n S = atMost n (listO (cut 44 S)) := by
  intro n
  induction n with
  | zero =>
    intro S
    unfold setF
    have hl := (cut_len 44 S).1
    cases hc : cut 44 S with
    | nil => rw [hc] at hl; simp at hl
    | cons p ps =>
      unfold listO
      split
      · rfl
      · rfl
  | succ n ih =>
    intro S
    rcases cut_split 44 S with ⟨h1, h2⟩ | ⟨p, t, rfl, h1, h2⟩
    · rw [h1]
      cases hp : partO S with
      | some s =>
        have := part_good (q := []) hp h2 (.inl rfl)
        rw [List.append_nil] at this
        unfold setF
        rw [this]
        simp [listO, hp, atMost]
      | none =>
        have := part_bad (q := []) hp h2 (.inl rfl)
        rw [List.append_nil] at this
        unfold setF
        obtain ⟨⟨s, o, r⟩, hs⟩ : ∃ x, spanF S = x := ⟨_, rfl⟩
        rw [hs] at this ⊢
        cases o with
        | false => simp [listO, hp, atMost]
        | true =>
          obtain ⟨x, u, hr, hx⟩ := this rfl
          simp only at hr
          subst hr
          simp [listO, hp, atMost, hx]
    · rw [h1]
      cases hp : partO p with
      | some s =>
        have := part_good (q := 44 :: t) hp h2 (.inr ⟨t, rfl⟩)
        unfold setF
        rw [this]
        simp only [if_pos]
        rw [ih t]
        cases hl : listO (cut 44 t) with
        | none => simp [listO, hp, hl, atMost]
        | some l =>
          simp only [listO, hp, hl, atMost, List.length_cons]
          by_cases hn : l.length ≤ n
          · rw [if_pos hn, if_pos (by omega)]; rfl
          · rw [if_neg hn, if_neg (by omega)]; rfl
      | none =>
        have := part_bad (q := 44 :: t) hp h2 (.inr ⟨t, rfl⟩)
        unfold setF
        obtain ⟨⟨s, o, r⟩, hs⟩ : ∃ x, spanF (p ++ 44 :: t) = x := ⟨_, rfl⟩
        rw [hs] at this ⊢
        cases o with
        | false => simp [listO, hp, atMost]
        | true =>
          obtain ⟨x, u, hr, hx⟩ := this rfl
          simp only at hr
          subst hr
          simp [listO, hp, atMost, hx]
theorem setF6 (L : List UInt8) : setF 6 L = setO L := setF_eq 6 L

/-- The word of a number. -/
def wordN (n : Nat) : List UInt8 := if n = 0 then [42] else if n < 10 then [UInt8.ofNat (48 + n)] else [UInt8.ofNat (48 + n / 10), UInt8.ofNat (48 + n % 10)]
theorem numO_word {n : Nat} (h : n ≤ 99) : numO (wordN n) = some n := by
  have : ∀ k : Fin 100, numO (wordN k.val) = some k.val := by decide
  exact this ⟨n, by omega⟩
theorem word_sep {n : Nat} (h : n ≤ 99) : ∀ x ∈ wordN n, x ≠ 44 ∧ x ≠ 58 := by
  have : ∀ k : Fin 100, ∀ x ∈ wordN k.val, x ≠ 44 ∧ x ≠ 58 := by decide
  exact this ⟨n, by omega⟩
theorem word_ne (n : Nat) : wordN n ≠ [] := by
  unfold wordN; split
  · simp
  · split <;> simp
theorem word_len (n : Nat) : (wordN n).length ≤ 2 := by
  unfold wordN; split
  · simp
  · split <;> simp
/-- The text of a span. -/
def spanW (s : Nat × Nat) : List UInt8 := if s.1 = s.2 then wordN s.1 else wordN s.1 ++ 58 :: wordN s.2
theorem spanW_len (s : Nat × Nat) : (spanW s).length ≤ 5 := by
  unfold spanW
  have h1 := word_len s.1
  have h2 := word_len s.2
  split
  · omega
  · rw [List.length_append, List.length_cons]; omega
/-- The text of spans. -/
def joinW : List (Nat × Nat) → List UInt8
  | [] => []
  | [s] => spanW s
  | s :: t => spanW s ++ 44 :: joinW t
theorem joinW_cons (s r : Nat × Nat) (t : List (Nat × Nat)) : joinW (s :: r :: t) = spanW s ++ 44 :: joinW (r :: t) := rfl
theorem spanW_no44 {s : Nat × Nat} (h1 : s.1 ≤ 99) (h2 : s.2 ≤ 99) : ∀ x ∈ spanW s, x ≠ 44 := by
  intro x hx
  unfold spanW at hx
  split at hx
  · exact (word_sep h1 x hx).1
  · rcases List.mem_append.1 hx with h | h
    · exact (word_sep h1 x h).1
    · rcases List.mem_cons.1 h with rfl | h
      · decide
      · exact (word_sep h2 x h).1
theorem part_back {s : Nat × Nat} (h1 : s.1 ≤ 99) (h2 : s.2 ≤ 99) : partO (spanW s) = some s := by
  unfold partO spanW
  by_cases e : s.1 = s.2
  · rw [if_pos e, cut_nil_of 58 _ (fun x hx => (word_sep h1 x hx).2)]
    simp only [numO_word h1]
    cases s
    simp_all
  · rw [if_neg e, cut_at 58 _ _ (fun x hx => (word_sep h1 x hx).2), cut_nil_of 58 _ (fun x hx => (word_sep h2 x hx).2)]
    simp only [numO_word h1, numO_word h2]
theorem list_back : ∀ (l : List (Nat × Nat)), l ≠ [] → (∀ s ∈ l, s.1 ≤ 99 ∧ s.2 ≤ 99) → listO (cut 44 (joinW l)) = some l
  | [], h, _ => absurd rfl h
  | [s], _, h => by
    have hs := h s (by simp)
    show listO (cut 44 (spanW s)) = some [s]
    rw [cut_nil_of 44 _ (spanW_no44 hs.1 hs.2)]
    simp [listO, part_back hs.1 hs.2]
  | s :: r :: t, _, h => by
    have hs := h s (by simp)
    have ih := list_back (r :: t) (by simp) (fun x hx => h x (by simp only [List.mem_cons] at hx ⊢; exact .inr hx))
    rw [joinW_cons, cut_at 44 _ _ (spanW_no44 hs.1 hs.2)]
    simp [listO, part_back hs.1 hs.2, ih]
theorem set_back {l : List (Nat × Nat)} (h0 : l ≠ []) (h6 : l.length ≤ 6) (h : ∀ s ∈ l, s.1 ≤ 99 ∧ s.2 ≤ 99) : setO (joinW l) = some l := by
  unfold setO
  rw [list_back l h0 h]
  simp [atMost, h6]
theorem joinW_len : ∀ (l : List (Nat × Nat)), (joinW l).length ≤ 6 * l.length
  | [] => by simp [joinW]
  | [s] => by have := spanW_len s; simp only [joinW, List.length_singleton]; omega
  | s :: r :: t => by
    have h1 := spanW_len s
    have h2 := joinW_len (r :: t)
    rw [joinW_cons, List.length_append, List.length_cons, List.length_cons]
    omega

theorem cutGo_ne (c : UInt8) (l cur : List UInt8) : cutGo c cur l ≠ [] := by
  intro h
  have := (cutGo_len c l cur).1
  rw [h] at this
  simp at this
theorem cut_snoc (c : UInt8) (y : List UInt8) (hy : ∀ x ∈ y, x ≠ c) : ∀ (l cur : List UInt8), cutGo c cur (l ++ c :: y) = cutGo c cur l ++ [y]
  | [], cur => by
    have := cut_nil_of c y hy
    unfold cut at this
    show cutGo c cur (c :: y) = cutGo c cur [] ++ [y]
    have e : cutGo c cur (c :: y) = cur :: cutGo c [] y := by
      conv => lhs; unfold cutGo
      rw [if_pos rfl]
    rw [e, this]
    rfl
  | x :: l, cur => by
    rw [List.cons_append, cutGo, cutGo]
    by_cases hx : x = c
    · rw [if_pos hx, if_pos hx, cut_snoc c y hy l []]; rfl
    · rw [if_neg hx, if_neg hx, cut_snoc c y hy l _]
theorem listO_snoc {p : List UInt8} {s : Nat × Nat} (hp : partO p = some s) : ∀ (ps : List (List UInt8)) (l : List (Nat × Nat)), listO ps = some l → listO (ps ++ [p]) = some (l ++ [s])
  | [], l, h => by cases h; simp [listO, hp]
  | q :: ps, l, h => by
    unfold listO at h
    cases hq : partO q with
    | none => simp [hq] at h
    | some r =>
      cases hr : listO ps with
      | none => simp [hq, hr] at h
      | some m =>
        simp [hq, hr] at h
        subst h
        have ih := listO_snoc hp ps m hr
        simp [listO, hq, ih]
theorem atMost_some {n : Nat} {o : Option (List (Nat × Nat))} {l : List (Nat × Nat)} (h : atMost n o = some l) : o = some l ∧ l.length ≤ n := by
  cases o with
  | none => cases h
  | some m =>
    unfold atMost at h
    simp only at h
    split at h
    · cases h; exact ⟨rfl, by assumption⟩
    · cases h
/-- A set and a further star. -/
theorem set_more {L : List UInt8} {l : List (Nat × Nat)} (h : setO L = some l) : setO (L ++ [44, 42]) = if l.length < 6 then some (l ++ [(0, 0)]) else none := by
  obtain ⟨h1, h2⟩ := atMost_some h
  have e : cut 44 (L ++ 44 :: [42]) = cut 44 L ++ [[42]] := cut_snoc 44 [42] (by decide) L []
  have hs : partO [42] = some (0, 0) := by decide
  unfold setO
  rw [show L ++ [44, 42] = L ++ 44 :: [42] from rfl, e, listO_snoc hs _ _ h1]
  unfold atMost
  simp only [List.length_append, List.length_singleton]
  by_cases hl : l.length < 6
  · rw [if_pos hl, if_pos (by omega)]
  · rw [if_neg hl, if_neg (by omega)]
/-- A further byte ahead of a text. -/
theorem set_zero (c : UInt8) (hc : c = 48 ∨ c = 32 ∨ c = 44) (L : List UInt8) : setO (c :: L) = none := by
  rw [← setF6]
  have : ∃ s r, spanF (c :: L) = (s, false, r) := by
    rcases hc with rfl | rfl | rfl
    · exact ⟨_, _, spanF_no rfl⟩
    · have h : numF (32 :: L) = (0, false, 32 :: L) := by
        rw [numF_cons, if_neg (by decide), if_neg (by decide), digF_stop L (.inr (by decide)), if_pos (.inl rfl)]
      exact ⟨_, _, spanF_no h⟩
    · exact ⟨_, _, spanF_no (numF_ends (.inr ⟨44, L, rfl, by decide⟩))⟩
  obtain ⟨s, r, h⟩ := this
  unfold setF
  rw [h]

theorem listO_mem : ∀ (ps : List (List UInt8)) (l : List (Nat × Nat)), listO ps = some l → l.length = ps.length ∧ ∀ s ∈ l, s.1 ≤ 99 ∧ s.2 ≤ 99
  | [], l, h => by cases h; simp
  | q :: ps, l, h => by
    unfold listO at h
    cases hq : partO q with
    | none => simp [hq] at h
    | some r =>
      cases hr : listO ps with
      | none => simp [hq, hr] at h
      | some m =>
        simp [hq, hr] at h
        subst h
        have ih := listO_mem ps m hr
        refine ⟨by simp [ih.1], fun s hs => ?_⟩
        rcases List.mem_cons.1 hs with rfl | hs
        · unfold partO at hq
          split at hq
          · split at hq
            · rename_i hm; cases hq; exact ⟨numO_le hm, numO_le hm⟩
            · cases hq
          · split at hq
            · rename_i hm hn; cases hq; exact ⟨numO_le hm, numO_le hn⟩
            · cases hq
          · cases hq
        · exact ih.2 s hs
theorem set_mem {L : List UInt8} {l : List (Nat × Nat)} (h : setO L = some l) : l ≠ [] ∧ l.length ≤ 6 ∧ ∀ s ∈ l, s.1 ≤ 99 ∧ s.2 ≤ 99 := by
  obtain ⟨h1, h2⟩ := atMost_some h
  obtain ⟨h3, h4⟩ := listO_mem _ _ h1
  refine ⟨?_, h2, h4⟩
  rintro rfl
  have := (cut_len 44 L).1
  rw [← h3] at this
  simp at this
/-- The first parts of a list of words. -/
theorem listO_take : ∀ (ps : List (List UInt8)) (k : Nat) (P : List (Nat × Nat)) (s : Nat × Nat) (hk : k < ps.length), listO (ps.take k) = some P → partO ps[k] = some s → listO (ps.take (k + 1)) = some (P ++ [s]) := by
  intro ps k P s hk h hp
  rw [List.take_succ_eq_append_getElem hk]
  exact listO_snoc hp _ _ h
theorem listO_none : ∀ (ps : List (List UInt8)) (k : Nat) (hk : k < ps.length), partO ps[k] = none → listO ps = none := by
  intro ps
  induction ps with
  | nil => intro k hk; simp at hk
  | cons q ps ih =>
    intro k hk hp
    cases k with
    | zero => simp at hp; simp [listO, hp]
    | succ k =>
      have := ih k (by simpa using hk) (by simpa using hp)
      unfold listO
      rw [this]
      split <;> simp_all
end Go.Proofs.YtnfigpknejmkmaaGreatDoor
