/-
  The plain mathematics of flags: their texts, what a text of flags is, and what a change does. Plain definitions and lemmas; no condition.
-/
import Derived.Test.YtllhcogmcfgnoaaEq
import Derived.Lib.Strings
import Derived.Lib.Join
namespace Go.Proofs.Ytllhcogmcfgnoaa
set_option linter.unusedVariables false

/-- The names of flags. -/
def fnm : Nat → List UInt8
  | 0 => [83, 101, 101, 110]
  | 1 => [65, 110, 115, 119, 101, 114, 101, 100]
  | 2 => [70, 108, 97, 103, 103, 101, 100]
  | 3 => [68, 101, 108, 101, 116, 101, 100]
  | _ => [68, 114, 97, 102, 116]
/-- The flag 'k' is among 'f'. -/
def tb (f k : Nat) : Bool := f / 2 ^ k % 2 == 1
/-- Flags. -/
def isF (n : Int) : Bool := decide (0 ≤ n) && decide (n ≤ 31)
theorem isF_nat {n : Int} (h : isF n = true) : ∃ f : Nat, f < 32 ∧ n = (f : Int) := by
  unfold isF at h
  simp at h
  exact ⟨n.toNat, by omega, by omega⟩
theorem isF_of {f : Nat} (h : f < 32) : isF (f : Int) = true := by
  unfold isF
  simp
  omega
theorem isF_no {n : Int} (h : isF n = false) : n < 0 ∨ 31 < n := by
  unfold isF at h
  simp at h
  omega

/-- The text of flags, up to the flag 'k'. -/
def outF (f : Nat) : Nat → List UInt8
  | 0 => [40]
  | k + 1 => if tb f k then (if 1 < (outF f k).length then outF f k ++ [32] else outF f k) ++ fnm k else outF f k
def textF (f : Nat) : List UInt8 := outF f 5 ++ [41]
/-- The names of the flags, up to the flag 'k'. -/
def idxF (f : Nat) : Nat → List (List UInt8)
  | 0 => []
  | k + 1 => if tb f k then idxF f k ++ [fnm k] else idxF f k
theorem text_join (f : Nat) (h : f < 32) : [40] ++ Lib.join (idxF f 5) [32] ++ [41] = textF f := by
  have : ∀ f : Fin 32, [40] ++ Lib.join (idxF f.1 5) [32] ++ [41] = textF f.1 := by decide +kernel
  exact this ⟨f, h⟩

/-- A change, one flag after the other. -/
def onB (f : Nat) (h : Int) (o k : Nat) : Bool := (h == 1 && (tb f k || tb o k)) || (h == -1 && tb f k && !tb o k) || (h == 0 && tb o k)
def chK (f : Nat) (h : Int) (o : Nat) : Nat → Nat
  | 0 => 0
  | k + 1 => if onB f h o k then chK f h o k + 2 ^ k else chK f h o k
def chN (f : Nat) (h : Int) (o : Nat) : Nat := chK f h o 5
/-- A change of what may be no flags. -/
def howB (h : Int) : Bool := decide (-1 ≤ h) && decide (h ≤ 1)
def chI (f h o : Int) : Int := if isF f && isF o && howB h then (chN f.toNat h o.toNat : Int) else -1
theorem how_of {h : Int} (hh : howB h = true) : h = 1 ∨ h = -1 ∨ h = 0 := by
  unfold howB at hh
  simp at hh
  omega
/-- What is had. -/
def hvN (f o : Nat) : Bool := chN f 1 o == f
def hvI (f o : Int) : Bool := isF f && isF o && hvN f.toNat o.toNat

theorem or_flags {f o : Nat} (hf : f < 32) (ho : o < 32) : bits .or .i64 (f : Int) (o : Int) = (chN f 1 o : Int) := by
  have : ∀ f o : Fin 32, bits .or .i64 (f.1 : Int) (o.1 : Int) = (chN f.1 1 o.1 : Int) := by decide +kernel
  exact this ⟨f, hf⟩ ⟨o, ho⟩
theorem andnot_flags {f o : Nat} (hf : f < 32) (ho : o < 32) : bits .andNot .i64 (f : Int) (o : Int) = (chN f (-1) o : Int) := by
  have : ∀ f o : Fin 32, bits .andNot .i64 (f.1 : Int) (o.1 : Int) = (chN f.1 (-1) o.1 : Int) := by decide +kernel
  exact this ⟨f, hf⟩ ⟨o, ho⟩
theorem put_flags {f o : Nat} (hf : f < 32) (ho : o < 32) : chN f 0 o = o := by
  have : ∀ f o : Fin 32, chN f.1 0 o.1 = o.1 := by decide +kernel
  exact this ⟨f, hf⟩ ⟨o, ho⟩
theorem and_flags {f o : Nat} (hf : f < 32) (ho : o < 32) : (bits .and .i64 (f : Int) (o : Int) == (o : Int)) = hvN f o := by
  have : ∀ f o : Fin 32, (bits .and .i64 (f.1 : Int) (o.1 : Int) == (o.1 : Int)) = hvN f.1 o.1 := by decide +kernel
  exact this ⟨f, hf⟩ ⟨o, ho⟩
theorem have_bit {f k : Nat} (hf : f < 32) (hk : k < 5) : hvN f (2 ^ k) = tb f k := by
  have : ∀ (f : Fin 32) (k : Fin 5), hvN f.1 (2 ^ k.1) = tb f.1 k.1 := by decide +kernel
  exact this ⟨f, hf⟩ ⟨k, hk⟩
theorem chN_lt {f o : Nat} {h : Int} (hf : f < 32) (ho : o < 32) (hh : howB h = true) : chN f h o < 32 := by
  have : ∀ f o : Fin 32, chN f.1 1 o.1 < 32 ∧ chN f.1 (-1) o.1 < 32 ∧ chN f.1 0 o.1 < 32 := by decide +kernel
  have := this ⟨f, hf⟩ ⟨o, ho⟩
  rcases how_of hh with rfl | rfl | rfl
  · exact this.1
  · exact this.2.1
  · exact this.2.2

/-- The flag of a name, 0 for another text. -/
def bitW (w : List UInt8) : Nat := if w = fnm 0 then 1 else if w = fnm 1 then 2 else if w = fnm 2 then 4 else if w = fnm 3 then 8 else if w = fnm 4 then 16 else 0
/-- The flags of names, each once, on top of 'f'. -/
def wordsF : List (List UInt8) → Nat → Option Nat
  | [], f => some f
  | w :: ws, f => if bitW w = 0 ∨ f / bitW w % 2 = 1 then none else wordsF ws (f + bitW w)
/-- The flags of a text, as the model reads it. -/
def parF (L : List UInt8) : Option Nat :=
  if L.length < 2 ∨ L.head? ≠ some 40 ∨ L.getLast? ≠ some 41 then none else if L.length = 2 then some 0 else wordsF (cut 32 (L.drop 1).dropLast) 0

theorem bitW_cases (w : List UInt8) : bitW w = 0 ∧ (∀ k, w ≠ fnm k) ∨ ∃ k, k < 5 ∧ w = fnm k ∧ bitW w = 2 ^ k := by
  by_cases h0 : w = fnm 0
  · exact .inr ⟨0, by omega, h0, by rw [h0]; rfl⟩
  by_cases h1 : w = fnm 1
  · exact .inr ⟨1, by omega, h1, by rw [h1]; rfl⟩
  by_cases h2 : w = fnm 2
  · exact .inr ⟨2, by omega, h2, by rw [h2]; rfl⟩
  by_cases h3 : w = fnm 3
  · exact .inr ⟨3, by omega, h3, by rw [h3]; rfl⟩
  by_cases h4 : w = fnm 4
  · exact .inr ⟨4, by omega, h4, by rw [h4]; rfl⟩
  · refine .inl ⟨by unfold bitW; rw [if_neg h0, if_neg h1, if_neg h2, if_neg h3, if_neg h4], fun k => ?_⟩
    match k with
    | 0 => exact h0
    | 1 => exact h1
    | 2 => exact h2
    | 3 => exact h3
    | _ + 4 => exact h4
theorem bitW_fnm {k : Nat} (h : k < 5) : bitW (fnm k) = 2 ^ k := by
  have : ∀ k : Fin 5, bitW (fnm k.1) = 2 ^ k.1 := by decide
  exact this ⟨k, h⟩
theorem fnm_letters (k : Nat) : ∀ x ∈ fnm k, x ≠ (32 : UInt8) ∧ x ≠ 41 := by
  match k with
  | 0 | 1 | 2 | 3 => decide
  | _ + 4 => show ∀ x ∈ [68, 114, 97, 102, 116], x ≠ (32 : UInt8) ∧ x ≠ 41; decide
theorem fnm_pos (k : Nat) : 1 ≤ (fnm k).length := by
  match k with
  | 0 | 1 | 2 | 3 => decide
  | _ + 4 => show 1 ≤ [68, 114, 97, 102, (116 : UInt8)].length; decide
theorem fnm_free {i j : Nat} (hi : i < 5) (hj : j < 5) {t : List UInt8} (h : fnm i = fnm j ++ t) : t = [] ∧ i = j := by
  have key : ∀ i j : Fin 5, (fnm j.1).isPrefixOf (fnm i.1) = true → i.1 = j.1 := by decide
  have e := key ⟨i, hi⟩ ⟨j, hj⟩ (by rw [h]; simp)
  simp at e
  subst e
  refine ⟨?_, rfl⟩
  have := congrArg List.length h
  rw [List.length_append] at this
  exact List.eq_nil_of_length_eq_zero (by omega)
theorem tb_bit (f k : Nat) : (f / 2 ^ k % 2 = 1) ↔ tb f k = true := by unfold tb; simp
theorem tb_add {f k : Nat} (hf : f < 32) (hk : k < 5) (h : tb f k = false) : f + 2 ^ k < 32 ∧ (∀ j, j < 5 → tb (f + 2 ^ k) j = (tb f j || j == k)) := by
  have key : ∀ (f : Fin 32) (k : Fin 5), tb f.1 k.1 = false → f.1 + 2 ^ k.1 < 32 ∧ ∀ j : Fin 5, tb (f.1 + 2 ^ k.1) j.1 = (tb f.1 j.1 || j.1 == k.1) := by decide +kernel
  have := key ⟨f, hf⟩ ⟨k, hk⟩ h
  exact ⟨this.1, fun j hj => this.2 ⟨j, hj⟩⟩

theorem wordsF_cons {k : Nat} (hk : k < 5) (ws : List (List UInt8)) (f : Nat) : wordsF (fnm k :: ws) f = if tb f k then none else wordsF ws (f + 2 ^ k) := by
  rw [wordsF, bitW_fnm hk]
  have : 2 ^ k ≠ 0 := by have := Nat.two_pow_pos k; omega
  by_cases h : tb f k = true
  · rw [if_pos h, if_pos (.inr ((tb_bit f k).2 h))]
  · rw [if_neg h, if_neg]
    rintro (h1 | h1)
    · exact this h1
    · exact h ((tb_bit f k).1 h1)
theorem wordsF_bad {w : List UInt8} (h : ∀ k, w ≠ fnm k) (ws : List (List UInt8)) (f : Nat) : wordsF (w :: ws) f = none := by
  rcases bitW_cases w with ⟨h1, _⟩ | ⟨k, _, h2, _⟩
  · rw [wordsF, if_pos (.inl h1)]
  · exact absurd h2 (h k)

/-- What the code reads behind the bracket: names with blanks between them, and the other bracket. 'n' is fuel. -/
def codF : Nat → List UInt8 → Nat → Option Nat
  | 0, _, _ => none
  | n + 1, r, f =>
    match (List.range 5).find? (fun k => (fnm k).isPrefixOf r) with
    | none => none
    | some k => if tb f k then none else
      match r.drop (fnm k).length with
      | 32 :: t => codF n t (f + 2 ^ k)
      | [41] => some (f + 2 ^ k)
      | _ => none
/-- The same, as the model reads it. -/
def modF (r : List UInt8) (f : Nat) : Option Nat := if r.getLast? = some 41 then wordsF (cut 32 r.dropLast) f else none

theorem first_word {k : Nat} {x : UInt8} {t : List UInt8} (hx : x ≠ 32) (hk : k < 5) : ∃ w rest, cut 32 (fnm k ++ x :: t) = w :: rest ∧ ∀ j, w ≠ fnm j := by
  obtain ⟨q, rest, h⟩ := cut_other 32 (fnm k) t x (fun y hy => (fnm_letters k y hy).1) hx
  refine ⟨_, rest, h, fun j hj => ?_⟩
  have : ∃ j', j' < 5 ∧ fnm j = fnm j' := by
    match j with
    | 0 => exact ⟨0, by omega, rfl⟩
    | 1 => exact ⟨1, by omega, rfl⟩
    | 2 => exact ⟨2, by omega, rfl⟩
    | 3 => exact ⟨3, by omega, rfl⟩
    | _ + 4 => exact ⟨4, by omega, rfl⟩
  obtain ⟨j', hj', e⟩ := this
  rw [e] at hj
  have := (fnm_free hj' hk hj.symm).1
  cases this
theorem last_append {a : List UInt8} {b : List UInt8} (hb : b ≠ []) : (a ++ b).getLast? = b.getLast? := by
  rw [List.getLast?_append]
  cases hb' : b.getLast? with
  | none => exact absurd (List.getLast?_eq_none_iff.1 hb') hb
  | some x => rfl
theorem drop_last_append {a : List UInt8} {b : List UInt8} (hb : b ≠ []) : (a ++ b).dropLast = a ++ b.dropLast := List.dropLast_append_of_ne_nil hb

theorem modF_name {k : Nat} (hk : k < 5) (t : List UInt8) (f : Nat) : modF (fnm k ++ t) f = if tb f k then none else
    match t with
    | 32 :: t => modF t (f + 2 ^ k)
    | [41] => some (f + 2 ^ k)
    | _ => none := by
  have hne := fnm_letters k
  have hb : ∀ y ∈ fnm k, y ≠ (32 : UInt8) := fun y hy => (hne y hy).1
  match t with
  | [] =>
    have : modF (fnm k ++ []) f = none := by
      unfold modF
      rw [List.append_nil, if_neg]
      intro h
      exact (hne 41 (List.mem_of_getLast? h)).2 rfl
    rw [this]
    split <;> rfl
  | x :: t =>
    unfold modF
    rw [last_append (by simp), drop_last_append (by simp)]
    by_cases hx : x = 32
    · subst hx
      cases t with
      | nil =>
        have e1 : modF [] (f + 2 ^ k) = none := rfl
        show (if ([32] : List UInt8).getLast? = some 41 then _ else none) = if tb f k then none else modF [] _
        rw [e1, if_neg (by decide)]
        split <;> rfl
      | cons y t =>
        show (if _ then wordsF (cut 32 (fnm k ++ 32 :: (y :: t).dropLast)) f else none) = if tb f k then none else modF (y :: t) _
        rw [cut_at 32 _ _ hb, wordsF_cons hk]
        unfold modF
        have : (32 :: y :: t : List UInt8).getLast? = (y :: t).getLast? := by simp [List.getLast?_cons]
        rw [this]
        split <;> split <;> rfl
    · cases t with
      | nil =>
        by_cases h41 : x = 41
        · subst h41
          show (if _ then wordsF (cut 32 (fnm k ++ [])) f else none) = if tb f k then none else some _
          rw [if_pos (by decide), List.append_nil, cut_nil_of 32 _ hb, wordsF_cons hk]
          rfl
        · rw [if_neg (by simpa using h41)]
          split
          · rfl
          · split
            · rename_i h; simp at h; exact absurd h.1 hx
            · rename_i h; simp at h; exact absurd h h41
            · rfl
      | cons y t =>
        obtain ⟨w, rest, h1, h2⟩ := first_word (t := (y :: t).dropLast) hx hk
        show (if _ then wordsF (cut 32 (fnm k ++ x :: (y :: t).dropLast)) f else none) = _
        rw [h1, wordsF_bad h2]
        split
        · split
          · rfl
          · split
            · rename_i h; simp at h; exact absurd h.1 hx
            · rename_i h; simp at h
            · rfl
        · split
          · rfl
          · split
            · rename_i h; simp at h; exact absurd h.1 hx
            · rename_i h; simp at h
            · rfl
theorem cutGo_fst {c : UInt8} {L : List UInt8} : ∀ {cur w : List UInt8} {rest : List (List UInt8)}, cutGo c cur L = w :: rest → ∃ t, cur ++ L = w ++ t := by
  induction L with
  | nil =>
    intro cur w rest h
    rw [cutGo] at h
    cases h
    exact ⟨[], rfl⟩
  | cons a L ih =>
    intro cur w rest h
    rw [cutGo] at h
    split at h
    · cases h
      exact ⟨_, rfl⟩
    · obtain ⟨t, ht⟩ := ih h
      exact ⟨t, by rw [← ht]; simp⟩
theorem cut_first {c : UInt8} {L w : List UInt8} {rest : List (List UInt8)} (h : cut c L = w :: rest) : ∃ t, L = w ++ t := cutGo_fst h
theorem modF_none {r : List UInt8} (h : ∀ k, k < 5 → (fnm k).isPrefixOf r = false) (f : Nat) : modF r f = none := by
  unfold modF
  by_cases h41 : r.getLast? = some 41
  · rw [if_pos h41]
    have hr : r = r.dropLast ++ [41] := by
      have hne : r ≠ [] := by rintro rfl; simp at h41
      conv => lhs; rw [← List.dropLast_concat_getLast hne]
      congr 2
      rw [List.getLast?_eq_some_getLast hne] at h41
      exact Option.some.inj h41
    -- the first word
    obtain ⟨w, rest, hc⟩ : ∃ w rest, cut 32 r.dropLast = w :: rest := by
      have := (cut_len 32 r.dropLast).1
      match hh : cut 32 r.dropLast with
      | [] => rw [hh] at this; simp at this
      | w :: rest => exact ⟨w, rest, rfl⟩
    rw [hc]
    rcases bitW_cases w with ⟨h1, _⟩ | ⟨k, hk, rfl, _⟩
    · rw [wordsF, if_pos (.inl h1)]
    · exfalso
      obtain ⟨t, ht⟩ := cut_first hc
      have := h k hk
      rw [hr, ht, List.append_assoc, List.isPrefixOf_iff_prefix.2 (List.prefix_append _ _)] at this
      cases this
  · rw [if_neg h41]

theorem codF_modF : ∀ (n : Nat) (r : List UInt8) (f : Nat), r.length < n → codF n r f = modF r f := by
  intro n
  induction n with
  | zero => intro r f h; omega
  | succ n ih =>
    intro r f hr
    rw [codF]
    cases hf : (List.range 5).find? (fun k => (fnm k).isPrefixOf r) with
    | none =>
      rw [List.find?_eq_none] at hf
      rw [modF_none fun k hk => Bool.eq_false_iff.2 (hf k (List.mem_range.2 hk))]
    | some k =>
      have hk : k < 5 := List.mem_range.1 (List.mem_of_find?_eq_some hf)
      have hp := List.find?_some hf
      obtain ⟨t, rfl⟩ := List.isPrefixOf_iff_prefix.1 hp
      have hpos := fnm_pos k
      rw [List.length_append] at hr
      rw [modF_name hk]
      show (if tb f k = true then none else match List.drop (fnm k).length (fnm k ++ t) with
        | 32 :: t => codF n t (f + 2 ^ k)
        | [41] => some (f + 2 ^ k)
        | _ => none) = _
      rw [List.drop_left]
      split
      · rfl
      · match t with
        | [] => rfl
        | x :: t =>
          by_cases hx : x = 32
          · subst hx
            exact ih t _ (by simp at hr; omega)
          · cases t with
            | nil =>
              by_cases h41 : x = 41
              · subst h41; rfl
              · split
                · rename_i h; simp at h; exact absurd h.1 hx
                · rename_i h; simp at h; exact absurd h h41
                · rfl
            | cons y t =>
              split
              · rename_i h; simp at h; exact absurd h.1 hx
              · rename_i h; simp at h
              · rfl

theorem parF_mod {r : List UInt8} (h : r ≠ [41]) : parF (40 :: r) = modF r 0 := by
  unfold parF modF
  match r with
  | [] => rfl
  | x :: t =>
    have e1 : (40 :: x :: t : List UInt8).getLast? = (x :: t).getLast? := by simp [List.getLast?_cons]
    rw [e1]
    by_cases h41 : (x :: t).getLast? = some 41
    · rw [if_pos h41, if_neg (by simp [h41]), if_neg]
      · rfl
      · intro hl
        cases t with
        | nil => simp at h41; subst h41; exact h rfl
        | cons y t => simp at hl
    · rw [if_neg h41, if_pos (.inr (.inr h41))]
theorem parF_head {L : List UInt8} (h : L.head? ≠ some 40) : parF L = none := by
  unfold parF
  rw [if_pos (.inr (.inl h))]
theorem parF_two : parF [40, 41] = some 0 := by decide

/-- What is added up grows. -/
theorem wordsF_lt : ∀ (ws : List (List UInt8)) (f g : Nat), f < 32 → wordsF ws f = some g → g < 32 ∧ (∀ j, j < 5 → tb f j = true → tb g j = true) ∧ (∀ w ∈ ws, ∃ k, k < 5 ∧ w = fnm k ∧ tb g k = true) := by
  intro ws
  induction ws with
  | nil =>
    intro f g hf h
    rw [wordsF] at h
    cases h
    exact ⟨hf, fun _ _ h => h, fun w hw => by cases hw⟩
  | cons w ws ih =>
    intro f g hf h
    rcases bitW_cases w with ⟨h1, _⟩ | ⟨k, hk, rfl, _⟩
    · rw [wordsF, if_pos (.inl h1)] at h
      cases h
    · rw [wordsF_cons hk] at h
      cases ht : tb f k with
      | true => rw [ht, if_pos rfl] at h; cases h
      | false =>
        rw [ht, if_neg (by simp)] at h
        obtain ⟨a1, a2⟩ := tb_add hf hk ht
        obtain ⟨b1, b2, b3⟩ := ih _ _ a1 h
        refine ⟨b1, fun j hj hj' => b2 j hj (by rw [a2 j hj, hj']; rfl), fun w hw => ?_⟩
        rcases List.mem_cons.1 hw with rfl | hw
        · exact ⟨k, hk, rfl, b2 k hk (by rw [a2 k hk]; simp)⟩
        · exact b3 w hw
theorem wordsF_append : ∀ (us vs : List (List UInt8)) (f : Nat), wordsF (us ++ vs) f = (wordsF us f).bind (wordsF vs) := by
  intro us
  induction us with
  | nil => intro vs f; rfl
  | cons w us ih =>
    intro vs f
    rw [List.cons_append, wordsF, wordsF]
    split
    · rfl
    · exact ih vs _
/-- How long the names are that were added. -/
def wt (f : Nat) : Nat → Nat
  | 0 => 0
  | k + 1 => wt f k + (if tb f k then (fnm k).length + 1 else 0)
theorem wt_add {f k : Nat} (hf : f < 32) (hk : k < 5) (h : tb f k = false) : wt (f + 2 ^ k) 5 = wt f 5 + (fnm k).length + 1 := by
  have key : ∀ (f : Fin 32) (k : Fin 5), tb f.1 k.1 = false → wt (f.1 + 2 ^ k.1) 5 = wt f.1 5 + (fnm k.1).length + 1 := by decide +kernel
  exact key ⟨f, hf⟩ ⟨k, hk⟩ h
theorem wt_text {f : Nat} (hf : f < 32) : (textF f).length = 1 + wt f 5 ∧ 0 < f ∨ (f = 0 ∧ (textF f).length = 2) := by
  have key : ∀ f : Fin 32, (textF f.1).length = 1 + wt f.1 5 ∧ 0 < f.1 ∨ (f.1 = 0 ∧ (textF f.1).length = 2) := by decide +kernel
  exact key ⟨f, hf⟩
def lens : List (List UInt8) → Nat
  | [] => 0
  | w :: ws => w.length + 1 + lens ws
theorem wordsF_wt : ∀ (ws : List (List UInt8)) (f g : Nat), f < 32 → wordsF ws f = some g → wt g 5 = wt f 5 + lens ws := by
  intro ws
  induction ws with
  | nil =>
    intro f g hf h
    rw [wordsF] at h
    cases h
    rfl
  | cons w ws ih =>
    intro f g hf h
    rcases bitW_cases w with ⟨h1, _⟩ | ⟨k, hk, rfl, _⟩
    · rw [wordsF, if_pos (.inl h1)] at h
      cases h
    · rw [wordsF_cons hk] at h
      cases ht : tb f k with
      | true => rw [ht, if_pos rfl] at h; cases h
      | false =>
        rw [ht, if_neg (by simp)] at h
        rw [ih _ _ (tb_add hf hk ht).1 h, wt_add hf hk ht, lens]
        omega
theorem lens_cutGo (c : UInt8) (L : List UInt8) : ∀ cur, lens (cutGo c cur L) = cur.length + L.length + 1 := by
  induction L with
  | nil => intro cur; simp [cutGo, lens]
  | cons a L ih =>
    intro cur
    rw [cutGo]
    split
    · rw [lens, ih, List.length_cons]; simp; omega
    · rw [ih]; simp; omega
theorem lens_cut (c : UInt8) (L : List UInt8) : lens (cut c L) = L.length + 1 := by
  unfold cut
  rw [lens_cutGo]
  simp

/-- A text of flags that is no pair of brackets. -/
theorem parF_some {L : List UInt8} {f : Nat} (h : parF L = some f) : (L = [40, 41] ∧ f = 0) ∨ ∃ m, L = 40 :: (m ++ [41]) ∧ m ≠ [] ∧ wordsF (cut 32 m) 0 = some f := by
  unfold parF at h
  split at h
  · cases h
  · rename_i hc
    have h1 : ¬ L.length < 2 := fun x => hc (.inl x)
    have h2 : L.head? = some 40 := Classical.byContradiction fun x => hc (.inr (.inl x))
    have h3 : L.getLast? = some 41 := Classical.byContradiction fun x => hc (.inr (.inr x))
    match L with
    | [] => simp at h1
    | a :: r =>
      simp at h2
      subst h2
      have hne : r ≠ [] := by rintro rfl; simp at h1
      have hr : r = r.dropLast ++ [41] := by
        conv => lhs; rw [← List.dropLast_concat_getLast hne]
        have e1 : (40 :: r : List UInt8).getLast? = r.getLast? := by
          cases r with
          | nil => exact absurd rfl hne
          | cons x t => simp [List.getLast?_cons]
        rw [e1, List.getLast?_eq_some_getLast hne] at h3
        rw [Option.some.inj h3]
      split at h
      · rename_i hl
        have : r.dropLast = [] := List.eq_nil_of_length_eq_zero (by rw [List.length_dropLast]; simp at hl; omega)
        refine .inl ⟨?_, (Option.some.inj h).symm⟩
        rw [hr, this]
        rfl
      · rename_i hl
        refine .inr ⟨r.dropLast, congrArg (40 :: ·) hr, ?_, h⟩
        intro hd
        have := congrArg List.length hd
        rw [List.length_dropLast] at this
        simp at this hl
        cases r with
        | nil => exact hne rfl
        | cons x t => simp at this; subst this; simp at hl
theorem parF_mid {m : List UInt8} (h : m ≠ []) : parF (40 :: (m ++ [41])) = wordsF (cut 32 m) 0 := by
  rw [parF_mod (by
    intro e
    cases m with
    | nil => exact h rfl
    | cons x t => simp at e)]
  unfold modF
  rw [if_pos (by simp)]
  simp
theorem parF_lt {L : List UInt8} {f : Nat} (h : parF L = some f) : f < 32 := by
  rcases parF_some h with ⟨_, rfl⟩ | ⟨m, _, _, hm⟩
  · omega
  · exact (wordsF_lt _ _ _ (by omega) hm).1
theorem parF_len {L : List UInt8} {f : Nat} (h : parF L = some f) : (textF f).length = L.length := by
  have hlt := parF_lt h
  rcases parF_some h with ⟨rfl, rfl⟩ | ⟨m, rfl, hm, hw⟩
  · decide
  · have h1 := wordsF_wt _ _ _ (by omega) hw
    rw [lens_cut] at h1
    have h0 : wt 0 5 = 0 := by decide
    rcases wt_text hlt with ⟨h2, _⟩ | ⟨rfl, _⟩
    · rw [h2, h1, h0]
      simp
      omega
    · rw [h0] at h1
      omega
theorem parF_text {f : Nat} (h : f < 32) : parF (textF f) = some f := by
  have key : ∀ f : Fin 32, parF (textF f.1) = some f.1 := by decide +kernel
  exact key ⟨f, h⟩
theorem textF_shape {f : Nat} (h : f < 32) : 2 ≤ (textF f).length ∧ (textF f).length ≤ 40 ∧ (textF f).head? = some 40 ∧ (textF f).getLast? = some 41 ∧ (textF f = [40, 41] ↔ f = 0) := by
  have key : ∀ f : Fin 32, 2 ≤ (textF f.1).length ∧ (textF f.1).length ≤ 40 ∧ (textF f.1).head? = some 40 ∧ (textF f.1).getLast? = some 41 ∧ (textF f.1 = [40, 41] ↔ f.1 = 0) := by decide +kernel
  exact key ⟨f, h⟩
theorem outF_len {f k : Nat} (hf : f < 32) (hk : k ≤ 5) : 1 ≤ (outF f k).length ∧ (outF f k).length ≤ 40 := by
  have key : ∀ (f : Fin 32) (k : Fin 6), 1 ≤ (outF f.1 k.1).length ∧ (outF f.1 k.1).length ≤ 40 := by decide +kernel
  exact key ⟨f, hf⟩ ⟨k, by omega⟩
theorem cut_app (m n : List UInt8) : cut 32 (m ++ 32 :: n) = cut 32 m ++ cut 32 n := by
  have key : ∀ (m cur : List UInt8), cutGo 32 cur (m ++ 32 :: n) = cutGo 32 cur m ++ cut 32 n := by
    intro m
    induction m with
    | nil => intro cur; rw [List.nil_append]; conv => lhs; rw [cutGo, if_pos rfl]
             rfl
    | cons a m ih =>
      intro cur
      rw [List.cons_append, cutGo, cutGo]
      split
      · rw [ih]; rfl
      · exact ih _
  exact key m []
theorem parF_twice {m : List UInt8} {f : Nat} (hm : m ≠ []) (h : parF (40 :: (m ++ [41])) = some f) : parF (40 :: ((m ++ 32 :: m) ++ [41])) = none := by
  rw [parF_mid hm] at h
  rw [parF_mid (by simp), cut_app, wordsF_append, h]
  show wordsF (cut 32 m) f = none
  obtain ⟨a1, a2, a3⟩ := wordsF_lt _ _ _ (by omega) h
  match hc : cut 32 m with
  | [] => have := (cut_len 32 m).1; rw [hc] at this; simp at this
  | w :: ws =>
    obtain ⟨k, hk, rfl, ht⟩ := a3 w (by rw [hc]; simp)
    rw [wordsF_cons hk, ht]
    rfl
theorem parF_seen {m : List UInt8} {f : Nat} (hm : m ≠ []) (h : parF (40 :: (m ++ [41])) = some f) (h2 : tb f 0 = false) : parF (40 :: ((m ++ 32 :: fnm 0) ++ [41])) = some (f + 1) := by
  rw [parF_mid hm] at h
  rw [parF_mid (by simp), cut_app, wordsF_append, h]
  show wordsF (cut 32 (fnm 0)) f = some (f + 1)
  rw [show cut 32 (fnm 0) = [fnm 0] by decide, wordsF_cons (by omega), h2]
  rfl

theorem chI_yes {f o : Nat} {h : Int} (hf : f < 32) (ho : o < 32) (hh : howB h = true) : chI (f : Int) h (o : Int) = (chN f h o : Int) := by
  unfold chI
  rw [isF_of hf, isF_of ho, hh]
  rfl
theorem chI_no {f h o : Int} (hn : (isF f && isF o && howB h) = false) : chI f h o = -1 := by
  unfold chI
  rw [hn]
  rfl
theorem hvI_yes {f o : Nat} (hf : f < 32) (ho : o < 32) : hvI (f : Int) (o : Int) = hvN f o := by
  unfold hvI
  rw [isF_of hf, isF_of ho]
  rfl
theorem hvI_no {f o : Int} (hn : (isF f && isF o) = false) : hvI f o = false := by
  unfold hvI
  rw [hn]
  rfl
theorem set_law {f o : Nat} (hf : f < 32) (ho : o < 32) : hvN (chN f 1 o) f = true ∧ hvN (chN f 1 o) o = true ∧ chN f 1 o ≤ f + o := by
  have key : ∀ f o : Fin 32, hvN (chN f.1 1 o.1) f.1 = true ∧ hvN (chN f.1 1 o.1) o.1 = true ∧ chN f.1 1 o.1 ≤ f.1 + o.1 := by decide +kernel
  exact key ⟨f, hf⟩ ⟨o, ho⟩
theorem rem_law {f o : Nat} (hf : f < 32) (ho : o < 32) : hvN f (chN f (-1) o) = true ∧ chN (chN f (-1) o) (-1) o = chN f (-1) o ∧ chN (chN f (-1) o) 1 o = chN f 1 o := by
  have key : ∀ f o : Fin 32, hvN f.1 (chN f.1 (-1) o.1) = true ∧ chN (chN f.1 (-1) o.1) (-1) o.1 = chN f.1 (-1) o.1 ∧ chN (chN f.1 (-1) o.1) 1 o.1 = chN f.1 1 o.1 := by decide +kernel
  exact key ⟨f, hf⟩ ⟨o, ho⟩
theorem twice_law {f o : Nat} {h : Int} (hf : f < 32) (ho : o < 32) (hh : howB h = true) : chN (chN f h o) h o = chN f h o := by
  have key : ∀ f o : Fin 32, chN (chN f.1 1 o.1) 1 o.1 = chN f.1 1 o.1 ∧ chN (chN f.1 (-1) o.1) (-1) o.1 = chN f.1 (-1) o.1 ∧ chN (chN f.1 0 o.1) 0 o.1 = chN f.1 0 o.1 := by decide +kernel
  have := key ⟨f, hf⟩ ⟨o, ho⟩
  rcases how_of hh with rfl | rfl | rfl
  · exact this.1
  · exact this.2.1
  · exact this.2.2
theorem order_law {f o : Nat} (hf : f < 32) (ho : o < 32) : chN o 1 f = chN f 1 o := by
  have key : ∀ f o : Fin 32, chN o.1 1 f.1 = chN f.1 1 o.1 := by decide +kernel
  exact key ⟨f, hf⟩ ⟨o, ho⟩
theorem self_law {f : Nat} (hf : f < 32) : hvN f f = true ∧ hvN f 0 = true ∧ hvN 31 f = true := by
  have key : ∀ f : Fin 32, hvN f.1 f.1 = true ∧ hvN f.1 0 = true ∧ hvN 31 f.1 = true := by decide +kernel
  exact key ⟨f, hf⟩
theorem chI_order (f o : Int) : chI o 1 f = chI f 1 o := by
  cases h : isF f && isF o with
  | true =>
    rw [Bool.and_eq_true] at h
    obtain ⟨a, ha, rfl⟩ := isF_nat h.1
    obtain ⟨b, hb, rfl⟩ := isF_nat h.2
    rw [chI_yes ha hb (by decide), chI_yes hb ha (by decide), order_law ha hb]
  | false =>
    rw [chI_no (f := o) (o := f) (by rw [Bool.and_comm (isF o), h]; rfl), chI_no (f := f) (o := o) (by rw [h]; rfl)]
theorem chI_range (f h o : Int) : chI f h o = -1 ∨ ∃ a b : Nat, a < 32 ∧ b < 32 ∧ f = (a : Int) ∧ o = (b : Int) ∧ howB h = true ∧ chI f h o = (chN a h b : Int) ∧ chN a h b < 32 := by
  cases hh : isF f && isF o && howB h with
  | false => exact .inl (chI_no hh)
  | true =>
    rw [Bool.and_eq_true, Bool.and_eq_true] at hh
    obtain ⟨⟨h1, h2⟩, h3⟩ := hh
    obtain ⟨a, ha, rfl⟩ := isF_nat h1
    obtain ⟨b, hb, rfl⟩ := isF_nat h2
    exact .inr ⟨a, b, ha, hb, rfl, rfl, h3, chI_yes ha hb h3, chN_lt ha hb h3⟩
end Go.Proofs.Ytllhcogmcfgnoaa
