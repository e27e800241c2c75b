/-
  Fmath, Gmath, Fimp, Fspc, Ftxt, Gq, Hq in one text. Conditions: each contract's own.
-/
import Derived.Test.YtnfigpknejmkmaaGreatDoorEq
import Derived.Lib.Strings
import Derived.Lib.Join
import Derived.Test.YtnfigpknejmkmaaGreatDoorDraws
import Derived.Test.YtnfigpknejmkmaaGreatDoorRow
import Derived.Test.YtnfigpknejmkmaaGreatDoorKmy
import Derived.Deep.RegionLaw
import Derived.Deep.LoopGhost
import Derived.Outline
import Derived.WalkSpells
namespace Go.Proofs.YtnfigpknejmkmaaGreatDoor
set_option linter.unusedVariables false

/-- The names of flags. -/
def fnm : Nat → List UInt8
  | 0 => [83, 101, 101, 110]
  | 1 => [65, 110, 115, 119, 101, 114, 101, 100]
  | 2 => [70, 108, 97, 103, 103, 101, 100]
  | 3 => [68, 101, 108, 101, 116, 101, 100]
  | _ => [68, 114, 97, 102, 116]
/-- The flag 'k' is among 'f'. -/
def tb (f k : Nat) : Bool := f / 2 ^ k % 2 == 1
/-- Flags. -/
def isF (n : Int) : Bool := decide (0 ≤ n) && decide (n ≤ 31)
theorem isF_nat {n : Int} (h : isF n = true) : ∃ f : Nat, f < 32 ∧ n = (f : Int) := by
  unfold isF at h
  simp at h
  exact ⟨n.toNat, by omega, by omega⟩
theorem isF_of {f : Nat} (h : f < 32) : isF (f : Int) = true := by
  unfold isF
  simp
  omega
theorem isF_no {n : Int} (h : isF n = false) : n < 0 ∨ 31 < n := by
  unfold isF at h
  simp at h
  omega

/-- The text of flags, up to the flag 'k'. -/
def outF (f : Nat) : Nat → List UInt8
  | 0 => [40]
  | k + 1 => if tb f k then (if 1 < (outF f k).length then outF f k ++ [32] else outF f k) ++ fnm k else outF f k
def textF (f : Nat) : List UInt8 := outF f 5 ++ [41]
/-- The names of the flags, up to the flag 'k'. -/
def idxF (f : Nat) : Nat → List (List UInt8)
  | 0 => []
  | k + 1 => if tb f k then idxF f k ++ [fnm k] else idxF f k
theorem text_join (f : Nat) (h : f < 32) : [40] ++ Lib.join (idxF f 5) [32] ++ [41] = textF f := by
  have : ∀ f : Fin 32, [40] ++ Lib.join (idxF f.1 5) [32] ++ [41] = textF f.1 := by decide +kernel
  exact this ⟨f, h⟩

/-- A change, one flag after the other. -/
def onB (f : Nat) (h : Int) (o k : Nat) : Bool := (h == 1 && (tb f k || tb o k)) || (h == -1 && tb f k && !tb o k) || (h == 0 && tb o k)
def chK (f : Nat) (h : Int) (o : Nat) : Nat → Nat
  | 0 => 0
  | k + 1 => if onB f h o k then chK f h o k + 2 ^ k else chK f h o k
def chN (f : Nat) (h : Int) (o : Nat) : Nat := chK f h o 5
/-- A change of what may be no flags. -/
def howB (h : Int) : Bool := decide (-1 ≤ h) && decide (h ≤ 1)
def chI (f h o : Int) : Int := if isF f && isF o && howB h then (chN f.toNat h o.toNat : Int) else -1
theorem how_of {h : Int} (hh : howB h = true) : h = 1 ∨ h = -1 ∨ h = 0 := by
  unfold howB at hh
  simp at hh
  omega
/-- What is had. -/
def hvN (f o : Nat) : Bool := chN f 1 o == f
def hvI (f o : Int) : Bool := isF f && isF o && hvN f.toNat o.toNat

theorem or_flags {f o : Nat} (hf : f < 32) (ho : o < 32) : bits .or .i64 (f : Int) (o : Int) = (chN f 1 o : Int) := by
  have : ∀ f o : Fin 32, bits .or .i64 (f.1 : Int) (o.1 : Int) = (chN f.1 1 o.1 : Int) := by decide +kernel
  exact this ⟨f, hf⟩ ⟨o, ho⟩
theorem andnot_flags {f o : Nat} (hf : f < 32) (ho : o < 32) : bits .andNot .i64 (f : Int) (o : Int) = (chN f (-1) o : Int) := by
  have : ∀ f o : Fin 32, bits .andNot .i64 (f.1 : Int) (o.1 : Int) = (chN f.1 (-1) o.1 : Int) := by decide +kernel
  exact this ⟨f, hf⟩ ⟨o, ho⟩
theorem put_flags {f o : Nat} (hf : f < 32) (ho : o < 32) : chN f 0 o = o := by
  have : ∀ f o : Fin 32, chN f.1 0 o.1 = o.1 := by decide +kernel
  exact this ⟨f, hf⟩ ⟨o, ho⟩
theorem and_flags {f o : Nat} (hf : f < 32) (ho : o < 32) : (bits .and .i64 (f : Int) (o : Int) == (o : Int)) = hvN f o := by
  have : ∀ f o : Fin 32, (bits .and .i64 (f.1 : Int) (o.1 : Int) == (o.1 : Int)) = hvN f.1 o.1 := by decide +kernel
  exact this ⟨f, hf⟩ ⟨o, ho⟩
theorem have_bit {f k : Nat} (hf : f < 32) (hk : k < 5) : hvN f (2 ^ k) = tb f k := by
  have : ∀ (f : Fin 32) (k : Fin 5), hvN f.1 (2 ^ k.1) = tb f.1 k.1 := by decide +kernel
  exact this ⟨f, hf⟩ ⟨k, hk⟩
theorem chN_lt {f o : Nat} {h : Int} (hf : f < 32) (ho : o < 32) (hh : howB h = true) : chN f h o < 32 := by
  have : ∀ f o : Fin 32, chN f.1 1 o.1 < 32 ∧ chN f.1 (-1) o.1 < 32 ∧ chN f.1 0 o.1 < 32 := by decide +kernel
  have := this ⟨f, hf⟩ ⟨o, ho⟩
  rcases how_of hh with rfl | rfl | rfl
  · exact this.1
  · exact this.2.1
  · exact this.2.2

/-- The flag of a name, 0 for another text. -/
def bitW (w : List UInt8) : Nat := if w = fnm 0 then 1 else if w = fnm 1 then 2 else if w = fnm 2 then 4 else if w = fnm 3 then 8 else if w = fnm 4 then 16 else 0
/-- The flags of names, each once, on top of 'f'. -/
def wordsF : List (List UInt8) → Nat → Option Nat
  | [], f => some f
  | w :: ws, f => if bitW w = 0 ∨ f / bitW w % 2 = 1 then none else wordsF ws (f + bitW w)
/-- The flags of a text, as the model reads it. -/
def parF (L : List UInt8) : Option Nat :=
  if L.length < 2 ∨ L.head? ≠ some 40 ∨ L.getLast? ≠ some 41 then none else if L.length = 2 then some 0 else wordsF (cut 32 (L.drop 1).dropLast) 0

theorem bitW_cases (w : List UInt8) : bitW w = 0 ∧ (∀ k, w ≠ fnm k) ∨ ∃ k, k < 5 ∧ w = fnm k ∧ bitW w = 2 ^ k := by
  by_cases h0 : w = fnm 0
  · exact .inr ⟨0, by omega, h0, by rw [h0]; rfl⟩
  by_cases h1 : w = fnm 1
  · exact .inr ⟨1, by omega, h1, by rw [h1]; rfl⟩
  by_cases h2 : w = fnm 2
  · exact .inr ⟨2, by omega, h2, by rw [h2]; rfl⟩
  by_cases h3 : w = fnm 3
  · exact .inr ⟨3, by omega, h3, by rw [h3]; rfl⟩
  by_cases h4 : w = fnm 4
  · exact .inr ⟨4, by omega, h4, by rw [h4]; rfl⟩
  · refine .inl ⟨by unfold bitW; rw [if_neg h0, if_neg h1, if_neg h2, if_neg h3, if_neg h4], fun k => ?_⟩
    match k with
    | 0 => exact h0
    | 1 => exact h1
    | 2 => exact h2
    | 3 => exact h3
    | _ + 4 => exact h4
theorem bitW_fnm {k : Nat} (h : k < 5) : bitW (fnm k) = 2 ^ k := by
  have : ∀ k : Fin 5, bitW (fnm k.1) = 2 ^ k.1 := by decide
  exact this ⟨k, h⟩
theorem fnm_letters (k : Nat) : ∀ x ∈ fnm k, x ≠ (32 : UInt8) ∧ x ≠ 41 := by
  match k with
  | 0 | 1 | 2 | 3 => decide
  | _ + 4 => show ∀ x ∈ [68, 114, 97, 102, 116], x ≠ (32 : UInt8) ∧ x ≠ 41; decide
theorem fnm_pos (k : Nat) : 1 ≤ (fnm k).length := by
  match k with
  | 0 | 1 | 2 | 3 => decide
  | _ + 4 => show 1 ≤ [68, 114, 97, 102, (116 : UInt8)].length; decide
theorem fnm_free {i j : Nat} (hi : i < 5) (hj : j < 5) {t : List UInt8} (h : fnm i = fnm j ++ t) : t = [] ∧ i = j := by
  have key : ∀ i j : Fin 5, (fnm j.1).isPrefixOf (fnm i.1) = true → i.1 = j.1 := by decide
  have e := key ⟨i, hi⟩ ⟨j, hj⟩ (by rw [h]; simp)
  simp at e
  subst e
  refine ⟨?_, rfl⟩
  have := congrArg List.length h
  rw [List.length_append] at this
  exact List.eq_nil_of_length_eq_zero (by omega)
theorem tb_bit (f k : Nat) : (f / 2 ^ k % 2 = 1) ↔ tb f k = true := by unfold tb; simp
theorem tb_add {f k : Nat} (hf : f < 32) (hk : k < 5) (h : tb f k = false) : f + 2 ^ k < 32 ∧ (∀ j, j < 5 → tb (f + 2 ^ k) j = (tb f j || j == k)) := by
  have key : ∀ (f : Fin 32) (k : Fin 5), tb f.1 k.1 = false → f.1 + 2 ^ k.1 < 32 ∧ ∀ j : Fin 5, tb (f.1 + 2 ^ k.1) j.1 = (tb f.1 j.1 || j.1 == k.1) := by decide +kernel
  have := key ⟨f, hf⟩ ⟨k, hk⟩ h
  exact ⟨this.1, fun j hj => this.2 ⟨j, hj⟩⟩

theorem wordsF_cons {k : Nat} (hk : k < 5) (ws : List (List UInt8)) (f : Nat) : wordsF (fnm k :: ws) f = if tb f k then none else wordsF ws (f + 2 ^ k) := by
  rw [wordsF, bitW_fnm hk]
  have : 2 ^ k ≠ 0 := by have := Nat.two_pow_pos k; omega
  by_cases h : tb f k = true
  · rw [if_pos h, if_pos (.inr ((tb_bit f k).2 h))]
  · rw [if_neg h, if_neg]
    rintro (h1 | h1)
    · exact this h1
    · exact h ((tb_bit f k).1 h1)
theorem wordsF_bad {w : List UInt8} (h : ∀ k, w ≠ fnm k) (ws : List (List UInt8)) (f : Nat) : wordsF (w :: ws) f = none := by
  rcases bitW_cases w with ⟨h1, _⟩ | ⟨k, _, h2, _⟩
  · rw [wordsF, if_pos (.inl h1)]
  · exact absurd h2 (h k)

/-- What the code reads behind the bracket: names with blanks between them, and the other bracket. 'n' is fuel. -/
def codF : Nat → List UInt8 → Nat → Option Nat
  | 0, _, _ => none
  | n + 1, r, f =>
    match (List.range 5).find? (fun k => (fnm k).isPrefixOf r) with
    | none => none
    | some k => if tb f k then none else
      match r.drop (fnm k).length with
      | 32 :: t => codF n t (f + 2 ^ k)
      | [41] => some (f + 2 ^ k)
      | _ => none
/-- The same, as the model reads it. -/
def modF (r : List UInt8) (f : Nat) : Option Nat := if r.getLast? = some 41 then wordsF (cut 32 r.dropLast) f else none

theorem first_word {k : Nat} {x : UInt8} {t : List UInt8} (hx : x ≠ 32) (hk : k < 5) : ∃ w rest, cut 32 (fnm k ++ x :: t) = w :: rest ∧ ∀ j, w ≠ fnm j := by
  obtain ⟨q, rest, h⟩ := cut_other 32 (fnm k) t x (fun y hy => (fnm_letters k y hy).1) hx
  refine ⟨_, rest, h, fun j hj => ?_⟩
  have : ∃ j', j' < 5 ∧ fnm j = fnm j' := by
    match j with
    | 0 => exact ⟨0, by omega, rfl⟩
    | 1 => exact ⟨1, by omega, rfl⟩
    | 2 => exact ⟨2, by omega, rfl⟩
    | 3 => exact ⟨3, by omega, rfl⟩
    | _ + 4 => exact ⟨4, by omega, rfl⟩
  obtain ⟨j', hj', e⟩ := this
  rw [e] at hj
  have := (fnm_free hj' hk hj.symm).1
  cases this
theorem last_append {a : List UInt8} {b : List UInt8} (hb : b ≠ []) : (a ++ b).getLast? = b.getLast? := by
  rw [List.getLast?_append]
  cases hb' : b.getLast? with
  | none => exact absurd (List.getLast?_eq_none_iff.1 hb') hb
  | some x => rfl
theorem drop_last_append {a : List UInt8} {b : List UInt8} (hb : b ≠ []) : (a ++ b).dropLast = a ++ b.dropLast := List.dropLast_append_of_ne_nil hb

theorem modF_name {k : Nat} (hk : k < 5) (t : List UInt8) (f : Nat) : modF (fnm k ++ t) f = if tb f k then none else
    match t with
    | 32 :: t => modF t (f + 2 ^ k)
    | [41] => some (f + 2 ^ k)
    | _ => none := by
  have hne := fnm_letters k
  have hb : ∀ y ∈ fnm k, y ≠ (32 : UInt8) := fun y hy => (hne y hy).1
  match t with
  | [] =>
    have : modF (fnm k ++ []) f = none := by
      unfold modF
      rw [List.append_nil, if_neg]
      intro h
      exact (hne 41 (List.mem_of_getLast? h)).2 rfl
    rw [this]
    split <;> rfl
  | x :: t =>
    unfold modF
    rw [last_append (by simp), drop_last_append (by simp)]
    by_cases hx : x = 32
    · subst hx
      cases t with
      | nil =>
        have e1 : modF [] (f + 2 ^ k) = none := rfl
        show (if ([32] : List UInt8).getLast? = some 41 then _ else none) = if tb f k then none else modF [] _
        rw [e1, if_neg (by decide)]
        split <;> rfl
      | cons y t =>
        show (if _ then wordsF (cut 32 (fnm k ++ 32 :: (y :: t).dropLast)) f else none) = if tb f k then none else modF (y :: t) _
        rw [cut_at 32 _ _ hb, wordsF_cons hk]
        unfold modF
        have : (32 :: y :: t : List UInt8).getLast? = (y :: t).getLast? := by simp [List.getLast?_cons]
        rw [this]
        split <;> split <;> rfl
    · cases t with
      | nil =>
        by_cases h41 : x = 41
        · subst h41
          show (if _ then wordsF (cut 32 (fnm k ++ [])) f else none) = if tb f k then none else some _
          rw [if_pos (by decide), List.append_nil, cut_nil_of 32 _ hb, wordsF_cons hk]
          rfl
        · rw [if_neg (by simpa using h41)]
          split
          · rfl
          · split
            · rename_i h; simp at h; exact absurd h.1 hx
            · rename_i h; simp at h; exact absurd h h41
            · rfl
      | cons y t =>
        obtain ⟨w, rest, h1, h2⟩ := first_word (t := (y :: t).dropLast) hx hk
        show (if _ then wordsF (cut 32 (fnm k ++ x :: (y :: t).dropLast)) f else none) = _
        rw [h1, wordsF_bad h2]
        split
        · split
          · rfl
          · split
            · rename_i h; simp at h; exact absurd h.1 hx
            · rename_i h; simp at h
            · rfl
        · split
          · rfl
          · split
            · rename_i h; simp at h; exact absurd h.1 hx
            · rename_i h; simp at h
            · rfl
theorem cutGo_fst {c : UInt8} {L : List UInt8} : ∀ {cur w : List UInt8} {rest : List (List UInt8)}, cutGo c cur L = w :: rest → ∃ t, cur ++ L = w ++ t := by
  induction L with
  | nil =>
    intro cur w rest h
    rw [cutGo] at h
    cases h
    exact ⟨[], rfl⟩
  | cons a L ih =>
    intro cur w rest h
    rw [cutGo] at h
    split at h
    · cases h
      exact ⟨_, rfl⟩
    · obtain ⟨t, ht⟩ := ih h
      exact ⟨t, by rw [← ht]; simp⟩
theorem cut_first {c : UInt8} {L w : List UInt8} {rest : List (List UInt8)} (h : cut c L = w :: rest) : ∃ t, L = w ++ t := cutGo_fst h
theorem modF_none {r : List UInt8} (h : ∀ k, k < 5 → (fnm k).isPrefixOf r = false) (f : Nat) : modF r f = none := by
  unfold modF
  by_cases h41 : r.getLast? = some 41
  · rw [if_pos h41]
    have hr : r = r.dropLast ++ [41] := by
      have hne : r ≠ [] := by rintro rfl; simp at h41
      conv => lhs; rw [← List.dropLast_concat_getLast hne]
      congr 2
      rw [List.getLast?_eq_some_getLast hne] at h41
      exact Option.some.inj h41
    -- the first word
    obtain ⟨w, rest, hc⟩ : ∃ w rest, cut 32 r.dropLast = w :: rest := by
      have := (cut_len 32 r.dropLast).1
      match hh : cut 32 r.dropLast with
      | [] => rw [hh] at this; simp at this
      | w :: rest => exact ⟨w, rest, rfl⟩
    rw [hc]
    rcases bitW_cases w with ⟨h1, _⟩ | ⟨k, hk, rfl, _⟩
    · rw [wordsF, if_pos (.inl h1)]
    · exfalso
      obtain ⟨t, ht⟩ := cut_first hc
      have := h k hk
      rw [hr, ht, List.append_assoc, List.isPrefixOf_iff_prefix.2 (List.prefix_append _ _)] at this
      cases this
  · rw [if_neg h41]

theorem codF_modF : ∀ (n : Nat) (r : List UInt8) (f : Nat), r.length < n → codF n r f = modF r f := by
  intro n
  induction n with
  | zero => intro r f h; omega
  | succ n ih =>
    intro r f hr
    rw [codF]
    cases hf : (List.range 5).find? (fun k => (fnm k).isPrefixOf r) with
    | none =>
      rw [List.find?_eq_none] at hf
      rw [modF_none fun k hk => Bool.eq_false_iff.2 (hf k (List.mem_range.2 hk))]
    | some k =>
      have hk : k < 5 := List.mem_range.1 (List.mem_of_find?_eq_some hf)
      have hp := List.find?_some hf
      obtain ⟨t, rfl⟩ := List.isPrefixOf_iff_prefix.1 hp
      have hpos := fnm_pos k
      rw [List.length_append] at hr
      rw [modF_name hk]
      show (if tb f k = true then none else match List.drop (fnm k).length (fnm k ++ t) with
        | 32 :: t => codF n t (f + 2 ^ k)
        | [41] => some (f + 2 ^ k)
        | _ => none) = _
      rw [List.drop_left]
      split
      · rfl
      · match t with
        | [] => rfl
        | x :: t =>
          by_cases hx : x = 32
          · subst hx
            exact ih t _ (by simp at hr; omega)
          · cases t with
            | nil =>
              by_cases h41 : x = 41
              · subst h41; rfl
              · split
                · rename_i h; simp at h; exact absurd h.1 hx
                · rename_i h; simp at h; exact absurd h h41
                · rfl
            | cons y t =>
              split
              · rename_i h; simp at h; exact absurd h.1 hx
              · rename_i h; simp at h
              · rfl

theorem parF_mod {r : List UInt8} (h : r ≠ [41]) : parF (40 :: r) = modF r 0 := by
  unfold parF modF
  match r with
  | [] => rfl
  | x :: t =>
    have e1 : (40 :: x :: t : List UInt8).getLast? = (x :: t).getLast? := by simp [List.getLast?_cons]
    rw [e1]
    by_cases h41 : (x :: t).getLast? = some 41
    · rw [if_pos h41, if_neg (by simp [h41]), if_neg]
      · rfl
      · intro hl
        cases t with
        | nil => simp at h41; subst h41; exact h rfl
        | cons y t => simp at hl
    · rw [if_neg h41, if_pos (.inr (.inr h41))]
theorem parF_head {L : List UInt8} (h : L.head? ≠ some 40) : parF L = none := by
  unfold parF
  rw [if_pos (.inr (.inl h))]
theorem parF_two : parF [40, 41] = some 0 := by decide

/-- What is added up grows. -/
theorem wordsF_lt : ∀ (ws : List (List UInt8)) (f g : Nat), f < 32 → wordsF ws f = some g → g < 32 ∧ (∀ j, j < 5 → tb f j = true → tb g j = true) ∧ (∀ w ∈ ws, ∃ k, k < 5 ∧ w = fnm k ∧ tb g k = true) := by
  intro ws
  induction ws with
  | nil =>
    intro f g hf h
    rw [wordsF] at h
    cases h
    exact ⟨hf, fun _ _ h => h, fun w hw => by cases hw⟩
  | cons w ws ih =>
    intro f g hf h
    rcases bitW_cases w with ⟨h1, _⟩ | ⟨k, hk, rfl, _⟩
    · rw [wordsF, if_pos (.inl h1)] at h
      cases h
    · rw [wordsF_cons hk] at h
      cases ht : tb f k with
      | true => rw [ht, if_pos rfl] at h; cases h
      | false =>
        rw [ht, if_neg (by simp)] at h
        obtain ⟨a1, a2⟩ := tb_add hf hk ht
        obtain ⟨b1, b2, b3⟩ := ih _ _ a1 h
        refine ⟨b1, fun j hj hj' => b2 j hj (by rw [a2 j hj, hj']; rfl), fun w hw => ?_⟩
        rcases List.mem_cons.1 hw with rfl | hw
        · exact ⟨k, hk, rfl, b2 k hk (by rw [a2 k hk]; simp)⟩
        · exact b3 w hw
theorem wordsF_append : ∀ (us vs : List (List UInt8)) (f : Nat), wordsF (us ++ vs) f = (wordsF us f).bind (wordsF vs) := by
  intro us
  induction us with
  | nil => intro vs f; rfl
  | cons w us ih =>
    intro vs f
    rw [List.cons_append, wordsF, wordsF]
    split
    · rfl
    · exact ih vs _
/-- How long the names are that were added. -/
def wt (f : Nat) : Nat → Nat
  | 0 => 0
  | k + 1 => wt f k + (if tb f k then (fnm k).length + 1 else 0)
theorem wt_add {f k : Nat} (hf : f < 32) (hk : k < 5) (h : tb f k = false) : wt (f + 2 ^ k) 5 = wt f 5 + (fnm k).length + 1 := by
  have key : ∀ (f : Fin 32) (k : Fin 5), tb f.1 k.1 = false → wt (f.1 + 2 ^ k.1) 5 = wt f.1 5 + (fnm k.1).length + 1 := by decide +kernel
  exact key ⟨f, hf⟩ ⟨k, hk⟩ h
theorem wt_text {f : Nat} (hf : f < 32) : (textF f).length = 1 + wt f 5 ∧ 0 < f ∨ (f = 0 ∧ (textF f).length = 2) := by
  have key : ∀ f : Fin 32, (textF f.1).length = 1 + wt f.1 5 ∧ 0 < f.1 ∨ (f.1 = 0 ∧ (textF f.1).length = 2) := by decide +kernel
  exact key ⟨f, hf⟩
def lens : List (List UInt8) → Nat
  | [] => 0
  | w :: ws => w.length + 1 + lens ws
theorem wordsF_wt : ∀ (ws : List (List UInt8)) (f g : Nat), f < 32 → wordsF ws f = some g → wt g 5 = wt f 5 + lens ws := by
  intro ws
  induction ws with
  | nil =>
    intro f g hf h
    rw [wordsF] at h
    cases h
    rfl
  | cons w ws ih =>
    intro f g hf h
    rcases bitW_cases w with ⟨h1, _⟩ | ⟨k, hk, rfl, _⟩
    · rw [wordsF, if_pos (.inl h1)] at h
      cases h
    · rw [wordsF_cons hk] at h
      cases ht : tb f k with
      | true => rw [ht, if_pos rfl] at h; cases h
      | false =>
        rw [ht, if_neg (by simp)] at h
        rw [ih _ _ (tb_add hf hk ht).1 h, wt_add hf hk ht, lens]
        omega
theorem lens_cutGo (c : UInt8) (L : List UInt8) : ∀ cur, lens (cutGo c cur L) = cur.length + L.length + 1 := by
  induction L with
  | nil => intro cur; simp [cutGo, lens]
  | cons a L ih =>
    intro cur
    rw [cutGo]
    split
    · rw [lens, ih, List.length_cons]; simp; omega
    · rw [ih]; simp; omega
theorem lens_cut (c : UInt8) (L : List UInt8) : lens (cut c L) = L.length + 1 := by
  unfold cut
  rw [lens_cutGo]
  simp

/-- A text of flags that is no pair of brackets. -/
theorem parF_some {L : List UInt8} {f : Nat} (h : parF L = some f) : (L = [40, 41] ∧ f = 0) ∨ ∃ m, L = 40 :: (m ++ [41]) ∧ m ≠ [] ∧ wordsF (cut 32 m) 0 = some f := by
  unfold parF at h
  split at h
  · cases h
  · rename_i hc
    have h1 : ¬ L.length < 2 := fun x => hc (.inl x)
    have h2 : L.head? = some 40 := Classical.byContradiction fun x => hc (.inr (.inl x))
    have h3 : L.getLast? = some 41 := Classical.byContradiction fun x => hc (.inr (.inr x))
    match L with
    | [] => simp at h1
    | a :: r =>
      simp at h2
      subst h2
      have hne : r ≠ [] := by rintro rfl; simp at h1
      have hr : r = r.dropLast ++ [41] := by
        conv => lhs; rw [← List.dropLast_concat_getLast hne]
        have e1 : (40 :: r : List UInt8).getLast? = r.getLast? := by
          cases r with
          | nil => exact absurd rfl hne
          | cons x t => simp [List.getLast?_cons]
        rw [e1, List.getLast?_eq_some_getLast hne] at h3
        rw [Option.some.inj h3]
      split at h
      · rename_i hl
        have : r.dropLast = [] := List.eq_nil_of_length_eq_zero (by rw [List.length_dropLast]; simp at hl; omega)
        refine .inl ⟨?_, (Option.some.inj h).symm⟩
        rw [hr, this]
        rfl
      · rename_i hl
        refine .inr ⟨r.dropLast, congrArg (40 :: ·) hr, ?_, h⟩
        intro hd
        have := congrArg List.length hd
        rw [List.length_dropLast] at this
        simp at this hl
        cases r with
        | nil => exact hne rfl
        | cons x t => simp at this; subst this; simp at hl
theorem parF_mid {m : List UInt8} (h : m ≠ []) : parF (40 :: (m ++ [41])) = wordsF (cut 32 m) 0 := by
  rw [parF_mod (by
    intro e
    cases m with
    | nil => exact h rfl
    | cons x t => simp at e)]
  unfold modF
  rw [if_pos (by simp)]
  simp
theorem parF_lt {L : List UInt8} {f : Nat} (h : parF L = some f) : f < 32 := by
  rcases parF_some h with ⟨_, rfl⟩ | ⟨m, _, _, hm⟩
  · omega
  · exact (wordsF_lt _ _ _ (by omega) hm).1
theorem parF_len {L : List UInt8} {f : Nat} (h : parF L = some f) : (textF f).length = L.length := by
  have hlt := parF_lt h
  rcases parF_some h with ⟨rfl, rfl⟩ | ⟨m, rfl, hm, hw⟩
  · decide
  · have h1 := wordsF_wt _ _ _ (by omega) hw
    rw [lens_cut] at h1
    have h0 : wt 0 5 = 0 := by decide
    rcases wt_text hlt with ⟨h2, _⟩ | ⟨rfl, _⟩
    · rw [h2, h1, h0]
      simp
      omega
    · rw [h0] at h1
      omega
theorem parF_text {f : Nat} (h : f < 32) : parF (textF f) = some f := by
  have key : ∀ f : Fin 32, parF (textF f.1) = some f.1 := by decide +kernel
  exact key ⟨f, h⟩
theorem textF_shape {f : Nat} (h : f < 32) : 2 ≤ (textF f).length ∧ (textF f).length ≤ 40 ∧ (textF f).head? = some 40 ∧ (textF f).getLast? = some 41 ∧ (textF f = [40, 41] ↔ f = 0) := by
  have key : ∀ f : Fin 32, 2 ≤ (textF f.1).length ∧ (textF f.1).length ≤ 40 ∧ (textF f.1).head? = some 40 ∧ (textF f.1).getLast? = some 41 ∧ (textF f.1 = [40, 41] ↔ f.1 = 0) := by decide +kernel
  exact key ⟨f, h⟩
theorem outF_len {f k : Nat} (hf : f < 32) (hk : k ≤ 5) : 1 ≤ (outF f k).length ∧ (outF f k).length ≤ 40 := by
  have key : ∀ (f : Fin 32) (k : Fin 6), 1 ≤ (outF f.1 k.1).length ∧ (outF f.1 k.1).length ≤ 40 := by decide +kernel
  exact key ⟨f, hf⟩ ⟨k, by omega⟩
theorem cut_app (m n : List UInt8) : cut 32 (m ++ 32 :: n) = cut 32 m ++ cut 32 n := by
  have key : ∀ (m cur : List UInt8), cutGo 32 cur (m ++ 32 :: n) = cutGo 32 cur m ++ cut 32 n := by
    intro m
    induction m with
    | nil => intro cur; rw [List.nil_append]; conv => lhs; rw [cutGo, if_pos rfl]
             rfl
    | cons a m ih =>
      intro cur
      rw [List.cons_append, cutGo, cutGo]
      split
      · rw [ih]; rfl
      · exact ih _
  exact key m []
theorem parF_twice {m : List UInt8} {f : Nat} (hm : m ≠ []) (h : parF (40 :: (m ++ [41])) = some f) : parF (40 :: ((m ++ 32 :: m) ++ [41])) = none := by
  rw [parF_mid hm] at h
  rw [parF_mid (by simp), cut_app, wordsF_append, h]
  show wordsF (cut 32 m) f = none
  obtain ⟨a1, a2, a3⟩ := wordsF_lt _ _ _ (by omega) h
  match hc : cut 32 m with
  | [] => have := (cut_len 32 m).1; rw [hc] at this; simp at this
  | w :: ws =>
    obtain ⟨k, hk, rfl, ht⟩ := a3 w (by rw [hc]; simp)
    rw [wordsF_cons hk, ht]
    rfl
theorem parF_seen {m : List UInt8} {f : Nat} (hm : m ≠ []) (h : parF (40 :: (m ++ [41])) = some f) (h2 : tb f 0 = false) : parF (40 :: ((m ++ 32 :: fnm 0) ++ [41])) = some (f + 1) := by
  rw [parF_mid hm] at h
  rw [parF_mid (by simp), cut_app, wordsF_append, h]
  show wordsF (cut 32 (fnm 0)) f = some (f + 1)
  rw [show cut 32 (fnm 0) = [fnm 0] by decide, wordsF_cons (by omega), h2]
  rfl

theorem chI_yes {f o : Nat} {h : Int} (hf : f < 32) (ho : o < 32) (hh : howB h = true) : chI (f : Int) h (o : Int) = (chN f h o : Int) := by
  unfold chI
  rw [isF_of hf, isF_of ho, hh]
  rfl
theorem chI_no {f h o : Int} (hn : (isF f && isF o && howB h) = false) : chI f h o = -1 := by
  unfold chI
  rw [hn]
  rfl
theorem hvI_yes {f o : Nat} (hf : f < 32) (ho : o < 32) : hvI (f : Int) (o : Int) = hvN f o := by
  unfold hvI
  rw [isF_of hf, isF_of ho]
  rfl
theorem hvI_no {f o : Int} (hn : (isF f && isF o) = false) : hvI f o = false := by
  unfold hvI
  rw [hn]
  rfl
theorem set_law {f o : Nat} (hf : f < 32) (ho : o < 32) : hvN (chN f 1 o) f = true ∧ hvN (chN f 1 o) o = true ∧ chN f 1 o ≤ f + o := by
  have key : ∀ f o : Fin 32, hvN (chN f.1 1 o.1) f.1 = true ∧ hvN (chN f.1 1 o.1) o.1 = true ∧ chN f.1 1 o.1 ≤ f.1 + o.1 := by decide +kernel
  exact key ⟨f, hf⟩ ⟨o, ho⟩
theorem rem_law {f o : Nat} (hf : f < 32) (ho : o < 32) : hvN f (chN f (-1) o) = true ∧ chN (chN f (-1) o) (-1) o = chN f (-1) o ∧ chN (chN f (-1) o) 1 o = chN f 1 o := by
  have key : ∀ f o : Fin 32, hvN f.1 (chN f.1 (-1) o.1) = true ∧ chN (chN f.1 (-1) o.1) (-1) o.1 = chN f.1 (-1) o.1 ∧ chN (chN f.1 (-1) o.1) 1 o.1 = chN f.1 1 o.1 := by decide +kernel
  exact key ⟨f, hf⟩ ⟨o, ho⟩
theorem twice_law {f o : Nat} {h : Int} (hf : f < 32) (ho : o < 32) (hh : howB h = true) : chN (chN f h o) h o = chN f h o := by
  have key : ∀ f o : Fin 32, chN (chN f.1 1 o.1) 1 o.1 = chN f.1 1 o.1 ∧ chN (chN f.1 (-1) o.1) (-1) o.1 = chN f.1 (-1) o.1 ∧ chN (chN f.1 0 o.1) 0 o.1 = chN f.1 0 o.1 := by decide +kernel
  have := key ⟨f, hf⟩ ⟨o, ho⟩
  rcases how_of hh with rfl | rfl | rfl
  · exact this.1
  · exact this.2.1
  · exact this.2.2
theorem order_law {f o : Nat} (hf : f < 32) (ho : o < 32) : chN o 1 f = chN f 1 o := by
  have key : ∀ f o : Fin 32, chN o.1 1 f.1 = chN f.1 1 o.1 := by decide +kernel
  exact key ⟨f, hf⟩ ⟨o, ho⟩
theorem self_law {f : Nat} (hf : f < 32) : hvN f f = true ∧ hvN f 0 = true ∧ hvN 31 f = true := by
  have key : ∀ f : Fin 32, hvN f.1 f.1 = true ∧ hvN f.1 0 = true ∧ hvN 31 f.1 = true := by decide +kernel
  exact key ⟨f, hf⟩
theorem chI_order (f o : Int) : chI o 1 f = chI f 1 o := by
  cases h : isF f && isF o with
  | true =>
    rw [Bool.and_eq_true] at h
    obtain ⟨a, ha, rfl⟩ := isF_nat h.1
    obtain ⟨b, hb, rfl⟩ := isF_nat h.2
    rw [chI_yes ha hb (by decide), chI_yes hb ha (by decide), order_law ha hb]
  | false =>
    rw [chI_no (f := o) (o := f) (by rw [Bool.and_comm (isF o), h]; rfl), chI_no (f := f) (o := o) (by rw [h]; rfl)]
theorem chI_range (f h o : Int) : chI f h o = -1 ∨ ∃ a b : Nat, a < 32 ∧ b < 32 ∧ f = (a : Int) ∧ o = (b : Int) ∧ howB h = true ∧ chI f h o = (chN a h b : Int) ∧ chN a h b < 32 := by
  cases hh : isF f && isF o && howB h with
  | false => exact .inl (chI_no hh)
  | true =>
    rw [Bool.and_eq_true, Bool.and_eq_true] at hh
    obtain ⟨⟨h1, h2⟩, h3⟩ := hh
    obtain ⟨a, ha, rfl⟩ := isF_nat h1
    obtain ⟨b, hb, rfl⟩ := isF_nat h2
    exact .inr ⟨a, b, ha, hb, rfl, rfl, h3, chI_yes ha hb h3, chN_lt ha hb h3⟩
end Go.Proofs.YtnfigpknejmkmaaGreatDoor
namespace Go.Proofs.YtnfigpknejmkmaaGreatDoor
set_option linter.unusedVariables false

/-- A message: its number, its flags, its text. -/
abbrev ML := Int × Int × List UInt8
/-- A valid message. -/
def mOk (m : ML) : Bool := (decide (1 ≤ m.1) && decide (m.1 ≤ 99)) && isF m.2.1 && decide (m.2.2.length ≤ 20)
theorem mOk_iff {m : ML} : mOk m = true ↔ (1 ≤ m.1 ∧ m.1 ≤ 99) ∧ isF m.2.1 = true ∧ m.2.2.length ≤ 20 := by
  unfold mOk
  simp [and_assoc]
/-- The greatest number of ascending valid messages behind 'l', if they are so. -/
def chk : Int → List ML → Option Int
  | l, [] => some l
  | l, m :: r => if mOk m && decide (l < m.1) then chk m.1 r else none
/-- A valid mailbox. -/
def bOk (n : Int) (L : List ML) : Bool :=
  match chk 0 L with
  | none => false
  | some l => (decide (l + 1 ≤ n) && decide (n ≤ 100)) && decide (L.length ≤ 10)
def Asc (L : List ML) : Prop := L.Pairwise fun a b => a.1 < b.1

theorem chk_some : ∀ {L : List ML} {l z : Int}, chk l L = some z → (∀ m ∈ L, mOk m = true ∧ l < m.1 ∧ m.1 ≤ z) ∧ Asc L ∧ l ≤ z ∧ (z = l ∨ ∃ m ∈ L, m.1 = z)
  | [], l, z, h => by
    rw [chk] at h
    cases h
    exact ⟨fun m hm => (by cases hm), List.Pairwise.nil, Int.le_refl _, .inl rfl⟩
  | x :: L, l, z, h => by
    rw [chk] at h
    split at h
    · rename_i hx
      rw [Bool.and_eq_true, decide_eq_true_eq] at hx
      obtain ⟨h1, h2, h3, h4⟩ := chk_some h
      refine ⟨fun m hm => ?_, ?_, by omega, ?_⟩
      · rcases List.mem_cons.1 hm with rfl | hm
        · exact ⟨hx.1, hx.2, h3⟩
        · have := h1 m hm
          exact ⟨this.1, by omega, this.2.2⟩
      · exact .cons (fun m hm => (h1 m hm).2.1) h2
      · rcases h4 with rfl | ⟨m, hm, e⟩
        · exact .inr ⟨x, by simp, rfl⟩
        · exact .inr ⟨m, by simp [hm], e⟩
    · cases h
theorem chk_of : ∀ {L : List ML} {l : Int}, (∀ m ∈ L, mOk m = true ∧ l < m.1) → Asc L → ∃ z, chk l L = some z
  | [], l, _, _ => ⟨l, rfl⟩
  | x :: L, l, h, ha => by
    have hx := h x (by simp)
    rw [chk, if_pos (by rw [hx.1, decide_eq_true hx.2]; rfl)]
    cases ha with
    | cons h1 h2 => exact chk_of (fun m hm => ⟨(h m (by simp [hm])).1, h1 m hm⟩) h2
theorem bOk_iff {n : Int} {L : List ML} : bOk n L = true ↔ (∀ m ∈ L, mOk m = true ∧ m.1 < n) ∧ Asc L ∧ 1 ≤ n ∧ n ≤ 100 ∧ L.length ≤ 10 := by
  unfold bOk
  constructor
  · intro h
    cases hc : chk 0 L with
    | none => rw [hc] at h; cases h
    | some z =>
      rw [hc] at h
      simp at h
      obtain ⟨h1, h2, h3, _⟩ := chk_some hc
      exact ⟨fun m hm => ⟨(h1 m hm).1, by have := (h1 m hm).2.2; omega⟩, h2, by omega, h.1.2, h.2⟩
  · rintro ⟨h1, h2, h3, h4, h5⟩
    obtain ⟨z, hz⟩ := chk_of (L := L) (l := 0) (fun m hm => ⟨(h1 m hm).1, by have := (mOk_iff.1 (h1 m hm).1).1; omega⟩) h2
    rw [hz]
    have h6 : z + 1 ≤ n := by
      rcases (chk_some hz).2.2.2 with rfl | ⟨m, hm, rfl⟩
      · omega
      · have := (h1 m hm).2; omega
    simp [h4, h5, h6]
theorem bOk_sub {n : Int} {L M : List ML} (h : bOk n L = true) (hs : List.Sublist M L) : bOk n M = true := by
  obtain ⟨h1, h2, h3, h4, h5⟩ := bOk_iff.1 h
  exact bOk_iff.2 ⟨fun m hm => h1 m (hs.subset hm), List.Pairwise.sublist hs h2, h3, h4, Nat.le_trans hs.length_le h5⟩

/-- A mailbox with a message more, if there is space and a number. -/
def bxAdd (n : Int) (L : List ML) (f : Int) (t : List UInt8) : Int × List ML × Bool := if 10 ≤ L.length ∨ 99 < n then (n, L, false) else (n + 1, L ++ [(n, f, t)], true)
/-- BoxAppend. -/
def bxAp (n : Int) (L : List ML) (f : Int) (t : List UInt8) : Int × List ML × Bool := if bOk n L && isF f && decide (t.length ≤ 20) then bxAdd n L f t else (0, [], false)
theorem app_ok {n : Int} {L : List ML} {f : Int} {t : List UInt8} (h : bOk n L = true) (hf : isF f = true) (ht : t.length ≤ 20) (hl : L.length < 10) (hn : n ≤ 99) : bOk (n + 1) (L ++ [(n, f, t)]) = true := by
  obtain ⟨h1, h2, h3, h4, h5⟩ := bOk_iff.1 h
  refine bOk_iff.2 ⟨fun m hm => ?_, ?_, by omega, by omega, by rw [List.length_append, List.length_singleton]; omega⟩
  · rcases List.mem_append.1 hm with hm | hm
    · exact ⟨(h1 m hm).1, by have := (h1 m hm).2; omega⟩
    · rw [List.mem_singleton.1 hm]
      exact ⟨mOk_iff.2 ⟨⟨h3, hn⟩, hf, ht⟩, by show n < n + 1; omega⟩
  · refine List.pairwise_append.2 ⟨h2, List.pairwise_singleton _ _, fun a ha b hb => ?_⟩
    rw [List.mem_singleton.1 hb]
    exact (h1 a ha).2
theorem bxAp_yes {n : Int} {L : List ML} {f : Int} {t : List UInt8} (h : (bxAp n L f t).2.2 = true) : bOk n L = true ∧ isF f = true ∧ t.length ≤ 20 ∧ L.length < 10 ∧ n ≤ 99 ∧ bxAp n L f t = (n + 1, L ++ [(n, f, t)], true) := by
  unfold bxAp at h ⊢
  split at h
  · rename_i hc
    rw [Bool.and_eq_true, Bool.and_eq_true, decide_eq_true_eq] at hc
    rw [if_pos (by rw [hc.1.1, hc.1.2, decide_eq_true hc.2]; rfl)]
    unfold bxAdd at h ⊢
    split at h
    · cases h
    · rename_i hs
      rw [if_neg hs]
      exact ⟨hc.1.1, hc.1.2, hc.2, by omega, by omega, rfl⟩
  · cases h
theorem dup_bad {n : Int} {L : List ML} {k : Nat} (hk : k < L.length) : bOk n (L.take (k + 1) ++ L.drop k) = false := by
  rw [← Bool.not_eq_true]
  intro h
  obtain ⟨_, h2, _⟩ := bOk_iff.1 h
  have := (List.pairwise_append.1 h2).2.2 L[k] (by rw [List.take_succ_eq_append_getElem hk]; exact List.mem_append_right _ (List.mem_singleton.2 rfl)) L[k] (by rw [List.drop_eq_getElem_cons hk]; exact List.mem_cons_self)
  omega
theorem without_ok {n : Int} {L : List ML} {k : Nat} (h : bOk n L = true) : bOk n (L.take k ++ L.drop (k + 1)) = true := by
  refine bOk_sub h ?_
  conv => rhs; rw [← List.take_append_drop k L]
  refine List.Sublist.append (List.Sublist.refl _) ?_
  rw [← List.drop_drop]
  exact List.drop_sublist _ _
theorem next_bad {n : Int} {L : List ML} {m : ML} (hm : m ∈ L) : bOk m.1 L = false := by
  rw [← Bool.not_eq_true]
  intro h
  have := ((bOk_iff.1 h).1 m hm).2
  omega
theorem next_top {n : Int} {L : List ML} (h : bOk n L = true) : bOk 100 L = true := by
  obtain ⟨h1, h2, h3, h4, h5⟩ := bOk_iff.1 h
  exact bOk_iff.2 ⟨fun m hm => ⟨(h1 m hm).1, by have := (h1 m hm).2; omega⟩, h2, by omega, by omega, h5⟩

/-- Ascending places of 'len' messages, behind 'l'. -/
def plc (len : Nat) : Int → List Int → Bool
  | _, [] => true
  | l, x :: r => decide (l < x) && decide (x ≤ (len : Int)) && plc len x r
theorem plc_iff {len : Nat} : ∀ {P : List Int} {l : Int}, plc len l P = true ↔ (∀ x ∈ P, l < x ∧ x ≤ (len : Int)) ∧ P.Pairwise (· < ·)
  | [], l => by simp [plc]
  | x :: P, l => by
    rw [plc, Bool.and_eq_true, Bool.and_eq_true, decide_eq_true_eq, decide_eq_true_eq, plc_iff, List.pairwise_cons]
    constructor
    · rintro ⟨⟨h1, h2⟩, h3, h4⟩
      refine ⟨fun y hy => ?_, fun y hy => (h3 y hy).1, h4⟩
      rcases List.mem_cons.1 hy with rfl | hy
      · exact ⟨h1, h2⟩
      · have := h3 y hy; exact ⟨by omega, this.2⟩
    · rintro ⟨h1, h2, h3⟩
      have hx := h1 x (by simp)
      exact ⟨⟨hx.1, hx.2⟩, fun y hy => ⟨h2 y hy, (h1 y (by simp [hy])).2⟩, h3⟩

/-- A message with changed flags. -/
def chM (h f : Int) (m : ML) : ML := (m.1, (chN m.2.1.toNat h f.toNat : Int), m.2.2)
/-- The messages at the given places with changed flags; 'i' is the place of the first one. -/
def flM (P : List Int) (h f : Int) : Nat → List ML → List ML
  | _, [] => []
  | i, m :: r => (if P.contains (i : Int) then chM h f m else m) :: flM P h f (i + 1) r
theorem flM_len (P : List Int) (h f : Int) : ∀ (i : Nat) (L : List ML), (flM P h f i L).length = L.length
  | _, [] => rfl
  | i, m :: r => by rw [flM, List.length_cons, flM_len, List.length_cons]
theorem flM_get (P : List Int) (h f : Int) : ∀ (i k : Nat) (L : List ML) (m : ML), L[k]? = some m → (flM P h f i L)[k]? = some (if P.contains ((i + k : Nat) : Int) then chM h f m else m)
  | i, k, [], m, hk => by simp at hk
  | i, 0, x :: r, m, hk => by
    simp at hk
    subst hk
    rw [flM]
    rfl
  | i, k + 1, x :: r, m, hk => by
    rw [flM, List.getElem?_cons_succ, flM_get P h f (i + 1) k r m (by simpa using hk)]
    rw [show i + 1 + k = i + (k + 1) by omega]
theorem flM_nil (h f : Int) : ∀ (i : Nat) (L : List ML), flM [] h f i L = L
  | _, [] => rfl
  | i, m :: r => by rw [flM, flM_nil]; rfl
/-- BoxFlags. -/
def bxFl (n : Int) (L : List ML) (P : List Int) (h f : Int) : Int × List ML × Bool := if bOk n L && plc L.length 0 P && howB h && isF f then (n, flM P h f 1 L, true) else (0, [], false)

/-- A deleted message. -/
def dlM (m : ML) : Bool := tb m.2.1.toNat 3
def kpM (L : List ML) : List ML := L.filter fun m => !dlM m
/-- The places of the deleted messages, where 'k' others are kept ahead. -/
def gnM : Nat → List ML → List Nat
  | _, [] => []
  | k, m :: r => if dlM m then (k + 1) :: gnM k r else gnM (k + 1) r
/-- BoxExpunge. -/
def bxEx (n : Int) (L : List ML) : Int × List ML × List Nat := if bOk n L then (n, kpM L, gnM 0 L) else (0, [], [])

/-- Messages appended one after the other. -/
def cpA : Int → List ML → List ML → Option (Int × List ML)
  | n, M, [] => some (n, M)
  | n, M, m :: r => if 10 ≤ M.length ∨ 99 < n then none else cpA (n + 1) (M ++ [(n, m.2.1, m.2.2)]) r
/-- The messages at places. -/
def atM (L : List ML) (P : List Int) : List ML := P.map fun x => L.getD (x.toNat - 1) (0, 0, [])
/-- BoxCopy. -/
def bxCp (n : Int) (L : List ML) (P : List Int) (m : Int) (M : List ML) : Int × List ML × Bool :=
  if bOk n L && bOk m M && plc L.length 0 P then
    match cpA m M (atM L P) with
    | some r => (r.1, r.2, true)
    | none => (m, M, false)
  else (0, [], false)

/-- BoxUids; 'i' is the place of the first message. -/
def udM (U : List Int) : Nat → List ML → List Nat
  | _, [] => []
  | i, m :: r => if U.contains m.1 then i :: udM U (i + 1) r else udM U (i + 1) r
def bxUd (n : Int) (L : List ML) (U : List Int) : List Nat := if bOk n L then udM U 1 L else []
/-- BoxSize. -/
def szM (L : List ML) : Nat := (L.map fun m => m.2.2.length).sum
def bxSz (n : Int) (L : List ML) : Int := if bOk n L then (szM L : Int) else -1
end Go.Proofs.YtnfigpknejmkmaaGreatDoor
namespace Go.Proofs.YtnfigpknejmkmaaGreatDoor
open Go.RowKit
set_option linter.unusedVariables false

set_option maxHeartbeats 400000 in
theorem impl_isflags (n : Int) (w : World) : Calls Tryz.prog 98 #[.int .i64 n] w fun e w' => e = .returned (.bool (isF n)) ∧ w' = w := by
  by_cases h1 : (0 : Int) ≤ n <;> by_cases h2 : n ≤ 31
  all_goals
    go_enter Tryz.func98, Tryz.ntmps98
    go_wp2
    go_ret
    refine ⟨ret_bool ?_, rfl⟩
    unfold isF
    first
      | exact (Bool.and_eq_true_iff.2 ⟨decide_eq_true (by omega), decide_eq_true (by omega)⟩).symm
      | (rw [decide_eq_false (p := (0 : Int) ≤ n) (by omega)]; rfl)
      | (rw [decide_eq_false (p := n ≤ 31) (by omega)]; simp)

set_option maxHeartbeats 1000000 in
theorem impl_have (f o : Int) (w : World) : Calls Tryz.prog 80 #[.int .i64 f, .int .i64 o] w fun e w' => e = .returned (.bool (hvI f o)) ∧ ∃ k, w' = w.drewN k := by
  cases hf : isF f with
  | false =>
    have HF := Lib.hid hf
    have HN := Lib.hid (hvI_no (f := f) (o := o) (by rw [hf]; rfl))
    clear hf
    go_enter Tryz.func80, Tryz.ntmps80
    go_wp2_with fail
    refine (impl_isflags f _).mono ?_
    rintro e w1 ⟨rfl, rfl⟩
    rw [HF.out]
    go_wp2
    go_ret
    exact ⟨ret_bool HN.out.symm, 0, rfl⟩
  | true =>
    cases ho : isF o with
    | false =>
      have HF := Lib.hid hf
      have HO := Lib.hid ho
      have HN := Lib.hid (hvI_no (f := f) (o := o) (by rw [hf, ho]; rfl))
      clear hf ho
      go_enter Tryz.func80, Tryz.ntmps80
      go_wp2_with fail
      refine (impl_isflags f _).mono ?_
      rintro e w1 ⟨rfl, rfl⟩
      rw [HF.out]
      go_wp2_with fail
      refine (impl_isflags o _).mono ?_
      rintro e w1 ⟨rfl, rfl⟩
      rw [HO.out]
      go_wp2
      go_ret
      exact ⟨ret_bool HN.out.symm, 0, rfl⟩
    | true =>
      obtain ⟨a, ha, rfl⟩ := isF_nat hf
      obtain ⟨b, hb, rfl⟩ := isF_nat ho
      have HF := Lib.hid hf
      have HO := Lib.hid ho
      have HY := Lib.hid (hvI_yes ha hb)
      have HA := Lib.hid (and_flags ha hb)
      clear hf ho
      go_enter Tryz.func80, Tryz.ntmps80
      go_wp2_with fail
      refine (impl_isflags a _).mono ?_
      rintro e w1 ⟨rfl, rfl⟩
      rw [HF.out]
      go_wp2_with fail
      refine (impl_isflags b _).mono ?_
      rintro e w1 ⟨rfl, rfl⟩
      rw [HO.out]
      go_wp2
      go_ret
      exact ⟨ret_bool (HA.out.trans HY.out.symm), 0, rfl⟩

/-- What flagsChange gives: the change 'k', which keeps the others in a variable of its own. -/
def GivesC (w : World) (k : Nat) (o : Int) (e : Ending) (w' : World) : Prop :=
  e = .returned (.tuple #[.func (.func k) #[] #[.pointer (some ⟨w.heap.size, 0, none⟩)], .bool true]) ∧ w'.cell? ⟨w.heap.size, 0, none⟩ = some (.int .i64 o) ∧ Below w.heap.size w w'
def GivesCNo (w : World) (e : Ending) (w' : World) : Prop := e = .returned (.tuple #[.nilFunc, .bool false]) ∧ Below w.heap.size w w'

/-- A number that is told. -/
def SaysI (w : World) (z : Int) (e : Ending) (w' : World) : Prop := e = .returned (.int .i64 z) ∧ Below w.heap.size w w'
end Go.Proofs.YtnfigpknejmkmaaGreatDoor
namespace Go.Proofs.YtnfigpknejmkmaaGreatDoor
open Go.RowKit
set_option linter.unusedVariables false

set_option maxHeartbeats 400000 in
theorem spec_in (n a b : Int) (w : World) : Calls Tryz.prog 74 #[.int .i64 n, .int .i64 a, .int .i64 b] w fun e w' => e = .returned (.bool (decide (a ≤ n) && decide (n ≤ b))) ∧ w' = w := by
  by_cases h1 : a ≤ n <;> by_cases h2 : n ≤ b
  all_goals
    have h1' := h1
    go_enter Tryz.func74, Tryz.ntmps74
    go_wp2
    go_ret
    refine ⟨ret_bool ?_, rfl⟩
    first
      | exact (Bool.and_eq_true_iff.2 ⟨decide_eq_true (by omega), decide_eq_true (by omega)⟩).symm
      | exact (decide_eq_false (by omega)).symm
      | exact (decide_eq_true (by omega)).symm
      | (rw [decide_eq_false (p := a ≤ n) (by omega)]; done)
      | (rw [decide_eq_false (p := a ≤ n) (by omega)]; rfl)
      | (rw [decide_eq_false (p := n ≤ b) (by omega)]; simp)
set_option maxHeartbeats 400000 in
theorem spec_isflags (n : Int) (w : World) : Calls Tryz.prog 97 #[.int .i64 n] w fun e w' => e = .returned (.bool (isF n)) ∧ w' = w := by
  go_enter Tryz.func97, Tryz.ntmps97
  go_wp2_with fail
  refine (spec_in n 0 31 _).mono ?_
  rintro e w1 ⟨rfl, rfl⟩
  go_wp2
  go_ret
  exact ⟨rfl, rfl⟩
theorem bit_at {k q : Nat} (hk : k < 5) (hq : 2 ^ k = q) : (#[Value.int .i64 1, .int .i64 2, .int .i64 4, .int .i64 8, .int .i64 16] : Array Value)[k]? = some (.int .i64 (q : Int)) := by
  subst hq
  match k, hk with
  | 0, _ => rfl
  | 1, _ => rfl
  | 2, _ => rfl
  | 3, _ => rfl
  | 4, _ => rfl
set_option maxHeartbeats 400000 in
theorem spec_bit (k q : Nat) (w : World) (hk : k < 5) (hq : 2 ^ k = q) : Calls Tryz.prog 57 #[.int .i64 (k : Int)] w (SaysI w (q : Int)) := by
  have hb := bit_at hk hq
  have hc : (w.alloc (.cells #[.int .i64 1, .int .i64 2, .int .i64 4, .int .i64 8, .int .i64 16] 3)).cell? ⟨w.heap.size, k, none⟩ = some (.int .i64 (q : Int)) := (Whole.made w 3 #[.int .i64 1, .int .i64 2, .int .i64 4, .int .i64 8, .int .i64 16]).cell k |>.trans hb
  have HB := Lib.hid ((Below.refl w.heap.size w).alloc (Nat.le_refl _) (.cells #[.int .i64 1, .int .i64 2, .int .i64 4, .int .i64 8, .int .i64 16] 3))
  have h0 : (0 : Int) ≤ (k : Int) := by omega
  have h5 : (k : Int) < 5 := by omega
  clear hb hq
  go_enter Tryz.func57, Tryz.ntmps57
  go_wp2_with fail
  go_ret
  exact ⟨rfl, HB.out⟩
theorem chK_lt (f o k : Nat) (h : Int) : chK f h o k < 2 ^ k := by
  induction k with
  | zero => simp [chK]
  | succ k ih =>
    rw [chK, Nat.pow_succ]
    split <;> omega
theorem chK_yes {f o k q : Nat} {h : Int} (hq : 2 ^ k = q) (hb : onB f h o k = true) : chK f h o k + q = chK f h o (k + 1) := by rw [chK, if_pos hb, hq]
theorem chK_no {f o k : Nat} {h : Int} (hb : onB f h o k = false) : chK f h o k = chK f h o (k + 1) := by rw [chK, if_neg (by rw [hb]; simp)]
theorem pow_five {k q : Nat} (hk : k < 5) (hq : 2 ^ k = q) : 1 ≤ q ∧ q ≤ 16 := by
  subst hq
  match k, hk with
  | 0, _ | 1, _ | 2, _ | 3, _ | 4, _ => exact ⟨by decide, by decide⟩
/-- A flag as a number. -/
def b01 (b : Bool) : Nat := if b then 1 else 0
theorem tb_num (f k q : Nat) (hq : 2 ^ k = q) : f / q % 2 = b01 (tb f k) := by
  subst hq
  unfold tb b01
  cases h : (f / 2 ^ k % 2 == 1)
  · have := beq_eq_false_iff_ne.1 h
    rw [if_neg (by simp)]
    omega
  · have := beq_iff_eq.1 h
    rw [if_pos rfl]
    exact this
theorem half_nat {d t : Nat} (h : d % 2 = t) : (d : Int) % 2 = (t : Int) := by omega
theorem half_yes {f k q d : Nat} (hq : 2 ^ k = q) (hd : f / q = d) (hb : tb f k = true) : (d : Int) % 2 = 1 := by
  have := tb_num f k q hq
  rw [hd, hb] at this
  have h1 : b01 true = 1 := rfl
  omega
theorem half_no {f k q d : Nat} (hq : 2 ^ k = q) (hd : f / q = d) (hb : tb f k = false) : (d : Int) % 2 = 0 := by
  have := tb_num f k q hq
  rw [hd, hb] at this
  have h1 : b01 false = 0 := rfl
  omega
theorem on_of {f o k : Nat} {b1 b2 : Bool} (h : Int) (h1 : tb f k = b1) (h2 : tb o k = b2) : onB f h o k = ((h == 1 && (b1 || b2)) || (h == -1 && b1 && !b2) || (h == 0 && b2)) := by unfold onB; rw [h1, h2]
theorem sum_eq {C q D : Nat} (h : C + q = D) : Value.int .i64 ((C : Int) + (q : Int)) = .int .i64 (D : Int) := by subst h; simp
/-- A truth that is told. -/
def SaysB (w : World) (z : Bool) (e : Ending) (w' : World) : Prop := e = .returned (.bool z) ∧ Below w.heap.size w w'
theorem hv_def (a b : Nat) : (((chN a 1 b : Nat) : Int) == (a : Int)) = hvN a b := by
  unfold hvN
  cases h : (chN a 1 b == a)
  · have := beq_eq_false_iff_ne.1 h
    exact beq_eq_false_iff_ne.2 (by omega)
  · have := beq_iff_eq.1 h
    rw [this]
    simp
end Go.Proofs.YtnfigpknejmkmaaGreatDoor
namespace Go.Proofs.YtnfigpknejmkmaaGreatDoor
open Go.RowKit
set_option linter.unusedVariables false

/-- A text. -/
def sB (l : List UInt8) : ByteArray := ⟨l.toArray⟩
theorem sB_list (l : List UInt8) : (sB l).data.toList = l := by unfold sB; simp
theorem sB_size (l : List UInt8) : (sB l).size = l.length := by unfold sB; rw [ByteArray.size]; simp
theorem sB_ext {u v : ByteArray} (h : u.data.toList = v.data.toList) : u = v := by
  cases u
  cases v
  congr
  exact Array.toList_inj.1 h
theorem sB_cat (a b : List UInt8) : sB a ++ sB b = sB (a ++ b) := by
  refine sB_ext ?_
  rw [ByteArray.data_append, Array.toList_append, sB_list, sB_list, sB_list]
theorem sB_of (s : ByteArray) : sB s.data.toList = s := sB_ext (sB_list _)
def fnames : Array Value := #[.string ⟨#[83, 101, 101, 110]⟩, .string ⟨#[65, 110, 115, 119, 101, 114, 101, 100]⟩, .string ⟨#[70, 108, 97, 103, 103, 101, 100]⟩, .string ⟨#[68, 101, 108, 101, 116, 101, 100]⟩, .string ⟨#[68, 114, 97, 102, 116]⟩]
theorem fnames_at {k : Nat} (hk : k < 5) : fnames[k]? = some (.string (sB (fnm k))) := by
  match k, hk with
  | 0, _ => rfl
  | 1, _ => rfl
  | 2, _ => rfl
  | 3, _ => rfl
  | 4, _ => rfl
theorem fnm_len {k : Nat} (hk : k < 5) : (fnm k).length ≤ 8 := by
  match k, hk with
  | 0, _ | 1, _ | 2, _ | 3, _ | 4, _ => decide
/-- What l4Names gives. -/
def Names (w : World) (e : Ending) (w' : World) : Prop := e = .returned (.slice (some ⟨w.heap.size, 0, none⟩) 5 5) ∧ Whole w' w.heap.size 9 fnames ∧ Below w.heap.size w w'
/-- A text that is told. -/
def SaysT (w : World) (l : List UInt8) (e : Ending) (w' : World) : Prop := e = .returned (.string (sB l)) ∧ Below w.heap.size w w'
/-- The text of what may be no flags. -/
def ftI (f : Int) : List UInt8 := if isF f then textF f.toNat else []
theorem ftI_yes {f : Nat} (hf : f < 32) : ftI (f : Int) = textF f := by
  unfold ftI
  rw [isF_of hf]
  rfl
theorem ftI_no {f : Int} (hf : isF f = false) : ftI f = [] := by
  unfold ftI
  rw [hf]
  rfl
theorem out_yes {f k : Nat} (h : tb f k = true) (h1 : 1 < (outF f k).length) : (outF f k ++ [32]) ++ fnm k = outF f (k + 1) := by rw [outF, if_pos h, if_pos h1]
theorem out_first {f k : Nat} (h : tb f k = true) (h1 : ¬ 1 < (outF f k).length) : outF f k ++ fnm k = outF f (k + 1) := by rw [outF, if_pos h, if_neg h1]
theorem out_no {f k : Nat} (h : tb f k = false) : outF f k = outF f (k + 1) := by rw [outF, if_neg (by rw [h]; simp)]
theorem blank_B : (⟨#[32]⟩ : ByteArray) = sB [32] := rfl
theorem cat_three (a b : List UInt8) : sB a ++ ⟨#[32]⟩ ++ sB b = sB ((a ++ [32]) ++ b) := by rw [blank_B, sB_cat, sB_cat]
theorem cat_end (a : List UInt8) : sB a ++ ⟨#[41]⟩ = sB (a ++ [41]) := by rw [show (⟨#[41]⟩ : ByteArray) = sB [41] from rfl, sB_cat]
theorem ret_str {a b : ByteArray} (h : a = b) : Ending.returned (.string a) = .returned (.string b) := by rw [h]
theorem val_str {a b : ByteArray} (h : a = b) : Value.string a = .string b := by rw [h]
end Go.Proofs.YtnfigpknejmkmaaGreatDoor
namespace Go.Proofs.YtnfigpknejmkmaaGreatDoor
open Go.RowKit
set_option linter.unusedVariables false

def mailR : RowT ML where
  t := 115
  sz := 3
  enc := fun m => [.int .i64 m.1, .int .i64 m.2.1, .string (sB m.2.2)]
  len := fun _ => rfl
  one := fun x u hu => by
    simp at hu
    rcases hu with rfl | rfl | rfl <;> rfl
def intR : RowT Int where
  t := 3
  sz := 1
  enc := fun x => [.int .i64 x]
  len := fun _ => rfl
  one := fun x u hu => by
    simp at hu
    subst hu
    rfl
theorem Tryz.infoMail : (Tryz.prog.info? 115).map (fun i => (i.zero, i.size, i.bytes)) = some (some (.agg #[.int .i64 0, .int .i64 0, .string ⟨#[]⟩]), 3, 32) := by kernel_rfl
theorem Tryz.infoNum : (Tryz.prog.info? 3).map (fun i => (i.zero, i.size, i.bytes)) = some (some (.int .i64 0), 1, 8) := by kernel_rfl
section
variable {w w' : World} {A : Option Addr} {L : List ML} {P : List Int} {k : Nat} {u f x : Int} {t : List UInt8}
theorem mail_at (h : RAt mailR w A L) (hx : L[k]? = some (u, f, t)) : ∃ b o, A = some ⟨b, o, none⟩ ∧ b < w.heap.size ∧ w.cell? ⟨b, o + k * 3, none⟩ = some (.int .i64 u) ∧ w.cell? ⟨b, o + k * 3 + 1, none⟩ = some (.int .i64 f) ∧ w.cell? ⟨b, o + k * 3 + 2, none⟩ = some (.string (sB t)) := by
  obtain ⟨b, o, hA, hb, h1⟩ := h k _ hx
  exact ⟨b, o, hA, hb, h1 0 _ rfl, h1 1 _ rfl, h1 2 _ rfl⟩
theorem int_at (h : RAt intR w A P) (hx : P[k]? = some x) : ∃ b o, A = some ⟨b, o, none⟩ ∧ b < w.heap.size ∧ w.cell? ⟨b, o + k, none⟩ = some (.int .i64 x) := by
  obtain ⟨b, o, hA, hb, h1⟩ := h k _ hx
  have := h1 0 _ rfl
  have e : intR.sz = 1 := rfl
  rw [e, Nat.mul_one, Nat.add_zero] at this
  exact ⟨b, o, hA, hb, this⟩
end
/-- A slice of messages that came in: what the walk asks of it. -/
def MIn (w : World) (A : Option Addr) (N cap : Nat) (L : List ML) : Prop := L.length = N ∧ N ≤ 33554432 ∧ RAt mailR w A L ∧ (A = none → cap = 0) ∧ (∀ q, A = some q → q.spot = none)
theorem MIn.below {w w' : World} {A : Option Addr} {N cap B : Nat} {L : List ML} (h : MIn w A N cap L) (hb : Below B w w') (hB : w.heap.size ≤ B) : MIn w' A N cap L := ⟨h.1, h.2.1, h.2.2.1.below hb hB, h.2.2.2⟩
theorem MIn.of {w : World} {B N cap : Nat} {A : Option Addr} {L : List ML} (h : ROwn mailR w B (.slice A N cap) L) (hl : N ≤ 33554432) : MIn w A N cap L := ⟨h.len.1.symm, hl, h.at, h.nilcap, h.spot⟩
/-- A mailbox of the call's own is handed back. -/
def GivesB (w : World) (n : Int) (L : List ML) (e : Ending) (w' : World) : Prop := ∃ A N cap, e = .returned (.agg #[.int .i64 n, .slice A N cap]) ∧ ROwn mailR w' w.heap.size (.slice A N cap) L ∧ Below w.heap.size w w'
/-- A mailbox of the call's own, and whether. -/
def GivesBB (w : World) (n : Int) (L : List ML) (b : Bool) (e : Ending) (w' : World) : Prop := ∃ A N cap, e = .returned (.tuple #[.agg #[.int .i64 n, .slice A N cap], .bool b]) ∧ ROwn mailR w' w.heap.size (.slice A N cap) L ∧ Below w.heap.size w w'
end Go.Proofs.YtnfigpknejmkmaaGreatDoor

namespace Go.Proofs.YtnfigpknejmkmaaGreatDoor
open Go.RowKit
set_option linter.unusedVariables false

/-- The nodes of a chain: the block of each, and its message. -/
abbrev NX := List (Nat × ML)
def nxt (X : NX) (i : Nat) : Option Addr := (X[i]?).map fun y => ⟨y.1, 0, none⟩
def ncs (m : ML) (p : Option Addr) : Array Value := #[.int .i64 m.1, .int .i64 m.2.1, .string (sB m.2.2), .pointer p]
/-- The link ahead of node 'i'. -/
def lnk (c : Nat) (X : NX) : Nat → Addr
  | 0 => ⟨c, 1, none⟩
  | j + 1 => ⟨(X.getD j (0, (0, 0, []))).1, 3, none⟩
section
variable {w w' : World} {B B' c g i : Nat} {n f : Int} {X Y : NX} {m : ML}
theorem nxt_nil (i : Nat) : nxt [] i = none := rfl
theorem nxt_end (h : X.length ≤ i) : nxt X i = none := by unfold nxt; rw [List.getElem?_eq_none h]; rfl
theorem nxt_some (h : X[i]? = some (g, m)) : nxt X i = some ⟨g, 0, none⟩ := by unfold nxt; rw [h]; rfl
theorem nxt_zero (y : Nat × ML) (X : NX) : nxt (y :: X) 0 = some ⟨y.1, 0, none⟩ := rfl
theorem nxt_succ (y : Nat × ML) (X : NX) (i : Nat) : nxt (y :: X) (i + 1) = nxt X i := rfl
theorem nxt_app_l (h : i < X.length) : nxt (X ++ Y) i = nxt X i := by unfold nxt; rw [List.getElem?_append_left h]
theorem nxt_app_r (h : X.length ≤ i) : nxt (X ++ Y) i = nxt Y (i - X.length) := by unfold nxt; rw [List.getElem?_append_right h]
theorem lnk_spot (c : Nat) (X : NX) (i : Nat) : ∃ pb po, lnk c X i = ⟨pb, po, none⟩ := by cases i <;> exact ⟨_, _, rfl⟩
theorem lnk_succ (h : X[i]? = some (g, m)) : lnk c X (i + 1) = ⟨g, 3, none⟩ := by
  show (⟨(X.getD i (0, (0, 0, []))).1, 3, none⟩ : Addr) = _
  rw [List.getD_eq_getElem?_getD, h]
  rfl
end
end Go.Proofs.YtnfigpknejmkmaaGreatDoor

namespace Go.Proofs.YtnfigpknejmkmaaGreatDoor
set_option linter.unusedVariables false

theorem asc_get {L : List ML} (h : Asc L) {i j : Nat} {a b : ML} (hij : i < j) (ha : L[i]? = some a) (hb : L[j]? = some b) : a.1 < b.1 := by
  obtain ⟨h1, rfl⟩ := List.getElem?_eq_some_iff.1 ha
  obtain ⟨h2, rfl⟩ := List.getElem?_eq_some_iff.1 hb
  exact List.pairwise_iff_getElem.1 h i j h1 h2 hij
theorem bOk_get {n : Int} {L : List ML} (h : bOk n L = true) {i : Nat} {a : ML} (ha : L[i]? = some a) : mOk a = true ∧ a.1 < n := (bOk_iff.1 h).1 a (List.mem_of_getElem? ha)

/-- Flags. -/
theorem chM_ok {m : ML} {h f : Int} (hm : mOk m = true) (hh : howB h = true) (hf : isF f = true) : mOk (chM h f m) = true := by
  obtain ⟨h1, h2, h3⟩ := mOk_iff.1 hm
  obtain ⟨a, ha, e⟩ := isF_nat h2
  obtain ⟨b, hb, rfl⟩ := isF_nat hf
  exact mOk_iff.2 ⟨h1, by unfold chM; rw [e]; exact isF_of (chN_lt ha hb hh), h3⟩
theorem flM_mem (P : List Int) (h f : Int) : ∀ {i : Nat} {L : List ML} {m : ML}, m ∈ flM P h f i L → ∃ x ∈ L, m = x ∨ m = chM h f x
  | _, [], m, hm => by cases hm
  | i, x :: r, m, hm => by
    rw [flM] at hm
    rcases List.mem_cons.1 hm with rfl | hm
    · refine ⟨x, by simp, ?_⟩
      split
      · exact .inr rfl
      · exact .inl rfl
    · obtain ⟨y, hy, e⟩ := flM_mem P h f hm
      exact ⟨y, by simp [hy], e⟩
theorem flM_fst (P : List Int) (h f : Int) : ∀ (i : Nat) (L : List ML), (flM P h f i L).map (·.1) = L.map (·.1)
  | _, [] => rfl
  | i, m :: r => by
    rw [flM, List.map_cons, List.map_cons, flM_fst]
    split <;> rfl
theorem asc_map {L : List ML} : Asc L ↔ (L.map (·.1)).Pairwise (· < ·) := by unfold Asc; rw [List.pairwise_map]
theorem flM_ok {n : Int} {L : List ML} {P : List Int} {h f : Int} (hb : bOk n L = true) (hh : howB h = true) (hf : isF f = true) : bOk n (flM P h f 1 L) = true := by
  obtain ⟨h1, h2, h3, h4, h5⟩ := bOk_iff.1 hb
  refine bOk_iff.2 ⟨fun m hm => ?_, by rw [asc_map, flM_fst, ← asc_map]; exact h2, h3, h4, by rw [flM_len]; exact h5⟩
  obtain ⟨x, hx, e⟩ := flM_mem P h f hm
  have := h1 x hx
  rcases e with rfl | rfl
  · exact this
  · exact ⟨chM_ok this.1 hh hf, this.2⟩
theorem chM_twice {m : ML} {h f : Int} (hm : mOk m = true) (hh : howB h = true) (hf : isF f = true) : chM h f (chM h f m) = chM h f m := by
  obtain ⟨_, h2, _⟩ := mOk_iff.1 hm
  obtain ⟨a, ha, e⟩ := isF_nat h2
  obtain ⟨b, hb, rfl⟩ := isF_nat hf
  unfold chM
  simp only [e, Int.toNat_natCast]
  rw [twice_law ha hb hh]
theorem flM_twice (P : List Int) {h f : Int} (hh : howB h = true) (hf : isF f = true) : ∀ (i : Nat) {L : List ML}, (∀ m ∈ L, mOk m = true) → flM P h f i (flM P h f i L) = flM P h f i L
  | _, [], _ => rfl
  | i, m :: r, hm => by
    rw [flM, flM, flM_twice P hh hf (i + 1) (fun x hx => hm x (by simp [hx]))]
    congr 1
    split
    · exact chM_twice (hm m (by simp)) hh hf
    · rfl
theorem plc_past {len : Nat} {P : List Int} : plc len 0 (P ++ [(len : Int) + 1]) = false := by
  rw [← Bool.not_eq_true, plc_iff]
  rintro ⟨h1, _⟩
  have := (h1 ((len : Int) + 1) (by simp)).2
  omega
theorem plc_twice {len : Nat} {P : List Int} : plc len 0 (P ++ P) = decide (P.length = 0) := by
  cases P with
  | nil => rfl
  | cons x P =>
    rw [decide_eq_false (by simp), ← Bool.not_eq_true, plc_iff]
    rintro ⟨_, h2⟩
    have := (List.pairwise_append.1 h2).2.2 x (by simp) x (by simp)
    omega

/-- Removal. -/
theorem kpM_ok {n : Int} {L : List ML} (h : bOk n L = true) : bOk n (kpM L) = true := bOk_sub h List.filter_sublist
theorem kpM_cons (m : ML) (r : List ML) : kpM (m :: r) = if dlM m then kpM r else m :: kpM r := by
  unfold kpM
  rw [List.filter_cons]
  cases dlM m <;> rfl
theorem kpM_twice (L : List ML) : kpM (kpM L) = kpM L := by unfold kpM; rw [List.filter_filter]; simp
theorem gnM_len : ∀ (k : Nat) (L : List ML), (kpM L).length + (gnM k L).length = L.length
  | _, [] => rfl
  | k, m :: r => by
    rw [kpM_cons, gnM]
    have h1 := gnM_len k r
    have h2 := gnM_len (k + 1) r
    cases dlM m
    · simp; omega
    · simp; omega
theorem gnM_none : ∀ {k : Nat} {L : List ML}, (∀ m ∈ L, dlM m = false) → gnM k L = [] ∧ kpM L = L
  | _, [], _ => ⟨rfl, rfl⟩
  | k, m :: r, h => by
    have hm := h m (by simp)
    obtain ⟨h1, h2⟩ := gnM_none (k := k + 1) (L := r) (fun x hx => h x (by simp [hx]))
    rw [gnM, hm, kpM_cons, hm]
    exact ⟨h1, by rw [if_neg (by simp), h2]⟩
theorem gnM_kept (L : List ML) (k : Nat) : gnM k (kpM L) = [] := (gnM_none fun m hm => by
  unfold kpM at hm
  have := (List.mem_filter.1 hm).2
  simpa using this).1
theorem gnM_split : ∀ {k g : Nat} {M : List ML} {G : List Nat}, gnM k M = g :: G → ∃ M1 m M2, M = M1 ++ m :: M2 ∧ kpM M1 = M1 ∧ dlM m = true ∧ g = k + M1.length + 1 ∧ G = gnM (k + M1.length) M2
  | k, g, [], G, h => by cases h
  | k, g, m :: r, G, h => by
    rw [gnM] at h
    cases hd : dlM m with
    | true =>
      rw [hd, if_pos rfl] at h
      cases h
      exact ⟨[], m, r, rfl, rfl, hd, rfl, rfl⟩
    | false =>
      rw [hd, if_neg (by simp)] at h
      obtain ⟨M1, x, M2, e, h1, h2, h3, h4⟩ := gnM_split h
      refine ⟨m :: M1, x, M2, by rw [e]; rfl, by rw [kpM_cons, hd, if_neg (by simp), h1], h2, by rw [List.length_cons]; omega, ?_⟩
      rw [h4, List.length_cons]
      congr 1
      omega
theorem gnM_nil : ∀ {k : Nat} {M : List ML}, gnM k M = [] → kpM M = M
  | k, [], _ => rfl
  | k, m :: r, h => by
    rw [gnM] at h
    cases hd : dlM m with
    | true => rw [hd, if_pos rfl] at h; cases h
    | false =>
      rw [hd, if_neg (by simp)] at h
      rw [kpM_cons, hd, if_neg (by simp), gnM_nil h]
theorem kpM_app (L M : List ML) : kpM (L ++ M) = kpM L ++ kpM M := by unfold kpM; rw [List.filter_append]
theorem gnM_app : ∀ (k : Nat) (L M : List ML), gnM k (L ++ M) = gnM k L ++ gnM (k + (kpM L).length) M
  | k, [], M => rfl
  | k, m :: r, M => by
    rw [List.cons_append, gnM, gnM, kpM_cons]
    cases dlM m
    · rw [if_neg (by simp), if_neg (by simp), if_neg (by simp), gnM_app (k + 1) r M, List.length_cons]
      congr 2
      omega
    · rw [if_pos rfl, if_pos rfl, if_pos rfl, gnM_app k r M]
      rfl
/-- The places as numbers. -/
def gnI (L : List ML) : List Int := (gnM 0 L).map fun (x : Nat) => (x : Int)
theorem kp_dl {L : List ML} {k : Nat} {x : ML} (hx : L[k]? = some x) (h : dlM x = true) : kpM (L.take (k + 1)) = kpM (L.take k) ∧ gnI (L.take (k + 1)) = gnI (L.take k) ++ [(((kpM (L.take k)).length + 1 : Nat) : Int)] := by
  rw [List.take_add_one, hx]
  refine ⟨?_, ?_⟩
  · show kpM (L.take k ++ [x]) = _
    rw [kpM_app, kpM_cons, h, if_pos rfl]
    exact List.append_nil _
  · show gnI (L.take k ++ [x]) = _
    unfold gnI
    rw [gnM_app, List.map_append, gnM, h, if_pos rfl, Nat.zero_add]
    rfl
theorem kp_no {L : List ML} {k : Nat} {x : ML} (hx : L[k]? = some x) (h : dlM x = false) : kpM (L.take (k + 1)) = kpM (L.take k) ++ [x] ∧ gnI (L.take (k + 1)) = gnI (L.take k) := by
  rw [List.take_add_one, hx]
  refine ⟨?_, ?_⟩
  · show kpM (L.take k ++ [x]) = _
    rw [kpM_app, kpM_cons, h, if_neg (by simp)]
    rfl
  · show gnI (L.take k ++ [x]) = _
    unfold gnI
    rw [gnM_app, List.map_append, gnM, h, if_neg (by simp)]
    exact List.append_nil _
theorem kpM_le (L : List ML) : (kpM L).length ≤ L.length := List.length_filter_le _ _
/-- One place removed. -/
theorem rm_step {K M : List ML} {g : Nat} {G : List Nat} (h : gnM K.length M = g :: G) : ∃ K2 M2, 1 ≤ g ∧ g ≤ (K ++ M).length ∧ (K ++ M).take (g - 1) ++ (K ++ M).drop g = K2 ++ M2 ∧ G = gnM K2.length M2 ∧ K ++ kpM M = K2 ++ kpM M2 := by
  obtain ⟨M1, m, M2, rfl, h1, h2, rfl, rfl⟩ := gnM_split h
  have e : K ++ (M1 ++ m :: M2) = (K ++ M1) ++ m :: M2 := by rw [List.append_assoc]
  have hl : K.length + M1.length = (K ++ M1).length := by rw [List.length_append]
  refine ⟨K ++ M1, M2, by omega, by rw [e, List.length_append, List.length_cons, ← hl]; omega, ?_, by rw [hl], ?_⟩
  · rw [e, show K.length + M1.length + 1 - 1 = (K ++ M1).length by omega, List.take_left, hl]
    congr 1
    rw [← List.drop_drop, List.drop_left]
    rfl
  · rw [kpM_app, h1, kpM_cons, h2, if_pos rfl, List.append_assoc]
theorem dl_removed {m : ML} (hm : mOk m = true) : dlM (chM (-1) 8 m) = false := by
  obtain ⟨_, h2, _⟩ := mOk_iff.1 hm
  obtain ⟨a, ha, e⟩ := isF_nat h2
  unfold dlM chM
  simp only [e, Int.toNat_natCast]
  have key : ∀ a : Fin 32, tb (chN a.1 (-1) 8) 3 = false := by decide +kernel
  exact key ⟨a, ha⟩
/-- All places. -/
def upL (n : Nat) : List Int := (List.range n).map fun i => ((i + 1 : Nat) : Int)
theorem upL_has {n k : Nat} : (upL n).contains ((1 + k : Nat) : Int) = decide (k < n) := by
  unfold upL
  rw [Bool.eq_iff_iff, List.contains_iff_mem, List.mem_map, decide_eq_true_eq]
  constructor
  · rintro ⟨i, hi, e⟩
    have := List.mem_range.1 hi
    omega
  · intro h
    exact ⟨k, List.mem_range.2 h, by omega⟩
theorem upL_plc (n : Nat) : plc n 0 (upL n) = true := by
  rw [plc_iff]
  unfold upL
  refine ⟨fun x hx => ?_, ?_⟩
  · obtain ⟨i, hi, rfl⟩ := List.mem_map.1 hx
    have := List.mem_range.1 hi
    omega
  · rw [List.pairwise_map]
    exact List.pairwise_lt_range.imp fun h => by omega
theorem upL_succ (n : Nat) : upL (n + 1) = upL n ++ [((n + 1 : Nat) : Int)] := by unfold upL; rw [List.range_succ, List.map_append]; rfl
theorem upL_len (n : Nat) : (upL n).length = n := by unfold upL; simp
theorem flM_all {L : List ML} (hm : ∀ m ∈ L, mOk m = true) : ∀ m ∈ flM (upL L.length) (-1) 8 1 L, dlM m = false := by
  intro m hm'
  obtain ⟨k, hk⟩ := List.mem_iff_getElem?.1 hm'
  have hkl : k < L.length := by have := (List.getElem?_eq_some_iff.1 hk).1; rw [flM_len] at this; exact this
  rw [flM_get _ _ _ 1 k L L[k] (List.getElem?_eq_getElem hkl), upL_has, decide_eq_true hkl, if_pos rfl] at hk
  rw [← Option.some.inj hk]
  exact dl_removed (hm _ (List.getElem_mem _))

/-- Copies. -/
def nbM : Int → List ML → List ML
  | _, [] => []
  | n, m :: r => (n, m.2.1, m.2.2) :: nbM (n + 1) r
theorem nbM_len : ∀ (n : Int) (X : List ML), (nbM n X).length = X.length
  | _, [] => rfl
  | n, m :: r => by rw [nbM, List.length_cons, nbM_len, List.length_cons]
theorem nbM_get : ∀ (n : Int) (k : Nat) (X : List ML) (m : ML), X[k]? = some m → (nbM n X)[k]? = some (n + (k : Int), m.2.1, m.2.2)
  | n, k, [], m, h => by simp at h
  | n, 0, x :: r, m, h => by
    simp at h
    subst h
    rw [nbM]
    simp
  | n, k + 1, x :: r, m, h => by
    rw [nbM, List.getElem?_cons_succ, nbM_get (n + 1) k r m (by simpa using h)]
    rw [show n + 1 + (k : Int) = n + ((k + 1 : Nat) : Int) by omega]
theorem cpA_some : ∀ {X M M' : List ML} {n n' : Int}, cpA n M X = some (n', M') → n' = n + X.length ∧ M' = M ++ nbM n X
  | [], M, M', n, n', h => by
    rw [cpA] at h
    cases h
    exact ⟨by simp, by rw [nbM, List.append_nil]⟩
  | m :: r, M, M', n, n', h => by
    rw [cpA] at h
    split at h
    · cases h
    · obtain ⟨h1, h2⟩ := cpA_some h
      refine ⟨by rw [h1, List.length_cons]; omega, ?_⟩
      rw [h2, nbM, List.append_assoc]
      rfl
theorem cpA_none : ∀ {X M : List ML} {n : Int}, cpA n M X = none → 10 < M.length + X.length ∨ 100 < n + X.length
  | [], M, n, h => by rw [cpA] at h; cases h
  | m :: r, M, n, h => by
    rw [cpA] at h
    split at h
    · rename_i hc
      rw [List.length_cons]
      omega
    · have := cpA_none h
      rw [List.length_append, List.length_singleton] at this
      rw [List.length_cons]
      omega
theorem atM_len (L : List ML) (P : List Int) : (atM L P).length = P.length := by unfold atM; rw [List.length_map]
theorem atM_get {L : List ML} {P : List Int} {i : Nat} {x : Int} (hx : P[i]? = some x) {m : ML} (hm : L[x.toNat - 1]? = some m) : (atM L P)[i]? = some m := by
  unfold atM
  rw [List.getElem?_map, hx]
  show some (L.getD (x.toNat - 1) (0, 0, [])) = some m
  rw [List.getD_eq_getElem?_getD, hm]
  rfl

/-- Numbers. -/
theorem udM_all : ∀ {U : List Int} {i : Nat} {L : List ML}, (∀ m ∈ L, m.1 ∈ U) → udM U i L = (List.range L.length).map fun j => i + j
  | U, i, [], _ => rfl
  | U, i, m :: r, h => by
    have hm : U.contains m.1 = true := List.contains_iff_mem.2 (h m (by simp))
    rw [udM, hm, if_pos rfl, udM_all (fun x hx => h x (by simp [hx])), List.length_cons, List.range_succ_eq_map, List.map_cons, List.map_map]
    congr 1
    refine List.map_congr_left fun j _ => ?_
    show i + 1 + j = i + (j + 1)
    omega

/-- Sizes. -/
theorem szM_app (L M : List ML) : szM (L ++ M) = szM L + szM M := by unfold szM; rw [List.map_append, List.sum_append]
theorem szM_split (L : List ML) (k : Nat) : szM (L.take k) + szM (L.drop k) = szM L := by rw [← szM_app, List.take_append_drop]
theorem szM_le {L : List ML} (h : ∀ m ∈ L, m.2.2.length ≤ 20) : szM L ≤ 20 * L.length := by
  induction L with
  | nil => exact Nat.zero_le _
  | cons m r ih =>
    have h1 := h m (by simp)
    have h2 := ih (fun x hx => h x (by simp [hx]))
    unfold szM at h2 ⊢
    rw [List.map_cons, List.sum_cons, List.length_cons]
    omega
end Go.Proofs.YtnfigpknejmkmaaGreatDoor

namespace Go.Proofs.YtnfigpknejmkmaaGreatDoor
open Go.RowKit
set_option linter.unusedVariables false

set_option maxHeartbeats 1000000 in
theorem spec_mail (u f : Int) (t : List UInt8) (w : World) : Calls Tryz.prog 73 #[.agg #[.int .i64 u, .int .i64 f, .string (sB t)]] w (SaysB w (mOk (u, f, t))) := by
  have hW := Whole.made w 115 #[.int .i64 u, .int .i64 f, .string (sB t)]
  have c0 : (w.alloc (.cells #[.int .i64 u, .int .i64 f, .string (sB t)] 115)).cell? ⟨w.heap.size, 0, none⟩ = some (.int .i64 u) := hW.cell 0
  have c1 : (w.alloc (.cells #[.int .i64 u, .int .i64 f, .string (sB t)] 115)).cell? ⟨w.heap.size, 1, none⟩ = some (.int .i64 f) := hW.cell 1
  have c2 : (w.alloc (.cells #[.int .i64 u, .int .i64 f, .string (sB t)] 115)).cell? ⟨w.heap.size, 2, none⟩ = some (.string (sB t)) := hW.cell 2
  have HB := Lib.hid ((Below.refl w.heap.size w).alloc (Nat.le_refl _) (.cells #[.int .i64 u, .int .i64 f, .string (sB t)] 115))
  have hsz := sB_size t
  obtain ⟨v, hv⟩ : ∃ v, sB t = v := ⟨_, rfl⟩
  rw [hv] at c0 c1 c2 hsz HB ⊢
  clear hW hv
  have HM : Hid (mOk (u, f, t) = ((decide (1 ≤ u) && decide (u ≤ 99)) && isF f && decide (v.size ≤ 20))) := by
    show _ = _
    rw [hsz]
    rfl
  clear hsz
  cases h1 : (decide (1 ≤ u) && decide (u ≤ 99)) with
  | false =>
    have H1 := Lib.hid h1
    clear h1
    go_enter Tryz.func73, Tryz.ntmps73
    go_wp2_with fail
    refine (spec_in u 1 99 _).mono ?_
    rintro e w0 ⟨rfl, hw0⟩
    subst w0
    rw [H1.out]
    go_wp2
    go_ret
    exact ⟨ret_bool (by rw [HM.out, H1.out]; rfl), HB.out⟩
  | true =>
    have H1 := Lib.hid h1
    clear h1
    cases h2 : isF f with
    | false =>
      have H2 := Lib.hid h2
      clear h2
      go_enter Tryz.func73, Tryz.ntmps73
      go_wp2_with fail
      refine (spec_in u 1 99 _).mono ?_
      rintro e w0 ⟨rfl, hw0⟩
      subst w0
      rw [H1.out]
      go_wp2_with fail
      refine (spec_isflags f _).mono ?_
      rintro e w0 ⟨rfl, hw0⟩
      subst w0
      rw [H2.out]
      go_wp2
      go_ret
      exact ⟨ret_bool (by rw [HM.out, H1.out, H2.out]; rfl), HB.out⟩
    | true =>
      have H2 := Lib.hid h2
      clear h2
      by_cases h3 : v.size ≤ 20
      · have h3' : (v.size : Int) ≤ 20 := by omega
        have H3 := Lib.hid (decide_eq_true h3)
        clear h3
        go_enter Tryz.func73, Tryz.ntmps73
        go_wp2_with fail
        refine (spec_in u 1 99 _).mono ?_
        rintro e w0 ⟨rfl, hw0⟩
        subst w0
        rw [H1.out]
        go_wp2_with fail
        refine (spec_isflags f _).mono ?_
        rintro e w0 ⟨rfl, hw0⟩
        subst w0
        rw [H2.out]
        go_wp2
        go_ret
        exact ⟨ret_bool (by rw [HM.out, H1.out, H2.out, H3.out]; rfl), HB.out⟩
      · have h3' : ¬ (v.size : Int) ≤ 20 := by omega
        have H3 := Lib.hid (decide_eq_false h3)
        clear h3
        go_enter Tryz.func73, Tryz.ntmps73
        go_wp2_with fail
        refine (spec_in u 1 99 _).mono ?_
        rintro e w0 ⟨rfl, hw0⟩
        subst w0
        rw [H1.out]
        go_wp2_with fail
        refine (spec_isflags f _).mono ?_
        rintro e w0 ⟨rfl, hw0⟩
        subst w0
        rw [H2.out]
        go_wp2
        go_ret
        exact ⟨ret_bool (by rw [HM.out, H1.out, H2.out, H3.out, decide_eq_false (p := (v.size : Int) ≤ 20) (by omega)]; rfl), HB.out⟩

theorem chk_yes {u f l : Int} {t : List UInt8} {r : List ML} (h1 : mOk (u, f, t) = true) (h2 : l < u) : chk l ((u, f, t) :: r) = chk u r := by rw [chk, if_pos (by rw [h1, decide_eq_true h2]; rfl)]
theorem chk_no {u f l : Int} {t : List UInt8} {r : List ML} (h : mOk (u, f, t) = false ∨ ¬ l < u) : chk l ((u, f, t) :: r) = none := by
  rw [chk, if_neg]
  rw [Bool.and_eq_true, decide_eq_true_eq]
  rintro ⟨h1, h2⟩
  rcases h with h | h
  · rw [h] at h1; cases h1
  · exact h h2
theorem drop_at {α : Type} {L : List α} {k : Nat} {x : α} (h : L[k]? = some x) : L.drop k = x :: L.drop (k + 1) := by
  obtain ⟨hk, rfl⟩ := List.getElem?_eq_some_iff.1 h
  exact List.drop_eq_getElem_cons hk
theorem bOk_none {n : Int} {L : List ML} (h : chk 0 L = none) : bOk n L = false := by unfold bOk; rw [h]
theorem bOk_some {n z : Int} {L : List ML} (h : chk 0 L = some z) : bOk n L = ((decide (z + 1 ≤ n) && decide (n ≤ 100)) && decide (L.length ≤ 10)) := by unfold bOk; rw [h]

set_option maxRecDepth 20000 in
set_option maxHeartbeats 4000000 in
theorem spec_boxvalid (n : Int) (A : Option Addr) (N cap : Nat) (L : List ML) (w : World) (hN : L.length = N) (h : RAt mailR w A L) (hl : N ≤ 33554432) :
    Calls Tryz.prog 47 #[.agg #[.int .i64 n, .slice A N cap]] w (SaysB w (bOk n L)) := by
  have HN := Lib.hid hN
  have HB0 := Lib.hid ((Below.refl w.heap.size w).alloc (Nat.le_refl _) (.cells #[.int .i64 n, .slice A N cap] 48))
  obtain ⟨w1, hw1⟩ : ∃ w1, w.alloc (.cells #[.int .i64 n, .slice A N cap] 48) = w1 := ⟨_, rfl⟩
  have hW := Whole.made w 48 #[.int .i64 n, .slice A N cap]
  rw [hw1] at hW HB0
  have hz1 : w.heap.size < w1.heap.size := hW.lt
  have HW := Lib.hid hW
  have HR := Lib.hid (h.below HB0.out (Nat.le_refl _))
  have HW1 := Lib.hid hw1
  clear hN h hW hw1
  go_enter Tryz.func47, Tryz.ntmps47
  go_wp2
  rw [HW1.out]
  go_loopw [3, 4] (fun l i wr => ∃ (k : Nat) (z : Int), k ≤ N ∧ 0 ≤ z ∧ z ≤ 99 ∧ l = .int .i64 z ∧ i = .int .i64 (k : Int) ∧ Hid (Below w1.heap.size w1 wr) ∧ Hid (chk 0 L = chk z (L.drop k))) (fun _ i _ => N - (intOf i).toNat)
  case atStart => exact ⟨0, 0, Nat.zero_le _, by omega, by omega, by go_num, by go_num, Below.refl _ _, rfl⟩
  case round =>
    obtain ⟨k, z, hk, z0, z9, rfl, rfl, HB, HK⟩ := hrel
    have hW := HW.out.below HB.out hz1
    have b0 := hW.cell 0
    have b1 := hW.cell 1
    simp at b0 b1
    have HBT := Lib.hid (HB0.out.trans (HB.out.mono (Nat.le_of_lt hz1)))
    clear hW
    by_cases hlt : k < N
    · have h0 : (0 : Int) ≤ (k : Int) := by omega
      have h5 : (k : Int) < (N : Int) := by omega
      obtain ⟨⟨u, f, t⟩, hx⟩ : ∃ x, L[k]? = some x := ⟨_, List.getElem?_eq_getElem (by rw [HN.out]; exact hlt)⟩
      obtain ⟨b, o, rfl, hb, c0, c1, c2⟩ := mail_at (HR.out.below HB.out (Nat.le_refl _)) hx
      have HD := Lib.hid (drop_at hx)
      clear hx
      cases hm : mOk (u, f, t) with
      | false =>
        have HM := Lib.hid hm
        clear hm
        go_wp2_with fail
        refine (spec_mail u f t _).mono ?_
        rintro e w2 ⟨rfl, hb2⟩
        have HB2 := Lib.hid (HBT.out.trans (hb2.mono HBT.out.size))
        clear hb2
        rw [HM.out]
        go_wp2
        go_ret
        exact ⟨ret_bool (by rw [bOk_none (by rw [HK.out, HD.out, chk_no (.inl HM.out)])]), HB2.out⟩
      | true =>
        have HM := Lib.hid hm
        have hu := (mOk_iff.1 hm).1
        clear hm
        go_wp2_with fail
        refine (spec_mail u f t _).mono ?_
        rintro e w2 ⟨rfl, hb2⟩
        have HB2 := Lib.hid (HBT.out.trans (hb2.mono HBT.out.size))
        have HB2' := Lib.hid (HB.out.trans (hb2.mono HB.out.size))
        have b1' := (hb2.cell (p := ⟨w.heap.size, 1, none⟩) (by simp; exact Nat.lt_of_lt_of_le hz1 HB.out.size)).trans b1
        have c0' := (hb2.cell (p := ⟨b, o + k * 3, none⟩) (by simp; exact hb)).trans c0
        clear hb2
        rw [HM.out]
        by_cases hul : z < u
        · have hul' : ¬ u ≤ z := by omega
          go_wp2
          go_roundw
          case rel => exact ⟨k + 1, u, by omega, by omega, by omega, rfl, by go_num, HB2'.out, HK.out.trans ((congrArg (chk z) HD.out).trans (chk_yes HM.out (by omega)))⟩
          case measure => simp [intOf]; omega
        · have hul' : u ≤ z := by omega
          go_wp2
          go_ret
          exact ⟨ret_bool (by rw [bOk_none (by rw [HK.out, HD.out, chk_no (.inr (by omega))])]), HB2.out⟩
    · have h5 : ¬ (k : Int) < (N : Int) := by omega
      have hkk : L.drop k = [] := List.drop_eq_nil_of_le (by rw [HN.out]; omega)
      have HKK : Hid (chk 0 L = some z) := by show _ = _; rw [HK.out, hkk]; rfl
      have W1 : IntKind.i64.wrap (z + 1) = z + 1 := IntWalk.i64_in _ (by omega)
      clear hkk
      cases hi : (decide (z + 1 ≤ n) && decide (n ≤ 100)) with
      | false =>
        have HI := Lib.hid hi
        clear hi
        go_wp2_with fail
        refine (spec_in n (z + 1) 100 _).mono ?_
        rintro e w2 ⟨rfl, hw2⟩
        subst w2
        rw [HI.out]
        go_wp2
        go_ret
        exact ⟨ret_bool (by rw [bOk_some HKK.out, HI.out]; rfl), HBT.out⟩
      | true =>
        have HI := Lib.hid hi
        clear hi
        by_cases h10 : N ≤ 10
        · have h10' : (N : Int) ≤ 10 := by omega
          go_wp2_with fail
          refine (spec_in n (z + 1) 100 _).mono ?_
          rintro e w2 ⟨rfl, hw2⟩
          subst w2
          rw [HI.out]
          go_wp2
          go_ret
          exact ⟨ret_bool (by rw [bOk_some HKK.out, HI.out, HN.out, decide_eq_true h10]; rfl), HBT.out⟩
        · have h10' : ¬ (N : Int) ≤ 10 := by omega
          go_wp2_with fail
          refine (spec_in n (z + 1) 100 _).mono ?_
          rintro e w2 ⟨rfl, hw2⟩
          subst w2
          rw [HI.out]
          go_wp2
          go_ret
          exact ⟨ret_bool (by rw [bOk_some HKK.out, HI.out, HN.out, decide_eq_false h10, decide_eq_false (p := (N : Int) ≤ 10) (by omega)]; rfl), HBT.out⟩
end Go.Proofs.YtnfigpknejmkmaaGreatDoor

namespace Go.Proofs.YtnfigpknejmkmaaGreatDoor
open Go.RowKit
set_option linter.unusedVariables false

theorem give_two {w w' : World} {B N cap : Nat} {A : Option Addr} {n : Int} {L : List ML} {b : Bool} {u u2 : Value} (hB : w.heap.size = B) (ho : ROwn mailR w' (B + 1 + 1) (.slice A N cap) L) (hb : Below B w w') :
    GivesBB w n L b (.returned (.tuple #[.agg #[.int .i64 n, .slice A N cap], .bool b])) ((w'.setCell ⟨B + 1, 0, none⟩ u).setCell ⟨B + 1, 1, none⟩ u2) := by
  refine ⟨A, N, cap, rfl, ?_, ?_⟩
  · rw [hB]
    exact ((ho.store (p := ⟨B + 1, 0, none⟩) (ho.base (B + 1) (by omega)) _).store (p := ⟨B + 1, 1, none⟩) (ho.base (B + 1) (by omega)) _).from (by omega)
  · rw [hB]
    exact (hb.setCell (p := ⟨B + 1, 0, none⟩) (Nat.le_succ _) _).setCell (p := ⟨B + 1, 1, none⟩) (Nat.le_succ _) _
theorem box_zero (w : World) (B : Nat) : ROwn mailR w B (.slice none 0 0) [] := ROwn.nil w B
/-- BoxAppend of the model. -/
def bxR (n : Int) (L : List ML) (f : Int) (t : List UInt8) : Int × List ML × Bool := bxAp n L f t
theorem bxAp_no {n : Int} {L : List ML} {f : Int} {t : List UInt8} (h : (bOk n L && isF f && decide (t.length ≤ 20)) = false) : bxAp n L f t = (0, [], false) := by unfold bxAp; rw [h]; rfl
theorem bxAp_go {n : Int} {L : List ML} {f : Int} {t : List UInt8} (h : (bOk n L && isF f && decide (t.length ≤ 20)) = true) : bxAp n L f t = bxAdd n L f t := by unfold bxAp; rw [h]; rfl
end Go.Proofs.YtnfigpknejmkmaaGreatDoor

namespace Go.Proofs.YtnfigpknejmkmaaGreatDoor
open Go.RowKit
set_option linter.unusedVariables false

theorem gtake_same {α : Type} {L M : List α} {k : Nat} {x : α} (h : L.take k = M.take k) (hl : L[k]? = some x) (hm : M[k]? = some x) : L.take (k + 1) = M.take (k + 1) := by
  rw [List.take_add_one, List.take_add_one, h, hl, hm]
theorem gtake_diff {α : Type} {L M : List α} {k : Nat} {x y : α} (hl : L[k]? = some x) (hm : M[k]? = some y) (h : x ≠ y) : L ≠ M := by
  rintro rfl
  rw [hl] at hm
  exact h (Option.some.inj hm)
theorem glen_diff {α : Type} {L M : List α} (h : L.length ≠ M.length) : L ≠ M := fun e => h (by rw [e])
theorem says_mk {w w' : World} {o p : Bool} (h : o = p) (hb : Below w.heap.size w w') : SaysB w o (.returned (.bool p)) w' := ⟨by rw [h], hb⟩
/-- A slice of numbers that came in. -/
def IIn (w : World) (A : Option Addr) (N cap : Nat) (P : List Int) : Prop := P.length = N ∧ N ≤ 33554432 ∧ RAt intR w A P ∧ (A = none → cap = 0) ∧ (∀ q, A = some q → q.spot = none)
theorem IIn.below {w w' : World} {A : Option Addr} {N cap B : Nat} {P : List Int} (h : IIn w A N cap P) (hb : Below B w w') (hB : w.heap.size ≤ B) : IIn w' A N cap P := ⟨h.1, h.2.1, h.2.2.1.below hb hB, h.2.2.2⟩
theorem IIn.of {w : World} {B N cap : Nat} {A : Option Addr} {P : List Int} (h : ROwn intR w B (.slice A N cap) P) (hl : N ≤ 33554432) : IIn w A N cap P := ⟨h.len.1.symm, hl, h.at, h.nilcap, h.spot⟩
theorem text_same {a b : List UInt8} (h : a = b) : ((sB a).toList == (sB b).toList) = true ∧ (sB a).toList = (sB b).toList := by subst h; exact ⟨by simp, rfl⟩
theorem text_other {a b : List UInt8} (h : a ≠ b) : ((sB a).toList == (sB b).toList) = false ∧ ¬ (sB a).toList = (sB b).toList := by
  have e : ∀ l : List UInt8, (sB l).toList = l := fun l => by rw [ByteArray.toList_eq, sB_list]
  rw [e, e]
  exact ⟨beq_eq_false_iff_ne.2 h, h⟩

/-- A number of a list. -/
def hasI (P : List Int) (x : Int) : Bool := P.contains x
theorem has_yes {P : List Int} {k : Nat} {x : Int} (h : P[k]? = some x) : hasI P x = true := List.contains_iff_mem.2 (List.mem_of_getElem? h)
theorem has_no {P : List Int} {k : Nat} {x y : Int} (h : hasI (P.take k) x = false) (hy : P[k]? = some y) (hne : y ≠ x) : hasI (P.take (k + 1)) x = false := by
  unfold hasI at h ⊢
  rw [List.take_add_one, hy, ← Bool.not_eq_true, List.contains_iff_mem]
  intro hm
  rcases List.mem_append.1 hm with hm | hm
  · rw [List.contains_iff_mem.2 hm] at h
    cases h
  · simp at hm
    exact hne hm.symm
theorem box_dec {n m : Int} {L M : List ML} : decide (n = m ∧ L = M) = (decide (n = m) && decide (L = M)) := by
  rw [Bool.eq_iff_iff]
  simp
end Go.Proofs.YtnfigpknejmkmaaGreatDoor

namespace Go.Proofs.YtnfigpknejmkmaaGreatDoor
open Go.RowKit
set_option linter.unusedVariables false

theorem plc_yes {len : Nat} {l x : Int} {r : List Int} (h1 : l < x) (h2 : x ≤ (len : Int)) : plc len l (x :: r) = plc len x r := by rw [plc, decide_eq_true h1, decide_eq_true h2]; rfl
theorem plc_no {len : Nat} {l x : Int} {r : List Int} (h : ¬ l < x ∨ ¬ x ≤ (len : Int)) : plc len l (x :: r) = false := by
  rw [plc]
  rcases h with h | h
  · rw [decide_eq_false h]; rfl
  · rw [decide_eq_false h]; simp
theorem in_at (x a b : Int) (r : Bool) (h : (decide (a ≤ x) && decide (x ≤ b)) = r) (w : World) : Calls Tryz.prog 74 #[.int .i64 x, .int .i64 a, .int .i64 b] w fun e w' => e = .returned (.bool r) ∧ w' = w := h ▸ spec_in x a b w
theorem szM_take {L : List ML} {k : Nat} {x : ML} (h : L[k]? = some x) : szM (L.take (k + 1)) = szM (L.take k) + x.2.2.length := by
  rw [List.take_add_one, h]
  show szM (L.take k ++ [x]) = _
  rw [szM_app]
  rfl
end Go.Proofs.YtnfigpknejmkmaaGreatDoor
namespace Go.Proofs.YtnfigpknejmkmaaGreatDoor
open Go.RowKit
set_option linter.unusedVariables false

/-- The greatest number of ascending messages behind 'l', if they are so, as the code reads it. -/
def chc : Int → List ML → Option Int
  | l, [] => some l
  | l, m :: r => if decide (l < m.1) && (isF m.2.1 && decide (m.2.2.length ≤ 20)) then chc m.1 r else none
theorem chc_some : ∀ {L : List ML} {l z : Int}, chc l L = some z → (∀ m ∈ L, isF m.2.1 = true ∧ m.2.2.length ≤ 20 ∧ l < m.1 ∧ m.1 ≤ z) ∧ Asc L ∧ l ≤ z ∧ (z = l ∨ ∃ m ∈ L, m.1 = z)
  | [], l, z, h => by
    rw [chc] at h
    cases h
    exact ⟨fun m hm => (by cases hm), List.Pairwise.nil, Int.le_refl _, .inl rfl⟩
  | x :: L, l, z, h => by
    rw [chc] at h
    split at h
    · rename_i hx
      rw [Bool.and_eq_true, Bool.and_eq_true, decide_eq_true_eq, decide_eq_true_eq] at hx
      obtain ⟨h1, h2, h3, h4⟩ := chc_some h
      refine ⟨fun m hm => ?_, ?_, by omega, ?_⟩
      · rcases List.mem_cons.1 hm with rfl | hm
        · exact ⟨hx.2.1, hx.2.2, hx.1, h3⟩
        · have := h1 m hm
          exact ⟨this.1, this.2.1, by omega, this.2.2.2⟩
      · exact .cons (fun m hm => (h1 m hm).2.2.1) h2
      · rcases h4 with rfl | ⟨m, hm, e⟩
        · exact .inr ⟨x, by simp, rfl⟩
        · exact .inr ⟨m, by simp [hm], e⟩
    · cases h
theorem chc_of : ∀ {L : List ML} {l : Int}, (∀ m ∈ L, isF m.2.1 = true ∧ m.2.2.length ≤ 20 ∧ l < m.1) → Asc L → ∃ z, chc l L = some z
  | [], l, _, _ => ⟨l, rfl⟩
  | x :: L, l, h, ha => by
    have hx := h x (by simp)
    rw [chc, if_pos (by rw [hx.1, decide_eq_true hx.2.1, decide_eq_true hx.2.2]; rfl)]
    cases ha with
    | cons h1 h2 => exact chc_of (fun m hm => ⟨(h m (by simp [hm])).1, (h m (by simp [hm])).2.1, h1 m hm⟩) h2
theorem chc_bok {n z : Int} {L : List ML} (h : chc 0 L = some z) (hn : n ≤ 100) (hl : L.length ≤ 10) : bOk n L = decide (z < n) := by
  obtain ⟨h1, h2, h3, h4⟩ := chc_some h
  by_cases hz : z < n
  · rw [decide_eq_true hz]
    exact bOk_iff.2 ⟨fun m hm => by
      have := h1 m hm
      exact ⟨mOk_iff.2 ⟨⟨by omega, by omega⟩, this.1, this.2.1⟩, by omega⟩, h2, by omega, hn, hl⟩
  · rw [decide_eq_false hz, ← Bool.not_eq_true]
    intro hb
    obtain ⟨k1, _, k3, _⟩ := bOk_iff.1 hb
    rcases h4 with rfl | ⟨m, hm, rfl⟩
    · omega
    · have := (k1 m hm).2
      omega
theorem chc_bad {n : Int} {L : List ML} (h : chc 0 L = none) : bOk n L = false := by
  rw [← Bool.not_eq_true]
  intro hb
  obtain ⟨k1, k2, _⟩ := bOk_iff.1 hb
  obtain ⟨z, hz⟩ := chc_of (L := L) (l := 0) (fun m hm => by
    have := mOk_iff.1 (k1 m hm).1
    exact ⟨this.2.1, this.2.2, by omega⟩) k2
  rw [h] at hz
  cases hz
theorem bok_long {n : Int} {L : List ML} (h : 10 < L.length ∨ 100 < n) : bOk n L = false := by
  rw [← Bool.not_eq_true]
  intro hb
  obtain ⟨_, _, _, k4, k5⟩ := bOk_iff.1 hb
  omega
theorem chc_yes {u f l : Int} {t : List UInt8} {r : List ML} (h2 : l < u) (h1 : (isF f && decide (t.length ≤ 20)) = true) : chc l ((u, f, t) :: r) = chc u r := by rw [chc, if_pos (by rw [decide_eq_true h2, h1]; rfl)]
theorem chc_no {u f l : Int} {t : List UInt8} {r : List ML} (h : (isF f && decide (t.length ≤ 20)) = false ∨ ¬ l < u) : chc l ((u, f, t) :: r) = none := by
  rw [chc, if_neg]
  rw [Bool.and_eq_true, decide_eq_true_eq]
  rintro ⟨h1, h2⟩
  rcases h with h | h
  · rw [h] at h2; cases h2
  · exact h h1

set_option maxHeartbeats 1000000 in
theorem impl_ismail (f : Int) (t : List UInt8) (w : World) : Calls Tryz.prog 79 #[.int .i64 f, .string (sB t)] w fun e w' => e = .returned (.bool (isF f && decide (t.length ≤ 20))) ∧ w' = w := by
  have hsz := sB_size t
  obtain ⟨v, hv⟩ : ∃ v, sB t = v := ⟨_, rfl⟩
  rw [hv] at hsz ⊢
  rw [← hsz]
  clear hsz hv
  cases h2 : isF f with
  | false =>
    have H2 := Lib.hid h2
    clear h2
    go_enter Tryz.func79, Tryz.ntmps79
    go_wp2_with fail
    refine (impl_isflags f _).mono ?_
    rintro e w0 ⟨rfl, hw0⟩
    subst w0
    rw [H2.out]
    go_wp2
    go_ret
    exact ⟨rfl, rfl⟩
  | true =>
    have H2 := Lib.hid h2
    clear h2
    have h3 : decide ((v.size : Int) ≤ 20) = decide (v.size ≤ 20) := by
      by_cases h : v.size ≤ 20
      · rw [decide_eq_true h, decide_eq_true (by omega)]
      · rw [decide_eq_false h, decide_eq_false (by omega)]
    have H3 := Lib.hid h3
    clear h3
    go_enter Tryz.func79, Tryz.ntmps79
    go_wp2_with fail
    refine (impl_isflags f _).mono ?_
    rintro e w0 ⟨rfl, hw0⟩
    subst w0
    rw [H2.out]
    go_wp2
    go_ret
    exact ⟨ret_bool (by rw [← H3.out]; rfl), rfl⟩

set_option maxRecDepth 20000 in
set_option maxHeartbeats 4000000 in
theorem impl_boxvalid (n : Int) (A : Option Addr) (N cap : Nat) (L : List ML) (w : World) (h : MIn w A N cap L) :
    Calls Tryz.prog 52 #[.agg #[.int .i64 n, .slice A N cap]] w (SaysB w (bOk n L)) := by
  have HN := Lib.hid h.1
  have HB0 := Lib.hid ((Below.refl w.heap.size w).alloc (Nat.le_refl _) (.cells #[.int .i64 n, .slice A N cap] 48))
  obtain ⟨w1, hw1⟩ : ∃ w1, w.alloc (.cells #[.int .i64 n, .slice A N cap] 48) = w1 := ⟨_, rfl⟩
  have hW := Whole.made w 48 #[.int .i64 n, .slice A N cap]
  rw [hw1] at hW HB0
  have hz1 : w.heap.size < w1.heap.size := hW.lt
  have HW := Lib.hid hW
  have HR := Lib.hid (h.2.2.1.below HB0.out (Nat.le_refl _))
  have HW1 := Lib.hid hw1
  have b0 := hW.cell 0
  have b1 := hW.cell 1
  simp at b0 b1
  have hl := h.2.1
  clear h hW hw1
  by_cases h10 : 10 < N
  · have h10' : (10 : Int) < (N : Int) := by omega
    go_enter Tryz.func52, Tryz.ntmps52
    go_wp2
    go_ret
    rw [HW1.out]
    exact ⟨ret_bool (by rw [bok_long (by rw [HN.out]; omega)]), HB0.out⟩
  · have h10' : ¬ (10 : Int) < (N : Int) := by omega
    by_cases h100 : 100 < n
    · go_enter Tryz.func52, Tryz.ntmps52
      go_wp2
      go_ret
      rw [HW1.out]
      exact ⟨ret_bool (by rw [bok_long (by omega)]), HB0.out⟩
    · go_enter Tryz.func52, Tryz.ntmps52
      go_wp2
      rw [HW1.out]
      go_loopw [3, 18] (fun l i wr => ∃ (k : Nat) (z : Int), k ≤ N ∧ 0 ≤ z ∧ l = .int .i64 z ∧ i = .int .i64 (k : Int) ∧ Hid (Below w1.heap.size w1 wr) ∧ Hid (chc 0 L = chc z (L.drop k))) (fun _ i _ => N - (intOf i).toNat)
      case atStart => exact ⟨0, 0, Nat.zero_le _, by omega, by go_num, by go_num, Below.refl _ _, rfl⟩
      case round =>
        obtain ⟨k, z, hk, z0, rfl, rfl, HB, HK⟩ := hrel
        have hW := HW.out.below HB.out hz1
        have b0 := hW.cell 0
        have b1 := hW.cell 1
        simp at b0 b1
        have HBT := Lib.hid (HB0.out.trans (HB.out.mono (Nat.le_of_lt hz1)))
        clear hW
        by_cases hlt : k < N
        · have h0 : (0 : Int) ≤ (k : Int) := by omega
          have h5 : (k : Int) < (N : Int) := by omega
          obtain ⟨⟨u, f, t⟩, hx⟩ : ∃ x, L[k]? = some x := ⟨_, List.getElem?_eq_getElem (by rw [HN.out]; exact hlt)⟩
          obtain ⟨b, o, hAe, hb, c0, c1, c2⟩ := mail_at (HR.out.below HB.out (Nat.le_refl _)) hx
          have HD := Lib.hid (drop_at hx)
          clear hx
          subst hAe
          obtain ⟨v, hv⟩ : ∃ v, sB t = v := ⟨_, rfl⟩
          have HV := Lib.hid hv
          rw [hv] at c2
          clear hv
          by_cases hzu : z < u
          · have hzu' : ¬ u ≤ z := by omega
            cases hm : isF f && decide (t.length ≤ 20) with
            | false =>
              have HM := Lib.hid hm
              clear hm
              go_wp2_with fail
              rw [← HV.out]
              refine (impl_ismail f t _).mono ?_
              rintro e w2 ⟨rfl, hw2⟩
              subst w2
              rw [HM.out, HV.out]
              go_wp2
              go_ret
              exact ⟨ret_bool (by rw [chc_bad (by rw [HK.out, HD.out, chc_no (.inl HM.out)])]), HBT.out.alloc (HBT.out.size) _⟩
            | true =>
              have HM := Lib.hid hm
              clear hm
              go_wp2_with fail
              rw [← HV.out]
              refine (impl_ismail f t _).mono ?_
              rintro e w2 ⟨rfl, hw2⟩
              subst w2
              rw [HM.out, HV.out]
              go_wp2
              go_roundw
              case rel => exact ⟨k + 1, u, by omega, by omega, by go_num, by go_num, HB.out.alloc HB.out.size _, HK.out.trans ((congrArg (chc z) HD.out).trans (chc_yes (by omega) HM.out))⟩
              case measure => simp [intOf]; omega
          · have hzu' : u ≤ z := by omega
            go_wp2
            go_ret
            exact ⟨ret_bool (by rw [chc_bad (by rw [HK.out, HD.out, chc_no (.inr (by omega))])]), HBT.out.alloc HBT.out.size _⟩
        · have h5 : ¬ (k : Int) < (N : Int) := by omega
          have HKK : Hid (chc 0 L = some z) := by
            show _ = _
            rw [HK.out, List.drop_eq_nil_of_le (by rw [HN.out]; omega)]
            rfl
          go_wp2
          go_ret
          exact ⟨ret_bool (by rw [chc_bok HKK.out (by omega) (by rw [HN.out]; omega)]), HBT.out⟩
end Go.Proofs.YtnfigpknejmkmaaGreatDoor

namespace Go.Proofs.YtnfigpknejmkmaaGreatDoor
open Go.RowKit
set_option linter.unusedVariables false

section
variable {α : Type} {R : RowT α} {M : List α} {v : Value} {w w' : World} {A : Option Addr} {B N cap c g : Nat} {n : Int} {L : List ML} {P : List Int} {X Y : NX}
theorem MIn.keep (h : MIn w A N cap L) : Kp w fun w' => MIn w' A N cap L := fun w2 h2 => h.below h2 (Nat.le_refl _)
theorem IIn.keep (h : IIn w A N cap P) : Kp w fun w' => IIn w' A N cap P := fun w2 h2 => h.below h2 (Nat.le_refl _)
theorem ROwn.keep (h : ROwn R w B v M) : Kp w fun w' => ROwn R w' B v M := fun w2 h2 => h.kept h2
theorem kp_box (w : World) (t : TypeId) (cs : Array Value) : Kp (w.alloc (.cells cs t)) fun w' => Below w.heap.size w w' ∧ Whole w' w.heap.size t cs ∧ w.heap.size < w'.heap.size := fun w2 h2 =>
  ⟨(below_new w _).trans (h2.mono (by simp)), (Whole.made w t cs).below h2 (Whole.made w t cs).lt, by have := h2.size; simp at this; omega⟩
end
def GivesKNo (w : World) (e : Ending) (w' : World) : Prop := e = .returned (.tuple #[.pointer none, .bool false]) ∧ Below w.heap.size w w'
end Go.Proofs.YtnfigpknejmkmaaGreatDoor

namespace Go.Proofs.YtnfigpknejmkmaaGreatDoor
open Go.RowKit
set_option linter.unusedVariables false

end Go.Proofs.YtnfigpknejmkmaaGreatDoor

namespace Go.Proofs.YtnfigpknejmkmaaGreatDoor
open Go.RowKit
set_option linter.unusedVariables false

/-- The nodes at places. -/
def atN (X : NX) (P : List Int) : List Nat := P.map fun x => (X.getD (x.toNat - 1) (0, (0, 0, []))).1
theorem atN_len (X : NX) (P : List Int) : (atN X P).length = P.length := by unfold atN; rw [List.length_map]
theorem atN_get {X : NX} {P : List Int} {i : Nat} {x : Int} (hx : P[i]? = some x) {g : Nat} {m : ML} (hm : X[x.toNat - 1]? = some (g, m)) : (atN X P)[i]? = some g := by
  unfold atN
  rw [List.getElem?_map, hx]
  show some ((X.getD (x.toNat - 1) (0, (0, 0, []))).1) = some g
  rw [List.getD_eq_getElem?_getD, hm]
  rfl
theorem atN_push {X : NX} {P : List Int} {i : Nat} {x : Int} (hx : P[i]? = some x) {g : Nat} {m : ML} (hm : X[x.toNat - 1]? = some (g, m)) : atN X (P.take (i + 1)) = atN X (P.take i) ++ [g] := by
  unfold atN
  rw [List.take_add_one, hx, List.map_append]
  show _ ++ [(X.getD (x.toNat - 1) (0, (0, 0, []))).1] = _
  rw [List.getD_eq_getElem?_getD, hm]
  rfl
/-- Nodes at places of a chain whose flags may have turned: only the blocks count. -/
theorem atN_same {X Y : NX} (h : X.map (·.1) = Y.map (·.1)) (P : List Int) : atN X P = atN Y P := by
  unfold atN
  refine List.map_congr_left fun x _ => ?_
  have e := congrArg (fun l => l[x.toNat - 1]?) h
  simp only [List.getElem?_map] at e
  rw [List.getD_eq_getElem?_getD, List.getD_eq_getElem?_getD]
  cases hx : X[x.toNat - 1]? <;> cases hy : Y[x.toNat - 1]? <;> rw [hx, hy] at e <;> simp at e ⊢
  exact e
end Go.Proofs.YtnfigpknejmkmaaGreatDoor

namespace Go.Proofs.YtnfigpknejmkmaaGreatDoor
open Go.RowKit
set_option linter.unusedVariables false

end Go.Proofs.YtnfigpknejmkmaaGreatDoor

namespace Go.Proofs.YtnfigpknejmkmaaGreatDoor
open Go.RowKit
set_option linter.unusedVariables false

theorem fbelow_drew {B : Nat} {a w : World} (h : Below B a w) : Below B a w.drew := ⟨h.os, h.tape, h.output, h.size, h.block⟩
/-- A mailbox and numbers of the call's own are handed back. -/
def GivesE (w : World) (n : Int) (L : List ML) (G : List Int) (e : Ending) (w' : World) : Prop := ∃ A N cap A2 N2 cap2, e = .returned (.tuple #[.agg #[.int .i64 n, .slice A N cap], .slice A2 N2 cap2]) ∧ ROwn mailR w' w.heap.size (.slice A N cap) L ∧ ROwn intR w' w.heap.size (.slice A2 N2 cap2) G ∧ Below w.heap.size w w'
theorem give_exp {w w' : World} {B N cap N2 cap2 : Nat} {A A2 : Option Addr} {n : Int} {L : List ML} {G : List Int} {u u2 : Value} (hB : w.heap.size = B) (ho : ROwn mailR w' (B + 1 + 1) (.slice A N cap) L) (hg : ROwn intR w' (B + 1 + 1) (.slice A2 N2 cap2) G) (hb : Below B w w') :
    GivesE w n L G (.returned (.tuple #[.agg #[.int .i64 n, .slice A N cap], .slice A2 N2 cap2])) ((w'.setCell ⟨B + 1, 0, none⟩ u).setCell ⟨B + 1, 1, none⟩ u2) := by
  refine ⟨A, N, cap, A2, N2, cap2, rfl, ?_, ?_, ?_⟩
  · rw [hB]
    exact ((ho.store (p := ⟨B + 1, 0, none⟩) (ho.base (B + 1) (by omega)) _).store (p := ⟨B + 1, 1, none⟩) (ho.base (B + 1) (by omega)) _).from (by omega)
  · rw [hB]
    exact ((hg.store (p := ⟨B + 1, 0, none⟩) (hg.base (B + 1) (by omega)) _).store (p := ⟨B + 1, 1, none⟩) (hg.base (B + 1) (by omega)) _).from (by omega)
  · rw [hB]
    exact (hb.setCell (p := ⟨B + 1, 0, none⟩) (Nat.le_succ _) _).setCell (p := ⟨B + 1, 1, none⟩) (Nat.le_succ _) _
theorem dl_num {u f : Int} {t : List UInt8} (h : mOk (u, f, t) = true) : ∃ d1 : Nat, f.tdiv 8 = (d1 : Int) ∧ f / 8 = (d1 : Int) ∧ d1 ≤ 31 ∧ ((dlM (u, f, t) = true ∧ (d1 : Int) % 2 = 1) ∨ (dlM (u, f, t) = false ∧ (d1 : Int) % 2 = 0)) ∧ 0 ≤ f := by
  obtain ⟨_, h2, _⟩ := mOk_iff.1 h
  obtain ⟨a, ha, e⟩ := isF_nat h2
  simp only at e
  subst e
  refine ⟨a / 8, IntWalk.up_tdiv rfl rfl, by omega, by omega, ?_, by omega⟩
  cases hb : tb a 3
  · refine .inr ⟨hb, ?_⟩
    exact half_no (k := 3) (q := 8) rfl rfl hb
  · refine .inl ⟨hb, ?_⟩
    exact half_yes (k := 3) (q := 8) rfl rfl hb
end Go.Proofs.YtnfigpknejmkmaaGreatDoor

namespace Go.Proofs.YtnfigpknejmkmaaGreatDoor
open Go.RowKit
set_option linter.unusedVariables false

end Go.Proofs.YtnfigpknejmkmaaGreatDoor

namespace Go.Proofs.YtnfigpknejmkmaaGreatDoor
open Go.RowKit
set_option linter.unusedVariables false

/-- The last link, and how many nodes are ahead of it. -/
def GivesEnd (w : World) (c : Nat) (X : NX) (e : Ending) (w' : World) : Prop := e = .returned (.tuple #[.pointer (some (lnk c X X.length)), .int .i64 (X.length : Int)]) ∧ w = w'
end Go.Proofs.YtnfigpknejmkmaaGreatDoor

namespace Go.Proofs.YtnfigpknejmkmaaGreatDoor
open Go.RowKit
set_option linter.unusedVariables false

section
variable {w : World} {t1 t2 t3 : TypeId} {c1 c2 c3 : Array Value}
/-- Two new blocks, one after the other. -/
theorem kp_two (w : World) (t1 t2 : TypeId) (c1 c2 : Array Value) {B : Nat} (hB : w.heap.size = B) : Kp ((w.alloc (.cells c1 t1)).alloc (.cells c2 t2)) fun w' => Below B w w' ∧ Whole w' B t1 c1 ∧ Whole w' (B + 1) t2 c2 ∧ B + 1 + 1 ≤ w'.heap.size := fun w2 h2 => by
  subst hB
  have h1 := (Whole.made w t1 c1).alloc (.cells c2 t2)
  have h3 := Whole.made (w.alloc (.cells c1 t1)) t2 c2
  have e : (w.alloc (.cells c1 t1)).heap.size = w.heap.size + 1 := by simp
  rw [e] at h3
  refine ⟨((below_new w _).alloc (by simp) _).trans (h2.mono (by simp; omega)), h1.below h2 h1.lt, h3.below h2 h3.lt, ?_⟩
  have := h2.size
  simp at this
  omega
end
theorem bxAp_size {n : Int} {L : List ML} (h : bOk n L = true) : L.length ≤ 10 ∧ 1 ≤ n := ⟨(bOk_iff.1 h).2.2.2.2, (bOk_iff.1 h).2.2.1⟩

end Go.Proofs.YtnfigpknejmkmaaGreatDoor

namespace Go.Proofs.YtnfigpknejmkmaaGreatDoor
set_option linter.unusedVariables false

theorem plc_get {len : Nat} {P : List Int} (h : plc len 0 P = true) {i : Nat} {x : Int} (hx : P[i]? = some x) : 1 ≤ x ∧ x ≤ (len : Int) := by
  have := (plc_iff.1 h).1 x (List.mem_of_getElem? hx)
  omega
theorem plc_lenI {len : Nat} : ∀ {P : List Int} {l : Int}, 0 ≤ l → l ≤ (len : Int) → plc len l P = true → l + (P.length : Int) ≤ (len : Int)
  | [], l, h0, h1, _ => by simpa using h1
  | x :: P, l, h0, h1, h => by
    rw [plc, Bool.and_eq_true, Bool.and_eq_true, decide_eq_true_eq, decide_eq_true_eq] at h
    have := plc_lenI (P := P) (l := x) (by omega) h.1.2 h.2
    rw [List.length_cons]
    omega
theorem plc_len {len : Nat} {P : List Int} (h : plc len 0 P = true) : P.length ≤ len := by
  have := plc_lenI (Int.le_refl 0) (by omega) h
  omega
theorem plc_new {len : Nat} {P : List Int} (h : plc len 0 P = true) {i : Nat} {x : Int} (hx : P[i]? = some x) : ∀ y ∈ P.take i, y < x := by
  intro y hy
  obtain ⟨j, hj⟩ := List.mem_iff_getElem?.1 hy
  have hp := (plc_iff.1 h).2
  obtain ⟨h1, e1⟩ := List.getElem?_eq_some_iff.1 hj
  rw [List.length_take] at h1
  rw [List.getElem_take] at e1
  obtain ⟨h2, e2⟩ := List.getElem?_eq_some_iff.1 hx
  have := List.pairwise_iff_getElem.1 hp j i (by omega) h2 (by omega)
  rw [e1, e2] at this
  exact this
theorem flM_step {P : List Int} {h f : Int} {L : List ML} {i k : Nat} {m : ML} (hp : plc L.length 0 P = true) (hx : P[i]? = some ((k + 1 : Nat) : Int)) (hm : L[k]? = some m) :
    (flM (P.take i) h f 1 L)[k]? = some m ∧ (flM (P.take i) h f 1 L).set k (chM h f m) = flM (P.take (i + 1)) h f 1 L := by
  have hn : (P.take i).contains ((1 + k : Nat) : Int) = false := by
    rw [← Bool.not_eq_true, List.contains_iff_mem]
    intro hc
    have := plc_new hp hx _ hc
    omega
  have h1 := flM_get (P.take i) h f 1 k L m hm
  rw [hn] at h1
  refine ⟨h1, ?_⟩
  apply List.ext_getElem?
  intro j
  have hk := (List.getElem?_eq_some_iff.1 hm).1
  by_cases hj : k = j
  · subst hj
    rw [List.getElem?_set_self (by rw [flM_len]; exact hk), flM_get _ _ _ 1 k L m hm]
    have : (P.take (i + 1)).contains ((1 + k : Nat) : Int) = true := by
      rw [List.contains_iff_mem, List.take_add_one, hx]
      exact List.mem_append_right _ (by simp; omega)
    rw [this]
    rfl
  · rw [List.getElem?_set_ne hj]
    rcases Nat.lt_or_ge j L.length with hl | hl
    · rw [flM_get _ _ _ 1 j L _ (List.getElem?_eq_getElem hl), flM_get _ _ _ 1 j L _ (List.getElem?_eq_getElem hl)]
      have : (P.take (i + 1)).contains ((1 + j : Nat) : Int) = (P.take i).contains ((1 + j : Nat) : Int) := by
        rw [Bool.eq_iff_iff, List.contains_iff_mem, List.contains_iff_mem, List.take_add_one, hx]
        constructor
        · intro hc
          rcases List.mem_append.1 hc with hc | hc
          · exact hc
          · simp at hc
            omega
        · exact fun hc => List.mem_append_left _ hc
      rw [this]
    · rw [List.getElem?_eq_none (by rw [flM_len]; exact hl), List.getElem?_eq_none (by rw [flM_len]; exact hl)]
theorem flM_done (P : List Int) (h f : Int) (L : List ML) : flM (P.take P.length) h f 1 L = flM P h f 1 L := by rw [List.take_length]
theorem bxFl_no {n : Int} {L : List ML} {P : List Int} {h f : Int} (hn : (bOk n L && plc L.length 0 P && howB h && isF f) = false) : bxFl n L P h f = (0, [], false) := by unfold bxFl; rw [hn]; rfl
theorem bxFl_yes {n : Int} {L : List ML} {P : List Int} {h f : Int} (h1 : bOk n L = true) (h2 : plc L.length 0 P = true) (h3 : howB h = true) (h4 : isF f = true) : bxFl n L P h f = (n, flM P h f 1 L, true) := by unfold bxFl; rw [h1, h2, h3, h4]; rfl

theorem cpA_full {n : Int} {M : List ML} {m : ML} {r : List ML} (h : 10 ≤ M.length ∨ 99 < n) : cpA n M (m :: r) = none := by rw [cpA, if_pos h]
theorem cpA_next {n : Int} {M : List ML} {m : ML} {r : List ML} (h : ¬ (10 ≤ M.length ∨ 99 < n)) : cpA n M (m :: r) = cpA (n + 1) (M ++ [(n, m.2.1, m.2.2)]) r := by rw [cpA, if_neg h]
theorem bxCp_no {n m : Int} {L M : List ML} {P : List Int} (h : (bOk n L && bOk m M && plc L.length 0 P) = false) : bxCp n L P m M = (0, [], false) := by unfold bxCp; rw [h]; rfl
theorem bxCp_all {n m n2 : Int} {L M M2 : List ML} {P : List Int} (h1 : bOk n L = true) (h2 : bOk m M = true) (h3 : plc L.length 0 P = true) (hc : cpA m M (atM L P) = some (n2, M2)) : bxCp n L P m M = (n2, M2, true) := by unfold bxCp; rw [h1, h2, h3, hc]; rfl
theorem bxCp_none {n m : Int} {L M : List ML} {P : List Int} (h1 : bOk n L = true) (h2 : bOk m M = true) (h3 : plc L.length 0 P = true) (hc : cpA m M (atM L P) = none) : bxCp n L P m M = (m, M, false) := by unfold bxCp; rw [h1, h2, h3, hc]; rfl
theorem atM_drop {L : List ML} {P : List Int} {i k : Nat} {m : ML} (hx : P[i]? = some ((k + 1 : Nat) : Int)) (hm : L[k]? = some m) : (atM L P).drop i = m :: (atM L P).drop (i + 1) := by
  have h := atM_get (m := m) hx (by rw [show ((k + 1 : Nat) : Int).toNat - 1 = k by omega]; exact hm)
  obtain ⟨hk, e⟩ := List.getElem?_eq_some_iff.1 h
  rw [List.drop_eq_getElem_cons hk, e]

theorem udM_app (U : List Int) : ∀ (i : Nat) (L M : List ML), udM U i (L ++ M) = udM U i L ++ udM U (i + L.length) M
  | i, [], M => rfl
  | i, m :: r, M => by
    rw [List.cons_append, udM, udM, udM_app U (i + 1) r M, List.length_cons, show i + 1 + r.length = i + (r.length + 1) by omega]
    split <;> rfl
/-- The places as numbers. -/
def udI (U : List Int) (L : List ML) : List Int := (udM U 1 L).map fun (x : Nat) => (x : Int)
theorem udI_yes {U : List Int} {L : List ML} {k : Nat} {x : ML} (hx : L[k]? = some x) (h : U.contains x.1 = true) : udI U (L.take (k + 1)) = udI U (L.take k) ++ [((k + 1 : Nat) : Int)] := by
  have hk := (List.getElem?_eq_some_iff.1 hx).1
  unfold udI
  rw [List.take_add_one, hx]
  show (udM U 1 (L.take k ++ [x])).map _ = _
  rw [udM_app, List.map_append, List.length_take, Nat.min_eq_left (by omega), udM, h, if_pos rfl, show 1 + k = k + 1 by omega]
  rfl
theorem udI_no {U : List Int} {L : List ML} {k : Nat} {x : ML} (hx : L[k]? = some x) (h : U.contains x.1 = false) : udI U (L.take (k + 1)) = udI U (L.take k) := by
  unfold udI
  rw [List.take_add_one, hx]
  show (udM U 1 (L.take k ++ [x])).map _ = _
  rw [udM_app, List.map_append, udM, h, if_neg (by simp)]
  exact List.append_nil _
theorem udM_le (U : List Int) : ∀ (i : Nat) (L : List ML), (udM U i L).length ≤ L.length
  | _, [] => Nat.le_refl _
  | i, m :: r => by
    rw [udM]
    have := udM_le U (i + 1) r
    split <;> simp <;> omega
theorem udI_le (U : List Int) (L : List ML) : (udI U L).length ≤ L.length := by unfold udI; rw [List.length_map]; exact udM_le U 1 L
/-- BoxUids as numbers. -/
def bxUI (n : Int) (L : List ML) (U : List Int) : List Int := if bOk n L then udI U L else []
theorem bxUI_yes {n : Int} {L : List ML} {U : List Int} (h : bOk n L = true) : bxUI n L U = udI U L := by unfold bxUI; rw [h]; rfl
theorem bxUI_no {n : Int} {L : List ML} {U : List Int} (h : bOk n L = false) : bxUI n L U = [] := by unfold bxUI; rw [h]; rfl

theorem dl_have {u f : Int} {t : List UInt8} (h : mOk (u, f, t) = true) : hvI f 8 = dlM (u, f, t) := by
  obtain ⟨_, h2, _⟩ := mOk_iff.1 h
  obtain ⟨a, ha, e⟩ := isF_nat h2
  simp only at e
  subst e
  rw [show (8 : Int) = ((8 : Nat) : Int) from rfl, hvI_yes ha (by omega)]
  exact have_bit (f := a) (k := 3) ha (by omega)
end Go.Proofs.YtnfigpknejmkmaaGreatDoor

namespace Go.Proofs.YtnfigpknejmkmaaGreatDoor
open Go.RowKit
set_option linter.unusedVariables false

/-- Where a number is in a list, or a negative number. -/
def SaysAt (w : World) (b : Bool) (e : Ending) (w' : World) : Prop := ∃ z : Int, e = .returned (.int .i64 z) ∧ decide (0 ≤ z) = b ∧ Below w.heap.size w w'
set_option maxRecDepth 20000 in
set_option maxHeartbeats 2000000 in
theorem lib_index {A : Option Addr} {N cap : Nat} {P : List Int} (x : Int) (w : World) (h : IIn w A N cap P) :
    Calls Tryz.prog 100 #[.slice A N cap, .int .i64 x] w (SaysAt w (hasI P x)) := by
  have H := Lib.hid h
  have hl := h.2.1
  clear h
  go_enter Tryz.func100, Tryz.ntmps100
  go_wp2
  go_loopw [8] (fun i wr => ∃ k : Nat, k ≤ N ∧ i = .int .i64 (k : Int) ∧ Hid (hasI (P.take k) x = false) ∧ Hid (Below w.heap.size w wr)) (fun i _ => N - (intOf i).toNat)
  case atStart => exact ⟨0, Nat.zero_le _, by go_num, by rw [List.take_zero]; rfl, Below.refl _ _⟩
  case round =>
    obtain ⟨k, hk, rfl, HT, HB⟩ := hrel
    by_cases hlt : k < N
    · have h0 : (0 : Int) ≤ (k : Int) := by omega
      have h5 : (k : Int) < (N : Int) := by omega
      obtain ⟨u, hx⟩ : ∃ x, P[k]? = some x := ⟨_, List.getElem?_eq_getElem (by rw [H.out.1]; exact hlt)⟩
      obtain ⟨b, o, hAe, hb, c0⟩ := int_at (H.out.2.2.1.below HB.out (Nat.le_refl _)) hx
      have HX := Lib.hid hx
      clear hx
      subst hAe
      by_cases e1 : x = u
      · subst e1
        have hee : (x == x) = true := by simp
        go_wp2
        go_ret
        exact ⟨k, rfl, by rw [has_yes HX.out]; exact decide_eq_true (by omega), HB.out⟩
      · have hne : (x == u) = false := beq_eq_false_iff_ne.2 e1
        have HE : Hid (u ≠ x) := fun e => e1 e.symm
        clear e1
        go_wp2
        go_roundw
        case rel => exact ⟨k + 1, by omega, by go_num, has_no HT.out HX.out HE.out, HB.out⟩
        case measure => simp [intOf]; omega
    · have h5 : ¬ (k : Int) < (N : Int) := by omega
      have HE : Hid (hasI P x = false) := by
        have h := HT.out
        rw [List.take_of_length_le (by rw [H.out.1]; omega)] at h
        exact h
      go_wp2
      go_ret
      exact ⟨-1, rfl, by rw [HE.out]; rfl, HB.out⟩
set_option maxRecDepth 20000 in
set_option maxHeartbeats 2000000 in
theorem lib_has {A : Option Addr} {N cap : Nat} {P : List Int} (x : Int) (w : World) (h : IIn w A N cap P) :
    Calls Tryz.prog 82 #[.slice A N cap, .int .i64 x] w (SaysB w (hasI P x)) := by
  have H := Lib.hid h
  clear h
  obtain ⟨b, hb⟩ : ∃ b, hasI P x = b := ⟨_, rfl⟩
  have HBB := Lib.hid hb
  rw [hb]
  clear hb
  go_enter Tryz.func82, Tryz.ntmps82
  go_wp2_with fail
  refine (lib_index x _ H.out).mono ?_
  rintro e w2 ⟨z, rfl, hz, hb⟩
  rw [HBB.out] at hz
  have HZ := Lib.hid hz
  have HB := Lib.hid hb
  clear hz hb
  go_wp2
  go_ret
  refine ⟨ret_bool ?_, HB.out⟩
  rw [← HZ.out]

/-- A list of messages in memory of its own. -/
def GivesM (w : World) (L : List ML) (e : Ending) (w' : World) : Prop := ∃ A N cap, e = .returned (.slice A N cap) ∧ ROwn mailR w' w.heap.size (.slice A N cap) L ∧ Below w.heap.size w w'
/-- Numbers of the call's own. -/
def GivesN (w : World) (G : List Int) (e : Ending) (w' : World) : Prop := ∃ A N cap, e = .returned (.slice A N cap) ∧ ROwn intR w' w.heap.size (.slice A N cap) G ∧ Below w.heap.size w w'
theorem kp_one (w : World) (t : TypeId) (cs : Array Value) {B : Nat} (hB : w.heap.size = B) : Kp (w.alloc (.cells cs t)) fun w' => Below B w w' ∧ Whole w' B t cs ∧ B + 1 ≤ w'.heap.size := fun w2 h2 => by
  subst hB
  exact ⟨(below_new w _).trans (h2.mono (by simp)), (Whole.made w t cs).below h2 (Whole.made w t cs).lt, by have := h2.size; simp at this; omega⟩
end Go.Proofs.YtnfigpknejmkmaaGreatDoor

namespace Go.Proofs.YtnfigpknejmkmaaGreatDoor
open Go.RowKit
set_option linter.unusedVariables false

theorem plc_end (len : Nat) (l : Int) : plc len l [] = true := rfl

end Go.Proofs.YtnfigpknejmkmaaGreatDoor
