/-
  The plain mathematics of rights: their letters, and what a text of letters is. Plain definitions and lemmas; no condition.
-/
import Derived.Test.YtnnmnphmbjfopaaEq
import Derived.Lib.Strings
namespace Go.Proofs.Ytnnmnphmbjfopaa
set_option linter.unusedVariables false

/-- The letters of rights. -/
def rl : Nat → UInt8
  | 0 => 108
  | 1 => 114
  | 2 => 119
  | 3 => 105
  | 4 => 101
  | _ => 97
/-- The right 'k' is among 'f'. -/
def tr (f k : Nat) : Bool := f / 2 ^ k % 2 == 1
/-- Rights. -/
def isR (n : Int) : Bool := decide (0 ≤ n) && decide (n ≤ 63)
theorem isR_nat {n : Int} (h : isR n = true) : ∃ f : Nat, f < 64 ∧ n = (f : Int) := by
  unfold isR at h
  simp at h
  exact ⟨n.toNat, by omega, by omega⟩
theorem isR_of {f : Nat} (h : f < 64) : isR (f : Int) = true := by
  unfold isR
  simp
  omega
theorem isR_no {n : Int} (h : isR n = false) : n < 0 ∨ 63 < n := by
  unfold isR at h
  simp at h
  omega
/-- The letters of rights, up to the right 'k'. -/
def rtK (f : Nat) : Nat → List UInt8
  | 0 => []
  | k + 1 => if tr f k then rtK f k ++ [rl k] else rtK f k
def rtN (f : Nat) : List UInt8 := rtK f 6
def rtI (n : Int) : List UInt8 := if isR n then rtN n.toNat else []
theorem rtI_yes {f : Nat} (h : f < 64) : rtI (f : Int) = rtN f := by
  unfold rtI
  rw [isR_of h]
  rfl
theorem rtI_no {n : Int} (h : isR n = false) : rtI n = [] := by
  unfold rtI
  rw [h]
  rfl
theorem rtK_len (f : Nat) : ∀ k, (rtK f k).length ≤ k := by
  intro k
  induction k with
  | zero => simp [rtK]
  | succ k ih =>
    rw [rtK]
    split
    · simp; omega
    · omega
theorem rt_yes {f k : Nat} (h : tr f k = true) : rtK f k ++ [rl k] = rtK f (k + 1) := by rw [rtK, if_pos h]
theorem rt_no {f k : Nat} (h : tr f k = false) : rtK f k = rtK f (k + 1) := by rw [rtK, if_neg (by rw [h]; simp)]

/-- The right of a letter, 0 for another byte. -/
def rbit (c : UInt8) : Nat := if c = 108 then 1 else if c = 114 then 2 else if c = 119 then 4 else if c = 105 then 8 else if c = 101 then 16 else if c = 97 then 32 else 0
/-- The rights of letters, each once, on top of 'f'. -/
def rpF : List UInt8 → Nat → Option Nat
  | [], f => some f
  | c :: L, f => if rbit c = 0 ∨ f / rbit c % 2 = 1 then none else rpF L (f + rbit c)
theorem rbit_cases (c : UInt8) : rbit c = 0 ∧ (∀ k, c ≠ rl k) ∨ ∃ k, k < 6 ∧ c = rl k ∧ rbit c = 2 ^ k := by
  by_cases h0 : c = 108
  · exact .inr ⟨0, by omega, h0, by rw [h0]; rfl⟩
  by_cases h1 : c = 114
  · exact .inr ⟨1, by omega, h1, by rw [h1]; rfl⟩
  by_cases h2 : c = 119
  · exact .inr ⟨2, by omega, h2, by rw [h2]; rfl⟩
  by_cases h3 : c = 105
  · exact .inr ⟨3, by omega, h3, by rw [h3]; rfl⟩
  by_cases h4 : c = 101
  · exact .inr ⟨4, by omega, h4, by rw [h4]; rfl⟩
  by_cases h5 : c = 97
  · exact .inr ⟨5, by omega, h5, by rw [h5]; rfl⟩
  · refine .inl ⟨by unfold rbit; rw [if_neg h0, if_neg h1, if_neg h2, if_neg h3, if_neg h4, if_neg h5], fun k => ?_⟩
    match k with
    | 0 => exact h0
    | 1 => exact h1
    | 2 => exact h2
    | 3 => exact h3
    | 4 => exact h4
    | _ + 5 => exact h5
theorem rbit_rl {k : Nat} (h : k < 6) : rbit (rl k) = 2 ^ k := by
  have : ∀ k : Fin 6, rbit (rl k.1) = 2 ^ k.1 := by decide
  exact this ⟨k, h⟩
theorem tr_bit (f k : Nat) : (f / 2 ^ k % 2 = 1) ↔ tr f k = true := by unfold tr; simp
theorem tr_add {f k : Nat} (hf : f < 64) (hk : k < 6) (h : tr f k = false) : f + 2 ^ k < 64 ∧ (∀ j, j < 6 → tr (f + 2 ^ k) j = (tr f j || j == k)) := by
  have key : ∀ (f : Fin 64) (k : Fin 6), tr f.1 k.1 = false → f.1 + 2 ^ k.1 < 64 ∧ ∀ j : Fin 6, tr (f.1 + 2 ^ k.1) j.1 = (tr f.1 j.1 || j.1 == k.1) := by decide +kernel
  have := key ⟨f, hf⟩ ⟨k, hk⟩ h
  exact ⟨this.1, fun j hj => this.2 ⟨j, hj⟩⟩
theorem rpF_cons {k : Nat} (hk : k < 6) (L : List UInt8) (f : Nat) : rpF (rl k :: L) f = if tr f k then none else rpF L (f + 2 ^ k) := by
  rw [rpF, rbit_rl hk]
  have : 2 ^ k ≠ 0 := by have := Nat.two_pow_pos k; omega
  by_cases h : tr f k = true
  · rw [if_pos h, if_pos (.inr ((tr_bit f k).2 h))]
  · rw [if_neg h, if_neg]
    rintro (h1 | h1)
    · exact this h1
    · exact h ((tr_bit f k).1 h1)
theorem rpF_bad {c : UInt8} (h : ∀ k, c ≠ rl k) (L : List UInt8) (f : Nat) : rpF (c :: L) f = none := by
  rcases rbit_cases c with ⟨h1, _⟩ | ⟨k, _, h2, _⟩
  · rw [rpF, if_pos (.inl h1)]
  · exact absurd h2 (h k)
theorem rpF_back {f : Nat} (h : f < 64) : rpF (rtN f) 0 = some f := by
  have key : ∀ f : Fin 64, rpF (rtN f.1) 0 = some f.1 := by decide +kernel
  exact key ⟨f, h⟩
/-- What is read grows, and has a letter for each right. -/
theorem rpF_lt : ∀ (L : List UInt8) (f g : Nat), f < 64 → rpF L f = some g → g < 64 ∧ (∀ j, j < 6 → tr f j = true → tr g j = true) ∧ (∀ c ∈ L, ∃ k, k < 6 ∧ c = rl k ∧ tr g k = true) ∧ (rtN g).length = (rtN f).length + L.length := by
  intro L
  induction L with
  | nil =>
    intro f g hf h
    rw [rpF] at h
    cases h
    exact ⟨hf, fun _ _ h => h, fun w hw => (by cases hw), by simp⟩
  | cons c L ih =>
    intro f g hf h
    rcases rbit_cases c with ⟨h1, _⟩ | ⟨k, hk, rfl, _⟩
    · rw [rpF, if_pos (.inl h1)] at h
      cases h
    · rw [rpF_cons hk] at h
      cases ht : tr f k with
      | true => rw [ht, if_pos rfl] at h; cases h
      | false =>
        rw [ht, if_neg (by simp)] at h
        obtain ⟨a1, a2⟩ := tr_add hf hk ht
        obtain ⟨b1, b2, b3, b4⟩ := ih _ _ a1 h
        have key : ∀ (f : Fin 64) (k : Fin 6), tr f.1 k.1 = false → (rtN (f.1 + 2 ^ k.1)).length = (rtN f.1).length + 1 := by decide +kernel
        have key := key ⟨f, hf⟩ ⟨k, hk⟩ ht
        refine ⟨b1, fun j hj hj' => b2 j hj (by rw [a2 j hj, hj']; rfl), fun w hw => ?_, ?_⟩
        · rcases List.mem_cons.1 hw with rfl | hw
          · exact ⟨k, hk, rfl, b2 k hk (by rw [a2 k hk]; simp)⟩
          · exact b3 w hw
        · rw [b4, List.length_cons]
          have : (rtN (f + 2 ^ k)).length = (rtN f).length + 1 := key
          omega
theorem rpF_append : ∀ (us vs : List UInt8) (f : Nat), rpF (us ++ vs) f = (rpF us f).bind (rpF vs) := by
  intro us
  induction us with
  | nil => intro vs f; rfl
  | cons w us ih =>
    intro vs f
    rw [List.cons_append, rpF, rpF]
    split
    · rfl
    · exact ih vs _
theorem rpF_pair {i j : Nat} (hi : i < 6) (hj : j < 6) {f : Nat} (hf : f < 64) (L : List UInt8) : rpF (rl i :: rl j :: L) f = if tr f i then none else if (tr f j || j == i) then none else rpF L (f + 2 ^ i + 2 ^ j) := by
  rw [rpF_cons hi]
  cases h1 : tr f i with
  | true => rfl
  | false => rw [if_neg (by simp), if_neg (by simp), rpF_cons hj, (tr_add hf hi h1).2 j hj]
theorem rpF_swap {i j : Nat} (hi : i < 6) (hj : j < 6) {f : Nat} (hf : f < 64) (L : List UInt8) : rpF (rl i :: rl j :: L) f = rpF (rl j :: rl i :: L) f := by
  by_cases hij : i = j
  · subst hij; rfl
  · have e1 : (j == i) = false := beq_eq_false_iff_ne.2 (Ne.symm hij)
    have e2 : (i == j) = false := beq_eq_false_iff_ne.2 hij
    rw [rpF_pair hi hj hf, rpF_pair hj hi hf, e1, e2, show f + 2 ^ i + 2 ^ j = f + 2 ^ j + 2 ^ i by omega]
    cases tr f i <;> cases tr f j <;> rfl
theorem rpF_two (a b : UInt8) {f : Nat} (hf : f < 64) (L : List UInt8) : rpF (a :: b :: L) f = rpF (b :: a :: L) f := by
  rcases rbit_cases a with ⟨_, h1⟩ | ⟨i, hi, rfl, _⟩
  · rw [rpF_bad h1]
    rcases rbit_cases b with ⟨_, h2⟩ | ⟨j, hj, rfl, _⟩
    · rw [rpF_bad h2]
    · rw [rpF_cons hj, rpF_bad h1]
      split <;> rfl
  · rcases rbit_cases b with ⟨_, h2⟩ | ⟨j, hj, rfl, _⟩
    · rw [rpF_bad h2, rpF_cons hi, rpF_bad h2]
      split <;> rfl
    · exact rpF_swap hi hj hf L
theorem rpF_perm {L M : List UInt8} (h : L.Perm M) : ∀ f, f < 64 → rpF L f = rpF M f := by
  induction h with
  | nil => intro f hf; rfl
  | cons a h ih =>
    intro f hf
    rcases rbit_cases a with ⟨_, h1⟩ | ⟨i, hi, rfl, _⟩
    · rw [rpF_bad h1, rpF_bad h1]
    · rw [rpF_cons hi, rpF_cons hi]
      cases ht : tr f i with
      | true => rfl
      | false =>
        simp only [Bool.false_eq_true, if_false]
        exact ih _ (tr_add hf hi ht).1
  | swap a b L => intro f hf; exact rpF_two b a hf L
  | trans h1 h2 ih1 ih2 => intro f hf; rw [ih1 f hf, ih2 f hf]
theorem rpF_reverse (L : List UInt8) : rpF L.reverse 0 = rpF L 0 := rpF_perm (List.reverse_perm L) 0 (by omega)
theorem rpF_twice {L : List UInt8} {g : Nat} (h : rpF L 0 = some g) (hL : L ≠ []) : rpF (L ++ L) 0 = none := by
  rw [rpF_append, h]
  show rpF L g = none
  match L, hL with
  | c :: L, _ =>
    obtain ⟨_, _, h3, _⟩ := rpF_lt _ _ _ (by omega) h
    obtain ⟨k, hk, rfl, ht⟩ := h3 c (List.mem_cons_self ..)
    rw [rpF_cons hk, ht]
    rfl
theorem rpF_z {L : List UInt8} : rpF (L ++ [122]) 0 = none := by
  rw [rpF_append]
  cases rpF L 0 with
  | none => rfl
  | some g => rfl
theorem rpF_len {L : List UInt8} {g : Nat} (h : rpF L 0 = some g) : g < 64 ∧ (rtN g).length = L.length ∧ L.length ≤ 6 := by
  obtain ⟨h1, _, _, h4⟩ := rpF_lt _ _ _ (by omega) h
  have e : (rtN 0).length = 0 := by decide
  have := rtK_len g 6
  refine ⟨h1, by omega, ?_⟩
  have : (rtN g).length ≤ 6 := this
  omega
/-- How many of the first rights are there. -/
def cntR (f : Nat) : Nat → Nat
  | 0 => 0
  | k + 1 => cntR f k + f / 2 ^ k % 2
theorem cnt_end {f i : Nat} (hf : f < 64) (hi : i ≤ 6) (h : f / 2 ^ i = 0) : cntR f i = (rtN f).length := by
  have key : ∀ (f : Fin 64) (i : Fin 7), f.1 / 2 ^ i.1 = 0 → cntR f.1 i.1 = (rtN f.1).length := by decide +kernel
  exact key ⟨f, hf⟩ ⟨i, by omega⟩ h
theorem cnt_six {f i : Nat} (hf : f < 64) (h : ¬ f / 2 ^ i = 0) : i < 6 := by
  by_cases hi : i < 6
  · exact hi
  · exfalso
    apply h
    have h1 : 2 ^ 6 ≤ 2 ^ i := Nat.pow_le_pow_right (by omega) (by omega)
    exact Nat.div_eq_of_lt (by omega)
theorem cnt_step (f i : Nat) : f / 2 ^ (i + 1) = f / 2 ^ i / 2 := by rw [Nat.pow_succ, Nat.div_div_eq_div_mul]
end Go.Proofs.Ytnnmnphmbjfopaa
