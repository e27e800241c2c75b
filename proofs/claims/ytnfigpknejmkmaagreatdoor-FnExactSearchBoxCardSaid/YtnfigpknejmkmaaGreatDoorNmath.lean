/-
  Sets of numbers as lists of pairs: when they are valid, and which numbers they have. Plain definitions and lemmas; no condition.
-/
import Derived.Test.YtnfigpknejmkmaaGreatDoorSpec
namespace Go.Proofs.YtnfigpknejmkmaaGreatDoor
set_option linter.unusedVariables false

/-- A span. -/
def spanB (x : Int × Int) : Bool := inB x.1 0 99 && inB x.2 0 99
/-- A set. -/
def setB (L : List (Int × Int)) : Bool := L.all spanB && inB (L.length : Int) 1 6
theorem inB_yes {n a b : Int} (h1 : a ≤ n) (h2 : n ≤ b) : inB n a b = true := decide_eq_true ⟨h1, h2⟩
theorem inB_no {n a b : Int} (h : n < a ∨ b < n) : inB n a b = false := decide_eq_false (by omega)
theorem inB_iff {n a b : Int} : inB n a b = true ↔ a ≤ n ∧ n ≤ b := by unfold inB; exact decide_eq_true_iff
theorem spanB_iff {x : Int × Int} : spanB x = true ↔ (0 ≤ x.1 ∧ x.1 ≤ 99) ∧ 0 ≤ x.2 ∧ x.2 ≤ 99 := by
  unfold spanB; rw [Bool.and_eq_true, inB_iff, inB_iff]
theorem setB_iff {L : List (Int × Int)} : setB L = true ↔ (∀ x ∈ L, spanB x = true) ∧ 1 ≤ L.length ∧ L.length ≤ 6 := by
  unfold setB
  rw [Bool.and_eq_true, List.all_eq_true, inB_iff]
  constructor
  · rintro ⟨h1, h2, h3⟩; exact ⟨h1, by omega, by omega⟩
  · rintro ⟨h1, h2, h3⟩; exact ⟨h1, by omega, by omega⟩
theorem setB_bool {L M : List (Int × Int)} (h : setB L = true ↔ setB M = true) : setB L = setB M := by
  cases hL : setB L <;> cases hM : setB M <;> simp_all
theorem setB_take {L : List (Int × Int)} (h : setB L = true) (k : Nat) (h1 : 1 ≤ k) (h2 : k ≤ L.length) : setB (L.take k) = true := by
  obtain ⟨a, b, c⟩ := setB_iff.1 h
  exact setB_iff.2 ⟨fun x hx => a x (List.mem_of_mem_take hx), by rw [List.length_take]; omega, by rw [List.length_take]; omega⟩
theorem setB_bad {L : List (Int × Int)} {x : Int × Int} (hx : x ∈ L) (h : spanB x = false) : setB L = false := by
  rw [← Bool.not_eq_true]
  intro hs
  have := (setB_iff.1 hs).1 x hx
  rw [h] at this
  cases this
theorem setB_snoc {L : List (Int × Int)} {x : Int × Int} (h : setB L = true) (hx : spanB x = true) : setB (L ++ [x]) = decide (L.length + 1 ≤ 6) := by
  obtain ⟨a, b, c⟩ := setB_iff.1 h
  by_cases h6 : L.length + 1 ≤ 6
  · rw [decide_eq_true h6]
    refine setB_iff.2 ⟨fun y hy => ?_, by simp, by simpa using h6⟩
    rcases List.mem_append.1 hy with hy | hy
    · exact a y hy
    · rw [List.mem_singleton] at hy; rw [hy]; exact hx
  · rw [decide_eq_false h6, ← Bool.not_eq_true]
    intro hs
    have := (setB_iff.1 hs).2.2
    simp at this
    omega
theorem setB_long {L : List (Int × Int)} (h : 6 < L.length) : setB L = false := by
  rw [← Bool.not_eq_true]
  intro hs
  have := (setB_iff.1 hs).2.2
  omega

/-- A number of a span, and where the span begins and ends, if the last number is 'last'. -/
def lowE (last : Int) (x : Int × Int) : Int := min (if x.1 = 0 then last else x.1) (if x.2 = 0 then last else x.2)
def highE (last : Int) (x : Int × Int) : Int := max (if x.1 = 0 then last else x.1) (if x.2 = 0 then last else x.2)
def hasE (last n : Int) (x : Int × Int) : Bool := inB n (lowE last x) (highE last x)
def hasB (L : List (Int × Int)) (last n : Int) : Bool := L.any (hasE last n)
/-- The numbers from 1 to 'k' at which 'f' holds. -/
def cnt (f : Nat → Bool) : Nat → List Nat
  | 0 => []
  | k + 1 => cnt f k ++ (if f (k + 1) then [k + 1] else [])
theorem cnt_yes {f : Nat → Bool} {k : Nat} (h : f (k + 1) = true) : cnt f (k + 1) = cnt f k ++ [k + 1] := by
  conv => lhs; unfold cnt
  rw [if_pos h]
theorem cnt_no {f : Nat → Bool} {k : Nat} (h : f (k + 1) = false) : cnt f (k + 1) = cnt f k := by
  conv => lhs; unfold cnt
  rw [if_neg (by rw [h]; decide), List.append_nil]
theorem cnt_mem {f : Nat → Bool} {n : Nat} : ∀ {k : Nat}, n ∈ cnt f k ↔ 1 ≤ n ∧ n ≤ k ∧ f n = true
  | 0 => by simp [cnt]; omega
  | k + 1 => by
    by_cases h : f (k + 1) = true
    · rw [cnt_yes h, List.mem_append, cnt_mem (k := k), List.mem_singleton]
      constructor
      · rintro (⟨a, b, c⟩ | rfl)
        · exact ⟨a, by omega, c⟩
        · exact ⟨by omega, by omega, h⟩
      · rintro ⟨a, b, c⟩
        by_cases e : n = k + 1
        · exact .inr e
        · exact .inl ⟨a, by omega, c⟩
    · rw [cnt_no (Bool.eq_false_iff.2 h), cnt_mem (k := k)]
      constructor
      · rintro ⟨a, b, c⟩; exact ⟨a, by omega, c⟩
      · rintro ⟨a, b, c⟩
        have : n ≠ k + 1 := fun e => h (e ▸ c)
        exact ⟨a, by omega, c⟩
theorem cnt_len (f : Nat → Bool) : ∀ k : Nat, (cnt f k).length ≤ k
  | 0 => by simp [cnt]
  | k + 1 => by
    have := cnt_len f k
    by_cases h : f (k + 1) = true
    · rw [cnt_yes h, List.length_append, List.length_singleton]; omega
    · rw [cnt_no (Bool.eq_false_iff.2 h)]; omega
theorem cnt_sorted (f : Nat → Bool) : ∀ k : Nat, (cnt f k).Pairwise (· < ·)
  | 0 => List.Pairwise.nil
  | k + 1 => by
    have ih := cnt_sorted f k
    by_cases h : f (k + 1) = true
    · rw [cnt_yes h, List.pairwise_append]
      refine ⟨ih, by simp, fun a ha b hb => ?_⟩
      rw [List.mem_singleton] at hb
      have := (cnt_mem.1 ha).2.1
      omega
    · rw [cnt_no (Bool.eq_false_iff.2 h)]; exact ih
theorem cnt_congr {f g : Nat → Bool} : ∀ {k : Nat}, (∀ n, 1 ≤ n → n ≤ k → f n = g n) → cnt f k = cnt g k
  | 0, _ => rfl
  | k + 1, h => by
    have ih := cnt_congr (f := f) (g := g) (k := k) (fun n h1 h2 => h n h1 (by omega))
    unfold cnt
    rw [ih, h (k + 1) (by omega) (Nat.le_refl _)]
theorem cnt_stop {f : Nat → Bool} {k : Nat} : ∀ {m : Nat}, (∀ n, k < n → n ≤ k + m → f n = false) → cnt f (k + m) = cnt f k
  | 0, _ => rfl
  | m + 1, h => by
    have ih := cnt_stop (f := f) (k := k) (m := m) (fun n h1 h2 => h n h1 (by omega))
    rw [← Nat.add_assoc, cnt_no (h (k + m + 1) (by omega) (by omega)), ih]
theorem cnt_self {g : Nat → Bool} {K m : Nat} (h : K ≤ m) : cnt (fun n => decide (n ∈ cnt g K)) m = cnt g K := by
  obtain ⟨d, rfl⟩ : ∃ d, m = K + d := ⟨m - K, by omega⟩
  rw [cnt_stop (fun n h1 h2 => decide_eq_false (fun hm => by have := (cnt_mem.1 hm).2.1; omega))]
  refine cnt_congr fun n h1 h2 => ?_
  cases hg : g n with
  | true => exact decide_eq_true (cnt_mem.2 ⟨h1, h2, hg⟩)
  | false => exact decide_eq_false (fun hm => by have := (cnt_mem.1 hm).2.2; rw [hg] at this; cases this)
/-- The last number that counts. -/
def lst (last : Int) : Int := min last 99
/-- The numbers of a set. -/
def numsB (L : List (Int × Int)) (last : Int) : List Nat := if (setB L && decide (1 ≤ last)) = true then cnt (fun n => hasB L (lst last) n) (lst last).toNat else []
theorem lst_le (last : Int) : lst last ≤ 99 := by unfold lst; omega
theorem lst_nat (last : Int) : (lst last).toNat ≤ 99 := by have := lst_le last; omega
theorem lst_pos {last : Int} (h : 1 ≤ last) : 1 ≤ lst last ∧ ((lst last).toNat : Int) = lst last ∧ lst last ≤ last := by unfold lst; omega
theorem numsB_yes {L : List (Int × Int)} {last : Int} (h : setB L = true) (h1 : 1 ≤ last) : numsB L last = cnt (fun n => hasB L (lst last) n) (lst last).toNat := by
  unfold numsB; rw [h, decide_eq_true h1]; rfl
theorem numsB_bad {L : List (Int × Int)} (last : Int) (h : setB L = false) : numsB L last = [] := by unfold numsB; rw [h]; rfl
theorem numsB_low (L : List (Int × Int)) {last : Int} (h : last < 1) : numsB L last = [] := by
  unfold numsB; rw [decide_eq_false (by omega), Bool.and_false]; rfl
theorem numsB_mem {L : List (Int × Int)} {last : Int} {n : Nat} (h : n ∈ numsB L last) : 1 ≤ n ∧ (n : Int) ≤ last ∧ n ≤ 99 := by
  unfold numsB at h
  split at h
  · rename_i hc
    rw [Bool.and_eq_true, decide_eq_true_eq] at hc
    obtain ⟨h1, h2, h3⟩ := lst_pos hc.2
    obtain ⟨a, b, c⟩ := cnt_mem.1 h
    have := lst_le last
    exact ⟨a, by omega, by omega⟩
  · cases h
theorem numsB_sorted (L : List (Int × Int)) (last : Int) : (numsB L last).Pairwise (· < ·) := by
  unfold numsB
  split
  · exact cnt_sorted _ _
  · exact List.Pairwise.nil
theorem numsB_len (L : List (Int × Int)) (last : Int) : (numsB L last).length ≤ 99 := by
  unfold numsB
  split
  · exact Nat.le_trans (cnt_len _ _) (lst_nat last)
  · simp
theorem numsB_congr {L M : List (Int × Int)} {last : Int} (hs : setB L = setB M) (hb : ∀ n, hasB L (lst last) n = hasB M (lst last) n) : numsB L last = numsB M last := by
  unfold numsB
  rw [hs]
  split
  · exact cnt_congr fun n _ _ => hb n
  · rfl
/-- A span written backwards. -/
def swp (x : Int × Int) : Int × Int := (x.2, x.1)
theorem spanB_swp (x : Int × Int) : spanB (swp x) = spanB x := by unfold spanB swp; exact Bool.and_comm _ _
theorem hasE_swp (last n : Int) (x : Int × Int) : hasE last n (swp x) = hasE last n x := by
  unfold hasE lowE highE swp
  rw [Int.min_comm, Int.max_comm]
theorem setB_swap (L : List (Int × Int)) : setB (L.map swp) = setB L := by
  unfold setB
  rw [List.all_map, List.length_map]
  congr 2
  funext x
  exact spanB_swp x
theorem hasB_swap (L : List (Int × Int)) (last n : Int) : hasB (L.map swp) last n = hasB L last n := by
  unfold hasB
  rw [List.any_map]
  congr 1
  funext x
  exact hasE_swp last n x
theorem numsB_swap (L : List (Int × Int)) (last : Int) : numsB (L.map swp) last = numsB L last := numsB_congr (setB_swap L) fun n => hasB_swap L _ n
theorem numsB_rev (L : List (Int × Int)) (last : Int) : numsB L.reverse last = numsB L last :=
  numsB_congr (by unfold setB; rw [List.all_reverse, List.length_reverse]) fun n => by unfold hasB; rw [List.any_reverse]
theorem hasB_mem {L : List (Int × Int)} {x : Int × Int} (hx : x ∈ L) (last n : Int) : hasB (L ++ [x]) last n = hasB L last n := by
  unfold hasB
  rw [List.any_append]
  cases h : L.any (hasE last n) with
  | true => rfl
  | false =>
    rw [List.any_eq_false] at h
    have := h x hx
    simp [Bool.eq_false_iff.2 this]
theorem numsB_twice {L : List (Int × Int)} {x : Int × Int} (last : Int) (h : setB L = true) (h6 : L.length < 6) (hx : x ∈ L) : numsB (L ++ [x]) last = numsB L last := by
  refine numsB_congr ?_ fun n => hasB_mem hx _ n
  rw [setB_snoc h ((setB_iff.1 h).1 x hx), h]
  exact decide_eq_true (by omega)
theorem cnt_at (m : Nat) (h : 1 ≤ m) : cnt (fun n => decide (n = m)) m = [m] := by
  obtain ⟨k, rfl⟩ : ∃ k, m = k + 1 := ⟨m - 1, by omega⟩
  rw [cnt_yes (by simp)]
  have e := cnt_stop (f := fun n => decide (n = k + 1)) (k := 0) (m := k) (fun n h1 h2 => decide_eq_false (by omega))
  rw [Nat.zero_add] at e
  rw [e]
  rfl
theorem numsB_star {last : Int} (h : 1 ≤ last) : numsB [(0, 0)] last = [(lst last).toNat] := by
  obtain ⟨h1, h2, h3⟩ := lst_pos h
  rw [numsB_yes (by decide) h, ← cnt_at (lst last).toNat (by omega)]
  refine cnt_congr fun n a b => ?_
  unfold hasB hasE lowE highE inB
  simp only [List.any_cons, List.any_nil, Bool.or_false, if_pos]
  rw [Bool.eq_iff_iff, decide_eq_true_iff, decide_eq_true_iff]
  omega
/-- The numbers from 1 to 'k'. -/
def ups (k : Nat) : List Nat := cnt (fun _ => true) k
theorem ups_succ (k : Nat) : ups (k + 1) = ups k ++ [k + 1] := cnt_yes rfl
theorem ups_len : ∀ k : Nat, (ups k).length = k
  | 0 => rfl
  | k + 1 => by rw [ups_succ, List.length_append, ups_len k]; rfl
theorem numsB_all {last : Int} (h : 1 ≤ last) : numsB [(1, 0)] last = ups (lst last).toNat := by
  obtain ⟨h1, h2, h3⟩ := lst_pos h
  rw [numsB_yes (by decide) h]
  refine cnt_congr fun n a b => ?_
  unfold hasB hasE lowE highE inB
  simp only [List.any_cons, List.any_nil, Bool.or_false, if_pos, if_neg (show ¬ (1 : Int) = 0 by decide)]
  exact decide_eq_true (by omega)
/-- The numbers of a set are those of its spans. -/
theorem numsB_union {L : List (Int × Int)} {last : Int} (h : setB L = true) (n : Nat) : (L.any fun x => decide (n ∈ numsB [x] last)) = decide (n ∈ numsB L last) := by
  by_cases h1 : 1 ≤ last
  · rw [Bool.eq_iff_iff, List.any_eq_true, decide_eq_true_iff, numsB_yes h h1, cnt_mem]
    constructor
    · rintro ⟨x, hx, hn⟩
      rw [decide_eq_true_iff] at hn
      have hs : setB [x] = true := setB_iff.2 ⟨fun y hy => by rw [List.mem_singleton] at hy; rw [hy]; exact (setB_iff.1 h).1 x hx, by simp, by simp⟩
      rw [numsB_yes hs h1, cnt_mem] at hn
      refine ⟨hn.1, hn.2.1, List.any_eq_true.2 ⟨x, hx, ?_⟩⟩
      have := hn.2.2
      unfold hasB at this
      simpa using this
    · rintro ⟨a, b, c⟩
      obtain ⟨x, hx, hn⟩ := List.any_eq_true.1 c
      have hs : setB [x] = true := setB_iff.2 ⟨fun y hy => by rw [List.mem_singleton] at hy; rw [hy]; exact (setB_iff.1 h).1 x hx, by simp, by simp⟩
      refine ⟨x, hx, decide_eq_true ?_⟩
      rw [numsB_yes hs h1, cnt_mem]
      exact ⟨a, b, by unfold hasB; simpa using hn⟩
  · have e : ∀ M, numsB M last = [] := fun M => numsB_low M (by omega)
    simp [e]
theorem numsB_count (L : List (Int × Int)) (last : Int) : (cnt (fun n => decide (n ∈ numsB L last)) 99).length = (numsB L last).length := by
  unfold numsB
  split
  · rw [cnt_self (lst_nat last)]
  · have e := cnt_stop (f := fun n => decide (n ∈ ([] : List Nat))) (k := 0) (m := 99) (fun n _ _ => by simp)
    rw [Nat.zero_add] at e
    rw [e]; rfl
end Go.Proofs.YtnfigpknejmkmaaGreatDoor
