/-
  The contracts of the model's l6In, l4Flags, l4Bit, l4Change, FlagsChange and FlagsHave. Conditions: an index in its range, flags for l4Change.
-/
import Derived.Test.YtllhcogmcfgnoaaFimp
namespace Go.Proofs.Ytllhcogmcfgnoaa
open Go.RowKit
set_option linter.unusedVariables false

set_option maxHeartbeats 400000 in
theorem spec_in (n a b : Int) (w : World) : Calls Try.prog 19 #[.int .i64 n, .int .i64 a, .int .i64 b] w fun e w' => e = .returned (.bool (decide (a ≤ n) && decide (n ≤ b))) ∧ w' = w := by
  by_cases h1 : a ≤ n <;> by_cases h2 : n ≤ b
  all_goals
    have h1' := h1
    go_enter Try.func19, Try.ntmps19
    go_wp2
    go_ret
    refine ⟨ret_bool ?_, rfl⟩
    first
      | exact (Bool.and_eq_true_iff.2 ⟨decide_eq_true (by omega), decide_eq_true (by omega)⟩).symm
      | exact (decide_eq_false (by omega)).symm
      | exact (decide_eq_true (by omega)).symm
      | (rw [decide_eq_false (p := a ≤ n) (by omega)]; done)
      | (rw [decide_eq_false (p := a ≤ n) (by omega)]; rfl)
      | (rw [decide_eq_false (p := n ≤ b) (by omega)]; simp)
set_option maxHeartbeats 400000 in
theorem spec_isflags (n : Int) (w : World) : Calls Try.prog 20 #[.int .i64 n] w fun e w' => e = .returned (.bool (isF n)) ∧ w' = w := by
  go_enter Try.func20, Try.ntmps20
  go_wp2_with fail
  refine (spec_in n 0 31 _).mono ?_
  rintro e w1 ⟨rfl, rfl⟩
  go_wp2
  go_ret
  exact ⟨rfl, rfl⟩
theorem bit_at {k q : Nat} (hk : k < 5) (hq : 2 ^ k = q) : (#[Value.int .i64 1, .int .i64 2, .int .i64 4, .int .i64 8, .int .i64 16] : Array Value)[k]? = some (.int .i64 (q : Int)) := by
  subst hq
  match k, hk with
  | 0, _ => rfl
  | 1, _ => rfl
  | 2, _ => rfl
  | 3, _ => rfl
  | 4, _ => rfl
set_option maxHeartbeats 400000 in
theorem spec_bit (k q : Nat) (w : World) (hk : k < 5) (hq : 2 ^ k = q) : Calls Try.prog 33 #[.int .i64 (k : Int)] w (SaysI w (q : Int)) := by
  have hb := bit_at hk hq
  have hc : (w.alloc (.cells #[.int .i64 1, .int .i64 2, .int .i64 4, .int .i64 8, .int .i64 16] 3)).cell? ⟨w.heap.size, k, none⟩ = some (.int .i64 (q : Int)) := (Whole.made w 3 #[.int .i64 1, .int .i64 2, .int .i64 4, .int .i64 8, .int .i64 16]).cell k |>.trans hb
  have HB := Lib.hid ((Below.refl w.heap.size w).alloc (Nat.le_refl _) (.cells #[.int .i64 1, .int .i64 2, .int .i64 4, .int .i64 8, .int .i64 16] 3))
  have h0 : (0 : Int) ≤ (k : Int) := by omega
  have h5 : (k : Int) < 5 := by omega
  clear hb hq
  go_enter Try.func33, Try.ntmps33
  go_wp2_with fail
  go_ret
  exact ⟨rfl, HB.out⟩
theorem chK_lt (f o k : Nat) (h : Int) : chK f h o k < 2 ^ k := by
  induction k with
  | zero => simp [chK]
  | succ k ih =>
    rw [chK, Nat.pow_succ]
    split <;> omega
theorem chK_yes {f o k q : Nat} {h : Int} (hq : 2 ^ k = q) (hb : onB f h o k = true) : chK f h o k + q = chK f h o (k + 1) := by rw [chK, if_pos hb, hq]
theorem chK_no {f o k : Nat} {h : Int} (hb : onB f h o k = false) : chK f h o k = chK f h o (k + 1) := by rw [chK, if_neg (by rw [hb]; simp)]
theorem pow_five {k q : Nat} (hk : k < 5) (hq : 2 ^ k = q) : 1 ≤ q ∧ q ≤ 16 := by
  subst hq
  match k, hk with
  | 0, _ | 1, _ | 2, _ | 3, _ | 4, _ => exact ⟨by decide, by decide⟩
/-- A flag as a number. -/
def b01 (b : Bool) : Nat := if b then 1 else 0
theorem tb_num (f k q : Nat) (hq : 2 ^ k = q) : f / q % 2 = b01 (tb f k) := by
  subst hq
  unfold tb b01
  cases h : (f / 2 ^ k % 2 == 1)
  · have := beq_eq_false_iff_ne.1 h
    rw [if_neg (by simp)]
    omega
  · have := beq_iff_eq.1 h
    rw [if_pos rfl]
    exact this
theorem half_nat {d t : Nat} (h : d % 2 = t) : (d : Int) % 2 = (t : Int) := by omega
theorem half_yes {f k q d : Nat} (hq : 2 ^ k = q) (hd : f / q = d) (hb : tb f k = true) : (d : Int) % 2 = 1 := by
  have := tb_num f k q hq
  rw [hd, hb] at this
  have h1 : b01 true = 1 := rfl
  omega
theorem half_no {f k q d : Nat} (hq : 2 ^ k = q) (hd : f / q = d) (hb : tb f k = false) : (d : Int) % 2 = 0 := by
  have := tb_num f k q hq
  rw [hd, hb] at this
  have h1 : b01 false = 0 := rfl
  omega
theorem on_of {f o k : Nat} {b1 b2 : Bool} (h : Int) (h1 : tb f k = b1) (h2 : tb o k = b2) : onB f h o k = ((h == 1 && (b1 || b2)) || (h == -1 && b1 && !b2) || (h == 0 && b2)) := by unfold onB; rw [h1, h2]
theorem sum_eq {C q D : Nat} (h : C + q = D) : Value.int .i64 ((C : Int) + (q : Int)) = .int .i64 (D : Int) := by subst h; simp
set_option maxRecDepth 20000 in
set_option maxHeartbeats 8000000 in
theorem spec_l4change (f o : Nat) (h : Int) (w : World) (hf : f < 32) (ho : o < 32) (hh : howB h = true) :
    Calls Try.prog 22 #[.int .i64 (f : Int), .int .i64 h, .int .i64 (o : Int)] w (SaysI w (chN f h o : Int)) := by
  go_enter Try.func22, Try.ntmps22
  go_wp2
  go_loopw [7, 8] (fun z i wr => ∃ k : Nat, k ≤ 5 ∧ z = .int .i64 ((chK f h o k : Nat) : Int) ∧ i = .int .i64 (k : Int) ∧ w.heap.size ≤ wr.heap.size ∧ Hid (Below w.heap.size w wr)) (fun _ i _ => 5 - (intOf i).toNat)
  case atStart => exact ⟨0, Nat.zero_le _, by go_num, by go_num, Nat.le_refl _, Below.refl _ _⟩
  case round =>
    obtain ⟨k, hk, rfl, rfl, hwr, HB⟩ := hrel
    by_cases hlt : k < 5
    · have h5 : (k : Int) < 5 := by omega
      obtain ⟨q, hq⟩ : ∃ q, 2 ^ k = q := ⟨_, rfl⟩
      obtain ⟨q1, q2⟩ := pow_five hlt hq
      obtain ⟨C, hC⟩ : ∃ C, chK f h o k = C := ⟨_, rfl⟩
      have hCl : C < 32 := by
        have := chK_lt f o k h
        rw [hq, hC] at this
        omega
      obtain ⟨d1, hd1⟩ : ∃ d, f / q = d := ⟨_, rfl⟩
      obtain ⟨d2, hd2⟩ : ∃ d, o / q = d := ⟨_, rfl⟩
      have ld1 : d1 ≤ f := hd1 ▸ Nat.div_le_self _ _
      have ld2 : d2 ≤ o := hd2 ▸ Nat.div_le_self _ _
      have E1 : (f : Int).tdiv (q : Int) = (d1 : Int) := by rw [← hd1]; exact IntWalk.up_tdiv rfl rfl
      have E2 : (o : Int).tdiv (q : Int) = (d2 : Int) := by rw [← hd2]; exact IntWalk.up_tdiv rfl rfl
      have hq0 : ¬ (q : Int) = 0 := by omega
      have HQ := Lib.hid hq
      have HC := Lib.hid hC
      have HD1 := Lib.hid hd1
      have HD2 := Lib.hid hd2
      rw [hC]
      clear hd1 hd2 hC hq
      have W1 : IntKind.i64.wrap (d1 : Int) = (d1 : Int) := IntWalk.i64_in _ (by omega)
      have W2 : IntKind.i64.wrap (d2 : Int) = (d2 : Int) := IntWalk.i64_in _ (by omega)
      have W3 : IntKind.i64.wrap ((C : Int) + (q : Int)) = (C : Int) + (q : Int) := IntWalk.i64_in _ (by omega)
      go_wp2_with fail
      refine (spec_bit k q _ hlt HQ.out).mono ?_
      rintro e w1 ⟨rfl, hb⟩
      have HB1 := Lib.hid (HB.out.trans (hb.mono hwr))
      have hw1 := HB1.out.size
      clear hb
      go_wp2_with fail
      refine (spec_bit k q _ hlt HQ.out).mono ?_
      rintro e w2 ⟨rfl, hb⟩
      have HB2 := Lib.hid (HB1.out.trans (hb.mono hw1))
      have hw2 := HB2.out.size
      clear hb
      have HSUM : Hid (onB f h o k = true → chK f h o (k + 1) = C + q) := fun hb => by rw [← chK_yes HQ.out hb, HC.out]
      have HSAME : Hid (onB f h o k = false → chK f h o (k + 1) = C) := fun hb => by rw [← chK_no hb, HC.out]
      have HONF := Lib.hid (fun (b1 b2 : Bool) (h1 : tb f k = b1) (h2 : tb o k = b2) => on_of h h1 h2)
      rcases how_of hh with rfl | rfl | rfl
      all_goals
        cases hb1 : tb f k
        all_goals
          cases hb2 : tb o k
          all_goals
            have HON := Lib.hid (HONF.out _ _ hb1 hb2)
            first
              | have F1 := half_yes HQ.out HD1.out hb1
              | have F1 := half_no HQ.out HD1.out hb1
            first
              | have F2 := half_yes HQ.out HD2.out hb2
              | have F2 := half_no HQ.out HD2.out hb2
            clear hb1 hb2
            go_wp2_with fail
            first
              | (refine (spec_bit k q _ hlt HQ.out).mono ?_
                 rintro e w3 ⟨rfl, hb⟩
                 have HB3 := Lib.hid (HB2.out.trans (hb.mono hw2))
                 have hw3 := HB3.out.size
                 clear hb
                 go_wp2
                 go_roundw
                 case rel => exact ⟨k + 1, by omega, sum_eq (HSUM.out (HON.out.trans rfl)).symm, by go_num, hw3, HB3.out⟩
                 case measure => simp [intOf]; omega)
              | (go_roundw
                 case rel => exact ⟨k + 1, by omega, by rw [HSAME.out (HON.out.trans rfl)], by go_num, hw2, HB2.out⟩
                 case measure => simp [intOf]; omega)
    · have h5 : ¬ (k : Int) < 5 := by omega
      have hk5 : k = 5 := by omega
      subst hk5
      go_wp2
      go_ret
      exact ⟨rfl, HB.out⟩

/-- A truth that is told. -/
def SaysB (w : World) (z : Bool) (e : Ending) (w' : World) : Prop := e = .returned (.bool z) ∧ Below w.heap.size w w'
theorem hv_def (a b : Nat) : (((chN a 1 b : Nat) : Int) == (a : Int)) = hvN a b := by
  unfold hvN
  cases h : (chN a 1 b == a)
  · have := beq_eq_false_iff_ne.1 h
    exact beq_eq_false_iff_ne.2 (by omega)
  · have := beq_iff_eq.1 h
    rw [this]
    simp
end Go.Proofs.Ytllhcogmcfgnoaa
