/-
  The contract of the model's decoder of groups of four signs. No condition beyond a bound on the text's length.
-/
import Derived.Test.YtmangdkaklnpdaaBenc
namespace Go.Proofs.Ytmangdkaklnpdaa
open Go.RowKit
set_option linter.unusedVariables false

/-- The number of signs, read from the left. -/
def fold64 (l : List UInt8) : Nat := l.foldl (fun n c => 64 * n + val c) 0
theorem fold64_add (l : List UInt8) (c : UInt8) : fold64 (l ++ [c]) = 64 * fold64 l + val c := by unfold fold64; rw [List.foldl_append]; rfl
theorem fold64_lt (l : List UInt8) : fold64 l < 64 ^ l.length := by
  have h : ∀ n, l.foldl (fun n c => 64 * n + val c) n < 64 ^ l.length * (n + 1) := by
    induction l with
    | nil => intro n; simp
    | cons a l ih =>
      intro n
      have h1 := ih (64 * n + val a)
      have h2 := val_lt a
      rw [List.foldl_cons, List.length_cons, Nat.pow_succ]
      refine Nat.lt_of_lt_of_le h1 ?_
      rw [Nat.mul_assoc]
      exact Nat.mul_le_mul_left _ (by omega)
  have := h 0
  simpa [fold64] using this
theorem fold64_four (a b c d : UInt8) : fold64 [a, b, c, d] = n4 a b c d := by unfold fold64 n4; simp
theorem max_val (c : UInt8) : max (valI c) 0 = (val c : Int) := by
  unfold valI val
  cases h : num c with
  | none => rfl
  | some n => simp
theorem valI_le (c : UInt8) : -1 ≤ valI c ∧ valI c ≤ 63 := by
  unfold valI
  cases h : num c with
  | none => simp
  | some n => have := (num_some h).1; simp; omega
theorem valI_or (c : UInt8) : valI c = (val c : Int) ∨ (valI c = -1 ∧ val c = 0) := by
  unfold valI val
  cases h : num c with
  | none => exact .inr ⟨rfl, rfl⟩
  | some n => exact .inl rfl
theorem drop4 {s : ByteArray} (k : Nat) (h : k + 4 ≤ s.size) : s.data.toList.drop k = s[k] :: s[k + 1] :: s[k + 2] :: s[k + 3] :: s.data.toList.drop (k + 4) := by
  rw [drop1 k (by omega), drop1 (k + 1) (by omega), drop1 (k + 2) (by omega), drop1 (k + 3) (by omega)]
theorem dl_short {t : List UInt8} (h : t.length < 4) : dl t = [] := by
  have := dl_len t
  exact List.eq_nil_of_length_eq_zero (by omega)
theorem ofNat_nat {n : Nat} (h : n < 256) : (UInt8.ofNat n).toNat = n := by rw [UInt8.toNat_ofNat']; exact Nat.mod_eq_of_lt h

set_option maxRecDepth 20000 in
set_option maxHeartbeats 4000000 in
theorem decode_any (s : ByteArray) (w : World) (hs : s.size ≤ 16777216) :
    Calls Try.prog 73 #[.string s] w fun e w' => e = .returned (.string (bt (dl s.data.toList))) ∧ Below w.heap.size w w' := by
  have hl : s.data.toList.length = s.size := by simp
  have HL := Lib.hid hl
  clear hl
  obtain ⟨i0, hi, hz0, hz1, hz2⟩ := info_parts Try.infoByte
  go_enter Try.func73, Try.ntmps73
  go_wp2
  go_loopw [3, 4, 5, 6] (fun v i n j wr => ∃ (k : Nat) (P : List UInt8), k ≤ s.size ∧ i = .int .i64 (k : Int) ∧ wr.ownsRow w.heap.size 5 1 v P.length (Lib.byteCells P) ∧ Below w.heap.size w wr ∧ Hid (dl s.data.toList = P ++ dl (s.data.toList.drop k)))
    (fun _ i _ _ _ => s.size + 2 - (intOf i).toNat)
  case atStart =>
    exact ⟨0, [], by omega, by go_num, World.ownsRow_lit w #[] 0 (Nat.le_refl _) (by unfold maxLen; omega) rfl, (Below.refl _ _).alloc (Nat.le_refl _) _, rfl⟩
  case round =>
    obtain ⟨k, P, hk, rfl, hown, hbel, HE⟩ := hrel
    have hz := hbel.size
    have HB := Lib.hid hbel
    clear hbel
    have h0 : (0 : Int) ≤ (k : Int) := by omega
    have hP : P.length ≤ 2 * s.size + 10 := by have h := congrArg List.length HE.out; rw [dl_len, List.length_append, HL.out] at h; omega
    by_cases hlt : k + 4 ≤ s.size
    · have h1 : (k : Int) + 4 ≤ (s.size : Int) := by omega
      obtain ⟨k4, hk4⟩ : ∃ k4, k4 = k + 4 := ⟨_, rfl⟩
      have E4 : (k : Int) + 4 = (k4 : Int) := by omega
      have hn4 : k4 ≤ s.size := by omega
      have hn4' : (k4 : Int) ≤ (s.size : Int) := by omega
      have HK4 := Lib.hid hk4
      clear hk4 h1
      go_wp2
      go_loop [5, 6] (fun n jv => ∃ (d f j : Nat), d ≤ 4 ∧ n = .int .i64 (f : Int) ∧ jv = .int .i64 (j : Int) ∧ j = k + d ∧ f < 16777216 ∧ Hid (f = fold64 ((s.data.toList.drop k).take d))) (fun _ jv => k + 4 - (intOf jv).toNat)
      case atStart => exact ⟨0, 0, k, by omega, by go_num, by go_num, by omega, by omega, rfl⟩
      case round =>
        obtain ⟨d, f, j, hd, rfl, rfl, hj, hf, HF⟩ := hrel
        by_cases h4 : d < 4
        · have hjs : j < s.size := by omega
          have c0 : (0 : Int) ≤ (j : Int) := by omega
          have c1 : (j : Int) < (s.size : Int) := by omega
          have c2 : (j : Int) < (k4 : Int) := by omega
          have hc2 : j < k4 := by omega
          obtain ⟨x, hx⟩ : ∃ x, s[j] = x := ⟨_, rfl⟩
          obtain ⟨y, hy⟩ : ∃ y, val x = y := ⟨_, rfl⟩
          have EM : max (valI x) 0 = (y : Int) := by rw [max_val, hy]
          have hyl : y < 64 := by rw [← hy]; exact val_lt x
          have hv1 := (valI_le x).1
          have hv2 := (valI_le x).2
          have hF2 : 64 * f + y = fold64 ((s.data.toList.drop k).take (d + 1)) := by
            have hl2 : d < (s.data.toList.drop k).length := by rw [List.length_drop, HL.out]; omega
            rw [List.take_succ_eq_append_getElem hl2, fold64_add, ← HF.out, ← hy, ← hx]
            have : (s.data.toList.drop k)[d] = s[j] := by
              rw [List.getElem_drop]
              subst hj
              rfl
            rw [this]
          have hfl : 64 * f + y < 16777216 := by
            rw [hF2]
            have h := fold64_lt ((s.data.toList.drop k).take (d + 1))
            have h2 : 64 ^ ((s.data.toList.drop k).take (d + 1)).length ≤ 64 ^ 4 := Nat.pow_le_pow_right (by omega) (by rw [List.length_take]; omega)
            omega
          have HF2 := Lib.hid hF2
          have HY := Lib.hid hy
          have HX := Lib.hid hx
          have HJ := Lib.hid hj
          have hy2 := hy
          clear hF2 hy hj
          rcases valI_or x with EV | ⟨EV, E0⟩
          · rw [hy2] at EV
            clear EM hv1 hv2
            go_wp2_with fail
            refine (value_at x _).mono ?_
            rintro e w1 ⟨rfl, rfl⟩
            rw [EV]
            clear EV
            go_wp2
            go_round
            case rel =>
              exact ⟨d + 1, 64 * f + y, j + 1, by omega, by go_num, by go_num, by have := HJ.out; omega, hfl, HF2⟩
            case measure => simp [intOf]; have := HJ.out; omega
          · rw [hy2] at E0
            subst E0
            clear EM hv1 hv2
            go_wp2_with fail
            refine (value_at x _).mono ?_
            rintro e w1 ⟨rfl, rfl⟩
            rw [EV]
            clear EV
            go_wp2
            go_round
            case rel =>
              exact ⟨d + 1, 64 * f, j + 1, by omega, by go_num, by go_num, by have := HJ.out; omega, by omega, HF2⟩
            case measure => simp [intOf]; have := HJ.out; omega
        · have hd4 : d = 4 := by omega
          subst hd4
          have c2 : ¬ (j : Int) < (k4 : Int) := by omega
          have hc2 : ¬ j < k4 := by omega
          obtain ⟨x0, hx0⟩ : ∃ m, m = f / 65536 := ⟨_, rfl⟩
          obtain ⟨x1, hx1⟩ : ∃ m, m = f / 256 % 256 := ⟨_, rfl⟩
          obtain ⟨x2, hx2⟩ : ∃ m, m = f % 256 := ⟨_, rfl⟩
          have D0 : (f : Int) / 65536 = (x0 : Int) := by omega
          have D1 : (f : Int) / 256 % 256 = (x1 : Int) := by omega
          have D2 : (f : Int) % 256 = (x2 : Int) := by omega
          have l0 : (x0 : Int) ≤ 255 := by omega
          have l1 : (x1 : Int) ≤ 255 := by omega
          have l2 : (x2 : Int) ≤ 255 := by omega
          have g0 : (0 : Int) ≤ (x0 : Int) := by omega
          have g1 : (0 : Int) ≤ (x1 : Int) := by omega
          have g2 : (0 : Int) ≤ (x2 : Int) := by omega
          have HX0 := Lib.hid hx0
          have HX1 := Lib.hid hx1
          have HX2 := Lib.hid hx2
          have HJ := Lib.hid hj
          clear hx0 hx1 hx2 hj
          go_wp2_with (at_builtin; refine wpList_append_own _ rfl _ _ 22 rfl w.heap.size 5 i0 (.int .u8 0) 1 1 Try.underlying22 hi hz0 hz1 hz2 rfl (by decide) _ _ _ rfl (hown.alloc _) _ 3 3 [.int .u8 (x0 : Int), .int .u8 (x1 : Int), .int .u8 (x2 : Int)] rfl rfl ?q1 ?q2 ?q3 ?q4 ?q5 ?_)
          case q2 => first
            | exact ⟨rfl, rfl, rfl⟩
            | (intro u hu
               simp only [List.mem_cons, List.not_mem_nil, or_false] at hu
               rcases hu with rfl | rfl | rfl <;> rfl)
          case q3 => first
            | (unfold maxLen; omega)
            | omega
          case q4 => omega
          case q5 => first
            | omega
            | (simp; omega)
          intro v' w1 hown1 hgrow _
          have hbl := (HB.out.alloc hz (.cells #[.int .u8 (x0 : Int), .int .u8 (x1 : Int), .int .u8 (x2 : Int)] 5)).grown hgrow (by simp; omega) (fun q hq => (hown.lt q hq).1)
          have HO := Lib.hid hown1
          have HBL := Lib.hid hbl
          clear hown1 hgrow hbl hown
          go_wp2
          go_roundw
          case rel =>
            refine ⟨k + 4, P ++ [UInt8.ofNat x0, UInt8.ofNat x1, UInt8.ofNat x2], by omega, by go_num, ?_, HBL.out, ?_⟩
            · have h := HO.out
              simpa [Lib.byteCells, ofNat_nat (show x0 < 256 by omega), ofNat_nat (show x1 < 256 by omega), ofNat_nat (show x2 < 256 by omega)] using h
            · have hE := HE.out
              have hf4 := HF.out
              rw [drop4 k hlt, dl_more] at hE
              rw [drop4 k hlt] at hf4
              have e4 : f = n4 s[k] s[k + 1] s[k + 2] s[k + 3] := hf4.trans (fold64_four _ _ _ _)
              show dl s.data.toList = _
              rw [hE, HX0.out, HX1.out, HX2.out, e4]
              simp
          case measure => simp [intOf]; omega
    · have h1 : ¬ (k : Int) + 4 ≤ (s.size : Int) := by omega
      have hE := HE.out
      rw [dl_short (t := s.data.toList.drop k) (by rw [List.length_drop, HL.out]; omega), List.append_nil] at hE
      have HE2 := Lib.hid hE
      clear hE HE
      rcases hown.2 with ⟨rfl, h0⟩ | ⟨g, cap, cur, rfl, -, -, -, -, -, -⟩
      · have hcv := Lib.run_convert_nil_bytes (P := Try.prog) wr 22 9 5 0 Try.underlying22 Try.underlying5 Try.underlying9
        have hp : P = [] := List.eq_nil_of_length_eq_zero h0
        subst hp
        go_wp2
        go_ret
        exact ⟨by rw [HE2.out]; rfl, HB.out⟩
      · have hcv := run_convert_bytes_back (P := Try.prog) wr 22 9 5 ⟨g, 0, none⟩ cap P Try.underlying22 Try.underlying5 Try.underlying9 (fun j hj => hown.cells (g := g) rfl j _ (by simp [Lib.byteCells, hj]))
        have HW := Lib.hid hown
        clear hown
        go_wp2
        go_ret
        exact ⟨by rw [HE2.out]; rfl, HB.out⟩
end Go.Proofs.Ytmangdkaklnpdaa
