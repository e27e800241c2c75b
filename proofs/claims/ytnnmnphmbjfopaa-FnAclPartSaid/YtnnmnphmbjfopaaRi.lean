/-
  The contracts of the code's and the model's RightsText and RightsParse. Condition: the text is not too long.
-/
import Derived.Test.YtnnmnphmbjfopaaRgm
import Derived.Test.YtnnmnphmbjfopaaDraws
import Derived.Test.YtnnmnphmbjfopaaSpecB
import Derived.Test.YtnnmnphmbjfopaaShelf
namespace Go.Proofs.Ytnnmnphmbjfopaa
open Go.RowKit
set_option linter.unusedVariables false

def rB (l : List UInt8) : ByteArray := ⟨l.toArray⟩
theorem rB_list (l : List UInt8) : (rB l).data.toList = l := by unfold rB; simp
theorem rB_size (l : List UInt8) : (rB l).size = l.length := by unfold rB; rw [ByteArray.size]; simp
theorem rB_ext {u v : ByteArray} (h : u.data.toList = v.data.toList) : u = v := by
  cases u
  cases v
  congr
  exact Array.toList_inj.1 h
theorem rB_cat (a b : List UInt8) : rB a ++ rB b = rB (a ++ b) := by
  refine rB_ext ?_
  rw [ByteArray.data_append, Array.toList_append, rB_list, rB_list, rB_list]
theorem rB_of (s : ByteArray) : rB s.data.toList = s := rB_ext (rB_list _)
/-- Numbers, truths and texts that are told. -/
def SayI (w : World) (z : Int) (e : Ending) (w' : World) : Prop := e = .returned (.int .i64 z) ∧ Below w.heap.size w w'
def SayT (w : World) (l : List UInt8) (e : Ending) (w' : World) : Prop := e = .returned (.string (rB l)) ∧ Below w.heap.size w w'
def SayB (w : World) (z : Bool) (e : Ending) (w' : World) : Prop := e = .returned (.bool z) ∧ Below w.heap.size w w'
theorem ret_bl {a b : Bool} (h : a = b) : Ending.returned (.bool a) = .returned (.bool b) := by rw [h]
theorem ret_st {a b : ByteArray} (h : a = b) : Ending.returned (.string a) = .returned (.string b) := by rw [h]

set_option maxHeartbeats 400000 in
theorem impl_isr (n : Int) (w : World) : Calls Try.prog 48 #[.int .i64 n] w fun e w' => e = .returned (.bool (isR n)) ∧ w' = w := by
  by_cases h1 : (0 : Int) ≤ n <;> by_cases h2 : n ≤ 63
  all_goals
    go_enter Try.func48, Try.ntmps48
    go_wp2
    go_ret
    refine ⟨ret_bl ?_, rfl⟩
    unfold isR
    first
      | exact (Bool.and_eq_true_iff.2 ⟨decide_eq_true (by omega), decide_eq_true (by omega)⟩).symm
      | (rw [decide_eq_false (p := (0 : Int) ≤ n) (by omega)]; rfl)
      | (rw [decide_eq_false (p := n ≤ 63) (by omega)]; simp)
set_option maxHeartbeats 400000 in
theorem spec_inr (n a b : Int) (w : World) : Calls Try.prog 56 #[.int .i64 n, .int .i64 a, .int .i64 b] w fun e w' => e = .returned (.bool (decide (a ≤ n) && decide (n ≤ b))) ∧ w' = w := by
  by_cases h1 : a ≤ n <;> by_cases h2 : n ≤ b
  all_goals
    have h1' := h1
    go_enter Try.func56, Try.ntmps56
    go_wp2
    go_ret
    refine ⟨ret_bl ?_, rfl⟩
    first
      | exact (Bool.and_eq_true_iff.2 ⟨decide_eq_true (by omega), decide_eq_true (by omega)⟩).symm
      | exact (decide_eq_false (by omega)).symm
      | exact (decide_eq_true (by omega)).symm
      | (rw [decide_eq_false (p := a ≤ n) (by omega)]; done)
      | (rw [decide_eq_false (p := a ≤ n) (by omega)]; rfl)
      | (rw [decide_eq_false (p := n ≤ b) (by omega)]; simp)
set_option maxHeartbeats 400000 in
theorem spec_isr (n : Int) (w : World) : Calls Try.prog 49 #[.int .i64 n] w fun e w' => e = .returned (.bool (isR n)) ∧ w' = w := by
  go_enter Try.func49, Try.ntmps49
  go_wp2_with fail
  refine (spec_inr n 0 63 _).mono ?_
  rintro e w1 ⟨rfl, rfl⟩
  go_wp2
  go_ret
  exact ⟨rfl, rfl⟩
def rbits : Array Value := #[.int .i64 1, .int .i64 2, .int .i64 4, .int .i64 8, .int .i64 16, .int .i64 32]
theorem rbit_at {k q : Nat} (hk : k < 6) (hq : 2 ^ k = q) : rbits[k]? = some (.int .i64 (q : Int)) := by
  subst hq
  match k, hk with
  | 0, _ => rfl
  | 1, _ => rfl
  | 2, _ => rfl
  | 3, _ => rfl
  | 4, _ => rfl
  | 5, _ => rfl
set_option maxHeartbeats 400000 in
theorem spec_rbit (k q : Nat) (w : World) (hk : k < 6) (hq : 2 ^ k = q) : Calls Try.prog 50 #[.int .i64 (k : Int)] w (SayI w (q : Int)) := by
  have hb := rbit_at hk hq
  have hc : (w.alloc (.cells #[.int .i64 1, .int .i64 2, .int .i64 4, .int .i64 8, .int .i64 16, .int .i64 32] 3)).cell? ⟨w.heap.size, k, none⟩ = some (.int .i64 (q : Int)) := (Whole.made w 3 rbits).cell k |>.trans hb
  have HB := Lib.hid ((Below.refl w.heap.size w).alloc (Nat.le_refl _) (.cells #[.int .i64 1, .int .i64 2, .int .i64 4, .int .i64 8, .int .i64 16, .int .i64 32] 3))
  have h0 : (0 : Int) ≤ (k : Int) := by omega
  have h5 : (k : Int) < 6 := by omega
  clear hb hq
  go_enter Try.func50, Try.ntmps50
  go_wp2_with fail
  go_ret
  exact ⟨rfl, HB.out⟩
theorem pow_six {k q : Nat} (hk : k < 6) (hq : 2 ^ k = q) : 1 ≤ q ∧ q ≤ 32 := by
  subst hq
  match k, hk with
  | 0, _ | 1, _ | 2, _ | 3, _ | 4, _ | 5, _ => exact ⟨by decide, by decide⟩
theorem rhalf_yes {f k q d : Nat} (hq : 2 ^ k = q) (hd : f / q = d) (hb : tr f k = true) : (d : Int) % 2 = 1 := by
  subst hq
  have := (tr_bit f k).2 hb
  omega
theorem rhalf_no {f k q d : Nat} (hq : 2 ^ k = q) (hd : f / q = d) (hb : tr f k = false) : (d : Int) % 2 = 0 := by
  subst hq
  have : ¬ f / 2 ^ k % 2 = 1 := by rw [tr_bit, hb]; simp
  omega
set_option maxRecDepth 100000 in
theorem piece_run {k : Nat} (hk : k < 6) (w : World) : (Instr.slice 9 (.string ⟨#[108, 114, 119, 105, 101, 97]⟩) (some (.int .i64 (k : Int))) (some (.int .i64 ((k : Int) + 1))) none).run Try.prog w = .ok (.string (rB [rl k])) w := by
  match k, hk with
  | 0, _ => rfl
  | 1, _ => rfl
  | 2, _ => rfl
  | 3, _ => rfl
  | 4, _ => rfl
  | 5, _ => rfl
theorem and_right {f k : Nat} (hf : f < 64) (hk : k < 6) : (bits .and .i64 (f : Int) ((2 ^ k : Nat) : Int) != 0) = tr f k := by
  have : ∀ (f : Fin 64) (k : Fin 6), (bits .and .i64 (f.1 : Int) ((2 ^ k.1 : Nat) : Int) != 0) = tr f.1 k.1 := by decide +kernel
  exact this ⟨f, hf⟩ ⟨k, hk⟩
theorem shl_right {k q : Nat} (hk : k < 6) (hq : 2 ^ k = q) : IntKind.i64.wrap (2 ^ k) = (q : Int) := by
  subst hq
  match k, hk with
  | 0, _ | 1, _ | 2, _ | 3, _ | 4, _ | 5, _ => decide
set_option maxRecDepth 20000 in
set_option maxHeartbeats 4000000 in
theorem impl_rtext_yes (f : Nat) (w : World) (hf : f < 64) : Calls Try.prog 22 #[.int .i64 (f : Int)] w (SayT w (rtN f)) := by
  have HF := Lib.hid (isR_of hf)
  go_enter Try.func22, Try.ntmps22
  go_wp2_with fail
  refine (impl_isr (f : Int) _).mono ?_
  rintro e w0 ⟨rfl, hw0⟩
  subst w0
  rw [HF.out]
  go_wp2
  go_loopw [3, 8] (fun t i wr => ∃ (k : Nat) (s : ByteArray), k ≤ 6 ∧ s = rB (rtK f k) ∧ t = .string s ∧ i = .int .i64 (k : Int) ∧ Hid (Below w.heap.size w wr)) (fun _ i _ => 6 - (intOf i).toNat)
  case atStart => exact ⟨0, _, Nat.zero_le _, rfl, rfl, by go_num, Below.refl _ _⟩
  case round =>
    obtain ⟨k, s, hk, hs, rfl, rfl, HB⟩ := hrel
    have hlen := rtK_len f k
    have hsz : s.size = (rtK f k).length := by rw [hs, rB_size]
    have hs6 : s.size ≤ 6 := by omega
    have HS := Lib.hid hs
    clear hs hsz hlen
    by_cases hlt : k < 6
    · have h5 : (k : Int) < 6 := by omega
      have h0 : (0 : Int) ≤ (k : Int) := by omega
      obtain ⟨q, hq⟩ : ∃ q, 2 ^ k = q := ⟨_, rfl⟩
      obtain ⟨q1, q2⟩ := pow_six hlt hq
      have W1 := shl_right hlt hq
      have A1 := and_right hf hlt
      rw [hq] at A1
      have P1 := piece_run hlt
      obtain ⟨v, hv⟩ : ∃ v, rB [rl k] = v := ⟨_, rfl⟩
      rw [hv] at P1
      have hvs : v.size = 1 := by rw [← hv, rB_size]; rfl
      have HV := Lib.hid hv
      clear hv hq
      cases hb1 : tr f k with
      | true =>
        rw [hb1] at A1
        have HT := Lib.hid hb1
        clear hb1
        go_wp2
        go_roundw
        case rel => exact ⟨k + 1, _, by omega, by rw [HS.out, ← HV.out, rB_cat, rt_yes HT.out], rfl, by go_num, HB.out⟩
        case measure => simp [intOf]; omega
      | false =>
        rw [hb1] at A1
        have HT := Lib.hid hb1
        clear hb1 P1
        go_wp2
        go_roundw
        case rel => exact ⟨k + 1, _, by omega, by rw [HS.out, rt_no HT.out], rfl, by go_num, HB.out⟩
        case measure => simp [intOf]; omega
    · have h5 : ¬ (k : Int) < 6 := by omega
      have hk5 : k = 6 := by omega
      subst hk5
      go_wp2
      go_ret
      exact ⟨ret_st HS.out, HB.out⟩
set_option maxHeartbeats 400000 in
theorem impl_rtext_no (n : Int) (w : World) (hf : isR n = false) : Calls Try.prog 22 #[.int .i64 n] w (SayT w []) := by
  have HF := Lib.hid hf
  clear hf
  go_enter Try.func22, Try.ntmps22
  go_wp2_with fail
  refine (impl_isr n _).mono ?_
  rintro e w1 ⟨rfl, rfl⟩
  rw [HF.out]
  go_wp2
  go_ret
  exact ⟨rfl, Below.refl _ _⟩
theorem impl_rtext (n : Int) (w : World) : Calls Try.prog 22 #[.int .i64 n] w (SayT w (rtI n)) := by
  cases hf : isR n with
  | false =>
    rw [rtI_no hf]
    exact impl_rtext_no n w hf
  | true =>
    obtain ⟨a, ha, rfl⟩ := isR_nat hf
    rw [rtI_yes ha]
    exact impl_rtext_yes a w ha
set_option maxRecDepth 20000 in
set_option maxHeartbeats 4000000 in
theorem spec_rtext_yes (f : Nat) (w : World) (hf : f < 64) : Calls Try.prog 23 #[.int .i64 (f : Int)] w (SayT w (rtN f)) := by
  have HF := Lib.hid (isR_of hf)
  go_enter Try.func23, Try.ntmps23
  go_wp2
  go_loopw [3, 4] (fun t i wr => ∃ (k : Nat) (s : ByteArray), k ≤ 6 ∧ s = rB (rtK f k) ∧ t = .string s ∧ i = .int .i64 (k : Int) ∧ w.heap.size ≤ wr.heap.size ∧ Hid (Below w.heap.size w wr)) (fun _ i _ => 6 - (intOf i).toNat)
  case atStart => exact ⟨0, _, Nat.zero_le _, rfl, rfl, by go_num, Nat.le_refl _, Below.refl _ _⟩
  case round =>
    obtain ⟨k, s, hk, hs, rfl, rfl, hwr, HB⟩ := hrel
    have hlen := rtK_len f k
    have hsz : s.size = (rtK f k).length := by rw [hs, rB_size]
    have hs6 : s.size ≤ 6 := by omega
    have HS := Lib.hid hs
    clear hs hsz hlen
    by_cases hlt : k < 6
    · have h5 : (k : Int) < 6 := by omega
      have h0 : (0 : Int) ≤ (k : Int) := by omega
      obtain ⟨q, hq⟩ : ∃ q, 2 ^ k = q := ⟨_, rfl⟩
      obtain ⟨q1, q2⟩ := pow_six hlt hq
      obtain ⟨d1, hd1⟩ : ∃ d, f / q = d := ⟨_, rfl⟩
      have ld1 : d1 ≤ f := hd1 ▸ Nat.div_le_self _ _
      have E1 : (f : Int).tdiv (q : Int) = (d1 : Int) := by rw [← hd1]; exact IntWalk.up_tdiv rfl rfl
      have hq0 : ¬ (q : Int) = 0 := by omega
      have P1 := piece_run hlt
      obtain ⟨v, hv⟩ : ∃ v, rB [rl k] = v := ⟨_, rfl⟩
      rw [hv] at P1
      have hvs : v.size = 1 := by rw [← hv, rB_size]; rfl
      have HV := Lib.hid hv
      have HQ := Lib.hid hq
      have HD1 := Lib.hid hd1
      clear hv hq hd1
      have W1 : IntKind.i64.wrap (d1 : Int) = (d1 : Int) := IntWalk.i64_in _ (by omega)
      cases hb1 : tr f k with
      | true =>
        have F1 := rhalf_yes HQ.out HD1.out hb1
        have HT := Lib.hid hb1
        clear hb1
        go_wp2_with fail
        refine (spec_isr (f : Int) _).mono ?_
        rintro e w0 ⟨rfl, hw0⟩
        subst w0
        rw [HF.out]
        go_wp2_with fail
        refine (spec_rbit k q _ hlt HQ.out).mono ?_
        rintro e w2 ⟨rfl, hb⟩
        have HB2 := Lib.hid (HB.out.trans (hb.mono hwr))
        have hw2 : w.heap.size ≤ w2.heap.size := HB2.out.size
        clear hb
        go_wp2
        go_roundw
        case rel => exact ⟨k + 1, _, by omega, by rw [HS.out, ← HV.out, rB_cat, rt_yes HT.out], rfl, by go_num, hw2, HB2.out⟩
        case measure => simp [intOf]; omega
      | false =>
        have F1 := rhalf_no HQ.out HD1.out hb1
        have HT := Lib.hid hb1
        clear hb1 P1
        go_wp2_with fail
        refine (spec_isr (f : Int) _).mono ?_
        rintro e w0 ⟨rfl, hw0⟩
        subst w0
        rw [HF.out]
        go_wp2_with fail
        refine (spec_rbit k q _ hlt HQ.out).mono ?_
        rintro e w2 ⟨rfl, hb⟩
        have HB2 := Lib.hid (HB.out.trans (hb.mono hwr))
        have hw2 : w.heap.size ≤ w2.heap.size := HB2.out.size
        clear hb
        go_wp2
        go_roundw
        case rel => exact ⟨k + 1, _, by omega, by rw [HS.out, rt_no HT.out], rfl, by go_num, hw2, HB2.out⟩
        case measure => simp [intOf]; omega
    · have h5 : ¬ (k : Int) < 6 := by omega
      have hk5 : k = 6 := by omega
      subst hk5
      go_wp2
      go_ret
      exact ⟨ret_st HS.out, HB.out⟩
set_option maxHeartbeats 400000 in
theorem spec_rtext_no (n : Int) (w : World) (hf : isR n = false) : Calls Try.prog 23 #[.int .i64 n] w (SayT w []) := by
  have HF := Lib.hid hf
  clear hf
  go_enter Try.func23, Try.ntmps23
  go_wp2
  go_loopw [3, 4] (fun t i wr => t = .string ByteArray.empty ∧ i = .int .i64 0 ∧ wr = w) (fun _ i _ => 6 - (intOf i).toNat)
  case atStart => exact ⟨rfl, rfl, rfl⟩
  case round =>
    obtain ⟨rfl, rfl, rfl⟩ := hrel
    go_wp2_with fail
    refine (spec_isr n _).mono ?_
    rintro e w0 ⟨rfl, hw0⟩
    subst w0
    rw [HF.out]
    go_wp2
    go_ret
    exact ⟨rfl, Below.refl _ _⟩
theorem spec_rtext (n : Int) (w : World) : Calls Try.prog 23 #[.int .i64 n] w (SayT w (rtI n)) := by
  cases hf : isR n with
  | false =>
    rw [rtI_no hf]
    exact spec_rtext_no n w hf
  | true =>
    obtain ⟨a, ha, rfl⟩ := isR_nat hf
    rw [rtI_yes ha]
    exact spec_rtext_yes a w ha

/-- The place of a letter, -1 for another byte. -/
def ridx (c : UInt8) : Int := if c = 108 then 0 else if c = 114 then 1 else if c = 119 then 2 else if c = 105 then 3 else if c = 101 then 4 else if c = 97 then 5 else -1
theorem ridx_letters : ∀ c : Fin 256, Lib.indexByte (⟨#[108, 114, 119, 105, 101, 97]⟩ : ByteArray).data.toList (UInt8.ofNat c.1) = ridx (UInt8.ofNat c.1) := by decide +kernel
theorem ridx_rl {k : Nat} (h : k < 6) : ridx (rl k) = (k : Int) := by
  match k, h with
  | 0, _ | 1, _ | 2, _ | 3, _ | 4, _ | 5, _ => decide
theorem ridx_no {c : UInt8} (h : ∀ k, c ≠ rl k) : ridx c = -1 := by
  unfold ridx
  rw [if_neg (show c ≠ 108 from h 0), if_neg (show c ≠ 114 from h 1), if_neg (show c ≠ 119 from h 2), if_neg (show c ≠ 105 from h 3), if_neg (show c ≠ 101 from h 4), if_neg (show c ≠ 97 from h 5)]
theorem rindex_any (c : UInt8) (w : World) : Calls Try.prog 51 #[.string ⟨#[108, 114, 119, 105, 101, 97]⟩, .int .u8 (c.toNat : Int)] w fun e w' => e = .returned (.int .i64 (ridx c)) ∧ w' = w := by
  refine (strings_IndexByte _ _ w).mono ?_
  rintro e w' ⟨rfl, rfl⟩
  have h1 := ridx_letters ⟨c.toNat, c.toNat_lt⟩
  have e1 : UInt8.ofNat c.toNat = c := UInt8.ofNat_toNat
  simp only [e1] at h1
  have e2 : ((c.toNat : Int).toNat.toUInt8) = c := by rw [Int.toNat_natCast]; exact e1
  rw [e2, h1]
  exact ⟨rfl, rfl⟩
/-- What a parser of rights leaves. -/
def RPar (w : World) (o : Option Nat) (e : Ending) (w' : World) : Prop := e = .returned (.tuple #[.int .i64 ((o.getD 0 : Nat) : Int), .bool o.isSome]) ∧ Below w.heap.size w w'
theorem rpar_none {w w' : World} {o : Option Nat} (h : o = none) (hb : Below w.heap.size w w') : RPar w o (.returned (.tuple #[.int .i64 0, .bool false])) w' := by
  subst h
  exact ⟨rfl, hb⟩
theorem rpar_some {w w' : World} {o : Option Nat} {f : Nat} (h : o = some f) (hb : Below w.heap.size w w') : RPar w o (.returned (.tuple #[.int .i64 (f : Int), .bool true])) w' := by
  subst h
  exact ⟨rfl, hb⟩
theorem rp_at {s : ByteArray} {k : Nat} (h : k < s.size) : s.data.toList.drop k = s[k] :: s.data.toList.drop (k + 1) := by
  rw [List.drop_eq_getElem_cons (by simpa using h)]
  rfl
theorem rp_bad {s : ByteArray} {k f : Nat} {o : Option Nat} (hk : k < s.size) (h : o = rpF (s.data.toList.drop k) f) (hn : ∀ j, s[k] ≠ rl j) : o = none := by rw [h, rp_at hk, rpF_bad hn]
theorem rp_dup {s : ByteArray} {k f j : Nat} {o : Option Nat} (hk : k < s.size) (h : o = rpF (s.data.toList.drop k) f) (hj : j < 6) (hn : s[k] = rl j) (ht : tr f j = true) : o = none := by rw [h, rp_at hk, hn, rpF_cons hj, if_pos ht]
theorem rp_ok {s : ByteArray} {k f j q : Nat} {o : Option Nat} (hk : k < s.size) (h : o = rpF (s.data.toList.drop k) f) (hj : j < 6) (hn : s[k] = rl j) (ht : tr f j = false) (hq : 2 ^ j = q) : o = rpF (s.data.toList.drop (k + 1)) (f + q) := by rw [h, rp_at hk, hn, rpF_cons hj, if_neg (by rw [ht]; simp), hq]
theorem rp_end {s : ByteArray} {k f : Nat} {o : Option Nat} (hk : s.size ≤ k) (h : o = rpF (s.data.toList.drop k) f) : o = some f := by
  rw [h, List.drop_eq_nil_of_le (by simpa using hk)]
  rfl
set_option maxRecDepth 20000 in
set_option maxHeartbeats 4000000 in
theorem impl_rparse (s : ByteArray) (w : World) (hs : s.size ≤ 16777216) : Calls Try.prog 24 #[.string s] w (RPar w (rpF s.data.toList 0)) := by
  go_enter Try.func24, Try.ntmps24
  go_wp2
  go_loopw [4, 9] (fun t i wr => ∃ (k f : Nat), k ≤ s.size ∧ f < 64 ∧ t = .int .i64 (f : Int) ∧ i = .int .i64 (k : Int) ∧ Hid (rpF s.data.toList 0 = rpF (s.data.toList.drop k) f) ∧ wr = w) (fun _ i _ => s.size - (intOf i).toNat)
  case atStart => exact ⟨0, 0, Nat.zero_le _, by omega, by go_num, by go_num, rfl, rfl⟩
  case round =>
    obtain ⟨k, f, hk, hf, rfl, rfl, HO, rfl⟩ := hrel
    by_cases hlt : k < s.size
    · have h5 : (k : Int) < (s.size : Int) := by omega
      have h0 : (0 : Int) ≤ (k : Int) := by omega
      rcases rbit_cases s[k] with ⟨_, hn⟩ | ⟨j, hj, hn, _⟩
      · have HI := Lib.hid (ridx_no hn)
        have HN := Lib.hid (rp_bad hlt HO.out hn)
        clear hn
        go_wp2_with fail
        refine (rindex_any s[k] _).mono ?_
        rintro e w1 ⟨rfl, hw1⟩
        subst w1
        rw [HI.out]
        go_wp2
        go_ret2
        exact rpar_none HN.out (Below.refl _ _)
      · have HI := Lib.hid ((congrArg ridx hn).trans (ridx_rl hj))
        have HJ := Lib.hid hn
        obtain ⟨q, hq⟩ : ∃ q, 2 ^ j = q := ⟨_, rfl⟩
        obtain ⟨q1, q2⟩ := pow_six hj hq
        have j0 : (0 : Int) ≤ (j : Int) := by omega
        have j1 : ¬ (j : Int) < 0 := by omega
        have W1 := shl_right hj hq
        have A1 := and_right hf hj
        rw [hq] at A1
        have HQ := Lib.hid hq
        clear hn hq
        cases ht : tr f j with
        | true =>
          rw [ht] at A1
          have HN := Lib.hid (rp_dup hlt HO.out hj HJ.out ht)
          clear ht
          go_wp2_with fail
          refine (rindex_any s[k] _).mono ?_
          rintro e w1 ⟨rfl, hw1⟩
          subst w1
          rw [HI.out]
          go_wp2
          go_ret2
          exact rpar_none HN.out (Below.refl _ _)
        | false =>
          rw [ht] at A1
          have HN := Lib.hid (rp_ok hlt HO.out hj HJ.out ht HQ.out)
          have hf2 : f + q < 64 := by rw [← HQ.out]; exact (tr_add hf hj ht).1
          clear ht
          have W3 : IntKind.i64.wrap ((f : Int) + (q : Int)) = (f : Int) + (q : Int) := IntWalk.i64_in _ (by omega)
          go_wp2_with fail
          refine (rindex_any s[k] _).mono ?_
          rintro e w1 ⟨rfl, hw1⟩
          subst w1
          rw [HI.out]
          go_wp2
          go_roundw
          case rel => exact ⟨k + 1, f + q, by omega, hf2, by go_num, by go_num, HN, trivial⟩
          case measure => simp [intOf]; omega
    · have h5 : ¬ (k : Int) < (s.size : Int) := by omega
      have HN := Lib.hid (rp_end (by omega) HO.out)
      go_wp2
      go_ret2
      exact rpar_some HN.out (Below.refl _ _)
/-- The right of a byte, as the model looks it up: among the first letters. -/
def lastb (c : UInt8) : Nat → Nat
  | 0 => 0
  | k + 1 => if rl k = c then 2 ^ k else lastb c k
theorem lastb_six (c : UInt8) : lastb c 6 = rbit c := by
  have key : ∀ c : Fin 256, lastb (UInt8.ofNat c.1) 6 = rbit (UInt8.ofNat c.1) := by decide +kernel
  have := key ⟨c.toNat, c.toNat_lt⟩
  simpa using this
theorem lastb_yes {c : UInt8} {k q : Nat} (h : rl k = c) (hq : 2 ^ k = q) : Value.int .i64 (q : Int) = .int .i64 ((lastb c (k + 1) : Nat) : Int) := by rw [lastb, if_pos h, hq]
theorem lastb_no {c : UInt8} {k : Nat} (h : ¬ rl k = c) : Value.int .i64 ((lastb c k : Nat) : Int) = .int .i64 ((lastb c (k + 1) : Nat) : Int) := by rw [lastb, if_neg h]
set_option maxRecDepth 100000 in
theorem letter_run {k : Nat} (hk : k < 6) (w : World) : (Instr.index 9 (.string ⟨#[108, 114, 119, 105, 101, 97]⟩) (.int .i64 (k : Int))).run Try.prog w = .ok (.int .u8 ((rl k).toNat : Int)) w := by
  match k, hk with
  | 0, _ => rfl
  | 1, _ => rfl
  | 2, _ => rfl
  | 3, _ => rfl
  | 4, _ => rfl
  | 5, _ => rfl
set_option maxRecDepth 20000 in
set_option maxHeartbeats 4000000 in
theorem spec_rparse (s : ByteArray) (w : World) (hs : s.size ≤ 16777216) : Calls Try.prog 26 #[.string s] w (RPar w (rpF s.data.toList 0)) := by
  go_enter Try.func26, Try.ntmps26
  go_wp2
  go_loopw [4, 5] (fun t i wr => ∃ (k f : Nat), k ≤ s.size ∧ f < 64 ∧ t = .int .i64 (f : Int) ∧ i = .int .i64 (k : Int) ∧ Hid (rpF s.data.toList 0 = rpF (s.data.toList.drop k) f) ∧ w.heap.size ≤ wr.heap.size ∧ Hid (Below w.heap.size w wr)) (fun _ i _ => s.size - (intOf i).toNat)
  case atStart => exact ⟨0, 0, Nat.zero_le _, by omega, by go_num, by go_num, rfl, Nat.le_refl _, Below.refl _ _⟩
  case round =>
    obtain ⟨k, f, hk, hf, rfl, rfl, HO, hwo, HB⟩ := hrel
    by_cases hlt : k < s.size
    · have h5 : (k : Int) < (s.size : Int) := by omega
      have h0 : (0 : Int) ≤ (k : Int) := by omega
      obtain ⟨wo, rfl⟩ : ∃ wo : World, wo = wr := ⟨_, rfl⟩
      go_wp2
      go_loopw [6, 7] (fun t i wr => ∃ (j : Nat), j ≤ 6 ∧ t = .int .i64 ((lastb s[k] j : Nat) : Int) ∧ i = .int .i64 (j : Int) ∧ w.heap.size ≤ wr.heap.size ∧ Hid (Below w.heap.size w wr)) (fun _ i _ => 6 - (intOf i).toNat)
      case atStart => exact ⟨0, Nat.zero_le _, by go_num, by go_num, hwo, HB.out⟩
      case round =>
        obtain ⟨j, hj, rfl, rfl, hwr, HBr⟩ := hrel
        by_cases hjl : j < 6
        · have j5 : (j : Int) < 6 := by omega
          have j0 : (0 : Int) ≤ (j : Int) := by omega
          have L1 := letter_run hjl
          by_cases hc : rl j = s[k]
          · have T1 : (((rl j).toNat : Int) == (s[k].toNat : Int)) = true := by rw [hc]; simp
            obtain ⟨q, hq⟩ : ∃ q, 2 ^ j = q := ⟨_, rfl⟩
            have HQ := Lib.hid hq
            have HC := Lib.hid hc
            clear hc hq
            go_wp2_with (go_quiet (fail))
            refine (spec_rbit j q _ hjl HQ.out).mono ?_
            rintro e w2 ⟨rfl, hb⟩
            have HB2 := Lib.hid ((below_drewN' HBr.out _).trans (hb.mono (by simpa using hwr)))
            have hw2 : w.heap.size ≤ w2.heap.size := HB2.out.size
            clear hb
            go_wp2
            go_roundw
            case rel => exact ⟨j + 1, by omega, lastb_yes HC.out HQ.out, by go_num, hw2, HB2.out⟩
            case measure => simp [intOf]; omega
          · have T1 : (((rl j).toNat : Int) == (s[k].toNat : Int)) = false := beq_eq_false_iff_ne.2 (fun h => hc (UInt8.toNat_inj.1 (by omega)))
            have HC := Lib.hid hc
            clear hc
            go_wp2_with (go_quiet (fail))
            go_roundw
            case rel => exact ⟨j + 1, by omega, lastb_no HC.out, by go_num, by simpa using hwr, below_drewN' HBr.out _⟩
            case measure => simp [intOf]; omega
        · have j5 : ¬ (j : Int) < 6 := by omega
          have e6 : j = 6 := by omega
          subst e6
          rcases rbit_cases s[k] with ⟨hz, hn⟩ | ⟨i, hi, hn, hz⟩
          · have Z1 : lastb s[k] 6 = 0 := by rw [lastb_six, hz]
            have HN := Lib.hid (rp_bad hlt HO.out hn)
            rw [Z1]
            clear hn hz Z1
            go_wp2
            go_ret2
            exact rpar_none HN.out HBr.out
          · obtain ⟨q, hq⟩ : ∃ q, 2 ^ i = q := ⟨_, rfl⟩
            obtain ⟨q1, q2⟩ := pow_six hi hq
            have Z1 : lastb s[k] 6 = q := by rw [lastb_six, hz, hq]
            rw [Z1]
            obtain ⟨d1, hd1⟩ : ∃ d, f / q = d := ⟨_, rfl⟩
            have ld1 : d1 ≤ f := hd1 ▸ Nat.div_le_self _ _
            have E1 : (f : Int).tdiv (q : Int) = (d1 : Int) := by rw [← hd1]; exact IntWalk.up_tdiv rfl rfl
            have hq0 : ¬ (q : Int) = 0 := by omega
            have hq1 : ((q : Int) == 0) = false := beq_eq_false_iff_ne.2 (by omega)
            have W1 : IntKind.i64.wrap (d1 : Int) = (d1 : Int) := IntWalk.i64_in _ (by omega)
            have HQ := Lib.hid hq
            have HD1 := Lib.hid hd1
            have HJ := Lib.hid hn
            clear hq hd1 hn hz Z1
            cases ht : tr f i with
            | true =>
              have F1 := rhalf_yes HQ.out HD1.out ht
              have HN := Lib.hid (rp_dup hlt HO.out hi HJ.out ht)
              clear ht
              go_wp2
              go_ret2
              exact rpar_none HN.out HBr.out
            | false =>
              have F1 := rhalf_no HQ.out HD1.out ht
              have HN := Lib.hid (rp_ok hlt HO.out hi HJ.out ht HQ.out)
              have hf2 : f + q < 64 := by rw [← HQ.out]; exact (tr_add hf hi ht).1
              have W3 : IntKind.i64.wrap ((f : Int) + (q : Int)) = (f : Int) + (q : Int) := IntWalk.i64_in _ (by omega)
              clear ht
              go_wp2
              go_roundw
              case rel => exact ⟨k + 1, f + q, by omega, hf2, by go_num, by go_num, HN, hwr, HBr.out⟩
              case measure => simp [intOf]; omega
    · have h5 : ¬ (k : Int) < (s.size : Int) := by omega
      have HN := Lib.hid (rp_end (by omega) HO.out)
      go_wp2
      go_ret2
      exact rpar_some HN.out HB.out
end Go.Proofs.Ytnnmnphmbjfopaa
