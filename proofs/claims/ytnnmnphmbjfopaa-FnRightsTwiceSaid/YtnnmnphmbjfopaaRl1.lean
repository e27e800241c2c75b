/-
  The walks of the laws FnRights, FnRightsText, FnRightsParse, FnRightsTwice, FnExactRightsText and FnExactRightsParse. Condition: the code can be read.
-/
import Derived.Test.YtnnmnphmbjfopaaRd
namespace Go.Proofs.Ytnnmnphmbjfopaa
open Go.RowKit
set_option linter.unusedVariables false

def RNo (w : World) (e : Ending) (w' : World) : Prop := e = .returned (.tuple #[.int .i64 0, .bool false]) ∧ Below w.heap.size w w'
def RYes (w : World) (f : Nat) (e : Ending) (w' : World) : Prop := e = .returned (.tuple #[.int .i64 (f : Int), .bool true]) ∧ Below w.heap.size w w'
theorem implr_no {s : ByteArray} (h : rpF s.data.toList 0 = none) (w : World) (hs : s.size ≤ 16777216) : Calls Try.prog 24 #[.string s] w (RNo w) := by
  have := impl_rparse s w hs
  rw [h] at this
  exact this
theorem implr_yes {s : ByteArray} {f : Nat} (h : rpF s.data.toList 0 = some f) (w : World) (hs : s.size ≤ 16777216) : Calls Try.prog 24 #[.string s] w (RYes w f) := by
  have := impl_rparse s w hs
  rw [h] at this
  exact this
theorem specr_no {s : ByteArray} (h : rpF s.data.toList 0 = none) (w : World) (hs : s.size ≤ 16777216) : Calls Try.prog 26 #[.string s] w (RNo w) := by
  have := spec_rparse s w hs
  rw [h] at this
  exact this
theorem specr_yes {s : ByteArray} {f : Nat} (h : rpF s.data.toList 0 = some f) (w : World) (hs : s.size ≤ 16777216) : Calls Try.prog 26 #[.string s] w (RYes w f) := by
  have := spec_rparse s w hs
  rw [h] at this
  exact this
/-- A text by its own letter. -/
def SayS (w : World) (v : ByteArray) (e : Ending) (w' : World) : Prop := e = .returned (.string v) ∧ Below w.heap.size w w'
theorem implr_text {n : Int} {v : ByteArray} (h : rB (rtI n) = v) (w : World) : Calls Try.prog 22 #[.int .i64 n] w (SayS w v) := by
  subst h
  exact impl_rtext n w
theorem specr_text {n : Int} {v : ByteArray} (h : rB (rtI n) = v) (w : World) : Calls Try.prog 23 #[.int .i64 n] w (SayS w v) := by
  subst h
  exact spec_rtext n w

set_option maxRecDepth 20000 in
set_option maxHeartbeats 2000000 in
theorem law_FnRights (A : Option Addr) (len cap : Nat) (w : World) (h : Coded w A len cap) : Calls Try.prog 3 #[.slice A len cap] w (Holds1 w) := by
  have HC := Lib.hid h
  clear h
  by_cases hl : len ≤ 1048576
  · have hl' : (len : Int) ≤ 1048576 := by omega
    go_enter Try.func3, Try.ntmps3
    go_wp2_with fail
    refine (draw_rtext A len cap _ HC.out).mono ?_
    rintro e w1 ⟨f, rfl, hb0⟩
    have HB1 := Lib.hid hb0
    clear hb0
    obtain ⟨v, hv⟩ : ∃ v, rB (rtI f) = v := ⟨_, rfl⟩
    have hv6 : v.size ≤ 6 := by rw [← hv, rB_size]; exact rtI_len f
    have HV := Lib.hid hv
    cases hr : isR f with
    | false =>
      rcases isR_no hr with h0 | h0
      all_goals
        clear hv hr
        go_wp2_with fail
        refine (implr_text HV.out _).mono ?_
        rintro e w2 ⟨rfl, hb0⟩
        have HB2 := Lib.hid (HB1.out.trans (hb0.mono HB1.out.size))
        clear hb0
        go_wp2_with fail
        refine (specr_text HV.out _).mono ?_
        rintro e w3 ⟨rfl, hb0⟩
        have HB3 := Lib.hid (HB2.out.trans (hb0.mono HB2.out.size))
        clear hb0
        go_wp2
        go_ret
        exact ⟨rfl, HB3.out⟩
    | true =>
      obtain ⟨a, ha, rfl⟩ := isR_nat hr
      have HP : Hid (rpF v.data.toList 0 = some a) := by rw [← hv, rtI_yes ha, rB_list]; exact rpF_back ha
      have a0 : ¬ (a : Int) < 0 := by omega
      have a1 : ¬ (63 : Int) < (a : Int) := by omega
      clear hv hr
      go_wp2_with fail
      refine (implr_text HV.out _).mono ?_
      rintro e w2 ⟨rfl, hb0⟩
      have HB2 := Lib.hid (HB1.out.trans (hb0.mono HB1.out.size))
      clear hb0
      go_wp2_with fail
      refine (specr_text HV.out _).mono ?_
      rintro e w3 ⟨rfl, hb0⟩
      have HB3 := Lib.hid (HB2.out.trans (hb0.mono HB2.out.size))
      clear hb0
      go_wp2_with fail
      refine (implr_yes HP.out _ (by omega)).mono ?_
      rintro e w4 ⟨rfl, hb0⟩
      have HB4 := Lib.hid (HB3.out.trans (hb0.mono HB3.out.size))
      clear hb0
      go_wp2
      go_ret
      exact ⟨rfl, HB4.out⟩
  · have hl' : (1048576 : Int) < (len : Int) := by omega
    go_enter Try.func3, Try.ntmps3
    go_wp2
    go_ret
    exact ⟨rfl, Below.refl _ _⟩

set_option maxRecDepth 20000 in
set_option maxHeartbeats 2000000 in
theorem law_FnRightsText (A : Option Addr) (len cap : Nat) (w : World) (h : Coded w A len cap) : Calls Try.prog 4 #[.slice A len cap] w (Holds1 w) := by
  have HC := Lib.hid h
  clear h
  by_cases hl : len ≤ 1048576
  · have hl' : (len : Int) ≤ 1048576 := by omega
    go_enter Try.func4, Try.ntmps4
    go_wp2_with fail
    refine (draw_rtext A len cap _ HC.out).mono ?_
    rintro e w1 ⟨f, rfl, hb0⟩
    have HB1 := Lib.hid hb0
    clear hb0
    obtain ⟨v, hv⟩ : ∃ v, rB (rtI f) = v := ⟨_, rfl⟩
    have hv6 : v.size ≤ 6 := by rw [← hv, rB_size]; exact rtI_len f
    have HV := Lib.hid hv
    cases hr : isR f with
    | false =>
      have hz : v.size = 0 := by rw [← hv, rtI_no hr, rB_size]; rfl
      rcases isR_no hr with h0 | h0
      · have h1 : ¬ (0 : Int) < f := by omega
        clear hv hr
        go_wp2_with fail
        refine (implr_text HV.out _).mono ?_
        rintro e w2 ⟨rfl, hb0⟩
        have HB2 := Lib.hid (HB1.out.trans (hb0.mono HB1.out.size))
        clear hb0
        go_wp2_with fail
        refine (specr_text HV.out _).mono ?_
        rintro e w3 ⟨rfl, hb0⟩
        have HB3 := Lib.hid (HB2.out.trans (hb0.mono HB2.out.size))
        clear hb0
        go_wp2
        go_loopw [6, 7] (fun n k wr => n = .int .i64 0 ∧ k = .int .i64 f ∧ wr = w3) (fun _ _ _ => 0)
        case atStart => exact ⟨rfl, rfl, rfl⟩
        case round =>
          obtain ⟨rfl, rfl, rfl⟩ := hrel
          go_wp2
          go_ret
          exact ⟨rfl, HB3.out⟩
      · have h1 : (0 : Int) < f := by omega
        have h2 : ¬ f ≤ 63 := by omega
        clear hv hr
        go_wp2_with fail
        refine (implr_text HV.out _).mono ?_
        rintro e w2 ⟨rfl, hb0⟩
        have HB2 := Lib.hid (HB1.out.trans (hb0.mono HB1.out.size))
        clear hb0
        go_wp2_with fail
        refine (specr_text HV.out _).mono ?_
        rintro e w3 ⟨rfl, hb0⟩
        have HB3 := Lib.hid (HB2.out.trans (hb0.mono HB2.out.size))
        clear hb0
        go_wp2
        go_loopw [6, 7] (fun n k wr => n = .int .i64 0 ∧ k = .int .i64 f ∧ wr = w3) (fun _ _ _ => 0)
        case atStart => exact ⟨rfl, rfl, rfl⟩
        case round =>
          obtain ⟨rfl, rfl, rfl⟩ := hrel
          go_wp2
          go_ret
          exact ⟨rfl, HB3.out⟩
    | true =>
      obtain ⟨a, ha, rfl⟩ := isR_nat hr
      have hz : v.size = (rtN a).length := by rw [← hv, rtI_yes ha, rB_size]
      have HZ := Lib.hid hz
      have a1 : (a : Int) ≤ 63 := by omega
      clear hv hr hz
      go_wp2_with fail
      refine (implr_text HV.out _).mono ?_
      rintro e w2 ⟨rfl, hb0⟩
      have HB2 := Lib.hid (HB1.out.trans (hb0.mono HB1.out.size))
      clear hb0
      go_wp2_with fail
      refine (specr_text HV.out _).mono ?_
      rintro e w3 ⟨rfl, hb0⟩
      have HB3 := Lib.hid (HB2.out.trans (hb0.mono HB2.out.size))
      clear hb0
      go_wp2
      go_loopw [6, 7] (fun n k wr => ∃ i m : Nat, i ≤ 6 ∧ m ≤ i ∧ Hid (m = cntR a i) ∧ n = .int .i64 (m : Int) ∧ k = .int .i64 ((a / 2 ^ i : Nat) : Int) ∧ wr = w3) (fun _ k _ => (intOf k).toNat)
      case atStart => exact ⟨0, 0, by omega, by omega, rfl, by go_num, by simp, rfl⟩
      case round =>
        obtain ⟨i, m, hi, hm, HM, rfl, rfl, rfl⟩ := hrel
        obtain ⟨d, hd⟩ : ∃ d, a / 2 ^ i = d := ⟨_, rfl⟩
        have hda : d ≤ a := hd ▸ Nat.div_le_self _ _
        rw [hd]
        by_cases h0 : d = 0
        · have d0 : ¬ (0 : Int) < (d : Int) := by omega
          have HE : Hid (m = v.size) := Lib.hid (by rw [HM.out, HZ.out]; exact cnt_end ha hi (by rw [hd, h0]))
          clear hd
          go_wp2
          go_ret
          exact ⟨ret_bl (by rw [HE.out]; simp), HB3.out⟩
        · have d0 : (0 : Int) < (d : Int) := by omega
          have hi6 : i < 6 := cnt_six (f := a) ha (by rw [hd]; exact h0)
          have HD := Lib.hid hd
          obtain ⟨t, ht⟩ : ∃ t, d % 2 = t := ⟨_, rfl⟩
          have ht2 : t < 2 := by omega
          obtain ⟨d', hd'⟩ : ∃ t, d / 2 = t := ⟨_, rfl⟩
          have T1 : (d : Int) % 2 = (t : Int) := by omega
          have T2 : (d : Int) / 2 = (d' : Int) := by omega
          have T3 : (d : Int).tdiv 2 = (d' : Int) := by rw [← hd']; exact IntWalk.up_tdiv rfl rfl
          have W1 : IntKind.i64.wrap ((m : Int) + (t : Int)) = (m : Int) + (t : Int) := IntWalk.i64_in _ (by omega)
          have W2 : IntKind.i64.wrap (d' : Int) = (d' : Int) := IntWalk.i64_in _ (by omega)
          have W3 : IntKind.i64.wrap (t : Int) = (t : Int) := IntWalk.i64_in _ (by omega)
          have HM1 : Hid (m + t = cntR a (i + 1)) := Lib.hid (by rw [cntR, HM.out, HD.out, ht])
          have HD1 : Hid (a / 2 ^ (i + 1) = d') := Lib.hid (by rw [cnt_step, HD.out, hd'])
          clear hd ht hd'
          go_wp2
          go_roundw
          case rel => exact ⟨i + 1, m + t, by omega, by omega, HM1, by go_num, by rw [HD1.out], trivial⟩
          case measure => simp [intOf]; omega
  · have hl' : (1048576 : Int) < (len : Int) := by omega
    go_enter Try.func4, Try.ntmps4
    go_wp2
    go_ret
    exact ⟨rfl, Below.refl _ _⟩
/-- The first bytes, backwards. -/
def back (s : ByteArray) (k : Nat) : ByteArray := rB (s.data.toList.take k).reverse
theorem back_size (s : ByteArray) (k : Nat) (h : k ≤ s.size) : (back s k).size = k := by
  unfold back
  rw [rB_size, List.length_reverse, List.length_take]
  have : s.data.toList.length = s.size := by simp
  omega
theorem back_step {s : ByteArray} {k : Nat} (h : k < s.size) : s.extract k (k + 1) ++ back s k = back s (k + 1) := by
  refine rB_ext ?_
  have hk : k < s.data.toList.length := by simpa using h
  unfold back
  rw [ByteArray.data_append, Array.toList_append, rB_list, rB_list, List.take_succ_eq_append_getElem hk, List.reverse_append]
  congr 1
  rw [ByteArray.data_extract, Array.toList_extract, List.extract_eq_take_drop, show k + 1 - k = 1 by omega, List.drop_eq_getElem_cons hk]
  rfl
theorem back_all (s : ByteArray) : (back s s.size).data.toList = s.data.toList.reverse := by
  unfold back
  rw [rB_list, List.take_of_length_le (by simp)]

set_option maxRecDepth 20000 in
set_option maxHeartbeats 2000000 in
theorem law_FnRightsParse (A : Option Addr) (len cap : Nat) (w : World) (h : Coded w A len cap) : Calls Try.prog 5 #[.slice A len cap] w (Holds1 w) := by
  have HC := Lib.hid h
  clear h
  by_cases hl : len ≤ 1048576
  · have hl' : (len : Int) ≤ 1048576 := by omega
    go_enter Try.func5, Try.ntmps5
    go_wp2_with fail
    refine (draw_rparse A len cap _ HC.out).mono ?_
    rintro e w1 ⟨v, hv, rfl, hb0⟩
    have HB1 := Lib.hid hb0
    clear hb0
    cases hp : rpF v.data.toList 0 with
    | none =>
      have HP := Lib.hid hp
      clear hp
      go_wp2_with fail
      refine (implr_no HP.out _ (by omega)).mono ?_
      rintro e w2 ⟨rfl, hb0⟩
      have HB2 := Lib.hid (HB1.out.trans (hb0.mono HB1.out.size))
      clear hb0
      go_wp2_with fail
      refine (specr_no HP.out _ (by omega)).mono ?_
      rintro e w3 ⟨rfl, hb0⟩
      have HB3 := Lib.hid (HB2.out.trans (hb0.mono HB2.out.size))
      clear hb0
      go_wp2
      go_ret
      exact ⟨rfl, HB3.out⟩
    | some f =>
      have HP := Lib.hid hp
      obtain ⟨f1, f2, f3⟩ := rpF_len hp
      have HR : Hid (rpF (back v v.size).data.toList 0 = some f) := Lib.hid (by rw [back_all, rpF_reverse, hp])
      obtain ⟨u, hu⟩ : ∃ u, rB (rtI (f : Int)) = u := ⟨_, rfl⟩
      have hus : u.size = v.size := by rw [← hu, rB_size, rtI_yes f1, f2]; simp
      have HU := Lib.hid hu
      have HUS := Lib.hid hus
      have hsz := back_size v v.size (Nat.le_refl _)
      have HSZ := Lib.hid hsz
      clear hp f2 f3 hu hus hsz
      go_wp2_with fail
      refine (implr_yes HP.out _ (by omega)).mono ?_
      rintro e w2 ⟨rfl, hb0⟩
      have HB2 := Lib.hid (HB1.out.trans (hb0.mono HB1.out.size))
      clear hb0
      go_wp2_with fail
      refine (specr_yes HP.out _ (by omega)).mono ?_
      rintro e w3 ⟨rfl, hb0⟩
      have HB3 := Lib.hid (HB2.out.trans (hb0.mono HB2.out.size))
      clear hb0
      go_wp2
      go_loopw [8, 9] (fun t k wr => ∃ (i : Nat) (x : ByteArray), i ≤ v.size ∧ x.size = i ∧ Hid (x = back v i) ∧ t = .string x ∧ k = .int .i64 (i : Int) ∧ wr = w3) (fun _ k _ => v.size - (intOf k).toNat)
      case atStart => exact ⟨0, _, Nat.zero_le _, rfl, rfl, rfl, by go_num, rfl⟩
      case round =>
        obtain ⟨i, x, hi, hxs, HX, rfl, rfl, rfl⟩ := hrel
        by_cases hlt : i < v.size
        · have i0 : (i : Int) < (v.size : Int) := by omega
          have i1 : (0 : Int) ≤ (i : Int) := by omega
          obtain ⟨y, hy⟩ : ∃ y, v.extract i (i + 1) = y := ⟨_, rfl⟩
          have hys : y.size = 1 := by rw [← hy, ByteArray.size_extract]; omega
          have HY := Lib.hid hy
          have i2 : (i : Int) + 1 ≤ (v.size : Int) := by omega
          have i3 : (i : Int) ≤ (i : Int) + 1 := by omega
          go_wp2
          go_roundw
          case rel => exact ⟨i + 1, _, by omega, by rw [ByteArray.size_append]; omega, by rw [HX.out, ← HY.out]; exact back_step hlt, rfl, by go_num, trivial⟩
          case measure => simp [intOf]; omega
        · have i0 : ¬ (i : Int) < (v.size : Int) := by omega
          have e1 : i = v.size := by omega
          have HX2 : Hid (rpF x.data.toList 0 = some f) := Lib.hid (by rw [HX.out, e1]; exact HR.out)
          have hx16 : x.size ≤ 16777216 := by omega
          clear hxs e1
          go_wp2_with fail
          refine (implr_yes HX2.out _ hx16).mono ?_
          rintro e w4 ⟨rfl, hb0⟩
          have HB4 := Lib.hid (HB3.out.trans (hb0.mono HB3.out.size))
          clear hb0
          go_wp2_with fail
          refine (implr_text HU.out _).mono ?_
          rintro e w5 ⟨rfl, hb0⟩
          have HB5 := Lib.hid (HB4.out.trans (hb0.mono HB4.out.size))
          clear hb0
          have hus := HUS.out
          go_wp2
          go_ret
          exact ⟨rfl, HB5.out⟩
  · have hl' : (1048576 : Int) < (len : Int) := by omega
    go_enter Try.func5, Try.ntmps5
    go_wp2
    go_ret
    exact ⟨rfl, Below.refl _ _⟩

set_option maxRecDepth 20000 in
set_option maxHeartbeats 2000000 in
theorem law_FnRightsTwice (A : Option Addr) (len cap : Nat) (w : World) (h : Coded w A len cap) : Calls Try.prog 6 #[.slice A len cap] w (Holds1 w) := by
  have HC := Lib.hid h
  clear h
  by_cases hl : len ≤ 1048576
  · have hl' : (len : Int) ≤ 1048576 := by omega
    go_enter Try.func6, Try.ntmps6
    go_wp2_with fail
    refine (draw_rparse A len cap _ HC.out).mono ?_
    rintro e w1 ⟨v, hv, rfl, hb0⟩
    have HB1 := Lib.hid hb0
    clear hb0
    cases hp : rpF v.data.toList 0 with
    | none =>
      have HP := Lib.hid hp
      clear hp
      go_wp2_with fail
      refine (implr_no HP.out _ (by omega)).mono ?_
      rintro e w2 ⟨rfl, hb0⟩
      have HB2 := Lib.hid (HB1.out.trans (hb0.mono HB1.out.size))
      clear hb0
      go_wp2_with fail
      refine (specr_no HP.out _ (by omega)).mono ?_
      rintro e w3 ⟨rfl, hb0⟩
      have HB3 := Lib.hid (HB2.out.trans (hb0.mono HB2.out.size))
      clear hb0
      go_wp2
      go_ret
      exact ⟨rfl, HB3.out⟩
    | some f =>
      have HP := Lib.hid hp
      obtain ⟨f1, f2, f3⟩ := rpF_len hp
      by_cases h0 : v = ByteArray.empty
      · subst h0
        clear hp f2 f3
        go_wp2_with fail
        refine (implr_yes HP.out _ (by omega)).mono ?_
        rintro e w2 ⟨rfl, hb0⟩
        have HB2 := Lib.hid (HB1.out.trans (hb0.mono HB1.out.size))
        clear hb0
        go_wp2_with fail
        refine (specr_yes HP.out _ (by omega)).mono ?_
        rintro e w3 ⟨rfl, hb0⟩
        have HB3 := Lib.hid (HB2.out.trans (hb0.mono HB2.out.size))
        clear hb0
        go_wp2
        go_ret
        exact ⟨rfl, HB3.out⟩
      · have e0 : (v.toList == []) = false := by
          rw [ByteArray.toList_eq]
          exact beq_eq_false_iff_ne.2 (fun h => h0 (rB_ext h))
        have e1 : ¬ v.toList = [] := beq_eq_false_iff_ne.1 e0
        have HA : Hid (rpF (v ++ v).data.toList 0 = none) := Lib.hid (by
          rw [ByteArray.data_append, Array.toList_append]
          exact rpF_twice hp (fun h => h0 (rB_ext h)))
        have HZ : Hid (rpF (v ++ (⟨#[122]⟩ : ByteArray)).data.toList 0 = none) := Lib.hid (by
          rw [ByteArray.data_append, Array.toList_append]
          exact rpF_z)
        have s1 : (v ++ v).size ≤ 16777216 := by rw [ByteArray.size_append]; omega
        have s2 : (v ++ (⟨#[122]⟩ : ByteArray)).size ≤ 16777216 := by
          rw [ByteArray.size_append]
          have : (⟨#[122]⟩ : ByteArray).size = 1 := rfl
          omega
        have S1 := Lib.hid s1
        have S2 := Lib.hid s2
        clear hp f2 f3 s1 s2
        go_wp2_with fail
        refine (implr_yes HP.out _ (by omega)).mono ?_
        rintro e w2 ⟨rfl, hb0⟩
        have HB2 := Lib.hid (HB1.out.trans (hb0.mono HB1.out.size))
        clear hb0
        go_wp2_with fail
        refine (specr_yes HP.out _ (by omega)).mono ?_
        rintro e w3 ⟨rfl, hb0⟩
        have HB3 := Lib.hid (HB2.out.trans (hb0.mono HB2.out.size))
        clear hb0
        go_wp2_with fail
        refine (implr_no HA.out _ S1.out).mono ?_
        rintro e w4 ⟨rfl, hb0⟩
        have HB4 := Lib.hid (HB3.out.trans (hb0.mono HB3.out.size))
        clear hb0
        go_wp2_with fail
        refine (implr_no HZ.out _ S2.out).mono ?_
        rintro e w5 ⟨rfl, hb0⟩
        have HB5 := Lib.hid (HB4.out.trans (hb0.mono HB4.out.size))
        clear hb0
        go_wp2
        go_ret
        exact ⟨rfl, HB5.out⟩
  · have hl' : (1048576 : Int) < (len : Int) := by omega
    go_enter Try.func6, Try.ntmps6
    go_wp2
    go_ret
    exact ⟨rfl, Below.refl _ _⟩

set_option maxRecDepth 20000 in
set_option maxHeartbeats 2000000 in
theorem law_FnExactRightsText (n : Int) (w : World) : Calls Try.prog 16 #[.int .i64 n] w (Holds1 w) := by
  obtain ⟨v, hv⟩ : ∃ v, rB (rtI n) = v := ⟨_, rfl⟩
  have HV := Lib.hid hv
  clear hv
  go_enter Try.func16, Try.ntmps16
  go_wp2_with fail
  refine (specr_text HV.out _).mono ?_
  rintro e w2 ⟨rfl, hb0⟩
  have HB2 := Lib.hid hb0
  clear hb0
  go_wp2_with fail
  refine (implr_text HV.out _).mono ?_
  rintro e w3 ⟨rfl, hb0⟩
  have HB3 := Lib.hid (HB2.out.trans (hb0.mono HB2.out.size))
  clear hb0
  go_wp2
  go_ret
  exact ⟨rfl, HB3.out⟩
set_option maxRecDepth 20000 in
set_option maxHeartbeats 2000000 in
theorem law_FnExactRightsParse (s : ByteArray) (w : World) (hs : s.size ≤ maxLen) : Calls Try.prog 17 #[.string s] w (Holds1 w) := by
  by_cases hl : s.size ≤ 1048576
  · have hl' : (s.size : Int) ≤ 1048576 := by omega
    cases hp : rpF s.data.toList 0 with
    | none =>
      have HP := Lib.hid hp
      clear hp
      go_enter Try.func17, Try.ntmps17
      go_wp2_with fail
      refine (specr_no HP.out _ (by omega)).mono ?_
      rintro e w2 ⟨rfl, hb0⟩
      have HB2 := Lib.hid hb0
      clear hb0
      go_wp2_with fail
      refine (implr_no HP.out _ (by omega)).mono ?_
      rintro e w3 ⟨rfl, hb0⟩
      have HB3 := Lib.hid (HB2.out.trans (hb0.mono HB2.out.size))
      clear hb0
      go_wp2
      go_ret
      exact ⟨rfl, HB3.out⟩
    | some f =>
      have HP := Lib.hid hp
      clear hp
      go_enter Try.func17, Try.ntmps17
      go_wp2_with fail
      refine (specr_yes HP.out _ (by omega)).mono ?_
      rintro e w2 ⟨rfl, hb0⟩
      have HB2 := Lib.hid hb0
      clear hb0
      go_wp2_with fail
      refine (implr_yes HP.out _ (by omega)).mono ?_
      rintro e w3 ⟨rfl, hb0⟩
      have HB3 := Lib.hid (HB2.out.trans (hb0.mono HB2.out.size))
      clear hb0
      go_wp2
      go_ret
      exact ⟨rfl, HB3.out⟩
  · have hl' : (1048576 : Int) < (s.size : Int) := by omega
    go_enter Try.func17, Try.ntmps17
    go_wp2
    go_ret
    exact ⟨rfl, Below.refl _ _⟩
end Go.Proofs.Ytnnmnphmbjfopaa
