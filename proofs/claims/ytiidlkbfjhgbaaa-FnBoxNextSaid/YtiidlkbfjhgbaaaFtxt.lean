/-
  The contracts of the model's l4Names and FlagsText. No condition.
-/
import Derived.Test.YtiidlkbfjhgbaaaFspc
namespace Go.Proofs.Ytiidlkbfjhgbaaa
open Go.RowKit
set_option linter.unusedVariables false

/-- A text. -/
def sB (l : List UInt8) : ByteArray := ⟨l.toArray⟩
theorem sB_list (l : List UInt8) : (sB l).data.toList = l := by unfold sB; simp
theorem sB_size (l : List UInt8) : (sB l).size = l.length := by unfold sB; rw [ByteArray.size]; simp
theorem sB_ext {u v : ByteArray} (h : u.data.toList = v.data.toList) : u = v := by
  cases u
  cases v
  congr
  exact Array.toList_inj.1 h
theorem sB_cat (a b : List UInt8) : sB a ++ sB b = sB (a ++ b) := by
  refine sB_ext ?_
  rw [ByteArray.data_append, Array.toList_append, sB_list, sB_list, sB_list]
theorem sB_of (s : ByteArray) : sB s.data.toList = s := sB_ext (sB_list _)
def fnames : Array Value := #[.string ⟨#[83, 101, 101, 110]⟩, .string ⟨#[65, 110, 115, 119, 101, 114, 101, 100]⟩, .string ⟨#[70, 108, 97, 103, 103, 101, 100]⟩, .string ⟨#[68, 101, 108, 101, 116, 101, 100]⟩, .string ⟨#[68, 114, 97, 102, 116]⟩]
theorem fnames_at {k : Nat} (hk : k < 5) : fnames[k]? = some (.string (sB (fnm k))) := by
  match k, hk with
  | 0, _ => rfl
  | 1, _ => rfl
  | 2, _ => rfl
  | 3, _ => rfl
  | 4, _ => rfl
theorem fnm_len {k : Nat} (hk : k < 5) : (fnm k).length ≤ 8 := by
  match k, hk with
  | 0, _ | 1, _ | 2, _ | 3, _ | 4, _ => decide
/-- What l4Names gives. -/
def Names (w : World) (e : Ending) (w' : World) : Prop := e = .returned (.slice (some ⟨w.heap.size, 0, none⟩) 5 5) ∧ Whole w' w.heap.size 9 fnames ∧ Below w.heap.size w w'
set_option maxHeartbeats 400000 in
theorem spec_names (w : World) : Calls Try.prog 81 #[] w (Names w) := by
  have HB := Lib.hid ((Below.refl w.heap.size w).alloc (Nat.le_refl _) (.cells fnames 9))
  have HW := Lib.hid (Whole.made w 9 fnames)
  go_enter Try.func81, Try.ntmps81
  go_wp2_with fail
  go_ret
  exact ⟨rfl, HW.out, HB.out⟩
/-- A text that is told. -/
def SaysT (w : World) (l : List UInt8) (e : Ending) (w' : World) : Prop := e = .returned (.string (sB l)) ∧ Below w.heap.size w w'
/-- The text of what may be no flags. -/
def ftI (f : Int) : List UInt8 := if isF f then textF f.toNat else []
theorem ftI_yes {f : Nat} (hf : f < 32) : ftI (f : Int) = textF f := by
  unfold ftI
  rw [isF_of hf]
  rfl
theorem ftI_no {f : Int} (hf : isF f = false) : ftI f = [] := by
  unfold ftI
  rw [hf]
  rfl
theorem out_yes {f k : Nat} (h : tb f k = true) (h1 : 1 < (outF f k).length) : (outF f k ++ [32]) ++ fnm k = outF f (k + 1) := by rw [outF, if_pos h, if_pos h1]
theorem out_first {f k : Nat} (h : tb f k = true) (h1 : ¬ 1 < (outF f k).length) : outF f k ++ fnm k = outF f (k + 1) := by rw [outF, if_pos h, if_neg h1]
theorem out_no {f k : Nat} (h : tb f k = false) : outF f k = outF f (k + 1) := by rw [outF, if_neg (by rw [h]; simp)]
theorem blank_B : (⟨#[32]⟩ : ByteArray) = sB [32] := rfl
theorem cat_three (a b : List UInt8) : sB a ++ ⟨#[32]⟩ ++ sB b = sB ((a ++ [32]) ++ b) := by rw [blank_B, sB_cat, sB_cat]
theorem cat_end (a : List UInt8) : sB a ++ ⟨#[41]⟩ = sB (a ++ [41]) := by rw [show (⟨#[41]⟩ : ByteArray) = sB [41] from rfl, sB_cat]
theorem ret_str {a b : ByteArray} (h : a = b) : Ending.returned (.string a) = .returned (.string b) := by rw [h]
theorem val_str {a b : ByteArray} (h : a = b) : Value.string a = .string b := by rw [h]
set_option maxRecDepth 20000 in
set_option maxHeartbeats 4000000 in
theorem spec_ftext_yes (f : Nat) (w : World) (hf : f < 32) : Calls Try.prog 38 #[.int .i64 (f : Int)] w (SaysT w (textF f)) := by
  have HF := Lib.hid (isF_of hf)
  go_enter Try.func38, Try.ntmps38
  go_wp2_with fail
  refine (spec_isflags (f : Int) _).mono ?_
  rintro e w0 ⟨rfl, hw0⟩
  subst w0
  rw [HF.out]
  go_wp2_with fail
  refine (spec_names _).mono ?_
  rintro e w1 ⟨rfl, hW, hb⟩
  obtain ⟨g, hg⟩ : ∃ g, w.heap.size = g := ⟨_, rfl⟩
  rw [hg] at hW hb ⊢
  have HG := Lib.hid hg
  have HW1 := Lib.hid hW
  have HB1 := Lib.hid hb
  have hw1 := hW.lt
  clear hW hb hg
  go_wp2
  go_loopw [3, 5] (fun t i wr => ∃ (k : Nat) (s : ByteArray), k ≤ 5 ∧ s = sB (outF f k) ∧ t = .string s ∧ i = .int .i64 (k : Int) ∧ g < wr.heap.size ∧ Hid (Whole wr g 9 fnames) ∧ Hid (Below g w wr)) (fun _ i _ => 5 - (intOf i).toNat)
  case atStart => exact ⟨0, _, Nat.zero_le _, rfl, rfl, by go_num, hw1, HW1.out, HB1.out⟩
  case round =>
    obtain ⟨k, s, hk, hs, rfl, rfl, hwr, HW, HB⟩ := hrel
    have hlen := outF_len hf hk
    have hsz : s.size = (outF f k).length := by rw [hs, sB_size]
    have hs40 : s.size ≤ 40 := by omega
    have HS := Lib.hid hs
    have HSZ := Lib.hid hsz
    clear hs hsz
    by_cases hlt : k < 5
    · have h5 : (k : Int) < 5 := by omega
      have h0 : (0 : Int) ≤ (k : Int) := by omega
      obtain ⟨q, hq⟩ : ∃ q, 2 ^ k = q := ⟨_, rfl⟩
      obtain ⟨q1, q2⟩ := pow_five hlt hq
      obtain ⟨d1, hd1⟩ : ∃ d, f / q = d := ⟨_, rfl⟩
      have ld1 : d1 ≤ f := hd1 ▸ Nat.div_le_self _ _
      have E1 : (f : Int).tdiv (q : Int) = (d1 : Int) := by rw [← hd1]; exact IntWalk.up_tdiv rfl rfl
      have hq0 : ¬ (q : Int) = 0 := by omega
      have HQ := Lib.hid hq
      have HD1 := Lib.hid hd1
      clear hd1 hq
      have W1 : IntKind.i64.wrap (d1 : Int) = (d1 : Int) := IntWalk.i64_in _ (by omega)
      have hnl := fnm_len hlt
      obtain ⟨v, hv⟩ : ∃ v, sB (fnm k) = v := ⟨_, rfl⟩
      have hvs : v.size ≤ 8 := by rw [← hv, sB_size]; exact hnl
      have HV := Lib.hid hv
      clear hlen hnl
      cases hb1 : tb f k with
      | true =>
        have F1 := half_yes HQ.out HD1.out hb1
        have HT := Lib.hid hb1
        clear hb1
        by_cases h1 : 1 < s.size
        · have h1' : (1 : Int) < (s.size : Int) := by omega
          go_wp2_with fail
          refine (spec_bit k q _ hlt HQ.out).mono ?_
          rintro e w2 ⟨rfl, hb⟩
          have HB2 := Lib.hid (HB.out.trans (hb.mono (Nat.le_of_lt hwr)))
          have hW2 := HW.out.below hb hwr
          have hc : w2.cell? ⟨g, k, none⟩ = some (.string v) := (hW2.cell k).trans ((fnames_at hlt).trans (by rw [hv]))
          have HW2 := Lib.hid hW2
          have hw2 := hW2.lt
          clear hb hW2 hv
          go_wp2
          go_roundw
          case rel => exact ⟨k + 1, _, by omega, by rw [HS.out, ← HV.out, cat_three, out_yes HT.out (by rw [← HSZ.out]; exact h1)], rfl, by go_num, hw2, HW2.out, HB2.out⟩
          case measure => simp [intOf]; omega
        · have h1' : ¬ (1 : Int) < (s.size : Int) := by omega
          go_wp2_with fail
          refine (spec_bit k q _ hlt HQ.out).mono ?_
          rintro e w2 ⟨rfl, hb⟩
          have HB2 := Lib.hid (HB.out.trans (hb.mono (Nat.le_of_lt hwr)))
          have hW2 := HW.out.below hb hwr
          have hc : w2.cell? ⟨g, k, none⟩ = some (.string v) := (hW2.cell k).trans ((fnames_at hlt).trans (by rw [hv]))
          have HW2 := Lib.hid hW2
          have hw2 := hW2.lt
          clear hb hW2 hv
          go_wp2
          go_roundw
          case rel => exact ⟨k + 1, _, by omega, by rw [HS.out, ← HV.out, sB_cat, out_first HT.out (by rw [← HSZ.out]; exact h1)], rfl, by go_num, hw2, HW2.out, HB2.out⟩
          case measure => simp [intOf]; omega
      | false =>
        have F1 := half_no HQ.out HD1.out hb1
        have HT := Lib.hid hb1
        clear hb1 hv
        go_wp2_with fail
        refine (spec_bit k q _ hlt HQ.out).mono ?_
        rintro e w2 ⟨rfl, hb⟩
        have HB2 := Lib.hid (HB.out.trans (hb.mono (Nat.le_of_lt hwr)))
        have hW2 := HW.out.below hb hwr
        have HW2 := Lib.hid hW2
        have hw2 := hW2.lt
        clear hb hW2
        go_wp2
        go_roundw
        case rel => exact ⟨k + 1, _, by omega, by rw [HS.out, out_no HT.out], rfl, by go_num, hw2, HW2.out, HB2.out⟩
        case measure => simp [intOf]; omega
    · have h5 : ¬ (k : Int) < 5 := by omega
      have hk5 : k = 5 := by omega
      subst hk5
      clear hlen
      go_wp2
      go_ret
      exact ⟨ret_str (by rw [HS.out, cat_end]; rfl), by rw [HG.out]; exact HB.out⟩
set_option maxHeartbeats 400000 in
theorem spec_ftext_no (f : Int) (w : World) (hf : isF f = false) : Calls Try.prog 38 #[.int .i64 f] w (SaysT w []) := by
  have HF := Lib.hid hf
  clear hf
  go_enter Try.func38, Try.ntmps38
  go_wp2_with fail
  refine (spec_isflags f _).mono ?_
  rintro e w1 ⟨rfl, rfl⟩
  rw [HF.out]
  go_wp2
  go_ret
  exact ⟨rfl, Below.refl _ _⟩
theorem spec_ftext (f : Int) (w : World) : Calls Try.prog 38 #[.int .i64 f] w (SaysT w (ftI f)) := by
  cases hf : isF f with
  | false =>
    rw [ftI_no hf]
    exact spec_ftext_no f w hf
  | true =>
    obtain ⟨a, ha, rfl⟩ := isF_nat hf
    rw [ftI_yes ha]
    exact spec_ftext_yes a w ha
end Go.Proofs.Ytiidlkbfjhgbaaa
