/-
  The walks of the laws FnFlags, FnFlagsParse, FnFlagsTwice, FnFlagsOrder and FnExactFlagsParse. Condition: the code can be read; the table holds the five names.
-/
import Derived.Test.YtbcooiifpfdiaaaDoorFl2
import Derived.Test.YtbcooiifpfdiaaaDoorFspp
import Derived.Deep.RegionWith
namespace Go.Proofs.YtbcooiifpfdiaaaDoor
open Go.RowKit
set_option linter.unusedVariables false

theorem Lst.drew {w : World} (h : Lst w) : Lst w.drew := h
theorem fbelow_drew {B : Nat} {a w : World} (h : Below B a w) : Below B a w.drew := ⟨h.os, h.tape, h.output, h.size, h.block⟩
def FNo (w : World) (e : Ending) (w' : World) : Prop := e = .returned (.tuple #[.int .i64 0, .bool false]) ∧ Below w.heap.size w w'
def FYes (w : World) (f : Nat) (e : Ending) (w' : World) : Prop := e = .returned (.tuple #[.int .i64 (f : Int), .bool true]) ∧ Below w.heap.size w w'
theorem impl_no {s : ByteArray} (h : parF s.data.toList = none) (w : World) (hs : s.size ≤ 16777216) (hL : Lst w) : Calls Tryd.prog 15 #[.string s] w (FNo w) := by
  have := impl_fparse s w hs hL
  rw [h] at this
  exact this
theorem impl_yes {s : ByteArray} {f : Nat} (h : parF s.data.toList = some f) (w : World) (hs : s.size ≤ 16777216) (hL : Lst w) : Calls Tryd.prog 15 #[.string s] w (FYes w f) := by
  have := impl_fparse s w hs hL
  rw [h] at this
  exact this
theorem spec_no {s : ByteArray} (h : parF s.data.toList = none) (w : World) (hs : s.size ≤ 16777216) : Calls Tryd.prog 17 #[.string s] w (FNo w) := by
  have := spec_fparse s w hs
  rw [h] at this
  exact this
theorem spec_yes {s : ByteArray} {f : Nat} (h : parF s.data.toList = some f) (w : World) (hs : s.size ≤ 16777216) : Calls Tryd.prog 17 #[.string s] w (FYes w f) := by
  have := spec_fparse s w hs
  rw [h] at this
  exact this
theorem ftI_le (f : Int) : (ftI f).length ≤ 40 := by
  cases hf : isF f with
  | false => rw [ftI_no hf]; exact Nat.zero_le _
  | true =>
    obtain ⟨a, ha, rfl⟩ := isF_nat hf
    rw [ftI_yes ha]
    exact (textF_shape ha).2.1
set_option maxRecDepth 20000 in
set_option maxHeartbeats 2000000 in
theorem draw_fparse (A : Option Addr) (len cap : Nat) (w : World) (h : Coded w A len cap) :
    Calls Tryd.prog 16 #[.slice A len cap] w (DrewText w) := by
  have HK := Lib.hid h.2.2
  have hk1 := h.1
  have hk2 := h.2.1
  clear h
  go_enter Tryd.func16, Tryd.ntmps16
  go_wp2_with fail
  refine (open_any A len cap _ hk1 hk2 HK.out).mono ?_
  rintro e w1 ⟨rfl, hr, hb, hz⟩
  have HR := Lib.hid hr
  have HB := Lib.hid hb
  clear hr hb
  go_wp2_with fail
  refine (pick_any w.heap.size 0 4 w1 HR.out (by omega) (by omega) (by omega)).mono ?_
  rintro e w2 ⟨x, hx, rfl, hr, hg⟩
  have HR2 := Lib.hid hr
  have HG2 := Lib.hid hg
  clear hr hg
  by_cases h0 : x = 0
  · subst h0
    go_wp2_with fail
    refine (of_new w.heap.size 1 [[], [40], [41], [40, 41], [40, 83, 101, 101, 110], [40, 115, 101, 101, 110, 41], [40, 83, 101, 101, 110, 32, 83, 101, 101, 110, 41], [40, 68, 114, 97, 102, 116, 32, 83, 101, 101, 110, 41], [40, 32, 83, 101, 101, 110, 41], [40, 83, 101, 101, 110, 32, 41], [40, 83, 101, 101, 110, 32, 32, 68, 114, 97, 102, 116, 41]] w2 HR2.out (by omega) (by decide) (by decide)).mono ?_
    rintro e w3 ⟨l, hl, rfl, hr, hg⟩
    have HG3 := Lib.hid (gr_trans HG2.out hg)
    have HLL := Lib.hid hl
    clear hr hg hl
    unfold str
    go_wp2
    go_ret
    exact ⟨_, Nat.le_trans (text_le (by decide) HLL.out) (by omega), rfl, below_gr HB.out HG3.out (by omega) (Nat.le_refl _)⟩
  · have h0' : ((x : Int) == 0) = false := beq_eq_false_iff_ne.2 (by omega)
    clear h0
    go_wp2_with fail
    refine (flags_draw w.heap.size 1 w2 HR2.out (by omega)).mono ?_
    rintro e w3 ⟨f, q, hf1, hf2, hq, rfl, hr, hg⟩
    have HB3 := Lib.hid (below_gr HB.out (gr_trans HG2.out hg) (by omega) (Nat.le_refl _))
    clear hr hg
    go_wp2_with fail
    refine (spec_ftext f _).mono ?_
    rintro e w4 ⟨rfl, hb⟩
    have HB4 := Lib.hid (HB3.out.trans (hb.mono HB3.out.size))
    clear hb
    go_wp2
    go_ret
    exact ⟨sB (ftI f), by rw [sB_size]; have := ftI_le f; omega, rfl, HB4.out⟩
set_option maxRecDepth 20000 in
set_option maxHeartbeats 2000000 in
theorem law_FnFlags (A : Option Addr) (len cap : Nat) (w : World) (h : Coded w A len cap) (hL : Lst w) : Calls Tryd.prog 3 #[.slice A len cap] w (Holds1 w) := by
  have HC := Lib.hid h
  have HL := Lib.hid hL
  clear h hL
  by_cases hl : len ≤ 1048576
  · have hl' : (len : Int) ≤ 1048576 := by omega
    go_enter Tryd.func3, Tryd.ntmps3
    go_wp2_with fail
    refine (draw_ftext A len cap _ HC.out).mono ?_
    rintro e w1 ⟨f, rfl, hb⟩
    have HB1 := Lib.hid hb
    have HL1 := Lib.hid (HL.out.below hb (Nat.le_refl _))
    clear hb
    cases hf : isF f with
    | false =>
      have HT := Lib.hid (ftI_no hf)
      clear hf
      go_wp2_with fail
      refine (impl_ftext f _ HL1.out).mono ?_
      rintro e w2 ⟨rfl, hb⟩
      have HB2 := Lib.hid (HB1.out.trans (hb.mono HB1.out.size))
      have HL2 := Lib.hid (HL1.out.below hb (Nat.le_refl _))
      clear hb
      rw [HT.out, sB_nil]
      go_wp2_with fail
      refine (spec_ftext f _).mono ?_
      rintro e w3 ⟨rfl, hb⟩
      have HB3 := Lib.hid (HB2.out.trans (hb.mono HB2.out.size))
      have HL3 := Lib.hid (HL2.out.below hb (Nat.le_refl _))
      clear hb
      rw [HT.out, sB_nil]
      go_wp2
      go_ret
      exact ⟨rfl, HB3.out⟩
    | true =>
      obtain ⟨a, ha, rfl⟩ := isF_nat hf
      obtain ⟨T, hT, hT1, hT2⟩ := text_some ha
      have HT := Lib.hid hT
      obtain ⟨v, hv⟩ : ∃ v, sB T = v := ⟨_, rfl⟩
      have HV := Lib.hid hv
      have HP : Hid (parF v.data.toList = some a) := by show _ = _; rw [← hv, sB_list, ← hT, ftI_yes ha, parF_text ha]
      have hvs : v.size ≤ 40 := by rw [← hv, sB_size, ← hT]; exact ftI_le _
      rw [hv] at hT1 hT2
      clear hf hT hv
      go_wp2_with fail
      refine (impl_ftext (a : Int) _ HL1.out).mono ?_
      rintro e w2 ⟨rfl, hb⟩
      have HB2 := Lib.hid (HB1.out.trans (hb.mono HB1.out.size))
      have HL2 := Lib.hid (HL1.out.below hb (Nat.le_refl _))
      clear hb
      rw [HT.out, HV.out]
      go_wp2_with fail
      refine (spec_ftext (a : Int) _).mono ?_
      rintro e w3 ⟨rfl, hb⟩
      have HB3 := Lib.hid (HB2.out.trans (hb.mono HB2.out.size))
      have HL3 := Lib.hid (HL2.out.below hb (Nat.le_refl _))
      clear hb
      rw [HT.out, HV.out]
      go_wp2_with fail
      refine (impl_yes HP.out _ (by omega) HL3.out).mono ?_
      rintro e w4 ⟨rfl, hb⟩
      have HB4 := Lib.hid (HB3.out.trans (hb.mono HB3.out.size))
      have HL4 := Lib.hid (HL3.out.below hb (Nat.le_refl _))
      clear hb
      go_wp2
      go_ret
      exact ⟨rfl, HB4.out⟩
  · have hl' : (1048576 : Int) < (len : Int) := by omega
    go_enter Tryd.func3, Tryd.ntmps3
    go_wp2
    go_ret
    exact ⟨rfl, Below.refl _ _⟩
set_option maxRecDepth 20000 in
set_option maxHeartbeats 2000000 in
theorem law_FnFlagsParse (A : Option Addr) (len cap : Nat) (w : World) (h : Coded w A len cap) (hL : Lst w) : Calls Tryd.prog 5 #[.slice A len cap] w (Holds1 w) := by
  have HC := Lib.hid h
  have HL := Lib.hid hL
  clear h hL
  by_cases hl : len ≤ 1048576
  · have hl' : (len : Int) ≤ 1048576 := by omega
    go_enter Tryd.func5, Tryd.ntmps5
    go_wp2_with fail
    refine (draw_fparse A len cap _ HC.out).mono ?_
    rintro e w1 ⟨s, hs, rfl, hb⟩
    have HB1 := Lib.hid hb
    have HL1 := Lib.hid (HL.out.below hb (Nat.le_refl _))
    clear hb
    cases hp : parF s.data.toList with
    | none =>
      have HP := Lib.hid hp
      clear hp
      go_wp2_with fail
      refine (impl_no HP.out _ (by omega) HL1.out).mono ?_
      rintro e w2 ⟨rfl, hb⟩
      have HB2 := Lib.hid (HB1.out.trans (hb.mono HB1.out.size))
      have HL2 := Lib.hid (HL1.out.below hb (Nat.le_refl _))
      clear hb
      go_wp2_with fail
      refine (spec_no HP.out _ (by omega)).mono ?_
      rintro e w3 ⟨rfl, hb⟩
      have HB3 := Lib.hid (HB2.out.trans (hb.mono HB2.out.size))
      have HL3 := Lib.hid (HL2.out.below hb (Nat.le_refl _))
      clear hb
      go_wp2
      go_ret
      exact ⟨rfl, HB3.out⟩
    | some f =>
      have hf := parF_lt hp
      have HP := Lib.hid hp
      have HT := Lib.hid (ftI_yes hf)
      obtain ⟨v, hv⟩ : ∃ v, sB (textF f) = v := ⟨_, rfl⟩
      have HV := Lib.hid hv
      have HP2 : Hid (parF v.data.toList = some f) := by show _ = _; rw [← hv, sB_list, parF_text hf]
      have hvz : v.size = s.size := by rw [← hv, sB_size, parF_len hp]; simp
      have hve : ((v.size : Int) == (s.size : Int)) = true := by rw [hvz]; simp
      have hvs : v.size ≤ 100 := by omega
      have HVZ := Lib.hid hvz
      clear hp hv hvz
      go_wp2_with fail
      refine (impl_yes HP.out _ (by omega) HL1.out).mono ?_
      rintro e w2 ⟨rfl, hb⟩
      have HB2 := Lib.hid (HB1.out.trans (hb.mono HB1.out.size))
      have HL2 := Lib.hid (HL1.out.below hb (Nat.le_refl _))
      clear hb
      go_wp2_with fail
      refine (spec_yes HP.out _ (by omega)).mono ?_
      rintro e w3 ⟨rfl, hb⟩
      have HB3 := Lib.hid (HB2.out.trans (hb.mono HB2.out.size))
      have HL3 := Lib.hid (HL2.out.below hb (Nat.le_refl _))
      clear hb
      go_wp2_with fail
      refine (impl_ftext (f : Int) _ HL3.out).mono ?_
      rintro e w4 ⟨rfl, hb⟩
      have HB4 := Lib.hid (HB3.out.trans (hb.mono HB3.out.size))
      have HL4 := Lib.hid (HL3.out.below hb (Nat.le_refl _))
      clear hb
      rw [HT.out, HV.out]
      go_wp2_with fail
      refine (impl_yes HP2.out _ (by omega) HL4.out).mono ?_
      rintro e w5 ⟨rfl, hb⟩
      have HB5 := Lib.hid (HB4.out.trans (hb.mono HB4.out.size))
      have HL5 := Lib.hid (HL4.out.below hb (Nat.le_refl _))
      clear hb
      go_wp2
      go_ret
      exact ⟨rfl, HB5.out⟩
  · have hl' : (1048576 : Int) < (len : Int) := by omega
    go_enter Tryd.func5, Tryd.ntmps5
    go_wp2
    go_ret
    exact ⟨rfl, Below.refl _ _⟩
theorem twice_list {s : ByteArray} {m f : Nat} (h : parF s.data.toList = some f) (hf : f ≠ 0) (hm : s.size = m + 1) : parF (s.extract 0 m ++ ⟨#[32]⟩ ++ s.extract 1 s.size).data.toList = none := by
  have hl : s.data.toList.length = s.size := by simp
  rcases parF_some h with ⟨_, h0⟩ | ⟨mm, hL, hmm, _⟩
  · exact absurd h0 hf
  · rw [hL] at h
    have e1 : (s.extract 0 m).data.toList = 40 :: mm := by
      rw [extract_list, hL, List.drop_zero]
      have : m = (40 :: mm).length := by rw [hL] at hl; simp at hl ⊢; omega
      rw [Nat.sub_zero, this, ← List.cons_append, List.take_left]
    have e2 : (s.extract 1 s.size).data.toList = mm ++ [41] := by rw [extract_drop, hL]; rfl
    rw [ByteArray.data_append, Array.toList_append, ByteArray.data_append, Array.toList_append, e1, e2]
    have := parF_twice hmm h
    simpa using this
theorem seen_list {s : ByteArray} {m f : Nat} (h : parF s.data.toList = some f) (hf : f ≠ 0) (h2 : tb f 0 = false) (hm : s.size = m + 1) : parF (s.extract 0 m ++ ⟨#[32, 83, 101, 101, 110, 41]⟩).data.toList = some (f + 1) := by
  have hl : s.data.toList.length = s.size := by simp
  rcases parF_some h with ⟨_, h0⟩ | ⟨mm, hL, hmm, _⟩
  · exact absurd h0 hf
  · rw [hL] at h
    have e1 : (s.extract 0 m).data.toList = 40 :: mm := by
      rw [extract_list, hL, List.drop_zero]
      have : m = (40 :: mm).length := by rw [hL] at hl; simp at hl ⊢; omega
      rw [Nat.sub_zero, this, ← List.cons_append, List.take_left]
    rw [ByteArray.data_append, Array.toList_append, e1]
    have := parF_seen hmm h h2
    simpa [fnm] using this
theorem parF_pos {s : ByteArray} {f : Nat} (h : parF s.data.toList = some f) : 2 ≤ s.size := by
  have hl : s.data.toList.length = s.size := by simp
  rcases Nat.lt_or_ge s.size 2 with h1 | h1
  · rw [parF_short (by omega)] at h
    cases h
  · exact h1
theorem tb_zero {f : Nat} : tb f 0 = false ↔ f % 2 = 0 := by
  unfold tb
  rw [Nat.pow_zero, Nat.div_one, beq_eq_false_iff_ne]
  omega
set_option maxRecDepth 20000 in
set_option maxHeartbeats 2000000 in
theorem law_FnFlagsTwice (A : Option Addr) (len cap : Nat) (w : World) (h : Coded w A len cap) (hL : Lst w) : Calls Tryd.prog 6 #[.slice A len cap] w (Holds1 w) := by
  have HC := Lib.hid h
  have HL := Lib.hid hL
  clear h hL
  by_cases hl : len ≤ 1048576
  · have hl' : (len : Int) ≤ 1048576 := by omega
    go_enter Tryd.func6, Tryd.ntmps6
    go_wp2_with fail
    refine (draw_fparse A len cap _ HC.out).mono ?_
    rintro e w1 ⟨s, hs, rfl, hb⟩
    have HB1 := Lib.hid hb
    have HL1 := Lib.hid (HL.out.below hb (Nat.le_refl _))
    clear hb
    cases hp : parF s.data.toList with
    | none =>
      have HP := Lib.hid hp
      clear hp
      go_wp2_with fail
      refine (impl_no HP.out _ (by omega) HL1.out).mono ?_
      rintro e w2 ⟨rfl, hb⟩
      have HB2 := Lib.hid (HB1.out.trans (hb.mono HB1.out.size))
      have HL2 := Lib.hid (HL1.out.below hb (Nat.le_refl _))
      clear hb
      go_wp2_with fail
      refine (spec_no HP.out _ (by omega)).mono ?_
      rintro e w3 ⟨rfl, hb⟩
      have HB3 := Lib.hid (HB2.out.trans (hb.mono HB2.out.size))
      have HL3 := Lib.hid (HL2.out.below hb (Nat.le_refl _))
      clear hb
      go_wp2
      go_ret
      exact ⟨rfl, HB3.out⟩
    | some f =>
      have hf := parF_lt hp
      have HP := Lib.hid hp
      by_cases h0 : f = 0
      · subst h0
        clear hp
        go_wp2_with fail
        refine (impl_yes HP.out _ (by omega) HL1.out).mono ?_
        rintro e w2 ⟨rfl, hb⟩
        have HB2 := Lib.hid (HB1.out.trans (hb.mono HB1.out.size))
        have HL2 := Lib.hid (HL1.out.below hb (Nat.le_refl _))
        clear hb
        go_wp2_with fail
        refine (spec_yes HP.out _ (by omega)).mono ?_
        rintro e w3 ⟨rfl, hb⟩
        have HB3 := Lib.hid (HB2.out.trans (hb.mono HB2.out.size))
        have HL3 := Lib.hid (HL2.out.below hb (Nat.le_refl _))
        clear hb
        go_wp2
        go_ret
        exact ⟨rfl, HB3.out⟩
      · have hf0 : ((f : Int) == 0) = false := beq_eq_false_iff_ne.2 (by omega)
        have h2 := parF_pos hp
        obtain ⟨m, hm⟩ : ∃ m, s.size = m + 1 := ⟨s.size - 1, by omega⟩
        have HTW := Lib.hid (twice_list hp h0 hm)
        have E1 : (s.size : Int) - 1 = (m : Int) := by omega
        have E2 : IntKind.i64.wrap ((s.size : Int) - 1) = (m : Int) := (IntWalk.i64_in _ (by omega)).trans E1
        have E3 : IntKind.i64.wrap (m : Int) = (m : Int) := IntWalk.i64_in _ (by omega)
        have m0 : (0 : Int) ≤ (m : Int) := by omega
        have m2 : (m : Int) ≤ (s.size : Int) := by omega
        have m3 : (1 : Int) ≤ (s.size : Int) := by omega
        have z1 : (s.extract 0 m).size ≤ 100 := by rw [ByteArray.size_extract]; omega
        have z2 : (s.extract 1 s.size).size ≤ 100 := by rw [ByteArray.size_extract]; omega
        have z3 : (s.extract 0 m ++ ⟨#[32]⟩ ++ s.extract 1 s.size).size ≤ 16777216 := by rw [ByteArray.size_append, ByteArray.size_append, one_size]; omega
        have Z3 := Lib.hid z3
        clear hp hm z3 h0
        go_wp2_with fail
        refine (impl_yes HP.out _ (by omega) HL1.out).mono ?_
        rintro e w2 ⟨rfl, hb⟩
        have HB2 := Lib.hid (HB1.out.trans (hb.mono HB1.out.size))
        have HL2 := Lib.hid (HL1.out.below hb (Nat.le_refl _))
        clear hb
        go_wp2_with fail
        refine (spec_yes HP.out _ (by omega)).mono ?_
        rintro e w3 ⟨rfl, hb⟩
        have HB3 := Lib.hid (HB2.out.trans (hb.mono HB2.out.size))
        have HL3 := Lib.hid (HL2.out.below hb (Nat.le_refl _))
        clear hb
        go_wp2
        go_region_with ((go_at_call 15; refine (impl_no HTW.out _ Z3.out HL3.out.drew).mono ?_; rintro e w5 ⟨rfl, hb⟩; have HBX := Lib.hid ((fbelow_drew HB3.out).trans (hb.mono HB3.out.size)); clear hb))
        go_wp2
        go_ret
        exact ⟨rfl, HBX.out⟩
  · have hl' : (1048576 : Int) < (len : Int) := by omega
    go_enter Tryd.func6, Tryd.ntmps6
    go_wp2
    go_ret
    exact ⟨rfl, Below.refl _ _⟩
set_option maxRecDepth 20000 in
set_option maxHeartbeats 2000000 in
theorem law_FnFlagsOrder (A : Option Addr) (len cap : Nat) (w : World) (h : Coded w A len cap) (hL : Lst w) : Calls Tryd.prog 7 #[.slice A len cap] w (Holds1 w) := by
  have HC := Lib.hid h
  have HL := Lib.hid hL
  clear h hL
  by_cases hl : len ≤ 1048576
  · have hl' : (len : Int) ≤ 1048576 := by omega
    go_enter Tryd.func7, Tryd.ntmps7
    go_wp2_with fail
    refine (draw_fparse A len cap _ HC.out).mono ?_
    rintro e w1 ⟨s, hs, rfl, hb⟩
    have HB1 := Lib.hid hb
    have HL1 := Lib.hid (HL.out.below hb (Nat.le_refl _))
    clear hb
    cases hp : parF s.data.toList with
    | none =>
      have HP := Lib.hid hp
      clear hp
      go_wp2_with fail
      refine (impl_no HP.out _ (by omega) HL1.out).mono ?_
      rintro e w2 ⟨rfl, hb⟩
      have HB2 := Lib.hid (HB1.out.trans (hb.mono HB1.out.size))
      have HL2 := Lib.hid (HL1.out.below hb (Nat.le_refl _))
      clear hb
      go_wp2_with fail
      refine (spec_no HP.out _ (by omega)).mono ?_
      rintro e w3 ⟨rfl, hb⟩
      have HB3 := Lib.hid (HB2.out.trans (hb.mono HB2.out.size))
      have HL3 := Lib.hid (HL2.out.below hb (Nat.le_refl _))
      clear hb
      go_wp2
      go_ret
      exact ⟨rfl, HB3.out⟩
    | some f =>
      have hf := parF_lt hp
      have HP := Lib.hid hp
      by_cases h0 : f = 0
      · subst h0
        clear hp
        go_wp2_with fail
        refine (impl_yes HP.out _ (by omega) HL1.out).mono ?_
        rintro e w2 ⟨rfl, hb⟩
        have HB2 := Lib.hid (HB1.out.trans (hb.mono HB1.out.size))
        have HL2 := Lib.hid (HL1.out.below hb (Nat.le_refl _))
        clear hb
        go_wp2_with fail
        refine (spec_yes HP.out _ (by omega)).mono ?_
        rintro e w3 ⟨rfl, hb⟩
        have HB3 := Lib.hid (HB2.out.trans (hb.mono HB2.out.size))
        have HL3 := Lib.hid (HL2.out.below hb (Nat.le_refl _))
        clear hb
        go_wp2
        go_ret
        exact ⟨rfl, HB3.out⟩
      · have hf0 : ((f : Int) == 0) = false := beq_eq_false_iff_ne.2 (by omega)
        by_cases hodd : f % 2 = 1
        · have hr : (f : Int) % 2 = 1 := by omega
          clear hp h0 hodd
          go_wp2_with fail
          refine (impl_yes HP.out _ (by omega) HL1.out).mono ?_
          rintro e w2 ⟨rfl, hb⟩
          have HB2 := Lib.hid (HB1.out.trans (hb.mono HB1.out.size))
          have HL2 := Lib.hid (HL1.out.below hb (Nat.le_refl _))
          clear hb
          go_wp2_with fail
          refine (spec_yes HP.out _ (by omega)).mono ?_
          rintro e w3 ⟨rfl, hb⟩
          have HB3 := Lib.hid (HB2.out.trans (hb.mono HB2.out.size))
          have HL3 := Lib.hid (HL2.out.below hb (Nat.le_refl _))
          clear hb
          go_wp2
          go_ret
          exact ⟨rfl, HB3.out⟩
        · have hr : (f : Int) % 2 = 0 := by omega
          have h2 := parF_pos hp
          obtain ⟨m, hm⟩ : ∃ m, s.size = m + 1 := ⟨s.size - 1, by omega⟩
          have HSE := Lib.hid (seen_list hp h0 (tb_zero.2 (by omega)) hm)
          have E1 : (s.size : Int) - 1 = (m : Int) := by omega
          have m0 : (0 : Int) ≤ (m : Int) := by omega
          have m2 : (m : Int) ≤ (s.size : Int) := by omega
          have z1 : (s.extract 0 m).size ≤ 100 := by rw [ByteArray.size_extract]; omega
          have z3 : (s.extract 0 m ++ ⟨#[32, 83, 101, 101, 110, 41]⟩).size ≤ 16777216 := by rw [ByteArray.size_append, show (⟨#[32, 83, 101, 101, 110, 41]⟩ : ByteArray).size = 6 from rfl]; omega
          have Z3 := Lib.hid z3
          have W1 : IntKind.i64.wrap ((f : Int) + 1) = ((f + 1 : Nat) : Int) := (IntWalk.i64_in _ (by omega)).trans (by omega)
          clear hp hm z3 h0 hodd
          go_wp2_with fail
          refine (impl_yes HP.out _ (by omega) HL1.out).mono ?_
          rintro e w2 ⟨rfl, hb⟩
          have HB2 := Lib.hid (HB1.out.trans (hb.mono HB1.out.size))
          have HL2 := Lib.hid (HL1.out.below hb (Nat.le_refl _))
          clear hb
          go_wp2_with fail
          refine (spec_yes HP.out _ (by omega)).mono ?_
          rintro e w3 ⟨rfl, hb⟩
          have HB3 := Lib.hid (HB2.out.trans (hb.mono HB2.out.size))
          have HL3 := Lib.hid (HL2.out.below hb (Nat.le_refl _))
          clear hb
          go_wp2_with fail
          refine (impl_yes HSE.out _ Z3.out HL3.out).mono ?_
          rintro e w4 ⟨rfl, hb⟩
          have HB4 := Lib.hid (HB3.out.trans (hb.mono HB3.out.size))
          have HL4 := Lib.hid (HL3.out.below hb (Nat.le_refl _))
          clear hb
          go_wp2
          go_ret
          exact ⟨rfl, HB4.out⟩
  · have hl' : (1048576 : Int) < (len : Int) := by omega
    go_enter Tryd.func7, Tryd.ntmps7
    go_wp2
    go_ret
    exact ⟨rfl, Below.refl _ _⟩
set_option maxHeartbeats 1000000 in
theorem law_FnExactFlagsParse (s : ByteArray) (w : World) (hs : s.size ≤ maxLen) (hL : Lst w) : Calls Tryd.prog 11 #[.string s] w (Holds1 w) := by
  unfold maxLen at hs
  have HL1 := Lib.hid hL
  have HB1 := Lib.hid (Below.refl w.heap.size w)
  clear hL
  by_cases hb : s.size ≤ 1048576
  · have hb' : (s.size : Int) ≤ 1048576 := by omega
    cases hp : parF s.data.toList with
    | none =>
      have HP := Lib.hid hp
      clear hp
      go_enter Tryd.func11, Tryd.ntmps11
      go_wp2_with fail
      refine (spec_no HP.out _ (by omega)).mono ?_
      rintro e w2 ⟨rfl, hb⟩
      have HB2 := Lib.hid (HB1.out.trans (hb.mono HB1.out.size))
      have HL2 := Lib.hid (HL1.out.below hb (Nat.le_refl _))
      clear hb
      go_wp2_with fail
      refine (impl_no HP.out _ (by omega) HL2.out).mono ?_
      rintro e w3 ⟨rfl, hb⟩
      have HB3 := Lib.hid (HB2.out.trans (hb.mono HB2.out.size))
      have HL3 := Lib.hid (HL2.out.below hb (Nat.le_refl _))
      clear hb
      go_wp2
      go_ret
      exact ⟨rfl, HB3.out⟩
    | some f =>
      have HP := Lib.hid hp
      clear hp
      go_enter Tryd.func11, Tryd.ntmps11
      go_wp2_with fail
      refine (spec_yes HP.out _ (by omega)).mono ?_
      rintro e w2 ⟨rfl, hb⟩
      have HB2 := Lib.hid (HB1.out.trans (hb.mono HB1.out.size))
      have HL2 := Lib.hid (HL1.out.below hb (Nat.le_refl _))
      clear hb
      go_wp2_with fail
      refine (impl_yes HP.out _ (by omega) HL2.out).mono ?_
      rintro e w3 ⟨rfl, hb⟩
      have HB3 := Lib.hid (HB2.out.trans (hb.mono HB2.out.size))
      have HL3 := Lib.hid (HL2.out.below hb (Nat.le_refl _))
      clear hb
      go_wp2
      go_ret
      exact ⟨rfl, HB3.out⟩
  · have hb' : (1048576 : Int) < (s.size : Int) := by omega
    go_enter Tryd.func11, Tryd.ntmps11
    go_wp2
    go_ret
    exact ⟨rfl, Below.refl _ _⟩
end Go.Proofs.YtbcooiifpfdiaaaDoor
