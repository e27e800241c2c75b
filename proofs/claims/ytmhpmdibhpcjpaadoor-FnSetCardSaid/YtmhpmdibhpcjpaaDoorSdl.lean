/-
  The walks of the laws FnSet, FnSetText and FnExactSetText. Condition: the code, the list can be read.
-/
import Derived.Test.YtmhpmdibhpcjpaaDoorStxi
import Derived.Test.YtmhpmdibhpcjpaaDoorSe1
namespace Go.Proofs.YtmhpmdibhpcjpaaDoor
open Go.RowKit
set_option linter.unusedVariables false

theorem ba_eq {u v : ByteArray} (h : u.data.toList = v.data.toList) : u = v := by
  cases u
  cases v
  congr
  exact Array.toList_inj.1 h
theorem up_dn {L : List (Int × Int)} (h : setB L = true) : up (dn L) = L := by
  have hs := (setB_iff.1 h).1
  unfold up dn
  rw [List.map_map]
  conv => rhs; rw [← List.map_id L]
  refine List.map_congr_left fun x hx => ?_
  obtain ⟨⟨h1, _⟩, h2, _⟩ := spanB_iff.1 (hs x hx)
  obtain ⟨x1, x2⟩ := x
  simp at h1 h2 ⊢
  omega
theorem set_text {L : List (Int × Int)} (h : setB L = true) {t : ByteArray} (ht : t.data.toList = textB L) : IsSet t true L := by
  obtain ⟨hs, h1, h6⟩ := setB_iff.1 h
  have hb : setO t.data.toList = some (dn L) := by
    rw [ht, textB_yes h]
    refine set_back ?_ (by rw [dn_len]; exact h6) ?_
    · intro e
      have := congrArg List.length e
      rw [dn_len] at this
      simp at this
      rw [this] at h1
      simp at h1
    · intro s hs2
      unfold dn at hs2
      obtain ⟨x, hx, rfl⟩ := List.mem_map.1 hs2
      obtain ⟨⟨_, a1⟩, _, a2⟩ := spanB_iff.1 (hs x hx)
      exact ⟨by simp; omega, by simp; omega⟩
  unfold IsSet
  rw [hb]
  exact ⟨rfl, up_dn h⟩
theorem set_is {s : ByteArray} {P : List (Nat × Nat)} (h : setO s.data.toList = some P) : setB (up P) = true := by
  obtain ⟨h1, h6, h2⟩ := set_mem h
  rw [up_set h2 h1]
  exact decide_eq_true h6
theorem set_text_pos {L : List (Int × Int)} (h : setB L = true) {t : ByteArray} (ht : t.data.toList = textB L) : t.size ≠ 0 := by
  intro h0
  have hi := (set_text h ht).1
  have : t.data.toList = [] := List.eq_nil_of_length_eq_zero (by simpa using h0)
  rw [this] at hi
  exact absurd hi (by decide)
theorem text_size {L : List (Int × Int)} {t : ByteArray} (ht : t.data.toList = textB L) : t.size ≤ 100 := by
  have h1 := textB_len (L := L)
  rw [← ht] at h1
  have h2 : t.data.toList.length = t.size := by simp
  omega
theorem impl_settext_n {A : Option Addr} {n cap : Nat} {L : List (Int × Int)} (hn : L.length = n) (w : World) (h : SpA w A L) (hl : n ≤ 33554432) :
    Calls Tryd.prog 10 #[.slice A n cap] w (Tells w (textB L)) := by
  subst hn
  exact impl_settext A cap L w h hl
theorem spec_settext_n {A : Option Addr} {n cap : Nat} {L : List (Int × Int)} {t : ByteArray} (hn : L.length = n) (ht : t.data.toList = textB L) (w : World) (h : SpA w A L) (hl : n ≤ 33554432) :
    Calls Tryd.prog 12 #[.slice A n cap] w fun e w' => e = .returned (.string t) ∧ Below w.heap.size w w' := by
  subst hn
  refine (spec_settext A cap L w h hl).mono ?_
  rintro e w' ⟨v, hv, rfl, hb⟩
  exact ⟨by rw [ba_eq (hv.trans ht.symm)], hb⟩

set_option maxRecDepth 20000 in
set_option maxHeartbeats 4000000 in
theorem law_FnSet (A : Option Addr) (len cap : Nat) (w : World) (h : Coded w A len cap) : Calls Tryd.prog 3 #[.slice A len cap] w (Holds1 w) := by
  have HC := Lib.hid h
  clear h
  by_cases hl : len ≤ 1048576
  · have hl' : (len : Int) ≤ 1048576 := by omega
    go_enter Tryd.func3, Tryd.ntmps3
    go_wp2_with fail
    refine (draw_setparse A len cap _ HC.out).mono ?_
    rintro e w1 ⟨s, hs, rfl, hb⟩
    have HB1 := Lib.hid hb
    clear hb
    cases hP : setO s.data.toList with
    | none =>
      have HI := Lib.hid (isSet_no hP)
      clear hP
      go_wp2_with fail
      refine (impl_read HI.out _ (by omega)).mono ?_
      rintro e w2 ⟨A2, cap2, rfl, h21, h22, hsp, hb⟩
      have HB2 := Lib.hid (HB1.out.trans (hb.mono HB1.out.size))
      have HS2 := Lib.hid hsp
      clear hb hsp
      go_wp2_with fail
      refine (spec_read HI.out _ (by omega)).mono ?_
      rintro e w3 ⟨A3, cap3, rfl, h31, h32, hsp, hb⟩
      have HB3 := Lib.hid (HB2.out.trans (hb.mono HB2.out.size))
      have HS3 := Lib.hid hsp
      have HS23 := Lib.hid (HS2.out.below hb (Nat.le_refl _))
      clear hb hsp
      go_wp2_with fail
      refine (same_spans_at (o := true) _ HS23.out HS3.out rfl rfl (by simp) (by simp) (by simp)).mono ?_
      rintro e w4 ⟨rfl, hb⟩
      have HB4 := Lib.hid (HB3.out.trans (hb.mono HB3.out.size))
      have HS24 := Lib.hid (HS23.out.below hb (Nat.le_refl _))
      have HS34 := Lib.hid (HS3.out.below hb (Nat.le_refl _))
      clear hb
      go_wp2_with fail
      refine (same_spans_at (o := true) _ HS24.out HS34.out rfl rfl (by simp) (by simp) (by simp)).mono ?_
      rintro e w5 ⟨rfl, hb⟩
      have HB5 := Lib.hid (HB4.out.trans (hb.mono HB4.out.size))
      clear hb
      go_wp2
      go_ret
      exact ⟨rfl, HB5.out⟩
    | some P =>
      have HI := Lib.hid (isSet_yes hP)
      have HSB := Lib.hid (set_is hP)
      have hl6 := (set_up hP).2
      clear hP
      obtain ⟨M, hM⟩ : ∃ M, up P = M := ⟨_, rfl⟩
      rw [hM] at HI hl6 HSB
      clear hM
      go_wp2_with fail
      refine (impl_read HI.out _ (by omega)).mono ?_
      rintro e w2 ⟨A2, cap2, rfl, h21, h22, hsp, hb⟩
      have HB2 := Lib.hid (HB1.out.trans (hb.mono HB1.out.size))
      have HS2 := Lib.hid hsp
      clear hb hsp
      go_wp2_with fail
      refine (spec_read HI.out _ (by omega)).mono ?_
      rintro e w3 ⟨A3, cap3, rfl, h31, h32, hsp, hb⟩
      have HB3 := Lib.hid (HB2.out.trans (hb.mono HB2.out.size))
      have HS3 := Lib.hid hsp
      have HS23 := Lib.hid (HS2.out.below hb (Nat.le_refl _))
      clear hb hsp
      go_wp2_with fail
      refine (same_spans_at (o := true) _ HS23.out HS3.out rfl rfl (by omega) (by omega) (by simp)).mono ?_
      rintro e w4 ⟨rfl, hb⟩
      have HB4 := Lib.hid (HB3.out.trans (hb.mono HB3.out.size))
      have HS24 := Lib.hid (HS23.out.below hb (Nat.le_refl _))
      clear hb
      go_wp2_with fail
      refine (impl_settext_n rfl _ HS24.out (by omega)).mono ?_
      rintro e w5 ⟨t, ht, rfl, hb⟩
      have HB5 := Lib.hid (HB4.out.trans (hb.mono HB4.out.size))
      have HS25 := Lib.hid (HS24.out.below hb (Nat.le_refl _))
      have HIT := Lib.hid (set_text HSB.out ht)
      have hts := text_size ht
      clear hb ht
      go_wp2_with fail
      refine (impl_read HIT.out _ (by omega)).mono ?_
      rintro e w6 ⟨A6, cap6, rfl, h61, h62, hsp, hb⟩
      have HB6 := Lib.hid (HB5.out.trans (hb.mono HB5.out.size))
      have HS6 := Lib.hid hsp
      have HS26 := Lib.hid (HS25.out.below hb (Nat.le_refl _))
      clear hb hsp
      go_wp2_with fail
      refine (same_spans_at (o := true) _ HS6.out HS26.out rfl rfl (by omega) (by omega) (by simp)).mono ?_
      rintro e w7 ⟨rfl, hb⟩
      have HB7 := Lib.hid (HB6.out.trans (hb.mono HB6.out.size))
      clear hb
      go_wp2
      go_ret
      exact ⟨rfl, HB7.out⟩
  · have hl' : (1048576 : Int) < (len : Int) := by omega
    go_enter Tryd.func3, Tryd.ntmps3
    go_wp2
    go_ret
    exact ⟨rfl, Below.refl _ _⟩

set_option maxRecDepth 20000 in
set_option maxHeartbeats 4000000 in
theorem law_FnSetText (A : Option Addr) (len cap : Nat) (w : World) (h : Coded w A len cap) : Calls Tryd.prog 4 #[.slice A len cap] w (Holds1 w) := by
  have HC := Lib.hid h
  clear h
  by_cases hl : len ≤ 1048576
  · have hl' : (len : Int) ≤ 1048576 := by omega
    go_enter Tryd.func4, Tryd.ntmps4
    go_wp2_with fail
    refine (draw_settext A len cap _ HC.out).mono ?_
    rintro e w1 ⟨A1, cap1, L, hL, rfl, hc1, hc2, hsp, hb⟩
    have HB1 := Lib.hid hb
    have HS1 := Lib.hid hsp
    clear hb hsp
    go_wp2_with fail
    refine (impl_settext_n rfl _ HS1.out (by omega)).mono ?_
    rintro e w2 ⟨t, ht, rfl, hb⟩
    have HB2 := Lib.hid (HB1.out.trans (hb.mono HB1.out.size))
    have HS2 := Lib.hid (HS1.out.below hb (Nat.le_refl _))
    have HT := Lib.hid ht
    have hts := text_size ht
    clear hb ht
    go_wp2_with fail
    refine (spec_settext_n rfl HT.out _ HS2.out (by omega)).mono ?_
    rintro e w3 ⟨rfl, hb⟩
    have HB3 := Lib.hid (HB2.out.trans (hb.mono HB2.out.size))
    have HS3 := Lib.hid (HS2.out.below hb (Nat.le_refl _))
    clear hb
    cases hs : setB L
    · have h0 : t.size = 0 := by
        have := HT.out
        rw [textB_no hs] at this
        have h2 : t.data.toList.length = t.size := by simp
        rw [this] at h2
        simpa using h2.symm
      obtain ⟨e1, e2⟩ := isEmpty h0
      clear h0 hs
      go_wp2
      go_ret
      exact ⟨rfl, HB3.out⟩
    · obtain ⟨e1, e2⟩ := noEmpty (set_text_pos hs HT.out)
      have HIT := Lib.hid (set_text hs HT.out)
      clear hs
      go_wp2_with fail
      refine (impl_read HIT.out _ (by omega)).mono ?_
      rintro e w6 ⟨A6, cap6, rfl, h61, h62, hsp, hb⟩
      have HB6 := Lib.hid (HB3.out.trans (hb.mono HB3.out.size))
      have HS6 := Lib.hid hsp
      have HS36 := Lib.hid (HS3.out.below hb (Nat.le_refl _))
      clear hb hsp
      go_wp2_with fail
      refine (same_spans_at (o := true) _ HS6.out HS36.out rfl rfl (by omega) (by omega) (by simp)).mono ?_
      rintro e w7 ⟨rfl, hb⟩
      have HB7 := Lib.hid (HB6.out.trans (hb.mono HB6.out.size))
      clear hb
      go_wp2
      go_ret
      exact ⟨rfl, HB7.out⟩
  · have hl' : (1048576 : Int) < (len : Int) := by omega
    go_enter Tryd.func4, Tryd.ntmps4
    go_wp2
    go_ret
    exact ⟨rfl, Below.refl _ _⟩

set_option maxRecDepth 20000 in
set_option maxHeartbeats 4000000 in
theorem law_FnExactSetText (A : Option Addr) (len cap : Nat) (w : World) (h : ListIn w A len cap) : Calls Tryd.prog 5 #[.slice A len cap] w (Holds1 w) := by
  obtain ⟨k1, k2, L, hn, hs⟩ := h
  have HN := Lib.hid hn
  have HS := Lib.hid hs
  clear hn hs
  have hm : len ≤ 9223372036854775807 := Nat.le_trans k1 (by unfold maxLen at k2; omega)
  by_cases hl : len ≤ 1048576
  · obtain ⟨z, hz⟩ : ∃ z : Int, 1048576 - (len : Int) = z := ⟨_, rfl⟩
    have hz0 : 0 ≤ z := by omega
    have HSZ := Lib.hid hz
    clear hz
    obtain ⟨t, ht⟩ : ∃ t : ByteArray, t.data.toList = textB L := ⟨⟨(textB L).toArray⟩, rfl⟩
    have HT := Lib.hid ht
    have hts := text_size ht
    clear ht
    go_enter Tryd.func5, Tryd.ntmps5
    go_wp2_with fail
    refine (sz_spans _ (.inl ⟨hl, HSZ.out⟩)).mono ?_
    rintro e w1 ⟨rfl, rfl⟩
    go_wp2_with fail
    refine (to_spans A cap len L _ HN.out HS.out hl).mono ?_
    rintro e w1 ⟨g1, rfl, hown, hb⟩
    have HB1 := Lib.hid hb
    have HS1 := Lib.hid (HS.out.below hb (Nat.le_refl _))
    have HO1 := Lib.hid hown
    clear hown hb
    go_wp2_with fail
    refine (spec_settext_n HN.out HT.out _ HO1.out.spa (by omega)).mono ?_
    rintro e w2 ⟨rfl, hb⟩
    have HB2 := Lib.hid (HB1.out.trans (hb.mono HB1.out.size))
    have HS2 := Lib.hid (HS1.out.below hb (Nat.le_refl _))
    clear hb
    go_wp2_with fail
    refine (to_spans A cap len L _ HN.out HS2.out hl).mono ?_
    rintro e w3 ⟨g3, rfl, hown, hb⟩
    have HB3 := Lib.hid (HB2.out.trans (hb.mono HB2.out.size))
    have HS3 := Lib.hid (HS2.out.below hb (Nat.le_refl _))
    have HO3 := Lib.hid hown
    clear hown hb
    go_wp2_with fail
    refine (impl_settext_n HN.out _ HO3.out.spa (by omega)).mono ?_
    rintro e w4 ⟨t2, ht2, rfl, hb⟩
    obtain rfl : t2 = t := ba_eq (ht2.trans HT.out.symm)
    have HB4 := Lib.hid (HB3.out.trans (hb.mono HB3.out.size))
    have HS4 := Lib.hid (HS3.out.below hb (Nat.le_refl _))
    have HO4 := Lib.hid (HO3.out.kept hb)
    clear hb ht2
    go_wp2_with fail
    refine (to_spans A cap len L _ HN.out HS4.out hl).mono ?_
    rintro e w5 ⟨g5, rfl, hown, hb⟩
    have HB5 := Lib.hid (HB4.out.trans (hb.mono HB4.out.size))
    have HO5 := Lib.hid hown
    have HO45 := Lib.hid (HO4.out.kept hb)
    clear hown hb
    go_wp2_with fail
    refine (eq_spans_at (o := true) _ HO45.out.spa HO5.out.spa HN.out HN.out (by omega) (by omega) (by simp)).mono ?_
    rintro e w6 ⟨rfl, hb⟩
    have HB6 := Lib.hid (HB5.out.trans (hb.mono HB5.out.size))
    clear hb
    go_wp2
    go_ret
    exact ⟨rfl, HB6.out⟩
  · go_enter Tryd.func5, Tryd.ntmps5
    go_wp2_with fail
    refine (sz_spans (z := -1) _ (.inr ⟨by omega, hm, rfl⟩)).mono ?_
    rintro e w1 ⟨rfl, rfl⟩
    go_wp2
    go_ret
    exact ⟨rfl, Below.refl _ _⟩
end Go.Proofs.YtmhpmdibhpcjpaaDoor
