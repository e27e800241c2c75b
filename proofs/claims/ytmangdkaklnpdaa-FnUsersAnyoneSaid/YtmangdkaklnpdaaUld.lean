/-
  The walks of the laws FnUsersAnyone. Condition: the code can be read.
-/
import Derived.Test.YtmangdkaklnpdaaUd
import Derived.Test.YtmangdkaklnpdaaLawa
import Derived.Test.YtmangdkaklnpdaaKeep
namespace Go.Proofs.Ytmangdkaklnpdaa
open Go.RowKit
set_option linter.unusedVariables false

theorem u0_set {L : List Us} {x y : Us} (h : L[0]? = some x) : (L.set 0 y)[0]? = some y := by
  rw [List.getElem?_set_self (List.getElem?_eq_some_iff.1 h).1]
theorem small_set {L : List Us} {y : Us} (h : smallU L) (hy : y.1.size ≤ 16777216 ∧ y.2.1.size ≤ 16777216) : smallU (L.set 0 y) := ⟨by rw [List.length_set]; exact h.1, fun g hg => by
  rcases List.mem_or_eq_of_mem_set hg with h2 | h2
  · exact h.2 g h2
  · rw [h2]; exact hy⟩
set_option maxRecDepth 20000 in
set_option maxHeartbeats 4000000 in
theorem law_FnUsersAnyone (A : Option Addr) (len cap : Nat) (w : World) (h : Coded w A len cap) : Calls Try.prog 6 #[.slice A len cap] w (Holds1 w) := by
  have HC := Lib.hid h
  clear h
  by_cases hl : len ≤ 1048576
  · have hl' : (len : Int) ≤ 1048576 := by omega
    obtain ⟨i0, hi, hq0, hq1, hq2⟩ := info_parts Try.infoUser
    go_enter Try.func6, Try.ntmps6
    go_wp2_with fail
    refine (draw_uvalid A len cap _ HC.out).mono ?_
    rintro e w1 ⟨A1, N1, cap1, L, rfl, hU⟩
    have HB1 := Lib.hid hU.2.2.2.2
    have HU1 := Lib.hid hU.uin
    have HSM := Lib.hid hU.uin.small
    have HN5 := Lib.hid hU.2.1
    have HN1 := Lib.hid hU.1
    have hN5 : N1 ≤ 5 := hU.2.1
    clear hU
    cases hv : vU L with
    | false =>
      have HV := Lib.hid hv
      clear hv
      go_wp2_with fail
      refine (impl_uv HV.out _ HU1.out).mono ?_
      rintro e w2 ⟨rfl, hb⟩
      have HB2 := Lib.hid (HB1.out.trans (hb.mono HB1.out.size))
      have HU2 := Lib.hid (HU1.out.below hb (Nat.le_refl _))
      clear hb
      go_wp2_with fail
      refine (spec_uv HV.out _ HU2.out).mono ?_
      rintro e w3 ⟨rfl, hb⟩
      have HB3 := Lib.hid (HB2.out.trans (hb.mono HB2.out.size))
      have HU3 := Lib.hid (HU2.out.below hb (Nat.le_refl _))
      clear hb
      go_wp2
      go_ret
      exact ⟨rfl, HB3.out⟩
    | true =>
      have HV := Lib.hid hv
      clear hv
      go_wp2_with fail
      refine (impl_uv HV.out _ HU1.out).mono ?_
      rintro e w2 ⟨rfl, hb⟩
      have HB2 := Lib.hid (HB1.out.trans (hb.mono HB1.out.size))
      have HU2 := Lib.hid (HU1.out.below hb (Nat.le_refl _))
      clear hb
      go_wp2_with fail
      refine (spec_uv HV.out _ HU2.out).mono ?_
      rintro e w3 ⟨rfl, hb⟩
      have HB3 := Lib.hid (HB2.out.trans (hb.mono HB2.out.size))
      have HU3 := Lib.hid (HU2.out.below hb (Nat.le_refl _))
      clear hb
      obtain ⟨⟨n1, p1, q1⟩, hx⟩ : ∃ x, L[0]? = some x := ⟨_, List.getElem?_eq_getElem (by rw [HU3.out.1]; exact HN1.out)⟩
      have HX := Lib.hid hx
      have HN := Lib.hid HU3.out.1
      have hml : 0 + N1 ≤ maxLen := by unfold maxLen; omega
      have hby : (0 + N1) * 40 ≤ 140737488355328 := by omega
      have hN0 : (0 : Int) < (N1 : Int) := by have := HN1.out; omega
      clear hx
      have hsz0 : w3.heap.size = w3.heap.size := rfl
      have HSZ0 := Lib.hid hsz0
      have hbn0 : Below w3.heap.size w3 (w3.alloc (.cells #[] 27)) := by rw [← hsz0]; exact below_new w3 _
      have hE0 : ROwn usR (w3.alloc (.cells #[] 27)) w3.heap.size (.slice (some ⟨w3.heap.size, 0, none⟩) 0 0) [] := ROwn.lit w3 _ (Nat.le_of_eq hsz0.symm) hsz0
      have hUE0 := HU3.out.below hbn0 (Nat.le_of_eq hsz0)
      have hat0 := hUE0.2.2.1
      have hnc0 := hUE0.2.2.2.1
      have hsp0 := hUE0.2.2.2.2.1
      have hbs0 : w3.heap.size ≤ (w3.alloc (.cells #[] 27)).heap.size := hsz0 ▸ hbn0.size
      have HBN0 := Lib.hid hbn0
      clear hsz0 hbn0
      clear hUE0
      go_wp2_with (at_builtin; refine wpList_append_rows rfl (.tmp 28) (.tmp 29) 23 rfl usR w3.heap.size i0 _ 40 Try.underlying23 hi hq0 hq1 hq2 rfl (by decide) _ [] L 0 rfl rfl hE0 A1 N1 cap1 rfl HN.out hat0 hnc0 hsp0 hml hby hbs0 ?_)
      intro v' w4 ho hg hnn
      try rw [List.nil_append] at ho
      obtain ⟨A4, c4, he, _, _, _, hpos, hne⟩ := ho.form
      subst he
      obtain ⟨g4, hgg⟩ := hne (fun e => by rw [e] at HX; cases HX.out)
      subst hgg
      rw [HN.out] at ho ⊢
      have hbk : Below w3.heap.size w3 w4 := HBN0.out.grown hg hbs0 (fun z e => by cases e; exact Nat.le_refl _)
      have hgs : w3.heap.size ≤ g4 := (hpos g4 0 rfl).2.1
      have d0 := ho.cell HX.out (j := 0) rfl
      have f0 := ho.free (0 * 3 + 0)
      have hst := (ho.stored (j := 0) (y := (evB, p1, q1)) (u := (.string ⟨#[97, 110, 121, 111, 110, 101]⟩)) HX.out (by decide) rfl).1
      simp only [usR, Nat.zero_mul, Nat.zero_add] at d0 f0 hst
      have hb := hbk.setCell hgs (p := ⟨g4, 0, none⟩) (.string ⟨#[97, 110, 121, 111, 110, 101]⟩)
      have HO0 := Lib.hid hst
      clear ho hg hnn hpos hne hE0 hat0 hnc0 hsp0 hbk hst
      skip
      have HB4 := Lib.hid (HB3.out.trans (hb.mono HB3.out.size))
      have HU4 := Lib.hid (HU3.out.below hb (Nat.le_refl _))
      clear hb hgs
      have hsz1 : (w4.setCell ⟨g4, 0, none⟩ (.string ⟨#[97, 110, 121, 111, 110, 101]⟩)).heap.size = w4.heap.size := by simp [World.setCell]
      have HSZ1 := Lib.hid hsz1
      have hbn1 : Below w4.heap.size (w4.setCell ⟨g4, 0, none⟩ (.string ⟨#[97, 110, 121, 111, 110, 101]⟩)) ((w4.setCell ⟨g4, 0, none⟩ (.string ⟨#[97, 110, 121, 111, 110, 101]⟩)).alloc (.cells #[] 27)) := by rw [← hsz1]; exact below_new (w4.setCell ⟨g4, 0, none⟩ (.string ⟨#[97, 110, 121, 111, 110, 101]⟩)) _
      have hE1 : ROwn usR ((w4.setCell ⟨g4, 0, none⟩ (.string ⟨#[97, 110, 121, 111, 110, 101]⟩)).alloc (.cells #[] 27)) w4.heap.size (.slice (some ⟨w4.heap.size, 0, none⟩) 0 0) [] := ROwn.lit (w4.setCell ⟨g4, 0, none⟩ (.string ⟨#[97, 110, 121, 111, 110, 101]⟩)) _ (Nat.le_of_eq hsz1.symm) hsz1
      have hUE1 := HU4.out.below hbn1 (Nat.le_of_eq hsz1)
      have hat1 := hUE1.2.2.1
      have hnc1 := hUE1.2.2.2.1
      have hsp1 := hUE1.2.2.2.2.1
      have hbs1 : w4.heap.size ≤ ((w4.setCell ⟨g4, 0, none⟩ (.string ⟨#[97, 110, 121, 111, 110, 101]⟩)).alloc (.cells #[] 27)).heap.size := hsz1 ▸ hbn1.size
      have HBN1 := Lib.hid hbn1
      clear hsz1 hbn1
      clear hUE1
      go_wp2_with (at_builtin; refine wpList_append_rows rfl (.tmp 34) (.tmp 35) 23 rfl usR w4.heap.size i0 _ 40 Try.underlying23 hi hq0 hq1 hq2 rfl (by decide) _ [] L 0 rfl rfl hE1 A1 N1 cap1 rfl HN.out hat1 hnc1 hsp1 hml hby hbs1 ?_)
      intro v' w5 ho hg hnn
      try rw [List.nil_append] at ho
      obtain ⟨A5, c5, he, _, _, _, hpos, hne⟩ := ho.form
      subst he
      obtain ⟨g5, hgg⟩ := hne (fun e => by rw [e] at HX; cases HX.out)
      subst hgg
      rw [HN.out] at ho ⊢
      have hbk : Below w4.heap.size (w4.setCell ⟨g4, 0, none⟩ (.string ⟨#[97, 110, 121, 111, 110, 101]⟩)) w5 := HBN1.out.grown hg hbs1 (fun z e => by cases e; exact Nat.le_refl _)
      have hgs : w4.heap.size ≤ g5 := (hpos g5 0 rfl).2.1
      have d1 := ho.cell HX.out (j := 1) rfl
      have f1 := ho.free (0 * 3 + 1)
      have hst := (ho.stored (j := 1) (y := (n1, ⟨#[]⟩, q1)) (u := (.string ⟨#[]⟩)) HX.out (by decide) rfl).1
      simp only [usR, Nat.zero_mul, Nat.zero_add] at d1 f1 hst
      have hb := hbk.setCell hgs (p := ⟨g5, 1, none⟩) (.string ⟨#[]⟩)
      have HO1 := Lib.hid hst
      clear ho hg hnn hpos hne hE1 hat1 hnc1 hsp1 hbk hst
      rw [← HSZ1.out] at hb
      have HB5 := Lib.hid (HB4.out.trans (hb.mono HB4.out.size))
      have HU5 := Lib.hid (HU4.out.below hb (Nat.le_refl _))
      have HO05 := Lib.hid (HO0.out.kept hb)
      clear hb hgs
      have hsz2 : (w5.setCell ⟨g5, 1, none⟩ (.string ⟨#[]⟩)).heap.size = w5.heap.size := by simp [World.setCell]
      have HSZ2 := Lib.hid hsz2
      have hbn2 : Below w5.heap.size (w5.setCell ⟨g5, 1, none⟩ (.string ⟨#[]⟩)) ((w5.setCell ⟨g5, 1, none⟩ (.string ⟨#[]⟩)).alloc (.cells #[] 27)) := by rw [← hsz2]; exact below_new (w5.setCell ⟨g5, 1, none⟩ (.string ⟨#[]⟩)) _
      have hE2 : ROwn usR ((w5.setCell ⟨g5, 1, none⟩ (.string ⟨#[]⟩)).alloc (.cells #[] 27)) w5.heap.size (.slice (some ⟨w5.heap.size, 0, none⟩) 0 0) [] := ROwn.lit (w5.setCell ⟨g5, 1, none⟩ (.string ⟨#[]⟩)) _ (Nat.le_of_eq hsz2.symm) hsz2
      have hUE2 := HU5.out.below hbn2 (Nat.le_of_eq hsz2)
      have hat2 := hUE2.2.2.1
      have hnc2 := hUE2.2.2.2.1
      have hsp2 := hUE2.2.2.2.2.1
      have hbs2 : w5.heap.size ≤ ((w5.setCell ⟨g5, 1, none⟩ (.string ⟨#[]⟩)).alloc (.cells #[] 27)).heap.size := hsz2 ▸ hbn2.size
      have HBN2 := Lib.hid hbn2
      clear hsz2 hbn2
      clear hUE2
      go_wp2_with (at_builtin; refine wpList_append_rows rfl (.tmp 40) (.tmp 41) 23 rfl usR w5.heap.size i0 _ 40 Try.underlying23 hi hq0 hq1 hq2 rfl (by decide) _ [] L 0 rfl rfl hE2 A1 N1 cap1 rfl HN.out hat2 hnc2 hsp2 hml hby hbs2 ?_)
      intro v' w6 ho hg hnn
      try rw [List.nil_append] at ho
      obtain ⟨A6, c6, he, _, _, _, hpos, hne⟩ := ho.form
      subst he
      obtain ⟨g6, hgg⟩ := hne (fun e => by rw [e] at HX; cases HX.out)
      subst hgg
      rw [HN.out] at ho ⊢
      have hbk : Below w5.heap.size (w5.setCell ⟨g5, 1, none⟩ (.string ⟨#[]⟩)) w6 := HBN2.out.grown hg hbs2 (fun z e => by cases e; exact Nat.le_refl _)
      have hgs : w5.heap.size ≤ g6 := (hpos g6 0 rfl).2.1
      have d2 := ho.cell HX.out (j := 2) rfl
      have f2 := ho.free (0 * 3 + 2)
      have hst := (ho.stored (j := 2) (y := (n1, p1, -1)) (u := (.int .i64 (-1))) HX.out (by decide) rfl).1
      simp only [usR, Nat.zero_mul, Nat.zero_add] at d2 f2 hst
      have hb := hbk.setCell hgs (p := ⟨g6, 2, none⟩) (.int .i64 (-1))
      have HO2 := Lib.hid hst
      clear ho hg hnn hpos hne hE2 hat2 hnc2 hsp2 hbk hst
      rw [← HSZ2.out] at hb
      have HB6 := Lib.hid (HB5.out.trans (hb.mono HB5.out.size))
      have HU6 := Lib.hid (HU5.out.below hb (Nat.le_refl _))
      have HO06 := Lib.hid (HO05.out.kept hb)
      have HO16 := Lib.hid (HO1.out.kept hb)
      clear hb hgs
      obtain ⟨wz, hwz⟩ : ∃ wz, (w6.setCell ⟨g6, 2, none⟩ (.int .i64 (-1))) = wz := ⟨_, rfl⟩
      have HWZ := Lib.hid hwz
      have hss : n1.size ≤ 16777216 ∧ p1.size ≤ 16777216 := HSM.out.2 (n1, p1, q1) (List.mem_of_getElem? HX.out)
      have HV0 := Lib.hid (vU_bad (u0_set (y := (evB, p1, q1)) HX.out) okU_bad0)
      have HI0 := Lib.hid (UIn.made HO06.out (small_set HSM.out ⟨Nat.le_of_ble_eq_true rfl, (hss.2)⟩))
      have HV1 := Lib.hid (vU_bad (u0_set (y := (n1, ⟨#[]⟩, q1)) HX.out) (okU_bad2 (by decide)))
      have HI1 := Lib.hid (UIn.made HO16.out (small_set HSM.out ⟨hss.1, Nat.le_of_ble_eq_true rfl⟩))
      have HV2 := Lib.hid (vU_bad (u0_set (y := (n1, p1, -1)) HX.out) (okU_bad3 (by decide)))
      have HI2 := Lib.hid (UIn.made HO2.out (small_set HSM.out hss))
      have HBZ := Lib.hid HB6.out
      rw [hwz] at HI0 HI1 HI2 HBZ
      clear hwz
      go_wp2_with fail
      rw [HWZ.out]
      refine (impl_uv HV0.out _ HI0.out).mono ?_
      rintro e w7 ⟨rfl, hb⟩
      have HB7 := Lib.hid (HBZ.out.trans (hb.mono HBZ.out.size))
      have HI07 := Lib.hid (HI0.out.below hb (Nat.le_refl _))
      have HI17 := Lib.hid (HI1.out.below hb (Nat.le_refl _))
      have HI27 := Lib.hid (HI2.out.below hb (Nat.le_refl _))
      clear hb
      go_wp2_with fail
      refine (impl_uv HV1.out _ HI17.out).mono ?_
      rintro e w8 ⟨rfl, hb⟩
      have HB8 := Lib.hid (HB7.out.trans (hb.mono HB7.out.size))
      have HI08 := Lib.hid (HI07.out.below hb (Nat.le_refl _))
      have HI18 := Lib.hid (HI17.out.below hb (Nat.le_refl _))
      have HI28 := Lib.hid (HI27.out.below hb (Nat.le_refl _))
      clear hb
      go_wp2_with fail
      refine (impl_uv HV2.out _ HI28.out).mono ?_
      rintro e w9 ⟨rfl, hb⟩
      have HB9 := Lib.hid (HB8.out.trans (hb.mono HB8.out.size))
      have HI09 := Lib.hid (HI08.out.below hb (Nat.le_refl _))
      have HI19 := Lib.hid (HI18.out.below hb (Nat.le_refl _))
      have HI29 := Lib.hid (HI28.out.below hb (Nat.le_refl _))
      clear hb
      go_wp2
      go_ret
      exact ⟨rfl, HB9.out⟩
  · have hl' : (1048576 : Int) < (len : Int) := by omega
    go_enter Try.func6, Try.ntmps6
    go_wp2
    go_ret
    exact ⟨rfl, Below.refl _ _⟩
end Go.Proofs.Ytmangdkaklnpdaa
