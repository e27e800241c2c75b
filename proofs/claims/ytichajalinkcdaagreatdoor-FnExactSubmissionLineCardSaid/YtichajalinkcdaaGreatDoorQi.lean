/-
  My texts Tp, Tq, Tu, Tv, Tw, Tx, Ty, Tz, Wa, Wb in one, so that a claim holds fewer files. Conditions: each contract's own.
-/
import Derived.Test.YtichajalinkcdaaGreatDoorQh
namespace Go.Proofs.YtichajalinkcdaaGreatDoor
open Go.RowKit
set_option linter.unusedVariables false

def ls7 : List (List UInt8) := [[46], [104, 101, 108, 108, 111], [46, 46], [46, 120], [], [97, 32, 108, 111, 110, 103, 32, 108, 105, 110, 101, 32, 111, 102, 32, 116, 101, 120, 116], [116, 111, 32, 98, 111, 98]]
def ls16 : List (List UInt8) := [[69, 72, 76, 79, 32, 104, 111, 115, 116], [69, 72, 76, 79], [65, 85, 84, 72, 32, 80, 76, 65, 73, 78], [65, 85, 84, 72, 32, 76, 79, 71, 73, 78, 32, 120], [77, 65, 73, 76, 32, 70, 82, 79, 77, 58, 60, 62], [77, 65, 73, 76, 32, 70, 82, 79, 77, 58, 60, 97, 109, 121, 64, 104, 111, 115, 116, 46, 111, 114, 103, 62], [82, 67, 80, 84, 32, 84, 79, 58, 60, 98, 111, 98, 64, 104, 111, 115, 116, 46, 111, 114, 103, 62], [82, 67, 80, 84, 32, 84, 79, 58, 98, 111, 98], [68, 65, 84, 65], [82, 83, 69, 84], [78, 79, 79, 80], [81, 85, 73, 84], [81, 85, 73, 84, 32, 110, 111, 119], [101, 104, 108, 111, 32, 104, 111, 115, 116], [], [46]]
def ls3 : List (List UInt8) := [[97, 109, 121], [98, 111, 98], [99, 121, 100]]
def ls4 : List (List UInt8) := [[104, 111, 115, 116, 46, 111, 114, 103], [104, 111, 115, 116, 46, 111, 114, 103], [104, 111, 115, 116, 46, 111, 114, 103], [120]]
def ls4b : List (List UInt8) := [[97, 109, 121], [98, 111, 98], [99, 121, 100], [101, 118, 101]]
/-- One of a list of texts, none of them long. -/
theorem of_txt (b p : Nat) (ls : List (List UInt8)) (w : World) (h : Rd w b p) (hp : p ≤ 1000000) (hn : 1 ≤ ls.length) (hn' : ls.length ≤ 1000000) (hle : ls.all (fun x => decide (x.length ≤ 30)) = true) :
    Calls Tryz.prog 67 #[.pointer (some ⟨b, 0, none⟩), .slice (some ⟨w.heap.size, 0, none⟩) ls.length ls.length] (w.alloc (.cells (ls.map str).toArray 9))
      fun e w' => ∃ s : ByteArray, s.size ≤ 30 ∧ e = .returned (.string s) ∧ Rd w' b (p + 1) ∧ w.grownBy w' (some b) :=
  (of_new b p ls w h hp hn hn').mono fun e w' ⟨l, hl, he, hr, hg⟩ => ⟨⟨l.toArray⟩, text_le hle hl, he, hr, hg⟩
/-- A drawn line. -/
def TextC (w : World) (b p : Nat) (e : Ending) (w' : World) : Prop := ∃ (s : ByteArray) (q : Nat), s.size ≤ 200 ∧ q ≤ p + 8 ∧ e = .returned (.string s) ∧ Rd w' b q ∧ w.grownBy w' (some b)
theorem UIn.grown {w w' : World} {A : Option Addr} {N cap g : Nat} {L : List Us} (h : UIn w A N cap L) (hg : w.grownBy w' (some g)) (hne : ∀ b o, A = some ⟨b, o, none⟩ → b ≠ g) : UIn w' A N cap L := ⟨h.1, h.2.1, h.2.2.1.grown hg hne, h.2.2.2⟩
/-- What a call of the reader leaves. -/
def CG (w wr : World) (b q : Nat) : Prop := Rd wr b q ∧ w.grownBy wr (some b)
theorem CG.read {w wr w' : World} {b q q' : Nat} (h : CG w wr b q) (hr : Rd w' b q') (hg : wr.grownBy w' (some b)) : CG w w' b q' := ⟨hr, gr_trans h.2 hg⟩
theorem CG.later {w wr w' : World} {b q : Nat} (h : CG w wr b q) (hb : Below wr.heap.size wr w') : CG w w' b q := ⟨h.1.below hb h.1.lt, gr_trans h.2 (gr_below hb _)⟩
theorem below_drew0 (w : World) : Below w.heap.size w w.drew := ⟨rfl, rfl, rfl, Nat.le_refl _, fun _ _ => rfl⟩
set_option maxRecDepth 20000 in
set_option maxHeartbeats 8000000 in
theorem cmd_draw (b p : Nat) (st : Int) (us tx : ByteArray) (A AU : Option Addr) (N cap NU cU : Nat) (L : List Us) (w : World) (h : Rd w b p) (hp : p ≤ 700000) (hU : UIn w AU NU cU L) (hs : ∀ g ∈ L, g.2.1.size ≤ 30) (hAb : ∀ bb o, AU = some ⟨bb, o, none⟩ → bb ≠ b) (hus : us.size ≤ 30) : Calls Tryz.prog 44 #[.pointer (some ⟨b, 0, none⟩), .agg #[.int .i64 st, .string us, .slice A N cap, .string tx], .slice AU NU cU] w (TextC w b p) := by
  have hbl := h.lt
  have hW := Whole.made w 25 #[.int .i64 st, .string us, .slice A N cap, .string tx]
  have hB := below_new' w (.cells #[.int .i64 st, .string us, .slice A N cap, .string tx] 25)
  have HC0 : Hid (CG w (w.alloc (.cells #[.int .i64 st, .string us, .slice A N cap, .string tx] 25)) b p) := Lib.hid ⟨h.below hB hbl, gr_below hB _⟩
  have HW := Lib.hid hW
  have HU := Lib.hid (hU.below hB (Nat.le_refl _))
  have HS := Lib.hid hs
  have HAB := Lib.hid hAb
  have c0 := hW.cell 0
  have c1 := hW.cell 1
  simp only [List.getElem?_toArray, List.getElem?_cons_zero, List.getElem?_cons_succ] at c0 c1
  obtain ⟨w0, hw0⟩ : ∃ w0, w.alloc (.cells #[.int .i64 st, .string us, .slice A N cap, .string tx] 25) = w0 := ⟨_, rfl⟩
  rw [hw0] at HC0 HW HU
  have HW0 := Lib.hid hw0
  obtain ⟨C, hC⟩ : ∃ C, w.heap.size = C := ⟨_, rfl⟩
  rw [hC] at HW
  have HCC := Lib.hid hC
  have HbC : Hid (b < C) := Lib.hid (by omega)
  clear h hU hs hAb hW hB hw0 hC
  by_cases h5 : st = 5
  ·
    subst h5
    go_enter Tryz.func44, Tryz.ntmps44
    go_wp2_with fail
    rw [HW0.out]
    refine (pick_any b p 3 w0 HC0.out.1 (by omega) (by omega) (by omega)).mono ?_
    rintro e w1 ⟨x1, hx1, rfl, hr, hg⟩
    have H1 := Lib.hid (CG.read HC0.out hr hg)
    have G1 := Lib.hid hg
    clear hr hg
    by_cases h0 : 0 < x1
    ·
      have h0' : (0 : Int) < (x1 : Int) := by omega
      clear h0
      go_wp2_with fail
      refine (of_txt b (p + 1) ls7 w1 H1.out.1 (by omega) (by decide) (by decide) (by decide)).mono ?_
      rintro e w4 ⟨l1, hs1, rfl, hr, hg⟩
      have Hw4 := Lib.hid (CG.read H1.out hr hg)
      clear hr hg
      go_wp2
      go_ret
      exact ⟨_, _, by omega, by omega, rfl, Hw4.out.1, Hw4.out.2⟩
    ·
      have h0' : ¬ (0 : Int) < (x1 : Int) := by omega
      clear h0
      go_wp2_with fail
      refine (pick_any b (p + 1) 4 w1 H1.out.1 (by omega) (by omega) (by omega)).mono ?_
      rintro e w2 ⟨x2, hx2, rfl, hr, hg⟩
      have H2 := Lib.hid (CG.read H1.out hr hg)
      have G2 := Lib.hid (gr_trans G1.out hg)
      clear hr hg
      by_cases h0 : x2 = 0
      ·
        subst h0
        go_wp2_with fail
        refine (of_txt b (p + 1 + 1) ls16 w2 H2.out.1 (by omega) (by decide) (by decide) (by decide)).mono ?_
        rintro e w3 ⟨l2, hs2, rfl, hr, hg⟩
        have Hw3 := Lib.hid (CG.read H2.out hr hg)
        clear hr hg
        go_wp2
        go_ret
        exact ⟨_, _, by omega, by omega, rfl, Hw3.out.1, Hw3.out.2⟩
      ·
        have h0' : ((x2 : Int) == 0) = false := beq_eq_false_iff_ne.2 (by omega)
        clear h0
        have hx := HW.out.grown G2.out (by simp; have := HbC.out; omega)
        have c0 := hx.cell 0
        have c1 := hx.cell 1
        simp only [List.getElem?_toArray, List.getElem?_cons_zero, List.getElem?_cons_succ] at c0 c1
        clear hx
        rw [HCC.out]
        go_wp2
        go_ret
        exact ⟨_, _, by decide, by omega, rfl, H2.out.1, H2.out.2⟩
  have h5' : (st == 5) = false := beq_eq_false_iff_ne.2 h5
  by_cases hr01 : st = 0 ∨ st = 1 ∨ st = 2 ∨ st = 3 ∨ st = 4
  · rcases hr01 with rfl | rfl | rfl | rfl | rfl
    ·
      try clear h5
      go_enter Tryz.func44, Tryz.ntmps44
      go_wp2_with fail
      rw [HW0.out]
      refine (pick_any b p 4 w0 HC0.out.1 (by omega) (by omega) (by omega)).mono ?_
      rintro e w2 ⟨x2, hx2, rfl, hr, hg⟩
      have H2 := Lib.hid (CG.read HC0.out hr hg)
      have G2 := Lib.hid hg
      clear hr hg
      try rw [HCC.out]
      by_cases h0 : x2 = 0
      ·
        subst h0
        go_wp2_with fail
        refine (of_txt b (p + 1) ls16 w2 H2.out.1 (by omega) (by decide) (by decide) (by decide)).mono ?_
        rintro e w3 ⟨l3, hs3, rfl, hr, hg⟩
        have Hw3 := Lib.hid (CG.read H2.out hr hg)
        clear hr hg
        go_wp2
        go_ret
        exact ⟨_, _, by omega, by omega, rfl, Hw3.out.1, Hw3.out.2⟩
      ·
        have h0' : ((x2 : Int) == 0) = false := beq_eq_false_iff_ne.2 (by omega)
        clear h0
        have hx := HW.out.grown G2.out (by simp; have := HbC.out; omega)
        have c0 := hx.cell 0
        have c1 := hx.cell 1
        simp only [List.getElem?_toArray, List.getElem?_cons_zero, List.getElem?_cons_succ] at c0 c1
        clear hx
        go_wp2_with fail
        refine (domain_text b (p + 1) _ H2.out.1 (by omega)).mono ?_
        rintro e w4 ⟨s, hs, rfl, hr, hg⟩
        have H4 := Lib.hid (CG.read H2.out hr hg)
        clear hr hg
        go_wp2
        go_ret
        exact ⟨_, _, by rw [ByteArray.size_append]; have e5 : (ByteArray.mk #[69, 72, 76, 79, 32]).size = 5 := rfl; omega, by omega, rfl, H4.out.1, H4.out.2⟩
    ·
      try clear h5
      go_enter Tryz.func44, Tryz.ntmps44
      go_wp2_with fail
      rw [HW0.out]
      refine (pick_any b p 4 w0 HC0.out.1 (by omega) (by omega) (by omega)).mono ?_
      rintro e w2 ⟨x2, hx2, rfl, hr, hg⟩
      have H2 := Lib.hid (CG.read HC0.out hr hg)
      have G2 := Lib.hid hg
      clear hr hg
      try rw [HCC.out]
      by_cases h0 : x2 = 0
      ·
        subst h0
        go_wp2_with fail
        refine (of_txt b (p + 1) ls16 w2 H2.out.1 (by omega) (by decide) (by decide) (by decide)).mono ?_
        rintro e w3 ⟨l4, hs4, rfl, hr, hg⟩
        have Hw3 := Lib.hid (CG.read H2.out hr hg)
        clear hr hg
        go_wp2
        go_ret
        exact ⟨_, _, by omega, by omega, rfl, Hw3.out.1, Hw3.out.2⟩
      ·
        have h0' : ((x2 : Int) == 0) = false := beq_eq_false_iff_ne.2 (by omega)
        clear h0
        have hx := HW.out.grown G2.out (by simp; have := HbC.out; omega)
        have c0 := hx.cell 0
        have c1 := hx.cell 1
        simp only [List.getElem?_toArray, List.getElem?_cons_zero, List.getElem?_cons_succ] at c0 c1
        clear hx
        go_wp2_with fail
        refine (of_txt b (p + 1) ls3 w2 H2.out.1 (by omega) (by decide) (by decide) (by decide)).mono ?_
        rintro e w4 ⟨l5, hs5, rfl, hr, hg⟩
        have Hw4 := Lib.hid (CG.read H2.out hr hg)
        have G4 := Lib.hid (gr_trans G2.out hg)
        clear hr hg
        have HUw := Lib.hid (HU.out.grown (G4.out) HAB.out)
        go_wp2_with fail
        refine (pass_draw b (p + 1 + 1) AU NU cU L l5 w4 Hw4.out.1 (by omega) HUw.out HS.out HAB.out).mono ?_
        rintro e w5 ⟨s, q5, hs, hq5, rfl, hr, hg⟩
        have H5 := Lib.hid (CG.read Hw4.out hr hg)
        clear hr hg
        go_wp2_with fail
        refine (smake l5 s _ (by omega) (by omega)).mono ?_
        rintro e w6 ⟨rfl, hb⟩
        have hmk := mkB_le l5 s
        have H6 := Lib.hid (CG.later H5.out hb)
        clear hb
        go_wp2
        go_ret
        exact ⟨_, _, by rw [ByteArray.size_append]; have e5 : (ByteArray.mk #[65, 85, 84, 72, 32, 80, 76, 65, 73, 78, 32]).size = 11 := rfl; omega, by omega, rfl, H6.out.1, H6.out.2⟩
    ·
      try clear h5
      go_enter Tryz.func44, Tryz.ntmps44
      go_wp2_with fail
      rw [HW0.out]
      refine (pick_any b p 4 w0 HC0.out.1 (by omega) (by omega) (by omega)).mono ?_
      rintro e w2 ⟨x2, hx2, rfl, hr, hg⟩
      have H2 := Lib.hid (CG.read HC0.out hr hg)
      have G2 := Lib.hid hg
      clear hr hg
      try rw [HCC.out]
      by_cases h0 : x2 = 0
      ·
        subst h0
        go_wp2_with fail
        refine (of_txt b (p + 1) ls16 w2 H2.out.1 (by omega) (by decide) (by decide) (by decide)).mono ?_
        rintro e w3 ⟨l6, hs6, rfl, hr, hg⟩
        have Hw3 := Lib.hid (CG.read H2.out hr hg)
        clear hr hg
        go_wp2
        go_ret
        exact ⟨_, _, by omega, by omega, rfl, Hw3.out.1, Hw3.out.2⟩
      ·
        have h0' : ((x2 : Int) == 0) = false := beq_eq_false_iff_ne.2 (by omega)
        clear h0
        have hx := HW.out.grown G2.out (by simp; have := HbC.out; omega)
        have c0 := hx.cell 0
        have c1 := hx.cell 1
        simp only [List.getElem?_toArray, List.getElem?_cons_zero, List.getElem?_cons_succ] at c0 c1
        clear hx
        go_wp2
        try rw [HCC.out]
        have ca1 := (((HW.out.grown G2.out (by simp; have := HbC.out; omega)).alloc (.cells (ls4.map str).toArray 9)).cell 1)
        simp only [List.getElem?_toArray, List.getElem?_cons_zero, List.getElem?_cons_succ] at ca1
        simp only [ls4, List.map_cons, List.map_nil, str] at ca1
        go_region_with (go_at_call 67; refine (of_txt b (p + 1) ls4 w2.drew H2.out.1 (by omega) (by decide) (by decide) (by decide)).mono ?_; rintro e w4 ⟨l9, hs9, rfl, hr, hg⟩; have k1 : w4.cell? ⟨C, 1, none⟩ = some (.string us) := (((HW.out.grown G2.out (by simp; have := HbC.out; omega)).drew.grown hg (by simp; have := HbC.out; omega)).cell 1); have H4 := Lib.hid (show CG w w4 b (p + 1 + 1) from ⟨hr, gr_trans H2.out.2 (gr_trans (gr_below (below_drew0 w2) _) hg)⟩); clear hr hg)
        all_goals
          go_wp2
          go_ret
          exact ⟨_, _, by simp only [ByteArray.size_append]; have e5 : (ByteArray.mk #[77, 65, 73, 76, 32, 70, 82, 79, 77, 58, 60]).size = 11 := rfl; have e6 : (ByteArray.mk #[64]).size = 1 := rfl; have e7 : (ByteArray.mk #[62]).size = 1 := rfl; omega, by omega, rfl, H4.out.1, H4.out.2⟩
    ·
      try clear h5
      go_enter Tryz.func44, Tryz.ntmps44
      go_wp2_with fail
      rw [HW0.out]
      refine (pick_any b p 4 w0 HC0.out.1 (by omega) (by omega) (by omega)).mono ?_
      rintro e w2 ⟨x2, hx2, rfl, hr, hg⟩
      have H2 := Lib.hid (CG.read HC0.out hr hg)
      have G2 := Lib.hid hg
      clear hr hg
      try rw [HCC.out]
      by_cases h0 : x2 = 0
      ·
        subst h0
        go_wp2_with fail
        refine (of_txt b (p + 1) ls16 w2 H2.out.1 (by omega) (by decide) (by decide) (by decide)).mono ?_
        rintro e w3 ⟨l7, hs7, rfl, hr, hg⟩
        have Hw3 := Lib.hid (CG.read H2.out hr hg)
        clear hr hg
        go_wp2
        go_ret
        exact ⟨_, _, by omega, by omega, rfl, Hw3.out.1, Hw3.out.2⟩
      ·
        have h0' : ((x2 : Int) == 0) = false := beq_eq_false_iff_ne.2 (by omega)
        clear h0
        have hx := HW.out.grown G2.out (by simp; have := HbC.out; omega)
        have c0 := hx.cell 0
        have c1 := hx.cell 1
        simp only [List.getElem?_toArray, List.getElem?_cons_zero, List.getElem?_cons_succ] at c0 c1
        clear hx
        go_wp2_with fail
        refine (of_txt b (p + 1) ls4b w2 H2.out.1 (by omega) (by decide) (by decide) (by decide)).mono ?_
        rintro e w6 ⟨l8, hs8, rfl, hr, hg⟩
        have Hw6 := Lib.hid (CG.read H2.out hr hg)
        clear hr hg
        go_wp2_with fail
        refine (of_txt b (p + 1 + 1) ls4 w6 Hw6.out.1 (by omega) (by decide) (by decide) (by decide)).mono ?_
        rintro e w7 ⟨l9, hs9, rfl, hr, hg⟩
        have Hw7 := Lib.hid (CG.read Hw6.out hr hg)
        clear hr hg
        go_wp2
        go_ret
        exact ⟨_, _, by simp only [ByteArray.size_append]; have e5 : (ByteArray.mk #[82, 67, 80, 84, 32, 84, 79, 58, 60]).size = 9 := rfl; have e6 : (ByteArray.mk #[64]).size = 1 := rfl; have e7 : (ByteArray.mk #[62]).size = 1 := rfl; omega, by omega, rfl, Hw7.out.1, Hw7.out.2⟩
    ·
      try clear h5
      go_enter Tryz.func44, Tryz.ntmps44
      go_wp2_with fail
      rw [HW0.out]
      refine (pick_any b p 4 w0 HC0.out.1 (by omega) (by omega) (by omega)).mono ?_
      rintro e w2 ⟨x2, hx2, rfl, hr, hg⟩
      have H2 := Lib.hid (CG.read HC0.out hr hg)
      have G2 := Lib.hid hg
      clear hr hg
      try rw [HCC.out]
      by_cases h0 : x2 = 0
      ·
        subst h0
        go_wp2_with fail
        refine (of_txt b (p + 1) ls16 w2 H2.out.1 (by omega) (by decide) (by decide) (by decide)).mono ?_
        rintro e w3 ⟨l10, hs10, rfl, hr, hg⟩
        have Hw3 := Lib.hid (CG.read H2.out hr hg)
        clear hr hg
        go_wp2
        go_ret
        exact ⟨_, _, by omega, by omega, rfl, Hw3.out.1, Hw3.out.2⟩
      ·
        have h0' : ((x2 : Int) == 0) = false := beq_eq_false_iff_ne.2 (by omega)
        clear h0
        have hx := HW.out.grown G2.out (by simp; have := HbC.out; omega)
        have c0 := hx.cell 0
        have c1 := hx.cell 1
        simp only [List.getElem?_toArray, List.getElem?_cons_zero, List.getElem?_cons_succ] at c0 c1
        clear hx
        go_wp2_with fail
        refine (pick_any b (p + 1) 2 _ H2.out.1 (by omega) (by omega) (by omega)).mono ?_
        rintro e w5 ⟨x5, hx5, rfl, hr, hg⟩
        have H5 := Lib.hid (CG.read H2.out hr hg)
        clear hr hg c0 c1
        by_cases h0 : x5 = 0
        · subst h0
          go_wp2
          go_ret
          exact ⟨_, _, by decide, by omega, rfl, H5.out.1, H5.out.2⟩
        ·
          have h0' : ((x5 : Int) == 0) = false := beq_eq_false_iff_ne.2 (by omega)
          clear h0
          go_wp2_with fail
          refine (of_txt b (p + 1 + 1) ls4b w5 H5.out.1 (by omega) (by decide) (by decide) (by decide)).mono ?_
          rintro e w6 ⟨l11, hs11, rfl, hr, hg⟩
          have Hw6 := Lib.hid (CG.read H5.out hr hg)
          clear hr hg
          go_wp2_with fail
          refine (of_txt b (p + 1 + 1 + 1) ls4 w6 Hw6.out.1 (by omega) (by decide) (by decide) (by decide)).mono ?_
          rintro e w7 ⟨l12, hs12, rfl, hr, hg⟩
          have Hw7 := Lib.hid (CG.read Hw6.out hr hg)
          clear hr hg
          go_wp2
          go_ret
          exact ⟨_, _, by simp only [ByteArray.size_append]; have e5 : (ByteArray.mk #[82, 67, 80, 84, 32, 84, 79, 58, 60]).size = 9 := rfl; have e6 : (ByteArray.mk #[64]).size = 1 := rfl; have e7 : (ByteArray.mk #[62]).size = 1 := rfl; omega, by omega, rfl, Hw7.out.1, Hw7.out.2⟩
  ·
    have n0 : (st == 0) = false := beq_eq_false_iff_ne.2 (by omega)
    have n1 : (st == 1) = false := beq_eq_false_iff_ne.2 (by omega)
    have n2 : (st == 2) = false := beq_eq_false_iff_ne.2 (by omega)
    have n3 : (st == 3) = false := beq_eq_false_iff_ne.2 (by omega)
    have n4 : (st == 4) = false := beq_eq_false_iff_ne.2 (by omega)
    clear hr01
    try clear h5
    go_enter Tryz.func44, Tryz.ntmps44
    go_wp2_with fail
    rw [HW0.out]
    refine (pick_any b p 4 w0 HC0.out.1 (by omega) (by omega) (by omega)).mono ?_
    rintro e w2 ⟨x2, hx2, rfl, hr, hg⟩
    have H2 := Lib.hid (CG.read HC0.out hr hg)
    have G2 := Lib.hid hg
    clear hr hg
    try rw [HCC.out]
    by_cases h0 : x2 = 0
    ·
      subst h0
      go_wp2_with fail
      refine (of_txt b (p + 1) ls16 w2 H2.out.1 (by omega) (by decide) (by decide) (by decide)).mono ?_
      rintro e w3 ⟨l13, hs13, rfl, hr, hg⟩
      have Hw3 := Lib.hid (CG.read H2.out hr hg)
      clear hr hg
      go_wp2
      go_ret
      exact ⟨_, _, by omega, by omega, rfl, Hw3.out.1, Hw3.out.2⟩
    ·
      have h0' : ((x2 : Int) == 0) = false := beq_eq_false_iff_ne.2 (by omega)
      clear h0
      have hx := HW.out.grown G2.out (by simp; have := HbC.out; omega)
      have c0 := hx.cell 0
      have c1 := hx.cell 1
      simp only [List.getElem?_toArray, List.getElem?_cons_zero, List.getElem?_cons_succ] at c0 c1
      clear hx
      go_wp2
      go_ret
      exact ⟨_, _, by decide, by omega, rfl, H2.out.1, H2.out.2⟩
end Go.Proofs.YtichajalinkcdaaGreatDoor
namespace Go.Proofs.YtichajalinkcdaaGreatDoor
open Go.RowKit
set_option linter.unusedVariables false

theorem many_step {z n k r o N : Nat} (hn : n = 2 * k + r) (h : o + z * n = N) : (o + z * r) + (z + z) * k = N := by
  have e : z * (2 * k + r) = (z + z) * k + z * r := by rw [Nat.mul_add, ← Nat.mul_assoc, Nat.mul_two]
  rw [hn, e] at h
  omega
set_option maxHeartbeats 2000000 in
theorem spec_many (N : Nat) (hN : N ≤ 30) (w : World) : Calls Tryz.prog 65 #[.string ⟨#[121]⟩, .int .i64 (N : Int)] w fun e w' => ∃ s : ByteArray, s.size = N ∧ e = .returned (.string s) ∧ w' = w := by
  go_enter Tryz.func65, Tryz.ntmps65
  go_wp2
  go_loopw [0, 1, 5] (fun v0 v1 v5 wr => ∃ (s o : ByteArray) (n : Nat), n ≤ 30 ∧ v0 = .string s ∧ v1 = .int .i64 (n : Int) ∧ v5 = .string o ∧ Hid (o.size + s.size * n = N) ∧ 1 ≤ s.size ∧ s.size ≤ 60 ∧ o.size ≤ 30 ∧ wr = w) (fun _ v1 _ _ => (intOf v1).toNat)
  case atStart => exact ⟨⟨#[121]⟩, ⟨#[]⟩, N, hN, rfl, by go_num, rfl, Lib.hid (by have e1 : (ByteArray.mk #[121]).size = 1 := rfl; have e2 : (ByteArray.mk #[]).size = 0 := rfl; rw [e1, e2]; omega), by decide, by decide, by decide, rfl⟩
  case round =>
    obtain ⟨s, o, n, hn, rfl, rfl, rfl, HI, hs1, hs2, ho, rfl⟩ := hrel
    by_cases h0 : 0 < n
    · have h0' : (0 : Int) < (n : Int) := by omega
      obtain ⟨k, r, hk, hr⟩ : ∃ k r, n = 2 * k + r ∧ r ≤ 1 := ⟨n / 2, n % 2, by omega, by omega⟩
      have HM := Lib.hid (many_step hk HI.out)
      have hsn : s.size ≤ N := by
        have h1 := HI.out
        have h2 : s.size * 1 ≤ s.size * n := Nat.mul_le_mul_left _ h0
        omega
      have hq : (n : Int).tdiv 2 = (k : Int) := by rw [Int.tdiv_eq_ediv_of_nonneg (by omega)]; omega
      have W1 : IntKind.i64.wrap (k : Int) = (k : Int) := IntWalk.i64_in _ (by omega)
      have hk30 : k ≤ 30 := by omega
      have hkn : k < n := by omega
      have ht : (n : Int).tmod 2 = (r : Int) := by rw [Int.tmod_eq_emod_of_nonneg (by omega)]; omega
      rcases (show r = 0 ∨ r = 1 by omega) with rfl | rfl
      · have hm : ((n : Int).tmod 2 == 1) = false := by rw [ht]; rfl
        have hm2 : ((n : Int) % 2 == 1) = false := beq_eq_false_iff_ne.2 (by omega)
        have hm3 : ¬ (n : Int) % 2 = 1 := by omega
        have hm4 : ¬ n % 2 = 1 := by omega
        have hm5 : (n % 2 == 1) = false := beq_eq_false_iff_ne.2 (by omega)
        have HM2 : Hid (o.size + (s ++ s).size * k = N) := Lib.hid (by have h3 := HM.out; rw [ByteArray.size_append]; omega)
        have hsz : (s ++ s).size ≤ 60 := by rw [ByteArray.size_append]; omega
        have hsz1 : 1 ≤ (s ++ s).size := by rw [ByteArray.size_append]; omega
        clear hk ht
        go_wp2
        go_roundw
        case rel => exact ⟨s ++ s, o, k, by omega, rfl, by first | rfl | go_num, rfl, HM2, hsz1, hsz, ho, by trivial⟩
        case measure => simp [intOf]; omega
      · have hm : ((n : Int).tmod 2 == 1) = true := by rw [ht]; rfl
        have hm2 : ((n : Int) % 2 == 1) = true := beq_iff_eq.2 (by omega)
        have hm3 : (n : Int) % 2 = 1 := by omega
        have hm4 : n % 2 = 1 := by omega
        have hm5 : (n % 2 == 1) = true := beq_iff_eq.2 (by omega)
        have HM2 : Hid ((o ++ s).size + (s ++ s).size * k = N) := Lib.hid (by have h3 := HM.out; rw [ByteArray.size_append, ByteArray.size_append]; omega)
        have hsz : (s ++ s).size ≤ 60 := by rw [ByteArray.size_append]; omega
        have hsz1 : 1 ≤ (s ++ s).size := by rw [ByteArray.size_append]; omega
        have hso : (o ++ s).size ≤ 30 := by have h3 := HM2.out; omega
        clear hk ht
        go_wp2
        go_roundw
        case rel => exact ⟨s ++ s, o ++ s, k, by omega, rfl, by first | rfl | go_num, rfl, HM2, hsz1, hsz, hso, by trivial⟩
        case measure => simp [intOf]; omega
    · have h0' : ¬ (0 : Int) < (n : Int) := by omega
      have hz : n = 0 := by omega
      have hsz : o.size = N := by have h1 := HI.out; rw [hz, Nat.mul_zero] at h1; omega
      clear hz h0
      go_wp2
      go_ret
      exact ⟨o, hsz, rfl, rfl⟩
/-- Whatever the line, what SubmissionLine answers is valid. -/
theorem lineV_valid {s : Sb} {L : List Us} {d l u : ByteArray} {o : Bool} (hu : o = true → nameB (kb u) = true) : sbV (lineV s L d l u o).1 = true := by
  unfold lineV
  split
  · rename_i h
    simp only [Bool.and_eq_true] at h
    exact lineF_valid h.1 hu
  · rfl
end Go.Proofs.YtichajalinkcdaaGreatDoor
namespace Go.Proofs.YtichajalinkcdaaGreatDoor
open Go.RowKit
set_option linter.unusedVariables false

/-- A drawn submission. -/
def DrewS (w : World) (b p : Nat) (e : Ending) (w' : World) : Prop := ∃ (st : Int) (us tx : ByteArray) (A : Option Addr) (N cap : Nat) (T : List ByteArray) (q : Nat), e = .returned (.agg #[.int .i64 st, .string us, .slice A N cap, .string tx]) ∧ q ≤ p + 130 ∧ CG w w' b q ∧ ROwn stR w' w.heap.size (.slice A N cap) T ∧ us.size ≤ 30 ∧ tx.size ≤ 30 ∧ T.length ≤ 6 ∧ (∀ g ∈ T, g.size ≤ 30)
/-- The submission so far, in block 'S'. -/
def SD (w wr : World) (b q S : Nat) (st : Int) (us tx : ByteArray) (A : Option Addr) (N cap : Nat) (T : List ByteArray) : Prop := CG w wr b q ∧ Whole wr S 25 #[.int .i64 st, .string us, .slice A N cap, .string tx] ∧ Whole wr w.heap.size 25 #[.int .i64 0, .string ⟨#[]⟩, .slice none 0 0, .string ⟨#[]⟩] ∧ ROwn stR wr w.heap.size (.slice A N cap) T ∧ b < w.heap.size ∧ w.heap.size < S
section
variable {w wr w' : World} {b q q' S N cap : Nat} {st : Int} {us tx : ByteArray} {A : Option Addr} {T : List ByteArray}
theorem SD.read (h : SD w wr b q S st us tx A N cap T) (hr : Rd w' b q') (hg : wr.grownBy w' (some b)) : SD w w' b q' S st us tx A N cap T :=
  ⟨CG.read h.1 hr hg, h.2.1.grown hg (by have := h.2.2.2.2; simp; omega), h.2.2.1.grown hg (by have := h.2.2.2.2; simp; omega), h.2.2.2.1.grown hg h.2.2.2.2.1, h.2.2.2.2⟩
theorem SD.later (h : SD w wr b q S st us tx A N cap T) (hb : Below wr.heap.size wr w') : SD w w' b q S st us tx A N cap T :=
  ⟨CG.later h.1 hb, h.2.1.below hb h.2.1.lt, h.2.2.1.below hb h.2.2.1.lt, h.2.2.2.1.kept hb, h.2.2.2.2⟩
theorem CG.set (h : CG w wr b q) (hb : b < w.heap.size) (hS : w.heap.size ≤ S) (j : Nat) (u : Value) : CG w (wr.setCell ⟨S, j, none⟩ u) b q := by
  have hg : wr.grownBy (wr.setCell ⟨S, j, none⟩ u) (some S) := gr_store (gr_refl wr _) (.inl rfl) u
  exact ⟨h.1.grown hg (by omega), gr_far h.2 hg (fun g e => by cases e; exact hS)⟩
theorem CG.set4 (h : CG w wr b q) (hb : b < w.heap.size) (hS : w.heap.size ≤ S) (a0 a1 a2 a3 : Value) : CG w ((((wr.setCell ⟨S, 0, none⟩ a0).setCell ⟨S, 1, none⟩ a1).setCell ⟨S, 2, none⟩ a2).setCell ⟨S, 3, none⟩ a3) b q := (((h.set hb hS 0 a0).set hb hS 1 a1).set hb hS 2 a2).set hb hS 3 a3
theorem own_off {t : TypeId} {cs : Array Value} (h : ROwn stR wr w.heap.size (.slice A N cap) T) (hW : Whole wr S t cs) (ht : t ≠ 9) : (Value.slice A N cap).ownBlock ≠ some S := h.whole hW ht
theorem own_offq {t : TypeId} {cs : Array Value} {B : Nat} (h : ROwn stR wr B (.slice A N cap) T) (hW : Whole wr S t cs) (ht : t ≠ 9) : ∀ q, A = some q → q.block ≠ S := by
  intro q e hq
  subst e
  rcases h.2 with ⟨he, _⟩ | ⟨g, c, cur, he, _⟩
  · cases he
  · cases he
    exact h.whole hW ht (by rw [← hq]; rfl)
/-- A new submission in the block. -/
theorem SD.put {st' : Int} {us' tx' : ByteArray} {A' : Option Addr} {N' cap' B : Nat} {T' : List ByteArray} (h : SD w wr b q S st us tx A N cap T) (ho : ROwn stR wr B (.slice A' N' cap') T') (hB : w.heap.size ≤ B) :
    SD w ((((wr.setCell ⟨S, 0, none⟩ (.int .i64 st')).setCell ⟨S, 1, none⟩ (.string us')).setCell ⟨S, 2, none⟩ (.slice A' N' cap')).setCell ⟨S, 3, none⟩ (.string tx')) b q S st' us' tx' A' N' cap' T' :=
  ⟨h.1.set4 h.2.2.2.2.1 (by have := h.2.2.2.2.2; omega) _ _ _ _, put_sb h.2.1 _ _ _ _, apart4 h.2.2.1 (by have := h.2.2.2.2.2; omega) _ _ _ _, (own_set4 ho (own_offq ho h.2.1 (by decide)) _ _ _ _).from hB, h.2.2.2.2⟩
end
theorem domHost : domB (kb ⟨#[104, 111, 115, 116, 46, 111, 114, 103]⟩) = true := by decide
set_option maxRecDepth 20000 in
set_option maxHeartbeats 8000000 in
theorem sub_draw (b p : Nat) (AU : Option Addr) (NU cU : Nat) (L : List Us) (w : World) (h : Rd w b p) (hp : p ≤ 600000) (hU : UIn w AU NU cU L) (hs : ∀ g ∈ L, g.2.1.size ≤ 30) (hAb : ∀ bb o, AU = some ⟨bb, o, none⟩ → bb ≠ b) : Calls Tryz.prog 41 #[.pointer (some ⟨b, 0, none⟩), .slice AU NU cU] w (DrewS w b p) := by
  have hbl := h.lt
  have HU := Lib.hid hU
  have HSZ := Lib.hid hs
  have HAB := Lib.hid hAb
  obtain ⟨B, hB⟩ : ∃ B, w.heap.size = B := ⟨_, rfl⟩
  have hw0 := Whole.made w 25 #[.int .i64 0, .string ⟨#[]⟩, .slice none 0 0, .string ⟨#[]⟩]
  obtain ⟨wz, hwz⟩ : ∃ wz, w.alloc (.cells #[.int .i64 0, .string ⟨#[]⟩, .slice none 0 0, .string ⟨#[]⟩] 25) = wz := ⟨_, rfl⟩
  have hz : wz.heap.size = B + 1 := by rw [← hwz, ← hB]; simp
  have hbz : Below w.heap.size w wz := by rw [← hwz]; exact below_new' _ _
  have ho0 : ROwn stR (wz.alloc (.cells #[] 9)) w.heap.size (.slice (some ⟨B + 1, 0, none⟩) 0 0) [] := ROwn.lit wz (B + 1) (by omega) hz
  obtain ⟨we, hwe⟩ : ∃ we, wz.alloc (.cells #[] 9) = we := ⟨_, rfl⟩
  have hze : we.heap.size = B + 1 + 1 := by rw [← hwe]; simp; omega
  have hbe : Below w.heap.size w we := by rw [← hwe]; exact hbz.alloc (by omega) _
  obtain ⟨wa, hwa⟩ : ∃ wa, we.alloc (.cells #[.int .i64 0, .string ⟨#[]⟩, .slice (some ⟨B + 1, 0, none⟩) 0 0, .string ⟨#[]⟩] 25) = wa := ⟨_, rfl⟩
  have hba : Below w.heap.size w wa := by rw [← hwa]; exact hbe.alloc (by omega) _
  have HK0 : Hid (SD w wa b p (B + 1 + 1) 0 ⟨#[]⟩ ⟨#[]⟩ (some ⟨B + 1, 0, none⟩) 0 0 []) := Lib.hid (by
    rw [hwe] at ho0
    refine ⟨⟨h.below hba hbl, gr_below hba _⟩, ?_, ?_, ?_, hbl, by omega⟩
    · rw [← hwa, ← hze]; exact Whole.made we _ _
    · rw [← hwa, ← hwe, ← hwz]; exact (hw0.alloc _).alloc _
    · rw [← hwa]; exact ho0.alloc _)
  have HWA : Hid (((w.alloc (.cells #[.int .i64 0, .string ⟨#[]⟩, .slice none 0 0, .string ⟨#[]⟩] 25)).alloc (.cells #[] 9)).alloc (.cells #[.int .i64 0, .string ⟨#[]⟩, .slice (some ⟨B + 1, 0, none⟩) 0 0, .string ⟨#[]⟩] 25) = wa) := Lib.hid (by rw [hwz, hwe, hwa])
  have HBB := Lib.hid hB
  have HBlt : Hid (B < wa.heap.size) := Lib.hid (by rw [← hwa]; simp; omega)
  clear h hU hs hAb hB hw0 hwz hz hbz ho0 hwe hze hbe hwa hba
  go_enter Tryz.func41, Tryz.ntmps41
  go_wp2_with fail
  rw [HBB.out, HWA.out]
  refine (pick_any b p 14 wa HK0.out.1.1 (by omega) (by omega) (by omega)).mono ?_
  rintro e w1 ⟨n, hn, rfl, hr, hg⟩
  have HK1 := Lib.hid (SD.read HK0.out hr hg)
  clear hr hg
  obtain ⟨S, hS⟩ : ∃ S, B + 1 + 1 = S := ⟨_, rfl⟩
  rw [hS] at HK1
  rw [hS]
  clear hS
  go_wp2
  go_loopw [7] (fun i wr => ∃ (k q N cap : Nat) (st : Int) (us tx : ByteArray) (A : Option Addr) (T : List ByteArray), k ≤ n ∧ i = .int .i64 (k : Int) ∧ q ≤ p + 1 + 8 * k ∧ Hid (sbV ⟨st, us, T, tx⟩ = true) ∧ Hid (SD w wr b q S st us tx A N cap T)) (fun i _ => n - (intOf i).toNat)
  case atStart => exact ⟨0, p + 1, 0, 0, 0, ⟨#[]⟩, ⟨#[]⟩, _, [], Nat.zero_le _, by go_num, by omega, Lib.hid rfl, HK1⟩
  case round =>
    obtain ⟨k, q, N, cap, st, us, tx, A, T, hk, rfl, hq, HV, HK⟩ := hrel
    have HUr := Lib.hid (HU.out.grown HK.out.1.2 HAB.out)
    by_cases hlt : k < n
    ·
      have h5 : (k : Int) < (n : Int) := by omega
      cases hvu : vU L with
      | false =>
        have HVU := Lib.hid hvu
        clear hvu
        go_wp2_with fail
        refine (spec_uv HVU.out _ HUr.out).mono ?_
        rintro e w2 ⟨rfl, hb⟩
        have HE := Lib.hid (SD.later HK.out hb)
        clear hb
        go_wp2_with fail
        refine (pick_any b q 20 _ HE.out.1.1 (by omega) (by omega) (by omega)).mono ?_
        rintro e w5 ⟨y, hy, rfl, hr, hg⟩
        have H5 := Lib.hid (SD.read HE.out hr hg)
        clear hr hg
        obtain ⟨v1, v2, v3, v4, v5, v6, v7⟩ := sbV_has HV.out
        simp only at v1 v2 v3 v4
        have HT := Lib.hid v3
        clear v3 v5 v6 v7
        by_cases h0 : y = 0
        ·
          subst h0
          go_wp2_with fail
          refine (pick_any b (q + 1) 9 _ H5.out.1.1 (by omega) (by omega) (by omega)).mono ?_
          rintro e w6 ⟨x, hx, rfl, hr, hg⟩
          have H6 := Lib.hid (SD.read H5.out hr hg)
          clear hr hg
          have W1 : IntKind.i64.wrap ((x : Int) - 1) = (x : Int) - 1 := IntWalk.i64_in _ (by omega)
          have hs0 := H6.out.2.1
          have e0 := hs0.free 0
          have d0 := hs0.cell 0
          have d1 := hs0.cell 1
          have d2 := hs0.cell 2
          have d3 := hs0.cell 3
          simp only [List.getElem?_toArray, List.getElem?_cons_zero, List.getElem?_cons_succ] at d0 d1 d2 d3
          have hK7 : SD w (w6.setCell ⟨S, 0, none⟩ (.int .i64 ((x : Int) - 1))) b _ S ((x : Int) - 1) us tx A N cap T := ⟨CG.set H6.out.1 H6.out.2.2.2.2.1 (by have := H6.out.2.2.2.2.2; omega) 0 _, hs0.store 0 _, H6.out.2.2.1.apart (p := ⟨S, 0, none⟩) (by have := H6.out.2.2.2.2.2; simp; omega) _, H6.out.2.2.2.1.store (p := ⟨S, 0, none⟩) (own_off H6.out.2.2.2.1 H6.out.2.1 (by decide)) _, H6.out.2.2.2.2⟩
          have H7 := Lib.hid hK7
          clear hs0 hK7
          have hs := H7.out.2.1
          have hr := H7.out.2.2.1
          have c0 := hs.cell 0
          have c1 := hs.cell 1
          have c2 := hs.cell 2
          have c3 := hs.cell 3
          simp only [List.getElem?_toArray, List.getElem?_cons_zero, List.getElem?_cons_succ] at c0 c1 c2 c3
          have z0 := hr.cell 0
          have z1 := hr.cell 1
          have z2 := hr.cell 2
          have z3 := hr.cell 3
          simp only [List.getElem?_toArray, List.getElem?_cons_zero, List.getElem?_cons_succ] at z0 z1 z2 z3
          have f0 := hr.free 0
          have f1 := hr.free 1
          have f2 := hr.free 2
          have f3 := hr.free 3
          have hf := put_sb hr (.int .i64 ((x : Int) - 1)) (.string us) (.slice A N cap) (.string tx)
          have r0 := hf.cell 0
          have r1 := hf.cell 1
          have r2 := hf.cell 2
          have r3 := hf.cell 3
          simp only [List.getElem?_toArray, List.getElem?_cons_zero, List.getElem?_cons_succ] at r0 r1 r2 r3
          clear hs hr hf
          try rw [HBB.out] at r0 r1 r2 r3 z0 z1 z2 z3 f0 f1 f2 f3
          go_wp2
          refine bodyPost_ret (v := .agg #[.int .i64 ((x : Int) - 1), .string us, .slice A N cap, .string tx]) (by simp [results, Tryz.results41, go_sem, r0, r1, r2, r3]) rfl ?_
          have ho := H7.out.2.2.2.1
          exact ⟨((x : Int) - 1), us, tx, A, N, cap, T, q + 1 + 1, rfl, by omega, by rw [← HBB.out]; exact CG.set4 H7.out.1 H7.out.2.2.2.2.1 (Nat.le_refl _) _ _ _ _, by rw [← HBB.out]; exact own_set4 ho (own_offq ho H7.out.2.2.1 (by decide)) _ _ _ _, Nat.le_trans v1 (by omega), Nat.le_trans v4 (by omega), Nat.le_trans v2 (by omega), fun g hg => Nat.le_trans (HT.out g hg) (by omega)⟩
        have h0' : ((y : Int) == 0) = false := beq_eq_false_iff_ne.2 (by omega)
        by_cases h1 : y = 1
        ·
          subst h1
          go_wp2_with fail
          refine (name_text b (q + 1) _ H5.out.1.1 (by omega)).mono ?_
          rintro e w6 ⟨s, hs, rfl, hr, hg⟩
          have H6 := Lib.hid (SD.read H5.out hr hg)
          clear hr hg
          have hs0 := H6.out.2.1
          have e1 := hs0.free 1
          have d0 := hs0.cell 0
          have d1 := hs0.cell 1
          have d2 := hs0.cell 2
          have d3 := hs0.cell 3
          simp only [List.getElem?_toArray, List.getElem?_cons_zero, List.getElem?_cons_succ] at d0 d1 d2 d3
          have hK7 : SD w (w6.setCell ⟨S, 1, none⟩ (.string s)) b _ S st s tx A N cap T := ⟨CG.set H6.out.1 H6.out.2.2.2.2.1 (by have := H6.out.2.2.2.2.2; omega) 1 _, hs0.store 1 _, H6.out.2.2.1.apart (p := ⟨S, 1, none⟩) (by have := H6.out.2.2.2.2.2; simp; omega) _, H6.out.2.2.2.1.store (p := ⟨S, 1, none⟩) (own_off H6.out.2.2.2.1 H6.out.2.1 (by decide)) _, H6.out.2.2.2.2⟩
          have H7 := Lib.hid hK7
          clear hs0 hK7
          have hs := H7.out.2.1
          have hr := H7.out.2.2.1
          have c0 := hs.cell 0
          have c1 := hs.cell 1
          have c2 := hs.cell 2
          have c3 := hs.cell 3
          simp only [List.getElem?_toArray, List.getElem?_cons_zero, List.getElem?_cons_succ] at c0 c1 c2 c3
          have z0 := hr.cell 0
          have z1 := hr.cell 1
          have z2 := hr.cell 2
          have z3 := hr.cell 3
          simp only [List.getElem?_toArray, List.getElem?_cons_zero, List.getElem?_cons_succ] at z0 z1 z2 z3
          have f0 := hr.free 0
          have f1 := hr.free 1
          have f2 := hr.free 2
          have f3 := hr.free 3
          have hf := put_sb hr (.int .i64 st) (.string s) (.slice A N cap) (.string tx)
          have r0 := hf.cell 0
          have r1 := hf.cell 1
          have r2 := hf.cell 2
          have r3 := hf.cell 3
          simp only [List.getElem?_toArray, List.getElem?_cons_zero, List.getElem?_cons_succ] at r0 r1 r2 r3
          clear hs hr hf
          try rw [HBB.out] at r0 r1 r2 r3 z0 z1 z2 z3 f0 f1 f2 f3
          go_wp2
          refine bodyPost_ret (v := .agg #[.int .i64 st, .string s, .slice A N cap, .string tx]) (by simp [results, Tryz.results41, go_sem, r0, r1, r2, r3]) rfl ?_
          have ho := H7.out.2.2.2.1
          exact ⟨st, s, tx, A, N, cap, T, q + 1 + 2, rfl, by omega, by rw [← HBB.out]; exact CG.set4 H7.out.1 H7.out.2.2.2.2.1 (Nat.le_refl _) _ _ _ _, by rw [← HBB.out]; exact own_set4 ho (own_offq ho H7.out.2.2.1 (by decide)) _ _ _ _, hs, Nat.le_trans v4 (by omega), Nat.le_trans v2 (by omega), fun g hg => Nat.le_trans (HT.out g hg) (by omega)⟩
        have h1' : ((y : Int) == 1) = false := beq_eq_false_iff_ne.2 (by omega)
        by_cases h2 : y = 2
        ·
          subst h2
          go_wp2_with fail
          refine (pick_any b (q + 1) 4 _ H5.out.1.1 (by omega) (by omega) (by omega)).mono ?_
          rintro e w6 ⟨x, hx, rfl, hr, hg⟩
          have H6 := Lib.hid (SD.read H5.out hr hg)
          clear hr hg
          obtain ⟨m, hm⟩ : ∃ m : Nat, 19 + x = m := ⟨_, rfl⟩
          have E1 : (19 : Int) + (x : Int) = (m : Int) := by omega
          have W1 : IntKind.i64.wrap (19 + (x : Int)) = (m : Int) := (IntWalk.i64_in _ (by omega)).trans E1
          go_wp2_with fail
          refine (spec_many m (by omega) _).mono ?_
          rintro e w9 ⟨s, hs, rfl, hw⟩
          subst hw
          have hs0 := H6.out.2.1
          have e3 := hs0.free 3
          have d0 := hs0.cell 0
          have d1 := hs0.cell 1
          have d2 := hs0.cell 2
          have d3 := hs0.cell 3
          simp only [List.getElem?_toArray, List.getElem?_cons_zero, List.getElem?_cons_succ] at d0 d1 d2 d3
          have hK7 : SD w (w9.setCell ⟨S, 3, none⟩ (.string s)) b _ S st us s A N cap T := ⟨CG.set H6.out.1 H6.out.2.2.2.2.1 (by have := H6.out.2.2.2.2.2; omega) 3 _, hs0.store 3 _, H6.out.2.2.1.apart (p := ⟨S, 3, none⟩) (by have := H6.out.2.2.2.2.2; simp; omega) _, H6.out.2.2.2.1.store (p := ⟨S, 3, none⟩) (own_off H6.out.2.2.2.1 H6.out.2.1 (by decide)) _, H6.out.2.2.2.2⟩
          have H7 := Lib.hid hK7
          clear hs0 hK7
          have hs := H7.out.2.1
          have hr := H7.out.2.2.1
          have c0 := hs.cell 0
          have c1 := hs.cell 1
          have c2 := hs.cell 2
          have c3 := hs.cell 3
          simp only [List.getElem?_toArray, List.getElem?_cons_zero, List.getElem?_cons_succ] at c0 c1 c2 c3
          have z0 := hr.cell 0
          have z1 := hr.cell 1
          have z2 := hr.cell 2
          have z3 := hr.cell 3
          simp only [List.getElem?_toArray, List.getElem?_cons_zero, List.getElem?_cons_succ] at z0 z1 z2 z3
          have f0 := hr.free 0
          have f1 := hr.free 1
          have f2 := hr.free 2
          have f3 := hr.free 3
          have hf := put_sb hr (.int .i64 st) (.string us) (.slice A N cap) (.string s)
          have r0 := hf.cell 0
          have r1 := hf.cell 1
          have r2 := hf.cell 2
          have r3 := hf.cell 3
          simp only [List.getElem?_toArray, List.getElem?_cons_zero, List.getElem?_cons_succ] at r0 r1 r2 r3
          clear hs hr hf
          try rw [HBB.out] at r0 r1 r2 r3 z0 z1 z2 z3 f0 f1 f2 f3
          go_wp2
          refine bodyPost_ret (v := .agg #[.int .i64 st, .string us, .slice A N cap, .string s]) (by simp [results, Tryz.results41, go_sem, r0, r1, r2, r3]) rfl ?_
          have ho := H7.out.2.2.2.1
          exact ⟨st, us, s, A, N, cap, T, q + 1 + 1, rfl, by omega, by rw [← HBB.out]; exact CG.set4 H7.out.1 H7.out.2.2.2.2.1 (Nat.le_refl _) _ _ _ _, by rw [← HBB.out]; exact own_set4 ho (own_offq ho H7.out.2.2.1 (by decide)) _ _ _ _, Nat.le_trans v1 (by omega), by omega, Nat.le_trans v2 (by omega), fun g hg => Nat.le_trans (HT.out g hg) (by omega)⟩
        have h2' : ((y : Int) == 2) = false := beq_eq_false_iff_ne.2 (by omega)
        by_cases h3 : y = 3
        ·
          subst h3
          go_wp2_with fail
          refine (to_draw b (q + 1) _ H5.out.1.1 (by omega)).mono ?_
          rintro e w6 ⟨A6, N6, cap6, T6, q6, rfl, hq6, hr, ho6, hg, hl6, hs6⟩
          have H6 := Lib.hid (SD.read H5.out hr hg)
          have HO6 := Lib.hid (ho6.from (B' := w.heap.size) H5.out.1.2.size)
          have HS6 := Lib.hid hs6
          clear hr hg ho6 hs6
          have hs0 := H6.out.2.1
          have e2 := hs0.free 2
          have d0 := hs0.cell 0
          have d1 := hs0.cell 1
          have d2 := hs0.cell 2
          have d3 := hs0.cell 3
          simp only [List.getElem?_toArray, List.getElem?_cons_zero, List.getElem?_cons_succ] at d0 d1 d2 d3
          have hK7 : SD w (w6.setCell ⟨S, 2, none⟩ (.slice A6 N6 cap6)) b _ S st us tx A6 N6 cap6 T6 := ⟨CG.set H6.out.1 H6.out.2.2.2.2.1 (by have := H6.out.2.2.2.2.2; omega) 2 _, hs0.store 2 _, H6.out.2.2.1.apart (p := ⟨S, 2, none⟩) (by have := H6.out.2.2.2.2.2; simp; omega) _, HO6.out.store (p := ⟨S, 2, none⟩) (own_off HO6.out H6.out.2.1 (by decide)) _, H6.out.2.2.2.2⟩
          have H7 := Lib.hid hK7
          clear hs0 hK7
          have hs := H7.out.2.1
          have hr := H7.out.2.2.1
          have c0 := hs.cell 0
          have c1 := hs.cell 1
          have c2 := hs.cell 2
          have c3 := hs.cell 3
          simp only [List.getElem?_toArray, List.getElem?_cons_zero, List.getElem?_cons_succ] at c0 c1 c2 c3
          have z0 := hr.cell 0
          have z1 := hr.cell 1
          have z2 := hr.cell 2
          have z3 := hr.cell 3
          simp only [List.getElem?_toArray, List.getElem?_cons_zero, List.getElem?_cons_succ] at z0 z1 z2 z3
          have f0 := hr.free 0
          have f1 := hr.free 1
          have f2 := hr.free 2
          have f3 := hr.free 3
          have hf := put_sb hr (.int .i64 st) (.string us) (.slice A6 N6 cap6) (.string tx)
          have r0 := hf.cell 0
          have r1 := hf.cell 1
          have r2 := hf.cell 2
          have r3 := hf.cell 3
          simp only [List.getElem?_toArray, List.getElem?_cons_zero, List.getElem?_cons_succ] at r0 r1 r2 r3
          clear hs hr hf
          try rw [HBB.out] at r0 r1 r2 r3 z0 z1 z2 z3 f0 f1 f2 f3
          go_wp2
          refine bodyPost_ret (v := .agg #[.int .i64 st, .string us, .slice A6 N6 cap6, .string tx]) (by simp [results, Tryz.results41, go_sem, r0, r1, r2, r3]) rfl ?_
          have ho := H7.out.2.2.2.1
          exact ⟨st, us, tx, A6, N6, cap6, T6, q6, rfl, by omega, by rw [← HBB.out]; exact CG.set4 H7.out.1 H7.out.2.2.2.2.1 (Nat.le_refl _) _ _ _ _, by rw [← HBB.out]; exact own_set4 ho (own_offq ho H7.out.2.2.1 (by decide)) _ _ _ _, Nat.le_trans v1 (by omega), Nat.le_trans v4 (by omega), hl6, HS6.out⟩
        have h3' : ((y : Int) == 3) = false := beq_eq_false_iff_ne.2 (by omega)
        have hs := H5.out.2.1
        have hr := H5.out.2.2.1
        have c0 := hs.cell 0
        have c1 := hs.cell 1
        have c2 := hs.cell 2
        have c3 := hs.cell 3
        simp only [List.getElem?_toArray, List.getElem?_cons_zero, List.getElem?_cons_succ] at c0 c1 c2 c3
        have z0 := hr.cell 0
        have z1 := hr.cell 1
        have z2 := hr.cell 2
        have z3 := hr.cell 3
        simp only [List.getElem?_toArray, List.getElem?_cons_zero, List.getElem?_cons_succ] at z0 z1 z2 z3
        have f0 := hr.free 0
        have f1 := hr.free 1
        have f2 := hr.free 2
        have f3 := hr.free 3
        have hf := put_sb hr (.int .i64 st) (.string us) (.slice A N cap) (.string tx)
        have r0 := hf.cell 0
        have r1 := hf.cell 1
        have r2 := hf.cell 2
        have r3 := hf.cell 3
        simp only [List.getElem?_toArray, List.getElem?_cons_zero, List.getElem?_cons_succ] at r0 r1 r2 r3
        clear hs hr hf
        try rw [HBB.out] at r0 r1 r2 r3 z0 z1 z2 z3 f0 f1 f2 f3
        go_wp2
        refine bodyPost_ret (v := .agg #[.int .i64 st, .string us, .slice A N cap, .string tx]) (by simp [results, Tryz.results41, go_sem, r0, r1, r2, r3]) rfl ?_
        have ho := H5.out.2.2.2.1
        exact ⟨st, us, tx, A, N, cap, T, q + 1, rfl, by omega, by rw [← HBB.out]; exact CG.set4 H5.out.1 H5.out.2.2.2.2.1 (Nat.le_refl _) _ _ _ _, by rw [← HBB.out]; exact own_set4 ho (own_offq ho H5.out.2.2.1 (by decide)) _ _ _ _, Nat.le_trans v1 (by omega), Nat.le_trans v4 (by omega), Nat.le_trans v2 (by omega), fun g hg => Nat.le_trans (HT.out g hg) (by omega)⟩
      | true =>
        have HVU := Lib.hid hvu
        clear hvu
        go_wp2_with fail
        refine (spec_uv HVU.out _ HUr.out).mono ?_
        rintro e w2 ⟨rfl, hb⟩
        have H2 := Lib.hid (SD.later HK.out hb)
        have HU2 := Lib.hid (HUr.out.below hb (Nat.le_refl _))
        clear hb
        have hs := H2.out.2.1
        have c0 := hs.cell 0
        have c1 := hs.cell 1
        have c2 := hs.cell 2
        have c3 := hs.cell 3
        simp only [List.getElem?_toArray, List.getElem?_cons_zero, List.getElem?_cons_succ] at c0 c1 c2 c3
        clear hs
        obtain ⟨v1, v2, v3, v4, -⟩ := sbV_has HV.out
        simp only at v1 v2 v3 v4
        have HT := Lib.hid v3
        clear v3
        go_wp2
        go_region_with (first
          | (have hq := HK3
             go_at_call 23
             have HC := (spec_subline st us tx ⟨#[104, 111, 115, 116, 46, 111, 114, 103]⟩ l HUPu HUPo T L A AU N cap NU cU w3 (SIn.made HK3.out.2.2.2.1 (by omega) (fun g hg => Nat.le_trans (HT.out g hg) (by omega))) HU3.out (by omega) (by decide) (by omega) (fun _ => HUP.out))
             rw [HR4.out] at HC
             refine HC.mono ?_
             rintro e w4 ⟨A4, N4, cap4, rfl, ho4, hb4⟩
             have HO4 := Lib.hid ho4
             have HK4 := Lib.hid (SD.later HK3.out hb4)
             have hs4 := HK4.out.2.1
             have m0 := hs4.cell 0
             have m1 := hs4.cell 1
             have m2 := hs4.cell 2
             have m3 := hs4.cell 3
             have e0 := hs4.free 0
             have e1 := hs4.free 1
             have e2 := hs4.free 2
             have e3 := hs4.free 3
             simp only [List.getElem?_toArray, List.getElem?_cons_zero, List.getElem?_cons_succ] at m0 m1 m2 m3
             clear hq HC ho4 hb4 hs4)
          | (go_at_call 44
             refine (cmd_draw b q st us tx A AU N cap NU cU L w2.drew (show Rd w2.drew b q from H2.out.1.1) (by omega) (show UIn w2.drew AU NU cU L from HU2.out) HSZ.out HAB.out (by omega)).mono ?_
             rintro e w3 ⟨l, q3, hl3, hq3, rfl, hr, hg⟩
             have HK3 := Lib.hid (SD.read (wr := w2.drew) (show SD w w2.drew b q S st us tx A N cap T from ⟨⟨H2.out.1.1, gr_drew H2.out.1.2⟩, H2.out.2⟩) hr hg)
             have HU3 := Lib.hid (UIn.grown (w := w2.drew) (show UIn w2.drew AU NU cU L from HU2.out) hg HAB.out)
             obtain ⟨HUPu, HUPo, hup⟩ := isUp_any L ((wdsF l).getD 2 eB)
             have HUP := Lib.hid hup
             obtain ⟨⟨⟨st4, us4, T4, tx4⟩, n4⟩, hr4⟩ : ∃ x, lineV ⟨st, us, T, tx⟩ L ⟨#[104, 111, 115, 116, 46, 111, 114, 103]⟩ l HUPu HUPo = x := ⟨_, rfl⟩
             have HR4 := Lib.hid hr4
             have HV4 : Hid (sbV ⟨st4, us4, T4, tx4⟩ = true) := Lib.hid (by have h9 := lineV_valid (s := ⟨st, us, T, tx⟩) (L := L) (d := ⟨#[104, 111, 115, 116, 46, 111, 114, 103]⟩) (l := l) (u := HUPu) (o := HUPo) (fun e => by subst e; exact isUp_name hup); rw [hr4] at h9; exact h9)
             have hs3 := HK3.out.2.1
             have k0 := hs3.cell 0
             have k1 := hs3.cell 1
             have k2 := hs3.cell 2
             have k3 := hs3.cell 3
             simp only [List.getElem?_toArray, List.getElem?_cons_zero, List.getElem?_cons_succ] at k0 k1 k2 k3
             clear hr hg hup hs3 hr4))
        all_goals
          go_wp2
          go_roundw
          case rel => exact ⟨k + 1, q3, N4, cap4, st4, us4, tx4, A4, T4, by omega, by go_num, by omega, HV4, Lib.hid (SD.put HK4.out HO4.out (by have h9 := HK3.out.1.2.size; exact h9))⟩
          case measure => simp [intOf]; omega
    ·
      have h5 : ¬ (k : Int) < (n : Int) := by omega
      have HE := HK
      go_wp2_with fail
      refine (pick_any b q 20 _ HE.out.1.1 (by omega) (by omega) (by omega)).mono ?_
      rintro e w5 ⟨y, hy, rfl, hr, hg⟩
      have H5 := Lib.hid (SD.read HE.out hr hg)
      clear hr hg
      obtain ⟨v1, v2, v3, v4, v5, v6, v7⟩ := sbV_has HV.out
      simp only at v1 v2 v3 v4
      have HT := Lib.hid v3
      clear v3 v5 v6 v7
      by_cases h0 : y = 0
      ·
        subst h0
        go_wp2_with fail
        refine (pick_any b (q + 1) 9 _ H5.out.1.1 (by omega) (by omega) (by omega)).mono ?_
        rintro e w6 ⟨x, hx, rfl, hr, hg⟩
        have H6 := Lib.hid (SD.read H5.out hr hg)
        clear hr hg
        have W1 : IntKind.i64.wrap ((x : Int) - 1) = (x : Int) - 1 := IntWalk.i64_in _ (by omega)
        have hs0 := H6.out.2.1
        have e0 := hs0.free 0
        have d0 := hs0.cell 0
        have d1 := hs0.cell 1
        have d2 := hs0.cell 2
        have d3 := hs0.cell 3
        simp only [List.getElem?_toArray, List.getElem?_cons_zero, List.getElem?_cons_succ] at d0 d1 d2 d3
        have hK7 : SD w (w6.setCell ⟨S, 0, none⟩ (.int .i64 ((x : Int) - 1))) b _ S ((x : Int) - 1) us tx A N cap T := ⟨CG.set H6.out.1 H6.out.2.2.2.2.1 (by have := H6.out.2.2.2.2.2; omega) 0 _, hs0.store 0 _, H6.out.2.2.1.apart (p := ⟨S, 0, none⟩) (by have := H6.out.2.2.2.2.2; simp; omega) _, H6.out.2.2.2.1.store (p := ⟨S, 0, none⟩) (own_off H6.out.2.2.2.1 H6.out.2.1 (by decide)) _, H6.out.2.2.2.2⟩
        have H7 := Lib.hid hK7
        clear hs0 hK7
        have hs := H7.out.2.1
        have hr := H7.out.2.2.1
        have c0 := hs.cell 0
        have c1 := hs.cell 1
        have c2 := hs.cell 2
        have c3 := hs.cell 3
        simp only [List.getElem?_toArray, List.getElem?_cons_zero, List.getElem?_cons_succ] at c0 c1 c2 c3
        have z0 := hr.cell 0
        have z1 := hr.cell 1
        have z2 := hr.cell 2
        have z3 := hr.cell 3
        simp only [List.getElem?_toArray, List.getElem?_cons_zero, List.getElem?_cons_succ] at z0 z1 z2 z3
        have f0 := hr.free 0
        have f1 := hr.free 1
        have f2 := hr.free 2
        have f3 := hr.free 3
        have hf := put_sb hr (.int .i64 ((x : Int) - 1)) (.string us) (.slice A N cap) (.string tx)
        have r0 := hf.cell 0
        have r1 := hf.cell 1
        have r2 := hf.cell 2
        have r3 := hf.cell 3
        simp only [List.getElem?_toArray, List.getElem?_cons_zero, List.getElem?_cons_succ] at r0 r1 r2 r3
        clear hs hr hf
        try rw [HBB.out] at r0 r1 r2 r3 z0 z1 z2 z3 f0 f1 f2 f3
        go_wp2
        refine bodyPost_ret (v := .agg #[.int .i64 ((x : Int) - 1), .string us, .slice A N cap, .string tx]) (by simp [results, Tryz.results41, go_sem, r0, r1, r2, r3]) rfl ?_
        have ho := H7.out.2.2.2.1
        exact ⟨((x : Int) - 1), us, tx, A, N, cap, T, q + 1 + 1, rfl, by omega, by rw [← HBB.out]; exact CG.set4 H7.out.1 H7.out.2.2.2.2.1 (Nat.le_refl _) _ _ _ _, by rw [← HBB.out]; exact own_set4 ho (own_offq ho H7.out.2.2.1 (by decide)) _ _ _ _, Nat.le_trans v1 (by omega), Nat.le_trans v4 (by omega), Nat.le_trans v2 (by omega), fun g hg => Nat.le_trans (HT.out g hg) (by omega)⟩
      have h0' : ((y : Int) == 0) = false := beq_eq_false_iff_ne.2 (by omega)
      by_cases h1 : y = 1
      ·
        subst h1
        go_wp2_with fail
        refine (name_text b (q + 1) _ H5.out.1.1 (by omega)).mono ?_
        rintro e w6 ⟨s, hs, rfl, hr, hg⟩
        have H6 := Lib.hid (SD.read H5.out hr hg)
        clear hr hg
        have hs0 := H6.out.2.1
        have e1 := hs0.free 1
        have d0 := hs0.cell 0
        have d1 := hs0.cell 1
        have d2 := hs0.cell 2
        have d3 := hs0.cell 3
        simp only [List.getElem?_toArray, List.getElem?_cons_zero, List.getElem?_cons_succ] at d0 d1 d2 d3
        have hK7 : SD w (w6.setCell ⟨S, 1, none⟩ (.string s)) b _ S st s tx A N cap T := ⟨CG.set H6.out.1 H6.out.2.2.2.2.1 (by have := H6.out.2.2.2.2.2; omega) 1 _, hs0.store 1 _, H6.out.2.2.1.apart (p := ⟨S, 1, none⟩) (by have := H6.out.2.2.2.2.2; simp; omega) _, H6.out.2.2.2.1.store (p := ⟨S, 1, none⟩) (own_off H6.out.2.2.2.1 H6.out.2.1 (by decide)) _, H6.out.2.2.2.2⟩
        have H7 := Lib.hid hK7
        clear hs0 hK7
        have hs := H7.out.2.1
        have hr := H7.out.2.2.1
        have c0 := hs.cell 0
        have c1 := hs.cell 1
        have c2 := hs.cell 2
        have c3 := hs.cell 3
        simp only [List.getElem?_toArray, List.getElem?_cons_zero, List.getElem?_cons_succ] at c0 c1 c2 c3
        have z0 := hr.cell 0
        have z1 := hr.cell 1
        have z2 := hr.cell 2
        have z3 := hr.cell 3
        simp only [List.getElem?_toArray, List.getElem?_cons_zero, List.getElem?_cons_succ] at z0 z1 z2 z3
        have f0 := hr.free 0
        have f1 := hr.free 1
        have f2 := hr.free 2
        have f3 := hr.free 3
        have hf := put_sb hr (.int .i64 st) (.string s) (.slice A N cap) (.string tx)
        have r0 := hf.cell 0
        have r1 := hf.cell 1
        have r2 := hf.cell 2
        have r3 := hf.cell 3
        simp only [List.getElem?_toArray, List.getElem?_cons_zero, List.getElem?_cons_succ] at r0 r1 r2 r3
        clear hs hr hf
        try rw [HBB.out] at r0 r1 r2 r3 z0 z1 z2 z3 f0 f1 f2 f3
        go_wp2
        refine bodyPost_ret (v := .agg #[.int .i64 st, .string s, .slice A N cap, .string tx]) (by simp [results, Tryz.results41, go_sem, r0, r1, r2, r3]) rfl ?_
        have ho := H7.out.2.2.2.1
        exact ⟨st, s, tx, A, N, cap, T, q + 1 + 2, rfl, by omega, by rw [← HBB.out]; exact CG.set4 H7.out.1 H7.out.2.2.2.2.1 (Nat.le_refl _) _ _ _ _, by rw [← HBB.out]; exact own_set4 ho (own_offq ho H7.out.2.2.1 (by decide)) _ _ _ _, hs, Nat.le_trans v4 (by omega), Nat.le_trans v2 (by omega), fun g hg => Nat.le_trans (HT.out g hg) (by omega)⟩
      have h1' : ((y : Int) == 1) = false := beq_eq_false_iff_ne.2 (by omega)
      by_cases h2 : y = 2
      ·
        subst h2
        go_wp2_with fail
        refine (pick_any b (q + 1) 4 _ H5.out.1.1 (by omega) (by omega) (by omega)).mono ?_
        rintro e w6 ⟨x, hx, rfl, hr, hg⟩
        have H6 := Lib.hid (SD.read H5.out hr hg)
        clear hr hg
        obtain ⟨m, hm⟩ : ∃ m : Nat, 19 + x = m := ⟨_, rfl⟩
        have E1 : (19 : Int) + (x : Int) = (m : Int) := by omega
        have W1 : IntKind.i64.wrap (19 + (x : Int)) = (m : Int) := (IntWalk.i64_in _ (by omega)).trans E1
        go_wp2_with fail
        refine (spec_many m (by omega) _).mono ?_
        rintro e w9 ⟨s, hs, rfl, hw⟩
        subst hw
        have hs0 := H6.out.2.1
        have e3 := hs0.free 3
        have d0 := hs0.cell 0
        have d1 := hs0.cell 1
        have d2 := hs0.cell 2
        have d3 := hs0.cell 3
        simp only [List.getElem?_toArray, List.getElem?_cons_zero, List.getElem?_cons_succ] at d0 d1 d2 d3
        have hK7 : SD w (w9.setCell ⟨S, 3, none⟩ (.string s)) b _ S st us s A N cap T := ⟨CG.set H6.out.1 H6.out.2.2.2.2.1 (by have := H6.out.2.2.2.2.2; omega) 3 _, hs0.store 3 _, H6.out.2.2.1.apart (p := ⟨S, 3, none⟩) (by have := H6.out.2.2.2.2.2; simp; omega) _, H6.out.2.2.2.1.store (p := ⟨S, 3, none⟩) (own_off H6.out.2.2.2.1 H6.out.2.1 (by decide)) _, H6.out.2.2.2.2⟩
        have H7 := Lib.hid hK7
        clear hs0 hK7
        have hs := H7.out.2.1
        have hr := H7.out.2.2.1
        have c0 := hs.cell 0
        have c1 := hs.cell 1
        have c2 := hs.cell 2
        have c3 := hs.cell 3
        simp only [List.getElem?_toArray, List.getElem?_cons_zero, List.getElem?_cons_succ] at c0 c1 c2 c3
        have z0 := hr.cell 0
        have z1 := hr.cell 1
        have z2 := hr.cell 2
        have z3 := hr.cell 3
        simp only [List.getElem?_toArray, List.getElem?_cons_zero, List.getElem?_cons_succ] at z0 z1 z2 z3
        have f0 := hr.free 0
        have f1 := hr.free 1
        have f2 := hr.free 2
        have f3 := hr.free 3
        have hf := put_sb hr (.int .i64 st) (.string us) (.slice A N cap) (.string s)
        have r0 := hf.cell 0
        have r1 := hf.cell 1
        have r2 := hf.cell 2
        have r3 := hf.cell 3
        simp only [List.getElem?_toArray, List.getElem?_cons_zero, List.getElem?_cons_succ] at r0 r1 r2 r3
        clear hs hr hf
        try rw [HBB.out] at r0 r1 r2 r3 z0 z1 z2 z3 f0 f1 f2 f3
        go_wp2
        refine bodyPost_ret (v := .agg #[.int .i64 st, .string us, .slice A N cap, .string s]) (by simp [results, Tryz.results41, go_sem, r0, r1, r2, r3]) rfl ?_
        have ho := H7.out.2.2.2.1
        exact ⟨st, us, s, A, N, cap, T, q + 1 + 1, rfl, by omega, by rw [← HBB.out]; exact CG.set4 H7.out.1 H7.out.2.2.2.2.1 (Nat.le_refl _) _ _ _ _, by rw [← HBB.out]; exact own_set4 ho (own_offq ho H7.out.2.2.1 (by decide)) _ _ _ _, Nat.le_trans v1 (by omega), by omega, Nat.le_trans v2 (by omega), fun g hg => Nat.le_trans (HT.out g hg) (by omega)⟩
      have h2' : ((y : Int) == 2) = false := beq_eq_false_iff_ne.2 (by omega)
      by_cases h3 : y = 3
      ·
        subst h3
        go_wp2_with fail
        refine (to_draw b (q + 1) _ H5.out.1.1 (by omega)).mono ?_
        rintro e w6 ⟨A6, N6, cap6, T6, q6, rfl, hq6, hr, ho6, hg, hl6, hs6⟩
        have H6 := Lib.hid (SD.read H5.out hr hg)
        have HO6 := Lib.hid (ho6.from (B' := w.heap.size) H5.out.1.2.size)
        have HS6 := Lib.hid hs6
        clear hr hg ho6 hs6
        have hs0 := H6.out.2.1
        have e2 := hs0.free 2
        have d0 := hs0.cell 0
        have d1 := hs0.cell 1
        have d2 := hs0.cell 2
        have d3 := hs0.cell 3
        simp only [List.getElem?_toArray, List.getElem?_cons_zero, List.getElem?_cons_succ] at d0 d1 d2 d3
        have hK7 : SD w (w6.setCell ⟨S, 2, none⟩ (.slice A6 N6 cap6)) b _ S st us tx A6 N6 cap6 T6 := ⟨CG.set H6.out.1 H6.out.2.2.2.2.1 (by have := H6.out.2.2.2.2.2; omega) 2 _, hs0.store 2 _, H6.out.2.2.1.apart (p := ⟨S, 2, none⟩) (by have := H6.out.2.2.2.2.2; simp; omega) _, HO6.out.store (p := ⟨S, 2, none⟩) (own_off HO6.out H6.out.2.1 (by decide)) _, H6.out.2.2.2.2⟩
        have H7 := Lib.hid hK7
        clear hs0 hK7
        have hs := H7.out.2.1
        have hr := H7.out.2.2.1
        have c0 := hs.cell 0
        have c1 := hs.cell 1
        have c2 := hs.cell 2
        have c3 := hs.cell 3
        simp only [List.getElem?_toArray, List.getElem?_cons_zero, List.getElem?_cons_succ] at c0 c1 c2 c3
        have z0 := hr.cell 0
        have z1 := hr.cell 1
        have z2 := hr.cell 2
        have z3 := hr.cell 3
        simp only [List.getElem?_toArray, List.getElem?_cons_zero, List.getElem?_cons_succ] at z0 z1 z2 z3
        have f0 := hr.free 0
        have f1 := hr.free 1
        have f2 := hr.free 2
        have f3 := hr.free 3
        have hf := put_sb hr (.int .i64 st) (.string us) (.slice A6 N6 cap6) (.string tx)
        have r0 := hf.cell 0
        have r1 := hf.cell 1
        have r2 := hf.cell 2
        have r3 := hf.cell 3
        simp only [List.getElem?_toArray, List.getElem?_cons_zero, List.getElem?_cons_succ] at r0 r1 r2 r3
        clear hs hr hf
        try rw [HBB.out] at r0 r1 r2 r3 z0 z1 z2 z3 f0 f1 f2 f3
        go_wp2
        refine bodyPost_ret (v := .agg #[.int .i64 st, .string us, .slice A6 N6 cap6, .string tx]) (by simp [results, Tryz.results41, go_sem, r0, r1, r2, r3]) rfl ?_
        have ho := H7.out.2.2.2.1
        exact ⟨st, us, tx, A6, N6, cap6, T6, q6, rfl, by omega, by rw [← HBB.out]; exact CG.set4 H7.out.1 H7.out.2.2.2.2.1 (Nat.le_refl _) _ _ _ _, by rw [← HBB.out]; exact own_set4 ho (own_offq ho H7.out.2.2.1 (by decide)) _ _ _ _, Nat.le_trans v1 (by omega), Nat.le_trans v4 (by omega), hl6, HS6.out⟩
      have h3' : ((y : Int) == 3) = false := beq_eq_false_iff_ne.2 (by omega)
      have hs := H5.out.2.1
      have hr := H5.out.2.2.1
      have c0 := hs.cell 0
      have c1 := hs.cell 1
      have c2 := hs.cell 2
      have c3 := hs.cell 3
      simp only [List.getElem?_toArray, List.getElem?_cons_zero, List.getElem?_cons_succ] at c0 c1 c2 c3
      have z0 := hr.cell 0
      have z1 := hr.cell 1
      have z2 := hr.cell 2
      have z3 := hr.cell 3
      simp only [List.getElem?_toArray, List.getElem?_cons_zero, List.getElem?_cons_succ] at z0 z1 z2 z3
      have f0 := hr.free 0
      have f1 := hr.free 1
      have f2 := hr.free 2
      have f3 := hr.free 3
      have hf := put_sb hr (.int .i64 st) (.string us) (.slice A N cap) (.string tx)
      have r0 := hf.cell 0
      have r1 := hf.cell 1
      have r2 := hf.cell 2
      have r3 := hf.cell 3
      simp only [List.getElem?_toArray, List.getElem?_cons_zero, List.getElem?_cons_succ] at r0 r1 r2 r3
      clear hs hr hf
      try rw [HBB.out] at r0 r1 r2 r3 z0 z1 z2 z3 f0 f1 f2 f3
      go_wp2
      refine bodyPost_ret (v := .agg #[.int .i64 st, .string us, .slice A N cap, .string tx]) (by simp [results, Tryz.results41, go_sem, r0, r1, r2, r3]) rfl ?_
      have ho := H5.out.2.2.2.1
      exact ⟨st, us, tx, A, N, cap, T, q + 1, rfl, by omega, by rw [← HBB.out]; exact CG.set4 H5.out.1 H5.out.2.2.2.2.1 (Nat.le_refl _) _ _ _ _, by rw [← HBB.out]; exact own_set4 ho (own_offq ho H5.out.2.2.1 (by decide)) _ _ _ _, Nat.le_trans v1 (by omega), Nat.le_trans v4 (by omega), Nat.le_trans v2 (by omega), fun g hg => Nat.le_trans (HT.out g hg) (by omega)⟩
end Go.Proofs.YtichajalinkcdaaGreatDoor
namespace Go.Proofs.YtichajalinkcdaaGreatDoor
open Go.RowKit
set_option linter.unusedVariables false

/-- A drawn submission, users, a domain and a line. -/
def DrewSL (w : World) (e : Ending) (w' : World) : Prop := ∃ (st : Int) (us tx d l : ByteArray) (A AU : Option Addr) (N cap NU cU : Nat) (T : List ByteArray) (L : List Us), e = .returned (.tuple #[.agg #[.int .i64 st, .string us, .slice A N cap, .string tx], .slice AU NU cU, .string d, .string l]) ∧ us.size ≤ 30 ∧ tx.size ≤ 30 ∧ T.length ≤ 6 ∧ (∀ g ∈ T, g.size ≤ 30) ∧ ROwn stR w' w.heap.size (.slice A N cap) T ∧ Uss w w' AU NU cU L ∧ d.size ≤ 30 ∧ l.size ≤ 200
/-- What is drawn so far: the users, the submission, a place for the answer. -/
def LD (w wz wr : World) (b q g NU cU : Nat) (L : List Us) (A : Option Addr) (N cap : Nat) (T : List ByteArray) : Prop := UsR wz wr b q g NU cU L ∧ ROwn stR wr (b + 1) (.slice A N cap) T ∧ Whole wr w.heap.size 25 #[.int .i64 0, .string ⟨#[]⟩, .slice none 0 0, .string ⟨#[]⟩] ∧ wz.heap.size = w.heap.size + 1 ∧ Below w.heap.size w wz
theorem LD.read {w wz wr w' : World} {b q q' g NU cU N cap : Nat} {L : List Us} {A : Option Addr} {T : List ByteArray} (h : LD w wz wr b q g NU cU L A N cap T) (hr : Rd w' b q') (hg : wr.grownBy w' (some b)) : LD w wz w' b q' g NU cU L A N cap T :=
  ⟨h.1.read hr hg, h.2.1.grown hg (by omega), h.2.2.1.grown hg (by have := h.1.2.2.2.2.2; have := h.2.2.2.1; simp; omega), h.2.2.2⟩
theorem LD.later {w wz wr w' : World} {b q g NU cU N cap : Nat} {L : List Us} {A : Option Addr} {T : List ByteArray} (h : LD w wz wr b q g NU cU L A N cap T) (hb : Below wr.heap.size wr w') : LD w wz w' b q g NU cU L A N cap T :=
  ⟨h.1.later hb, h.2.1.kept hb, h.2.2.1.below hb h.2.2.1.lt, h.2.2.2⟩
theorem below_setB {B R j : Nat} {w w' : World} (h : Below B w w') (hR : B ≤ R) (u : Value) : Below B w (w'.setCell ⟨R, j, none⟩ u) := h.setCell hR u
theorem uown_set4 {w : World} {B R N cap : Nat} {A : Option Addr} {L : List Us} {a0 a1 a2 a3 : Value} (h : ROwn usR w B (.slice A N cap) L) (hW : Whole w R 25 #[a0, a1, a2, a3]) (a b c d : Value) : ROwn usR ((((w.setCell ⟨R, 0, none⟩ a).setCell ⟨R, 1, none⟩ b).setCell ⟨R, 2, none⟩ c).setCell ⟨R, 3, none⟩ d) B (.slice A N cap) L := by
  have hb := h.whole hW (by decide)
  exact (((h.store (p := ⟨R, 0, none⟩) hb _).store (p := ⟨R, 1, none⟩) hb _).store (p := ⟨R, 2, none⟩) hb _).store (p := ⟨R, 3, none⟩) hb _
theorem LD.done {w wz wr : World} {b q g NU cU N cap : Nat} {L : List Us} {A : Option Addr} {T : List ByteArray} (h : LD w wz wr b q g NU cU L A N cap T) (a0 a1 a2 a3 : Value) :
    ROwn stR ((((wr.setCell ⟨w.heap.size, 0, none⟩ a0).setCell ⟨w.heap.size, 1, none⟩ a1).setCell ⟨w.heap.size, 2, none⟩ a2).setCell ⟨w.heap.size, 3, none⟩ a3) w.heap.size (.slice A N cap) T ∧ Uss w ((((wr.setCell ⟨w.heap.size, 0, none⟩ a0).setCell ⟨w.heap.size, 1, none⟩ a1).setCell ⟨w.heap.size, 2, none⟩ a2).setCell ⟨w.heap.size, 3, none⟩ a3) (some ⟨g, 0, none⟩) NU cU L := by
  have hb := h.1.2.2.2.2.2
  refine ⟨(own_set4 h.2.1 (own_offq h.2.1 h.2.2.1 (by decide)) _ _ _ _).from (by have := h.2.2.2.1; omega), h.1.2.2.2.2.1.1, h.1.2.2.2.2.1.2, h.1.2.2.2.1, (uown_set4 h.1.2.1 h.2.2.1 _ _ _ _).from (by have := h.2.2.2.1; omega), below_set4 (h.2.2.2.2.trans (h.1.2.2.1.mono (by have := h.2.2.2.1; omega))) (Nat.le_refl _) _ _ _ _⟩
set_option maxRecDepth 20000 in
set_option maxHeartbeats 8000000 in
theorem draw_subline (A0 : Option Addr) (len cap0 : Nat) (w : World) (h : Coded w A0 len cap0) : Calls Tryz.prog 21 #[.slice A0 len cap0] w (DrewSL w) := by
  obtain ⟨wz, hwz⟩ : ∃ wz, w.alloc (.cells #[.int .i64 0, .string ⟨#[]⟩, .slice none 0 0, .string ⟨#[]⟩] 25) = wz := ⟨_, rfl⟩
  have hbz : Below w.heap.size w wz := by rw [← hwz]; exact below_new' _ _
  have HC := Lib.hid (Coded.below h hbz (Nat.le_refl _))
  have HK := Lib.hid HC.out.2.2
  have hk1 := h.1
  have hk2 := h.2.1
  have HBZ := Lib.hid hbz
  have HZR : Hid (Whole wz w.heap.size 25 #[.int .i64 0, .string ⟨#[]⟩, .slice none 0 0, .string ⟨#[]⟩]) := Lib.hid (by rw [← hwz]; exact Whole.made _ _ _)
  have HZS : Hid (wz.heap.size = w.heap.size + 1) := Lib.hid (by rw [← hwz]; simp)
  have HWZ := Lib.hid hwz
  clear h hwz hbz
  go_enter Tryz.func21, Tryz.ntmps21
  go_wp2_with fail
  rw [HWZ.out]
  refine (open_any A0 len cap0 wz hk1 hk2 HK.out).mono ?_
  rintro e w1 ⟨rfl, hr, hb, hz⟩
  obtain ⟨b, hbb⟩ : ∃ b, wz.heap.size = b := ⟨_, rfl⟩
  rw [hbb] at hr hb
  have HR := Lib.hid hr
  have HB := Lib.hid hb
  have HBB := Lib.hid hbb
  clear hr hb hbb hz
  rw [HBB.out]
  go_wp2_with fail
  refine (users_first wz w1 HBB.out.symm HR.out HB.out).mono ?_
  rintro e w2 ⟨g, NU, cU, L, q, rfl, hq, hg⟩
  have HG := Lib.hid hg
  have HR2 := Lib.hid ((HZR.out.below HB.out (by have := HZS.out; have := HBB.out; omega)))
  clear hg
  have HR3 : Hid (Whole w2 w.heap.size 25 #[.int .i64 0, .string ⟨#[]⟩, .slice none 0 0, .string ⟨#[]⟩]) := Lib.hid ((HZR.out.below HG.out.2.2.1 (by have := HZS.out; have := HBB.out; omega)))
  go_wp2_with fail
  refine (sub_draw b q (some ⟨g, 0, none⟩) NU cU L w2 HG.out.1 (by omega) HG.out.uin (fun x hx => (HG.out.2.2.2.1 x hx).2) HG.out.off).mono ?_
  rintro e w3 ⟨st, us, tx, A, N, cap, T, q3, rfl, hq3, hc, ho, hus, htx, hl, hT⟩
  have HT := Lib.hid hT
  have HD3 : Hid (LD w wz w3 b q3 g NU cU L A N cap T) := Lib.hid ⟨HG.out.read hc.1 hc.2, ho.from (by have := HG.out.1.lt; omega), HR3.out.grown hc.2 (by have := HZS.out; have := HBB.out; simp; omega), HZS.out, HBZ.out⟩
  obtain ⟨C, hC⟩ : ∃ C, w3.heap.size = C := ⟨_, rfl⟩
  obtain ⟨w4, hw4⟩ : ∃ w4, w3.alloc (.cells #[.int .i64 st, .string us, .slice A N cap, .string tx] 25) = w4 := ⟨_, rfl⟩
  have hb4 : Below w3.heap.size w3 w4 := by rw [← hw4]; exact below_new' _ _
  have HD4 := Lib.hid (LD.later HD3.out hb4)
  have HS4 : Hid (Whole w4 C 25 #[.int .i64 st, .string us, .slice A N cap, .string tx]) := Lib.hid (by rw [← hw4, ← hC]; exact Whole.made _ _ _)
  have HbC : Hid (b < C) := Lib.hid (by rw [← hC]; exact HD3.out.1.1.lt)
  have HRC : Hid (w.heap.size < C) := Lib.hid (by rw [← hC]; exact HD3.out.2.2.1.lt)
  have HW4 := Lib.hid hw4
  have HCC := Lib.hid hC
  clear hc ho hT hb4 hw4 hC
  go_wp2_with fail
  rw [HW4.out, HCC.out]
  refine (pick_any b q3 12 w4 HD4.out.1.1 (by omega) (by omega) (by omega)).mono ?_
  rintro e w5 ⟨x, hx, rfl, hr, hg⟩
  have HD5 := Lib.hid (LD.read HD4.out hr hg)
  have HS5 := Lib.hid (HS4.out.grown hg (by have := HbC.out; simp; omega))
  clear hr hg
  by_cases h0 : x = 0
  ·
    subst h0
    go_wp2_with fail
    refine (domain_text b (q3 + 1) _ HD5.out.1.1 (by omega)).mono ?_
    rintro e w6 ⟨d, hd, rfl, hr, hg⟩
    have HD6 := Lib.hid (LD.read HD5.out hr hg)
    have HS6 := Lib.hid (HS5.out.grown hg (by have := HbC.out; simp; omega))
    clear hr hg
    have hs := HS6.out
    have hr0 := HD6.out.2.2.1
    have c0 := hs.cell 0
    have c1 := hs.cell 1
    have c2 := hs.cell 2
    have c3 := hs.cell 3
    simp only [List.getElem?_toArray, List.getElem?_cons_zero, List.getElem?_cons_succ] at c0 c1 c2 c3
    have y0 := hr0.cell 0
    have y1 := hr0.cell 1
    have y2 := hr0.cell 2
    have y3 := hr0.cell 3
    simp only [List.getElem?_toArray, List.getElem?_cons_zero, List.getElem?_cons_succ] at y0 y1 y2 y3
    clear hs hr0
    go_wp2
    go_region_with (go_at_call 44; refine (cmd_draw b (q3 + 1 + 2) st us tx A (some ⟨g, 0, none⟩) N cap NU cU L w6.drew (show Rd w6.drew b (q3 + 1 + 2) from HD6.out.1.1) (by omega) (show UIn w6.drew (some ⟨g, 0, none⟩) NU cU L from HD6.out.1.uin) (fun x hx => (HD6.out.1.2.2.2.1 x hx).2) HD6.out.1.off (by omega)).mono ?_; rintro e w8 ⟨l, q8, hl8, hq8, rfl, hr, hg⟩; have HD8 := Lib.hid (LD.read (wr := w6.drew) (show LD w wz w6.drew b (q3 + 1 + 2) g NU cU L A N cap T from ⟨⟨HD6.out.1.1, HD6.out.1.2.1, bl_drew HD6.out.1.2.2.1, HD6.out.1.2.2.2⟩, HD6.out.2⟩) hr hg); have hs8 := (HS6.out.drew).grown hg (by have := HbC.out; simp; omega); have hr8 := HD8.out.2.2.1; have k0 := hs8.cell 0; have k1 := hs8.cell 1; have k2 := hs8.cell 2; have k3 := hs8.cell 3; have z0 := hr8.cell 0; have z1 := hr8.cell 1; have z2 := hr8.cell 2; have z3 := hr8.cell 3; have f0 := hr8.free 0; have f1 := hr8.free 1; have f2 := hr8.free 2; have f3 := hr8.free 3; simp only [List.getElem?_toArray, List.getElem?_cons_zero, List.getElem?_cons_succ] at k0 k1 k2 k3 z0 z1 z2 z3; have hf := put_sb hr8 (.int .i64 st) (.string us) (.slice A N cap) (.string tx); have r0 := hf.cell 0; have r1 := hf.cell 1; have r2 := hf.cell 2; have r3 := hf.cell 3; simp only [List.getElem?_toArray, List.getElem?_cons_zero, List.getElem?_cons_succ] at r0 r1 r2 r3; clear hr hg hs8 hr8 hf)
    all_goals
      go_wp2
      refine bodyPost_ret (v := .tuple #[.agg #[.int .i64 st, .string us, .slice A N cap, .string tx], .slice (some ⟨g, 0, none⟩) NU cU, .string d, .string l]) (by simp [results, Tryz.results21, go_sem, r0, r1, r2, r3]) rfl ?_
      exact ⟨st, us, tx, d, l, A, some ⟨g, 0, none⟩, N, cap, NU, cU, T, L, rfl, hus, htx, hl, HT.out, (LD.done HD8.out _ _ _ _).1, (LD.done HD8.out _ _ _ _).2, hd, by omega⟩
  ·
    have h0' : ((x : Int) == 0) = false := beq_eq_false_iff_ne.2 (by omega)
    clear h0
    have hs := HS5.out
    have hr0 := HD5.out.2.2.1
    have c0 := hs.cell 0
    have c1 := hs.cell 1
    have c2 := hs.cell 2
    have c3 := hs.cell 3
    simp only [List.getElem?_toArray, List.getElem?_cons_zero, List.getElem?_cons_succ] at c0 c1 c2 c3
    have y0 := hr0.cell 0
    have y1 := hr0.cell 1
    have y2 := hr0.cell 2
    have y3 := hr0.cell 3
    simp only [List.getElem?_toArray, List.getElem?_cons_zero, List.getElem?_cons_succ] at y0 y1 y2 y3
    clear hs hr0
    go_wp2
    go_region_with (go_at_call 44; refine (cmd_draw b (q3 + 1) st us tx A (some ⟨g, 0, none⟩) N cap NU cU L w5.drew (show Rd w5.drew b (q3 + 1) from HD5.out.1.1) (by omega) (show UIn w5.drew (some ⟨g, 0, none⟩) NU cU L from HD5.out.1.uin) (fun x hx => (HD5.out.1.2.2.2.1 x hx).2) HD5.out.1.off (by omega)).mono ?_; rintro e w8 ⟨l, q8, hl8, hq8, rfl, hr, hg⟩; have HD8 := Lib.hid (LD.read (wr := w5.drew) (show LD w wz w5.drew b (q3 + 1) g NU cU L A N cap T from ⟨⟨HD5.out.1.1, HD5.out.1.2.1, bl_drew HD5.out.1.2.2.1, HD5.out.1.2.2.2⟩, HD5.out.2⟩) hr hg); have hs8 := (HS5.out.drew).grown hg (by have := HbC.out; simp; omega); have hr8 := HD8.out.2.2.1; have k0 := hs8.cell 0; have k1 := hs8.cell 1; have k2 := hs8.cell 2; have k3 := hs8.cell 3; have z0 := hr8.cell 0; have z1 := hr8.cell 1; have z2 := hr8.cell 2; have z3 := hr8.cell 3; have f0 := hr8.free 0; have f1 := hr8.free 1; have f2 := hr8.free 2; have f3 := hr8.free 3; simp only [List.getElem?_toArray, List.getElem?_cons_zero, List.getElem?_cons_succ] at k0 k1 k2 k3 z0 z1 z2 z3; have hf := put_sb hr8 (.int .i64 st) (.string us) (.slice A N cap) (.string tx); have r0 := hf.cell 0; have r1 := hf.cell 1; have r2 := hf.cell 2; have r3 := hf.cell 3; simp only [List.getElem?_toArray, List.getElem?_cons_zero, List.getElem?_cons_succ] at r0 r1 r2 r3; clear hr hg hs8 hr8 hf)
    all_goals
      go_wp2
      refine bodyPost_ret (v := .tuple #[.agg #[.int .i64 st, .string us, .slice A N cap, .string tx], .slice (some ⟨g, 0, none⟩) NU cU, .string ⟨#[104, 111, 115, 116, 46, 111, 114, 103]⟩, .string l]) (by simp [results, Tryz.results21, go_sem, r0, r1, r2, r3]) rfl ?_
      exact ⟨st, us, tx, ⟨#[104, 111, 115, 116, 46, 111, 114, 103]⟩, l, A, some ⟨g, 0, none⟩, N, cap, NU, cU, T, L, rfl, hus, htx, hl, HT.out, (LD.done HD8.out _ _ _ _).1, (LD.done HD8.out _ _ _ _).2, by decide, by omega⟩
end Go.Proofs.YtichajalinkcdaaGreatDoor
namespace Go.Proofs.YtichajalinkcdaaGreatDoor
open Go.RowKit
set_option linter.unusedVariables false

/-- A dialog in block 'D': what its world had ahead of it has not changed. -/
def DS (w0 w : World) (D : Nat) (s : Sb) (A : Option Addr) (N cap : Nat) (AU : Option Addr) (NU cU : Nat) (L : List Us) (d : ByteArray) : Prop :=
  Whole w D 62 #[.int .i64 s.st, .string s.us, .slice A N cap, .string s.tx, .slice AU NU cU, .string d] ∧ ROwn stR w w0.heap.size (.slice A N cap) s.to ∧ w0.heap.size ≤ D ∧ Below w0.heap.size w0 w ∧ UIn w0 AU NU cU L ∧ MxS w0
section
variable {w0 w w' : World} {D N cap NU cU : Nat} {s : Sb} {A AU : Option Addr} {L : List Us} {d : ByteArray}
theorem DS.later (h : DS w0 w D s A N cap AU NU cU L d) (hb : Below w.heap.size w w') : DS w0 w' D s A N cap AU NU cU L d :=
  ⟨h.1.below hb h.1.lt, h.2.1.kept hb, h.2.2.1, h.2.2.2.1.trans (hb.mono h.2.2.2.1.size), h.2.2.2.2⟩
theorem DS.users (h : DS w0 w D s A N cap AU NU cU L d) : UIn w AU NU cU L := h.2.2.2.2.1.below h.2.2.2.1 (Nat.le_refl _)
theorem DS.mx (h : DS w0 w D s A N cap AU NU cU L d) : MxS w := h.2.2.2.2.2.below h.2.2.2.1 (Nat.le_refl _)
/-- One field is stored. -/
theorem DS.set (h : DS w0 w D s A N cap AU NU cU L d) {s' : Sb} {A' : Option Addr} {N' cap' j : Nat} {u : Value}
    (hw : Whole (w.setCell ⟨D, j, none⟩ u) D 62 #[.int .i64 s'.st, .string s'.us, .slice A' N' cap', .string s'.tx, .slice AU NU cU, .string d]) (ho : ROwn stR w w0.heap.size (.slice A' N' cap') s'.to) :
    DS w0 (w.setCell ⟨D, j, none⟩ u) D s' A' N' cap' AU NU cU L d :=
  ⟨hw, ho.store (p := ⟨D, j, none⟩) (ho.whole h.1 (by decide)) u, h.2.2.1, h.2.2.2.1.setCell h.2.2.1 u, h.2.2.2.2⟩
end
/-- What a method leaves: a dialog and a reply. -/
def DG (w0 : World) (D : Nat) (AU : Option Addr) (NU cU : Nat) (L : List Us) (d : ByteArray) (r : Sb × Int) (e : Ending) (w' : World) : Prop := ∃ A N cap, e = .returned (.int .i64 r.2) ∧ DS w0 w' D r.1 A N cap AU NU cU L d
def DGn (w0 : World) (D : Nat) (AU : Option Addr) (NU cU : Nat) (L : List Us) (d : ByteArray) (s : Sb) (e : Ending) (w' : World) : Prop := ∃ A N cap, e = .returned (.tuple #[]) ∧ DS w0 w' D s A N cap AU NU cU L d
set_option maxRecDepth 20000 in
set_option maxHeartbeats 2000000 in
theorem impl_back {st : Int} {us tx : ByteArray} {T : List ByteArray} {A : Option Addr} {N cap : Nat} {w0 : World} {D : Nat} {AU : Option Addr} {NU cU : Nat} {L : List Us} {d : ByteArray} (w : World) (h : DS w0 w D ⟨st, us, T, tx⟩ A N cap AU NU cU L d) (hu : st < 2 → us = eB) : Calls Tryz.prog 102 #[.pointer (some ⟨D, 0, none⟩)] w (DGn w0 D AU NU cU L d (backF ⟨st, us, T, tx⟩)) := by
  obtain ⟨m, hm⟩ : ∃ m, min st 2 = m := ⟨_, rfl⟩
  have HE : Hid (backF ⟨st, us, T, tx⟩ = ⟨m, us, [], ⟨#[]⟩⟩) := Lib.hid (by
    unfold backF
    by_cases h2 : 2 ≤ st
    · rw [if_pos h2, show m = 2 by omega]; rfl
    · rw [if_neg h2, show m = st by omega, hu (by omega)]; rfl)
  have hw1 : Whole (w.setCell ⟨D, 0, none⟩ (.int .i64 m)) D 62 #[.int .i64 m, .string us, .slice A N cap, .string tx, .slice AU NU cU, .string d] := h.1.store 0 (.int .i64 m)
  have K1 : DS w0 (w.setCell ⟨D, 0, none⟩ (.int .i64 m)) D ⟨m, us, T, tx⟩ A N cap AU NU cU L d := h.set hw1 h.2.1
  have hw2 : Whole ((w.setCell ⟨D, 0, none⟩ (.int .i64 m)).setCell ⟨D, 2, none⟩ (.slice none 0 0)) D 62 #[.int .i64 m, .string us, .slice none 0 0, .string tx, .slice AU NU cU, .string d] := hw1.store 2 (.slice none 0 0)
  have K2 : DS w0 ((w.setCell ⟨D, 0, none⟩ (.int .i64 m)).setCell ⟨D, 2, none⟩ (.slice none 0 0)) D ⟨m, us, [], tx⟩ none 0 0 AU NU cU L d := K1.set hw2 (ROwn.nil _ _)
  have hw3 : Whole (((w.setCell ⟨D, 0, none⟩ (.int .i64 m)).setCell ⟨D, 2, none⟩ (.slice none 0 0)).setCell ⟨D, 3, none⟩ (.string ⟨#[]⟩)) D 62 #[.int .i64 m, .string us, .slice none 0 0, .string ⟨#[]⟩, .slice AU NU cU, .string d] := hw2.store 3 (.string ⟨#[]⟩)
  have K3 : DS w0 (((w.setCell ⟨D, 0, none⟩ (.int .i64 m)).setCell ⟨D, 2, none⟩ (.slice none 0 0)).setCell ⟨D, 3, none⟩ (.string ⟨#[]⟩)) D ⟨m, us, [], ⟨#[]⟩⟩ none 0 0 AU NU cU L d := K2.set hw3 (ROwn.nil _ _)
  have hs := h.1
  have c0 := hs.cell 0
  have c2 := hs.cell 2
  have c3 := hs.cell 3
  simp only [List.getElem?_toArray, List.getElem?_cons_zero, List.getElem?_cons_succ] at c0 c2 c3
  have f0 := hs.free 0
  have f2 := hs.free 2
  have f3 := hs.free 3
  have e2 := hw1.cell 2
  simp only [List.getElem?_toArray, List.getElem?_cons_succ] at e2
  have g2 := hw1.free 2
  have i3 := hw2.cell 3
  simp only [List.getElem?_toArray, List.getElem?_cons_succ] at i3
  have k3 := hw2.free 3
  have HK3 := Lib.hid K3
  clear h hs hw1 K1 hw2 K2 hw3 K3
  go_enter Tryz.func102, Tryz.ntmps102
  go_wp2
  refine bodyPost_ret (v := .tuple #[]) (by simp [results, Tryz.results102]) rfl ?_
  rw [HE.out]
  exact ⟨none, 0, 0, rfl, HK3.out⟩
theorem iback_at {st : Int} {us tx : ByteArray} {T : List ByteArray} {A : Option Addr} {N cap : Nat} {w0 : World} {D : Nat} {AU : Option Addr} {NU cU : Nat} {L : List Us} {d : ByteArray} {s1 : Sb} (hs : backF ⟨st, us, T, tx⟩ = s1) (w : World) (h : DS w0 w D ⟨st, us, T, tx⟩ A N cap AU NU cU L d) (hu : st < 2 → us = eB) : Calls Tryz.prog 102 #[.pointer (some ⟨D, 0, none⟩)] w (DGn w0 D AU NU cU L d s1) := by
  subst hs
  exact impl_back w h hu
theorem idom_at {u : ByteArray} {z : Bool} (h : domB (kb u) = z) (hu : u.size ≤ 16777216) (w : World) : Calls Tryz.prog 71 #[.string u] w (SayB w z) := by
  subst h
  exact impl_domain u w hu
set_option maxRecDepth 20000 in
set_option maxHeartbeats 4000000 in
theorem impl_hello {st : Int} {us tx : ByteArray} {T : List ByteArray} {A : Option Addr} {N cap : Nat} {w0 : World} {D : Nat} {AU : Option Addr} {NU cU : Nat} {L : List Us} {d : ByteArray} (W : List ByteArray) (AW : Option Addr) (NW cW : Nat) (w : World) (h : DS w0 w D ⟨st, us, T, tx⟩ A N cap AU NU cU L d) (hv : sbV ⟨st, us, T, tx⟩ = true) (hw : WIn w AW NW W) (hs8 : ∀ x ∈ W, x.size ≤ 2097152) : Calls Tryz.prog 75 #[.pointer (some ⟨D, 0, none⟩), .slice AW NW cW] w (DG w0 D AU NU cU L d (helloF ⟨st, us, T, tx⟩ W)) := by
  have HD := Lib.hid h
  have HWI := Lib.hid hw
  obtain ⟨v1, v2, v3, v4, v5, v6, v7, v8, v9⟩ := sbV_has hv
  obtain ⟨r1, r2⟩ := sbV_range hv
  simp only at v7 r1 r2
  have HU7 := Lib.hid v7
  clear h hw hv v1 v2 v3 v4 v5 v6 v7 v8 v9
  by_cases h2 : NW = 2
  · subst h2
    obtain ⟨x, hx⟩ : ∃ x, W[1]? = some x := ⟨_, List.getElem?_eq_getElem (by rw [HWI.out.1]; omega)⟩
    have hg : W.getD 1 eB = x := by rw [List.getD_eq_getElem?_getD, hx]; rfl
    have hxs : x.size ≤ 16777216 := Nat.le_trans (hs8 x (List.mem_of_getElem? hx)) (by omega)
    obtain ⟨b, o, rfl, hb, k0⟩ := str_at HWI.out.2 hx
    clear hx hs8
    cases hd : domB (kb x) with
    | false =>
      have HDD := Lib.hid hd
      have HE : Hid (helloF ⟨st, us, T, tx⟩ W = (⟨st, us, T, tx⟩, 501)) := Lib.hid (by unfold helloF; rw [if_neg (by rw [hg, hd]; simp)])
      clear hd hg
      go_enter Tryz.func75, Tryz.ntmps75
      go_wp2_with fail
      refine (idom_at HDD.out hxs _).mono ?_
      rintro e w2 ⟨rfl, hb2⟩
      have HD2 := Lib.hid (HD.out.later hb2)
      clear hb2
      go_wp2
      go_ret
      rw [HE.out]
      exact ⟨A, N, cap, rfl, HD2.out⟩
    | true =>
      have HDD := Lib.hid hd
      have HG := Lib.hid hg
      clear hg hd
      obtain ⟨m, hm⟩ : ∃ m, max st 1 = m := ⟨_, rfl⟩
      obtain ⟨s1, hs1⟩ : ∃ s1, backF ⟨m, us, T, tx⟩ = s1 := ⟨_, rfl⟩
      have HE : Hid (helloF ⟨st, us, T, tx⟩ W = (s1, 250)) := Lib.hid (by
        unfold helloF
        rw [if_pos ⟨HWI.out.1, by rw [HG.out, HDD.out]⟩, ← hs1]
        have e : (if st = 0 then (1 : Int) else st) = m := by split <;> omega
        simp only [e])
      have HUM : Hid (m < 2 → us = eB) := Lib.hid (fun h => HU7.out (by omega))
      have HS1 := Lib.hid hs1
      clear hs1
      go_enter Tryz.func75, Tryz.ntmps75
      go_wp2_with fail
      refine (idom_at HDD.out hxs _).mono ?_
      rintro e w2 ⟨rfl, hb2⟩
      have HD2 := Lib.hid (HD.out.later hb2)
      clear hb2 k0
      have hs := HD2.out.1
      have c0 := hs.cell 0
      simp only [List.getElem?_toArray, List.getElem?_cons_zero] at c0
      have f0 := hs.free 0
      have hw3 : Whole (w2.setCell ⟨D, 0, none⟩ (.int .i64 m)) D 62 #[.int .i64 m, .string us, .slice A N cap, .string tx, .slice AU NU cU, .string d] := hs.store 0 (.int .i64 m)
      have HD3 : Hid (DS w0 (w2.setCell ⟨D, 0, none⟩ (.int .i64 m)) D ⟨m, us, T, tx⟩ A N cap AU NU cU L d) := Lib.hid (HD2.out.set hw3 HD2.out.2.1)
      clear hs hw3
      go_wp2_with fail
      refine (iback_at HS1.out _ HD3.out HUM.out).mono ?_
      rintro e w4 ⟨A4, N4, cap4, rfl, hk⟩
      have HD4 := Lib.hid hk
      clear hk
      go_wp2
      go_ret
      rw [HE.out]
      exact ⟨A4, N4, cap4, rfl, HD4.out⟩
  · have h2' : ((NW : Int) != 2) = true := bne_iff_ne.2 (by omega)
    have HE : Hid (helloF ⟨st, us, T, tx⟩ W = (⟨st, us, T, tx⟩, 501)) := Lib.hid (by unfold helloF; rw [if_neg (by rw [HWI.out.1]; exact fun h => h2 h.1)])
    clear h2
    go_enter Tryz.func75, Tryz.ntmps75
    go_wp2
    go_ret
    rw [HE.out]
    exact ⟨A, N, cap, rfl, HD.out⟩
set_option maxRecDepth 20000 in
set_option maxHeartbeats 4000000 in
theorem impl_command {st : Int} {us tx : ByteArray} {T : List ByteArray} {A : Option Addr} {N cap : Nat} {w0 : World} {D : Nat} {AU : Option Addr} {NU cU : Nat} {L : List Us} {d : ByteArray} (l : ByteArray) (w : World) (h : DS w0 w D ⟨st, us, T, tx⟩ A N cap AU NU cU L d) (hv : sbV ⟨st, us, T, tx⟩ = true) (h5 : st ≠ 5) : Calls Tryz.prog 79 #[.pointer (some ⟨D, 0, none⟩), .string l] w (DG w0 D AU NU cU L d (cmdF ⟨st, us, T, tx⟩ l)) := by
  have HD := Lib.hid h
  obtain ⟨v1, v2, v3, v4, v5, v6, v7, v8, v9⟩ := sbV_has hv
  have HU7 := Lib.hid v7
  have HX := Lib.hid (v5 h5)
  clear h hv v1 v2 v3 v4 v5 v6 v7 v8 v9
  by_cases hDATA : l = wDATA
  · have hlit : l.toList = [68, 65, 84, 65] := by rw [hDATA, ByteArray.toList_eq]; rfl
    by_cases h4 : st = 4
    · subst h4
      have HE : Hid (cmdF ⟨4, us, T, tx⟩ l = (⟨5, us, T, tx⟩, 354)) := Lib.hid (by unfold cmdF; rw [if_pos hDATA, if_pos rfl])
      have hs := HD.out.1
      have c0 := hs.cell 0
      simp only [List.getElem?_toArray, List.getElem?_cons_zero] at c0
      have f0 := hs.free 0
      have hw3 : Whole (w.setCell ⟨D, 0, none⟩ (.int .i64 5)) D 62 #[.int .i64 5, .string us, .slice A N cap, .string tx, .slice AU NU cU, .string d] := hs.store 0 (.int .i64 5)
      have HD3 : Hid (DS w0 (w.setCell ⟨D, 0, none⟩ (.int .i64 5)) D ⟨5, us, T, tx⟩ A N cap AU NU cU L d) := Lib.hid (HD.out.set hw3 HD.out.2.1)
      clear hs hw3 hDATA h5
      go_enter Tryz.func79, Tryz.ntmps79
      go_wp2
      go_ret
      rw [HE.out]
      exact ⟨A, N, cap, rfl, HD3.out⟩
    ·
      have h4' : (st != 4) = true := bne_iff_ne.2 h4
      have HE : Hid (cmdF ⟨st, us, T, tx⟩ l = (⟨st, us, T, tx⟩, 503)) := Lib.hid (by unfold cmdF; rw [if_pos hDATA, if_neg h4])
      have hs := HD.out.1
      have c0 := hs.cell 0
      simp only [List.getElem?_toArray, List.getElem?_cons_zero] at c0
      clear hs hDATA h4 h5
      go_enter Tryz.func79, Tryz.ntmps79
      go_wp2
      go_ret
      rw [HE.out]
      exact ⟨A, N, cap, rfl, HD.out⟩
  obtain ⟨vd1, vd2, vd3⟩ := lit_walk (xs := [68, 65, 84, 65]) rfl hDATA
  by_cases hRSET : l = wRSET
  ·
    have hlit : l.toList = [82, 83, 69, 84] := by rw [hRSET, ByteArray.toList_eq]; rfl
    obtain ⟨s1, hs1⟩ : ∃ s1, backF ⟨st, us, T, tx⟩ = s1 := ⟨_, rfl⟩
    have HE : Hid (cmdF ⟨st, us, T, tx⟩ l = (s1, 250)) := Lib.hid (by unfold cmdF; rw [if_neg hDATA, if_pos hRSET, hs1])
    have HS1 := Lib.hid hs1
    clear hs1 hDATA hRSET h5
    go_enter Tryz.func79, Tryz.ntmps79
    go_wp2_with fail
    refine (iback_at HS1.out _ HD.out HU7.out).mono ?_
    rintro e w4 ⟨A4, N4, cap4, rfl, hk⟩
    have HD4 := Lib.hid hk
    clear hk
    go_wp2
    go_ret
    rw [HE.out]
    exact ⟨A4, N4, cap4, rfl, HD4.out⟩
  obtain ⟨vr1, vr2, vr3⟩ := lit_walk (xs := [82, 83, 69, 84]) rfl hRSET
  by_cases hNOOP : l = wNOOP
  ·
    have hlit : l.toList = [78, 79, 79, 80] := by rw [hNOOP, ByteArray.toList_eq]; rfl
    have HE : Hid (cmdF ⟨st, us, T, tx⟩ l = (⟨st, us, T, tx⟩, 250)) := Lib.hid (by unfold cmdF; rw [if_neg hDATA, if_neg hRSET, if_pos hNOOP])
    clear hDATA hRSET hNOOP h5
    go_enter Tryz.func79, Tryz.ntmps79
    go_wp2
    go_ret
    rw [HE.out]
    exact ⟨A, N, cap, rfl, HD.out⟩
  obtain ⟨vn1, vn2, vn3⟩ := lit_walk (xs := [78, 79, 79, 80]) rfl hNOOP
  by_cases hQUIT : l = wQUIT
  ·
    have hlit : l.toList = [81, 85, 73, 84] := by rw [hQUIT, ByteArray.toList_eq]; rfl
    have HE : Hid (cmdF ⟨st, us, T, tx⟩ l = (quitS, 221)) := Lib.hid (by unfold cmdF; rw [if_neg hDATA, if_neg hRSET, if_neg hNOOP, if_pos hQUIT])
    have k1 : DS w0 (w.setCell ⟨D, 0, none⟩ (.int .i64 6)) D ⟨6, us, T, tx⟩ A N cap AU NU cU L d := HD.out.set (HD.out.1.store 0 _) HD.out.2.1
    have k2 : DS w0 ((w.setCell ⟨D, 0, none⟩ (.int .i64 6)).setCell ⟨D, 1, none⟩ (.string ⟨#[]⟩)) D ⟨6, ⟨#[]⟩, T, tx⟩ A N cap AU NU cU L d := k1.set (k1.1.store 1 _) k1.2.1
    have k3 : DS w0 (((w.setCell ⟨D, 0, none⟩ (.int .i64 6)).setCell ⟨D, 1, none⟩ (.string ⟨#[]⟩)).setCell ⟨D, 2, none⟩ (.slice none 0 0)) D ⟨6, ⟨#[]⟩, [], tx⟩ none 0 0 AU NU cU L d := k2.set (k2.1.store 2 _) (ROwn.nil _ _)
    have k4 : DS w0 ((((w.setCell ⟨D, 0, none⟩ (.int .i64 6)).setCell ⟨D, 1, none⟩ (.string ⟨#[]⟩)).setCell ⟨D, 2, none⟩ (.slice none 0 0)).setCell ⟨D, 3, none⟩ (.string ⟨#[]⟩)) D ⟨6, ⟨#[]⟩, [], ⟨#[]⟩⟩ none 0 0 AU NU cU L d := k3.set (k3.1.store 3 _) (ROwn.nil _ _)
    have HD4 := Lib.hid k4
    have hs := HD.out.1
    have c0 := hs.cell 0
    have c1 := hs.cell 1
    have c2 := hs.cell 2
    have c3 := hs.cell 3
    simp only [List.getElem?_toArray, List.getElem?_cons_zero, List.getElem?_cons_succ] at c0 c1 c2 c3
    have f0 := hs.free 0
    have f1 := hs.free 1
    have f2 := hs.free 2
    have f3 := hs.free 3
    clear k1 k2 k3 k4 hs hDATA hRSET hNOOP hQUIT h5
    go_enter Tryz.func79, Tryz.ntmps79
    go_wp2
    go_ret
    rw [HE.out]
    exact ⟨none, 0, 0, rfl, HD4.out⟩
  obtain ⟨vq1, vq2, vq3⟩ := lit_walk (xs := [81, 85, 73, 84]) rfl hQUIT
  have HE : Hid (cmdF ⟨st, us, T, tx⟩ l = (⟨st, us, T, tx⟩, 500)) := Lib.hid (by unfold cmdF; rw [if_neg hDATA, if_neg hRSET, if_neg hNOOP, if_neg hQUIT])
  clear hDATA hRSET hNOOP hQUIT h5
  go_enter Tryz.func79, Tryz.ntmps79
  go_wp2
  go_ret
  rw [HE.out]
  exact ⟨A, N, cap, rfl, HD.out⟩
end Go.Proofs.YtichajalinkcdaaGreatDoor
namespace Go.Proofs.YtichajalinkcdaaGreatDoor
open Go.RowKit
set_option linter.unusedVariables false

theorem trim_dot (l : ByteArray) : rB (if preB ⟨#[46]⟩ l = true then tlB ⟨#[46]⟩ l else kb l) = (if l.data.toList.head? = some 46 then l.extract 1 l.size else l) := by
  refine kb_inj ?_
  have hk : kb (⟨#[46]⟩ : ByteArray) = [46] := rfl
  have hp : preB ⟨#[46]⟩ l = true ↔ l.data.toList.head? = some 46 := by
    unfold preB
    rw [hk]
    show _ ↔ (kb l).head? = some 46
    cases kb l with
    | nil => simp
    | cons x xs => simp [eq_comm]
  by_cases h : l.data.toList.head? = some 46
  · rw [if_pos h, if_pos (hp.2 h)]
    unfold tlB kb
    rw [rB_list, ByteArray.data_extract, Array.toList_extract, List.extract_eq_take_drop, ByteArray.size]
    simp
    exact (List.take_of_length_le (by rw [List.length_tail, Array.length_toList]; exact Nat.le_refl _)).symm
  · rw [if_neg h, if_neg (fun e => h (hp.1 e))]
    unfold kb
    rw [rB_list]

set_option maxRecDepth 20000 in
set_option maxHeartbeats 4000000 in
theorem impl_data {st : Int} {us tx : ByteArray} {T : List ByteArray} {A : Option Addr} {N cap : Nat} {w0 : World} {D : Nat} {AU : Option Addr} {NU cU : Nat} {L : List Us} {d : ByteArray} (l : ByteArray) (w : World) (h : DS w0 w D ⟨st, us, T, tx⟩ A N cap AU NU cU L d) (ht : tx.size ≤ 21) (hl : l.size ≤ 2097152) (hu : st < 2 → us = eB) : Calls Tryz.prog 73 #[.pointer (some ⟨D, 0, none⟩), .string l] w (DG w0 D AU NU cU L d (dataF ⟨st, us, T, tx⟩ l)) := by
  have HD := Lib.hid h
  have HU := Lib.hid hu
  clear h hu
  by_cases hd : l = ⟨#[46]⟩
  · subst hd
    obtain ⟨s1, hs1⟩ : ∃ s1, backF ⟨st, us, T, tx⟩ = s1 := ⟨_, rfl⟩
    have HS1 := Lib.hid hs1
    by_cases h20 : tx.size ≤ 20
    ·
      have h20' : ¬ (20 : Int) < (tx.size : Int) := by omega
      have HE : Hid (dataF ⟨st, us, T, tx⟩ ⟨#[46]⟩ = (s1, 250)) := Lib.hid (by unfold dataF; rw [if_pos rfl, hs1]; simp only; rw [if_pos h20])
      clear hs1 h20
      have hs := HD.out.1
      have c3 := hs.cell 3
      simp only [List.getElem?_toArray, List.getElem?_cons_succ] at c3
      clear hs
      go_enter Tryz.func73, Tryz.ntmps73
      go_wp2_with fail
      refine (iback_at HS1.out _ HD.out HU.out).mono ?_
      rintro e w2 ⟨A2, N2, cap2, rfl, hD2⟩
      have HD2 := Lib.hid hD2
      clear hD2
      go_wp2
      go_ret
      rw [HE.out]
      exact ⟨A2, N2, cap2, rfl, HD2.out⟩
    ·
      have h20' : (20 : Int) < (tx.size : Int) := by omega
      have HE : Hid (dataF ⟨st, us, T, tx⟩ ⟨#[46]⟩ = (s1, 552)) := Lib.hid (by unfold dataF; rw [if_pos rfl, hs1]; simp only; rw [if_neg h20])
      clear hs1 h20
      have hs := HD.out.1
      have c3 := hs.cell 3
      simp only [List.getElem?_toArray, List.getElem?_cons_succ] at c3
      clear hs
      go_enter Tryz.func73, Tryz.ntmps73
      go_wp2_with fail
      refine (iback_at HS1.out _ HD.out HU.out).mono ?_
      rintro e w2 ⟨A2, N2, cap2, rfl, hD2⟩
      have HD2 := Lib.hid hD2
      clear hD2
      go_wp2
      go_ret
      rw [HE.out]
      exact ⟨A2, N2, cap2, rfl, HD2.out⟩
  · obtain ⟨v1, v2, v3⟩ := lit_walk (xs := [46]) rfl hd
    obtain ⟨t, htt⟩ : ∃ t, rB (if preB ⟨#[46]⟩ l = true then tlB ⟨#[46]⟩ l else kb l) = t := ⟨_, rfl⟩
    have HT := Lib.hid htt
    have HE : Hid (dataF ⟨st, us, T, tx⟩ l = (⟨st, us, T, (tx ++ t ++ { data := #[10] }).extract 0 (min ((tx.size : Int) + (t.size : Int) + 1) 21).toNat⟩, 0)) := Lib.hid (by unfold dataF; rw [if_neg hd]; unfold addF; rw [← trim_dot, htt, ← add_size, ext_min])
    have htz : t.size ≤ 2097152 := by
      rw [← htt, trim_dot]
      split
      · rw [ByteArray.size_extract]; omega
      · exact hl
    clear htt hd
    have hs := HD.out.1
    have c3 := hs.cell 3
    simp only [List.getElem?_toArray, List.getElem?_cons_succ] at c3
    have f3 := hs.free 3
    have HD3 : Hid (DS w0 (w.drew.setCell ⟨D, 3, none⟩ (.string ((tx ++ t ++ { data := #[10] }).extract 0 (min ((tx.size : Int) + (t.size : Int) + 1) 21).toNat))) D ⟨st, us, T, (tx ++ t ++ { data := #[10] }).extract 0 (min ((tx.size : Int) + (t.size : Int) + 1) 21).toNat⟩ A N cap AU NU cU L d) := Lib.hid (by
      have HDd := HD.out.later (w' := w.drew) ⟨rfl, rfl, rfl, Nat.le_refl _, fun _ _ => rfl⟩
      exact HDd.set (s' := ⟨st, us, T, (tx ++ t ++ { data := #[10] }).extract 0 (min ((tx.size : Int) + (t.size : Int) + 1) 21).toNat⟩) (HDd.1.store 3 _) HDd.2.1)
    clear hs
    go_enter Tryz.func73, Tryz.ntmps73
    go_wp2
    go_region_with (go_at_call 101; refine (lib_trim HT.out _).mono ?_; rintro e w2 ⟨rfl, rfl⟩)
    all_goals
      go_wp2
      go_ret
      rw [HE.out]
      exact ⟨A, N, cap, rfl, HD3.out⟩
end Go.Proofs.YtichajalinkcdaaGreatDoor
namespace Go.Proofs.YtichajalinkcdaaGreatDoor
open Go.RowKit
set_option linter.unusedVariables false

set_option maxRecDepth 20000 in
set_option maxHeartbeats 4000000 in
theorem impl_prove {st : Int} {us tx : ByteArray} {T : List ByteArray} {A : Option Addr} {N cap : Nat} {w0 : World} {D : Nat} {AU : Option Addr} {NU cU : Nat} {L : List Us} {d : ByteArray} (W : List ByteArray) (AW : Option Addr) (NW cW : Nat) (u : ByteArray) (ok : Bool) (w : World) (h : DS w0 w D ⟨st, us, T, tx⟩ A N cap AU NU cU L d) (hv : sbV ⟨st, us, T, tx⟩ = true) (hw : WIn w AW NW W) (hs8 : ∀ x ∈ W, x.size ≤ 2097152) (hup : W.length = 3 → IsUp L (W.getD 2 eB) u ok) : Calls Tryz.prog 76 #[.pointer (some ⟨D, 0, none⟩), .slice AW NW cW] w (DG w0 D AU NU cU L d (authF ⟨st, us, T, tx⟩ W u ok)) := by
  have HD := Lib.hid h
  have HWI := Lib.hid hw
  have HUP := Lib.hid hup
  have HV := Lib.hid hv
  have hs := h.1
  have c0 := hs.cell 0
  simp only [List.getElem?_toArray, List.getElem?_cons_zero] at c0
  clear h hw hup hv hs
  by_cases h1 : st = 1
  ·
    subst h1
    by_cases h3 : NW = 3
    ·
      subst h3
      obtain ⟨x, hx⟩ : ∃ x, W[1]? = some x := ⟨_, List.getElem?_eq_getElem (by rw [HWI.out.1]; omega)⟩
      obtain ⟨y, hy⟩ : ∃ y, W[2]? = some y := ⟨_, List.getElem?_eq_getElem (by rw [HWI.out.1]; omega)⟩
      have hgx : W.getD 1 eB = x := by rw [List.getD_eq_getElem?_getD, hx]; rfl
      have hgy : W.getD 2 eB = y := by rw [List.getD_eq_getElem?_getD, hy]; rfl
      have hys : y.size ≤ 16777216 := Nat.le_trans (hs8 y (List.mem_of_getElem? hy)) (by omega)
      obtain ⟨b, o, rfl, hb, k0⟩ := str_at HWI.out.2 hx
      obtain ⟨b', o', hA', _, k1⟩ := str_at HWI.out.2 hy
      cases hA'
      clear hx hy hs8
      have HU : Hid (IsUp L y u ok) := Lib.hid (by rw [← hgy]; exact HUP.out HWI.out.1)
      by_cases hp : x = wPLAIN
      ·
        subst hp
        unfold wPLAIN at k0
        obtain ⟨pk, pn, pp, hp1, hp2⟩ := HU.out
        have HP1 := Lib.hid hp1
        have HP2 := Lib.hid hp2
        have HGX := Lib.hid hgx
        have hsd := HD.out.1
        have HDd : Hid (DS w0 w.drew D ⟨1, us, T, tx⟩ A N cap AU NU cU L d) := Lib.hid (HD.out.later (w' := w.drew) ⟨rfl, rfl, rfl, Nat.le_refl _, fun _ _ => rfl⟩)
        have e4 := hsd.cell 4
        simp only [List.getElem?_toArray, List.getElem?_cons_succ] at e4
        clear hp1 hp2 hgy hgx hsd
        cases ok with
        | false =>
          have HE : Hid (authF ⟨1, us, T, tx⟩ W u false = (⟨1, us, T, tx⟩, 535)) := Lib.hid (by unfold authF; rw [if_neg (by simp), if_pos ⟨HWI.out.1, HGX.out⟩, if_neg (by simp)])
          go_enter Tryz.func76, Tryz.ntmps76
          go_wp2
          go_region_with (go_at_call 104; refine (impl_upl HP1.out HP2.out w.drew HDd.out.users hys).mono ?_; rintro e w2 ⟨rfl, hb2⟩; have HD2 := Lib.hid (HDd.out.later hb2); have hs2 := HD2.out.1; have i0 := hs2.cell 0; have i1 := hs2.cell 1; simp only [List.getElem?_toArray, List.getElem?_cons_zero, List.getElem?_cons_succ] at i0 i1; have f0 := hs2.free 0; have f1 := hs2.free 1; clear hb2 hs2)
          all_goals
            go_wp2
            go_ret
            rw [HE.out]
            exact ⟨A, N, cap, rfl, HD2.out⟩
        | true =>
          have HE : Hid (authF ⟨1, us, T, tx⟩ W u true = (⟨2, u, [], eB⟩, 235)) := Lib.hid (by unfold authF; rw [if_neg (by simp), if_pos ⟨HWI.out.1, HGX.out⟩, if_pos rfl])
          have HTX : Hid (T = [] ∧ tx = eB) := Lib.hid (by have h9 := HV.out; unfold sbV at h9; simpa using (by simpa using h9 : us = eB ∧ T = [] ∧ tx = eB).2)
          go_enter Tryz.func76, Tryz.ntmps76
          go_wp2
          go_region_with (go_at_call 104; refine (impl_upl HP1.out HP2.out w.drew HDd.out.users hys).mono ?_; rintro e w2 ⟨rfl, hb2⟩; have HD2 := Lib.hid (HDd.out.later hb2); have hs2 := HD2.out.1; have i0 := hs2.cell 0; have i1 := hs2.cell 1; simp only [List.getElem?_toArray, List.getElem?_cons_zero, List.getElem?_cons_succ] at i0 i1; have f0 := hs2.free 0; have f1 := hs2.free 1; clear hb2 hs2)
          all_goals
            have HD3 : Hid (DS w0 ((w2.setCell ⟨D, 0, none⟩ (.int .i64 2)).setCell ⟨D, 1, none⟩ (.string u)) D ⟨2, u, T, tx⟩ A N cap AU NU cU L d) := Lib.hid (by
              have q1 : DS w0 (w2.setCell ⟨D, 0, none⟩ (.int .i64 2)) D ⟨2, us, T, tx⟩ A N cap AU NU cU L d := HD2.out.set (HD2.out.1.store 0 (.int .i64 2)) HD2.out.2.1
              exact q1.set (q1.1.store 1 (.string u)) q1.2.1)
            go_wp2
            go_ret
            rw [HE.out]
            obtain ⟨rfl, rfl⟩ := HTX.out
            exact ⟨A, N, cap, rfl, HD3.out⟩
      ·
        obtain ⟨v1, v2, v3⟩ := lit_walk (xs := [80, 76, 65, 73, 78]) rfl hp
        have HE : Hid (authF ⟨1, us, T, tx⟩ W u ok = (⟨1, us, T, tx⟩, 501)) := Lib.hid (by unfold authF; rw [if_neg (by simp), if_neg (by rw [hgx]; exact fun h => hp h.2)])
        clear hp hgx hgy k1
        go_enter Tryz.func76, Tryz.ntmps76
        go_wp2
        go_ret
        rw [HE.out]
        exact ⟨A, N, cap, rfl, HD.out⟩
    ·
      have h3' : ((NW : Int) != 3) = true := bne_iff_ne.2 (by omega)
      have HE : Hid (authF ⟨1, us, T, tx⟩ W u ok = (⟨1, us, T, tx⟩, 501)) := Lib.hid (by unfold authF; rw [if_neg (by simp), if_neg (by rw [HWI.out.1]; exact fun h => h3 h.1)])
      clear h3
      go_enter Tryz.func76, Tryz.ntmps76
      go_wp2
      go_ret
      rw [HE.out]
      exact ⟨A, N, cap, rfl, HD.out⟩
  ·
    have h1' : (st != 1) = true := bne_iff_ne.2 h1
    have HE : Hid (authF ⟨st, us, T, tx⟩ W u ok = (⟨st, us, T, tx⟩, 503)) := Lib.hid (by unfold authF; rw [if_pos h1])
    clear h1
    go_enter Tryz.func76, Tryz.ntmps76
    go_wp2
    go_ret
    rw [HE.out]
    exact ⟨A, N, cap, rfl, HD.out⟩
end Go.Proofs.YtichajalinkcdaaGreatDoor
namespace Go.Proofs.YtichajalinkcdaaGreatDoor
open Go.RowKit
set_option linter.unusedVariables false

theorem qU_ne {L : List UInt8} (h : spP L = true) (hb : L ≠ bare) : qU L ≠ [] := by
  have hp := h
  unfold spP at hp
  rw [decide_eq_false hb, Bool.false_or, Bool.and_eq_true] at hp
  unfold qU
  rw [if_neg hb, if_pos hp.1]
  intro e
  obtain ⟨u, d, e1, e2, e3, e4⟩ := sp_parts hp.2
  unfold pU at e
  rw [if_pos hp.2, e1] at e
  have hu : u = [] := e
  rw [hu] at e3
  exact absurd e3 (by decide)
theorem ptO_bare {b l : ByteArray} (h : tlB b l = bare) : ptO b l = false := by
  unfold ptO qU
  rw [h, if_pos rfl]
  simp
theorem ptO_path {b l : ByteArray} {o : Bool} (hp : preB b l = true) (hb : tlB b l ≠ bare) (ho : spP (tlB b l) = o) : ptO b l = o := by
  unfold ptO
  rw [hp, ho]
  cases o with
  | false => rfl
  | true => rw [decide_eq_true (qU_ne ho hb)]; rfl
/-- What pathBehind tells: the user and the domain count only if there is an address. -/
def PBH (w : World) (o : Bool) (u d : ByteArray) (e : Ending) (w' : World) : Prop := ∃ u' d' : ByteArray, e = .returned (.tuple #[.agg #[.string u', .string d'], .bool o]) ∧ (o = true → u' = u ∧ d' = d) ∧ Below w.heap.size w w'
set_option maxRecDepth 20000 in
set_option maxHeartbeats 2000000 in
theorem impl_pbh {b l : ByteArray} {o : Bool} {u d : ByteArray} (ho : ptO b l = o) (hu : ptU b l = u) (hd : ptD b l = d) (w : World) (hl : l.size ≤ 16777216) : Calls Tryz.prog 105 #[.string b, .string l] w (PBH w o u d) := by
  cases hp : preB b l with
  | false =>
    have e1 : o = false := by rw [← ho]; exact (pt_off hp).1
    subst e1
    have HP := Lib.hid hp
    have HT : Hid (rB (if false = true then tlB b l else kb l) = l) := Lib.hid (rB_of l)
    clear hp ho hu hd
    go_enter Tryz.func105, Tryz.ntmps105
    go_wp2_with fail
    refine (lib_cutp HP.out HT.out _).mono ?_
    rintro e w2 ⟨rfl, rfl⟩
    go_wp2
    refine bodyPost_ret (v := .tuple #[.agg #[.string ⟨#[]⟩, .string ⟨#[]⟩], .bool false]) (by simp [results, Tryz.results105, go_sem]) rfl ?_
    exact ⟨_, _, rfl, (fun h => by cases h), (Below.refl _ _).alloc (Nat.le_refl _) _⟩
  | true =>
    obtain ⟨t, ht⟩ : ∃ t, rB (if true = true then tlB b l else kb l) = t := ⟨_, rfl⟩
    have HP := Lib.hid hp
    have HT := Lib.hid ht
    have htl : tlB b l = t.data.toList := by rw [← ht, rB_list, if_pos rfl]
    have hts : t.size ≤ 16777216 := by rw [← ht, rB_size, if_pos rfl]; unfold tlB; rw [List.length_drop, kb_len]; omega
    by_cases hb : t = ⟨#[60, 62]⟩
    · have e1 : o = false := by rw [← ho]; exact ptO_bare (by rw [htl, hb]; rfl)
      subst e1
      subst hb
      clear hp ho hu hd ht htl
      go_enter Tryz.func105, Tryz.ntmps105
      go_wp2_with fail
      refine (lib_cutp HP.out HT.out _).mono ?_
      rintro e w2 ⟨rfl, rfl⟩
      go_wp2
      refine bodyPost_ret (v := .tuple #[.agg #[.string ⟨#[]⟩, .string ⟨#[]⟩], .bool false]) (by simp [results, Tryz.results105, go_sem]) rfl ?_
      exact ⟨_, _, rfl, (fun h => by cases h), (Below.refl _ _).alloc (Nat.le_refl _) _⟩
    · obtain ⟨v1, v2, v3⟩ := lit_walk (xs := [60, 62]) rfl hb
      obtain ⟨o1, u1, d1, hi, _, _⟩ := readP_any t
      have hne : tlB b l ≠ bare := by
        rw [htl]
        intro e
        exact hb (rB_ext (by rw [e]; rfl))
      have e1 : o = o1 := by rw [← ho]; exact ptO_path hp hne (by rw [htl]; exact hi.1)
      have e2 : u1 = u := by rw [← hu, ← hi.2.1, ← htl]; unfold ptU; rw [if_pos hp]
      have e3 : d1 = d := by rw [← hd, ← hi.2.2, ← htl]; unfold ptD; rw [if_pos hp]
      subst e1
      have HI := Lib.hid hi
      have HE2 := Lib.hid e2
      have HE3 := Lib.hid e3
      clear hp ho hu hd ht htl hb hne hi e2 e3
      obtain ⟨R, hR⟩ : ∃ R, w.heap.size = R := ⟨_, rfl⟩
      obtain ⟨wq, hwq⟩ : ∃ wq, w.alloc (.cells #[.string ⟨#[]⟩, .string ⟨#[]⟩] 112) = wq := ⟨_, rfl⟩
      have HW : Hid (Whole wq R 112 #[.string ⟨#[]⟩, .string ⟨#[]⟩]) := Lib.hid (by rw [← hwq, ← hR]; exact Whole.made _ _ _)
      have HB : Hid (Below R w wq) := Lib.hid (by rw [← hwq, ← hR]; exact (Below.refl _ _).alloc (Nat.le_refl _) _)
      go_enter Tryz.func105, Tryz.ntmps105
      go_wp2_with fail
      refine (lib_cutp HP.out HT.out _).mono ?_
      rintro e w2 ⟨rfl, rfl⟩
      go_wp2_with fail
      refine (ipath_at HI.out _ hts).mono ?_
      rintro e w3 ⟨rfl, hb⟩
      have hW := HW.out.below hb HW.out.lt
      have HB3 := Lib.hid (HB.out.trans (hb.mono (show R ≤ _ by have := HB.out.size; omega)))
      have z0 := hW.cell 0
      have z1 := hW.cell 1
      have g0 := hW.free 0
      have g1 := hW.free 1
      have hf := (hW.store 0 (.string u1)).store 1 (.string d1)
      have r0 := hf.cell 0
      have r1 := hf.cell 1
      simp at z0 z1 r0 r1
      clear hW hf hb
      go_wp2
      refine bodyPost_ret (v := .tuple #[.agg #[.string u1, .string d1], .bool o]) (by simp [results, Tryz.results105, go_sem, *]) rfl ?_
      exact ⟨u1, d1, rfl, fun _ => ⟨HE2.out, HE3.out⟩, by rw [hR]; exact (HB3.out.setCell (Nat.le_refl _) _).setCell (Nat.le_refl _) _⟩
end Go.Proofs.YtichajalinkcdaaGreatDoor
namespace Go.Proofs.YtichajalinkcdaaGreatDoor
open Go.RowKit
set_option linter.unusedVariables false

set_option maxRecDepth 20000 in
set_option maxHeartbeats 4000000 in
theorem impl_sender {st : Int} {us tx : ByteArray} {T : List ByteArray} {A : Option Addr} {N cap : Nat} {w0 : World} {D : Nat} {AU : Option Addr} {NU cU : Nat} {L : List Us} {d : ByteArray} (l : ByteArray) (w : World) (h : DS w0 w D ⟨st, us, T, tx⟩ A N cap AU NU cU L d) (hl : l.size ≤ 2097152) : Calls Tryz.prog 77 #[.pointer (some ⟨D, 0, none⟩), .string l] w (DG w0 D AU NU cU L d (mailF ⟨st, us, T, tx⟩ d l)) := by
  have HD := Lib.hid h
  have hs := h.1
  have c0 := hs.cell 0
  simp only [List.getElem?_toArray, List.getElem?_cons_zero] at c0
  clear h hs
  have hl2 : l.size ≤ 16777216 := by omega
  by_cases h1 : st < 2
  ·
    have HE : Hid (mailF ⟨st, us, T, tx⟩ d l = (⟨st, us, T, tx⟩, 530)) := Lib.hid (by unfold mailF; rw [if_pos h1])
    go_enter Tryz.func77, Tryz.ntmps77
    go_wp2
    go_ret
    rw [HE.out]
    exact ⟨A, N, cap, rfl, HD.out⟩
  ·
    by_cases h2 : 2 < st
    ·
      have HE : Hid (mailF ⟨st, us, T, tx⟩ d l = (⟨st, us, T, tx⟩, 503)) := Lib.hid (by unfold mailF; rw [if_neg h1, if_pos (by simp only; omega)])
      go_enter Tryz.func77, Tryz.ntmps77
      go_wp2
      go_ret
      rw [HE.out]
      exact ⟨A, N, cap, rfl, HD.out⟩
    ·
      obtain rfl : st = 2 := by omega
      clear h1 h2
      obtain ⟨u, hu⟩ : ∃ u, ptU bMAIL l = u := ⟨_, rfl⟩
      obtain ⟨v, hd⟩ : ∃ v, ptD bMAIL l = v := ⟨_, rfl⟩
      cases ho : ptO bMAIL l with
      | false =>
        have HC := Lib.hid (impl_pbh ho hu hd w hl2)
        unfold bMAIL at HC
        have HO := Lib.hid ho
        have HU := Lib.hid hu
        have HV := Lib.hid hd
        clear ho hu hd
        have HE : Hid (mailF ⟨2, us, T, tx⟩ d l = (⟨2, us, T, tx⟩, 501)) := Lib.hid (by unfold mailF; rw [if_neg (by simp), if_neg (by simp), if_pos HO.out])
        go_enter Tryz.func77, Tryz.ntmps77
        go_wp2_with fail
        refine HC.out.mono ?_
        rintro e w3 ⟨u', d', rfl, hq, hb⟩
        have HQ := Lib.hid hq
        obtain ⟨B, hB⟩ : ∃ B, w3.heap.size = B := ⟨_, rfl⟩
        obtain ⟨w4, hw4⟩ : ∃ w4, w3.alloc (.cells #[.string u', .string d'] 112) = w4 := ⟨_, rfl⟩
        have HD4 := Lib.hid ((HD.out.later hb).later (w' := w4) (by rw [← hw4]; exact (Below.refl _ _).alloc (Nat.le_refl _) _))
        have HA4 : Hid (Whole w4 B 112 #[.string u', .string d']) := Lib.hid (by rw [← hw4, ← hB]; exact Whole.made _ _ _)
        clear hb hq c0
        go_wp2
        go_ret
        rw [HE.out]
        exact ⟨A, N, cap, rfl, HD4.out⟩
      | true =>
        have HC := Lib.hid (impl_pbh ho hu hd w hl2)
        unfold bMAIL at HC
        have HO := Lib.hid ho
        have HU := Lib.hid hu
        have HV := Lib.hid hd
        clear ho hu hd
        by_cases hx : u = us ∧ v = d
        ·
          obtain ⟨rfl, rfl⟩ := hx
          have HE : Hid (mailF ⟨2, u, T, tx⟩ v l = (⟨3, u, T, tx⟩, 250)) := Lib.hid (by unfold mailF; rw [if_neg (by simp), if_neg (by simp), if_neg (by rw [HO.out]; simp), if_pos ⟨HU.out, HV.out⟩])
          go_enter Tryz.func77, Tryz.ntmps77
          go_wp2_with fail
          refine HC.out.mono ?_
          rintro e w3 ⟨u', d', rfl, hq, hb⟩
          have HQ := Lib.hid hq
          obtain ⟨B, hB⟩ : ∃ B, w3.heap.size = B := ⟨_, rfl⟩
          obtain ⟨w4, hw4⟩ : ∃ w4, w3.alloc (.cells #[.string u', .string d'] 112) = w4 := ⟨_, rfl⟩
          have HD4 := Lib.hid ((HD.out.later hb).later (w' := w4) (by rw [← hw4]; exact (Below.refl _ _).alloc (Nat.le_refl _) _))
          have HA4 : Hid (Whole w4 B 112 #[.string u', .string d']) := Lib.hid (by rw [← hw4, ← hB]; exact Whole.made _ _ _)
          clear hb hq c0
          obtain ⟨rfl, rfl⟩ := HQ.out rfl
          have hs4 := HD4.out.1
          have ha4 := HA4.out
          have e0 := hs4.cell 0
          have e1 := hs4.cell 1
          have e5 := hs4.cell 5
          simp only [List.getElem?_toArray, List.getElem?_cons_zero, List.getElem?_cons_succ] at e0 e1 e5
          have f0 := hs4.free 0
          have f1 := hs4.free 1
          have f5 := hs4.free 5
          have k0 := ha4.cell 0
          have k1 := ha4.cell 1
          simp at k0 k1
          clear hs4 ha4
          have HD5 : Hid (∀ n : Nat, DS w0 ((w4.drewN n).setCell ⟨D, 0, none⟩ (.int .i64 3)) D ⟨3, u', T, tx⟩ A N cap AU NU cU L d') := Lib.hid (fun n => by
            have q := HD4.out.later (w' := w4.drewN n) (below_drewN' (Below.refl _ _) n)
            exact q.set (s' := ⟨3, u', T, tx⟩) (q.1.store 0 (.int .i64 3)) q.2.1)
          go_wp2
          go_quiet (fail)
          go_wp2
          go_ret
          rw [HE.out]
          exact ⟨A, N, cap, rfl, HD5.out _⟩
        ·
          have HE : Hid (mailF ⟨2, us, T, tx⟩ d l = (⟨2, us, T, tx⟩, 550)) := Lib.hid (by unfold mailF; rw [if_neg (by simp), if_neg (by simp), if_neg (by rw [HO.out]; simp), if_neg (by rw [HU.out, HV.out]; exact hx)])
          go_enter Tryz.func77, Tryz.ntmps77
          go_wp2_with fail
          refine HC.out.mono ?_
          rintro e w3 ⟨u', d', rfl, hq, hb⟩
          have HQ := Lib.hid hq
          obtain ⟨B, hB⟩ : ∃ B, w3.heap.size = B := ⟨_, rfl⟩
          obtain ⟨w4, hw4⟩ : ∃ w4, w3.alloc (.cells #[.string u', .string d'] 112) = w4 := ⟨_, rfl⟩
          have HD4 := Lib.hid ((HD.out.later hb).later (w' := w4) (by rw [← hw4]; exact (Below.refl _ _).alloc (Nat.le_refl _) _))
          have HA4 : Hid (Whole w4 B 112 #[.string u', .string d']) := Lib.hid (by rw [← hw4, ← hB]; exact Whole.made _ _ _)
          clear hb hq c0
          obtain ⟨rfl, rfl⟩ := HQ.out rfl
          have hs4 := HD4.out.1
          have ha4 := HA4.out
          have e0 := hs4.cell 0
          have e1 := hs4.cell 1
          have e5 := hs4.cell 5
          simp only [List.getElem?_toArray, List.getElem?_cons_zero, List.getElem?_cons_succ] at e0 e1 e5
          have f0 := hs4.free 0
          have f1 := hs4.free 1
          have f5 := hs4.free 5
          have k0 := ha4.cell 0
          have k1 := ha4.cell 1
          simp at k0 k1
          clear hs4 ha4
          have hx1 : u' ≠ us ∨ d' ≠ d := by
            by_cases h1 : u' = us
            · exact .inr fun h2 => hx ⟨h1, h2⟩
            · exact .inl h1
          clear hx
          rcases hx1 with h1 | h1
          all_goals
            obtain ⟨q1, q2⟩ := ne_walk h1
            go_wp2
            go_quiet (fail)
            go_wp2
            go_ret
            rw [HE.out]
            exact ⟨A, N, cap, rfl, HD4.out.later (below_drewN' (Below.refl _ _) _)⟩
end Go.Proofs.YtichajalinkcdaaGreatDoor
namespace Go.Proofs.YtichajalinkcdaaGreatDoor
open Go.RowKit
set_option linter.unusedVariables false

/-- A new dialog, or none. -/
def ND (w : World) (z : Bool) (st : Int) (us tx : ByteArray) (T : List ByteArray) (AU : Option Addr) (NU cU : Nat) (L : List Us) (d : ByteArray) (e : Ending) (w' : World) : Prop :=
  (z = false ∧ e = .returned (.tuple #[.pointer none, .bool false]) ∧ Below w.heap.size w w') ∨ (z = true ∧ ∃ D A N cap, e = .returned (.tuple #[.pointer (some ⟨D, 0, none⟩), .bool true]) ∧ DS w w' D ⟨st, us, T, tx⟩ A N cap AU NU cU L d)
set_option maxRecDepth 20000 in
set_option maxHeartbeats 4000000 in
theorem impl_newdialog {st : Int} {us tx d : ByteArray} {T : List ByteArray} {L : List Us} {A AU : Option Addr} {N cap NU cU : Nat} (w : World) (h : SIn w A N cap T) (hU : UIn w AU NU cU L) (hu : us.size ≤ 16777216) (hd : d.size ≤ 16777216) (hm : MxS w) : Calls Tryz.prog 45 #[.agg #[.int .i64 st, .string us, .slice A N cap, .string tx], .slice AU NU cU, .string d] w (ND w (sbV ⟨st, us, T, tx⟩ && (vU L && domB (kb d))) st us tx T AU NU cU L d) := by
  obtain ⟨S, hS⟩ : ∃ S, w.heap.size = S := ⟨_, rfl⟩
  obtain ⟨wq, hwq⟩ : ∃ wq, w.alloc (.cells #[.int .i64 st, .string us, .slice A N cap, .string tx] 25) = wq := ⟨_, rfl⟩
  have HS : Hid (Whole wq S 25 #[.int .i64 st, .string us, .slice A N cap, .string tx]) := Lib.hid (by rw [← hwq, ← hS]; exact Whole.made _ _ _)
  have HB : Hid (Below w.heap.size w wq) := Lib.hid (by rw [← hwq]; exact (Below.refl _ _).alloc (Nat.le_refl _) _)
  have HI := Lib.hid (h.below HB.out (Nat.le_refl _))
  have HU := Lib.hid (hU.below HB.out (Nat.le_refl _))
  have HU0 := Lib.hid hU
  have HM := Lib.hid hm
  have hs := HS.out
  have c0 := hs.cell 0
  have c1 := hs.cell 1
  have c2 := hs.cell 2
  have c3 := hs.cell 3
  simp only [List.getElem?_toArray, List.getElem?_cons_zero, List.getElem?_cons_succ] at c0 c1 c2 c3
  clear h hU hm hs
  cases h1 : sbV ⟨st, us, T, tx⟩ with
  | false =>
    have H1 := Lib.hid h1
    clear h1
    go_enter Tryz.func45, Tryz.ntmps45
    go_wp2_with fail
    refine (isub_at H1.out _ HI.out hu).mono ?_
    rintro e w2 ⟨rfl, hb⟩
    have HB2 := Lib.hid (HB.out.trans (hb.mono HB.out.size))
    have HI2 := Lib.hid (HI.out.below hb (Nat.le_refl _))
    have HU2 := Lib.hid (HU.out.below hb (Nat.le_refl _))
    have HS2 := Lib.hid (HS.out.below hb HS.out.lt)
    clear hb c0 c1 c2 c3
    go_wp2
    refine bodyPost_ret (v := .tuple #[.pointer none, .bool false]) (by simp [results, Tryz.results45, go_sem]) rfl ?_
    exact .inl ⟨rfl, rfl, HB2.out⟩
  | true =>
    have H1 := Lib.hid h1
    clear h1
    cases h2 : vU L with
    | false =>
      have H2 := Lib.hid h2
      clear h2
      go_enter Tryz.func45, Tryz.ntmps45
      go_wp2_with fail
      refine (isub_at H1.out _ HI.out hu).mono ?_
      rintro e w2 ⟨rfl, hb⟩
      have HB2 := Lib.hid (HB.out.trans (hb.mono HB.out.size))
      have HI2 := Lib.hid (HI.out.below hb (Nat.le_refl _))
      have HU2 := Lib.hid (HU.out.below hb (Nat.le_refl _))
      have HS2 := Lib.hid (HS.out.below hb HS.out.lt)
      clear hb c0 c1 c2 c3
      go_wp2_with fail
      refine (impl_uv H2.out _ HU2.out).mono ?_
      rintro e w3 ⟨rfl, hb⟩
      have HB3 := Lib.hid (HB2.out.trans (hb.mono HB2.out.size))
      have HI3 := Lib.hid (HI2.out.below hb (Nat.le_refl _))
      have HU3 := Lib.hid (HU2.out.below hb (Nat.le_refl _))
      have HS3 := Lib.hid (HS2.out.below hb HS2.out.lt)
      clear hb
      go_wp2
      refine bodyPost_ret (v := .tuple #[.pointer none, .bool false]) (by simp [results, Tryz.results45, go_sem]) rfl ?_
      exact .inl ⟨rfl, rfl, HB3.out⟩
    | true =>
      have H2 := Lib.hid h2
      clear h2
      cases h3 : domB (kb d) with
      | false =>
        have H3 := Lib.hid h3
        clear h3
        go_enter Tryz.func45, Tryz.ntmps45
        go_wp2_with fail
        refine (isub_at H1.out _ HI.out hu).mono ?_
        rintro e w2 ⟨rfl, hb⟩
        have HB2 := Lib.hid (HB.out.trans (hb.mono HB.out.size))
        have HI2 := Lib.hid (HI.out.below hb (Nat.le_refl _))
        have HU2 := Lib.hid (HU.out.below hb (Nat.le_refl _))
        have HS2 := Lib.hid (HS.out.below hb HS.out.lt)
        clear hb c0 c1 c2 c3
        go_wp2_with fail
        refine (impl_uv H2.out _ HU2.out).mono ?_
        rintro e w3 ⟨rfl, hb⟩
        have HB3 := Lib.hid (HB2.out.trans (hb.mono HB2.out.size))
        have HI3 := Lib.hid (HI2.out.below hb (Nat.le_refl _))
        have HU3 := Lib.hid (HU2.out.below hb (Nat.le_refl _))
        have HS3 := Lib.hid (HS2.out.below hb HS2.out.lt)
        clear hb
        go_wp2_with fail
        refine (idom_at H3.out hd _).mono ?_
        rintro e w4 ⟨rfl, hb⟩
        have HB4 := Lib.hid (HB3.out.trans (hb.mono HB3.out.size))
        have HI4 := Lib.hid (HI3.out.below hb (Nat.le_refl _))
        have HU4 := Lib.hid (HU3.out.below hb (Nat.le_refl _))
        have HS4 := Lib.hid (HS3.out.below hb HS3.out.lt)
        clear hb
        go_wp2
        refine bodyPost_ret (v := .tuple #[.pointer none, .bool false]) (by simp [results, Tryz.results45, go_sem]) rfl ?_
        exact .inl ⟨rfl, rfl, HB4.out⟩
      | true =>
        have H3 := Lib.hid h3
        clear h3
        go_enter Tryz.func45, Tryz.ntmps45
        go_wp2_with fail
        refine (isub_at H1.out _ HI.out hu).mono ?_
        rintro e w2 ⟨rfl, hb⟩
        have HB2 := Lib.hid (HB.out.trans (hb.mono HB.out.size))
        have HI2 := Lib.hid (HI.out.below hb (Nat.le_refl _))
        have HU2 := Lib.hid (HU.out.below hb (Nat.le_refl _))
        have HS2 := Lib.hid (HS.out.below hb HS.out.lt)
        clear hb c0 c1 c2 c3
        go_wp2_with fail
        refine (impl_uv H2.out _ HU2.out).mono ?_
        rintro e w3 ⟨rfl, hb⟩
        have HB3 := Lib.hid (HB2.out.trans (hb.mono HB2.out.size))
        have HI3 := Lib.hid (HI2.out.below hb (Nat.le_refl _))
        have HU3 := Lib.hid (HU2.out.below hb (Nat.le_refl _))
        have HS3 := Lib.hid (HS2.out.below hb HS2.out.lt)
        clear hb
        go_wp2_with fail
        refine (idom_at H3.out hd _).mono ?_
        rintro e w4 ⟨rfl, hb⟩
        have HB4 := Lib.hid (HB3.out.trans (hb.mono HB3.out.size))
        have HI4 := Lib.hid (HI3.out.below hb (Nat.le_refl _))
        have HU4 := Lib.hid (HU3.out.below hb (Nat.le_refl _))
        have HS4 := Lib.hid (HS3.out.below hb HS3.out.lt)
        clear hb
        have hs := HS4.out
        have c2 := hs.cell 2
        simp only [List.getElem?_toArray, List.getElem?_cons_succ] at c2
        clear hs
        go_wp2_with fail
        refine (lib_clone w4 HI4.out).mono ?_
        rintro e w5 ⟨v, rfl, hown, hb⟩
        obtain ⟨A6, N6, cap6, rfl⟩ := hown.val
        have HB5 := Lib.hid (HB4.out.trans (hb.mono HB4.out.size))
        have HS5 := Lib.hid (HS4.out.below hb HS4.out.lt)
        have HNE : Hid ((Value.slice A6 N6 cap6).ownBlock ≠ some S) := Lib.hid (hown.whole HS5.out (by decide))
        have HO5 := Lib.hid (hown.from (show w.heap.size ≤ w4.heap.size from HB4.out.size))
        have hf := HS5.out.store 2 (.slice A6 N6 cap6)
        have hs5 := HS5.out
        have e2 := hs5.cell 2
        have f2 := hs5.free 2
        simp at e2
        have q0 := hf.cell 0
        have q1 := hf.cell 1
        have q2 := hf.cell 2
        have q3 := hf.cell 3
        simp at q0 q1 q2 q3
        obtain ⟨D, hD⟩ : ∃ D, w5.heap.size = D := ⟨_, rfl⟩
        obtain ⟨wd, hwd⟩ : ∃ wd, (w5.setCell ⟨S, 2, none⟩ (.slice A6 N6 cap6)).alloc (.cells #[.int .i64 st, .string us, .slice A6 N6 cap6, .string tx, .slice AU NU cU, .string d] 62) = wd := ⟨_, rfl⟩
        have HDS : Hid (DS w wd D ⟨st, us, T, tx⟩ A6 N6 cap6 AU NU cU L d) := Lib.hid (by
          have hz : (w5.setCell ⟨S, 2, none⟩ (.slice A6 N6 cap6)).heap.size = D := by rw [← hD]; simp
          have hwm := Whole.made (w5.setCell ⟨S, 2, none⟩ (.slice A6 N6 cap6)) 62 #[.int .i64 st, .string us, .slice A6 N6 cap6, .string tx, .slice AU NU cU, .string d]
          rw [hwd, hz] at hwm
          have hbd : Below w.heap.size w (w5.setCell ⟨S, 2, none⟩ (.slice A6 N6 cap6)) := HB5.out.setCell (Nat.le_of_eq hS) _
          refine ⟨hwm, ?_, by rw [← hD]; exact HB5.out.size, ?_, HU0.out, HM.out⟩
          · rw [← hwd]; exact (HO5.out.store (p := ⟨S, 2, none⟩) HNE.out _).alloc _
          · rw [← hwd]; exact hbd.alloc hbd.size _)
        have hz2 : (w5.setCell ⟨S, 2, none⟩ (.slice A6 N6 cap6)).heap.size = D := by rw [← hD]; simp
        clear hown hb hf hs5 c2
        go_wp2
        refine bodyPost_ret (v := .tuple #[.pointer (some ⟨D, 0, none⟩), .bool true]) (by simp [results, Tryz.results45, go_sem]) rfl ?_
        exact .inr ⟨rfl, D, A6, N6, cap6, rfl, HDS.out⟩
end Go.Proofs.YtichajalinkcdaaGreatDoor
