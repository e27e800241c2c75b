/-
  The contracts of the functions that draw a number, a set, the text of a set, and a set with a last number. Condition: the code can be read.
-/
import Derived.Test.YtnfigpknejmkmaaGreatDoorSnum
import Derived.Test.YtnfigpknejmkmaaGreatDoorSmark
import Derived.Test.YtnfigpknejmkmaaGreatDoorDraws
import Derived.OwnWalk
import Derived.Laws.OwnMore
import Derived.Deep.RegionWith
namespace Go.Proofs.YtnfigpknejmkmaaGreatDoor
open Go.RowKit
set_option linter.unusedVariables false

theorem sgrow_own {w w1 w2 : World} {b : Nat} {row : Option Nat} (h : w.grownBy w1 (some b)) (hg : w1.grownBy w2 row) (hr : ∀ g, row = some g → w.heap.size ≤ g) : w.grownBy w2 (some b) :=
  ⟨hg.os.trans h.os, hg.tape.trans h.tape, hg.output.trans h.output, Nat.le_trans h.size hg.size, fun i hi hn => (hg.block i (Nat.lt_of_lt_of_le hi h.size) (fun e => by have := hr i e.symm; omega)).trans (h.block i hi hn)⟩
theorem Rd.keptRow {w w' : World} {b p : Nat} {row : Option Nat} (h : Rd w b p) (hg : w.grownBy w' row) (hb : ∀ g, row = some g → b < g) : Rd w' b p := by
  cases row with
  | none => exact h.below ⟨hg.os, hg.tape, hg.output, hg.size, fun k hk => hg.block k hk (by simp)⟩ h.lt
  | some g => exact h.grown hg (hb g rfl)
/-- A drawn number. -/
def DrewN (w : World) (b p : Nat) (e : Ending) (w' : World) : Prop := ∃ (z : Int) (q : Nat), -1 ≤ z ∧ z ≤ 100 ∧ q ≤ p + 2 ∧ e = .returned (.int .i64 z) ∧ Rd w' b q ∧ w.grownBy w' (some b)
theorem five_at {y : Nat} (h : y < 5) : ∃ z : Int, -1 ≤ z ∧ z ≤ 100 ∧ (#[Value.int .i64 0, .int .i64 99, .int .i64 100, .int .i64 (-1), .int .i64 50] : Array Value)[y]? = some (.int .i64 z) := by
  match y, h with
  | 0, _ => exact ⟨0, by omega, by omega, rfl⟩
  | 1, _ => exact ⟨99, by omega, by omega, rfl⟩
  | 2, _ => exact ⟨100, by omega, by omega, rfl⟩
  | 3, _ => exact ⟨-1, by omega, by omega, rfl⟩
  | 4, _ => exact ⟨50, by omega, by omega, rfl⟩
set_option maxHeartbeats 2000000 in
theorem number_draw (b p : Nat) (w : World) (h : Rd w b p) (hp : p ≤ 900000) :
    Calls Tryz.prog 85 #[.pointer (some ⟨b, 0, none⟩)] w (DrewN w b p) := by
  have H := Lib.hid h
  clear h
  go_enter Tryz.func85, Tryz.ntmps85
  go_wp2_with fail
  refine (pick_any b p 10 w H.out (by omega) (by omega) (by omega)).mono ?_
  rintro e w1 ⟨x, hx, rfl, hr, hg⟩
  have HR := Lib.hid hr
  have HG := Lib.hid hg
  clear hr hg
  by_cases h0 : x = 0
  · subst h0
    go_wp2_with fail
    refine (pick_any b (p + 1) 5 _ (HR.out.below ((Below.refl w1.heap.size w1).alloc (Nat.le_refl _) _) HR.out.lt) (by omega) (by omega) (by omega)).mono ?_
    rintro e w2 ⟨y, hy, rfl, hr, hg⟩
    obtain ⟨z, z1, z2, hz⟩ := five_at hy
    have hbl := HR.out.lt
    have hc : w2.cell? ⟨w1.heap.size, y, none⟩ = some (.int .i64 z) := (((Whole.made w1 3 #[.int .i64 0, .int .i64 99, .int .i64 100, .int .i64 (-1), .int .i64 50]).grown hg (by simp; omega)).cell y).trans hz
    have y0 : (0 : Int) ≤ (y : Int) := by omega
    have y5 : (y : Int) < 5 := by omega
    have H2 := Lib.hid (And.intro hr (gr_trans (gr_alloc HG.out _) hg))
    clear hr hg hz
    go_wp2_with fail
    go_ret
    exact ⟨z, _, z1, z2, by omega, rfl, H2.out.1, H2.out.2⟩
  · have h0' : ((x : Int) == 0) = false := beq_eq_false_iff_ne.2 (by omega)
    clear h0
    go_wp2_with fail
    refine (pick_any b (p + 1) 12 _ HR.out (by omega) (by omega) (by omega)).mono ?_
    rintro e w2 ⟨y, hy, rfl, hr, hg⟩
    have H2 := Lib.hid (And.intro hr (gr_trans HG.out hg))
    clear hr hg
    go_wp2_with fail
    go_ret
    exact ⟨y, _, by omega, by omega, by omega, rfl, H2.out.1, H2.out.2⟩
theorem own_ne {w : World} {B : Nat} {v : Value} {L : List (Int × Int)} (h : Own w B v L) : v.ownBlock ≠ some w.heap.size := fun e => by
  have := (World.ownsRow.lt h _ e).2
  omega
theorem own_store {w : World} {B : Nat} {v : Value} {L : List (Int × Int)} (h : Own w B v L) {p : Addr} (hne : v.ownBlock ≠ some p.block) (u : Value) : Own (w.setCell p u) B v L :=
  World.ownsRow.kept (row := some p.block) h ⟨rfl, rfl, rfl, by simp [World.setCell], fun k hk hn => Below.heap_setCell w p u k (fun e => hn (by rw [e]))⟩ (.inr hne)
theorem gr_store' {a w : World} {g : Nat} (h : a.grownBy w (some g)) {p : Addr} (hp : a.heap.size ≤ p.block) (u : Value) : a.grownBy (w.setCell p u) (some g) := gr_store h (.inr hp) u
/-- A drawn set. -/
def DrewS (w : World) (b p : Nat) (e : Ending) (w' : World) : Prop := ∃ (v : Value) (L : List (Int × Int)) (q : Nat), L.length ≤ 8 ∧ q ≤ p + 50 ∧ e = .returned v ∧ Rd w' b q ∧ w.grownBy w' (some b) ∧ Own w' w.heap.size v L
set_option maxRecDepth 20000 in
set_option maxHeartbeats 4000000 in
theorem set_draw (b p : Nat) (w : World) (h : Rd w b p) (hp : p ≤ 800000) :
    Calls Tryz.prog 56 #[.pointer (some ⟨b, 0, none⟩)] w (DrewS w b p) := by
  obtain ⟨i0, hi, hq0, hq1, hq2⟩ := info_parts Tryz.infoSpan
  have hbl := h.lt
  have H := Lib.hid (h.below ((Below.refl w.heap.size w).alloc (Nat.le_refl _) (.cells #[] 108)) hbl)
  have HO := Lib.hid (Own.lit w (Nat.le_refl w.heap.size))
  clear h
  go_enter Tryz.func56, Tryz.ntmps56
  go_wp2_with fail
  refine (pick_any b p 3 _ H.out (by omega) (by omega) (by omega)).mono ?_
  rintro e w1 ⟨n0, hn0, rfl, hr, hg⟩
  have HR1 := Lib.hid hr
  have HG1 := Lib.hid (gr_trans (gr_alloc (gr_refl w (some b)) (.cells #[] 108)) hg)
  have HO1 := Lib.hid (HO.out.grown hg hbl)
  clear hr hg
  obtain ⟨n1, hn1⟩ : ∃ n1, 1 + n0 = n1 := ⟨_, rfl⟩
  have E1 : (1 : Int) + (n0 : Int) = (n1 : Int) := by omega
  have hn1' : n1 ≤ 8 := by omega
  clear hn1
  go_wp2_with fail
  refine (pick_any b (p + 1) 16 _ HR1.out (by omega) (by omega) (by omega)).mono ?_
  rintro e w2 ⟨x0, hx0, rfl, hr, hg⟩
  have HR2 := Lib.hid hr
  have HG2 := Lib.hid (gr_trans HG1.out hg)
  have HO2 := Lib.hid (HO1.out.grown hg hbl)
  clear hr hg HR1 HG1 HO1
  by_cases h0 : x0 = 0
  · subst h0
    clear hn1'
    go_wp2_with fail
    refine (pick_any b (p + 1 + 1) 9 _ HR2.out (by omega) (by omega) (by omega)).mono ?_
    rintro e w3 ⟨n2, hn2, rfl, hr, hg⟩
    have HR3 := Lib.hid hr
    have HG3 := Lib.hid (gr_trans HG2.out hg)
    have HO3 := Lib.hid (HO2.out.grown hg hbl)
    clear hr hg HR2 HG2 HO2
    have HR2 := HR3
    have HG2 := HG3
    have HO2 := HO3
    clear HR3 HG3 HO3
    go_wp2
    go_loopw [3, 5] (fun v i wr => ∃ (q : Nat) (L : List (Int × Int)), L.length ≤ n2 ∧ i = .int .i64 (L.length : Int) ∧ q ≤ p + 3 + 5 * L.length ∧ Hid (Rd wr b q) ∧ Hid (w.grownBy wr (some b)) ∧ Hid (Own wr w.heap.size v L)) (fun _ i _ => n2 - (intOf i).toNat)
    case atStart => exact ⟨_, [], Nat.zero_le _, by go_num, by simp only [List.length_nil]; omega, HR2, HG2, HO2⟩
    case round =>
      obtain ⟨q, L, hk, rfl, hq, HR, HG, HO⟩ := hrel
      by_cases hlt : L.length < n2
      · have i1 : (L.length : Int) < (n2 : Int) := by omega
        go_wp2_with fail
        refine (number_draw b q _ HR.out (by omega)).mono ?_
        rintro e wa ⟨x, qa, hx1, hx2, hqa, rfl, hr, hg⟩
        have HRa := Lib.hid hr
        have HGa := Lib.hid (gr_trans HG.out hg)
        have HOa := Lib.hid (HO.out.grown hg hbl)
        have hza := HGa.out.size
        have hla := hr.lt
        clear hr hg HR HG HO
        go_wp2_with fail
        refine (pick_any b qa 2 _ (HRa.out.below ((Below.refl wa.heap.size wa).alloc (Nat.le_refl _) (.cells #[.int .i64 x, .int .i64 x] 108)) HRa.out.lt) (by omega) (by omega) (by omega)).mono ?_
        rintro e wb ⟨y, hy, rfl, hr, hg⟩
        have HW := Lib.hid ((Whole.made wa 108 #[.int .i64 x, .int .i64 x]).grown hg (by simp; omega))
        have HRb := Lib.hid hr
        have HGb := Lib.hid (gr_trans (gr_alloc HGa.out _) hg)
        have HNE := Lib.hid (own_ne HOa.out)
        have HOb := Lib.hid ((HOa.out.alloc (.cells #[.int .i64 x, .int .i64 x] 108)).grown hg hbl)
        clear hr hg HRa HOa
        have hml : L.length + 1 ≤ maxLen := by unfold maxLen; omega
        have hby : (L.length + 1) * 16 ≤ 140737488355328 := by omega
        by_cases hy0 : y = 0
        · subst hy0
          go_wp2_with fail
          refine (number_draw b (qa + 1) _ HRb.out (by omega)).mono ?_
          rintro e wc ⟨z, qc, hz1, hz2, hqc, rfl, hr, hg⟩
          have hW := HW.out.grown hg (by simp; omega)
          have hc0 : wc.cell? ⟨wa.heap.size, 0, none⟩ = some (.int .i64 x) := hW.cell 0
          have hc1 : wc.cell? ⟨wa.heap.size, 1, none⟩ = some (.int .i64 x) := hW.cell 1
          have hf1 := hW.free 1
          have HRc := Lib.hid (show Rd (wc.setCell ⟨wa.heap.size, 1, none⟩ (.int .i64 z)) b qc from hr.below ((Below.refl (b + 1) wc).setCell (p := ⟨wa.heap.size, 1, none⟩) (by simp; omega) _) (Nat.lt_succ_self b))
          have HGc := Lib.hid (gr_store' (gr_trans HGb.out hg) (p := ⟨wa.heap.size, 1, none⟩) (by simp; omega) (.int .i64 z))
          have HOc := Lib.hid (own_store (HOb.out.grown hg hbl) (p := ⟨wa.heap.size, 1, none⟩) HNE.out (.int .i64 z))
          clear hr hg hW HRb HGb HOb HW HNE
          have hown := HOc.out.alloc (.cells #[.int .i64 x, .int .i64 z] 108)
          have hnews := two_new' (wc.setCell ⟨wa.heap.size, 1, none⟩ (.int .i64 z)) (.int .i64 x) (.int .i64 z) 108 wc.heap.size (by simp [World.setCell])
          have hba : w.heap.size ≤ ((wc.setCell ⟨wa.heap.size, 1, none⟩ (.int .i64 z)).alloc (.cells #[.int .i64 x, .int .i64 z] 108)).heap.size := by have := HGc.out.size; simp at this ⊢; omega
          go_wp2_with (at_builtin; refine wpList_append_own _ rfl _ _ 24 rfl w.heap.size 108 i0 (.agg #[.int .i64 0, .int .i64 0]) 2 16 Tryz.underlying24 hi hq0 hq1 hq2 rfl (by decide) _ _ _ rfl (hown.row rfl) _ 1 1 [.int .i64 x, .int .i64 z] rfl rfl hnews (two_one _ _) hml hby hba ?_)
          intro v' wd hown2 hgrow _
          have hrow : ∀ g, Value.ownBlock _ = some g → w.heap.size ≤ g := fun g e => (World.ownsRow.lt hown g e).1
          have HGd := Lib.hid (sgrow_own (gr_alloc HGc.out _) hgrow hrow)
          have HRd := Lib.hid ((HRc.out.below ((Below.refl _ _).alloc (Nat.le_refl _) _) HRc.out.lt).keptRow hgrow (fun g e => by have := hrow g e; omega))
          have HOd := Lib.hid (Own.push hown2 rfl)
          clear hown hnews hba hown2 hgrow hrow hml hby
          go_wp2
          go_roundw
          case rel => exact ⟨qc, L ++ [(x, z)], by rw [List.length_append, List.length_singleton]; omega, by rw [List.length_append, List.length_singleton]; go_num, by rw [List.length_append, List.length_singleton]; omega, HRd, HGd, HOd⟩
          case measure => simp [intOf]; omega
        · have hy0' : ((y : Int) == 0) = false := beq_eq_false_iff_ne.2 (by omega)
          have hc0 : wb.cell? ⟨wa.heap.size, 0, none⟩ = some (.int .i64 x) := HW.out.cell 0
          have hc1 : wb.cell? ⟨wa.heap.size, 1, none⟩ = some (.int .i64 x) := HW.out.cell 1
          clear hy0 HW HNE
          have hown := HOb.out.alloc (.cells #[.int .i64 x, .int .i64 x] 108)
          have hnews := two_new' wb (.int .i64 x) (.int .i64 x) 108 wb.heap.size rfl
          have hba : w.heap.size ≤ (wb.alloc (.cells #[.int .i64 x, .int .i64 x] 108)).heap.size := by have := HGb.out.size; simp at this ⊢; omega
          go_wp2_with (at_builtin; refine wpList_append_own _ rfl _ _ 24 rfl w.heap.size 108 i0 (.agg #[.int .i64 0, .int .i64 0]) 2 16 Tryz.underlying24 hi hq0 hq1 hq2 rfl (by decide) _ _ _ rfl (hown.row rfl) _ 1 1 [.int .i64 x, .int .i64 x] rfl rfl hnews (two_one _ _) hml hby hba ?_)
          intro v' wd hown2 hgrow _
          have hrow : ∀ g, Value.ownBlock _ = some g → w.heap.size ≤ g := fun g e => (World.ownsRow.lt hown g e).1
          have HGd := Lib.hid (sgrow_own (gr_alloc HGb.out _) hgrow hrow)
          have HRd := Lib.hid ((HRb.out.below ((Below.refl _ _).alloc (Nat.le_refl _) _) HRb.out.lt).keptRow hgrow (fun g e => by have := hrow g e; omega))
          have HOd := Lib.hid (Own.push hown2 rfl)
          clear hown hnews hba hown2 hgrow hrow hml hby
          go_wp2
          go_roundw
          case rel => exact ⟨(qa + 1), L ++ [(x, x)], by rw [List.length_append, List.length_singleton]; omega, by rw [List.length_append, List.length_singleton]; go_num, by rw [List.length_append, List.length_singleton]; omega, HRd, HGd, HOd⟩
          case measure => simp [intOf]; omega
      · have i1 : ¬ (L.length : Int) < (n2 : Int) := by omega
        go_wp2
        go_ret
        exact ⟨_, L, q, by omega, by omega, rfl, HR.out, HG.out, HO.out⟩
  · have h0' : ((x0 : Int) == 0) = false := beq_eq_false_iff_ne.2 (by omega)
    clear h0
    go_wp2
    go_loopw [3, 5] (fun v i wr => ∃ (q : Nat) (L : List (Int × Int)), L.length ≤ n1 ∧ i = .int .i64 (L.length : Int) ∧ q ≤ p + 3 + 5 * L.length ∧ Hid (Rd wr b q) ∧ Hid (w.grownBy wr (some b)) ∧ Hid (Own wr w.heap.size v L)) (fun _ i _ => n1 - (intOf i).toNat)
    case atStart => exact ⟨_, [], Nat.zero_le _, by go_num, by simp only [List.length_nil]; omega, HR2, HG2, HO2⟩
    case round =>
      obtain ⟨q, L, hk, rfl, hq, HR, HG, HO⟩ := hrel
      by_cases hlt : L.length < n1
      · have i1 : (L.length : Int) < (n1 : Int) := by omega
        go_wp2_with fail
        refine (number_draw b q _ HR.out (by omega)).mono ?_
        rintro e wa ⟨x, qa, hx1, hx2, hqa, rfl, hr, hg⟩
        have HRa := Lib.hid hr
        have HGa := Lib.hid (gr_trans HG.out hg)
        have HOa := Lib.hid (HO.out.grown hg hbl)
        have hza := HGa.out.size
        have hla := hr.lt
        clear hr hg HR HG HO
        go_wp2_with fail
        refine (pick_any b qa 2 _ (HRa.out.below ((Below.refl wa.heap.size wa).alloc (Nat.le_refl _) (.cells #[.int .i64 x, .int .i64 x] 108)) HRa.out.lt) (by omega) (by omega) (by omega)).mono ?_
        rintro e wb ⟨y, hy, rfl, hr, hg⟩
        have HW := Lib.hid ((Whole.made wa 108 #[.int .i64 x, .int .i64 x]).grown hg (by simp; omega))
        have HRb := Lib.hid hr
        have HGb := Lib.hid (gr_trans (gr_alloc HGa.out _) hg)
        have HNE := Lib.hid (own_ne HOa.out)
        have HOb := Lib.hid ((HOa.out.alloc (.cells #[.int .i64 x, .int .i64 x] 108)).grown hg hbl)
        clear hr hg HRa HOa
        have hml : L.length + 1 ≤ maxLen := by unfold maxLen; omega
        have hby : (L.length + 1) * 16 ≤ 140737488355328 := by omega
        by_cases hy0 : y = 0
        · subst hy0
          go_wp2_with fail
          refine (number_draw b (qa + 1) _ HRb.out (by omega)).mono ?_
          rintro e wc ⟨z, qc, hz1, hz2, hqc, rfl, hr, hg⟩
          have hW := HW.out.grown hg (by simp; omega)
          have hc0 : wc.cell? ⟨wa.heap.size, 0, none⟩ = some (.int .i64 x) := hW.cell 0
          have hc1 : wc.cell? ⟨wa.heap.size, 1, none⟩ = some (.int .i64 x) := hW.cell 1
          have hf1 := hW.free 1
          have HRc := Lib.hid (show Rd (wc.setCell ⟨wa.heap.size, 1, none⟩ (.int .i64 z)) b qc from hr.below ((Below.refl (b + 1) wc).setCell (p := ⟨wa.heap.size, 1, none⟩) (by simp; omega) _) (Nat.lt_succ_self b))
          have HGc := Lib.hid (gr_store' (gr_trans HGb.out hg) (p := ⟨wa.heap.size, 1, none⟩) (by simp; omega) (.int .i64 z))
          have HOc := Lib.hid (own_store (HOb.out.grown hg hbl) (p := ⟨wa.heap.size, 1, none⟩) HNE.out (.int .i64 z))
          clear hr hg hW HRb HGb HOb HW HNE
          have hown := HOc.out.alloc (.cells #[.int .i64 x, .int .i64 z] 108)
          have hnews := two_new' (wc.setCell ⟨wa.heap.size, 1, none⟩ (.int .i64 z)) (.int .i64 x) (.int .i64 z) 108 wc.heap.size (by simp [World.setCell])
          have hba : w.heap.size ≤ ((wc.setCell ⟨wa.heap.size, 1, none⟩ (.int .i64 z)).alloc (.cells #[.int .i64 x, .int .i64 z] 108)).heap.size := by have := HGc.out.size; simp at this ⊢; omega
          go_wp2_with (at_builtin; refine wpList_append_own _ rfl _ _ 24 rfl w.heap.size 108 i0 (.agg #[.int .i64 0, .int .i64 0]) 2 16 Tryz.underlying24 hi hq0 hq1 hq2 rfl (by decide) _ _ _ rfl (hown.row rfl) _ 1 1 [.int .i64 x, .int .i64 z] rfl rfl hnews (two_one _ _) hml hby hba ?_)
          intro v' wd hown2 hgrow _
          have hrow : ∀ g, Value.ownBlock _ = some g → w.heap.size ≤ g := fun g e => (World.ownsRow.lt hown g e).1
          have HGd := Lib.hid (sgrow_own (gr_alloc HGc.out _) hgrow hrow)
          have HRd := Lib.hid ((HRc.out.below ((Below.refl _ _).alloc (Nat.le_refl _) _) HRc.out.lt).keptRow hgrow (fun g e => by have := hrow g e; omega))
          have HOd := Lib.hid (Own.push hown2 rfl)
          clear hown hnews hba hown2 hgrow hrow hml hby
          go_wp2
          go_roundw
          case rel => exact ⟨qc, L ++ [(x, z)], by rw [List.length_append, List.length_singleton]; omega, by rw [List.length_append, List.length_singleton]; go_num, by rw [List.length_append, List.length_singleton]; omega, HRd, HGd, HOd⟩
          case measure => simp [intOf]; omega
        · have hy0' : ((y : Int) == 0) = false := beq_eq_false_iff_ne.2 (by omega)
          have hc0 : wb.cell? ⟨wa.heap.size, 0, none⟩ = some (.int .i64 x) := HW.out.cell 0
          have hc1 : wb.cell? ⟨wa.heap.size, 1, none⟩ = some (.int .i64 x) := HW.out.cell 1
          clear hy0 HW HNE
          have hown := HOb.out.alloc (.cells #[.int .i64 x, .int .i64 x] 108)
          have hnews := two_new' wb (.int .i64 x) (.int .i64 x) 108 wb.heap.size rfl
          have hba : w.heap.size ≤ (wb.alloc (.cells #[.int .i64 x, .int .i64 x] 108)).heap.size := by have := HGb.out.size; simp at this ⊢; omega
          go_wp2_with (at_builtin; refine wpList_append_own _ rfl _ _ 24 rfl w.heap.size 108 i0 (.agg #[.int .i64 0, .int .i64 0]) 2 16 Tryz.underlying24 hi hq0 hq1 hq2 rfl (by decide) _ _ _ rfl (hown.row rfl) _ 1 1 [.int .i64 x, .int .i64 x] rfl rfl hnews (two_one _ _) hml hby hba ?_)
          intro v' wd hown2 hgrow _
          have hrow : ∀ g, Value.ownBlock _ = some g → w.heap.size ≤ g := fun g e => (World.ownsRow.lt hown g e).1
          have HGd := Lib.hid (sgrow_own (gr_alloc HGb.out _) hgrow hrow)
          have HRd := Lib.hid ((HRb.out.below ((Below.refl _ _).alloc (Nat.le_refl _) _) HRb.out.lt).keptRow hgrow (fun g e => by have := hrow g e; omega))
          have HOd := Lib.hid (Own.push hown2 rfl)
          clear hown hnews hba hown2 hgrow hrow hml hby
          go_wp2
          go_roundw
          case rel => exact ⟨(qa + 1), L ++ [(x, x)], by rw [List.length_append, List.length_singleton]; omega, by rw [List.length_append, List.length_singleton]; go_num, by rw [List.length_append, List.length_singleton]; omega, HRd, HGd, HOd⟩
          case measure => simp [intOf]; omega
      · have i1 : ¬ (L.length : Int) < (n1 : Int) := by omega
        go_wp2
        go_ret
        exact ⟨_, L, q, by omega, by omega, rfl, HR.out, HG.out, HO.out⟩
end Go.Proofs.YtnfigpknejmkmaaGreatDoor
