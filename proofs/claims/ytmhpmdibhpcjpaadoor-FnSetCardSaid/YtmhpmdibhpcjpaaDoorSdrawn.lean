/-
  The contracts of DrawSetValid, DrawSetText, DrawSetParse and DrawSetNumbers. Condition: the code can be read.
-/
import Derived.Test.YtmhpmdibhpcjpaaDoorSdraw
namespace Go.Proofs.YtmhpmdibhpcjpaaDoor
open Go.RowKit
set_option linter.unusedVariables false

/-- A drawn set in new memory. -/
def DrewSet (w : World) (e : Ending) (w' : World) : Prop := ∃ (A : Option Addr) (cap : Nat) (L : List (Int × Int)), L.length ≤ 8 ∧ e = .returned (.slice A L.length cap) ∧ L.length ≤ cap ∧ cap ≤ maxLen ∧ SpA w' A L ∧ Below w.heap.size w w'
theorem drewSet_mk {w w' : World} {B : Nat} {v : Value} {L : List (Int × Int)} (hl : L.length ≤ 8) (h : Own w' B v L) (hb : Below w.heap.size w w') : DrewSet w (.returned v) w' := by
  obtain ⟨A, cap, rfl, h1, h2, h3⟩ := h.form
  exact ⟨A, cap, L, hl, rfl, h1, h2, h3, hb⟩
set_option maxHeartbeats 1000000 in
theorem draw_settext (A : Option Addr) (len cap : Nat) (w : World) (h : Coded w A len cap) :
    Calls Tryd.prog 11 #[.slice A len cap] w (DrewSet w) := by
  have HK := Lib.hid h.2.2
  have hk1 := h.1
  have hk2 := h.2.1
  clear h
  go_enter Tryd.func11, Tryd.ntmps11
  go_wp2_with fail
  refine (open_any A len cap _ hk1 hk2 HK.out).mono ?_
  rintro e w1 ⟨rfl, hr, hb, hz⟩
  have HR := Lib.hid hr
  have HB := Lib.hid hb
  clear hr hb
  go_wp2_with fail
  refine (set_draw w.heap.size 0 w1 HR.out (by omega)).mono ?_
  rintro e w2 ⟨v, L, q, hL, hq, rfl, hr, hg, ho⟩
  have HG := Lib.hid hg
  have HO := Lib.hid ho
  clear hr hg ho
  go_wp2_with fail
  go_ret
  exact drewSet_mk hL HO.out (below_gr HB.out HG.out (by omega) (Nat.le_refl _))
theorem textB_len {L : List (Int × Int)} : (textB L).length ≤ 36 := by
  by_cases h : setB L = true
  · rw [textB_yes h]
    have h1 := joinW_len (dn L)
    have h2 := (setB_iff.1 h).2.2
    rw [dn_len] at h1
    omega
  · rw [textB_no (Bool.eq_false_iff.2 h)]
    simp
set_option maxRecDepth 20000 in
set_option maxHeartbeats 2000000 in
theorem draw_setparse (A : Option Addr) (len cap : Nat) (w : World) (h : Coded w A len cap) :
    Calls Tryd.prog 6 #[.slice A len cap] w (DrewText w) := by
  have HK := Lib.hid h.2.2
  have hk1 := h.1
  have hk2 := h.2.1
  clear h
  go_enter Tryd.func6, Tryd.ntmps6
  go_wp2_with fail
  refine (open_any A len cap _ hk1 hk2 HK.out).mono ?_
  rintro e w1 ⟨rfl, hr, hb, hz⟩
  have HR := Lib.hid hr
  have HB := Lib.hid hb
  clear hr hb
  obtain ⟨b, hbq⟩ : ∃ b, w.heap.size = b := ⟨_, rfl⟩
  have HBQ := Lib.hid hbq
  rw [hbq] at HR HB hz ⊢
  clear hbq
  go_wp2_with fail
  refine (set_draw b 0 w1 HR.out (by omega)).mono ?_
  rintro e w2 ⟨v, L, q, hL, hq, rfl, hr, hg, ho⟩
  obtain ⟨A2, cap2, rfl, hc1, hc2, hsp⟩ := ho.form
  have HR2 := Lib.hid hr
  have HG2 := Lib.hid hg
  have HSP := Lib.hid hsp
  clear hr hg ho hsp
  go_wp2_with fail
  refine (spec_settext A2 cap2 L _ HSP.out (by omega)).mono ?_
  rintro e w3 ⟨T, hT, rfl, hb3⟩
  have hTs : T.size ≤ 36 := by
    have h1 := textB_len (L := L)
    rw [← hT] at h1
    simpa using h1
  have HR3 := Lib.hid (HR2.out.below hb3 HR2.out.lt)
  have HG3 := Lib.hid (gr_trans HG2.out (gr_below hb3 _))
  clear hb3 hT
  go_wp2_with fail
  refine (pick_any b q 8 w3 HR3.out (by omega) (by omega) (by omega)).mono ?_
  rintro e w4 ⟨x, hx, rfl, hr, hg⟩
  have HR4 := Lib.hid hr
  have HG4 := Lib.hid (gr_trans HG3.out hg)
  clear hr hg
  by_cases h0 : x = 0
  · subst h0
    go_wp2_with fail
    refine (of_new b (q + 1) [[], [44], [49, 44], [49, 58], [49, 58, 50, 58, 51], [48, 49], [49, 48, 48], [97], [42, 58, 42], [49, 32, 50], [48], [55, 58, 55]] w4 HR4.out (by omega) (by decide) (by decide)).mono ?_
    rintro e w5 ⟨l, hl, rfl, hr, hg⟩
    have HG5 := Lib.hid (gr_trans HG4.out hg)
    have HL := Lib.hid hl
    clear hr hg hl
    unfold str
    go_wp2_with fail
    go_ret
    exact ⟨_, Nat.le_trans (text_le (by decide) HL.out) (by omega), rfl, HBQ.out ▸ below_gr HB.out HG5.out (by omega) (Nat.le_refl _)⟩
  · have h0' : ((x : Int) == 0) = false := beq_eq_false_iff_ne.2 (by omega)
    by_cases h1 : x = 1
    · subst h1
      go_wp2_with fail
      refine (of_new b (q + 1) [[44, 53], [58, 53], [44], [42]] w4 HR4.out (by omega) (by decide) (by decide)).mono ?_
      rintro e w5 ⟨l, hl, rfl, hr, hg⟩
      have HG5 := Lib.hid (gr_trans HG4.out hg)
      have hlz : (⟨l.toArray⟩ : ByteArray).size ≤ 30 := text_le (by decide) hl
      clear hr hg hl
      unfold str
      obtain ⟨u, hu⟩ : ∃ u : ByteArray, (⟨l.toArray⟩ : ByteArray) = u := ⟨_, rfl⟩
      rw [hu] at hlz ⊢
      clear hu
      go_wp2_with fail
      go_ret
      exact ⟨_, by rw [ByteArray.size_append]; omega, rfl, HBQ.out ▸ below_gr HB.out HG5.out (by omega) (Nat.le_refl _)⟩
    · have h1' : ((x : Int) == 1) = false := beq_eq_false_iff_ne.2 (by omega)
      go_wp2_with fail
      go_ret
      exact ⟨T, by omega, rfl, HBQ.out ▸ below_gr HB.out HG4.out (by omega) (Nat.le_refl _)⟩
/-- A drawn set and a last number. -/
def DrewNums (w : World) (e : Ending) (w' : World) : Prop := ∃ (A : Option Addr) (cap : Nat) (L : List (Int × Int)) (last : Int), L.length ≤ 8 ∧ e = .returned (.tuple #[.slice A L.length cap, .int .i64 last]) ∧ L.length ≤ cap ∧ cap ≤ maxLen ∧ -1 ≤ last ∧ last ≤ 100 ∧ SpA w' A L ∧ Below w.heap.size w w'
theorem four_at {y : Nat} (h : y < 4) : ∃ z : Int, -1 ≤ z ∧ z ≤ 100 ∧ (#[Value.int .i64 (-1), .int .i64 0, .int .i64 99, .int .i64 100] : Array Value)[y]? = some (.int .i64 z) := by
  match y, h with
  | 0, _ => exact ⟨-1, by omega, by omega, rfl⟩
  | 1, _ => exact ⟨0, by omega, by omega, rfl⟩
  | 2, _ => exact ⟨99, by omega, by omega, rfl⟩
  | 3, _ => exact ⟨100, by omega, by omega, rfl⟩
theorem spa_gr {w w' : World} {A : Option Addr} {L : List (Int × Int)} {b : Nat} (hO : ∃ B v, Own w B v L ∧ b < B ∧ ∃ cap, v = .slice A L.length cap) (hg : w.grownBy w' (some b)) : SpA w' A L := by
  obtain ⟨B, v, h, hb, cap, rfl⟩ := hO
  obtain ⟨A', cap', he, _, _, hs⟩ := (h.grown hg hb).form
  cases he
  exact hs
theorem nums_cell {w w' : World} {b y : Nat} {z : Value} {cs : Array Value} (hb : b < w.heap.size) (hg : (w.alloc (.cells cs 3)).drew.grownBy w' (some b)) (hz : cs[y]? = some z) : w'.cell? ⟨w.heap.size, y, none⟩ = some z := by
  have h1 : Whole (w.alloc (.cells cs 3)).drew w.heap.size 3 cs := Whole.made w 3 cs
  exact ((h1.grown hg (by simp; omega)).cell y).trans hz
end Go.Proofs.YtmhpmdibhpcjpaaDoor
