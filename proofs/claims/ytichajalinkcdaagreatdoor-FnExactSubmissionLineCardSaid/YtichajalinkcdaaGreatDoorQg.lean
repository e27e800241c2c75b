/-
  My texts Ti in one, so that a claim holds fewer files. Conditions: each contract's own.
-/
import Derived.Test.YtichajalinkcdaaGreatDoorQf
namespace Go.Proofs.YtichajalinkcdaaGreatDoor
open Go.RowKit
set_option linter.unusedVariables false


theorem apart4 {w : World} {b R : Nat} {t : TypeId} {cs : Array Value} (h : Whole w b t cs) (hne : b ≠ R) (a0 a1 a2 a3 : Value) : Whole ((((w.setCell ⟨R, 0, none⟩ a0).setCell ⟨R, 1, none⟩ a1).setCell ⟨R, 2, none⟩ a2).setCell ⟨R, 3, none⟩ a3) b t cs := (((h.apart (p := ⟨R, 0, none⟩) hne _).apart (p := ⟨R, 1, none⟩) hne _).apart (p := ⟨R, 2, none⟩) hne _).apart (p := ⟨R, 3, none⟩) hne _
theorem at_world {P : Program} {C : Prop} {inst : Decidable C} {o : Oper} {a : Act} {K : Act → World → Prop} {Q : Exit → Act → World → Prop} {E : Prop} (w : World) (h : if C then Oper.wp P o a w K Q else E) : if C then Oper.wp P o a w K Q else E := h
theorem own_blk {α : Type} {R : RowT α} {w : World} {B N cap : Nat} {A : Option Addr} {L : List α} (h : ROwn R w B (.slice A N cap) L) : ∀ q, A = some q → B ≤ q.block ∧ q.block < w.heap.size := by
  intro q e
  subst e
  rcases h.2 with ⟨he, _⟩ | ⟨g, c, cur, he, _⟩
  · cases he
  · cases he
    exact World.ownsRow.lt h g rfl
theorem ptU_size (b l : ByteArray) (h : l.size ≤ 16777216) : (ptU b l).size ≤ 16777216 := by
  unfold ptU
  split
  · rw [bs_size]
    have h1 := (q_le (tlB b l)).1
    have h2 : (tlB b l).length ≤ l.size := by unfold tlB; rw [List.length_drop, kb_len]; omega
    omega
  · decide

set_option maxRecDepth 20000 in
set_option maxHeartbeats 8000000 in
theorem spec_to (st : Int) (us tx d l : ByteArray) (T : List ByteArray) (L : List Us) (A AU : Option Addr) (N cap NU cU : Nat) (w : World) (h : SIn w A N cap T) (hL : UIn w AU NU cU L) (hl : l.size ≤ 2097152) (hT : T.length ≤ 10) : Calls Tryz.prog 88 #[.agg #[.int .i64 st, .string us, .slice A N cap, .string tx], .slice AU NU cU, .string d, .string l] w (GiveS w A (rcptF ⟨st, us, T, tx⟩ L d l)) := by
  have HLL := Lib.hid (hL.below (two_made w #[.int .i64 st, .string us, .slice A N cap, .string tx] #[.int .i64 0, .string ⟨#[]⟩, .slice none 0 0, .string ⟨#[]⟩]).2.2 (Nat.le_refl _))
  clear hL
  have HI := Lib.hid h
  obtain ⟨hs, hr, hB⟩ := two_made w #[.int .i64 st, .string us, .slice A N cap, .string tx] #[.int .i64 0, .string ⟨#[]⟩, .slice none 0 0, .string ⟨#[]⟩]
  have c0 := hs.cell 0
  have c1 := hs.cell 1
  have c2 := hs.cell 2
  have c3 := hs.cell 3
  have z0 := hr.cell 0
  have z1 := hr.cell 1
  have z2 := hr.cell 2
  have z3 := hr.cell 3
  have f0 := hr.free 0
  have f1 := hr.free 1
  have f2 := hr.free 2
  have f3 := hr.free 3
  simp only [List.getElem?_toArray, List.getElem?_cons_zero, List.getElem?_cons_succ] at c0 c1 c2 c3 z0 z1 z2 z3
  have HS := Lib.hid hs
  have HR := Lib.hid hr
  have HB := Lib.hid hB
  clear h hs hr hB
  have hne : ∀ q, A = some q → q.block ≠ w.heap.size + 1 := fun q e => by have := HI.out.lt q e; omega
  have HNE := Lib.hid hne
  clear hne
  obtain ⟨ok, ho⟩ : ∃ x, ptO bRCPT l = x := ⟨_, rfl⟩
  obtain ⟨u, hu⟩ : ∃ x, ptU bRCPT l = x := ⟨_, rfl⟩
  obtain ⟨v, hv⟩ : ∃ x, ptD bRCPT l = x := ⟨_, rfl⟩
  have HC := Lib.hid (spec_lpath ho hu hv ((w.alloc (.cells #[.int .i64 st, .string us, .slice A N cap, .string tx] 25)).alloc (.cells #[.int .i64 0, .string ⟨#[]⟩, .slice none 0 0, .string ⟨#[]⟩] 25)) (by omega) (by decide))
  unfold bRCPT at HC
  have HO := Lib.hid ho
  have HU := Lib.hid hu
  have HV := Lib.hid hv
  have HUS : Hid (u.size ≤ 16777216) := Lib.hid (by rw [← hu]; exact ptU_size bRCPT l (by omega))
  clear ho hu hv
  by_cases h34 : st = 3 ∨ st = 4
  ·
    have t3 : (st != 3) = false ∨ (st != 3) = true ∧ (st != 4) = false := by
      rcases h34 with h | h
      · left; rw [h]; rfl
      · right; rw [h]; exact ⟨rfl, rfl⟩
    cases ok with
    | false =>
      have HE : Hid (rcptF ⟨st, us, T, tx⟩ L d l = (⟨st, us, T, tx⟩, 501)) := Lib.hid (by unfold rcptF; rw [if_neg (show ¬ (st ≠ 3 ∧ st ≠ 4) by omega), if_pos HO.out])
      clear h34
      rcases t3 with t3 | ⟨t3, t4⟩
      ·
        go_enter Tryz.func88, Tryz.ntmps88
        go_wp2_with fail
        refine HC.out.mono ?_
        rintro e w2 ⟨rfl, hb2⟩
        have HS2 := Lib.hid (HS.out.below hb2 HS.out.lt)
        have HR2 := Lib.hid (HR.out.below hb2 HR.out.lt)
        have HB2 := Lib.hid (HB.out.trans (hb2.mono HB.out.size))
        have HL2 := Lib.hid (HLL.out.below hb2 (Nat.le_refl _))
        have HZ2 : Hid (w.heap.size + 1 < w2.heap.size) := Lib.hid HR2.out.lt
        clear hb2 c0 c1 c2 c3 z0 z1 z2 z3 f0 f1 f2 f3 HC
        have hs := HS2.out.alloc (.cells #[.string u, .string v] 112)
        have hr := HR2.out.alloc (.cells #[.string u, .string v] 112)
        have ha := Whole.made w2 112 #[.string u, .string v]
        have a0 := ha.cell 0
        have a1 := ha.cell 1
        simp only [List.getElem?_toArray, List.getElem?_cons_zero, List.getElem?_cons_succ] at a0 a1
        have HB3 := Lib.hid (HB2.out.alloc HB2.out.size (.cells #[.string u, .string v] 112))
        have c0 := hs.cell 0
        have c1 := hs.cell 1
        have c2 := hs.cell 2
        have c3 := hs.cell 3
        have z0 := hr.cell 0
        have z1 := hr.cell 1
        have z2 := hr.cell 2
        have z3 := hr.cell 3
        have f0 := hr.free 0
        have f1 := hr.free 1
        have f2 := hr.free 2
        have f3 := hr.free 3
        simp only [List.getElem?_toArray, List.getElem?_cons_zero, List.getElem?_cons_succ] at c0 c1 c2 c3 z0 z1 z2 z3
        clear hs
        have hf := put_sb hr (.int .i64 st) (.string us) (.slice A N cap) (.string tx)
        have r0 := hf.cell 0
        have r1 := hf.cell 1
        have r2 := hf.cell 2
        have r3 := hf.cell 3
        simp only [List.getElem?_toArray, List.getElem?_cons_zero, List.getElem?_cons_succ] at r0 r1 r2 r3
        clear hf ha hr
        go_wp2
        refine bodyPost_ret (v := .tuple #[.agg #[.int .i64 st, .string us, .slice A N cap, .string tx], .int .i64 501]) (by simp [results, Tryz.results88, go_sem, r0, r1, r2, r3]) rfl ?_
        rw [HE.out]
        exact ⟨_, _, _, rfl, (HI.out.below HB3.out (Nat.le_refl _)).set4 HNE.out _ _ _ _, Fr.same _ _, below_set4 HB3.out (by omega) _ _ _ _⟩
      ·
        go_enter Tryz.func88, Tryz.ntmps88
        go_wp2_with fail
        refine HC.out.mono ?_
        rintro e w2 ⟨rfl, hb2⟩
        have HS2 := Lib.hid (HS.out.below hb2 HS.out.lt)
        have HR2 := Lib.hid (HR.out.below hb2 HR.out.lt)
        have HB2 := Lib.hid (HB.out.trans (hb2.mono HB.out.size))
        have HL2 := Lib.hid (HLL.out.below hb2 (Nat.le_refl _))
        have HZ2 : Hid (w.heap.size + 1 < w2.heap.size) := Lib.hid HR2.out.lt
        clear hb2 c0 c1 c2 c3 z0 z1 z2 z3 f0 f1 f2 f3 HC
        have hs := HS2.out.alloc (.cells #[.string u, .string v] 112)
        have hr := HR2.out.alloc (.cells #[.string u, .string v] 112)
        have ha := Whole.made w2 112 #[.string u, .string v]
        have a0 := ha.cell 0
        have a1 := ha.cell 1
        simp only [List.getElem?_toArray, List.getElem?_cons_zero, List.getElem?_cons_succ] at a0 a1
        have HB3 := Lib.hid (HB2.out.alloc HB2.out.size (.cells #[.string u, .string v] 112))
        have c0 := hs.cell 0
        have c1 := hs.cell 1
        have c2 := hs.cell 2
        have c3 := hs.cell 3
        have z0 := hr.cell 0
        have z1 := hr.cell 1
        have z2 := hr.cell 2
        have z3 := hr.cell 3
        have f0 := hr.free 0
        have f1 := hr.free 1
        have f2 := hr.free 2
        have f3 := hr.free 3
        simp only [List.getElem?_toArray, List.getElem?_cons_zero, List.getElem?_cons_succ] at c0 c1 c2 c3 z0 z1 z2 z3
        clear hs
        have hf := put_sb hr (.int .i64 st) (.string us) (.slice A N cap) (.string tx)
        have r0 := hf.cell 0
        have r1 := hf.cell 1
        have r2 := hf.cell 2
        have r3 := hf.cell 3
        simp only [List.getElem?_toArray, List.getElem?_cons_zero, List.getElem?_cons_succ] at r0 r1 r2 r3
        clear hf ha hr
        go_wp2
        refine bodyPost_ret (v := .tuple #[.agg #[.int .i64 st, .string us, .slice A N cap, .string tx], .int .i64 501]) (by simp [results, Tryz.results88, go_sem, r0, r1, r2, r3]) rfl ?_
        rw [HE.out]
        exact ⟨_, _, _, rfl, (HI.out.below HB3.out (Nat.le_refl _)).set4 HNE.out _ _ _ _, Fr.same _ _, below_set4 HB3.out (by omega) _ _ _ _⟩
    | true =>
      by_cases hv : v = d
      ·
        subst hv
        rcases ixG_case L u 0 with ⟨hf, hi⟩ | ⟨j, y, _, hf, hi⟩
        ·
          have HF := Lib.hid hi
          have HE : Hid (rcptF ⟨st, us, T, tx⟩ L v l = (⟨st, us, T, tx⟩, 550)) := Lib.hid (by unfold rcptF; rw [if_neg (show ¬ (st ≠ 3 ∧ st ≠ 4) by omega), if_neg (by rw [HO.out]; simp), if_neg (by rw [HU.out, hf]; simp)])
          clear h34 hf hi
          rcases t3 with t3 | ⟨t3, t4⟩
          ·
            go_enter Tryz.func88, Tryz.ntmps88
            go_wp2_with fail
            refine HC.out.mono ?_
            rintro e w2 ⟨rfl, hb2⟩
            have HS2 := Lib.hid (HS.out.below hb2 HS.out.lt)
            have HR2 := Lib.hid (HR.out.below hb2 HR.out.lt)
            have HB2 := Lib.hid (HB.out.trans (hb2.mono HB.out.size))
            have HL2 := Lib.hid (HLL.out.below hb2 (Nat.le_refl _))
            have HZ2 : Hid (w.heap.size + 1 < w2.heap.size) := Lib.hid HR2.out.lt
            clear hb2 c0 c1 c2 c3 z0 z1 z2 z3 f0 f1 f2 f3 HC
            have HC3 := Lib.hid (rfl : w2.heap.size = w2.heap.size)
            obtain ⟨D, hD⟩ : ∃ D, w2.heap.size = D := ⟨_, rfl⟩
            obtain ⟨w3, hw3⟩ : ∃ w3, w2.alloc (.cells #[.string u, .string v] 112) = w3 := ⟨_, rfl⟩
            have hn3 : Below w2.heap.size w2 w3 := by rw [← hw3]; exact (Below.refl _ _).alloc (Nat.le_refl _) _
            have HS3 := Lib.hid (HS2.out.below hn3 HS2.out.lt)
            have HR3 := Lib.hid (HR2.out.below hn3 HR2.out.lt)
            have HB3 := Lib.hid (HB2.out.trans (hn3.mono HB2.out.size))
            have HL3 := Lib.hid (HL2.out.below hn3 (Nat.le_refl _))
            have HI3 := Lib.hid (HI.out.below HB3.out (Nat.le_refl _))
            have HA3 := Lib.hid (show Whole w3 D 112 #[.string u, .string v] by rw [← hw3, ← hD]; exact Whole.made _ _ _)
            have HD3 : Hid (w.heap.size + 1 < D) := Lib.hid (by rw [← hD]; exact HZ2.out)
            have HW3 := Lib.hid hw3
            have HDD := Lib.hid hD
            have xs := HS2.out.alloc (.cells #[.string u, .string v] 112)
            have xa := Whole.made w2 112 #[.string u, .string v]
            have c0 := xs.cell 0
            have c1 := xs.cell 1
            have c2 := xs.cell 2
            have c3 := xs.cell 3
            have a0 := xa.cell 0
            have a1 := xa.cell 1
            simp only [List.getElem?_toArray, List.getElem?_cons_zero, List.getElem?_cons_succ] at c0 c1 c2 c3 a0 a1
            clear xs xa hw3 hn3 hD
            go_wp2_with fail
            rw [HW3.out, HDD.out]
            refine (spec_l14 HF.out _ HL3.out).mono ?_
            rintro e w4 ⟨rfl, hw⟩
            subst hw
            have xs := HS3.out
            have xa := HA3.out
            have c0 := xs.cell 0
            have c1 := xs.cell 1
            have c2 := xs.cell 2
            have c3 := xs.cell 3
            have a0 := xa.cell 0
            have a1 := xa.cell 1
            simp only [List.getElem?_toArray, List.getElem?_cons_zero, List.getElem?_cons_succ] at c0 c1 c2 c3 a0 a1
            clear xs xa
            have hs := HS3.out
            have hr := HR3.out
            have c0 := hs.cell 0
            have c1 := hs.cell 1
            have c2 := hs.cell 2
            have c3 := hs.cell 3
            have z0 := hr.cell 0
            have z1 := hr.cell 1
            have z2 := hr.cell 2
            have z3 := hr.cell 3
            have f0 := hr.free 0
            have f1 := hr.free 1
            have f2 := hr.free 2
            have f3 := hr.free 3
            simp only [List.getElem?_toArray, List.getElem?_cons_zero, List.getElem?_cons_succ] at c0 c1 c2 c3 z0 z1 z2 z3
            have hf := put_sb hr (.int .i64 st) (.string us) (.slice A N cap) (.string tx)
            have r0 := hf.cell 0
            have r1 := hf.cell 1
            have r2 := hf.cell 2
            have r3 := hf.cell 3
            simp only [List.getElem?_toArray, List.getElem?_cons_zero, List.getElem?_cons_succ] at r0 r1 r2 r3
            clear hs hr hf
            go_wp2
            refine bodyPost_ret (v := .tuple #[.agg #[.int .i64 st, .string us, .slice A N cap, .string tx], .int .i64 550]) (by simp [results, Tryz.results88, go_sem, r0, r1, r2, r3]) rfl ?_
            rw [HE.out]
            exact ⟨_, _, _, rfl, HI3.out.set4 HNE.out _ _ _ _, Fr.same _ _, below_set4 HB3.out (by omega) _ _ _ _⟩
          ·
            go_enter Tryz.func88, Tryz.ntmps88
            go_wp2_with fail
            refine HC.out.mono ?_
            rintro e w2 ⟨rfl, hb2⟩
            have HS2 := Lib.hid (HS.out.below hb2 HS.out.lt)
            have HR2 := Lib.hid (HR.out.below hb2 HR.out.lt)
            have HB2 := Lib.hid (HB.out.trans (hb2.mono HB.out.size))
            have HL2 := Lib.hid (HLL.out.below hb2 (Nat.le_refl _))
            have HZ2 : Hid (w.heap.size + 1 < w2.heap.size) := Lib.hid HR2.out.lt
            clear hb2 c0 c1 c2 c3 z0 z1 z2 z3 f0 f1 f2 f3 HC
            have HC3 := Lib.hid (rfl : w2.heap.size = w2.heap.size)
            obtain ⟨D, hD⟩ : ∃ D, w2.heap.size = D := ⟨_, rfl⟩
            obtain ⟨w3, hw3⟩ : ∃ w3, w2.alloc (.cells #[.string u, .string v] 112) = w3 := ⟨_, rfl⟩
            have hn3 : Below w2.heap.size w2 w3 := by rw [← hw3]; exact (Below.refl _ _).alloc (Nat.le_refl _) _
            have HS3 := Lib.hid (HS2.out.below hn3 HS2.out.lt)
            have HR3 := Lib.hid (HR2.out.below hn3 HR2.out.lt)
            have HB3 := Lib.hid (HB2.out.trans (hn3.mono HB2.out.size))
            have HL3 := Lib.hid (HL2.out.below hn3 (Nat.le_refl _))
            have HI3 := Lib.hid (HI.out.below HB3.out (Nat.le_refl _))
            have HA3 := Lib.hid (show Whole w3 D 112 #[.string u, .string v] by rw [← hw3, ← hD]; exact Whole.made _ _ _)
            have HD3 : Hid (w.heap.size + 1 < D) := Lib.hid (by rw [← hD]; exact HZ2.out)
            have HW3 := Lib.hid hw3
            have HDD := Lib.hid hD
            have xs := HS2.out.alloc (.cells #[.string u, .string v] 112)
            have xa := Whole.made w2 112 #[.string u, .string v]
            have c0 := xs.cell 0
            have c1 := xs.cell 1
            have c2 := xs.cell 2
            have c3 := xs.cell 3
            have a0 := xa.cell 0
            have a1 := xa.cell 1
            simp only [List.getElem?_toArray, List.getElem?_cons_zero, List.getElem?_cons_succ] at c0 c1 c2 c3 a0 a1
            clear xs xa hw3 hn3 hD
            go_wp2_with fail
            rw [HW3.out, HDD.out]
            refine (spec_l14 HF.out _ HL3.out).mono ?_
            rintro e w4 ⟨rfl, hw⟩
            subst hw
            have xs := HS3.out
            have xa := HA3.out
            have c0 := xs.cell 0
            have c1 := xs.cell 1
            have c2 := xs.cell 2
            have c3 := xs.cell 3
            have a0 := xa.cell 0
            have a1 := xa.cell 1
            simp only [List.getElem?_toArray, List.getElem?_cons_zero, List.getElem?_cons_succ] at c0 c1 c2 c3 a0 a1
            clear xs xa
            have hs := HS3.out
            have hr := HR3.out
            have c0 := hs.cell 0
            have c1 := hs.cell 1
            have c2 := hs.cell 2
            have c3 := hs.cell 3
            have z0 := hr.cell 0
            have z1 := hr.cell 1
            have z2 := hr.cell 2
            have z3 := hr.cell 3
            have f0 := hr.free 0
            have f1 := hr.free 1
            have f2 := hr.free 2
            have f3 := hr.free 3
            simp only [List.getElem?_toArray, List.getElem?_cons_zero, List.getElem?_cons_succ] at c0 c1 c2 c3 z0 z1 z2 z3
            have hf := put_sb hr (.int .i64 st) (.string us) (.slice A N cap) (.string tx)
            have r0 := hf.cell 0
            have r1 := hf.cell 1
            have r2 := hf.cell 2
            have r3 := hf.cell 3
            simp only [List.getElem?_toArray, List.getElem?_cons_zero, List.getElem?_cons_succ] at r0 r1 r2 r3
            clear hs hr hf
            go_wp2
            refine bodyPost_ret (v := .tuple #[.agg #[.int .i64 st, .string us, .slice A N cap, .string tx], .int .i64 550]) (by simp [results, Tryz.results88, go_sem, r0, r1, r2, r3]) rfl ?_
            rw [HE.out]
            exact ⟨_, _, _, rfl, HI3.out.set4 HNE.out _ _ _ _, Fr.same _ _, below_set4 HB3.out (by omega) _ _ _ _⟩
        ·
          rw [Nat.zero_add] at hi
          have HF := Lib.hid hi
          have hj : ¬ (j : Int) < 0 := by omega
          have HEB : Hid (rcptF ⟨st, us, T, tx⟩ L v l = if u ∈ T then (⟨st, us, T, tx⟩, 250) else if 3 ≤ T.length then (⟨st, us, T, tx⟩, 452) else (⟨4, us, T ++ [u], eB⟩, 250)) := Lib.hid (by unfold rcptF; rw [if_neg (show ¬ (st ≠ 3 ∧ st ≠ 4) by omega), if_neg (by rw [HO.out]; simp), if_pos ⟨HV.out, by rw [HU.out, hf]; rfl⟩, HU.out])
          clear h34 hf hi
          cases hm : decide (u ∈ T) with
          | true =>
            have HM := Lib.hid hm
            have HE := Lib.hid (HEB.out.trans (if_pos (of_decide_eq_true hm)))
            clear hm
            rcases t3 with t3 | ⟨t3, t4⟩
            ·
              go_enter Tryz.func88, Tryz.ntmps88
              go_wp2_with fail
              refine HC.out.mono ?_
              rintro e w2 ⟨rfl, hb2⟩
              have HS2 := Lib.hid (HS.out.below hb2 HS.out.lt)
              have HR2 := Lib.hid (HR.out.below hb2 HR.out.lt)
              have HB2 := Lib.hid (HB.out.trans (hb2.mono HB.out.size))
              have HL2 := Lib.hid (HLL.out.below hb2 (Nat.le_refl _))
              have HZ2 : Hid (w.heap.size + 1 < w2.heap.size) := Lib.hid HR2.out.lt
              clear hb2 c0 c1 c2 c3 z0 z1 z2 z3 f0 f1 f2 f3 HC
              have HC3 := Lib.hid (rfl : w2.heap.size = w2.heap.size)
              obtain ⟨D, hD⟩ : ∃ D, w2.heap.size = D := ⟨_, rfl⟩
              obtain ⟨w3, hw3⟩ : ∃ w3, w2.alloc (.cells #[.string u, .string v] 112) = w3 := ⟨_, rfl⟩
              have hn3 : Below w2.heap.size w2 w3 := by rw [← hw3]; exact (Below.refl _ _).alloc (Nat.le_refl _) _
              have HS3 := Lib.hid (HS2.out.below hn3 HS2.out.lt)
              have HR3 := Lib.hid (HR2.out.below hn3 HR2.out.lt)
              have HB3 := Lib.hid (HB2.out.trans (hn3.mono HB2.out.size))
              have HL3 := Lib.hid (HL2.out.below hn3 (Nat.le_refl _))
              have HI3 := Lib.hid (HI.out.below HB3.out (Nat.le_refl _))
              have HA3 := Lib.hid (show Whole w3 D 112 #[.string u, .string v] by rw [← hw3, ← hD]; exact Whole.made _ _ _)
              have HD3 : Hid (w.heap.size + 1 < D) := Lib.hid (by rw [← hD]; exact HZ2.out)
              have HW3 := Lib.hid hw3
              have HDD := Lib.hid hD
              have xs := HS2.out.alloc (.cells #[.string u, .string v] 112)
              have xa := Whole.made w2 112 #[.string u, .string v]
              have c0 := xs.cell 0
              have c1 := xs.cell 1
              have c2 := xs.cell 2
              have c3 := xs.cell 3
              have a0 := xa.cell 0
              have a1 := xa.cell 1
              simp only [List.getElem?_toArray, List.getElem?_cons_zero, List.getElem?_cons_succ] at c0 c1 c2 c3 a0 a1
              clear xs xa hw3 hn3 hD
              go_wp2_with fail
              rw [HW3.out, HDD.out]
              refine (spec_l14 HF.out _ HL3.out).mono ?_
              rintro e w4 ⟨rfl, hw⟩
              subst hw
              have xs := HS3.out
              have xa := HA3.out
              have c0 := xs.cell 0
              have c1 := xs.cell 1
              have c2 := xs.cell 2
              have c3 := xs.cell 3
              have a0 := xa.cell 0
              have a1 := xa.cell 1
              simp only [List.getElem?_toArray, List.getElem?_cons_zero, List.getElem?_cons_succ] at c0 c1 c2 c3 a0 a1
              clear xs xa
              go_wp2_with fail
              refine (spec_has HM.out _ HI3.out).mono ?_
              rintro e w5 ⟨rfl, hw⟩
              subst hw
              have hs := HS3.out
              have hr := HR3.out
              have c0 := hs.cell 0
              have c1 := hs.cell 1
              have c2 := hs.cell 2
              have c3 := hs.cell 3
              have z0 := hr.cell 0
              have z1 := hr.cell 1
              have z2 := hr.cell 2
              have z3 := hr.cell 3
              have f0 := hr.free 0
              have f1 := hr.free 1
              have f2 := hr.free 2
              have f3 := hr.free 3
              simp only [List.getElem?_toArray, List.getElem?_cons_zero, List.getElem?_cons_succ] at c0 c1 c2 c3 z0 z1 z2 z3
              have hf := put_sb hr (.int .i64 st) (.string us) (.slice A N cap) (.string tx)
              have r0 := hf.cell 0
              have r1 := hf.cell 1
              have r2 := hf.cell 2
              have r3 := hf.cell 3
              simp only [List.getElem?_toArray, List.getElem?_cons_zero, List.getElem?_cons_succ] at r0 r1 r2 r3
              clear hs hr hf
              go_wp2
              refine bodyPost_ret (v := .tuple #[.agg #[.int .i64 st, .string us, .slice A N cap, .string tx], .int .i64 250]) (by simp [results, Tryz.results88, go_sem, r0, r1, r2, r3]) rfl ?_
              rw [HE.out]
              exact ⟨_, _, _, rfl, HI3.out.set4 HNE.out _ _ _ _, Fr.same _ _, below_set4 HB3.out (by omega) _ _ _ _⟩
            ·
              go_enter Tryz.func88, Tryz.ntmps88
              go_wp2_with fail
              refine HC.out.mono ?_
              rintro e w2 ⟨rfl, hb2⟩
              have HS2 := Lib.hid (HS.out.below hb2 HS.out.lt)
              have HR2 := Lib.hid (HR.out.below hb2 HR.out.lt)
              have HB2 := Lib.hid (HB.out.trans (hb2.mono HB.out.size))
              have HL2 := Lib.hid (HLL.out.below hb2 (Nat.le_refl _))
              have HZ2 : Hid (w.heap.size + 1 < w2.heap.size) := Lib.hid HR2.out.lt
              clear hb2 c0 c1 c2 c3 z0 z1 z2 z3 f0 f1 f2 f3 HC
              have HC3 := Lib.hid (rfl : w2.heap.size = w2.heap.size)
              obtain ⟨D, hD⟩ : ∃ D, w2.heap.size = D := ⟨_, rfl⟩
              obtain ⟨w3, hw3⟩ : ∃ w3, w2.alloc (.cells #[.string u, .string v] 112) = w3 := ⟨_, rfl⟩
              have hn3 : Below w2.heap.size w2 w3 := by rw [← hw3]; exact (Below.refl _ _).alloc (Nat.le_refl _) _
              have HS3 := Lib.hid (HS2.out.below hn3 HS2.out.lt)
              have HR3 := Lib.hid (HR2.out.below hn3 HR2.out.lt)
              have HB3 := Lib.hid (HB2.out.trans (hn3.mono HB2.out.size))
              have HL3 := Lib.hid (HL2.out.below hn3 (Nat.le_refl _))
              have HI3 := Lib.hid (HI.out.below HB3.out (Nat.le_refl _))
              have HA3 := Lib.hid (show Whole w3 D 112 #[.string u, .string v] by rw [← hw3, ← hD]; exact Whole.made _ _ _)
              have HD3 : Hid (w.heap.size + 1 < D) := Lib.hid (by rw [← hD]; exact HZ2.out)
              have HW3 := Lib.hid hw3
              have HDD := Lib.hid hD
              have xs := HS2.out.alloc (.cells #[.string u, .string v] 112)
              have xa := Whole.made w2 112 #[.string u, .string v]
              have c0 := xs.cell 0
              have c1 := xs.cell 1
              have c2 := xs.cell 2
              have c3 := xs.cell 3
              have a0 := xa.cell 0
              have a1 := xa.cell 1
              simp only [List.getElem?_toArray, List.getElem?_cons_zero, List.getElem?_cons_succ] at c0 c1 c2 c3 a0 a1
              clear xs xa hw3 hn3 hD
              go_wp2_with fail
              rw [HW3.out, HDD.out]
              refine (spec_l14 HF.out _ HL3.out).mono ?_
              rintro e w4 ⟨rfl, hw⟩
              subst hw
              have xs := HS3.out
              have xa := HA3.out
              have c0 := xs.cell 0
              have c1 := xs.cell 1
              have c2 := xs.cell 2
              have c3 := xs.cell 3
              have a0 := xa.cell 0
              have a1 := xa.cell 1
              simp only [List.getElem?_toArray, List.getElem?_cons_zero, List.getElem?_cons_succ] at c0 c1 c2 c3 a0 a1
              clear xs xa
              go_wp2_with fail
              refine (spec_has HM.out _ HI3.out).mono ?_
              rintro e w5 ⟨rfl, hw⟩
              subst hw
              have hs := HS3.out
              have hr := HR3.out
              have c0 := hs.cell 0
              have c1 := hs.cell 1
              have c2 := hs.cell 2
              have c3 := hs.cell 3
              have z0 := hr.cell 0
              have z1 := hr.cell 1
              have z2 := hr.cell 2
              have z3 := hr.cell 3
              have f0 := hr.free 0
              have f1 := hr.free 1
              have f2 := hr.free 2
              have f3 := hr.free 3
              simp only [List.getElem?_toArray, List.getElem?_cons_zero, List.getElem?_cons_succ] at c0 c1 c2 c3 z0 z1 z2 z3
              have hf := put_sb hr (.int .i64 st) (.string us) (.slice A N cap) (.string tx)
              have r0 := hf.cell 0
              have r1 := hf.cell 1
              have r2 := hf.cell 2
              have r3 := hf.cell 3
              simp only [List.getElem?_toArray, List.getElem?_cons_zero, List.getElem?_cons_succ] at r0 r1 r2 r3
              clear hs hr hf
              go_wp2
              refine bodyPost_ret (v := .tuple #[.agg #[.int .i64 st, .string us, .slice A N cap, .string tx], .int .i64 250]) (by simp [results, Tryz.results88, go_sem, r0, r1, r2, r3]) rfl ?_
              rw [HE.out]
              exact ⟨_, _, _, rfl, HI3.out.set4 HNE.out _ _ _ _, Fr.same _ _, below_set4 HB3.out (by omega) _ _ _ _⟩
          | false =>
            have HM := Lib.hid hm
            have HE1 := Lib.hid (HEB.out.trans (if_neg (of_decide_eq_false hm)))
            clear hm
            by_cases h3 : 3 ≤ T.length
            ·
              have HE := Lib.hid (HE1.out.trans (if_pos h3))
              have hN3 : (3 : Int) ≤ (N : Int) := by have := HI.out.1; omega
              clear h3
              rcases t3 with t3 | ⟨t3, t4⟩
              ·
                go_enter Tryz.func88, Tryz.ntmps88
                go_wp2_with fail
                refine HC.out.mono ?_
                rintro e w2 ⟨rfl, hb2⟩
                have HS2 := Lib.hid (HS.out.below hb2 HS.out.lt)
                have HR2 := Lib.hid (HR.out.below hb2 HR.out.lt)
                have HB2 := Lib.hid (HB.out.trans (hb2.mono HB.out.size))
                have HL2 := Lib.hid (HLL.out.below hb2 (Nat.le_refl _))
                have HZ2 : Hid (w.heap.size + 1 < w2.heap.size) := Lib.hid HR2.out.lt
                clear hb2 c0 c1 c2 c3 z0 z1 z2 z3 f0 f1 f2 f3 HC
                have HC3 := Lib.hid (rfl : w2.heap.size = w2.heap.size)
                obtain ⟨D, hD⟩ : ∃ D, w2.heap.size = D := ⟨_, rfl⟩
                obtain ⟨w3, hw3⟩ : ∃ w3, w2.alloc (.cells #[.string u, .string v] 112) = w3 := ⟨_, rfl⟩
                have hn3 : Below w2.heap.size w2 w3 := by rw [← hw3]; exact (Below.refl _ _).alloc (Nat.le_refl _) _
                have HS3 := Lib.hid (HS2.out.below hn3 HS2.out.lt)
                have HR3 := Lib.hid (HR2.out.below hn3 HR2.out.lt)
                have HB3 := Lib.hid (HB2.out.trans (hn3.mono HB2.out.size))
                have HL3 := Lib.hid (HL2.out.below hn3 (Nat.le_refl _))
                have HI3 := Lib.hid (HI.out.below HB3.out (Nat.le_refl _))
                have HA3 := Lib.hid (show Whole w3 D 112 #[.string u, .string v] by rw [← hw3, ← hD]; exact Whole.made _ _ _)
                have HD3 : Hid (w.heap.size + 1 < D) := Lib.hid (by rw [← hD]; exact HZ2.out)
                have HW3 := Lib.hid hw3
                have HDD := Lib.hid hD
                have xs := HS2.out.alloc (.cells #[.string u, .string v] 112)
                have xa := Whole.made w2 112 #[.string u, .string v]
                have c0 := xs.cell 0
                have c1 := xs.cell 1
                have c2 := xs.cell 2
                have c3 := xs.cell 3
                have a0 := xa.cell 0
                have a1 := xa.cell 1
                simp only [List.getElem?_toArray, List.getElem?_cons_zero, List.getElem?_cons_succ] at c0 c1 c2 c3 a0 a1
                clear xs xa hw3 hn3 hD
                go_wp2_with fail
                rw [HW3.out, HDD.out]
                refine (spec_l14 HF.out _ HL3.out).mono ?_
                rintro e w4 ⟨rfl, hw⟩
                subst hw
                have xs := HS3.out
                have xa := HA3.out
                have c0 := xs.cell 0
                have c1 := xs.cell 1
                have c2 := xs.cell 2
                have c3 := xs.cell 3
                have a0 := xa.cell 0
                have a1 := xa.cell 1
                simp only [List.getElem?_toArray, List.getElem?_cons_zero, List.getElem?_cons_succ] at c0 c1 c2 c3 a0 a1
                clear xs xa
                go_wp2_with fail
                refine (spec_has HM.out _ HI3.out).mono ?_
                rintro e w5 ⟨rfl, hw⟩
                subst hw
                have hs := HS3.out
                have hr := HR3.out
                have c0 := hs.cell 0
                have c1 := hs.cell 1
                have c2 := hs.cell 2
                have c3 := hs.cell 3
                have z0 := hr.cell 0
                have z1 := hr.cell 1
                have z2 := hr.cell 2
                have z3 := hr.cell 3
                have f0 := hr.free 0
                have f1 := hr.free 1
                have f2 := hr.free 2
                have f3 := hr.free 3
                simp only [List.getElem?_toArray, List.getElem?_cons_zero, List.getElem?_cons_succ] at c0 c1 c2 c3 z0 z1 z2 z3
                have hf := put_sb hr (.int .i64 st) (.string us) (.slice A N cap) (.string tx)
                have r0 := hf.cell 0
                have r1 := hf.cell 1
                have r2 := hf.cell 2
                have r3 := hf.cell 3
                simp only [List.getElem?_toArray, List.getElem?_cons_zero, List.getElem?_cons_succ] at r0 r1 r2 r3
                clear hs hr hf
                go_wp2
                refine bodyPost_ret (v := .tuple #[.agg #[.int .i64 st, .string us, .slice A N cap, .string tx], .int .i64 452]) (by simp [results, Tryz.results88, go_sem, r0, r1, r2, r3]) rfl ?_
                rw [HE.out]
                exact ⟨_, _, _, rfl, HI3.out.set4 HNE.out _ _ _ _, Fr.same _ _, below_set4 HB3.out (by omega) _ _ _ _⟩
              ·
                go_enter Tryz.func88, Tryz.ntmps88
                go_wp2_with fail
                refine HC.out.mono ?_
                rintro e w2 ⟨rfl, hb2⟩
                have HS2 := Lib.hid (HS.out.below hb2 HS.out.lt)
                have HR2 := Lib.hid (HR.out.below hb2 HR.out.lt)
                have HB2 := Lib.hid (HB.out.trans (hb2.mono HB.out.size))
                have HL2 := Lib.hid (HLL.out.below hb2 (Nat.le_refl _))
                have HZ2 : Hid (w.heap.size + 1 < w2.heap.size) := Lib.hid HR2.out.lt
                clear hb2 c0 c1 c2 c3 z0 z1 z2 z3 f0 f1 f2 f3 HC
                have HC3 := Lib.hid (rfl : w2.heap.size = w2.heap.size)
                obtain ⟨D, hD⟩ : ∃ D, w2.heap.size = D := ⟨_, rfl⟩
                obtain ⟨w3, hw3⟩ : ∃ w3, w2.alloc (.cells #[.string u, .string v] 112) = w3 := ⟨_, rfl⟩
                have hn3 : Below w2.heap.size w2 w3 := by rw [← hw3]; exact (Below.refl _ _).alloc (Nat.le_refl _) _
                have HS3 := Lib.hid (HS2.out.below hn3 HS2.out.lt)
                have HR3 := Lib.hid (HR2.out.below hn3 HR2.out.lt)
                have HB3 := Lib.hid (HB2.out.trans (hn3.mono HB2.out.size))
                have HL3 := Lib.hid (HL2.out.below hn3 (Nat.le_refl _))
                have HI3 := Lib.hid (HI.out.below HB3.out (Nat.le_refl _))
                have HA3 := Lib.hid (show Whole w3 D 112 #[.string u, .string v] by rw [← hw3, ← hD]; exact Whole.made _ _ _)
                have HD3 : Hid (w.heap.size + 1 < D) := Lib.hid (by rw [← hD]; exact HZ2.out)
                have HW3 := Lib.hid hw3
                have HDD := Lib.hid hD
                have xs := HS2.out.alloc (.cells #[.string u, .string v] 112)
                have xa := Whole.made w2 112 #[.string u, .string v]
                have c0 := xs.cell 0
                have c1 := xs.cell 1
                have c2 := xs.cell 2
                have c3 := xs.cell 3
                have a0 := xa.cell 0
                have a1 := xa.cell 1
                simp only [List.getElem?_toArray, List.getElem?_cons_zero, List.getElem?_cons_succ] at c0 c1 c2 c3 a0 a1
                clear xs xa hw3 hn3 hD
                go_wp2_with fail
                rw [HW3.out, HDD.out]
                refine (spec_l14 HF.out _ HL3.out).mono ?_
                rintro e w4 ⟨rfl, hw⟩
                subst hw
                have xs := HS3.out
                have xa := HA3.out
                have c0 := xs.cell 0
                have c1 := xs.cell 1
                have c2 := xs.cell 2
                have c3 := xs.cell 3
                have a0 := xa.cell 0
                have a1 := xa.cell 1
                simp only [List.getElem?_toArray, List.getElem?_cons_zero, List.getElem?_cons_succ] at c0 c1 c2 c3 a0 a1
                clear xs xa
                go_wp2_with fail
                refine (spec_has HM.out _ HI3.out).mono ?_
                rintro e w5 ⟨rfl, hw⟩
                subst hw
                have hs := HS3.out
                have hr := HR3.out
                have c0 := hs.cell 0
                have c1 := hs.cell 1
                have c2 := hs.cell 2
                have c3 := hs.cell 3
                have z0 := hr.cell 0
                have z1 := hr.cell 1
                have z2 := hr.cell 2
                have z3 := hr.cell 3
                have f0 := hr.free 0
                have f1 := hr.free 1
                have f2 := hr.free 2
                have f3 := hr.free 3
                simp only [List.getElem?_toArray, List.getElem?_cons_zero, List.getElem?_cons_succ] at c0 c1 c2 c3 z0 z1 z2 z3
                have hf := put_sb hr (.int .i64 st) (.string us) (.slice A N cap) (.string tx)
                have r0 := hf.cell 0
                have r1 := hf.cell 1
                have r2 := hf.cell 2
                have r3 := hf.cell 3
                simp only [List.getElem?_toArray, List.getElem?_cons_zero, List.getElem?_cons_succ] at r0 r1 r2 r3
                clear hs hr hf
                go_wp2
                refine bodyPost_ret (v := .tuple #[.agg #[.int .i64 st, .string us, .slice A N cap, .string tx], .int .i64 452]) (by simp [results, Tryz.results88, go_sem, r0, r1, r2, r3]) rfl ?_
                rw [HE.out]
                exact ⟨_, _, _, rfl, HI3.out.set4 HNE.out _ _ _ _, Fr.same _ _, below_set4 HB3.out (by omega) _ _ _ _⟩
            ·
              have HE := Lib.hid (HE1.out.trans (if_neg h3))
              have hN3 : ¬ (3 : Int) ≤ (N : Int) := by have := HI.out.1; omega
              have hN3' : N ≤ 2 := by have := HI.out.1; omega
              clear h3
              rcases t3 with t3 | ⟨t3, t4⟩
              ·
                go_enter Tryz.func88, Tryz.ntmps88
                go_wp2_with fail
                refine HC.out.mono ?_
                rintro e w2 ⟨rfl, hb2⟩
                have HS2 := Lib.hid (HS.out.below hb2 HS.out.lt)
                have HR2 := Lib.hid (HR.out.below hb2 HR.out.lt)
                have HB2 := Lib.hid (HB.out.trans (hb2.mono HB.out.size))
                have HL2 := Lib.hid (HLL.out.below hb2 (Nat.le_refl _))
                have HZ2 : Hid (w.heap.size + 1 < w2.heap.size) := Lib.hid HR2.out.lt
                clear hb2 c0 c1 c2 c3 z0 z1 z2 z3 f0 f1 f2 f3 HC
                have HC3 := Lib.hid (rfl : w2.heap.size = w2.heap.size)
                obtain ⟨D, hD⟩ : ∃ D, w2.heap.size = D := ⟨_, rfl⟩
                obtain ⟨w3, hw3⟩ : ∃ w3, w2.alloc (.cells #[.string u, .string v] 112) = w3 := ⟨_, rfl⟩
                have hn3 : Below w2.heap.size w2 w3 := by rw [← hw3]; exact (Below.refl _ _).alloc (Nat.le_refl _) _
                have HS3 := Lib.hid (HS2.out.below hn3 HS2.out.lt)
                have HR3 := Lib.hid (HR2.out.below hn3 HR2.out.lt)
                have HB3 := Lib.hid (HB2.out.trans (hn3.mono HB2.out.size))
                have HL3 := Lib.hid (HL2.out.below hn3 (Nat.le_refl _))
                have HI3 := Lib.hid (HI.out.below HB3.out (Nat.le_refl _))
                have HA3 := Lib.hid (show Whole w3 D 112 #[.string u, .string v] by rw [← hw3, ← hD]; exact Whole.made _ _ _)
                have HD3 : Hid (w.heap.size + 1 < D) := Lib.hid (by rw [← hD]; exact HZ2.out)
                have HW3 := Lib.hid hw3
                have HDD := Lib.hid hD
                have xs := HS2.out.alloc (.cells #[.string u, .string v] 112)
                have xa := Whole.made w2 112 #[.string u, .string v]
                have c0 := xs.cell 0
                have c1 := xs.cell 1
                have c2 := xs.cell 2
                have c3 := xs.cell 3
                have a0 := xa.cell 0
                have a1 := xa.cell 1
                simp only [List.getElem?_toArray, List.getElem?_cons_zero, List.getElem?_cons_succ] at c0 c1 c2 c3 a0 a1
                clear xs xa hw3 hn3 hD
                go_wp2_with fail
                rw [HW3.out, HDD.out]
                refine (spec_l14 HF.out _ HL3.out).mono ?_
                rintro e w4 ⟨rfl, hw⟩
                subst hw
                have xs := HS3.out
                have xa := HA3.out
                have c0 := xs.cell 0
                have c1 := xs.cell 1
                have c2 := xs.cell 2
                have c3 := xs.cell 3
                have a0 := xa.cell 0
                have a1 := xa.cell 1
                simp only [List.getElem?_toArray, List.getElem?_cons_zero, List.getElem?_cons_succ] at c0 c1 c2 c3 a0 a1
                clear xs xa
                go_wp2_with fail
                refine (spec_has HM.out _ HI3.out).mono ?_
                rintro e w5 ⟨rfl, hw⟩
                subst hw
                have hs := HS3.out
                have hr := HR3.out
                have c0 := hs.cell 0
                have c1 := hs.cell 1
                have c2 := hs.cell 2
                have c3 := hs.cell 3
                have z0 := hr.cell 0
                have z1 := hr.cell 1
                have z2 := hr.cell 2
                have z3 := hr.cell 3
                have f0 := hr.free 0
                have f1 := hr.free 1
                have f2 := hr.free 2
                have f3 := hr.free 3
                simp only [List.getElem?_toArray, List.getElem?_cons_zero, List.getElem?_cons_succ] at c0 c1 c2 c3 z0 z1 z2 z3
                clear hs hr
                obtain ⟨w3, rfl⟩ : ∃ w3 : World, w3 = w5 := ⟨_, rfl⟩
                have HTN : Hid (T.length = N) := Lib.hid HI.out.1
                obtain ⟨i0, hi0, hq0, hq1, hq2⟩ := info_parts Tryz.infoString
                have hml1 : 0 + N ≤ maxLen := by unfold maxLen; omega
                have hby1 : (0 + N) * 16 ≤ 140737488355328 := by omega
                have hml2 : N + 1 ≤ maxLen := by unfold maxLen; omega
                have hby2 : (N + 1) * 16 ≤ 140737488355328 := by omega
                have HBd := Lib.hid (bl_drew HB3.out)
                have HSd := Lib.hid HS3.out.drew
                have HRd := Lib.hid HR3.out.drew
                have HAd := Lib.hid HA3.out.drew
                have HB1 := Lib.hid (HBd.out.alloc HBd.out.size (.cells #[] 9))
                have HS1 := Lib.hid (HSd.out.alloc (.cells #[] 9))
                have HR1 := Lib.hid (HRd.out.alloc (.cells #[] 9))
                have HA1 := Lib.hid (HAd.out.alloc (.cells #[] 9))
                have HB4 := Lib.hid (HBd.out.alloc HBd.out.size (.cells #[.string u] 9))
                have HS4 := Lib.hid (HSd.out.alloc (.cells #[.string u] 9))
                have HR4 := Lib.hid (HRd.out.alloc (.cells #[.string u] 9))
                have HA4 := Lib.hid (HAd.out.alloc (.cells #[.string u] 9))
                have HBq2 := Lib.hid (HB1.out.alloc HB1.out.size (.cells #[.string u] 9))
                have HSq2 := Lib.hid (HS1.out.alloc (.cells #[.string u] 9))
                have HRq2 := Lib.hid (HR1.out.alloc (.cells #[.string u] 9))
                have HAq2 := Lib.hid (HA1.out.alloc (.cells #[.string u] 9))
                have HBq3 := Lib.hid (HB4.out.alloc HB4.out.size (.cells #[] 9))
                have HSq3 := Lib.hid (HS4.out.alloc (.cells #[] 9))
                have HRq3 := Lib.hid (HR4.out.alloc (.cells #[] 9))
                have HAq3 := Lib.hid (HA4.out.alloc (.cells #[] 9))
                have p11 := HS1.out.cell 1
                have p12 := HS1.out.cell 2
                have p1a := HA1.out.cell 0
                simp only [List.getElem?_toArray, List.getElem?_cons_zero, List.getElem?_cons_succ] at p11 p12 p1a
                have p41 := HS4.out.cell 1
                have p42 := HS4.out.cell 2
                have p4a := HA4.out.cell 0
                simp only [List.getElem?_toArray, List.getElem?_cons_zero, List.getElem?_cons_succ] at p41 p42 p4a
                have pq21 := HSq2.out.cell 1
                have pq22 := HSq2.out.cell 2
                have pq2a := HAq2.out.cell 0
                simp only [List.getElem?_toArray, List.getElem?_cons_zero, List.getElem?_cons_succ] at pq21 pq22 pq2a
                have pq31 := HSq3.out.cell 1
                have pq32 := HSq3.out.cell 2
                have pq3a := HAq3.out.cell 0
                simp only [List.getElem?_toArray, List.getElem?_cons_zero, List.getElem?_cons_succ] at pq31 pq32 pq3a
                have HX1 : Hid (ROwn stR (w3.drew.alloc (.cells #[] 9)) w3.heap.size (.slice (some ⟨w3.heap.size, 0, none⟩) 0 0) []) := Lib.hid (ROwn.lit (R := stR) w3.drew w3.heap.size (Nat.le_refl _) rfl)
                have HX2 : Hid (ROwn stR ((w3.drew.alloc (.cells #[] 9)).alloc (.cells #[.string u] 9)) w3.heap.size (.slice (some ⟨w3.heap.size, 0, none⟩) 0 0) []) := Lib.hid ((ROwn.lit (R := stR) w3.drew w3.heap.size (Nat.le_refl _) rfl).alloc (.cells #[.string u] 9))
                have HX3 : Hid (ROwn stR ((w3.drew.alloc (.cells #[.string u] 9)).alloc (.cells #[] 9)) w3.heap.size (.slice (some ⟨w3.heap.size + 1, 0, none⟩) 0 0) []) := Lib.hid (ROwn.lit (R := stR) (B := w3.heap.size) (w3.drew.alloc (.cells #[.string u] 9)) (w3.heap.size + 1) (by simp) (by simp))
                have HTd : Hid (SIn w3.drew A N cap T) := Lib.hid (show SIn w3.drew A N cap T from HI3.out)
                have HT1 := Lib.hid (HTd.out.below (below_new' w3.drew (.cells #[] 9)) (Nat.le_refl _))
                have HT2 := Lib.hid (HT1.out.below (below_new' (w3.drew.alloc (.cells #[] 9)) (.cells #[.string u] 9)) (Nat.le_refl _))
                have HT4 := Lib.hid (HTd.out.below (below_new' w3.drew (.cells #[.string u] 9)) (Nat.le_refl _))
                have HT3 := Lib.hid (HT4.out.below (below_new' (w3.drew.alloc (.cells #[.string u] 9)) (.cells #[] 9)) (Nat.le_refl _))
                have HV2 := Lib.hid (RAt.made stR (w3.drew.alloc (.cells #[] 9)) [u] (w3.heap.size + 1) (by simp))
                have HV3 := Lib.hid ((RAt.made stR w3.drew [u] w3.heap.size rfl).below (below_new' (w3.drew.alloc (.cells #[.string u] 9)) (.cells #[] 9)) (Nat.le_refl _))
                have HRlt := Lib.hid HR3.out.lt
                have HSlt := Lib.hid HS3.out.lt
                have HAlt := Lib.hid HA3.out.lt
                clear HS HR HB
                go_wp2
                go_region_held3 (fun w' => w'.cell? ⟨w.heap.size, 1, none⟩ = some (.string us) ∧ w'.cell? ⟨w.heap.size, 2, none⟩ = some (.slice A N cap) ∧ w'.cell? ⟨D, 0, none⟩ = some (.string u)) (first | with_reducible exact s8 | with_reducible exact s9 | exact ⟨(HS6.out.alloc (.cells #[.string u] 9)).cell 1, (HS6.out.alloc (.cells #[.string u] 9)).cell 2, (HA6.out.alloc (.cells #[.string u] 9)).cell 0⟩ | exact ⟨HS6.out.cell 1, HS6.out.cell 2, HA6.out.cell 0⟩ | exact ⟨HSq2.out.cell 1, HSq2.out.cell 2, HAq2.out.cell 0⟩ | exact ⟨HSq3.out.cell 1, HSq3.out.cell 2, HAq3.out.cell 0⟩ | exact ⟨HS1.out.cell 1, HS1.out.cell 2, HA1.out.cell 0⟩ | exact ⟨HS4.out.cell 1, HS4.out.cell 2, HA4.out.cell 0⟩ | exact ⟨HSd.out.cell 1, HSd.out.cell 2, HAd.out.cell 0⟩ | go_keep) (first
                  | (have HOA := HO6
                     have HBA := Lib.hid (HB6.out.alloc HB6.out.size (.cells #[.string u] 9))
                     refine step_append_rows rfl (.tmp 62) (.tmp 65) 23 rfl stR w3.heap.size i0 _ 16 Tryz.underlying23 hi0 hq0 hq1 hq2 rfl (by decide) _ T [u] N HTN.out rfl (HO6.out.alloc (.cells #[.string u] 9)) (some ⟨w6.heap.size, 0, none⟩) 1 1 rfl rfl (RAt.made stR w6 [u] _ rfl) (fun e => by cases e) (fun q e => by cases e; rfl) hml2 hby2 (by have := HZ6.out; simp; omega) ?_
                     intro v' w8 hown hgrow hnn
                     obtain ⟨A8, N8, cap8, rfl⟩ := hown.val
                     have hN8 : N8 = N + 1 := hown.len.1.trans (by rw [List.length_append, HTN.out]; rfl)
                     subst hN8
                     have HO8 := Lib.hid hown
                     have HR8 := Lib.hid ((HR6.out.alloc (.cells #[.string u] 9)).grown hgrow (fun e => by have := HRlt.out; have := (World.ownsRow.lt HOA.out _ e.symm).1; omega))
                     have HS8 := Lib.hid ((HS6.out.alloc (.cells #[.string u] 9)).grown hgrow (fun e => by have := HSlt.out; have := (World.ownsRow.lt HOA.out _ e.symm).1; omega))
                     have HA8 := Lib.hid ((HA6.out.alloc (.cells #[.string u] 9)).grown hgrow (fun e => by have := HAlt.out; have := (World.ownsRow.lt HOA.out _ e.symm).1; omega))
                     have HB8 := Lib.hid (below_far (HBA.out) hgrow (fun g e => by have := HSlt.out; have := (World.ownsRow.lt HOA.out _ e).1; omega))
                     have hs8 := HS8.out
                     have hr8 := HR8.out
                     have y8 := hs8.cell 1
                     have z0 := hr8.cell 0
                     have z1 := hr8.cell 1
                     have z2 := hr8.cell 2
                     have z3 := hr8.cell 3
                     have f0 := hr8.free 0
                     have f1 := hr8.free 1
                     have f2 := hr8.free 2
                     have f3 := hr8.free 3
                     simp only [List.getElem?_toArray, List.getElem?_cons_zero, List.getElem?_cons_succ] at y8 z0 z1 z2 z3
                     have hf := put_sb hr8 (.int .i64 4) (.string us) (.slice A8 (N + 1) cap8) (.string ⟨#[]⟩)
                     have r0 := hf.cell 0
                     have r1 := hf.cell 1
                     have r2 := hf.cell 2
                     have r3 := hf.cell 3
                     simp only [List.getElem?_toArray, List.getElem?_cons_zero, List.getElem?_cons_succ] at r0 r1 r2 r3
                     have h9 := apart4 hs8 (R := w.heap.size + 1) (by omega) (.int .i64 4) (.string us) (.slice A8 (N + 1) cap8) (.string ⟨#[]⟩)
                     have g9 := apart4 HA8.out (R := w.heap.size + 1) (by have := HD3.out; omega) (.int .i64 4) (.string us) (.slice A8 (N + 1) cap8) (.string ⟨#[]⟩)
                     have s91 := h9.cell 1
                     have s92 := h9.cell 2
                     have s93 := g9.cell 0
                     have s81 := hs8.cell 1
                     have s82 := hs8.cell 2
                     have s83 := HA8.out.cell 0
                     simp only [List.getElem?_toArray, List.getElem?_cons_zero, List.getElem?_cons_succ] at s91 s92 s93 s81 s82 s83
                     have s8 := And.intro s81 (And.intro s82 s83)
                     have s9 := And.intro s91 (And.intro s92 s93)
                     clear hown hgrow hnn hs8 hr8 hf h9 g9 s81 s82 s83 s91 s92 s93)
                  | (have HOA := HO7
                     have HBA := HB6
                     refine step_append_rows rfl (.tmp 62) (.tmp 65) 23 rfl stR w3.heap.size i0 _ 16 Tryz.underlying23 hi0 hq0 hq1 hq2 rfl (by decide) _ T [u] N HTN.out rfl HO7.out (some ⟨w3.heap.size + 1, 0, none⟩) 1 1 rfl rfl HRU7.out (fun e => by cases e) (fun q e => by cases e; rfl) hml2 hby2 HZ6.out ?_
                     intro v' w8 hown hgrow hnn
                     obtain ⟨A8, N8, cap8, rfl⟩ := hown.val
                     have hN8 : N8 = N + 1 := hown.len.1.trans (by rw [List.length_append, HTN.out]; rfl)
                     subst hN8
                     have HO8 := Lib.hid hown
                     have HR8 := Lib.hid ((HR6.out).grown hgrow (fun e => by have := HRlt.out; have := (World.ownsRow.lt HOA.out _ e.symm).1; omega))
                     have HS8 := Lib.hid ((HS6.out).grown hgrow (fun e => by have := HSlt.out; have := (World.ownsRow.lt HOA.out _ e.symm).1; omega))
                     have HA8 := Lib.hid ((HA6.out).grown hgrow (fun e => by have := HAlt.out; have := (World.ownsRow.lt HOA.out _ e.symm).1; omega))
                     have HB8 := Lib.hid (below_far (HBA.out) hgrow (fun g e => by have := HSlt.out; have := (World.ownsRow.lt HOA.out _ e).1; omega))
                     have hs8 := HS8.out
                     have hr8 := HR8.out
                     have y8 := hs8.cell 1
                     have z0 := hr8.cell 0
                     have z1 := hr8.cell 1
                     have z2 := hr8.cell 2
                     have z3 := hr8.cell 3
                     have f0 := hr8.free 0
                     have f1 := hr8.free 1
                     have f2 := hr8.free 2
                     have f3 := hr8.free 3
                     simp only [List.getElem?_toArray, List.getElem?_cons_zero, List.getElem?_cons_succ] at y8 z0 z1 z2 z3
                     have hf := put_sb hr8 (.int .i64 4) (.string us) (.slice A8 (N + 1) cap8) (.string ⟨#[]⟩)
                     have r0 := hf.cell 0
                     have r1 := hf.cell 1
                     have r2 := hf.cell 2
                     have r3 := hf.cell 3
                     simp only [List.getElem?_toArray, List.getElem?_cons_zero, List.getElem?_cons_succ] at r0 r1 r2 r3
                     have h9 := apart4 hs8 (R := w.heap.size + 1) (by omega) (.int .i64 4) (.string us) (.slice A8 (N + 1) cap8) (.string ⟨#[]⟩)
                     have g9 := apart4 HA8.out (R := w.heap.size + 1) (by have := HD3.out; omega) (.int .i64 4) (.string us) (.slice A8 (N + 1) cap8) (.string ⟨#[]⟩)
                     have s91 := h9.cell 1
                     have s92 := h9.cell 2
                     have s93 := g9.cell 0
                     have s81 := hs8.cell 1
                     have s82 := hs8.cell 2
                     have s83 := HA8.out.cell 0
                     simp only [List.getElem?_toArray, List.getElem?_cons_zero, List.getElem?_cons_succ] at s91 s92 s93 s81 s82 s83
                     have s8 := And.intro s81 (And.intro s82 s83)
                     have s9 := And.intro s91 (And.intro s92 s93)
                     clear hown hgrow hnn hs8 hr8 hf h9 g9 s81 s82 s83 s91 s92 s93)
                  | (have HOA := HO9
                     have HBA := HB6
                     refine step_append_rows rfl (.tmp 62) (.tmp 65) 23 rfl stR w3.heap.size i0 _ 16 Tryz.underlying23 hi0 hq0 hq1 hq2 rfl (by decide) _ T [u] N HTN.out rfl HO9.out (some ⟨w3.heap.size, 0, none⟩) 1 1 rfl rfl HRU7.out (fun e => by cases e) (fun q e => by cases e; rfl) hml2 hby2 HZ6.out ?_
                     intro v' w8 hown hgrow hnn
                     obtain ⟨A8, N8, cap8, rfl⟩ := hown.val
                     have hN8 : N8 = N + 1 := hown.len.1.trans (by rw [List.length_append, HTN.out]; rfl)
                     subst hN8
                     have HO8 := Lib.hid hown
                     have HR8 := Lib.hid ((HR6.out).grown hgrow (fun e => by have := HRlt.out; have := (World.ownsRow.lt HOA.out _ e.symm).1; omega))
                     have HS8 := Lib.hid ((HS6.out).grown hgrow (fun e => by have := HSlt.out; have := (World.ownsRow.lt HOA.out _ e.symm).1; omega))
                     have HA8 := Lib.hid ((HA6.out).grown hgrow (fun e => by have := HAlt.out; have := (World.ownsRow.lt HOA.out _ e.symm).1; omega))
                     have HB8 := Lib.hid (below_far (HBA.out) hgrow (fun g e => by have := HSlt.out; have := (World.ownsRow.lt HOA.out _ e).1; omega))
                     have hs8 := HS8.out
                     have hr8 := HR8.out
                     have y8 := hs8.cell 1
                     have z0 := hr8.cell 0
                     have z1 := hr8.cell 1
                     have z2 := hr8.cell 2
                     have z3 := hr8.cell 3
                     have f0 := hr8.free 0
                     have f1 := hr8.free 1
                     have f2 := hr8.free 2
                     have f3 := hr8.free 3
                     simp only [List.getElem?_toArray, List.getElem?_cons_zero, List.getElem?_cons_succ] at y8 z0 z1 z2 z3
                     have hf := put_sb hr8 (.int .i64 4) (.string us) (.slice A8 (N + 1) cap8) (.string ⟨#[]⟩)
                     have r0 := hf.cell 0
                     have r1 := hf.cell 1
                     have r2 := hf.cell 2
                     have r3 := hf.cell 3
                     simp only [List.getElem?_toArray, List.getElem?_cons_zero, List.getElem?_cons_succ] at r0 r1 r2 r3
                     have h9 := apart4 hs8 (R := w.heap.size + 1) (by omega) (.int .i64 4) (.string us) (.slice A8 (N + 1) cap8) (.string ⟨#[]⟩)
                     have g9 := apart4 HA8.out (R := w.heap.size + 1) (by have := HD3.out; omega) (.int .i64 4) (.string us) (.slice A8 (N + 1) cap8) (.string ⟨#[]⟩)
                     have s91 := h9.cell 1
                     have s92 := h9.cell 2
                     have s93 := g9.cell 0
                     have s81 := hs8.cell 1
                     have s82 := hs8.cell 2
                     have s83 := HA8.out.cell 0
                     simp only [List.getElem?_toArray, List.getElem?_cons_zero, List.getElem?_cons_succ] at s91 s92 s93 s81 s82 s83
                     have s8 := And.intro s81 (And.intro s82 s83)
                     have s9 := And.intro s91 (And.intro s92 s93)
                     clear hown hgrow hnn hs8 hr8 hf h9 g9 s81 s82 s83 s91 s92 s93)
                  | (with_reducible refine at_world ((w3.alloc (.cells #[] 9)).drew) ?_
                     refine step_append_rows rfl (.tmp 59) (.tmp 61) 23 rfl stR w3.heap.size i0 _ 16 Tryz.underlying23 hi0 hq0 hq1 hq2 rfl (by decide) _ [] T 0 rfl rfl HX1.out A N cap rfl HTN.out HT1.out.2.2.1 HI.out.2.2.2.1 HI.out.2.2.2.2.1 hml1 hby1 (by first | (simp; done) | (simp; omega)) ?_
                     intro v' w6 hown hgrow hnn
                     rw [List.nil_append] at hown
                     obtain ⟨A6, N6, cap6, rfl⟩ := hown.val
                     have hN6 : N = N6 := (hown.len.1.trans HTN.out).symm
                     subst hN6
                     have HO6 := Lib.hid hown
                     have HR6 := Lib.hid (HR1.out.grown hgrow (fun e => by have h1 := HRlt.out; have h2 := Option.some.inj (show some (w.heap.size + 1) = some (w3.heap.size) from e); omega))
                     have HA6 := Lib.hid (HA1.out.grown hgrow (fun e => by have h1 := HAlt.out; have h2 := Option.some.inj (show some D = some (w3.heap.size) from e); omega))
                     have HS6 := Lib.hid (HS1.out.grown hgrow (fun e => by have h1 := HSlt.out; have h2 := Option.some.inj (show some w.heap.size = some (w3.heap.size) from e); omega))
                     have HB6 := Lib.hid (below_far HB1.out hgrow (fun g e => by have h1 := HSlt.out; have h2 := Option.some.inj (show some (w3.heap.size) = some g from e); omega))
                     have HZ6 : Hid (w3.heap.size ≤ w6.heap.size) := Lib.hid (Nat.le_trans (by simp) hgrow.size)
                     have y1 := HS6.out.cell 1
                     have ya := HA6.out.cell 0
                     have yy := (HA6.out.alloc (.cells #[.string u] 9)).cell 0
                     have yz := (HS6.out.alloc (.cells #[.string u] 9)).cell 1
                     simp only [List.getElem?_toArray, List.getElem?_cons_zero, List.getElem?_cons_succ] at y1 ya yy yz
                     clear hown hgrow hnn)
                  | (with_reducible refine at_world (((w3.alloc (.cells #[] 9)).alloc (.cells #[.string u] 9)).drew) ?_
                     refine step_append_rows rfl (.tmp 59) (.tmp 61) 23 rfl stR w3.heap.size i0 _ 16 Tryz.underlying23 hi0 hq0 hq1 hq2 rfl (by decide) _ [] T 0 rfl rfl HX2.out A N cap rfl HTN.out HT2.out.2.2.1 HI.out.2.2.2.1 HI.out.2.2.2.2.1 hml1 hby1 (by first | (simp; done) | (simp; omega)) ?_
                     intro v' w6 hown hgrow hnn
                     rw [List.nil_append] at hown
                     obtain ⟨A6, N6, cap6, rfl⟩ := hown.val
                     have hN6 : N = N6 := (hown.len.1.trans HTN.out).symm
                     subst hN6
                     have HO7 := Lib.hid hown
                     have HR6 := Lib.hid (HRq2.out.grown hgrow (fun e => by have h1 := HRlt.out; have h2 := Option.some.inj (show some (w.heap.size + 1) = some (w3.heap.size) from e); omega))
                     have HA6 := Lib.hid (HAq2.out.grown hgrow (fun e => by have h1 := HAlt.out; have h2 := Option.some.inj (show some D = some (w3.heap.size) from e); omega))
                     have HS6 := Lib.hid (HSq2.out.grown hgrow (fun e => by have h1 := HSlt.out; have h2 := Option.some.inj (show some w.heap.size = some (w3.heap.size) from e); omega))
                     have HB6 := Lib.hid (below_far HBq2.out hgrow (fun g e => by have h1 := HSlt.out; have h2 := Option.some.inj (show some (w3.heap.size) = some g from e); omega))
                     have HZ6 : Hid (w3.heap.size ≤ w6.heap.size) := Lib.hid (Nat.le_trans (by simp; omega) hgrow.size)
                     have HRU7 : Hid (RAt stR w6 (some ⟨w3.heap.size + 1, 0, none⟩) [u]) := Lib.hid (by exact HV2.out.grown hgrow (fun b o e he => by cases e; have h2 : w3.heap.size + 1 = w3.heap.size := he; omega))
                     have y1 := HS6.out.cell 1
                     have ya := HA6.out.cell 0
                     have yy := (HA6.out.alloc (.cells #[.string u] 9)).cell 0
                     have yz := (HS6.out.alloc (.cells #[.string u] 9)).cell 1
                     simp only [List.getElem?_toArray, List.getElem?_cons_zero, List.getElem?_cons_succ] at y1 ya yy yz
                     clear hown hgrow hnn)
                  | (with_reducible refine at_world (((w3.alloc (.cells #[.string u] 9)).alloc (.cells #[] 9)).drew) ?_
                     refine step_append_rows rfl (.tmp 59) (.tmp 61) 23 rfl stR w3.heap.size i0 _ 16 Tryz.underlying23 hi0 hq0 hq1 hq2 rfl (by decide) _ [] T 0 rfl rfl HX3.out A N cap rfl HTN.out HT3.out.2.2.1 HI.out.2.2.2.1 HI.out.2.2.2.2.1 hml1 hby1 (by first | (simp; done) | (simp; omega)) ?_
                     intro v' w6 hown hgrow hnn
                     rw [List.nil_append] at hown
                     obtain ⟨A6, N6, cap6, rfl⟩ := hown.val
                     have hN6 : N = N6 := (hown.len.1.trans HTN.out).symm
                     subst hN6
                     have HO9 := Lib.hid hown
                     have HR6 := Lib.hid (HRq3.out.grown hgrow (fun e => by have h1 := HRlt.out; have h2 := Option.some.inj (show some (w.heap.size + 1) = some (w3.heap.size + 1) from e); omega))
                     have HA6 := Lib.hid (HAq3.out.grown hgrow (fun e => by have h1 := HAlt.out; have h2 := Option.some.inj (show some D = some (w3.heap.size + 1) from e); omega))
                     have HS6 := Lib.hid (HSq3.out.grown hgrow (fun e => by have h1 := HSlt.out; have h2 := Option.some.inj (show some w.heap.size = some (w3.heap.size + 1) from e); omega))
                     have HB6 := Lib.hid (below_far HBq3.out hgrow (fun g e => by have h1 := HSlt.out; have h2 := Option.some.inj (show some (w3.heap.size + 1) = some g from e); omega))
                     have HZ6 : Hid (w3.heap.size ≤ w6.heap.size) := Lib.hid (Nat.le_trans (by simp; omega) hgrow.size)
                     have HRU7 : Hid (RAt stR w6 (some ⟨w3.heap.size, 0, none⟩) [u]) := Lib.hid (by exact HV3.out.grown hgrow (fun b o e he => by cases e; have h2 : w3.heap.size = w3.heap.size + 1 := he; omega))
                     have y1 := HS6.out.cell 1
                     have ya := HA6.out.cell 0
                     have yy := (HA6.out.alloc (.cells #[.string u] 9)).cell 0
                     have yz := (HS6.out.alloc (.cells #[.string u] 9)).cell 1
                     simp only [List.getElem?_toArray, List.getElem?_cons_zero, List.getElem?_cons_succ] at y1 ya yy yz
                     clear hown hgrow hnn))
                all_goals
                  go_wp2
                  refine bodyPost_ret (v := .tuple #[.agg #[.int .i64 4, .string us, .slice A8 (N + 1) cap8, .string ⟨#[]⟩], .int .i64 250]) (by simp [results, Tryz.results88, go_sem, r0, r1, r2, r3]) rfl ?_
                  rw [HE.out]
                  refine ⟨A8, N + 1, cap8, rfl, (SIn.made HO8.out (by rw [List.length_append, HTN.out]; simp; omega) (fun g hg => ?_)).set4 (fun q e => ?_) _ _ _ _, (fun q e => .inr ?_), below_set4 HB8.out (by omega) _ _ _ _⟩
                  · rcases List.mem_append.1 hg with h1 | h1
                    · exact HI.out.2.2.2.2.2.1 g h1
                    · simp at h1; rw [h1]; exact HUS.out
                  · have h1 := (own_blk HO8.out q e).1
                    have h2 := HRlt.out
                    omega
                  · have h1 := (own_blk HO8.out q e).1
                    have h2 := HSlt.out
                    omega
              ·
                go_enter Tryz.func88, Tryz.ntmps88
                go_wp2_with fail
                refine HC.out.mono ?_
                rintro e w2 ⟨rfl, hb2⟩
                have HS2 := Lib.hid (HS.out.below hb2 HS.out.lt)
                have HR2 := Lib.hid (HR.out.below hb2 HR.out.lt)
                have HB2 := Lib.hid (HB.out.trans (hb2.mono HB.out.size))
                have HL2 := Lib.hid (HLL.out.below hb2 (Nat.le_refl _))
                have HZ2 : Hid (w.heap.size + 1 < w2.heap.size) := Lib.hid HR2.out.lt
                clear hb2 c0 c1 c2 c3 z0 z1 z2 z3 f0 f1 f2 f3 HC
                have HC3 := Lib.hid (rfl : w2.heap.size = w2.heap.size)
                obtain ⟨D, hD⟩ : ∃ D, w2.heap.size = D := ⟨_, rfl⟩
                obtain ⟨w3, hw3⟩ : ∃ w3, w2.alloc (.cells #[.string u, .string v] 112) = w3 := ⟨_, rfl⟩
                have hn3 : Below w2.heap.size w2 w3 := by rw [← hw3]; exact (Below.refl _ _).alloc (Nat.le_refl _) _
                have HS3 := Lib.hid (HS2.out.below hn3 HS2.out.lt)
                have HR3 := Lib.hid (HR2.out.below hn3 HR2.out.lt)
                have HB3 := Lib.hid (HB2.out.trans (hn3.mono HB2.out.size))
                have HL3 := Lib.hid (HL2.out.below hn3 (Nat.le_refl _))
                have HI3 := Lib.hid (HI.out.below HB3.out (Nat.le_refl _))
                have HA3 := Lib.hid (show Whole w3 D 112 #[.string u, .string v] by rw [← hw3, ← hD]; exact Whole.made _ _ _)
                have HD3 : Hid (w.heap.size + 1 < D) := Lib.hid (by rw [← hD]; exact HZ2.out)
                have HW3 := Lib.hid hw3
                have HDD := Lib.hid hD
                have xs := HS2.out.alloc (.cells #[.string u, .string v] 112)
                have xa := Whole.made w2 112 #[.string u, .string v]
                have c0 := xs.cell 0
                have c1 := xs.cell 1
                have c2 := xs.cell 2
                have c3 := xs.cell 3
                have a0 := xa.cell 0
                have a1 := xa.cell 1
                simp only [List.getElem?_toArray, List.getElem?_cons_zero, List.getElem?_cons_succ] at c0 c1 c2 c3 a0 a1
                clear xs xa hw3 hn3 hD
                go_wp2_with fail
                rw [HW3.out, HDD.out]
                refine (spec_l14 HF.out _ HL3.out).mono ?_
                rintro e w4 ⟨rfl, hw⟩
                subst hw
                have xs := HS3.out
                have xa := HA3.out
                have c0 := xs.cell 0
                have c1 := xs.cell 1
                have c2 := xs.cell 2
                have c3 := xs.cell 3
                have a0 := xa.cell 0
                have a1 := xa.cell 1
                simp only [List.getElem?_toArray, List.getElem?_cons_zero, List.getElem?_cons_succ] at c0 c1 c2 c3 a0 a1
                clear xs xa
                go_wp2_with fail
                refine (spec_has HM.out _ HI3.out).mono ?_
                rintro e w5 ⟨rfl, hw⟩
                subst hw
                have hs := HS3.out
                have hr := HR3.out
                have c0 := hs.cell 0
                have c1 := hs.cell 1
                have c2 := hs.cell 2
                have c3 := hs.cell 3
                have z0 := hr.cell 0
                have z1 := hr.cell 1
                have z2 := hr.cell 2
                have z3 := hr.cell 3
                have f0 := hr.free 0
                have f1 := hr.free 1
                have f2 := hr.free 2
                have f3 := hr.free 3
                simp only [List.getElem?_toArray, List.getElem?_cons_zero, List.getElem?_cons_succ] at c0 c1 c2 c3 z0 z1 z2 z3
                clear hs hr
                obtain ⟨w3, rfl⟩ : ∃ w3 : World, w3 = w5 := ⟨_, rfl⟩
                have HTN : Hid (T.length = N) := Lib.hid HI.out.1
                obtain ⟨i0, hi0, hq0, hq1, hq2⟩ := info_parts Tryz.infoString
                have hml1 : 0 + N ≤ maxLen := by unfold maxLen; omega
                have hby1 : (0 + N) * 16 ≤ 140737488355328 := by omega
                have hml2 : N + 1 ≤ maxLen := by unfold maxLen; omega
                have hby2 : (N + 1) * 16 ≤ 140737488355328 := by omega
                have HBd := Lib.hid (bl_drew HB3.out)
                have HSd := Lib.hid HS3.out.drew
                have HRd := Lib.hid HR3.out.drew
                have HAd := Lib.hid HA3.out.drew
                have HB1 := Lib.hid (HBd.out.alloc HBd.out.size (.cells #[] 9))
                have HS1 := Lib.hid (HSd.out.alloc (.cells #[] 9))
                have HR1 := Lib.hid (HRd.out.alloc (.cells #[] 9))
                have HA1 := Lib.hid (HAd.out.alloc (.cells #[] 9))
                have HB4 := Lib.hid (HBd.out.alloc HBd.out.size (.cells #[.string u] 9))
                have HS4 := Lib.hid (HSd.out.alloc (.cells #[.string u] 9))
                have HR4 := Lib.hid (HRd.out.alloc (.cells #[.string u] 9))
                have HA4 := Lib.hid (HAd.out.alloc (.cells #[.string u] 9))
                have HBq2 := Lib.hid (HB1.out.alloc HB1.out.size (.cells #[.string u] 9))
                have HSq2 := Lib.hid (HS1.out.alloc (.cells #[.string u] 9))
                have HRq2 := Lib.hid (HR1.out.alloc (.cells #[.string u] 9))
                have HAq2 := Lib.hid (HA1.out.alloc (.cells #[.string u] 9))
                have HBq3 := Lib.hid (HB4.out.alloc HB4.out.size (.cells #[] 9))
                have HSq3 := Lib.hid (HS4.out.alloc (.cells #[] 9))
                have HRq3 := Lib.hid (HR4.out.alloc (.cells #[] 9))
                have HAq3 := Lib.hid (HA4.out.alloc (.cells #[] 9))
                have p11 := HS1.out.cell 1
                have p12 := HS1.out.cell 2
                have p1a := HA1.out.cell 0
                simp only [List.getElem?_toArray, List.getElem?_cons_zero, List.getElem?_cons_succ] at p11 p12 p1a
                have p41 := HS4.out.cell 1
                have p42 := HS4.out.cell 2
                have p4a := HA4.out.cell 0
                simp only [List.getElem?_toArray, List.getElem?_cons_zero, List.getElem?_cons_succ] at p41 p42 p4a
                have pq21 := HSq2.out.cell 1
                have pq22 := HSq2.out.cell 2
                have pq2a := HAq2.out.cell 0
                simp only [List.getElem?_toArray, List.getElem?_cons_zero, List.getElem?_cons_succ] at pq21 pq22 pq2a
                have pq31 := HSq3.out.cell 1
                have pq32 := HSq3.out.cell 2
                have pq3a := HAq3.out.cell 0
                simp only [List.getElem?_toArray, List.getElem?_cons_zero, List.getElem?_cons_succ] at pq31 pq32 pq3a
                have HX1 : Hid (ROwn stR (w3.drew.alloc (.cells #[] 9)) w3.heap.size (.slice (some ⟨w3.heap.size, 0, none⟩) 0 0) []) := Lib.hid (ROwn.lit (R := stR) w3.drew w3.heap.size (Nat.le_refl _) rfl)
                have HX2 : Hid (ROwn stR ((w3.drew.alloc (.cells #[] 9)).alloc (.cells #[.string u] 9)) w3.heap.size (.slice (some ⟨w3.heap.size, 0, none⟩) 0 0) []) := Lib.hid ((ROwn.lit (R := stR) w3.drew w3.heap.size (Nat.le_refl _) rfl).alloc (.cells #[.string u] 9))
                have HX3 : Hid (ROwn stR ((w3.drew.alloc (.cells #[.string u] 9)).alloc (.cells #[] 9)) w3.heap.size (.slice (some ⟨w3.heap.size + 1, 0, none⟩) 0 0) []) := Lib.hid (ROwn.lit (R := stR) (B := w3.heap.size) (w3.drew.alloc (.cells #[.string u] 9)) (w3.heap.size + 1) (by simp) (by simp))
                have HTd : Hid (SIn w3.drew A N cap T) := Lib.hid (show SIn w3.drew A N cap T from HI3.out)
                have HT1 := Lib.hid (HTd.out.below (below_new' w3.drew (.cells #[] 9)) (Nat.le_refl _))
                have HT2 := Lib.hid (HT1.out.below (below_new' (w3.drew.alloc (.cells #[] 9)) (.cells #[.string u] 9)) (Nat.le_refl _))
                have HT4 := Lib.hid (HTd.out.below (below_new' w3.drew (.cells #[.string u] 9)) (Nat.le_refl _))
                have HT3 := Lib.hid (HT4.out.below (below_new' (w3.drew.alloc (.cells #[.string u] 9)) (.cells #[] 9)) (Nat.le_refl _))
                have HV2 := Lib.hid (RAt.made stR (w3.drew.alloc (.cells #[] 9)) [u] (w3.heap.size + 1) (by simp))
                have HV3 := Lib.hid ((RAt.made stR w3.drew [u] w3.heap.size rfl).below (below_new' (w3.drew.alloc (.cells #[.string u] 9)) (.cells #[] 9)) (Nat.le_refl _))
                have HRlt := Lib.hid HR3.out.lt
                have HSlt := Lib.hid HS3.out.lt
                have HAlt := Lib.hid HA3.out.lt
                clear HS HR HB
                go_wp2
                go_region_held3 (fun w' => w'.cell? ⟨w.heap.size, 1, none⟩ = some (.string us) ∧ w'.cell? ⟨w.heap.size, 2, none⟩ = some (.slice A N cap) ∧ w'.cell? ⟨D, 0, none⟩ = some (.string u)) (first | with_reducible exact s8 | with_reducible exact s9 | exact ⟨(HS6.out.alloc (.cells #[.string u] 9)).cell 1, (HS6.out.alloc (.cells #[.string u] 9)).cell 2, (HA6.out.alloc (.cells #[.string u] 9)).cell 0⟩ | exact ⟨HS6.out.cell 1, HS6.out.cell 2, HA6.out.cell 0⟩ | exact ⟨HSq2.out.cell 1, HSq2.out.cell 2, HAq2.out.cell 0⟩ | exact ⟨HSq3.out.cell 1, HSq3.out.cell 2, HAq3.out.cell 0⟩ | exact ⟨HS1.out.cell 1, HS1.out.cell 2, HA1.out.cell 0⟩ | exact ⟨HS4.out.cell 1, HS4.out.cell 2, HA4.out.cell 0⟩ | exact ⟨HSd.out.cell 1, HSd.out.cell 2, HAd.out.cell 0⟩ | go_keep) (first
                  | (have HOA := HO6
                     have HBA := Lib.hid (HB6.out.alloc HB6.out.size (.cells #[.string u] 9))
                     refine step_append_rows rfl (.tmp 62) (.tmp 65) 23 rfl stR w3.heap.size i0 _ 16 Tryz.underlying23 hi0 hq0 hq1 hq2 rfl (by decide) _ T [u] N HTN.out rfl (HO6.out.alloc (.cells #[.string u] 9)) (some ⟨w6.heap.size, 0, none⟩) 1 1 rfl rfl (RAt.made stR w6 [u] _ rfl) (fun e => by cases e) (fun q e => by cases e; rfl) hml2 hby2 (by have := HZ6.out; simp; omega) ?_
                     intro v' w8 hown hgrow hnn
                     obtain ⟨A8, N8, cap8, rfl⟩ := hown.val
                     have hN8 : N8 = N + 1 := hown.len.1.trans (by rw [List.length_append, HTN.out]; rfl)
                     subst hN8
                     have HO8 := Lib.hid hown
                     have HR8 := Lib.hid ((HR6.out.alloc (.cells #[.string u] 9)).grown hgrow (fun e => by have := HRlt.out; have := (World.ownsRow.lt HOA.out _ e.symm).1; omega))
                     have HS8 := Lib.hid ((HS6.out.alloc (.cells #[.string u] 9)).grown hgrow (fun e => by have := HSlt.out; have := (World.ownsRow.lt HOA.out _ e.symm).1; omega))
                     have HA8 := Lib.hid ((HA6.out.alloc (.cells #[.string u] 9)).grown hgrow (fun e => by have := HAlt.out; have := (World.ownsRow.lt HOA.out _ e.symm).1; omega))
                     have HB8 := Lib.hid (below_far (HBA.out) hgrow (fun g e => by have := HSlt.out; have := (World.ownsRow.lt HOA.out _ e).1; omega))
                     have hs8 := HS8.out
                     have hr8 := HR8.out
                     have y8 := hs8.cell 1
                     have z0 := hr8.cell 0
                     have z1 := hr8.cell 1
                     have z2 := hr8.cell 2
                     have z3 := hr8.cell 3
                     have f0 := hr8.free 0
                     have f1 := hr8.free 1
                     have f2 := hr8.free 2
                     have f3 := hr8.free 3
                     simp only [List.getElem?_toArray, List.getElem?_cons_zero, List.getElem?_cons_succ] at y8 z0 z1 z2 z3
                     have hf := put_sb hr8 (.int .i64 4) (.string us) (.slice A8 (N + 1) cap8) (.string ⟨#[]⟩)
                     have r0 := hf.cell 0
                     have r1 := hf.cell 1
                     have r2 := hf.cell 2
                     have r3 := hf.cell 3
                     simp only [List.getElem?_toArray, List.getElem?_cons_zero, List.getElem?_cons_succ] at r0 r1 r2 r3
                     have h9 := apart4 hs8 (R := w.heap.size + 1) (by omega) (.int .i64 4) (.string us) (.slice A8 (N + 1) cap8) (.string ⟨#[]⟩)
                     have g9 := apart4 HA8.out (R := w.heap.size + 1) (by have := HD3.out; omega) (.int .i64 4) (.string us) (.slice A8 (N + 1) cap8) (.string ⟨#[]⟩)
                     have s91 := h9.cell 1
                     have s92 := h9.cell 2
                     have s93 := g9.cell 0
                     have s81 := hs8.cell 1
                     have s82 := hs8.cell 2
                     have s83 := HA8.out.cell 0
                     simp only [List.getElem?_toArray, List.getElem?_cons_zero, List.getElem?_cons_succ] at s91 s92 s93 s81 s82 s83
                     have s8 := And.intro s81 (And.intro s82 s83)
                     have s9 := And.intro s91 (And.intro s92 s93)
                     clear hown hgrow hnn hs8 hr8 hf h9 g9 s81 s82 s83 s91 s92 s93)
                  | (have HOA := HO7
                     have HBA := HB6
                     refine step_append_rows rfl (.tmp 62) (.tmp 65) 23 rfl stR w3.heap.size i0 _ 16 Tryz.underlying23 hi0 hq0 hq1 hq2 rfl (by decide) _ T [u] N HTN.out rfl HO7.out (some ⟨w3.heap.size + 1, 0, none⟩) 1 1 rfl rfl HRU7.out (fun e => by cases e) (fun q e => by cases e; rfl) hml2 hby2 HZ6.out ?_
                     intro v' w8 hown hgrow hnn
                     obtain ⟨A8, N8, cap8, rfl⟩ := hown.val
                     have hN8 : N8 = N + 1 := hown.len.1.trans (by rw [List.length_append, HTN.out]; rfl)
                     subst hN8
                     have HO8 := Lib.hid hown
                     have HR8 := Lib.hid ((HR6.out).grown hgrow (fun e => by have := HRlt.out; have := (World.ownsRow.lt HOA.out _ e.symm).1; omega))
                     have HS8 := Lib.hid ((HS6.out).grown hgrow (fun e => by have := HSlt.out; have := (World.ownsRow.lt HOA.out _ e.symm).1; omega))
                     have HA8 := Lib.hid ((HA6.out).grown hgrow (fun e => by have := HAlt.out; have := (World.ownsRow.lt HOA.out _ e.symm).1; omega))
                     have HB8 := Lib.hid (below_far (HBA.out) hgrow (fun g e => by have := HSlt.out; have := (World.ownsRow.lt HOA.out _ e).1; omega))
                     have hs8 := HS8.out
                     have hr8 := HR8.out
                     have y8 := hs8.cell 1
                     have z0 := hr8.cell 0
                     have z1 := hr8.cell 1
                     have z2 := hr8.cell 2
                     have z3 := hr8.cell 3
                     have f0 := hr8.free 0
                     have f1 := hr8.free 1
                     have f2 := hr8.free 2
                     have f3 := hr8.free 3
                     simp only [List.getElem?_toArray, List.getElem?_cons_zero, List.getElem?_cons_succ] at y8 z0 z1 z2 z3
                     have hf := put_sb hr8 (.int .i64 4) (.string us) (.slice A8 (N + 1) cap8) (.string ⟨#[]⟩)
                     have r0 := hf.cell 0
                     have r1 := hf.cell 1
                     have r2 := hf.cell 2
                     have r3 := hf.cell 3
                     simp only [List.getElem?_toArray, List.getElem?_cons_zero, List.getElem?_cons_succ] at r0 r1 r2 r3
                     have h9 := apart4 hs8 (R := w.heap.size + 1) (by omega) (.int .i64 4) (.string us) (.slice A8 (N + 1) cap8) (.string ⟨#[]⟩)
                     have g9 := apart4 HA8.out (R := w.heap.size + 1) (by have := HD3.out; omega) (.int .i64 4) (.string us) (.slice A8 (N + 1) cap8) (.string ⟨#[]⟩)
                     have s91 := h9.cell 1
                     have s92 := h9.cell 2
                     have s93 := g9.cell 0
                     have s81 := hs8.cell 1
                     have s82 := hs8.cell 2
                     have s83 := HA8.out.cell 0
                     simp only [List.getElem?_toArray, List.getElem?_cons_zero, List.getElem?_cons_succ] at s91 s92 s93 s81 s82 s83
                     have s8 := And.intro s81 (And.intro s82 s83)
                     have s9 := And.intro s91 (And.intro s92 s93)
                     clear hown hgrow hnn hs8 hr8 hf h9 g9 s81 s82 s83 s91 s92 s93)
                  | (have HOA := HO9
                     have HBA := HB6
                     refine step_append_rows rfl (.tmp 62) (.tmp 65) 23 rfl stR w3.heap.size i0 _ 16 Tryz.underlying23 hi0 hq0 hq1 hq2 rfl (by decide) _ T [u] N HTN.out rfl HO9.out (some ⟨w3.heap.size, 0, none⟩) 1 1 rfl rfl HRU7.out (fun e => by cases e) (fun q e => by cases e; rfl) hml2 hby2 HZ6.out ?_
                     intro v' w8 hown hgrow hnn
                     obtain ⟨A8, N8, cap8, rfl⟩ := hown.val
                     have hN8 : N8 = N + 1 := hown.len.1.trans (by rw [List.length_append, HTN.out]; rfl)
                     subst hN8
                     have HO8 := Lib.hid hown
                     have HR8 := Lib.hid ((HR6.out).grown hgrow (fun e => by have := HRlt.out; have := (World.ownsRow.lt HOA.out _ e.symm).1; omega))
                     have HS8 := Lib.hid ((HS6.out).grown hgrow (fun e => by have := HSlt.out; have := (World.ownsRow.lt HOA.out _ e.symm).1; omega))
                     have HA8 := Lib.hid ((HA6.out).grown hgrow (fun e => by have := HAlt.out; have := (World.ownsRow.lt HOA.out _ e.symm).1; omega))
                     have HB8 := Lib.hid (below_far (HBA.out) hgrow (fun g e => by have := HSlt.out; have := (World.ownsRow.lt HOA.out _ e).1; omega))
                     have hs8 := HS8.out
                     have hr8 := HR8.out
                     have y8 := hs8.cell 1
                     have z0 := hr8.cell 0
                     have z1 := hr8.cell 1
                     have z2 := hr8.cell 2
                     have z3 := hr8.cell 3
                     have f0 := hr8.free 0
                     have f1 := hr8.free 1
                     have f2 := hr8.free 2
                     have f3 := hr8.free 3
                     simp only [List.getElem?_toArray, List.getElem?_cons_zero, List.getElem?_cons_succ] at y8 z0 z1 z2 z3
                     have hf := put_sb hr8 (.int .i64 4) (.string us) (.slice A8 (N + 1) cap8) (.string ⟨#[]⟩)
                     have r0 := hf.cell 0
                     have r1 := hf.cell 1
                     have r2 := hf.cell 2
                     have r3 := hf.cell 3
                     simp only [List.getElem?_toArray, List.getElem?_cons_zero, List.getElem?_cons_succ] at r0 r1 r2 r3
                     have h9 := apart4 hs8 (R := w.heap.size + 1) (by omega) (.int .i64 4) (.string us) (.slice A8 (N + 1) cap8) (.string ⟨#[]⟩)
                     have g9 := apart4 HA8.out (R := w.heap.size + 1) (by have := HD3.out; omega) (.int .i64 4) (.string us) (.slice A8 (N + 1) cap8) (.string ⟨#[]⟩)
                     have s91 := h9.cell 1
                     have s92 := h9.cell 2
                     have s93 := g9.cell 0
                     have s81 := hs8.cell 1
                     have s82 := hs8.cell 2
                     have s83 := HA8.out.cell 0
                     simp only [List.getElem?_toArray, List.getElem?_cons_zero, List.getElem?_cons_succ] at s91 s92 s93 s81 s82 s83
                     have s8 := And.intro s81 (And.intro s82 s83)
                     have s9 := And.intro s91 (And.intro s92 s93)
                     clear hown hgrow hnn hs8 hr8 hf h9 g9 s81 s82 s83 s91 s92 s93)
                  | (with_reducible refine at_world ((w3.alloc (.cells #[] 9)).drew) ?_
                     refine step_append_rows rfl (.tmp 59) (.tmp 61) 23 rfl stR w3.heap.size i0 _ 16 Tryz.underlying23 hi0 hq0 hq1 hq2 rfl (by decide) _ [] T 0 rfl rfl HX1.out A N cap rfl HTN.out HT1.out.2.2.1 HI.out.2.2.2.1 HI.out.2.2.2.2.1 hml1 hby1 (by first | (simp; done) | (simp; omega)) ?_
                     intro v' w6 hown hgrow hnn
                     rw [List.nil_append] at hown
                     obtain ⟨A6, N6, cap6, rfl⟩ := hown.val
                     have hN6 : N = N6 := (hown.len.1.trans HTN.out).symm
                     subst hN6
                     have HO6 := Lib.hid hown
                     have HR6 := Lib.hid (HR1.out.grown hgrow (fun e => by have h1 := HRlt.out; have h2 := Option.some.inj (show some (w.heap.size + 1) = some (w3.heap.size) from e); omega))
                     have HA6 := Lib.hid (HA1.out.grown hgrow (fun e => by have h1 := HAlt.out; have h2 := Option.some.inj (show some D = some (w3.heap.size) from e); omega))
                     have HS6 := Lib.hid (HS1.out.grown hgrow (fun e => by have h1 := HSlt.out; have h2 := Option.some.inj (show some w.heap.size = some (w3.heap.size) from e); omega))
                     have HB6 := Lib.hid (below_far HB1.out hgrow (fun g e => by have h1 := HSlt.out; have h2 := Option.some.inj (show some (w3.heap.size) = some g from e); omega))
                     have HZ6 : Hid (w3.heap.size ≤ w6.heap.size) := Lib.hid (Nat.le_trans (by simp) hgrow.size)
                     have y1 := HS6.out.cell 1
                     have ya := HA6.out.cell 0
                     have yy := (HA6.out.alloc (.cells #[.string u] 9)).cell 0
                     have yz := (HS6.out.alloc (.cells #[.string u] 9)).cell 1
                     simp only [List.getElem?_toArray, List.getElem?_cons_zero, List.getElem?_cons_succ] at y1 ya yy yz
                     clear hown hgrow hnn)
                  | (with_reducible refine at_world (((w3.alloc (.cells #[] 9)).alloc (.cells #[.string u] 9)).drew) ?_
                     refine step_append_rows rfl (.tmp 59) (.tmp 61) 23 rfl stR w3.heap.size i0 _ 16 Tryz.underlying23 hi0 hq0 hq1 hq2 rfl (by decide) _ [] T 0 rfl rfl HX2.out A N cap rfl HTN.out HT2.out.2.2.1 HI.out.2.2.2.1 HI.out.2.2.2.2.1 hml1 hby1 (by first | (simp; done) | (simp; omega)) ?_
                     intro v' w6 hown hgrow hnn
                     rw [List.nil_append] at hown
                     obtain ⟨A6, N6, cap6, rfl⟩ := hown.val
                     have hN6 : N = N6 := (hown.len.1.trans HTN.out).symm
                     subst hN6
                     have HO7 := Lib.hid hown
                     have HR6 := Lib.hid (HRq2.out.grown hgrow (fun e => by have h1 := HRlt.out; have h2 := Option.some.inj (show some (w.heap.size + 1) = some (w3.heap.size) from e); omega))
                     have HA6 := Lib.hid (HAq2.out.grown hgrow (fun e => by have h1 := HAlt.out; have h2 := Option.some.inj (show some D = some (w3.heap.size) from e); omega))
                     have HS6 := Lib.hid (HSq2.out.grown hgrow (fun e => by have h1 := HSlt.out; have h2 := Option.some.inj (show some w.heap.size = some (w3.heap.size) from e); omega))
                     have HB6 := Lib.hid (below_far HBq2.out hgrow (fun g e => by have h1 := HSlt.out; have h2 := Option.some.inj (show some (w3.heap.size) = some g from e); omega))
                     have HZ6 : Hid (w3.heap.size ≤ w6.heap.size) := Lib.hid (Nat.le_trans (by simp; omega) hgrow.size)
                     have HRU7 : Hid (RAt stR w6 (some ⟨w3.heap.size + 1, 0, none⟩) [u]) := Lib.hid (by exact HV2.out.grown hgrow (fun b o e he => by cases e; have h2 : w3.heap.size + 1 = w3.heap.size := he; omega))
                     have y1 := HS6.out.cell 1
                     have ya := HA6.out.cell 0
                     have yy := (HA6.out.alloc (.cells #[.string u] 9)).cell 0
                     have yz := (HS6.out.alloc (.cells #[.string u] 9)).cell 1
                     simp only [List.getElem?_toArray, List.getElem?_cons_zero, List.getElem?_cons_succ] at y1 ya yy yz
                     clear hown hgrow hnn)
                  | (with_reducible refine at_world (((w3.alloc (.cells #[.string u] 9)).alloc (.cells #[] 9)).drew) ?_
                     refine step_append_rows rfl (.tmp 59) (.tmp 61) 23 rfl stR w3.heap.size i0 _ 16 Tryz.underlying23 hi0 hq0 hq1 hq2 rfl (by decide) _ [] T 0 rfl rfl HX3.out A N cap rfl HTN.out HT3.out.2.2.1 HI.out.2.2.2.1 HI.out.2.2.2.2.1 hml1 hby1 (by first | (simp; done) | (simp; omega)) ?_
                     intro v' w6 hown hgrow hnn
                     rw [List.nil_append] at hown
                     obtain ⟨A6, N6, cap6, rfl⟩ := hown.val
                     have hN6 : N = N6 := (hown.len.1.trans HTN.out).symm
                     subst hN6
                     have HO9 := Lib.hid hown
                     have HR6 := Lib.hid (HRq3.out.grown hgrow (fun e => by have h1 := HRlt.out; have h2 := Option.some.inj (show some (w.heap.size + 1) = some (w3.heap.size + 1) from e); omega))
                     have HA6 := Lib.hid (HAq3.out.grown hgrow (fun e => by have h1 := HAlt.out; have h2 := Option.some.inj (show some D = some (w3.heap.size + 1) from e); omega))
                     have HS6 := Lib.hid (HSq3.out.grown hgrow (fun e => by have h1 := HSlt.out; have h2 := Option.some.inj (show some w.heap.size = some (w3.heap.size + 1) from e); omega))
                     have HB6 := Lib.hid (below_far HBq3.out hgrow (fun g e => by have h1 := HSlt.out; have h2 := Option.some.inj (show some (w3.heap.size + 1) = some g from e); omega))
                     have HZ6 : Hid (w3.heap.size ≤ w6.heap.size) := Lib.hid (Nat.le_trans (by simp; omega) hgrow.size)
                     have HRU7 : Hid (RAt stR w6 (some ⟨w3.heap.size, 0, none⟩) [u]) := Lib.hid (by exact HV3.out.grown hgrow (fun b o e he => by cases e; have h2 : w3.heap.size = w3.heap.size + 1 := he; omega))
                     have y1 := HS6.out.cell 1
                     have ya := HA6.out.cell 0
                     have yy := (HA6.out.alloc (.cells #[.string u] 9)).cell 0
                     have yz := (HS6.out.alloc (.cells #[.string u] 9)).cell 1
                     simp only [List.getElem?_toArray, List.getElem?_cons_zero, List.getElem?_cons_succ] at y1 ya yy yz
                     clear hown hgrow hnn))
                all_goals
                  go_wp2
                  refine bodyPost_ret (v := .tuple #[.agg #[.int .i64 4, .string us, .slice A8 (N + 1) cap8, .string ⟨#[]⟩], .int .i64 250]) (by simp [results, Tryz.results88, go_sem, r0, r1, r2, r3]) rfl ?_
                  rw [HE.out]
                  refine ⟨A8, N + 1, cap8, rfl, (SIn.made HO8.out (by rw [List.length_append, HTN.out]; simp; omega) (fun g hg => ?_)).set4 (fun q e => ?_) _ _ _ _, (fun q e => .inr ?_), below_set4 HB8.out (by omega) _ _ _ _⟩
                  · rcases List.mem_append.1 hg with h1 | h1
                    · exact HI.out.2.2.2.2.2.1 g h1
                    · simp at h1; rw [h1]; exact HUS.out
                  · have h1 := (own_blk HO8.out q e).1
                    have h2 := HRlt.out
                    omega
                  · have h1 := (own_blk HO8.out q e).1
                    have h2 := HSlt.out
                    omega
      ·
        obtain ⟨v1, v2⟩ := ne_walk hv
        have v3 : (v.toList != d.toList) = true := bne_iff_ne.2 v2
        have HE : Hid (rcptF ⟨st, us, T, tx⟩ L d l = (⟨st, us, T, tx⟩, 550)) := Lib.hid (by unfold rcptF; rw [if_neg (show ¬ (st ≠ 3 ∧ st ≠ 4) by omega), if_neg (by rw [HO.out]; simp), if_neg (by rw [HV.out]; exact fun h => hv h.1)])
        clear h34 hv
        rcases t3 with t3 | ⟨t3, t4⟩
        ·
          go_enter Tryz.func88, Tryz.ntmps88
          go_wp2_with fail
          refine HC.out.mono ?_
          rintro e w2 ⟨rfl, hb2⟩
          have HS2 := Lib.hid (HS.out.below hb2 HS.out.lt)
          have HR2 := Lib.hid (HR.out.below hb2 HR.out.lt)
          have HB2 := Lib.hid (HB.out.trans (hb2.mono HB.out.size))
          have HL2 := Lib.hid (HLL.out.below hb2 (Nat.le_refl _))
          have HZ2 : Hid (w.heap.size + 1 < w2.heap.size) := Lib.hid HR2.out.lt
          clear hb2 c0 c1 c2 c3 z0 z1 z2 z3 f0 f1 f2 f3 HC
          have hs := HS2.out.alloc (.cells #[.string u, .string v] 112)
          have hr := HR2.out.alloc (.cells #[.string u, .string v] 112)
          have ha := Whole.made w2 112 #[.string u, .string v]
          have a0 := ha.cell 0
          have a1 := ha.cell 1
          simp only [List.getElem?_toArray, List.getElem?_cons_zero, List.getElem?_cons_succ] at a0 a1
          have HB3 := Lib.hid (HB2.out.alloc HB2.out.size (.cells #[.string u, .string v] 112))
          have c0 := hs.cell 0
          have c1 := hs.cell 1
          have c2 := hs.cell 2
          have c3 := hs.cell 3
          have z0 := hr.cell 0
          have z1 := hr.cell 1
          have z2 := hr.cell 2
          have z3 := hr.cell 3
          have f0 := hr.free 0
          have f1 := hr.free 1
          have f2 := hr.free 2
          have f3 := hr.free 3
          simp only [List.getElem?_toArray, List.getElem?_cons_zero, List.getElem?_cons_succ] at c0 c1 c2 c3 z0 z1 z2 z3
          clear hs
          have hf := put_sb hr (.int .i64 st) (.string us) (.slice A N cap) (.string tx)
          have r0 := hf.cell 0
          have r1 := hf.cell 1
          have r2 := hf.cell 2
          have r3 := hf.cell 3
          simp only [List.getElem?_toArray, List.getElem?_cons_zero, List.getElem?_cons_succ] at r0 r1 r2 r3
          clear hf ha hr
          go_wp2
          refine bodyPost_ret (v := .tuple #[.agg #[.int .i64 st, .string us, .slice A N cap, .string tx], .int .i64 550]) (by simp [results, Tryz.results88, go_sem, r0, r1, r2, r3]) rfl ?_
          rw [HE.out]
          exact ⟨_, _, _, rfl, (HI.out.below HB3.out (Nat.le_refl _)).set4 HNE.out _ _ _ _, Fr.same _ _, below_set4 HB3.out (by omega) _ _ _ _⟩
        ·
          go_enter Tryz.func88, Tryz.ntmps88
          go_wp2_with fail
          refine HC.out.mono ?_
          rintro e w2 ⟨rfl, hb2⟩
          have HS2 := Lib.hid (HS.out.below hb2 HS.out.lt)
          have HR2 := Lib.hid (HR.out.below hb2 HR.out.lt)
          have HB2 := Lib.hid (HB.out.trans (hb2.mono HB.out.size))
          have HL2 := Lib.hid (HLL.out.below hb2 (Nat.le_refl _))
          have HZ2 : Hid (w.heap.size + 1 < w2.heap.size) := Lib.hid HR2.out.lt
          clear hb2 c0 c1 c2 c3 z0 z1 z2 z3 f0 f1 f2 f3 HC
          have hs := HS2.out.alloc (.cells #[.string u, .string v] 112)
          have hr := HR2.out.alloc (.cells #[.string u, .string v] 112)
          have ha := Whole.made w2 112 #[.string u, .string v]
          have a0 := ha.cell 0
          have a1 := ha.cell 1
          simp only [List.getElem?_toArray, List.getElem?_cons_zero, List.getElem?_cons_succ] at a0 a1
          have HB3 := Lib.hid (HB2.out.alloc HB2.out.size (.cells #[.string u, .string v] 112))
          have c0 := hs.cell 0
          have c1 := hs.cell 1
          have c2 := hs.cell 2
          have c3 := hs.cell 3
          have z0 := hr.cell 0
          have z1 := hr.cell 1
          have z2 := hr.cell 2
          have z3 := hr.cell 3
          have f0 := hr.free 0
          have f1 := hr.free 1
          have f2 := hr.free 2
          have f3 := hr.free 3
          simp only [List.getElem?_toArray, List.getElem?_cons_zero, List.getElem?_cons_succ] at c0 c1 c2 c3 z0 z1 z2 z3
          clear hs
          have hf := put_sb hr (.int .i64 st) (.string us) (.slice A N cap) (.string tx)
          have r0 := hf.cell 0
          have r1 := hf.cell 1
          have r2 := hf.cell 2
          have r3 := hf.cell 3
          simp only [List.getElem?_toArray, List.getElem?_cons_zero, List.getElem?_cons_succ] at r0 r1 r2 r3
          clear hf ha hr
          go_wp2
          refine bodyPost_ret (v := .tuple #[.agg #[.int .i64 st, .string us, .slice A N cap, .string tx], .int .i64 550]) (by simp [results, Tryz.results88, go_sem, r0, r1, r2, r3]) rfl ?_
          rw [HE.out]
          exact ⟨_, _, _, rfl, (HI.out.below HB3.out (Nat.le_refl _)).set4 HNE.out _ _ _ _, Fr.same _ _, below_set4 HB3.out (by omega) _ _ _ _⟩
  ·
    have t3 : (st != 3) = true := bne_iff_ne.2 (by omega)
    have t4 : (st != 4) = true := bne_iff_ne.2 (by omega)
    have HE : Hid (rcptF ⟨st, us, T, tx⟩ L d l = (⟨st, us, T, tx⟩, 503)) := Lib.hid (by unfold rcptF; rw [if_pos (show st ≠ 3 ∧ st ≠ 4 by omega)])
    clear h34
    go_enter Tryz.func88, Tryz.ntmps88
    go_wp2_with fail
    refine HC.out.mono ?_
    rintro e w2 ⟨rfl, hb2⟩
    have HS2 := Lib.hid (HS.out.below hb2 HS.out.lt)
    have HR2 := Lib.hid (HR.out.below hb2 HR.out.lt)
    have HB2 := Lib.hid (HB.out.trans (hb2.mono HB.out.size))
    have HL2 := Lib.hid (HLL.out.below hb2 (Nat.le_refl _))
    have HZ2 : Hid (w.heap.size + 1 < w2.heap.size) := Lib.hid HR2.out.lt
    clear hb2 c0 c1 c2 c3 z0 z1 z2 z3 f0 f1 f2 f3 HC
    have hs := HS2.out.alloc (.cells #[.string u, .string v] 112)
    have hr := HR2.out.alloc (.cells #[.string u, .string v] 112)
    have ha := Whole.made w2 112 #[.string u, .string v]
    have a0 := ha.cell 0
    have a1 := ha.cell 1
    simp only [List.getElem?_toArray, List.getElem?_cons_zero, List.getElem?_cons_succ] at a0 a1
    have HB3 := Lib.hid (HB2.out.alloc HB2.out.size (.cells #[.string u, .string v] 112))
    have c0 := hs.cell 0
    have c1 := hs.cell 1
    have c2 := hs.cell 2
    have c3 := hs.cell 3
    have z0 := hr.cell 0
    have z1 := hr.cell 1
    have z2 := hr.cell 2
    have z3 := hr.cell 3
    have f0 := hr.free 0
    have f1 := hr.free 1
    have f2 := hr.free 2
    have f3 := hr.free 3
    simp only [List.getElem?_toArray, List.getElem?_cons_zero, List.getElem?_cons_succ] at c0 c1 c2 c3 z0 z1 z2 z3
    clear hs
    have hf := put_sb hr (.int .i64 st) (.string us) (.slice A N cap) (.string tx)
    have r0 := hf.cell 0
    have r1 := hf.cell 1
    have r2 := hf.cell 2
    have r3 := hf.cell 3
    simp only [List.getElem?_toArray, List.getElem?_cons_zero, List.getElem?_cons_succ] at r0 r1 r2 r3
    clear hf ha hr
    go_wp2
    refine bodyPost_ret (v := .tuple #[.agg #[.int .i64 st, .string us, .slice A N cap, .string tx], .int .i64 503]) (by simp [results, Tryz.results88, go_sem, r0, r1, r2, r3]) rfl ?_
    rw [HE.out]
    exact ⟨_, _, _, rfl, (HI.out.below HB3.out (Nat.le_refl _)).set4 HNE.out _ _ _ _, Fr.same _ _, below_set4 HB3.out (by omega) _ _ _ _⟩
end Go.Proofs.YtichajalinkcdaaGreatDoor
