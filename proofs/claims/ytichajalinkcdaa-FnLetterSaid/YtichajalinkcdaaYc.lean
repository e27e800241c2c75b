/-
  The contracts of SubmissionLetter, of both. Condition: the receivers can be read; texts are not too long.
-/
import Derived.Test.YtichajalinkcdaaQe
import Derived.Deep.RegionHeld3
import Derived.Outline
namespace Go.Proofs.Ytichajalinkcdaa
open Go.RowKit
set_option linter.unusedVariables false

theorem apart3 {w : World} {b R : Nat} {t : TypeId} {cs : Array Value} (h : Whole w b t cs) (hne : b ≠ R) (a0 a1 a2 : Value) : Whole (((w.setCell ⟨R, 0, none⟩ a0).setCell ⟨R, 1, none⟩ a1).setCell ⟨R, 2, none⟩ a2) b t cs := ((h.apart (p := ⟨R, 0, none⟩) hne _).apart (p := ⟨R, 1, none⟩) hne _).apart (p := ⟨R, 2, none⟩) hne _
theorem put_lt {w : World} {R : Nat} {a0 a1 a2 : Value} (h : Whole w R 28 #[a0, a1, a2]) (b0 b1 b2 : Value) : Whole (((w.setCell ⟨R, 0, none⟩ b0).setCell ⟨R, 1, none⟩ b1).setCell ⟨R, 2, none⟩ b2) R 28 #[b0, b1, b2] := ((h.store 0 _).store 1 _).store 2 _
theorem below_set3 {B R : Nat} {w w' : World} (h : Below B w w') (hR : B ≤ R) (a b c : Value) : Below B w (((w'.setCell ⟨R, 0, none⟩ a).setCell ⟨R, 1, none⟩ b).setCell ⟨R, 2, none⟩ c) := ((h.setCell hR a).setCell hR b).setCell hR c
theorem at_world3 {P : Program} {C : Prop} {inst : Decidable C} {o : Oper} {a : Act} {K : Act → World → Prop} {Q : Exit → Act → World → Prop} {E : Prop} (w : World) (h : if C then Oper.wp P o a w K Q else E) : if C then Oper.wp P o a w K Q else E := h
theorem rown_blk {α : Type} {R : RowT α} {w : World} {B : Nat} {v : Value} {L : List α} (h : ROwn R w B v L) : ∀ g, v.ownBlock = some g → B ≤ g ∧ g < w.heap.size := fun g e => World.ownsRow.lt h g e
/-- A complete letter. -/
def okL (s : Sb) : Bool := sbV s && (decide (s.st = 5) && decide (s.tx.size ≤ 20))
/-- A letter, and whether it is complete. -/
def GiveLt (w : World) (z : Bool) (us : ByteArray) (T : List ByteArray) (tx : ByteArray) (e : Ending) (w' : World) : Prop :=
  ∃ A N cap, e = .returned (.tuple #[.agg #[.string us, .slice A N cap, .string tx], .bool z]) ∧ ROwn stR w' w.heap.size (.slice A N cap) T ∧ Below w.heap.size w w'
theorem letter_two (w : World) (X Y : Array Value) : Whole ((w.alloc (.cells X 25)).alloc (.cells Y 28)) w.heap.size 25 X ∧ Whole ((w.alloc (.cells X 25)).alloc (.cells Y 28)) (w.heap.size + 1) 28 Y ∧ Below w.heap.size w ((w.alloc (.cells X 25)).alloc (.cells Y 28)) := by
  refine ⟨(Whole.made w _ X).alloc _, ?_, ((Below.refl _ _).alloc (Nat.le_refl _) _).alloc (by simp) _⟩
  have := Whole.made (w.alloc (.cells X 25)) 28 Y
  simpa using this
set_option maxRecDepth 20000 in
set_option maxHeartbeats 4000000 in
theorem spec_letter (st : Int) (us tx : ByteArray) (T : List ByteArray) (A : Option Addr) (N cap : Nat) (w : World) (h : SIn w A N cap T) (hu : us.size ≤ 16777216) : Calls Try.prog 11 #[.agg #[.int .i64 st, .string us, .slice A N cap, .string tx]] w (if okL ⟨st, us, T, tx⟩ then GiveLt w true us T tx else GiveLt w false eB [] eB) := by
  obtain ⟨v, hv⟩ : ∃ v, sbV ⟨st, us, T, tx⟩ = v := ⟨_, rfl⟩
  have HV := Lib.hid hv
  obtain ⟨S, hS⟩ : ∃ S, w.heap.size = S := ⟨_, rfl⟩
  obtain ⟨wq, hwq⟩ : ∃ wq, ((w.alloc (.cells #[.int .i64 st, .string us, .slice A N cap, .string tx] 25)).alloc (.cells #[.string ⟨#[]⟩, .slice none 0 0, .string ⟨#[]⟩] 28)) = wq := ⟨_, rfl⟩
  obtain ⟨h1, h2, h3⟩ := letter_two w #[.int .i64 st, .string us, .slice A N cap, .string tx] #[.string ⟨#[]⟩, .slice none 0 0, .string ⟨#[]⟩]
  rw [hwq, hS] at h1 h2 h3
  have HS := Lib.hid h1
  have HR := Lib.hid h2
  have HB := Lib.hid h3
  have HI := Lib.hid (h.below h3 (Nat.le_of_eq hS))
  clear h h1 h2 h3
  have c0 := HS.out.cell 0
  have c1 := HS.out.cell 1
  have c2 := HS.out.cell 2
  have c3 := HS.out.cell 3
  simp at c0 c1 c2 c3
  cases v with
  | false =>
    have HF : Hid (okL ⟨st, us, T, tx⟩ = false) := Lib.hid (by unfold okL; rw [hv]; rfl)
    rw [HF.out]
    clear hv
    go_enter Try.func11, Try.ntmps11
    go_wp2_with fail
    refine (ssub_at HV.out _ HI.out hu).mono ?_
    rintro e w3 ⟨rfl, hb⟩
    have HS3 := Lib.hid (HS.out.below hb HS.out.lt)
    have HR3 := Lib.hid (HR.out.below hb HR.out.lt)
    have HB3 := Lib.hid (HB.out.trans (hb.mono (show S ≤ _ by have := HB.out.size; omega)))
    have HI3 := Lib.hid (HI.out.below hb (Nat.le_refl _))
    clear hb
    clear c0 c1 c2 c3
    have z0 := HR3.out.cell 0
    have z1 := HR3.out.cell 1
    have z2 := HR3.out.cell 2
    simp at z0 z1 z2
    have f0 := HR3.out.free 0
    have f1 := HR3.out.free 1
    have f2 := HR3.out.free 2
    have hf := put_lt HR3.out (.string ⟨#[]⟩) (.slice none 0 0) (.string ⟨#[]⟩)
    have r0 := hf.cell 0
    have r1 := hf.cell 1
    have r2 := hf.cell 2
    simp at r0 r1 r2
    clear hf
    go_wp2
    refine bodyPost_ret (v := .tuple #[.agg #[.string ⟨#[]⟩, .slice none 0 0, .string ⟨#[]⟩], .bool false]) (by simp [results, Try.results11, go_sem, r0, r1, r2]) rfl ?_
    exact ⟨none, 0, 0, rfl, ROwn.nil _ _, hS ▸ below_set3 HB3.out (by omega) _ _ _⟩
  | true =>
    by_cases h5 : st = 5
    · subst h5
      by_cases ht : tx.size ≤ 20
      · have ht2 : ¬ (20 : Int) < (tx.size : Int) := by omega
        have HF : Hid (okL ⟨5, us, T, tx⟩ = true) := Lib.hid (by unfold okL; rw [hv]; simp [ht])
        rw [HF.out]
        clear hv
        go_enter Try.func11, Try.ntmps11
        go_wp2_with fail
        refine (ssub_at HV.out _ HI.out hu).mono ?_
        rintro e w3 ⟨rfl, hb⟩
        have HS3 := Lib.hid (HS.out.below hb HS.out.lt)
        have HR3 := Lib.hid (HR.out.below hb HR.out.lt)
        have HB3 := Lib.hid (HB.out.trans (hb.mono (show S ≤ _ by have := HB.out.size; omega)))
        have HI3 := Lib.hid (HI.out.below hb (Nat.le_refl _))
        clear hb
        clear c0 c1 c2 c3
        have d0 := HS3.out.cell 0
        have d1 := HS3.out.cell 1
        have d2 := HS3.out.cell 2
        have d3 := HS3.out.cell 3
        simp at d0 d1 d2 d3
        have HTN : Hid (T.length = N) := Lib.hid HI.out.1
        have hN4 := HI.out.2.1
        obtain ⟨i0, hi0, hq0, hq1, hq2⟩ := info_parts Try.infoString
        have hml1 : 0 + N ≤ maxLen := by unfold maxLen; omega
        have hby1 : (0 + N) * 16 ≤ 140737488355328 := by omega
        have HSd := Lib.hid HS3.out.drew
        have HS1 := Lib.hid (HSd.out.alloc (.cells #[] 9))
        have HR1 := Lib.hid (HR3.out.drew.alloc (.cells #[] 9))
        have HB1 := Lib.hid (HB3.out.trans (((below_drew1 w3).trans ((below_new w3.drew (.cells #[] 9)).mono (Nat.le_refl _))).mono (show S ≤ _ by have := HB3.out.size; omega)))
        have HX1 : Hid (ROwn stR (w3.drew.alloc (.cells #[] 9)) w3.heap.size (.slice (some ⟨w3.heap.size, 0, none⟩) 0 0) []) := Lib.hid (ROwn.lit (R := stR) w3.drew w3.heap.size (Nat.le_refl _) rfl)
        have HTd : Hid (SIn w3.drew A N cap T) := Lib.hid (show SIn w3.drew A N cap T from HI3.out)
        have HT1 := Lib.hid (HTd.out.below (below_new w3.drew (.cells #[] 9)) (Nat.le_refl _))
        have p1 := HS1.out.cell 1
        have p2 := HS1.out.cell 2
        have p3 := HS1.out.cell 3
        simp at p1 p2 p3
        have HRlt : Hid (S + 1 < w3.heap.size) := Lib.hid HR3.out.lt
        clear HS HR HB
        go_wp2
        go_region_held3 (fun w' => w'.cell? ⟨S, 1, none⟩ = some (.string us) ∧ w'.cell? ⟨S, 2, none⟩ = some (.slice A N cap) ∧ w'.cell? ⟨S, 3, none⟩ = some (.string tx)) (first | with_reducible exact s9 | exact ⟨HS6.out.cell 1, HS6.out.cell 2, HS6.out.cell 3⟩ | exact ⟨HS1.out.cell 1, HS1.out.cell 2, HS1.out.cell 3⟩ | exact ⟨HSd.out.cell 1, HSd.out.cell 2, HSd.out.cell 3⟩ | go_keep) (
           (with_reducible refine at_world3 ((w3.alloc (.cells #[] 9)).drew) ?_
            refine step_append_rows rfl (.tmp 21) (.tmp 23) 23 rfl stR w3.heap.size i0 _ 16 Try.underlying23 hi0 hq0 hq1 hq2 rfl (by decide) _ [] T 0 rfl rfl HX1.out A N cap rfl HTN.out HT1.out.2.2.1 HI.out.2.2.2.1 HI.out.2.2.2.2.1 hml1 hby1 (by first | (simp; done) | (simp; omega)) ?_
            intro v' w6 hown hgrow hnn
            rw [List.nil_append] at hown
            obtain ⟨A6, N6, cap6, rfl⟩ := hown.val
            have hN6 : N = N6 := (hown.len.1.trans HTN.out).symm
            subst hN6
            have HO6 := Lib.hid hown
            have HR6 := Lib.hid (HR1.out.grown hgrow (fun e => by have h1 := HRlt.out; have h2 := Option.some.inj (show some (S + 1) = some (w3.heap.size) from e); omega))
            have HS6 := Lib.hid (HS1.out.grown hgrow (fun e => by have h1 := HRlt.out; have h2 := Option.some.inj (show some S = some (w3.heap.size) from e); omega))
            have HB6 : Hid (Below S w w6) := Lib.hid (HB1.out.grown hgrow (show S ≤ _ by have := HB1.out.size; omega) (fun g e => by have h1 := HRlt.out; have h2 := Option.some.inj (show some (w3.heap.size) = some g from e); omega))
            have y1 := HS6.out.cell 1
            have y2 := HS6.out.cell 2
            have y3 := HS6.out.cell 3
            simp at y1 y2 y3
            have z0 := HR6.out.cell 0
            have z1 := HR6.out.cell 1
            have z2 := HR6.out.cell 2
            simp at z0 z1 z2
            have f0 := HR6.out.free 0
            have f1 := HR6.out.free 1
            have f2 := HR6.out.free 2
            have hf := put_lt HR6.out (.string us) (.slice A6 N cap6) (.string tx)
            have r0 := hf.cell 0
            have r1 := hf.cell 1
            have r2 := hf.cell 2
            simp at r0 r1 r2
            have h9 := apart3 HS6.out (R := S + 1) (by omega) (.string us) (.slice A6 N cap6) (.string tx)
            have s91 := h9.cell 1
            have s92 := h9.cell 2
            have s93 := h9.cell 3
            simp at s91 s92 s93
            have s9 := And.intro s91 (And.intro s92 s93)
            clear hown hgrow hnn hf h9 s91 s92 s93))
        all_goals
          go_wp2
          refine bodyPost_ret (v := .tuple #[.agg #[.string us, .slice A6 N cap6, .string tx], .bool true]) (by simp [results, Try.results11, go_sem, r0, r1, r2]) rfl ?_
          refine ⟨A6, N, cap6, rfl, ?_, ?_⟩
          · rw [hS]
            have hle : S ≤ w3.heap.size := by have := HRlt.out; omega
            refine ROwn.store (ROwn.store (ROwn.store (HO6.out.from hle) ?_ _) ?_ _) ?_ _ <;> (intro e; have h1 := (rown_blk HO6.out _ e).1; have h2 := HRlt.out; simp only at h1; omega)
          · rw [hS]
            exact below_set3 HB6.out (by omega) _ _ _
      · have ht2 : (20 : Int) < (tx.size : Int) := by omega
        have HF : Hid (okL ⟨5, us, T, tx⟩ = false) := Lib.hid (by unfold okL; rw [hv]; simp [ht])
        rw [HF.out]
        clear hv
        go_enter Try.func11, Try.ntmps11
        go_wp2_with fail
        refine (ssub_at HV.out _ HI.out hu).mono ?_
        rintro e w3 ⟨rfl, hb⟩
        have HS3 := Lib.hid (HS.out.below hb HS.out.lt)
        have HR3 := Lib.hid (HR.out.below hb HR.out.lt)
        have HB3 := Lib.hid (HB.out.trans (hb.mono (show S ≤ _ by have := HB.out.size; omega)))
        have HI3 := Lib.hid (HI.out.below hb (Nat.le_refl _))
        clear hb
        clear c0 c1 c2 c3
        have d0 := HS3.out.cell 0
        have d3 := HS3.out.cell 3
        simp at d0 d3
        have z0 := HR3.out.cell 0
        have z1 := HR3.out.cell 1
        have z2 := HR3.out.cell 2
        simp at z0 z1 z2
        have f0 := HR3.out.free 0
        have f1 := HR3.out.free 1
        have f2 := HR3.out.free 2
        have hf := put_lt HR3.out (.string ⟨#[]⟩) (.slice none 0 0) (.string ⟨#[]⟩)
        have r0 := hf.cell 0
        have r1 := hf.cell 1
        have r2 := hf.cell 2
        simp at r0 r1 r2
        clear hf
        go_wp2
        refine bodyPost_ret (v := .tuple #[.agg #[.string ⟨#[]⟩, .slice none 0 0, .string ⟨#[]⟩], .bool false]) (by simp [results, Try.results11, go_sem, r0, r1, r2]) rfl ?_
        exact ⟨none, 0, 0, rfl, ROwn.nil _ _, hS ▸ below_set3 HB3.out (by omega) _ _ _⟩
    · have hs5 : (st != 5) = true := bne_iff_ne.2 h5
      have HF : Hid (okL ⟨st, us, T, tx⟩ = false) := Lib.hid (by unfold okL; rw [hv]; simp [h5])
      rw [HF.out]
      clear hv
      go_enter Try.func11, Try.ntmps11
      go_wp2_with fail
      refine (ssub_at HV.out _ HI.out hu).mono ?_
      rintro e w3 ⟨rfl, hb⟩
      have HS3 := Lib.hid (HS.out.below hb HS.out.lt)
      have HR3 := Lib.hid (HR.out.below hb HR.out.lt)
      have HB3 := Lib.hid (HB.out.trans (hb.mono (show S ≤ _ by have := HB.out.size; omega)))
      have HI3 := Lib.hid (HI.out.below hb (Nat.le_refl _))
      clear hb
      clear c0 c1 c2 c3
      have d0 := HS3.out.cell 0
      simp at d0
      have z0 := HR3.out.cell 0
      have z1 := HR3.out.cell 1
      have z2 := HR3.out.cell 2
      simp at z0 z1 z2
      have f0 := HR3.out.free 0
      have f1 := HR3.out.free 1
      have f2 := HR3.out.free 2
      have hf := put_lt HR3.out (.string ⟨#[]⟩) (.slice none 0 0) (.string ⟨#[]⟩)
      have r0 := hf.cell 0
      have r1 := hf.cell 1
      have r2 := hf.cell 2
      simp at r0 r1 r2
      clear hf
      go_wp2
      refine bodyPost_ret (v := .tuple #[.agg #[.string ⟨#[]⟩, .slice none 0 0, .string ⟨#[]⟩], .bool false]) (by simp [results, Try.results11, go_sem, r0, r1, r2]) rfl ?_
      exact ⟨none, 0, 0, rfl, ROwn.nil _ _, hS ▸ below_set3 HB3.out (by omega) _ _ _⟩
set_option maxRecDepth 20000 in
set_option maxHeartbeats 4000000 in
theorem impl_letter (st : Int) (us tx : ByteArray) (T : List ByteArray) (A : Option Addr) (N cap : Nat) (w : World) (h : SIn w A N cap T) (hu : us.size ≤ 16777216) : Calls Try.prog 10 #[.agg #[.int .i64 st, .string us, .slice A N cap, .string tx]] w (if okL ⟨st, us, T, tx⟩ then GiveLt w true us T tx else GiveLt w false eB [] eB) := by
  obtain ⟨v, hv⟩ : ∃ v, sbV ⟨st, us, T, tx⟩ = v := ⟨_, rfl⟩
  have HV := Lib.hid hv
  obtain ⟨S, hS⟩ : ∃ S, w.heap.size = S := ⟨_, rfl⟩
  obtain ⟨wq, hwq⟩ : ∃ wq, ((w.alloc (.cells #[.int .i64 st, .string us, .slice A N cap, .string tx] 25)).alloc (.cells #[.string ⟨#[]⟩, .slice none 0 0, .string ⟨#[]⟩] 28)) = wq := ⟨_, rfl⟩
  obtain ⟨h1, h2, h3⟩ := letter_two w #[.int .i64 st, .string us, .slice A N cap, .string tx] #[.string ⟨#[]⟩, .slice none 0 0, .string ⟨#[]⟩]
  rw [hwq, hS] at h1 h2 h3
  have HS := Lib.hid h1
  have HR := Lib.hid h2
  have HB := Lib.hid h3
  have HI := Lib.hid (h.below h3 (Nat.le_of_eq hS))
  clear h h1 h2 h3
  have c0 := HS.out.cell 0
  have c1 := HS.out.cell 1
  have c2 := HS.out.cell 2
  have c3 := HS.out.cell 3
  simp at c0 c1 c2 c3
  cases v with
  | false =>
    have HF : Hid (okL ⟨st, us, T, tx⟩ = false) := Lib.hid (by unfold okL; rw [hv]; rfl)
    rw [HF.out]
    clear hv
    go_enter Try.func10, Try.ntmps10
    go_wp2_with fail
    refine (isub_at HV.out _ HI.out hu).mono ?_
    rintro e w3 ⟨rfl, hb⟩
    have HS3 := Lib.hid (HS.out.below hb HS.out.lt)
    have HR3 := Lib.hid (HR.out.below hb HR.out.lt)
    have HB3 := Lib.hid (HB.out.trans (hb.mono (show S ≤ _ by have := HB.out.size; omega)))
    have HI3 := Lib.hid (HI.out.below hb (Nat.le_refl _))
    clear hb
    clear c0 c1 c2 c3
    have z0 := HR3.out.cell 0
    have z1 := HR3.out.cell 1
    have z2 := HR3.out.cell 2
    simp at z0 z1 z2
    have f0 := HR3.out.free 0
    have f1 := HR3.out.free 1
    have f2 := HR3.out.free 2
    have hf := put_lt HR3.out (.string ⟨#[]⟩) (.slice none 0 0) (.string ⟨#[]⟩)
    have r0 := hf.cell 0
    have r1 := hf.cell 1
    have r2 := hf.cell 2
    simp at r0 r1 r2
    clear hf
    go_wp2
    refine bodyPost_ret (v := .tuple #[.agg #[.string ⟨#[]⟩, .slice none 0 0, .string ⟨#[]⟩], .bool false]) (by simp [results, Try.results10, go_sem, r0, r1, r2]) rfl ?_
    exact ⟨none, 0, 0, rfl, ROwn.nil _ _, hS ▸ below_set3 HB3.out (by omega) _ _ _⟩
  | true =>
    by_cases h5 : st = 5
    · subst h5
      by_cases ht : tx.size ≤ 20
      · have ht2 : ¬ (20 : Int) < (tx.size : Int) := by omega
        have HF : Hid (okL ⟨5, us, T, tx⟩ = true) := Lib.hid (by unfold okL; rw [hv]; simp [ht])
        rw [HF.out]
        clear hv
        go_enter Try.func10, Try.ntmps10
        go_wp2_with fail
        refine (isub_at HV.out _ HI.out hu).mono ?_
        rintro e w3 ⟨rfl, hb⟩
        have HS3 := Lib.hid (HS.out.below hb HS.out.lt)
        have HR3 := Lib.hid (HR.out.below hb HR.out.lt)
        have HB3 := Lib.hid (HB.out.trans (hb.mono (show S ≤ _ by have := HB.out.size; omega)))
        have HI3 := Lib.hid (HI.out.below hb (Nat.le_refl _))
        clear hb
        clear c0 c1 c2 c3
        have d0 := HS3.out.cell 0
        have d1 := HS3.out.cell 1
        have d2 := HS3.out.cell 2
        have d3 := HS3.out.cell 3
        simp at d0 d1 d2 d3
        have HSd := Lib.hid HS3.out.drew
        have HRd := Lib.hid HR3.out.drew
        have HTd : Hid (SIn w3.drew A N cap T) := Lib.hid (show SIn w3.drew A N cap T from HI3.out)
        have HBd := Lib.hid (HB3.out.trans ((below_drew1 w3).mono (show S ≤ _ by have := HB3.out.size; omega)))
        have HRlt : Hid (S + 1 < w3.drew.heap.size) := Lib.hid HR3.out.lt
        clear HS HR HB
        go_wp2
        go_region_held3 (fun w' => w'.cell? ⟨S, 1, none⟩ = some (.string us) ∧ w'.cell? ⟨S, 2, none⟩ = some (.slice A N cap) ∧ w'.cell? ⟨S, 3, none⟩ = some (.string tx)) (first | with_reducible exact s9 | exact ⟨HS6.out.cell 1, HS6.out.cell 2, HS6.out.cell 3⟩ | exact ⟨HSd.out.cell 1, HSd.out.cell 2, HSd.out.cell 3⟩ | go_keep) (
           (go_at_call 30
            refine (lib_clone w3.drew HTd.out).mono ?_
            rintro e w6 ⟨v', rfl, hown, hb⟩
            obtain ⟨A6, N6, cap6, rfl⟩ := hown.val
            have hN6 : N = N6 := (hown.len.1.trans HTd.out.1).symm
            subst hN6
            have HO6 := Lib.hid hown
            have HR6 := Lib.hid (HRd.out.below hb HRd.out.lt)
            have HS6 := Lib.hid (HSd.out.below hb HSd.out.lt)
            have HB6 : Hid (Below S w w6) := Lib.hid (HBd.out.trans (hb.mono (show S ≤ _ by have := HBd.out.size; omega)))
            have y1 := HS6.out.cell 1
            have y2 := HS6.out.cell 2
            have y3 := HS6.out.cell 3
            simp at y1 y2 y3
            have z0 := HR6.out.cell 0
            have z1 := HR6.out.cell 1
            have z2 := HR6.out.cell 2
            simp at z0 z1 z2
            have f0 := HR6.out.free 0
            have f1 := HR6.out.free 1
            have f2 := HR6.out.free 2
            have hf := put_lt HR6.out (.string us) (.slice A6 N cap6) (.string tx)
            have r0 := hf.cell 0
            have r1 := hf.cell 1
            have r2 := hf.cell 2
            simp at r0 r1 r2
            have h9 := apart3 HS6.out (R := S + 1) (by omega) (.string us) (.slice A6 N cap6) (.string tx)
            have s91 := h9.cell 1
            have s92 := h9.cell 2
            have s93 := h9.cell 3
            simp at s91 s92 s93
            have s9 := And.intro s91 (And.intro s92 s93)
            clear hown hb hf h9 s91 s92 s93))
        all_goals
          go_wp2
          refine bodyPost_ret (v := .tuple #[.agg #[.string us, .slice A6 N cap6, .string tx], .bool true]) (by simp [results, Try.results10, go_sem, r0, r1, r2]) rfl ?_
          refine ⟨A6, N, cap6, rfl, ?_, ?_⟩
          · rw [hS]
            have hle : S ≤ w3.drew.heap.size := by have := HRlt.out; omega
            refine ROwn.store (ROwn.store (ROwn.store (HO6.out.from hle) ?_ _) ?_ _) ?_ _ <;> (intro e; have h1 := (rown_blk HO6.out _ e).1; have h2 := HRlt.out; simp only at h1; omega)
          · rw [hS]
            exact below_set3 HB6.out (by omega) _ _ _
      · have ht2 : (20 : Int) < (tx.size : Int) := by omega
        have HF : Hid (okL ⟨5, us, T, tx⟩ = false) := Lib.hid (by unfold okL; rw [hv]; simp [ht])
        rw [HF.out]
        clear hv
        go_enter Try.func10, Try.ntmps10
        go_wp2_with fail
        refine (isub_at HV.out _ HI.out hu).mono ?_
        rintro e w3 ⟨rfl, hb⟩
        have HS3 := Lib.hid (HS.out.below hb HS.out.lt)
        have HR3 := Lib.hid (HR.out.below hb HR.out.lt)
        have HB3 := Lib.hid (HB.out.trans (hb.mono (show S ≤ _ by have := HB.out.size; omega)))
        have HI3 := Lib.hid (HI.out.below hb (Nat.le_refl _))
        clear hb
        clear c0 c1 c2 c3
        have d0 := HS3.out.cell 0
        have d3 := HS3.out.cell 3
        simp at d0 d3
        have z0 := HR3.out.cell 0
        have z1 := HR3.out.cell 1
        have z2 := HR3.out.cell 2
        simp at z0 z1 z2
        have f0 := HR3.out.free 0
        have f1 := HR3.out.free 1
        have f2 := HR3.out.free 2
        have hf := put_lt HR3.out (.string ⟨#[]⟩) (.slice none 0 0) (.string ⟨#[]⟩)
        have r0 := hf.cell 0
        have r1 := hf.cell 1
        have r2 := hf.cell 2
        simp at r0 r1 r2
        clear hf
        go_wp2
        refine bodyPost_ret (v := .tuple #[.agg #[.string ⟨#[]⟩, .slice none 0 0, .string ⟨#[]⟩], .bool false]) (by simp [results, Try.results10, go_sem, r0, r1, r2]) rfl ?_
        exact ⟨none, 0, 0, rfl, ROwn.nil _ _, hS ▸ below_set3 HB3.out (by omega) _ _ _⟩
    · have hs5 : (st != 5) = true := bne_iff_ne.2 h5
      have HF : Hid (okL ⟨st, us, T, tx⟩ = false) := Lib.hid (by unfold okL; rw [hv]; simp [h5])
      rw [HF.out]
      clear hv
      go_enter Try.func10, Try.ntmps10
      go_wp2_with fail
      refine (isub_at HV.out _ HI.out hu).mono ?_
      rintro e w3 ⟨rfl, hb⟩
      have HS3 := Lib.hid (HS.out.below hb HS.out.lt)
      have HR3 := Lib.hid (HR.out.below hb HR.out.lt)
      have HB3 := Lib.hid (HB.out.trans (hb.mono (show S ≤ _ by have := HB.out.size; omega)))
      have HI3 := Lib.hid (HI.out.below hb (Nat.le_refl _))
      clear hb
      clear c0 c1 c2 c3
      have d0 := HS3.out.cell 0
      simp at d0
      have z0 := HR3.out.cell 0
      have z1 := HR3.out.cell 1
      have z2 := HR3.out.cell 2
      simp at z0 z1 z2
      have f0 := HR3.out.free 0
      have f1 := HR3.out.free 1
      have f2 := HR3.out.free 2
      have hf := put_lt HR3.out (.string ⟨#[]⟩) (.slice none 0 0) (.string ⟨#[]⟩)
      have r0 := hf.cell 0
      have r1 := hf.cell 1
      have r2 := hf.cell 2
      simp at r0 r1 r2
      clear hf
      go_wp2
      refine bodyPost_ret (v := .tuple #[.agg #[.string ⟨#[]⟩, .slice none 0 0, .string ⟨#[]⟩], .bool false]) (by simp [results, Try.results10, go_sem, r0, r1, r2]) rfl ?_
      exact ⟨none, 0, 0, rfl, ROwn.nil _ _, hS ▸ below_set3 HB3.out (by omega) _ _ _⟩
end Go.Proofs.Ytichajalinkcdaa
