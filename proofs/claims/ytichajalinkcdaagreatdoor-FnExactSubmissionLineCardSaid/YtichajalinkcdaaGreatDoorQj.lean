/-
  My texts Wc, Wd, Keep, We in one, so that a claim holds fewer files. Conditions: each contract's own.
-/
import Derived.Test.YtichajalinkcdaaGreatDoorQi
import Derived.Deep.DeepCutAuto
namespace Go.Proofs.YtichajalinkcdaaGreatDoor
open Go.RowKit
set_option linter.unusedVariables false

theorem fU_z {L : List Us} {n : ByteArray} {u : Us} {z : Bool} (hv : vU L = true) (h : usF L n = (u, z)) : (fU L n).isSome = z := by
  cases hf : fU L n with
  | none => rw [usF_none hv hf] at h; cases h; rfl
  | some v => rw [usF_yes hv hf] at h; cases h; rfl

theorem SIn.dr {w : World} {A : Option Addr} {N cap : Nat} {L : List ByteArray} (h : SIn w A N cap L) (n : Nat) : SIn (w.drewN n) A N cap L := h
theorem DS.far {w0 w : World} {D C N cap NU cU : Nat} {s : Sb} {A AU : Option Addr} {L : List Us} {d : ByteArray} {t : TypeId} {cs : Array Value} (h : DS w0 w D s A N cap AU NU cU L d) (hC : Whole w C t cs) (ht : t ≠ 9) (hne : D ≠ C) (hB : w0.heap.size ≤ C) (j : Nat) (u : Value) : DS w0 (w.setCell ⟨C, j, none⟩ u) D s A N cap AU NU cU L d :=
  ⟨h.1.apart (p := ⟨C, j, none⟩) hne u, h.2.1.store (p := ⟨C, j, none⟩) (h.2.1.whole hC ht) u, h.2.2.1, h.2.2.2.1.setCell hB u, h.2.2.2.2⟩
set_option maxRecDepth 20000 in
set_option maxHeartbeats 8000000 in
theorem impl_receiver {st : Int} {us tx : ByteArray} {T : List ByteArray} {A : Option Addr} {N cap : Nat} {w0 : World} {D : Nat} {AU : Option Addr} {NU cU : Nat} {L : List Us} {d : ByteArray} (l : ByteArray) (w : World) (h : DS w0 w D ⟨st, us, T, tx⟩ A N cap AU NU cU L d) (hv : sbV ⟨st, us, T, tx⟩ = true) (hvu : vU L = true) (hl : l.size ≤ 2097152) : Calls Tryz.prog 78 #[.pointer (some ⟨D, 0, none⟩), .string l] w (DG w0 D AU NU cU L d (rcptF ⟨st, us, T, tx⟩ L d l)) := by
  have HD := Lib.hid h
  have HVU := Lib.hid hvu
  obtain ⟨v1, v2, v3, v4, v5, v6, v7, v8, v9⟩ := sbV_has hv
  have HT3 : Hid (T.length ≤ 3) := Lib.hid v2
  have HTS : Hid (∀ x ∈ T, x.size ≤ 8) := Lib.hid v3
  have HTX : Hid (st ≠ 5 → tx = eB) := Lib.hid v5
  have hs := h.1
  have c0 := hs.cell 0
  simp only [List.getElem?_toArray, List.getElem?_cons_zero] at c0
  clear h hs hv hvu v1 v2 v3 v4 v5 v6 v7 v8 v9
  have hl2 : l.size ≤ 16777216 := by omega
  by_cases hst : st = 3 ∨ st = 4
  ·
    rcases hst with rfl | rfl
    ·
      obtain ⟨u, hu⟩ : ∃ u, ptU bRCPT l = u := ⟨_, rfl⟩
      obtain ⟨v, hd⟩ : ∃ v, ptD bRCPT l = v := ⟨_, rfl⟩
      cases ho : ptO bRCPT l with
      | false =>
        have HC := Lib.hid (impl_pbh ho hu hd w hl2)
        unfold bRCPT at HC
        have HO := Lib.hid ho
        have HU := Lib.hid hu
        have HV := Lib.hid hd
        clear ho hu hd
        have HE : Hid (rcptF ⟨3, us, T, tx⟩ L d l = (⟨3, us, T, tx⟩, 501)) := Lib.hid (by unfold rcptF; rw [if_neg (by simp), if_pos HO.out])
        go_enter Tryz.func78, Tryz.ntmps78
        go_wp2_with fail
        refine HC.out.mono ?_
        rintro e w3 ⟨u', d', rfl, hq, hb⟩
        have HQ := Lib.hid hq
        obtain ⟨B, hB⟩ : ∃ B, w3.heap.size = B := ⟨_, rfl⟩
        obtain ⟨w4, hw4⟩ : ∃ w4, w3.alloc (.cells #[.string u', .string d'] 112) = w4 := ⟨_, rfl⟩
        have HD4 := Lib.hid ((HD.out.later hb).later (w' := w4) (by rw [← hw4]; exact (Below.refl _ _).alloc (Nat.le_refl _) _))
        have HA4 : Hid (Whole w4 B 112 #[.string u', .string d']) := Lib.hid (by rw [← hw4, ← hB]; exact Whole.made _ _ _)
        clear hb hq c0
        go_wp2
        go_ret
        rw [HE.out]
        exact ⟨A, N, cap, rfl, HD4.out⟩
      | true =>
        have HC := Lib.hid (impl_pbh ho hu hd w hl2)
        unfold bRCPT at HC
        have HO := Lib.hid ho
        have HU := Lib.hid hu
        have HV := Lib.hid hd
        clear ho hu hd
        obtain ⟨⟨⟨n2, p2, q2⟩, z⟩, hf⟩ : ∃ x, usF L u = x := ⟨_, rfl⟩
        have HF := Lib.hid hf
        have HZ : Hid ((fU L u).isSome = z) := Lib.hid (fU_z HVU.out hf)
        clear hf
        cases z with
        | false =>
          have HE : Hid (rcptF ⟨3, us, T, tx⟩ L d l = (⟨3, us, T, tx⟩, 550)) := Lib.hid (by unfold rcptF; rw [if_neg (by simp), if_neg (by rw [HO.out]; simp), if_neg (by rw [HU.out, HZ.out]; simp)])
          go_enter Tryz.func78, Tryz.ntmps78
          go_wp2_with fail
          refine HC.out.mono ?_
          rintro e w3 ⟨u', d', rfl, hq, hb⟩
          have HQ := Lib.hid hq
          obtain ⟨B, hB⟩ : ∃ B, w3.heap.size = B := ⟨_, rfl⟩
          obtain ⟨w4, hw4⟩ : ∃ w4, w3.alloc (.cells #[.string u', .string d'] 112) = w4 := ⟨_, rfl⟩
          have HD4 := Lib.hid ((HD.out.later hb).later (w' := w4) (by rw [← hw4]; exact (Below.refl _ _).alloc (Nat.le_refl _) _))
          have HA4 : Hid (Whole w4 B 112 #[.string u', .string d']) := Lib.hid (by rw [← hw4, ← hB]; exact Whole.made _ _ _)
          clear hb hq c0
          obtain ⟨rfl, rfl⟩ := HQ.out rfl
          go_upto_region 6 with fail
          go_cut [8] (fun s8 wx => s8 = .bool false ∧ Hid (DS w0 wx D ⟨3, us, T, tx⟩ A N cap AU NU cU L d) ∧ Hid (Whole wx B 112 #[.string u', .string d']))
          case first =>
            obtain ⟨C, hC⟩ : ∃ C, w4.heap.size = C := ⟨_, rfl⟩
            obtain ⟨wz, hwz⟩ : ∃ wz, w4.alloc (.cells #[.string ⟨#[]⟩, .string ⟨#[]⟩, .int .i64 0] 35) = wz := ⟨_, rfl⟩
            have hbz : Below w4.heap.size w4 wz := by rw [← hwz]; exact (Below.refl _ _).alloc (Nat.le_refl _) _
            have HDz := Lib.hid (HD4.out.later hbz)
            have HAz := Lib.hid (HA4.out.below hbz HA4.out.lt)
            have HCz : Hid (Whole wz C 35 #[.string ⟨#[]⟩, .string ⟨#[]⟩, .int .i64 0]) := Lib.hid (by rw [← hwz, ← hC]; exact Whole.made _ _ _)
            have HDC : Hid (D ≠ C) := Lib.hid (by have := HD4.out.1.lt; rw [hC] at this; omega)
            have HBC : Hid (B ≠ C) := Lib.hid (by have := HA4.out.lt; rw [hC] at this; omega)
            have HWC : Hid (w0.heap.size ≤ C) := Lib.hid (by rw [← hC]; exact HD4.out.2.2.2.1.size)
            have hs4 := HD4.out.1
            have ha4 := HA4.out
            clear hbz
            have e4 := hs4.cell 4
            simp only [List.getElem?_toArray, List.getElem?_cons_succ] at e4
            have k0 := ha4.cell 0
            simp at k0
            have hsz := HDz.out.1
            have haz := HAz.out
            have i4 := hsz.cell 4
            have j0 := haz.cell 0
            simp at i4 j0
            clear hs4 ha4 hsz haz
            have HDd : Hid (DS w0 wz.drew D ⟨3, us, T, tx⟩ A N cap AU NU cU L d) := Lib.hid (HDz.out.later (w' := wz.drew) ⟨rfl, rfl, rfl, Nat.le_refl _, fun _ _ => rfl⟩)
            have HD4d : Hid (DS w0 w4.drew D ⟨3, us, T, tx⟩ A N cap AU NU cU L d) := Lib.hid (HD4.out.later (w' := w4.drew) ⟨rfl, rfl, rfl, Nat.le_refl _, fun _ _ => rfl⟩)
            have HAd := Lib.hid HAz.out.drew
            have HCd := Lib.hid HCz.out.drew
            have HA4d := Lib.hid HA4.out.drew
            go_region_held3 (fun w' => w'.cell? ⟨D, 4, none⟩ = some (.slice AU NU cU) ∧ w'.cell? ⟨B, 0, none⟩ = some (.string u')) (first | with_reducible exact s9 | exact ⟨(HD6.out.1.alloc _).cell 4, (HA6.out.alloc _).cell 0⟩ | exact ⟨HD6.out.1.cell 4, HA6.out.cell 0⟩ | exact ⟨HD5.out.1.cell 4, HA5.out.cell 0⟩ | exact ⟨HDd.out.1.cell 4, HAd.out.cell 0⟩ | exact ⟨HD4d.out.1.cell 4, HA4d.out.cell 0⟩ | exact ⟨HDz.out.1.cell 4, HAz.out.cell 0⟩ | go_keep) (first | (go_at_call 106; refine (impl_uf HF.out wz.drew HDd.out.users).mono ?_; rintro e w5 ⟨rfl, hb⟩; unfold usV; have HD5 := Lib.hid (HDd.out.later hb); have HA5 := Lib.hid (HAd.out.below hb HAd.out.lt); have HC5 := Lib.hid (HCd.out.below hb HCd.out.lt); have hc5 := HC5.out; have y0 := hc5.cell 0; have y1 := hc5.cell 1; have y2 := hc5.cell 2; simp at y0 y1 y2; have g0 := hc5.free 0; have g1 := hc5.free 1; have g2 := hc5.free 2; have hd9 := (((HD5.out.far HC5.out (by decide) HDC.out HWC.out 0 (.string n2)).far (HC5.out.store 0 _) (by decide) HDC.out HWC.out 1 (.string p2)).far ((HC5.out.store 0 _).store 1 _) (by decide) HDC.out HWC.out 2 (.int .i64 q2)).1.cell 4; have ha9 := (((HA5.out.apart (p := ⟨C, 0, none⟩) HBC.out (.string n2)).apart (p := ⟨C, 1, none⟩) HBC.out (.string p2)).apart (p := ⟨C, 2, none⟩) HBC.out (.int .i64 q2)).cell 0; simp at hd9 ha9; have s9 := And.intro hd9 ha9; clear hb hc5 hd9 ha9) | (go_at_call 106; refine (impl_uf HF.out w4.drew HD4d.out.users).mono ?_; rintro e w6 ⟨rfl, hb⟩; unfold usV; have HD6 := Lib.hid (HD4d.out.later hb); have HA6 := Lib.hid (HA4d.out.below hb HA4d.out.lt); clear hb))
            all_goals go_wp2_with fail
            all_goals go_meet
            all_goals first | exact ⟨rfl, Lib.hid (HD6.out.later ((Below.refl _ _).alloc (Nat.le_refl _) _)), Lib.hid (HA6.out.alloc _)⟩ | exact ⟨rfl, Lib.hid (((HD5.out.far HC5.out (by decide) HDC.out HWC.out 0 (.string n2)).far (HC5.out.store 0 _) (by decide) HDC.out HWC.out 1 (.string p2)).far ((HC5.out.store 0 _).store 1 _) (by decide) HDC.out HWC.out 2 (.int .i64 q2)), Lib.hid (((HA5.out.apart (p := ⟨C, 0, none⟩) HBC.out (.string n2)).apart (p := ⟨C, 1, none⟩) HBC.out (.string p2)).apart (p := ⟨C, 2, none⟩) HBC.out (.int .i64 q2))⟩
          case rest =>
            obtain ⟨rfl, HD6, HA6⟩ := hcut
            have hs6 := HD6.out.1
            have ha6 := HA6.out
            have e5 := hs6.cell 5
            simp only [List.getElem?_toArray, List.getElem?_cons_succ] at e5
            have k1 := ha6.cell 1
            simp at k1
            clear hs6 ha6
            go_wp2
            go_quiet (fail)
            go_wp2
            go_ret
            rw [HE.out]
            exact ⟨A, N, cap, rfl, HD6.out.later (below_drewN' (Below.refl _ _) _)⟩
        | true =>
          by_cases hvd : v = d
          ·
            subst hvd
            cases hm : decide (u ∈ T) with
            | true =>
              have HM := Lib.hid hm
              have HE : Hid (rcptF ⟨3, us, T, tx⟩ L v l = (⟨3, us, T, tx⟩, 250)) := Lib.hid (by unfold rcptF; rw [if_neg (by simp), if_neg (by rw [HO.out]; simp), if_pos ⟨HV.out, by rw [HU.out, HZ.out]⟩, HU.out, if_pos (of_decide_eq_true hm)])
              clear hm
              go_enter Tryz.func78, Tryz.ntmps78
              go_wp2_with fail
              refine HC.out.mono ?_
              rintro e w3 ⟨u', d', rfl, hq, hb⟩
              have HQ := Lib.hid hq
              obtain ⟨B, hB⟩ : ∃ B, w3.heap.size = B := ⟨_, rfl⟩
              obtain ⟨w4, hw4⟩ : ∃ w4, w3.alloc (.cells #[.string u', .string d'] 112) = w4 := ⟨_, rfl⟩
              have HD4 := Lib.hid ((HD.out.later hb).later (w' := w4) (by rw [← hw4]; exact (Below.refl _ _).alloc (Nat.le_refl _) _))
              have HA4 : Hid (Whole w4 B 112 #[.string u', .string d']) := Lib.hid (by rw [← hw4, ← hB]; exact Whole.made _ _ _)
              clear hb hq c0
              obtain ⟨rfl, rfl⟩ := HQ.out rfl
              go_upto_region 6 with fail
              go_cut [8] (fun s8 wx => s8 = .bool true ∧ Hid (DS w0 wx D ⟨3, us, T, tx⟩ A N cap AU NU cU L d') ∧ Hid (Whole wx B 112 #[.string u', .string d']))
              case first =>
                obtain ⟨C, hC⟩ : ∃ C, w4.heap.size = C := ⟨_, rfl⟩
                obtain ⟨wz, hwz⟩ : ∃ wz, w4.alloc (.cells #[.string ⟨#[]⟩, .string ⟨#[]⟩, .int .i64 0] 35) = wz := ⟨_, rfl⟩
                have hbz : Below w4.heap.size w4 wz := by rw [← hwz]; exact (Below.refl _ _).alloc (Nat.le_refl _) _
                have HDz := Lib.hid (HD4.out.later hbz)
                have HAz := Lib.hid (HA4.out.below hbz HA4.out.lt)
                have HCz : Hid (Whole wz C 35 #[.string ⟨#[]⟩, .string ⟨#[]⟩, .int .i64 0]) := Lib.hid (by rw [← hwz, ← hC]; exact Whole.made _ _ _)
                have HDC : Hid (D ≠ C) := Lib.hid (by have := HD4.out.1.lt; rw [hC] at this; omega)
                have HBC : Hid (B ≠ C) := Lib.hid (by have := HA4.out.lt; rw [hC] at this; omega)
                have HWC : Hid (w0.heap.size ≤ C) := Lib.hid (by rw [← hC]; exact HD4.out.2.2.2.1.size)
                have hs4 := HD4.out.1
                have ha4 := HA4.out
                clear hbz
                have e4 := hs4.cell 4
                simp only [List.getElem?_toArray, List.getElem?_cons_succ] at e4
                have k0 := ha4.cell 0
                simp at k0
                have hsz := HDz.out.1
                have haz := HAz.out
                have i4 := hsz.cell 4
                have j0 := haz.cell 0
                simp at i4 j0
                clear hs4 ha4 hsz haz
                have HDd : Hid (DS w0 wz.drew D ⟨3, us, T, tx⟩ A N cap AU NU cU L d') := Lib.hid (HDz.out.later (w' := wz.drew) ⟨rfl, rfl, rfl, Nat.le_refl _, fun _ _ => rfl⟩)
                have HD4d : Hid (DS w0 w4.drew D ⟨3, us, T, tx⟩ A N cap AU NU cU L d') := Lib.hid (HD4.out.later (w' := w4.drew) ⟨rfl, rfl, rfl, Nat.le_refl _, fun _ _ => rfl⟩)
                have HAd := Lib.hid HAz.out.drew
                have HCd := Lib.hid HCz.out.drew
                have HA4d := Lib.hid HA4.out.drew
                go_region_held3 (fun w' => w'.cell? ⟨D, 4, none⟩ = some (.slice AU NU cU) ∧ w'.cell? ⟨B, 0, none⟩ = some (.string u')) (first | with_reducible exact s9 | exact ⟨(HD6.out.1.alloc _).cell 4, (HA6.out.alloc _).cell 0⟩ | exact ⟨HD6.out.1.cell 4, HA6.out.cell 0⟩ | exact ⟨HD5.out.1.cell 4, HA5.out.cell 0⟩ | exact ⟨HDd.out.1.cell 4, HAd.out.cell 0⟩ | exact ⟨HD4d.out.1.cell 4, HA4d.out.cell 0⟩ | exact ⟨HDz.out.1.cell 4, HAz.out.cell 0⟩ | go_keep) (first | (go_at_call 106; refine (impl_uf HF.out wz.drew HDd.out.users).mono ?_; rintro e w5 ⟨rfl, hb⟩; unfold usV; have HD5 := Lib.hid (HDd.out.later hb); have HA5 := Lib.hid (HAd.out.below hb HAd.out.lt); have HC5 := Lib.hid (HCd.out.below hb HCd.out.lt); have hc5 := HC5.out; have y0 := hc5.cell 0; have y1 := hc5.cell 1; have y2 := hc5.cell 2; simp at y0 y1 y2; have g0 := hc5.free 0; have g1 := hc5.free 1; have g2 := hc5.free 2; have hd9 := (((HD5.out.far HC5.out (by decide) HDC.out HWC.out 0 (.string n2)).far (HC5.out.store 0 _) (by decide) HDC.out HWC.out 1 (.string p2)).far ((HC5.out.store 0 _).store 1 _) (by decide) HDC.out HWC.out 2 (.int .i64 q2)).1.cell 4; have ha9 := (((HA5.out.apart (p := ⟨C, 0, none⟩) HBC.out (.string n2)).apart (p := ⟨C, 1, none⟩) HBC.out (.string p2)).apart (p := ⟨C, 2, none⟩) HBC.out (.int .i64 q2)).cell 0; simp at hd9 ha9; have s9 := And.intro hd9 ha9; clear hb hc5 hd9 ha9) | (go_at_call 106; refine (impl_uf HF.out w4.drew HD4d.out.users).mono ?_; rintro e w6 ⟨rfl, hb⟩; unfold usV; have HD6 := Lib.hid (HD4d.out.later hb); have HA6 := Lib.hid (HA4d.out.below hb HA4d.out.lt); clear hb))
                all_goals go_wp2_with fail
                all_goals go_meet
                all_goals first | exact ⟨rfl, Lib.hid (HD6.out.later ((Below.refl _ _).alloc (Nat.le_refl _) _)), Lib.hid (HA6.out.alloc _)⟩ | exact ⟨rfl, Lib.hid (((HD5.out.far HC5.out (by decide) HDC.out HWC.out 0 (.string n2)).far (HC5.out.store 0 _) (by decide) HDC.out HWC.out 1 (.string p2)).far ((HC5.out.store 0 _).store 1 _) (by decide) HDC.out HWC.out 2 (.int .i64 q2)), Lib.hid (((HA5.out.apart (p := ⟨C, 0, none⟩) HBC.out (.string n2)).apart (p := ⟨C, 1, none⟩) HBC.out (.string p2)).apart (p := ⟨C, 2, none⟩) HBC.out (.int .i64 q2))⟩
              case rest =>
                obtain ⟨rfl, HD6, HA6⟩ := hcut
                have hs6 := HD6.out.1
                have ha6 := HA6.out
                have e5 := hs6.cell 5
                simp only [List.getElem?_toArray, List.getElem?_cons_succ] at e5
                have k1 := ha6.cell 1
                simp at k1
                clear hs6 ha6
                go_upto_region 7 with fail
                go_cut [50] (fun s50 wx => s50 = .bool false ∧ Hid (DS w0 wx D ⟨3, us, T, tx⟩ A N cap AU NU cU L d') ∧ Hid (Whole wx B 112 #[.string u', .string d']))
                case first =>
                  go_wp2
                  go_quiet (fail)
                  go_wp2_with fail
                  go_meet
                  exact ⟨rfl, Lib.hid (HD6.out.later (below_drewN' (Below.refl _ _) _)), Lib.hid (HA6.out.drewN _)⟩
                case rest =>
                  clear e5 k1 HD6 HA6
                  obtain ⟨rfl, HD6, HA6⟩ := hcut
                  have hs6 := HD6.out.1
                  have ha6 := HA6.out
                  have e2 := hs6.cell 2
                  simp only [List.getElem?_toArray, List.getElem?_cons_succ] at e2
                  have k0 := ha6.cell 0
                  simp at k0
                  clear hs6 ha6
                  have HI6 := Lib.hid (SIn.made (L := T) HD6.out.2.1 (by have := HT3.out; omega) (fun g hg => Nat.le_trans (HTS.out g hg) (by omega)))
                  go_upto_region 9 with fail
                  go_cut [58] (fun s58 wx => s58 = .bool true ∧ Hid (DS w0 wx D ⟨3, us, T, tx⟩ A N cap AU NU cU L d') ∧ Hid (Whole wx B 112 #[.string u', .string d']))
                  case first =>
                    go_wp2
                    go_quiet ((go_at_call 96; exact Calls.quiet_of_same (lib_has HM.out _ (SIn.dr HI6.out _))))
                    go_wp2_with fail
                    go_meet
                    exact ⟨rfl, Lib.hid (HD6.out.later (below_drewN' (Below.refl _ _) _)), Lib.hid (HA6.out.drewN _)⟩
                  case rest =>
                    clear e2 k0 HD6 HA6 HI6
                    obtain ⟨rfl, HD6, HA6⟩ := hcut
                    go_wp2
                    go_ret
                    rw [HE.out]
                    exact ⟨A, N, cap, rfl, HD6.out⟩
            | false =>
              have HM := Lib.hid hm
              by_cases h3 : 3 ≤ T.length
              ·
                have HE : Hid (rcptF ⟨3, us, T, tx⟩ L v l = (⟨3, us, T, tx⟩, 452)) := Lib.hid (by unfold rcptF; rw [if_neg (by simp), if_neg (by rw [HO.out]; simp), if_pos ⟨HV.out, by rw [HU.out, HZ.out]⟩, HU.out, if_neg (of_decide_eq_false hm), if_pos h3])
                have HN3 : Hid (N = 3) := Lib.hid (by have h1 : N = T.length := HD.out.2.1.len.1; have h2 := HT3.out; omega)
                clear hm h3
                go_enter Tryz.func78, Tryz.ntmps78
                go_wp2_with fail
                refine HC.out.mono ?_
                rintro e w3 ⟨u', d', rfl, hq, hb⟩
                have HQ := Lib.hid hq
                obtain ⟨B, hB⟩ : ∃ B, w3.heap.size = B := ⟨_, rfl⟩
                obtain ⟨w4, hw4⟩ : ∃ w4, w3.alloc (.cells #[.string u', .string d'] 112) = w4 := ⟨_, rfl⟩
                have HD4 := Lib.hid ((HD.out.later hb).later (w' := w4) (by rw [← hw4]; exact (Below.refl _ _).alloc (Nat.le_refl _) _))
                have HA4 : Hid (Whole w4 B 112 #[.string u', .string d']) := Lib.hid (by rw [← hw4, ← hB]; exact Whole.made _ _ _)
                clear hb hq c0
                obtain ⟨rfl, rfl⟩ := HQ.out rfl
                go_upto_region 6 with fail
                go_cut [8] (fun s8 wx => s8 = .bool true ∧ Hid (DS w0 wx D ⟨3, us, T, tx⟩ A N cap AU NU cU L d') ∧ Hid (Whole wx B 112 #[.string u', .string d']))
                case first =>
                  obtain ⟨C, hC⟩ : ∃ C, w4.heap.size = C := ⟨_, rfl⟩
                  obtain ⟨wz, hwz⟩ : ∃ wz, w4.alloc (.cells #[.string ⟨#[]⟩, .string ⟨#[]⟩, .int .i64 0] 35) = wz := ⟨_, rfl⟩
                  have hbz : Below w4.heap.size w4 wz := by rw [← hwz]; exact (Below.refl _ _).alloc (Nat.le_refl _) _
                  have HDz := Lib.hid (HD4.out.later hbz)
                  have HAz := Lib.hid (HA4.out.below hbz HA4.out.lt)
                  have HCz : Hid (Whole wz C 35 #[.string ⟨#[]⟩, .string ⟨#[]⟩, .int .i64 0]) := Lib.hid (by rw [← hwz, ← hC]; exact Whole.made _ _ _)
                  have HDC : Hid (D ≠ C) := Lib.hid (by have := HD4.out.1.lt; rw [hC] at this; omega)
                  have HBC : Hid (B ≠ C) := Lib.hid (by have := HA4.out.lt; rw [hC] at this; omega)
                  have HWC : Hid (w0.heap.size ≤ C) := Lib.hid (by rw [← hC]; exact HD4.out.2.2.2.1.size)
                  have hs4 := HD4.out.1
                  have ha4 := HA4.out
                  clear hbz
                  have e4 := hs4.cell 4
                  simp only [List.getElem?_toArray, List.getElem?_cons_succ] at e4
                  have k0 := ha4.cell 0
                  simp at k0
                  have hsz := HDz.out.1
                  have haz := HAz.out
                  have i4 := hsz.cell 4
                  have j0 := haz.cell 0
                  simp at i4 j0
                  clear hs4 ha4 hsz haz
                  have HDd : Hid (DS w0 wz.drew D ⟨3, us, T, tx⟩ A N cap AU NU cU L d') := Lib.hid (HDz.out.later (w' := wz.drew) ⟨rfl, rfl, rfl, Nat.le_refl _, fun _ _ => rfl⟩)
                  have HD4d : Hid (DS w0 w4.drew D ⟨3, us, T, tx⟩ A N cap AU NU cU L d') := Lib.hid (HD4.out.later (w' := w4.drew) ⟨rfl, rfl, rfl, Nat.le_refl _, fun _ _ => rfl⟩)
                  have HAd := Lib.hid HAz.out.drew
                  have HCd := Lib.hid HCz.out.drew
                  have HA4d := Lib.hid HA4.out.drew
                  go_region_held3 (fun w' => w'.cell? ⟨D, 4, none⟩ = some (.slice AU NU cU) ∧ w'.cell? ⟨B, 0, none⟩ = some (.string u')) (first | with_reducible exact s9 | exact ⟨(HD6.out.1.alloc _).cell 4, (HA6.out.alloc _).cell 0⟩ | exact ⟨HD6.out.1.cell 4, HA6.out.cell 0⟩ | exact ⟨HD5.out.1.cell 4, HA5.out.cell 0⟩ | exact ⟨HDd.out.1.cell 4, HAd.out.cell 0⟩ | exact ⟨HD4d.out.1.cell 4, HA4d.out.cell 0⟩ | exact ⟨HDz.out.1.cell 4, HAz.out.cell 0⟩ | go_keep) (first | (go_at_call 106; refine (impl_uf HF.out wz.drew HDd.out.users).mono ?_; rintro e w5 ⟨rfl, hb⟩; unfold usV; have HD5 := Lib.hid (HDd.out.later hb); have HA5 := Lib.hid (HAd.out.below hb HAd.out.lt); have HC5 := Lib.hid (HCd.out.below hb HCd.out.lt); have hc5 := HC5.out; have y0 := hc5.cell 0; have y1 := hc5.cell 1; have y2 := hc5.cell 2; simp at y0 y1 y2; have g0 := hc5.free 0; have g1 := hc5.free 1; have g2 := hc5.free 2; have hd9 := (((HD5.out.far HC5.out (by decide) HDC.out HWC.out 0 (.string n2)).far (HC5.out.store 0 _) (by decide) HDC.out HWC.out 1 (.string p2)).far ((HC5.out.store 0 _).store 1 _) (by decide) HDC.out HWC.out 2 (.int .i64 q2)).1.cell 4; have ha9 := (((HA5.out.apart (p := ⟨C, 0, none⟩) HBC.out (.string n2)).apart (p := ⟨C, 1, none⟩) HBC.out (.string p2)).apart (p := ⟨C, 2, none⟩) HBC.out (.int .i64 q2)).cell 0; simp at hd9 ha9; have s9 := And.intro hd9 ha9; clear hb hc5 hd9 ha9) | (go_at_call 106; refine (impl_uf HF.out w4.drew HD4d.out.users).mono ?_; rintro e w6 ⟨rfl, hb⟩; unfold usV; have HD6 := Lib.hid (HD4d.out.later hb); have HA6 := Lib.hid (HA4d.out.below hb HA4d.out.lt); clear hb))
                  all_goals go_wp2_with fail
                  all_goals go_meet
                  all_goals first | exact ⟨rfl, Lib.hid (HD6.out.later ((Below.refl _ _).alloc (Nat.le_refl _) _)), Lib.hid (HA6.out.alloc _)⟩ | exact ⟨rfl, Lib.hid (((HD5.out.far HC5.out (by decide) HDC.out HWC.out 0 (.string n2)).far (HC5.out.store 0 _) (by decide) HDC.out HWC.out 1 (.string p2)).far ((HC5.out.store 0 _).store 1 _) (by decide) HDC.out HWC.out 2 (.int .i64 q2)), Lib.hid (((HA5.out.apart (p := ⟨C, 0, none⟩) HBC.out (.string n2)).apart (p := ⟨C, 1, none⟩) HBC.out (.string p2)).apart (p := ⟨C, 2, none⟩) HBC.out (.int .i64 q2))⟩
                case rest =>
                  obtain ⟨rfl, HD6, HA6⟩ := hcut
                  have hs6 := HD6.out.1
                  have ha6 := HA6.out
                  have e5 := hs6.cell 5
                  simp only [List.getElem?_toArray, List.getElem?_cons_succ] at e5
                  have k1 := ha6.cell 1
                  simp at k1
                  clear hs6 ha6
                  go_upto_region 7 with fail
                  go_cut [50] (fun s50 wx => s50 = .bool false ∧ Hid (DS w0 wx D ⟨3, us, T, tx⟩ A N cap AU NU cU L d') ∧ Hid (Whole wx B 112 #[.string u', .string d']))
                  case first =>
                    go_wp2
                    go_quiet (fail)
                    go_wp2_with fail
                    go_meet
                    exact ⟨rfl, Lib.hid (HD6.out.later (below_drewN' (Below.refl _ _) _)), Lib.hid (HA6.out.drewN _)⟩
                  case rest =>
                    clear e5 k1 HD6 HA6
                    obtain ⟨rfl, HD6, HA6⟩ := hcut
                    have hs6 := HD6.out.1
                    have ha6 := HA6.out
                    have e2 := hs6.cell 2
                    simp only [List.getElem?_toArray, List.getElem?_cons_succ] at e2
                    have k0 := ha6.cell 0
                    simp at k0
                    clear hs6 ha6
                    have HI6 := Lib.hid (SIn.made (L := T) HD6.out.2.1 (by have := HT3.out; omega) (fun g hg => Nat.le_trans (HTS.out g hg) (by omega)))
                    go_upto_region 9 with fail
                    go_cut [58] (fun s58 wx => s58 = .bool false ∧ Hid (DS w0 wx D ⟨3, us, T, tx⟩ A N cap AU NU cU L d') ∧ Hid (Whole wx B 112 #[.string u', .string d']))
                    case first =>
                      go_wp2
                      go_quiet ((go_at_call 96; exact Calls.quiet_of_same (lib_has HM.out _ (SIn.dr HI6.out _))))
                      go_wp2_with fail
                      go_meet
                      exact ⟨rfl, Lib.hid (HD6.out.later (below_drewN' (Below.refl _ _) _)), Lib.hid (HA6.out.drewN _)⟩
                    case rest =>
                      clear e2 k0 HD6 HA6 HI6
                      obtain ⟨rfl, HD6, HA6⟩ := hcut
                      have hs6 := HD6.out.1
                      rw [HN3.out] at hs6
                      have e2 := hs6.cell 2
                      simp only [List.getElem?_toArray, List.getElem?_cons_succ] at e2
                      clear hs6
                      go_wp2
                      go_ret
                      rw [HE.out]
                      exact ⟨A, N, cap, rfl, HD6.out⟩
              ·
                have HE : Hid (rcptF ⟨3, us, T, tx⟩ L v l = (⟨4, us, T ++ [u], eB⟩, 250)) := Lib.hid (by unfold rcptF; rw [if_neg (by simp), if_neg (by rw [HO.out]; simp), if_pos ⟨HV.out, by rw [HU.out, HZ.out]⟩, HU.out, if_neg (of_decide_eq_false hm), if_neg h3])
                have HN2 : Hid (N ≤ 2) := Lib.hid (by have h1 : N = T.length := HD.out.2.1.len.1; omega)
                have HXB : Hid (tx = eB) := Lib.hid (HTX.out (by simp))
                have hn3 : ((N : Int) == 3) = false := beq_eq_false_iff_ne.2 (by have := HN2.out; omega)
                clear hm h3
                go_enter Tryz.func78, Tryz.ntmps78
                go_wp2_with fail
                refine HC.out.mono ?_
                rintro e w3 ⟨u', d', rfl, hq, hb⟩
                have HQ := Lib.hid hq
                obtain ⟨B, hB⟩ : ∃ B, w3.heap.size = B := ⟨_, rfl⟩
                obtain ⟨w4, hw4⟩ : ∃ w4, w3.alloc (.cells #[.string u', .string d'] 112) = w4 := ⟨_, rfl⟩
                have HD4 := Lib.hid ((HD.out.later hb).later (w' := w4) (by rw [← hw4]; exact (Below.refl _ _).alloc (Nat.le_refl _) _))
                have HA4 : Hid (Whole w4 B 112 #[.string u', .string d']) := Lib.hid (by rw [← hw4, ← hB]; exact Whole.made _ _ _)
                clear hb hq c0
                obtain ⟨rfl, rfl⟩ := HQ.out rfl
                go_upto_region 6 with fail
                go_cut [8] (fun s8 wx => s8 = .bool true ∧ Hid (DS w0 wx D ⟨3, us, T, tx⟩ A N cap AU NU cU L d') ∧ Hid (Whole wx B 112 #[.string u', .string d']))
                case first =>
                  obtain ⟨C, hC⟩ : ∃ C, w4.heap.size = C := ⟨_, rfl⟩
                  obtain ⟨wz, hwz⟩ : ∃ wz, w4.alloc (.cells #[.string ⟨#[]⟩, .string ⟨#[]⟩, .int .i64 0] 35) = wz := ⟨_, rfl⟩
                  have hbz : Below w4.heap.size w4 wz := by rw [← hwz]; exact (Below.refl _ _).alloc (Nat.le_refl _) _
                  have HDz := Lib.hid (HD4.out.later hbz)
                  have HAz := Lib.hid (HA4.out.below hbz HA4.out.lt)
                  have HCz : Hid (Whole wz C 35 #[.string ⟨#[]⟩, .string ⟨#[]⟩, .int .i64 0]) := Lib.hid (by rw [← hwz, ← hC]; exact Whole.made _ _ _)
                  have HDC : Hid (D ≠ C) := Lib.hid (by have := HD4.out.1.lt; rw [hC] at this; omega)
                  have HBC : Hid (B ≠ C) := Lib.hid (by have := HA4.out.lt; rw [hC] at this; omega)
                  have HWC : Hid (w0.heap.size ≤ C) := Lib.hid (by rw [← hC]; exact HD4.out.2.2.2.1.size)
                  have hs4 := HD4.out.1
                  have ha4 := HA4.out
                  clear hbz
                  have e4 := hs4.cell 4
                  simp only [List.getElem?_toArray, List.getElem?_cons_succ] at e4
                  have k0 := ha4.cell 0
                  simp at k0
                  have hsz := HDz.out.1
                  have haz := HAz.out
                  have i4 := hsz.cell 4
                  have j0 := haz.cell 0
                  simp at i4 j0
                  clear hs4 ha4 hsz haz
                  have HDd : Hid (DS w0 wz.drew D ⟨3, us, T, tx⟩ A N cap AU NU cU L d') := Lib.hid (HDz.out.later (w' := wz.drew) ⟨rfl, rfl, rfl, Nat.le_refl _, fun _ _ => rfl⟩)
                  have HD4d : Hid (DS w0 w4.drew D ⟨3, us, T, tx⟩ A N cap AU NU cU L d') := Lib.hid (HD4.out.later (w' := w4.drew) ⟨rfl, rfl, rfl, Nat.le_refl _, fun _ _ => rfl⟩)
                  have HAd := Lib.hid HAz.out.drew
                  have HCd := Lib.hid HCz.out.drew
                  have HA4d := Lib.hid HA4.out.drew
                  go_region_held3 (fun w' => w'.cell? ⟨D, 4, none⟩ = some (.slice AU NU cU) ∧ w'.cell? ⟨B, 0, none⟩ = some (.string u')) (first | with_reducible exact s9 | exact ⟨(HD6.out.1.alloc _).cell 4, (HA6.out.alloc _).cell 0⟩ | exact ⟨HD6.out.1.cell 4, HA6.out.cell 0⟩ | exact ⟨HD5.out.1.cell 4, HA5.out.cell 0⟩ | exact ⟨HDd.out.1.cell 4, HAd.out.cell 0⟩ | exact ⟨HD4d.out.1.cell 4, HA4d.out.cell 0⟩ | exact ⟨HDz.out.1.cell 4, HAz.out.cell 0⟩ | go_keep) (first | (go_at_call 106; refine (impl_uf HF.out wz.drew HDd.out.users).mono ?_; rintro e w5 ⟨rfl, hb⟩; unfold usV; have HD5 := Lib.hid (HDd.out.later hb); have HA5 := Lib.hid (HAd.out.below hb HAd.out.lt); have HC5 := Lib.hid (HCd.out.below hb HCd.out.lt); have hc5 := HC5.out; have y0 := hc5.cell 0; have y1 := hc5.cell 1; have y2 := hc5.cell 2; simp at y0 y1 y2; have g0 := hc5.free 0; have g1 := hc5.free 1; have g2 := hc5.free 2; have hd9 := (((HD5.out.far HC5.out (by decide) HDC.out HWC.out 0 (.string n2)).far (HC5.out.store 0 _) (by decide) HDC.out HWC.out 1 (.string p2)).far ((HC5.out.store 0 _).store 1 _) (by decide) HDC.out HWC.out 2 (.int .i64 q2)).1.cell 4; have ha9 := (((HA5.out.apart (p := ⟨C, 0, none⟩) HBC.out (.string n2)).apart (p := ⟨C, 1, none⟩) HBC.out (.string p2)).apart (p := ⟨C, 2, none⟩) HBC.out (.int .i64 q2)).cell 0; simp at hd9 ha9; have s9 := And.intro hd9 ha9; clear hb hc5 hd9 ha9) | (go_at_call 106; refine (impl_uf HF.out w4.drew HD4d.out.users).mono ?_; rintro e w6 ⟨rfl, hb⟩; unfold usV; have HD6 := Lib.hid (HD4d.out.later hb); have HA6 := Lib.hid (HA4d.out.below hb HA4d.out.lt); clear hb))
                  all_goals go_wp2_with fail
                  all_goals go_meet
                  all_goals first | exact ⟨rfl, Lib.hid (HD6.out.later ((Below.refl _ _).alloc (Nat.le_refl _) _)), Lib.hid (HA6.out.alloc _)⟩ | exact ⟨rfl, Lib.hid (((HD5.out.far HC5.out (by decide) HDC.out HWC.out 0 (.string n2)).far (HC5.out.store 0 _) (by decide) HDC.out HWC.out 1 (.string p2)).far ((HC5.out.store 0 _).store 1 _) (by decide) HDC.out HWC.out 2 (.int .i64 q2)), Lib.hid (((HA5.out.apart (p := ⟨C, 0, none⟩) HBC.out (.string n2)).apart (p := ⟨C, 1, none⟩) HBC.out (.string p2)).apart (p := ⟨C, 2, none⟩) HBC.out (.int .i64 q2))⟩
                case rest =>
                  obtain ⟨rfl, HD6, HA6⟩ := hcut
                  have hs6 := HD6.out.1
                  have ha6 := HA6.out
                  have e5 := hs6.cell 5
                  simp only [List.getElem?_toArray, List.getElem?_cons_succ] at e5
                  have k1 := ha6.cell 1
                  simp at k1
                  clear hs6 ha6
                  go_upto_region 7 with fail
                  go_cut [50] (fun s50 wx => s50 = .bool false ∧ Hid (DS w0 wx D ⟨3, us, T, tx⟩ A N cap AU NU cU L d') ∧ Hid (Whole wx B 112 #[.string u', .string d']))
                  case first =>
                    go_wp2
                    go_quiet (fail)
                    go_wp2_with fail
                    go_meet
                    exact ⟨rfl, Lib.hid (HD6.out.later (below_drewN' (Below.refl _ _) _)), Lib.hid (HA6.out.drewN _)⟩
                  case rest =>
                    clear e5 k1 HD6 HA6
                    obtain ⟨rfl, HD6, HA6⟩ := hcut
                    have hs6 := HD6.out.1
                    have ha6 := HA6.out
                    have e2 := hs6.cell 2
                    simp only [List.getElem?_toArray, List.getElem?_cons_succ] at e2
                    have k0 := ha6.cell 0
                    simp at k0
                    clear hs6 ha6
                    have HI6 := Lib.hid (SIn.made (L := T) HD6.out.2.1 (by have := HT3.out; omega) (fun g hg => Nat.le_trans (HTS.out g hg) (by omega)))
                    go_upto_region 9 with fail
                    go_cut [58] (fun s58 wx => s58 = .bool false ∧ Hid (DS w0 wx D ⟨3, us, T, tx⟩ A N cap AU NU cU L d') ∧ Hid (Whole wx B 112 #[.string u', .string d']))
                    case first =>
                      go_wp2
                      go_quiet ((go_at_call 96; exact Calls.quiet_of_same (lib_has HM.out _ (SIn.dr HI6.out _))))
                      go_wp2_with fail
                      go_meet
                      exact ⟨rfl, Lib.hid (HD6.out.later (below_drewN' (Below.refl _ _) _)), Lib.hid (HA6.out.drewN _)⟩
                    case rest =>
                      clear e2 k0 HD6 HA6 HI6
                      obtain ⟨rfl, HD6, HA6⟩ := hcut
                      have hn2 := HN2.out
                      have HTN : Hid (T.length = N) := Lib.hid (show N = T.length from HD6.out.2.1.len.1).symm
                      obtain ⟨i0, hi0, hq0, hq1, hq2⟩ := info_parts Tryz.infoString
                      have hml2 : N + 1 ≤ maxLen := by unfold maxLen; omega
                      have hby2 : (N + 1) * 16 ≤ 140737488355328 := by omega
                      have hs6 := HD6.out.1
                      have ha6 := HA6.out
                      have e0 := hs6.cell 0
                      have e2 := hs6.cell 2
                      simp only [List.getElem?_toArray, List.getElem?_cons_zero, List.getElem?_cons_succ] at e0 e2
                      have k0 := ha6.cell 0
                      simp at k0
                      clear hs6 ha6
                      have HXa := Lib.hid (HD6.out.1.drew.alloc (.cells #[.string u'] 9))
                      have HAa := Lib.hid (HA6.out.drew.alloc (.cells #[.string u'] 9))
                      have HOa : Hid (ROwn stR (wc.drew.alloc (.cells #[.string u'] 9)) w0.heap.size (.slice A N cap) T) := Lib.hid (ROwn.alloc (show ROwn stR wc.drew w0.heap.size (.slice A N cap) T from HD6.out.2.1) (.cells #[.string u'] 9))
                      have HBa : Hid (Below w0.heap.size w0 (wc.drew.alloc (.cells #[.string u'] 9))) := Lib.hid (by have h := HD6.out.2.2.2.1; have h2 : Below w0.heap.size w0 wc.drew := ⟨h.os, h.tape, h.output, h.size, h.block⟩; exact h2.alloc h2.size _)
                      have hx := HD6.out.1.alloc (.cells #[.string u'] 9)
                      have ha := HA6.out.alloc (.cells #[.string u'] 9)
                      have p0 := hx.cell 0
                      have p2 := hx.cell 2
                      simp only [List.getElem?_toArray, List.getElem?_cons_zero, List.getElem?_cons_succ] at p0 p2
                      have p4 := ha.cell 0
                      simp at p4
                      clear hx ha
                      go_wp2
                      go_region_law (
                        (refine step_append_rows rfl (.tmp 72) (.tmp 75) 23 rfl stR w0.heap.size i0 _ 16 Tryz.underlying23 hi0 hq0 hq1 hq2 rfl (by decide) _ T [u'] N HTN.out rfl HOa.out (some ⟨wc.heap.size, 0, none⟩) 1 1 rfl rfl (RAt.made stR wc.drew [u'] _ rfl) (fun e => by cases e) (fun q e => by cases e; rfl) hml2 hby2 HBa.out.size ?_
                         intro v' w7 hown hgrow hnn
                         obtain ⟨A7, N7, cap7, rfl⟩ := hown.val
                         have hN7 : N7 = N + 1 := hown.len.1.trans (by rw [List.length_append, HTN.out]; rfl)
                         subst hN7
                         have HO7 := Lib.hid hown
                         have HOD := Lib.hid (HOa.out.whole HXa.out (by decide))
                         have HX7 := Lib.hid (HXa.out.grown hgrow (fun e => HOD.out e.symm))
                         have HB7 := Lib.hid (below_far HBa.out hgrow (fun g e => (World.ownsRow.lt HOa.out _ e).1))
                         have HOE := Lib.hid (HO7.out.whole HX7.out (by decide))
                         have hx7 := HX7.out
                         have x0 := hx7.cell 0
                         have x2 := hx7.cell 2
                         simp only [List.getElem?_toArray, List.getElem?_cons_zero, List.getElem?_cons_succ] at x0 x2
                         have f0 := hx7.free 0
                         have f2 := hx7.free 2
                         clear hown hgrow hnn hx7))
                      all_goals
                        go_wp2
                        go_ret
                        rw [HE.out]
                        have hxb := HXB.out
                        subst hxb
                        refine ⟨A7, N + 1, cap7, rfl, (HX7.out.store 0 (.int .i64 4)).store 2 (.slice A7 (N + 1) cap7), (HO7.out.store (p := ⟨D, 0, none⟩) HOE.out _).store (p := ⟨D, 2, none⟩) HOE.out _, HD6.out.2.2.1, (HB7.out.setCell HD6.out.2.2.1 _).setCell HD6.out.2.2.1 _, HD6.out.2.2.2.2⟩
          ·
            have HE : Hid (rcptF ⟨3, us, T, tx⟩ L d l = (⟨3, us, T, tx⟩, 550)) := Lib.hid (by unfold rcptF; rw [if_neg (by simp), if_neg (by rw [HO.out]; simp), if_neg (by rw [HV.out]; exact fun h => hvd h.1)])
            obtain ⟨x1, x2⟩ := ne_walk hvd
            go_enter Tryz.func78, Tryz.ntmps78
            go_wp2_with fail
            refine HC.out.mono ?_
            rintro e w3 ⟨u', d', rfl, hq, hb⟩
            have HQ := Lib.hid hq
            obtain ⟨B, hB⟩ : ∃ B, w3.heap.size = B := ⟨_, rfl⟩
            obtain ⟨w4, hw4⟩ : ∃ w4, w3.alloc (.cells #[.string u', .string d'] 112) = w4 := ⟨_, rfl⟩
            have HD4 := Lib.hid ((HD.out.later hb).later (w' := w4) (by rw [← hw4]; exact (Below.refl _ _).alloc (Nat.le_refl _) _))
            have HA4 : Hid (Whole w4 B 112 #[.string u', .string d']) := Lib.hid (by rw [← hw4, ← hB]; exact Whole.made _ _ _)
            clear hb hq c0
            obtain ⟨rfl, rfl⟩ := HQ.out rfl
            go_upto_region 6 with fail
            go_cut [8] (fun s8 wx => s8 = .bool true ∧ Hid (DS w0 wx D ⟨3, us, T, tx⟩ A N cap AU NU cU L d) ∧ Hid (Whole wx B 112 #[.string u', .string d']))
            case first =>
              obtain ⟨C, hC⟩ : ∃ C, w4.heap.size = C := ⟨_, rfl⟩
              obtain ⟨wz, hwz⟩ : ∃ wz, w4.alloc (.cells #[.string ⟨#[]⟩, .string ⟨#[]⟩, .int .i64 0] 35) = wz := ⟨_, rfl⟩
              have hbz : Below w4.heap.size w4 wz := by rw [← hwz]; exact (Below.refl _ _).alloc (Nat.le_refl _) _
              have HDz := Lib.hid (HD4.out.later hbz)
              have HAz := Lib.hid (HA4.out.below hbz HA4.out.lt)
              have HCz : Hid (Whole wz C 35 #[.string ⟨#[]⟩, .string ⟨#[]⟩, .int .i64 0]) := Lib.hid (by rw [← hwz, ← hC]; exact Whole.made _ _ _)
              have HDC : Hid (D ≠ C) := Lib.hid (by have := HD4.out.1.lt; rw [hC] at this; omega)
              have HBC : Hid (B ≠ C) := Lib.hid (by have := HA4.out.lt; rw [hC] at this; omega)
              have HWC : Hid (w0.heap.size ≤ C) := Lib.hid (by rw [← hC]; exact HD4.out.2.2.2.1.size)
              have hs4 := HD4.out.1
              have ha4 := HA4.out
              clear hbz
              have e4 := hs4.cell 4
              simp only [List.getElem?_toArray, List.getElem?_cons_succ] at e4
              have k0 := ha4.cell 0
              simp at k0
              have hsz := HDz.out.1
              have haz := HAz.out
              have i4 := hsz.cell 4
              have j0 := haz.cell 0
              simp at i4 j0
              clear hs4 ha4 hsz haz
              have HDd : Hid (DS w0 wz.drew D ⟨3, us, T, tx⟩ A N cap AU NU cU L d) := Lib.hid (HDz.out.later (w' := wz.drew) ⟨rfl, rfl, rfl, Nat.le_refl _, fun _ _ => rfl⟩)
              have HD4d : Hid (DS w0 w4.drew D ⟨3, us, T, tx⟩ A N cap AU NU cU L d) := Lib.hid (HD4.out.later (w' := w4.drew) ⟨rfl, rfl, rfl, Nat.le_refl _, fun _ _ => rfl⟩)
              have HAd := Lib.hid HAz.out.drew
              have HCd := Lib.hid HCz.out.drew
              have HA4d := Lib.hid HA4.out.drew
              go_region_held3 (fun w' => w'.cell? ⟨D, 4, none⟩ = some (.slice AU NU cU) ∧ w'.cell? ⟨B, 0, none⟩ = some (.string u')) (first | with_reducible exact s9 | exact ⟨(HD6.out.1.alloc _).cell 4, (HA6.out.alloc _).cell 0⟩ | exact ⟨HD6.out.1.cell 4, HA6.out.cell 0⟩ | exact ⟨HD5.out.1.cell 4, HA5.out.cell 0⟩ | exact ⟨HDd.out.1.cell 4, HAd.out.cell 0⟩ | exact ⟨HD4d.out.1.cell 4, HA4d.out.cell 0⟩ | exact ⟨HDz.out.1.cell 4, HAz.out.cell 0⟩ | go_keep) (first | (go_at_call 106; refine (impl_uf HF.out wz.drew HDd.out.users).mono ?_; rintro e w5 ⟨rfl, hb⟩; unfold usV; have HD5 := Lib.hid (HDd.out.later hb); have HA5 := Lib.hid (HAd.out.below hb HAd.out.lt); have HC5 := Lib.hid (HCd.out.below hb HCd.out.lt); have hc5 := HC5.out; have y0 := hc5.cell 0; have y1 := hc5.cell 1; have y2 := hc5.cell 2; simp at y0 y1 y2; have g0 := hc5.free 0; have g1 := hc5.free 1; have g2 := hc5.free 2; have hd9 := (((HD5.out.far HC5.out (by decide) HDC.out HWC.out 0 (.string n2)).far (HC5.out.store 0 _) (by decide) HDC.out HWC.out 1 (.string p2)).far ((HC5.out.store 0 _).store 1 _) (by decide) HDC.out HWC.out 2 (.int .i64 q2)).1.cell 4; have ha9 := (((HA5.out.apart (p := ⟨C, 0, none⟩) HBC.out (.string n2)).apart (p := ⟨C, 1, none⟩) HBC.out (.string p2)).apart (p := ⟨C, 2, none⟩) HBC.out (.int .i64 q2)).cell 0; simp at hd9 ha9; have s9 := And.intro hd9 ha9; clear hb hc5 hd9 ha9) | (go_at_call 106; refine (impl_uf HF.out w4.drew HD4d.out.users).mono ?_; rintro e w6 ⟨rfl, hb⟩; unfold usV; have HD6 := Lib.hid (HD4d.out.later hb); have HA6 := Lib.hid (HA4d.out.below hb HA4d.out.lt); clear hb))
              all_goals go_wp2_with fail
              all_goals go_meet
              all_goals first | exact ⟨rfl, Lib.hid (HD6.out.later ((Below.refl _ _).alloc (Nat.le_refl _) _)), Lib.hid (HA6.out.alloc _)⟩ | exact ⟨rfl, Lib.hid (((HD5.out.far HC5.out (by decide) HDC.out HWC.out 0 (.string n2)).far (HC5.out.store 0 _) (by decide) HDC.out HWC.out 1 (.string p2)).far ((HC5.out.store 0 _).store 1 _) (by decide) HDC.out HWC.out 2 (.int .i64 q2)), Lib.hid (((HA5.out.apart (p := ⟨C, 0, none⟩) HBC.out (.string n2)).apart (p := ⟨C, 1, none⟩) HBC.out (.string p2)).apart (p := ⟨C, 2, none⟩) HBC.out (.int .i64 q2))⟩
            case rest =>
              obtain ⟨rfl, HD6, HA6⟩ := hcut
              have hs6 := HD6.out.1
              have ha6 := HA6.out
              have e5 := hs6.cell 5
              simp only [List.getElem?_toArray, List.getElem?_cons_succ] at e5
              have k1 := ha6.cell 1
              simp at k1
              clear hs6 ha6
              clear hvd
              go_wp2
              go_quiet (fail)
              go_wp2
              go_ret
              rw [HE.out]
              exact ⟨A, N, cap, rfl, HD6.out.later (below_drewN' (Below.refl _ _) _)⟩
    ·
      obtain ⟨u, hu⟩ : ∃ u, ptU bRCPT l = u := ⟨_, rfl⟩
      obtain ⟨v, hd⟩ : ∃ v, ptD bRCPT l = v := ⟨_, rfl⟩
      cases ho : ptO bRCPT l with
      | false =>
        have HC := Lib.hid (impl_pbh ho hu hd w hl2)
        unfold bRCPT at HC
        have HO := Lib.hid ho
        have HU := Lib.hid hu
        have HV := Lib.hid hd
        clear ho hu hd
        have HE : Hid (rcptF ⟨4, us, T, tx⟩ L d l = (⟨4, us, T, tx⟩, 501)) := Lib.hid (by unfold rcptF; rw [if_neg (by simp), if_pos HO.out])
        go_enter Tryz.func78, Tryz.ntmps78
        go_wp2_with fail
        refine HC.out.mono ?_
        rintro e w3 ⟨u', d', rfl, hq, hb⟩
        have HQ := Lib.hid hq
        obtain ⟨B, hB⟩ : ∃ B, w3.heap.size = B := ⟨_, rfl⟩
        obtain ⟨w4, hw4⟩ : ∃ w4, w3.alloc (.cells #[.string u', .string d'] 112) = w4 := ⟨_, rfl⟩
        have HD4 := Lib.hid ((HD.out.later hb).later (w' := w4) (by rw [← hw4]; exact (Below.refl _ _).alloc (Nat.le_refl _) _))
        have HA4 : Hid (Whole w4 B 112 #[.string u', .string d']) := Lib.hid (by rw [← hw4, ← hB]; exact Whole.made _ _ _)
        clear hb hq c0
        go_wp2
        go_ret
        rw [HE.out]
        exact ⟨A, N, cap, rfl, HD4.out⟩
      | true =>
        have HC := Lib.hid (impl_pbh ho hu hd w hl2)
        unfold bRCPT at HC
        have HO := Lib.hid ho
        have HU := Lib.hid hu
        have HV := Lib.hid hd
        clear ho hu hd
        obtain ⟨⟨⟨n2, p2, q2⟩, z⟩, hf⟩ : ∃ x, usF L u = x := ⟨_, rfl⟩
        have HF := Lib.hid hf
        have HZ : Hid ((fU L u).isSome = z) := Lib.hid (fU_z HVU.out hf)
        clear hf
        cases z with
        | false =>
          have HE : Hid (rcptF ⟨4, us, T, tx⟩ L d l = (⟨4, us, T, tx⟩, 550)) := Lib.hid (by unfold rcptF; rw [if_neg (by simp), if_neg (by rw [HO.out]; simp), if_neg (by rw [HU.out, HZ.out]; simp)])
          go_enter Tryz.func78, Tryz.ntmps78
          go_wp2_with fail
          refine HC.out.mono ?_
          rintro e w3 ⟨u', d', rfl, hq, hb⟩
          have HQ := Lib.hid hq
          obtain ⟨B, hB⟩ : ∃ B, w3.heap.size = B := ⟨_, rfl⟩
          obtain ⟨w4, hw4⟩ : ∃ w4, w3.alloc (.cells #[.string u', .string d'] 112) = w4 := ⟨_, rfl⟩
          have HD4 := Lib.hid ((HD.out.later hb).later (w' := w4) (by rw [← hw4]; exact (Below.refl _ _).alloc (Nat.le_refl _) _))
          have HA4 : Hid (Whole w4 B 112 #[.string u', .string d']) := Lib.hid (by rw [← hw4, ← hB]; exact Whole.made _ _ _)
          clear hb hq c0
          obtain ⟨rfl, rfl⟩ := HQ.out rfl
          go_upto_region 6 with fail
          go_cut [8] (fun s8 wx => s8 = .bool false ∧ Hid (DS w0 wx D ⟨4, us, T, tx⟩ A N cap AU NU cU L d) ∧ Hid (Whole wx B 112 #[.string u', .string d']))
          case first =>
            obtain ⟨C, hC⟩ : ∃ C, w4.heap.size = C := ⟨_, rfl⟩
            obtain ⟨wz, hwz⟩ : ∃ wz, w4.alloc (.cells #[.string ⟨#[]⟩, .string ⟨#[]⟩, .int .i64 0] 35) = wz := ⟨_, rfl⟩
            have hbz : Below w4.heap.size w4 wz := by rw [← hwz]; exact (Below.refl _ _).alloc (Nat.le_refl _) _
            have HDz := Lib.hid (HD4.out.later hbz)
            have HAz := Lib.hid (HA4.out.below hbz HA4.out.lt)
            have HCz : Hid (Whole wz C 35 #[.string ⟨#[]⟩, .string ⟨#[]⟩, .int .i64 0]) := Lib.hid (by rw [← hwz, ← hC]; exact Whole.made _ _ _)
            have HDC : Hid (D ≠ C) := Lib.hid (by have := HD4.out.1.lt; rw [hC] at this; omega)
            have HBC : Hid (B ≠ C) := Lib.hid (by have := HA4.out.lt; rw [hC] at this; omega)
            have HWC : Hid (w0.heap.size ≤ C) := Lib.hid (by rw [← hC]; exact HD4.out.2.2.2.1.size)
            have hs4 := HD4.out.1
            have ha4 := HA4.out
            clear hbz
            have e4 := hs4.cell 4
            simp only [List.getElem?_toArray, List.getElem?_cons_succ] at e4
            have k0 := ha4.cell 0
            simp at k0
            have hsz := HDz.out.1
            have haz := HAz.out
            have i4 := hsz.cell 4
            have j0 := haz.cell 0
            simp at i4 j0
            clear hs4 ha4 hsz haz
            have HDd : Hid (DS w0 wz.drew D ⟨4, us, T, tx⟩ A N cap AU NU cU L d) := Lib.hid (HDz.out.later (w' := wz.drew) ⟨rfl, rfl, rfl, Nat.le_refl _, fun _ _ => rfl⟩)
            have HD4d : Hid (DS w0 w4.drew D ⟨4, us, T, tx⟩ A N cap AU NU cU L d) := Lib.hid (HD4.out.later (w' := w4.drew) ⟨rfl, rfl, rfl, Nat.le_refl _, fun _ _ => rfl⟩)
            have HAd := Lib.hid HAz.out.drew
            have HCd := Lib.hid HCz.out.drew
            have HA4d := Lib.hid HA4.out.drew
            go_region_held3 (fun w' => w'.cell? ⟨D, 4, none⟩ = some (.slice AU NU cU) ∧ w'.cell? ⟨B, 0, none⟩ = some (.string u')) (first | with_reducible exact s9 | exact ⟨(HD6.out.1.alloc _).cell 4, (HA6.out.alloc _).cell 0⟩ | exact ⟨HD6.out.1.cell 4, HA6.out.cell 0⟩ | exact ⟨HD5.out.1.cell 4, HA5.out.cell 0⟩ | exact ⟨HDd.out.1.cell 4, HAd.out.cell 0⟩ | exact ⟨HD4d.out.1.cell 4, HA4d.out.cell 0⟩ | exact ⟨HDz.out.1.cell 4, HAz.out.cell 0⟩ | go_keep) (first | (go_at_call 106; refine (impl_uf HF.out wz.drew HDd.out.users).mono ?_; rintro e w5 ⟨rfl, hb⟩; unfold usV; have HD5 := Lib.hid (HDd.out.later hb); have HA5 := Lib.hid (HAd.out.below hb HAd.out.lt); have HC5 := Lib.hid (HCd.out.below hb HCd.out.lt); have hc5 := HC5.out; have y0 := hc5.cell 0; have y1 := hc5.cell 1; have y2 := hc5.cell 2; simp at y0 y1 y2; have g0 := hc5.free 0; have g1 := hc5.free 1; have g2 := hc5.free 2; have hd9 := (((HD5.out.far HC5.out (by decide) HDC.out HWC.out 0 (.string n2)).far (HC5.out.store 0 _) (by decide) HDC.out HWC.out 1 (.string p2)).far ((HC5.out.store 0 _).store 1 _) (by decide) HDC.out HWC.out 2 (.int .i64 q2)).1.cell 4; have ha9 := (((HA5.out.apart (p := ⟨C, 0, none⟩) HBC.out (.string n2)).apart (p := ⟨C, 1, none⟩) HBC.out (.string p2)).apart (p := ⟨C, 2, none⟩) HBC.out (.int .i64 q2)).cell 0; simp at hd9 ha9; have s9 := And.intro hd9 ha9; clear hb hc5 hd9 ha9) | (go_at_call 106; refine (impl_uf HF.out w4.drew HD4d.out.users).mono ?_; rintro e w6 ⟨rfl, hb⟩; unfold usV; have HD6 := Lib.hid (HD4d.out.later hb); have HA6 := Lib.hid (HA4d.out.below hb HA4d.out.lt); clear hb))
            all_goals go_wp2_with fail
            all_goals go_meet
            all_goals first | exact ⟨rfl, Lib.hid (HD6.out.later ((Below.refl _ _).alloc (Nat.le_refl _) _)), Lib.hid (HA6.out.alloc _)⟩ | exact ⟨rfl, Lib.hid (((HD5.out.far HC5.out (by decide) HDC.out HWC.out 0 (.string n2)).far (HC5.out.store 0 _) (by decide) HDC.out HWC.out 1 (.string p2)).far ((HC5.out.store 0 _).store 1 _) (by decide) HDC.out HWC.out 2 (.int .i64 q2)), Lib.hid (((HA5.out.apart (p := ⟨C, 0, none⟩) HBC.out (.string n2)).apart (p := ⟨C, 1, none⟩) HBC.out (.string p2)).apart (p := ⟨C, 2, none⟩) HBC.out (.int .i64 q2))⟩
          case rest =>
            obtain ⟨rfl, HD6, HA6⟩ := hcut
            have hs6 := HD6.out.1
            have ha6 := HA6.out
            have e5 := hs6.cell 5
            simp only [List.getElem?_toArray, List.getElem?_cons_succ] at e5
            have k1 := ha6.cell 1
            simp at k1
            clear hs6 ha6
            go_wp2
            go_quiet (fail)
            go_wp2
            go_ret
            rw [HE.out]
            exact ⟨A, N, cap, rfl, HD6.out.later (below_drewN' (Below.refl _ _) _)⟩
        | true =>
          by_cases hvd : v = d
          ·
            subst hvd
            cases hm : decide (u ∈ T) with
            | true =>
              have HM := Lib.hid hm
              have HE : Hid (rcptF ⟨4, us, T, tx⟩ L v l = (⟨4, us, T, tx⟩, 250)) := Lib.hid (by unfold rcptF; rw [if_neg (by simp), if_neg (by rw [HO.out]; simp), if_pos ⟨HV.out, by rw [HU.out, HZ.out]⟩, HU.out, if_pos (of_decide_eq_true hm)])
              clear hm
              go_enter Tryz.func78, Tryz.ntmps78
              go_wp2_with fail
              refine HC.out.mono ?_
              rintro e w3 ⟨u', d', rfl, hq, hb⟩
              have HQ := Lib.hid hq
              obtain ⟨B, hB⟩ : ∃ B, w3.heap.size = B := ⟨_, rfl⟩
              obtain ⟨w4, hw4⟩ : ∃ w4, w3.alloc (.cells #[.string u', .string d'] 112) = w4 := ⟨_, rfl⟩
              have HD4 := Lib.hid ((HD.out.later hb).later (w' := w4) (by rw [← hw4]; exact (Below.refl _ _).alloc (Nat.le_refl _) _))
              have HA4 : Hid (Whole w4 B 112 #[.string u', .string d']) := Lib.hid (by rw [← hw4, ← hB]; exact Whole.made _ _ _)
              clear hb hq c0
              obtain ⟨rfl, rfl⟩ := HQ.out rfl
              go_upto_region 6 with fail
              go_cut [8] (fun s8 wx => s8 = .bool true ∧ Hid (DS w0 wx D ⟨4, us, T, tx⟩ A N cap AU NU cU L d') ∧ Hid (Whole wx B 112 #[.string u', .string d']))
              case first =>
                obtain ⟨C, hC⟩ : ∃ C, w4.heap.size = C := ⟨_, rfl⟩
                obtain ⟨wz, hwz⟩ : ∃ wz, w4.alloc (.cells #[.string ⟨#[]⟩, .string ⟨#[]⟩, .int .i64 0] 35) = wz := ⟨_, rfl⟩
                have hbz : Below w4.heap.size w4 wz := by rw [← hwz]; exact (Below.refl _ _).alloc (Nat.le_refl _) _
                have HDz := Lib.hid (HD4.out.later hbz)
                have HAz := Lib.hid (HA4.out.below hbz HA4.out.lt)
                have HCz : Hid (Whole wz C 35 #[.string ⟨#[]⟩, .string ⟨#[]⟩, .int .i64 0]) := Lib.hid (by rw [← hwz, ← hC]; exact Whole.made _ _ _)
                have HDC : Hid (D ≠ C) := Lib.hid (by have := HD4.out.1.lt; rw [hC] at this; omega)
                have HBC : Hid (B ≠ C) := Lib.hid (by have := HA4.out.lt; rw [hC] at this; omega)
                have HWC : Hid (w0.heap.size ≤ C) := Lib.hid (by rw [← hC]; exact HD4.out.2.2.2.1.size)
                have hs4 := HD4.out.1
                have ha4 := HA4.out
                clear hbz
                have e4 := hs4.cell 4
                simp only [List.getElem?_toArray, List.getElem?_cons_succ] at e4
                have k0 := ha4.cell 0
                simp at k0
                have hsz := HDz.out.1
                have haz := HAz.out
                have i4 := hsz.cell 4
                have j0 := haz.cell 0
                simp at i4 j0
                clear hs4 ha4 hsz haz
                have HDd : Hid (DS w0 wz.drew D ⟨4, us, T, tx⟩ A N cap AU NU cU L d') := Lib.hid (HDz.out.later (w' := wz.drew) ⟨rfl, rfl, rfl, Nat.le_refl _, fun _ _ => rfl⟩)
                have HD4d : Hid (DS w0 w4.drew D ⟨4, us, T, tx⟩ A N cap AU NU cU L d') := Lib.hid (HD4.out.later (w' := w4.drew) ⟨rfl, rfl, rfl, Nat.le_refl _, fun _ _ => rfl⟩)
                have HAd := Lib.hid HAz.out.drew
                have HCd := Lib.hid HCz.out.drew
                have HA4d := Lib.hid HA4.out.drew
                go_region_held3 (fun w' => w'.cell? ⟨D, 4, none⟩ = some (.slice AU NU cU) ∧ w'.cell? ⟨B, 0, none⟩ = some (.string u')) (first | with_reducible exact s9 | exact ⟨(HD6.out.1.alloc _).cell 4, (HA6.out.alloc _).cell 0⟩ | exact ⟨HD6.out.1.cell 4, HA6.out.cell 0⟩ | exact ⟨HD5.out.1.cell 4, HA5.out.cell 0⟩ | exact ⟨HDd.out.1.cell 4, HAd.out.cell 0⟩ | exact ⟨HD4d.out.1.cell 4, HA4d.out.cell 0⟩ | exact ⟨HDz.out.1.cell 4, HAz.out.cell 0⟩ | go_keep) (first | (go_at_call 106; refine (impl_uf HF.out wz.drew HDd.out.users).mono ?_; rintro e w5 ⟨rfl, hb⟩; unfold usV; have HD5 := Lib.hid (HDd.out.later hb); have HA5 := Lib.hid (HAd.out.below hb HAd.out.lt); have HC5 := Lib.hid (HCd.out.below hb HCd.out.lt); have hc5 := HC5.out; have y0 := hc5.cell 0; have y1 := hc5.cell 1; have y2 := hc5.cell 2; simp at y0 y1 y2; have g0 := hc5.free 0; have g1 := hc5.free 1; have g2 := hc5.free 2; have hd9 := (((HD5.out.far HC5.out (by decide) HDC.out HWC.out 0 (.string n2)).far (HC5.out.store 0 _) (by decide) HDC.out HWC.out 1 (.string p2)).far ((HC5.out.store 0 _).store 1 _) (by decide) HDC.out HWC.out 2 (.int .i64 q2)).1.cell 4; have ha9 := (((HA5.out.apart (p := ⟨C, 0, none⟩) HBC.out (.string n2)).apart (p := ⟨C, 1, none⟩) HBC.out (.string p2)).apart (p := ⟨C, 2, none⟩) HBC.out (.int .i64 q2)).cell 0; simp at hd9 ha9; have s9 := And.intro hd9 ha9; clear hb hc5 hd9 ha9) | (go_at_call 106; refine (impl_uf HF.out w4.drew HD4d.out.users).mono ?_; rintro e w6 ⟨rfl, hb⟩; unfold usV; have HD6 := Lib.hid (HD4d.out.later hb); have HA6 := Lib.hid (HA4d.out.below hb HA4d.out.lt); clear hb))
                all_goals go_wp2_with fail
                all_goals go_meet
                all_goals first | exact ⟨rfl, Lib.hid (HD6.out.later ((Below.refl _ _).alloc (Nat.le_refl _) _)), Lib.hid (HA6.out.alloc _)⟩ | exact ⟨rfl, Lib.hid (((HD5.out.far HC5.out (by decide) HDC.out HWC.out 0 (.string n2)).far (HC5.out.store 0 _) (by decide) HDC.out HWC.out 1 (.string p2)).far ((HC5.out.store 0 _).store 1 _) (by decide) HDC.out HWC.out 2 (.int .i64 q2)), Lib.hid (((HA5.out.apart (p := ⟨C, 0, none⟩) HBC.out (.string n2)).apart (p := ⟨C, 1, none⟩) HBC.out (.string p2)).apart (p := ⟨C, 2, none⟩) HBC.out (.int .i64 q2))⟩
              case rest =>
                obtain ⟨rfl, HD6, HA6⟩ := hcut
                have hs6 := HD6.out.1
                have ha6 := HA6.out
                have e5 := hs6.cell 5
                simp only [List.getElem?_toArray, List.getElem?_cons_succ] at e5
                have k1 := ha6.cell 1
                simp at k1
                clear hs6 ha6
                go_upto_region 7 with fail
                go_cut [50] (fun s50 wx => s50 = .bool false ∧ Hid (DS w0 wx D ⟨4, us, T, tx⟩ A N cap AU NU cU L d') ∧ Hid (Whole wx B 112 #[.string u', .string d']))
                case first =>
                  go_wp2
                  go_quiet (fail)
                  go_wp2_with fail
                  go_meet
                  exact ⟨rfl, Lib.hid (HD6.out.later (below_drewN' (Below.refl _ _) _)), Lib.hid (HA6.out.drewN _)⟩
                case rest =>
                  clear e5 k1 HD6 HA6
                  obtain ⟨rfl, HD6, HA6⟩ := hcut
                  have hs6 := HD6.out.1
                  have ha6 := HA6.out
                  have e2 := hs6.cell 2
                  simp only [List.getElem?_toArray, List.getElem?_cons_succ] at e2
                  have k0 := ha6.cell 0
                  simp at k0
                  clear hs6 ha6
                  have HI6 := Lib.hid (SIn.made (L := T) HD6.out.2.1 (by have := HT3.out; omega) (fun g hg => Nat.le_trans (HTS.out g hg) (by omega)))
                  go_upto_region 9 with fail
                  go_cut [58] (fun s58 wx => s58 = .bool true ∧ Hid (DS w0 wx D ⟨4, us, T, tx⟩ A N cap AU NU cU L d') ∧ Hid (Whole wx B 112 #[.string u', .string d']))
                  case first =>
                    go_wp2
                    go_quiet ((go_at_call 96; exact Calls.quiet_of_same (lib_has HM.out _ (SIn.dr HI6.out _))))
                    go_wp2_with fail
                    go_meet
                    exact ⟨rfl, Lib.hid (HD6.out.later (below_drewN' (Below.refl _ _) _)), Lib.hid (HA6.out.drewN _)⟩
                  case rest =>
                    clear e2 k0 HD6 HA6 HI6
                    obtain ⟨rfl, HD6, HA6⟩ := hcut
                    go_wp2
                    go_ret
                    rw [HE.out]
                    exact ⟨A, N, cap, rfl, HD6.out⟩
            | false =>
              have HM := Lib.hid hm
              by_cases h3 : 3 ≤ T.length
              ·
                have HE : Hid (rcptF ⟨4, us, T, tx⟩ L v l = (⟨4, us, T, tx⟩, 452)) := Lib.hid (by unfold rcptF; rw [if_neg (by simp), if_neg (by rw [HO.out]; simp), if_pos ⟨HV.out, by rw [HU.out, HZ.out]⟩, HU.out, if_neg (of_decide_eq_false hm), if_pos h3])
                have HN3 : Hid (N = 3) := Lib.hid (by have h1 : N = T.length := HD.out.2.1.len.1; have h2 := HT3.out; omega)
                clear hm h3
                go_enter Tryz.func78, Tryz.ntmps78
                go_wp2_with fail
                refine HC.out.mono ?_
                rintro e w3 ⟨u', d', rfl, hq, hb⟩
                have HQ := Lib.hid hq
                obtain ⟨B, hB⟩ : ∃ B, w3.heap.size = B := ⟨_, rfl⟩
                obtain ⟨w4, hw4⟩ : ∃ w4, w3.alloc (.cells #[.string u', .string d'] 112) = w4 := ⟨_, rfl⟩
                have HD4 := Lib.hid ((HD.out.later hb).later (w' := w4) (by rw [← hw4]; exact (Below.refl _ _).alloc (Nat.le_refl _) _))
                have HA4 : Hid (Whole w4 B 112 #[.string u', .string d']) := Lib.hid (by rw [← hw4, ← hB]; exact Whole.made _ _ _)
                clear hb hq c0
                obtain ⟨rfl, rfl⟩ := HQ.out rfl
                go_upto_region 6 with fail
                go_cut [8] (fun s8 wx => s8 = .bool true ∧ Hid (DS w0 wx D ⟨4, us, T, tx⟩ A N cap AU NU cU L d') ∧ Hid (Whole wx B 112 #[.string u', .string d']))
                case first =>
                  obtain ⟨C, hC⟩ : ∃ C, w4.heap.size = C := ⟨_, rfl⟩
                  obtain ⟨wz, hwz⟩ : ∃ wz, w4.alloc (.cells #[.string ⟨#[]⟩, .string ⟨#[]⟩, .int .i64 0] 35) = wz := ⟨_, rfl⟩
                  have hbz : Below w4.heap.size w4 wz := by rw [← hwz]; exact (Below.refl _ _).alloc (Nat.le_refl _) _
                  have HDz := Lib.hid (HD4.out.later hbz)
                  have HAz := Lib.hid (HA4.out.below hbz HA4.out.lt)
                  have HCz : Hid (Whole wz C 35 #[.string ⟨#[]⟩, .string ⟨#[]⟩, .int .i64 0]) := Lib.hid (by rw [← hwz, ← hC]; exact Whole.made _ _ _)
                  have HDC : Hid (D ≠ C) := Lib.hid (by have := HD4.out.1.lt; rw [hC] at this; omega)
                  have HBC : Hid (B ≠ C) := Lib.hid (by have := HA4.out.lt; rw [hC] at this; omega)
                  have HWC : Hid (w0.heap.size ≤ C) := Lib.hid (by rw [← hC]; exact HD4.out.2.2.2.1.size)
                  have hs4 := HD4.out.1
                  have ha4 := HA4.out
                  clear hbz
                  have e4 := hs4.cell 4
                  simp only [List.getElem?_toArray, List.getElem?_cons_succ] at e4
                  have k0 := ha4.cell 0
                  simp at k0
                  have hsz := HDz.out.1
                  have haz := HAz.out
                  have i4 := hsz.cell 4
                  have j0 := haz.cell 0
                  simp at i4 j0
                  clear hs4 ha4 hsz haz
                  have HDd : Hid (DS w0 wz.drew D ⟨4, us, T, tx⟩ A N cap AU NU cU L d') := Lib.hid (HDz.out.later (w' := wz.drew) ⟨rfl, rfl, rfl, Nat.le_refl _, fun _ _ => rfl⟩)
                  have HD4d : Hid (DS w0 w4.drew D ⟨4, us, T, tx⟩ A N cap AU NU cU L d') := Lib.hid (HD4.out.later (w' := w4.drew) ⟨rfl, rfl, rfl, Nat.le_refl _, fun _ _ => rfl⟩)
                  have HAd := Lib.hid HAz.out.drew
                  have HCd := Lib.hid HCz.out.drew
                  have HA4d := Lib.hid HA4.out.drew
                  go_region_held3 (fun w' => w'.cell? ⟨D, 4, none⟩ = some (.slice AU NU cU) ∧ w'.cell? ⟨B, 0, none⟩ = some (.string u')) (first | with_reducible exact s9 | exact ⟨(HD6.out.1.alloc _).cell 4, (HA6.out.alloc _).cell 0⟩ | exact ⟨HD6.out.1.cell 4, HA6.out.cell 0⟩ | exact ⟨HD5.out.1.cell 4, HA5.out.cell 0⟩ | exact ⟨HDd.out.1.cell 4, HAd.out.cell 0⟩ | exact ⟨HD4d.out.1.cell 4, HA4d.out.cell 0⟩ | exact ⟨HDz.out.1.cell 4, HAz.out.cell 0⟩ | go_keep) (first | (go_at_call 106; refine (impl_uf HF.out wz.drew HDd.out.users).mono ?_; rintro e w5 ⟨rfl, hb⟩; unfold usV; have HD5 := Lib.hid (HDd.out.later hb); have HA5 := Lib.hid (HAd.out.below hb HAd.out.lt); have HC5 := Lib.hid (HCd.out.below hb HCd.out.lt); have hc5 := HC5.out; have y0 := hc5.cell 0; have y1 := hc5.cell 1; have y2 := hc5.cell 2; simp at y0 y1 y2; have g0 := hc5.free 0; have g1 := hc5.free 1; have g2 := hc5.free 2; have hd9 := (((HD5.out.far HC5.out (by decide) HDC.out HWC.out 0 (.string n2)).far (HC5.out.store 0 _) (by decide) HDC.out HWC.out 1 (.string p2)).far ((HC5.out.store 0 _).store 1 _) (by decide) HDC.out HWC.out 2 (.int .i64 q2)).1.cell 4; have ha9 := (((HA5.out.apart (p := ⟨C, 0, none⟩) HBC.out (.string n2)).apart (p := ⟨C, 1, none⟩) HBC.out (.string p2)).apart (p := ⟨C, 2, none⟩) HBC.out (.int .i64 q2)).cell 0; simp at hd9 ha9; have s9 := And.intro hd9 ha9; clear hb hc5 hd9 ha9) | (go_at_call 106; refine (impl_uf HF.out w4.drew HD4d.out.users).mono ?_; rintro e w6 ⟨rfl, hb⟩; unfold usV; have HD6 := Lib.hid (HD4d.out.later hb); have HA6 := Lib.hid (HA4d.out.below hb HA4d.out.lt); clear hb))
                  all_goals go_wp2_with fail
                  all_goals go_meet
                  all_goals first | exact ⟨rfl, Lib.hid (HD6.out.later ((Below.refl _ _).alloc (Nat.le_refl _) _)), Lib.hid (HA6.out.alloc _)⟩ | exact ⟨rfl, Lib.hid (((HD5.out.far HC5.out (by decide) HDC.out HWC.out 0 (.string n2)).far (HC5.out.store 0 _) (by decide) HDC.out HWC.out 1 (.string p2)).far ((HC5.out.store 0 _).store 1 _) (by decide) HDC.out HWC.out 2 (.int .i64 q2)), Lib.hid (((HA5.out.apart (p := ⟨C, 0, none⟩) HBC.out (.string n2)).apart (p := ⟨C, 1, none⟩) HBC.out (.string p2)).apart (p := ⟨C, 2, none⟩) HBC.out (.int .i64 q2))⟩
                case rest =>
                  obtain ⟨rfl, HD6, HA6⟩ := hcut
                  have hs6 := HD6.out.1
                  have ha6 := HA6.out
                  have e5 := hs6.cell 5
                  simp only [List.getElem?_toArray, List.getElem?_cons_succ] at e5
                  have k1 := ha6.cell 1
                  simp at k1
                  clear hs6 ha6
                  go_upto_region 7 with fail
                  go_cut [50] (fun s50 wx => s50 = .bool false ∧ Hid (DS w0 wx D ⟨4, us, T, tx⟩ A N cap AU NU cU L d') ∧ Hid (Whole wx B 112 #[.string u', .string d']))
                  case first =>
                    go_wp2
                    go_quiet (fail)
                    go_wp2_with fail
                    go_meet
                    exact ⟨rfl, Lib.hid (HD6.out.later (below_drewN' (Below.refl _ _) _)), Lib.hid (HA6.out.drewN _)⟩
                  case rest =>
                    clear e5 k1 HD6 HA6
                    obtain ⟨rfl, HD6, HA6⟩ := hcut
                    have hs6 := HD6.out.1
                    have ha6 := HA6.out
                    have e2 := hs6.cell 2
                    simp only [List.getElem?_toArray, List.getElem?_cons_succ] at e2
                    have k0 := ha6.cell 0
                    simp at k0
                    clear hs6 ha6
                    have HI6 := Lib.hid (SIn.made (L := T) HD6.out.2.1 (by have := HT3.out; omega) (fun g hg => Nat.le_trans (HTS.out g hg) (by omega)))
                    go_upto_region 9 with fail
                    go_cut [58] (fun s58 wx => s58 = .bool false ∧ Hid (DS w0 wx D ⟨4, us, T, tx⟩ A N cap AU NU cU L d') ∧ Hid (Whole wx B 112 #[.string u', .string d']))
                    case first =>
                      go_wp2
                      go_quiet ((go_at_call 96; exact Calls.quiet_of_same (lib_has HM.out _ (SIn.dr HI6.out _))))
                      go_wp2_with fail
                      go_meet
                      exact ⟨rfl, Lib.hid (HD6.out.later (below_drewN' (Below.refl _ _) _)), Lib.hid (HA6.out.drewN _)⟩
                    case rest =>
                      clear e2 k0 HD6 HA6 HI6
                      obtain ⟨rfl, HD6, HA6⟩ := hcut
                      have hs6 := HD6.out.1
                      rw [HN3.out] at hs6
                      have e2 := hs6.cell 2
                      simp only [List.getElem?_toArray, List.getElem?_cons_succ] at e2
                      clear hs6
                      go_wp2
                      go_ret
                      rw [HE.out]
                      exact ⟨A, N, cap, rfl, HD6.out⟩
              ·
                have HE : Hid (rcptF ⟨4, us, T, tx⟩ L v l = (⟨4, us, T ++ [u], eB⟩, 250)) := Lib.hid (by unfold rcptF; rw [if_neg (by simp), if_neg (by rw [HO.out]; simp), if_pos ⟨HV.out, by rw [HU.out, HZ.out]⟩, HU.out, if_neg (of_decide_eq_false hm), if_neg h3])
                have HN2 : Hid (N ≤ 2) := Lib.hid (by have h1 : N = T.length := HD.out.2.1.len.1; omega)
                have HXB : Hid (tx = eB) := Lib.hid (HTX.out (by simp))
                have hn3 : ((N : Int) == 3) = false := beq_eq_false_iff_ne.2 (by have := HN2.out; omega)
                clear hm h3
                go_enter Tryz.func78, Tryz.ntmps78
                go_wp2_with fail
                refine HC.out.mono ?_
                rintro e w3 ⟨u', d', rfl, hq, hb⟩
                have HQ := Lib.hid hq
                obtain ⟨B, hB⟩ : ∃ B, w3.heap.size = B := ⟨_, rfl⟩
                obtain ⟨w4, hw4⟩ : ∃ w4, w3.alloc (.cells #[.string u', .string d'] 112) = w4 := ⟨_, rfl⟩
                have HD4 := Lib.hid ((HD.out.later hb).later (w' := w4) (by rw [← hw4]; exact (Below.refl _ _).alloc (Nat.le_refl _) _))
                have HA4 : Hid (Whole w4 B 112 #[.string u', .string d']) := Lib.hid (by rw [← hw4, ← hB]; exact Whole.made _ _ _)
                clear hb hq c0
                obtain ⟨rfl, rfl⟩ := HQ.out rfl
                go_upto_region 6 with fail
                go_cut [8] (fun s8 wx => s8 = .bool true ∧ Hid (DS w0 wx D ⟨4, us, T, tx⟩ A N cap AU NU cU L d') ∧ Hid (Whole wx B 112 #[.string u', .string d']))
                case first =>
                  obtain ⟨C, hC⟩ : ∃ C, w4.heap.size = C := ⟨_, rfl⟩
                  obtain ⟨wz, hwz⟩ : ∃ wz, w4.alloc (.cells #[.string ⟨#[]⟩, .string ⟨#[]⟩, .int .i64 0] 35) = wz := ⟨_, rfl⟩
                  have hbz : Below w4.heap.size w4 wz := by rw [← hwz]; exact (Below.refl _ _).alloc (Nat.le_refl _) _
                  have HDz := Lib.hid (HD4.out.later hbz)
                  have HAz := Lib.hid (HA4.out.below hbz HA4.out.lt)
                  have HCz : Hid (Whole wz C 35 #[.string ⟨#[]⟩, .string ⟨#[]⟩, .int .i64 0]) := Lib.hid (by rw [← hwz, ← hC]; exact Whole.made _ _ _)
                  have HDC : Hid (D ≠ C) := Lib.hid (by have := HD4.out.1.lt; rw [hC] at this; omega)
                  have HBC : Hid (B ≠ C) := Lib.hid (by have := HA4.out.lt; rw [hC] at this; omega)
                  have HWC : Hid (w0.heap.size ≤ C) := Lib.hid (by rw [← hC]; exact HD4.out.2.2.2.1.size)
                  have hs4 := HD4.out.1
                  have ha4 := HA4.out
                  clear hbz
                  have e4 := hs4.cell 4
                  simp only [List.getElem?_toArray, List.getElem?_cons_succ] at e4
                  have k0 := ha4.cell 0
                  simp at k0
                  have hsz := HDz.out.1
                  have haz := HAz.out
                  have i4 := hsz.cell 4
                  have j0 := haz.cell 0
                  simp at i4 j0
                  clear hs4 ha4 hsz haz
                  have HDd : Hid (DS w0 wz.drew D ⟨4, us, T, tx⟩ A N cap AU NU cU L d') := Lib.hid (HDz.out.later (w' := wz.drew) ⟨rfl, rfl, rfl, Nat.le_refl _, fun _ _ => rfl⟩)
                  have HD4d : Hid (DS w0 w4.drew D ⟨4, us, T, tx⟩ A N cap AU NU cU L d') := Lib.hid (HD4.out.later (w' := w4.drew) ⟨rfl, rfl, rfl, Nat.le_refl _, fun _ _ => rfl⟩)
                  have HAd := Lib.hid HAz.out.drew
                  have HCd := Lib.hid HCz.out.drew
                  have HA4d := Lib.hid HA4.out.drew
                  go_region_held3 (fun w' => w'.cell? ⟨D, 4, none⟩ = some (.slice AU NU cU) ∧ w'.cell? ⟨B, 0, none⟩ = some (.string u')) (first | with_reducible exact s9 | exact ⟨(HD6.out.1.alloc _).cell 4, (HA6.out.alloc _).cell 0⟩ | exact ⟨HD6.out.1.cell 4, HA6.out.cell 0⟩ | exact ⟨HD5.out.1.cell 4, HA5.out.cell 0⟩ | exact ⟨HDd.out.1.cell 4, HAd.out.cell 0⟩ | exact ⟨HD4d.out.1.cell 4, HA4d.out.cell 0⟩ | exact ⟨HDz.out.1.cell 4, HAz.out.cell 0⟩ | go_keep) (first | (go_at_call 106; refine (impl_uf HF.out wz.drew HDd.out.users).mono ?_; rintro e w5 ⟨rfl, hb⟩; unfold usV; have HD5 := Lib.hid (HDd.out.later hb); have HA5 := Lib.hid (HAd.out.below hb HAd.out.lt); have HC5 := Lib.hid (HCd.out.below hb HCd.out.lt); have hc5 := HC5.out; have y0 := hc5.cell 0; have y1 := hc5.cell 1; have y2 := hc5.cell 2; simp at y0 y1 y2; have g0 := hc5.free 0; have g1 := hc5.free 1; have g2 := hc5.free 2; have hd9 := (((HD5.out.far HC5.out (by decide) HDC.out HWC.out 0 (.string n2)).far (HC5.out.store 0 _) (by decide) HDC.out HWC.out 1 (.string p2)).far ((HC5.out.store 0 _).store 1 _) (by decide) HDC.out HWC.out 2 (.int .i64 q2)).1.cell 4; have ha9 := (((HA5.out.apart (p := ⟨C, 0, none⟩) HBC.out (.string n2)).apart (p := ⟨C, 1, none⟩) HBC.out (.string p2)).apart (p := ⟨C, 2, none⟩) HBC.out (.int .i64 q2)).cell 0; simp at hd9 ha9; have s9 := And.intro hd9 ha9; clear hb hc5 hd9 ha9) | (go_at_call 106; refine (impl_uf HF.out w4.drew HD4d.out.users).mono ?_; rintro e w6 ⟨rfl, hb⟩; unfold usV; have HD6 := Lib.hid (HD4d.out.later hb); have HA6 := Lib.hid (HA4d.out.below hb HA4d.out.lt); clear hb))
                  all_goals go_wp2_with fail
                  all_goals go_meet
                  all_goals first | exact ⟨rfl, Lib.hid (HD6.out.later ((Below.refl _ _).alloc (Nat.le_refl _) _)), Lib.hid (HA6.out.alloc _)⟩ | exact ⟨rfl, Lib.hid (((HD5.out.far HC5.out (by decide) HDC.out HWC.out 0 (.string n2)).far (HC5.out.store 0 _) (by decide) HDC.out HWC.out 1 (.string p2)).far ((HC5.out.store 0 _).store 1 _) (by decide) HDC.out HWC.out 2 (.int .i64 q2)), Lib.hid (((HA5.out.apart (p := ⟨C, 0, none⟩) HBC.out (.string n2)).apart (p := ⟨C, 1, none⟩) HBC.out (.string p2)).apart (p := ⟨C, 2, none⟩) HBC.out (.int .i64 q2))⟩
                case rest =>
                  obtain ⟨rfl, HD6, HA6⟩ := hcut
                  have hs6 := HD6.out.1
                  have ha6 := HA6.out
                  have e5 := hs6.cell 5
                  simp only [List.getElem?_toArray, List.getElem?_cons_succ] at e5
                  have k1 := ha6.cell 1
                  simp at k1
                  clear hs6 ha6
                  go_upto_region 7 with fail
                  go_cut [50] (fun s50 wx => s50 = .bool false ∧ Hid (DS w0 wx D ⟨4, us, T, tx⟩ A N cap AU NU cU L d') ∧ Hid (Whole wx B 112 #[.string u', .string d']))
                  case first =>
                    go_wp2
                    go_quiet (fail)
                    go_wp2_with fail
                    go_meet
                    exact ⟨rfl, Lib.hid (HD6.out.later (below_drewN' (Below.refl _ _) _)), Lib.hid (HA6.out.drewN _)⟩
                  case rest =>
                    clear e5 k1 HD6 HA6
                    obtain ⟨rfl, HD6, HA6⟩ := hcut
                    have hs6 := HD6.out.1
                    have ha6 := HA6.out
                    have e2 := hs6.cell 2
                    simp only [List.getElem?_toArray, List.getElem?_cons_succ] at e2
                    have k0 := ha6.cell 0
                    simp at k0
                    clear hs6 ha6
                    have HI6 := Lib.hid (SIn.made (L := T) HD6.out.2.1 (by have := HT3.out; omega) (fun g hg => Nat.le_trans (HTS.out g hg) (by omega)))
                    go_upto_region 9 with fail
                    go_cut [58] (fun s58 wx => s58 = .bool false ∧ Hid (DS w0 wx D ⟨4, us, T, tx⟩ A N cap AU NU cU L d') ∧ Hid (Whole wx B 112 #[.string u', .string d']))
                    case first =>
                      go_wp2
                      go_quiet ((go_at_call 96; exact Calls.quiet_of_same (lib_has HM.out _ (SIn.dr HI6.out _))))
                      go_wp2_with fail
                      go_meet
                      exact ⟨rfl, Lib.hid (HD6.out.later (below_drewN' (Below.refl _ _) _)), Lib.hid (HA6.out.drewN _)⟩
                    case rest =>
                      clear e2 k0 HD6 HA6 HI6
                      obtain ⟨rfl, HD6, HA6⟩ := hcut
                      have hn2 := HN2.out
                      have HTN : Hid (T.length = N) := Lib.hid (show N = T.length from HD6.out.2.1.len.1).symm
                      obtain ⟨i0, hi0, hq0, hq1, hq2⟩ := info_parts Tryz.infoString
                      have hml2 : N + 1 ≤ maxLen := by unfold maxLen; omega
                      have hby2 : (N + 1) * 16 ≤ 140737488355328 := by omega
                      have hs6 := HD6.out.1
                      have ha6 := HA6.out
                      have e0 := hs6.cell 0
                      have e2 := hs6.cell 2
                      simp only [List.getElem?_toArray, List.getElem?_cons_zero, List.getElem?_cons_succ] at e0 e2
                      have k0 := ha6.cell 0
                      simp at k0
                      clear hs6 ha6
                      have HXa := Lib.hid (HD6.out.1.drew.alloc (.cells #[.string u'] 9))
                      have HAa := Lib.hid (HA6.out.drew.alloc (.cells #[.string u'] 9))
                      have HOa : Hid (ROwn stR (wc.drew.alloc (.cells #[.string u'] 9)) w0.heap.size (.slice A N cap) T) := Lib.hid (ROwn.alloc (show ROwn stR wc.drew w0.heap.size (.slice A N cap) T from HD6.out.2.1) (.cells #[.string u'] 9))
                      have HBa : Hid (Below w0.heap.size w0 (wc.drew.alloc (.cells #[.string u'] 9))) := Lib.hid (by have h := HD6.out.2.2.2.1; have h2 : Below w0.heap.size w0 wc.drew := ⟨h.os, h.tape, h.output, h.size, h.block⟩; exact h2.alloc h2.size _)
                      have hx := HD6.out.1.alloc (.cells #[.string u'] 9)
                      have ha := HA6.out.alloc (.cells #[.string u'] 9)
                      have p0 := hx.cell 0
                      have p2 := hx.cell 2
                      simp only [List.getElem?_toArray, List.getElem?_cons_zero, List.getElem?_cons_succ] at p0 p2
                      have p4 := ha.cell 0
                      simp at p4
                      clear hx ha
                      go_wp2
                      go_region_law (
                        (refine step_append_rows rfl (.tmp 72) (.tmp 75) 23 rfl stR w0.heap.size i0 _ 16 Tryz.underlying23 hi0 hq0 hq1 hq2 rfl (by decide) _ T [u'] N HTN.out rfl HOa.out (some ⟨wc.heap.size, 0, none⟩) 1 1 rfl rfl (RAt.made stR wc.drew [u'] _ rfl) (fun e => by cases e) (fun q e => by cases e; rfl) hml2 hby2 HBa.out.size ?_
                         intro v' w7 hown hgrow hnn
                         obtain ⟨A7, N7, cap7, rfl⟩ := hown.val
                         have hN7 : N7 = N + 1 := hown.len.1.trans (by rw [List.length_append, HTN.out]; rfl)
                         subst hN7
                         have HO7 := Lib.hid hown
                         have HOD := Lib.hid (HOa.out.whole HXa.out (by decide))
                         have HX7 := Lib.hid (HXa.out.grown hgrow (fun e => HOD.out e.symm))
                         have HB7 := Lib.hid (below_far HBa.out hgrow (fun g e => (World.ownsRow.lt HOa.out _ e).1))
                         have HOE := Lib.hid (HO7.out.whole HX7.out (by decide))
                         have hx7 := HX7.out
                         have x0 := hx7.cell 0
                         have x2 := hx7.cell 2
                         simp only [List.getElem?_toArray, List.getElem?_cons_zero, List.getElem?_cons_succ] at x0 x2
                         have f0 := hx7.free 0
                         have f2 := hx7.free 2
                         clear hown hgrow hnn hx7))
                      all_goals
                        go_wp2
                        go_ret
                        rw [HE.out]
                        have hxb := HXB.out
                        subst hxb
                        refine ⟨A7, N + 1, cap7, rfl, (HX7.out.store 0 (.int .i64 4)).store 2 (.slice A7 (N + 1) cap7), (HO7.out.store (p := ⟨D, 0, none⟩) HOE.out _).store (p := ⟨D, 2, none⟩) HOE.out _, HD6.out.2.2.1, (HB7.out.setCell HD6.out.2.2.1 _).setCell HD6.out.2.2.1 _, HD6.out.2.2.2.2⟩
          ·
            have HE : Hid (rcptF ⟨4, us, T, tx⟩ L d l = (⟨4, us, T, tx⟩, 550)) := Lib.hid (by unfold rcptF; rw [if_neg (by simp), if_neg (by rw [HO.out]; simp), if_neg (by rw [HV.out]; exact fun h => hvd h.1)])
            obtain ⟨x1, x2⟩ := ne_walk hvd
            go_enter Tryz.func78, Tryz.ntmps78
            go_wp2_with fail
            refine HC.out.mono ?_
            rintro e w3 ⟨u', d', rfl, hq, hb⟩
            have HQ := Lib.hid hq
            obtain ⟨B, hB⟩ : ∃ B, w3.heap.size = B := ⟨_, rfl⟩
            obtain ⟨w4, hw4⟩ : ∃ w4, w3.alloc (.cells #[.string u', .string d'] 112) = w4 := ⟨_, rfl⟩
            have HD4 := Lib.hid ((HD.out.later hb).later (w' := w4) (by rw [← hw4]; exact (Below.refl _ _).alloc (Nat.le_refl _) _))
            have HA4 : Hid (Whole w4 B 112 #[.string u', .string d']) := Lib.hid (by rw [← hw4, ← hB]; exact Whole.made _ _ _)
            clear hb hq c0
            obtain ⟨rfl, rfl⟩ := HQ.out rfl
            go_upto_region 6 with fail
            go_cut [8] (fun s8 wx => s8 = .bool true ∧ Hid (DS w0 wx D ⟨4, us, T, tx⟩ A N cap AU NU cU L d) ∧ Hid (Whole wx B 112 #[.string u', .string d']))
            case first =>
              obtain ⟨C, hC⟩ : ∃ C, w4.heap.size = C := ⟨_, rfl⟩
              obtain ⟨wz, hwz⟩ : ∃ wz, w4.alloc (.cells #[.string ⟨#[]⟩, .string ⟨#[]⟩, .int .i64 0] 35) = wz := ⟨_, rfl⟩
              have hbz : Below w4.heap.size w4 wz := by rw [← hwz]; exact (Below.refl _ _).alloc (Nat.le_refl _) _
              have HDz := Lib.hid (HD4.out.later hbz)
              have HAz := Lib.hid (HA4.out.below hbz HA4.out.lt)
              have HCz : Hid (Whole wz C 35 #[.string ⟨#[]⟩, .string ⟨#[]⟩, .int .i64 0]) := Lib.hid (by rw [← hwz, ← hC]; exact Whole.made _ _ _)
              have HDC : Hid (D ≠ C) := Lib.hid (by have := HD4.out.1.lt; rw [hC] at this; omega)
              have HBC : Hid (B ≠ C) := Lib.hid (by have := HA4.out.lt; rw [hC] at this; omega)
              have HWC : Hid (w0.heap.size ≤ C) := Lib.hid (by rw [← hC]; exact HD4.out.2.2.2.1.size)
              have hs4 := HD4.out.1
              have ha4 := HA4.out
              clear hbz
              have e4 := hs4.cell 4
              simp only [List.getElem?_toArray, List.getElem?_cons_succ] at e4
              have k0 := ha4.cell 0
              simp at k0
              have hsz := HDz.out.1
              have haz := HAz.out
              have i4 := hsz.cell 4
              have j0 := haz.cell 0
              simp at i4 j0
              clear hs4 ha4 hsz haz
              have HDd : Hid (DS w0 wz.drew D ⟨4, us, T, tx⟩ A N cap AU NU cU L d) := Lib.hid (HDz.out.later (w' := wz.drew) ⟨rfl, rfl, rfl, Nat.le_refl _, fun _ _ => rfl⟩)
              have HD4d : Hid (DS w0 w4.drew D ⟨4, us, T, tx⟩ A N cap AU NU cU L d) := Lib.hid (HD4.out.later (w' := w4.drew) ⟨rfl, rfl, rfl, Nat.le_refl _, fun _ _ => rfl⟩)
              have HAd := Lib.hid HAz.out.drew
              have HCd := Lib.hid HCz.out.drew
              have HA4d := Lib.hid HA4.out.drew
              go_region_held3 (fun w' => w'.cell? ⟨D, 4, none⟩ = some (.slice AU NU cU) ∧ w'.cell? ⟨B, 0, none⟩ = some (.string u')) (first | with_reducible exact s9 | exact ⟨(HD6.out.1.alloc _).cell 4, (HA6.out.alloc _).cell 0⟩ | exact ⟨HD6.out.1.cell 4, HA6.out.cell 0⟩ | exact ⟨HD5.out.1.cell 4, HA5.out.cell 0⟩ | exact ⟨HDd.out.1.cell 4, HAd.out.cell 0⟩ | exact ⟨HD4d.out.1.cell 4, HA4d.out.cell 0⟩ | exact ⟨HDz.out.1.cell 4, HAz.out.cell 0⟩ | go_keep) (first | (go_at_call 106; refine (impl_uf HF.out wz.drew HDd.out.users).mono ?_; rintro e w5 ⟨rfl, hb⟩; unfold usV; have HD5 := Lib.hid (HDd.out.later hb); have HA5 := Lib.hid (HAd.out.below hb HAd.out.lt); have HC5 := Lib.hid (HCd.out.below hb HCd.out.lt); have hc5 := HC5.out; have y0 := hc5.cell 0; have y1 := hc5.cell 1; have y2 := hc5.cell 2; simp at y0 y1 y2; have g0 := hc5.free 0; have g1 := hc5.free 1; have g2 := hc5.free 2; have hd9 := (((HD5.out.far HC5.out (by decide) HDC.out HWC.out 0 (.string n2)).far (HC5.out.store 0 _) (by decide) HDC.out HWC.out 1 (.string p2)).far ((HC5.out.store 0 _).store 1 _) (by decide) HDC.out HWC.out 2 (.int .i64 q2)).1.cell 4; have ha9 := (((HA5.out.apart (p := ⟨C, 0, none⟩) HBC.out (.string n2)).apart (p := ⟨C, 1, none⟩) HBC.out (.string p2)).apart (p := ⟨C, 2, none⟩) HBC.out (.int .i64 q2)).cell 0; simp at hd9 ha9; have s9 := And.intro hd9 ha9; clear hb hc5 hd9 ha9) | (go_at_call 106; refine (impl_uf HF.out w4.drew HD4d.out.users).mono ?_; rintro e w6 ⟨rfl, hb⟩; unfold usV; have HD6 := Lib.hid (HD4d.out.later hb); have HA6 := Lib.hid (HA4d.out.below hb HA4d.out.lt); clear hb))
              all_goals go_wp2_with fail
              all_goals go_meet
              all_goals first | exact ⟨rfl, Lib.hid (HD6.out.later ((Below.refl _ _).alloc (Nat.le_refl _) _)), Lib.hid (HA6.out.alloc _)⟩ | exact ⟨rfl, Lib.hid (((HD5.out.far HC5.out (by decide) HDC.out HWC.out 0 (.string n2)).far (HC5.out.store 0 _) (by decide) HDC.out HWC.out 1 (.string p2)).far ((HC5.out.store 0 _).store 1 _) (by decide) HDC.out HWC.out 2 (.int .i64 q2)), Lib.hid (((HA5.out.apart (p := ⟨C, 0, none⟩) HBC.out (.string n2)).apart (p := ⟨C, 1, none⟩) HBC.out (.string p2)).apart (p := ⟨C, 2, none⟩) HBC.out (.int .i64 q2))⟩
            case rest =>
              obtain ⟨rfl, HD6, HA6⟩ := hcut
              have hs6 := HD6.out.1
              have ha6 := HA6.out
              have e5 := hs6.cell 5
              simp only [List.getElem?_toArray, List.getElem?_cons_succ] at e5
              have k1 := ha6.cell 1
              simp at k1
              clear hs6 ha6
              clear hvd
              go_wp2
              go_quiet (fail)
              go_wp2
              go_ret
              rw [HE.out]
              exact ⟨A, N, cap, rfl, HD6.out.later (below_drewN' (Below.refl _ _) _)⟩
  ·
    have h3 : (st != 3) = true := bne_iff_ne.2 (fun h => hst (.inl h))
    have h4 : (st != 4) = true := bne_iff_ne.2 (fun h => hst (.inr h))
    have HE : Hid (rcptF ⟨st, us, T, tx⟩ L d l = (⟨st, us, T, tx⟩, 503)) := Lib.hid (by unfold rcptF; rw [if_pos (by simp only; omega)])
    clear hst
    go_enter Tryz.func78, Tryz.ntmps78
    go_wp2
    go_ret
    rw [HE.out]
    exact ⟨A, N, cap, rfl, HD.out⟩
end Go.Proofs.YtichajalinkcdaaGreatDoor
namespace Go.Proofs.YtichajalinkcdaaGreatDoor
open Go.RowKit
set_option linter.unusedVariables false

set_option maxRecDepth 20000 in
set_option maxHeartbeats 8000000 in
theorem impl_handle {st : Int} {us tx : ByteArray} {T : List ByteArray} {A : Option Addr} {N cap : Nat} {w0 : World} {D : Nat} {AU : Option Addr} {NU cU : Nat} {L : List Us} {d : ByteArray} (l u : ByteArray) (ok : Bool) (w : World) (h : DS w0 w D ⟨st, us, T, tx⟩ A N cap AU NU cU L d) (hv : sbV ⟨st, us, T, tx⟩ = true) (hvu : vU L = true) (hl : l.size ≤ 2097152) (hup : (wdsF l).length = 3 → IsUp L ((wdsF l).getD 2 eB) u ok) : Calls Tryz.prog 46 #[.pointer (some ⟨D, 0, none⟩), .string l] w (DG w0 D AU NU cU L d (lineF ⟨st, us, T, tx⟩ L d l u ok)) := by
  have HD := Lib.hid h
  have HV := Lib.hid hv
  have HVU := Lib.hid hvu
  have HUP := Lib.hid hup
  obtain ⟨v1, v2, v3, v4, v5, v6, v7, v8, v9⟩ := sbV_has hv
  simp only at v4 v7
  have HU7 := Lib.hid v7
  have hs := h.1
  have c0 := hs.cell 0
  simp only [List.getElem?_toArray, List.getElem?_cons_zero] at c0
  clear h hs hv hvu hup v1 v2 v3 v5 v6 v7 v8 v9
  by_cases h6 : st = 6
  ·
    subst h6
    have HE : Hid (lineF ⟨6, us, T, tx⟩ L d l u ok = (⟨6, us, T, tx⟩, 503)) := Lib.hid (lineF_6 rfl)
    go_enter Tryz.func46, Tryz.ntmps46
    go_wp2
    go_ret
    rw [HE.out]
    exact ⟨A, N, cap, rfl, HD.out⟩
  have h6' : (st == 6) = false := beq_eq_false_iff_ne.2 h6
  by_cases h5 : st = 5
  ·
    subst h5
    obtain ⟨⟨s1, n1⟩, hr⟩ : ∃ x, dataF ⟨5, us, T, tx⟩ l = x := ⟨_, rfl⟩
    have HE : Hid (lineF ⟨5, us, T, tx⟩ L d l u ok = (s1, n1)) := Lib.hid ((lineF_5 rfl).trans hr)
    have HC := Lib.hid (impl_data l w HD.out v4 hl HU7.out)
    rw [hr] at HC
    clear hr
    go_enter Tryz.func46, Tryz.ntmps46
    go_wp2_with fail
    refine HC.out.mono ?_
    rintro e w3 ⟨A3, N3, cap3, rfl, hk⟩
    have HD3 := Lib.hid hk
    clear hk
    go_wp2
    go_ret
    rw [HE.out]
    exact ⟨A3, N3, cap3, rfl, HD3.out⟩
  have h5' : (st == 5) = false := beq_eq_false_iff_ne.2 h5
  obtain ⟨x, hx⟩ : ∃ x, (wdsF l)[0]? = some x := ⟨_, List.getElem?_eq_getElem (by have := (wdsF_len l).1; omega)⟩
  have hg : (wdsF l).getD 0 eB = x := by rw [List.getD_eq_getElem?_getD, hx]; rfl
  have HX := Lib.hid hx
  have HG := Lib.hid hg
  have H5 := Lib.hid h5
  have H6 := Lib.hid h6
  have HM := Lib.hid HD.out.mx
  clear hx hg h5 h6
  by_cases hEHLO : x = wEHLO
  ·
    obtain ⟨⟨s1, n1⟩, hr⟩ : ∃ r, helloF ⟨st, us, T, tx⟩ (wdsF l) = r := ⟨_, rfl⟩
    have HE : Hid (lineF ⟨st, us, T, tx⟩ L d l u ok = (s1, n1)) := Lib.hid (by rw [lineF_w H6.out H5.out HG.out, if_pos hEHLO, hr])
    have hlit : x.toList = [69, 72, 76, 79] := by rw [hEHLO, ByteArray.toList_eq]; rfl
    have HR := Lib.hid hr
    clear hr hEHLO 
    go_enter Tryz.func46, Tryz.ntmps46
    go_wp2_with fail
    refine (lib_split l w hl HM.out).mono ?_
    rintro e w2 ⟨gw, Nw, rfl, hw, hb2⟩
    have HW := Lib.hid hw
    have HD2 := Lib.hid (HD.out.later hb2)
    obtain ⟨b, o, hA, hb, k0⟩ := str_at hw.2.2.1 HX.out
    cases hA
    have hN1 : (0 : Nat) < Nw := by have h1 := hw.1; have h2 := (wdsF_len l).1; omega
    have HDx := hw.2.2.2.2.2.2.1
    clear hw hb2 hb
    simp only [Nat.zero_add] at k0
    have HC := Lib.hid (impl_hello (wdsF l) (some ⟨gw, 0, none⟩) Nw Nw w2 HD2.out HV.out ⟨HW.out.1, HW.out.2.2.1⟩ (fun y hy => Nat.le_trans (wdsF_sizes l y hy) hl))
    rw [HR.out] at HC
    go_wp2_with fail
    refine HC.out.mono ?_
    rintro e w3 ⟨A3, N3, cap3, rfl, hk⟩
    have HD3 := Lib.hid hk
    clear hk
    go_wp2
    go_ret
    rw [HE.out]
    exact ⟨A3, N3, cap3, rfl, HD3.out⟩
  obtain ⟨vEHLO1, vEHLO2, vEHLO3⟩ := lit_walk (xs := [69, 72, 76, 79]) rfl hEHLO
  by_cases hAUTH : x = wAUTH
  ·
    obtain ⟨⟨s1, n1⟩, hr⟩ : ∃ r, authF ⟨st, us, T, tx⟩ (wdsF l) u ok = r := ⟨_, rfl⟩
    have HE : Hid (lineF ⟨st, us, T, tx⟩ L d l u ok = (s1, n1)) := Lib.hid (by rw [lineF_w H6.out H5.out HG.out, if_neg hEHLO, if_pos hAUTH, hr])
    have hlit : x.toList = [65, 85, 84, 72] := by rw [hAUTH, ByteArray.toList_eq]; rfl
    have HR := Lib.hid hr
    clear hr hAUTH hEHLO
    go_enter Tryz.func46, Tryz.ntmps46
    go_wp2_with fail
    refine (lib_split l w hl HM.out).mono ?_
    rintro e w2 ⟨gw, Nw, rfl, hw, hb2⟩
    have HW := Lib.hid hw
    have HD2 := Lib.hid (HD.out.later hb2)
    obtain ⟨b, o, hA, hb, k0⟩ := str_at hw.2.2.1 HX.out
    cases hA
    have hN1 : (0 : Nat) < Nw := by have h1 := hw.1; have h2 := (wdsF_len l).1; omega
    have HDx := hw.2.2.2.2.2.2.1
    clear hw hb2 hb
    simp only [Nat.zero_add] at k0
    have HC := Lib.hid (impl_prove (wdsF l) (some ⟨gw, 0, none⟩) Nw Nw u ok w2 HD2.out HV.out ⟨HW.out.1, HW.out.2.2.1⟩ (fun y hy => Nat.le_trans (wdsF_sizes l y hy) hl) HUP.out)
    rw [HR.out] at HC
    go_wp2_with fail
    refine HC.out.mono ?_
    rintro e w3 ⟨A3, N3, cap3, rfl, hk⟩
    have HD3 := Lib.hid hk
    clear hk
    go_wp2
    go_ret
    rw [HE.out]
    exact ⟨A3, N3, cap3, rfl, HD3.out⟩
  obtain ⟨vAUTH1, vAUTH2, vAUTH3⟩ := lit_walk (xs := [65, 85, 84, 72]) rfl hAUTH
  by_cases hMAIL : x = wMAIL
  ·
    obtain ⟨⟨s1, n1⟩, hr⟩ : ∃ r, mailF ⟨st, us, T, tx⟩ d l = r := ⟨_, rfl⟩
    have HE : Hid (lineF ⟨st, us, T, tx⟩ L d l u ok = (s1, n1)) := Lib.hid (by rw [lineF_w H6.out H5.out HG.out, if_neg hEHLO, if_neg hAUTH, if_pos hMAIL, hr])
    have hlit : x.toList = [77, 65, 73, 76] := by rw [hMAIL, ByteArray.toList_eq]; rfl
    have HR := Lib.hid hr
    clear hr hMAIL hEHLO hAUTH
    go_enter Tryz.func46, Tryz.ntmps46
    go_wp2_with fail
    refine (lib_split l w hl HM.out).mono ?_
    rintro e w2 ⟨gw, Nw, rfl, hw, hb2⟩
    have HW := Lib.hid hw
    have HD2 := Lib.hid (HD.out.later hb2)
    obtain ⟨b, o, hA, hb, k0⟩ := str_at hw.2.2.1 HX.out
    cases hA
    have hN1 : (0 : Nat) < Nw := by have h1 := hw.1; have h2 := (wdsF_len l).1; omega
    have HDx := hw.2.2.2.2.2.2.1
    clear hw hb2 hb
    simp only [Nat.zero_add] at k0
    have HC := Lib.hid (impl_sender l w2 HD2.out hl)
    rw [HR.out] at HC
    go_wp2_with fail
    refine HC.out.mono ?_
    rintro e w3 ⟨A3, N3, cap3, rfl, hk⟩
    have HD3 := Lib.hid hk
    clear hk
    go_wp2
    go_ret
    rw [HE.out]
    exact ⟨A3, N3, cap3, rfl, HD3.out⟩
  obtain ⟨vMAIL1, vMAIL2, vMAIL3⟩ := lit_walk (xs := [77, 65, 73, 76]) rfl hMAIL
  by_cases hRCPT : x = wRCPT
  ·
    obtain ⟨⟨s1, n1⟩, hr⟩ : ∃ r, rcptF ⟨st, us, T, tx⟩ L d l = r := ⟨_, rfl⟩
    have HE : Hid (lineF ⟨st, us, T, tx⟩ L d l u ok = (s1, n1)) := Lib.hid (by rw [lineF_w H6.out H5.out HG.out, if_neg hEHLO, if_neg hAUTH, if_neg hMAIL, if_pos hRCPT, hr])
    have hlit : x.toList = [82, 67, 80, 84] := by rw [hRCPT, ByteArray.toList_eq]; rfl
    have HR := Lib.hid hr
    clear hr hRCPT hEHLO hAUTH hMAIL
    go_enter Tryz.func46, Tryz.ntmps46
    go_wp2_with fail
    refine (lib_split l w hl HM.out).mono ?_
    rintro e w2 ⟨gw, Nw, rfl, hw, hb2⟩
    have HW := Lib.hid hw
    have HD2 := Lib.hid (HD.out.later hb2)
    obtain ⟨b, o, hA, hb, k0⟩ := str_at hw.2.2.1 HX.out
    cases hA
    have hN1 : (0 : Nat) < Nw := by have h1 := hw.1; have h2 := (wdsF_len l).1; omega
    have HDx := hw.2.2.2.2.2.2.1
    clear hw hb2 hb
    simp only [Nat.zero_add] at k0
    have HC := Lib.hid (impl_receiver l w2 HD2.out HV.out HVU.out hl)
    rw [HR.out] at HC
    go_wp2_with fail
    refine HC.out.mono ?_
    rintro e w3 ⟨A3, N3, cap3, rfl, hk⟩
    have HD3 := Lib.hid hk
    clear hk
    go_wp2
    go_ret
    rw [HE.out]
    exact ⟨A3, N3, cap3, rfl, HD3.out⟩
  obtain ⟨vRCPT1, vRCPT2, vRCPT3⟩ := lit_walk (xs := [82, 67, 80, 84]) rfl hRCPT
  obtain ⟨⟨s1, n1⟩, hr⟩ : ∃ r, cmdF ⟨st, us, T, tx⟩ l = r := ⟨_, rfl⟩
  have HE : Hid (lineF ⟨st, us, T, tx⟩ L d l u ok = (s1, n1)) := Lib.hid (by rw [lineF_c H6.out H5.out HG.out hEHLO hAUTH hMAIL hRCPT, hr])
  have HR := Lib.hid hr
  clear hr hEHLO hAUTH hMAIL hRCPT
  go_enter Tryz.func46, Tryz.ntmps46
  go_wp2_with fail
  refine (lib_split l w hl HM.out).mono ?_
  rintro e w2 ⟨gw, Nw, rfl, hw, hb2⟩
  have HW := Lib.hid hw
  have HD2 := Lib.hid (HD.out.later hb2)
  obtain ⟨b, o, hA, hb, k0⟩ := str_at hw.2.2.1 HX.out
  cases hA
  have hN1 : (0 : Nat) < Nw := by have h1 := hw.1; have h2 := (wdsF_len l).1; omega
  have HDx := hw.2.2.2.2.2.2.1
  clear hw hb2 hb
  simp only [Nat.zero_add] at k0
  have HC := Lib.hid (impl_command l w2 HD2.out HV.out H5.out)
  rw [HR.out] at HC
  go_wp2_with fail
  refine HC.out.mono ?_
  rintro e w3 ⟨A3, N3, cap3, rfl, hk⟩
  have HD3 := Lib.hid hk
  clear hk
  go_wp2
  go_ret
  rw [HE.out]
  exact ⟨A3, N3, cap3, rfl, HD3.out⟩
set_option maxRecDepth 20000 in
set_option maxHeartbeats 8000000 in
theorem impl_subline (st : Int) (us tx d l u : ByteArray) (ok : Bool) (T : List ByteArray) (L : List Us) (A AU : Option Addr) (N cap NU cU : Nat) (w : World) (h : SIn w A N cap T) (hL : UIn w AU NU cU L) (hu : us.size ≤ 16777216) (hd : d.size ≤ 16777216) (hl : l.size ≤ 2097152) (hm : MxS w) (hup : (wdsF l).length = 3 → IsUp L ((wdsF l).getD 2 eB) u ok) : Calls Tryz.prog 22 #[.agg #[.int .i64 st, .string us, .slice A N cap, .string tx], .slice AU NU cU, .string d, .string l] w (GiveL w (lineV ⟨st, us, T, tx⟩ L d l u ok)) := by
  obtain ⟨hs, hr, hB⟩ := two_made w #[.int .i64 st, .string us, .slice A N cap, .string tx] #[.int .i64 0, .string ⟨#[]⟩, .slice none 0 0, .string ⟨#[]⟩]
  obtain ⟨wq, hwq⟩ : ∃ wq, (w.alloc (.cells #[.int .i64 st, .string us, .slice A N cap, .string tx] 25)).alloc (.cells #[.int .i64 0, .string ⟨#[]⟩, .slice none 0 0, .string ⟨#[]⟩] 25) = wq := ⟨_, rfl⟩
  rw [hwq] at hs hr hB
  obtain ⟨R, hR⟩ : ∃ R, w.heap.size + 1 = R := ⟨_, rfl⟩
  rw [hR] at hr
  have HR := Lib.hid hr
  have HB := Lib.hid hB
  have HRq : Hid (R < wq.heap.size) := Lib.hid hr.lt
  have HRw : Hid (w.heap.size ≤ R) := Lib.hid (by omega)
  have HRR := Lib.hid hR
  have HUP := Lib.hid hup
  have HC := Lib.hid (impl_newdialog (st := st) (us := us) (tx := tx) (d := d) wq (h.below hB (Nat.le_refl _)) (hL.below hB (Nat.le_refl _)) hu hd (hm.below hB (Nat.le_refl _)))
  have c0 := hs.cell 0
  have c1 := hs.cell 1
  have c2 := hs.cell 2
  have c3 := hs.cell 3
  simp only [List.getElem?_toArray, List.getElem?_cons_zero, List.getElem?_cons_succ] at c0 c1 c2 c3
  clear hup h hL hm hs hr hB
  cases hz : (sbV ⟨st, us, T, tx⟩ && (vU L && domB (kb d))) with
  | false =>
    rw [hz] at HC
    have HE : Hid (lineV ⟨st, us, T, tx⟩ L d l u ok = (⟨0, eB, [], eB⟩, -1)) := Lib.hid (by unfold lineV; rw [hz]; rfl)
    clear hz
    go_enter Tryz.func22, Tryz.ntmps22
    go_wp2_with fail
    try rw [hwq]
    refine HC.out.mono ?_
    rintro e w2 (⟨-, rfl, hb⟩ | ⟨h0, -⟩)
    ·
      have HR2 := Lib.hid (HR.out.below hb HRq.out)
      have HB2 := Lib.hid (HB.out.trans (hb.mono HB.out.size))
      clear hb c0 c1 c2 c3
      have hr := HR2.out
      have z0 := hr.cell 0
      have z1 := hr.cell 1
      have z2 := hr.cell 2
      have z3 := hr.cell 3
      simp only [List.getElem?_toArray, List.getElem?_cons_zero, List.getElem?_cons_succ] at z0 z1 z2 z3
      have f0 := hr.free 0
      have f1 := hr.free 1
      have f2 := hr.free 2
      have f3 := hr.free 3
      have hf := put_sb hr (.int .i64 0) (.string ⟨#[]⟩) (.slice none 0 0) (.string ⟨#[]⟩)
      have r0 := hf.cell 0
      have r1 := hf.cell 1
      have r2 := hf.cell 2
      have r3 := hf.cell 3
      simp only [List.getElem?_toArray, List.getElem?_cons_zero, List.getElem?_cons_succ] at r0 r1 r2 r3
      clear hr hf
      go_wp2
      refine bodyPost_ret (v := .tuple #[.agg #[.int .i64 0, .string ⟨#[]⟩, .slice none 0 0, .string ⟨#[]⟩], .int .i64 (-1)]) (by simp [results, Tryz.results22, go_sem, r0, r1, r2, r3]) rfl ?_
      rw [HE.out]
      exact ⟨_, _, _, rfl, ROwn.nil _ _, below_set4 HB2.out HRw.out _ _ _ _⟩
    ·
      cases h0
  | true =>
    rw [hz] at HC
    simp only [Bool.and_eq_true] at hz
    have HV := Lib.hid hz.1
    have HVU := Lib.hid hz.2.1
    have HVD := Lib.hid hz.2.2
    clear hz
    obtain ⟨⟨⟨st1, us1, T1, tx1⟩, n1⟩, hr⟩ : ∃ r, lineF ⟨st, us, T, tx⟩ L d l u ok = r := ⟨_, rfl⟩
    have HE : Hid (lineV ⟨st, us, T, tx⟩ L d l u ok = (⟨st1, us1, T1, tx1⟩, n1)) := Lib.hid ((lineV_4 HV.out HVU.out HVD.out).trans hr)
    have HX := Lib.hid hr
    clear hr
    go_enter Tryz.func22, Tryz.ntmps22
    go_wp2_with fail
    try rw [hwq]
    refine HC.out.mono ?_
    rintro e w2 (⟨h0, -⟩ | ⟨-, D, A2, N2, cap2, rfl, hD⟩)
    ·
      cases h0
    ·
      have HD := Lib.hid hD
      clear hD c0 c1 c2 c3
      have HH := Lib.hid (impl_handle l u ok w2 HD.out HV.out HVU.out hl HUP.out)
      rw [HX.out] at HH
      go_wp2_with fail
      refine HH.out.mono ?_
      rintro e w3 ⟨A3, N3, cap3, rfl, hk⟩
      have HD3 := Lib.hid hk
      clear hk
      have HR3 := Lib.hid (HR.out.below HD3.out.2.2.2.1 HRq.out)
      have HB3 := Lib.hid (HB.out.trans (HD3.out.2.2.2.1.mono HB.out.size))
      have hs3 := HD3.out.1
      have x0 := hs3.cell 0
      have x1 := hs3.cell 1
      have x2 := hs3.cell 2
      have x3 := hs3.cell 3
      simp only [List.getElem?_toArray, List.getElem?_cons_zero, List.getElem?_cons_succ] at x0 x1 x2 x3
      clear hs3
      have hr := HR3.out
      have z0 := hr.cell 0
      have z1 := hr.cell 1
      have z2 := hr.cell 2
      have z3 := hr.cell 3
      simp only [List.getElem?_toArray, List.getElem?_cons_zero, List.getElem?_cons_succ] at z0 z1 z2 z3
      have f0 := hr.free 0
      have f1 := hr.free 1
      have f2 := hr.free 2
      have f3 := hr.free 3
      have hf := put_sb hr (.int .i64 st1) (.string us1) (.slice A3 N3 cap3) (.string tx1)
      have r0 := hf.cell 0
      have r1 := hf.cell 1
      have r2 := hf.cell 2
      have r3 := hf.cell 3
      simp only [List.getElem?_toArray, List.getElem?_cons_zero, List.getElem?_cons_succ] at r0 r1 r2 r3
      clear hr hf
      go_wp2
      refine bodyPost_ret (v := .tuple #[.agg #[.int .i64 st1, .string us1, .slice A3 N3 cap3, .string tx1], .int .i64 n1]) (by simp [results, Tryz.results22, go_sem, r0, r1, r2, r3]) rfl ?_
      rw [HE.out]
      refine ⟨A3, N3, cap3, rfl, own_set4 (HD3.out.2.1.from HB.out.size) (fun q e => ?_) _ _ _ _, below_set4 HB3.out HRw.out _ _ _ _⟩
      have h1 := (own_blk HD3.out.2.1 q e).1
      have h2 := HRq.out
      omega
end Go.Proofs.YtichajalinkcdaaGreatDoor
namespace Go.Proofs.YtichajalinkcdaaGreatDoor
open Go.RowKit
set_option linter.unusedVariables false

/-- A fact that stands in every world that keeps all blocks of this one. -/
def Kp (w : World) (F : World → Prop) : Prop := ∀ w', Below w.heap.size w w' → F w'
section
variable {w w' a : World} {F G : World → Prop} {B n : Nat} {p : Prop}
theorem Kp.here (h : Kp w F) : F w := h w (Below.refl _ _)
theorem Kp.move (h : Kp w F) (hb : Below w.heap.size w w') : Kp w' F := fun w2 h2 => h w2 (hb.trans (h2.mono hb.size))
theorem below_new (w : World) (o : Obj) : Below w.heap.size w (w.alloc o) := (Below.refl _ _).alloc (Nat.le_refl _) o
theorem below_drawn (w : World) (k : Nat) : Below w.heap.size w (w.drewN k) := below_drewN' (Below.refl _ _) k
theorem below_drew1 (w : World) : Below w.heap.size w w.drew := ⟨rfl, rfl, rfl, Nat.le_refl _, fun _ _ => rfl⟩
theorem Kp.alloc (h : Kp w F) (o : Obj) : Kp (w.alloc o) F := h.move (below_new w o)
theorem Kp.drewN (h : Kp w F) (k : Nat) : Kp (w.drewN k) F := h.move (below_drawn w k)
theorem Kp.drew (h : Kp w F) : Kp w.drew F := h.move (below_drew1 w)
theorem Kp.and (h : Kp w F) (k : Kp w G) : Kp w fun w => F w ∧ G w := fun w2 h2 => ⟨h w2 h2, k w2 h2⟩
theorem Kp.map (h : Kp w F) (f : ∀ w, F w → G w) : Kp w G := fun w2 h2 => f w2 (h w2 h2)
theorem Kp.l (h : Kp w fun w => F w ∧ G w) : Kp w F := fun w2 h2 => (h w2 h2).1
theorem Kp.r (h : Kp w fun w => F w ∧ G w) : Kp w G := fun w2 h2 => (h w2 h2).2
theorem below_keep (h : Below B a w) (hB : B ≤ w.heap.size) : Kp w fun w' => Below B a w' := fun w2 h2 => h.trans (h2.mono hB)
theorem kp_start (w : World) : Kp w fun w' => Below w.heap.size w w' := fun w2 h2 => h2
theorem size_keep (h : n ≤ w.heap.size) : Kp w fun w' => n ≤ w'.heap.size := fun w2 h2 => Nat.le_trans h h2.size
theorem kp_pure (h : p) : Kp w fun _ => p := fun _ _ => h
theorem kp_whole {b : Nat} {t : TypeId} {cs : Array Value} (h : Whole w b t cs) : Kp w fun w' => Whole w' b t cs := fun w2 h2 => h.below h2 h.lt
end

/-- Only blocks from 'lo' up to 'hi' and new ones have turned. -/
structure Mv (lo hi : Nat) (w w' : World) : Prop where
  os : w'.os = w.os
  tape : w'.tape = w.tape
  output : w'.output = w.output
  size : w.heap.size ≤ w'.heap.size
  block : ∀ b, b < w.heap.size → ¬ (lo ≤ b ∧ b < hi) → w'.heap[b]? = w.heap[b]?
/-- A fact that speaks of the blocks from 'lo' up to 'hi' alone. -/
def Kr (w : World) (lo hi : Nat) (F : World → Prop) : Prop := hi ≤ w.heap.size ∧ ∀ w', w.heap.size ≤ w'.heap.size → (∀ b, lo ≤ b → b < hi → w'.heap[b]? = w.heap[b]?) → F w'
section
variable {w w' a : World} {F G : World → Prop} {B n lo hi lo' hi' : Nat} {p : Prop}
theorem Kr.here (h : Kr w lo hi F) : F w := h.2 w (Nat.le_refl _) fun _ _ _ => rfl
theorem Kr.below (h : Kr w lo hi F) (hb : Below B w w') (hB : hi ≤ B) : Kr w' lo hi F :=
  ⟨Nat.le_trans h.1 hb.size, fun w2 hz h2 => h.2 w2 (Nat.le_trans hb.size hz) fun b h3 h4 => (h2 b h3 h4).trans (hb.block b (by omega))⟩
theorem Kr.move (h : Kr w lo hi F) (hm : Mv lo' hi' w w') (hd : hi ≤ lo' ∨ hi' ≤ lo) : Kr w' lo hi F :=
  ⟨Nat.le_trans h.1 hm.size, fun w2 hz h2 => h.2 w2 (Nat.le_trans hm.size hz) fun b h3 h4 => (h2 b h3 h4).trans (hm.block b (by have := h.1; omega) (by omega))⟩
theorem Kr.and (h : Kr w lo hi F) (k : Kr w lo hi G) : Kr w lo hi fun w => F w ∧ G w := ⟨h.1, fun w2 hz h2 => ⟨h.2 w2 hz h2, k.2 w2 hz h2⟩⟩
theorem Kr.map (h : Kr w lo hi F) (f : ∀ w, F w → G w) : Kr w lo hi G := ⟨h.1, fun w2 hz h2 => f w2 (h.2 w2 hz h2)⟩
theorem Kr.widen (h : Kr w lo hi F) (hl : lo' ≤ lo) (hh : hi ≤ hi') (hz : hi' ≤ w.heap.size) : Kr w lo' hi' F := ⟨hz, fun w2 hz h2 => h.2 w2 hz fun b h3 h4 => h2 b (by omega) (by omega)⟩
theorem Mv.of_below (h : Below B w w') (hB : w.heap.size ≤ B) : Mv lo hi w w' := ⟨h.os, h.tape, h.output, h.size, fun b hb _ => h.block b (by omega)⟩
theorem Mv.to_below (h : Mv lo hi w w') (hB : B ≤ lo) (hz : B ≤ w.heap.size) : Below B w w' := ⟨h.os, h.tape, h.output, h.size, fun b hb => h.block b (by omega) (by omega)⟩
theorem Mv.of_grown {g : Nat} (h : w.grownBy w' (some g)) (hl : lo ≤ g) (hh : g < hi) : Mv lo hi w w' := ⟨h.os, h.tape, h.output, h.size, fun b hb hn => h.block b hb (by simp; omega)⟩
theorem Mv.of_grown0 (h : w.grownBy w' none) : Mv lo hi w w' := ⟨h.os, h.tape, h.output, h.size, fun b hb hn => h.block b hb (by simp)⟩
end
end Go.Proofs.YtichajalinkcdaaGreatDoor
namespace Go.Proofs.YtichajalinkcdaaGreatDoor
open Go.RowKit
set_option linter.unusedVariables false

/-- A submission in a variable of the law's. -/
def SV (w : World) (X : Nat) (s : Sb) (A : Option Addr) (N cap : Nat) : Prop := Whole w X 25 #[.int .i64 s.st, .string s.us, .slice A N cap, .string s.tx] ∧ SIn w A N cap s.to
theorem SV.made {w w' : World} {X : Nat} {s : Sb} {A : Option Addr} {N cap : Nat} (h : SIn w A N cap s.to) (hX : w.heap.size = X) (hw : w.alloc (.cells #[.int .i64 s.st, .string s.us, .slice A N cap, .string s.tx] 25) = w') : Kp w' fun w2 => SV w2 X s A N cap := by
  subst hX
  subst hw
  exact fun w2 h2 => ⟨(Whole.made w _ _).below h2 (by simp), h.below ((below_new w _).trans (h2.mono (by simp))) (Nat.le_refl _)⟩
/-- The users, and internal/bytealg.MaxLen. -/
def UV (w0 w : World) (AU : Option Addr) (NU cU : Nat) (L : List Us) : Prop := Below w0.heap.size w0 w ∧ UIn w AU NU cU L ∧ MxS w
theorem UV.made {w0 w : World} {AU : Option Addr} {NU cU : Nat} {L : List Us} (hb : Below w0.heap.size w0 w) (h : UIn w AU NU cU L) (hm : MxS w0) : Kp w fun w2 => UV w0 w2 AU NU cU L :=
  fun w2 h2 => ⟨hb.trans (h2.mono hb.size), h.below h2 (Nat.le_refl _), hm.below (hb.trans (h2.mono hb.size)) (Nat.le_refl _)⟩
/-- What SubmissionLine answers to a line. -/
def LineIs (s : Sb) (L : List Us) (d l : ByteArray) (r : Sb × Int) : Prop := ∀ u o, IsUp L ((wdsF l).getD 2 eB) u o → lineV s L d l u o = r
theorem lineIs_any (s : Sb) (L : List Us) (d l : ByteArray) : ∃ r, LineIs s L d l r ∧ sbV r.1 = true := by
  obtain ⟨u, o, h⟩ := isUp_any L ((wdsF l).getD 2 eB)
  refine ⟨lineV s L d l u o, fun u' o' h' => ?_, lineV_valid fun ho => by subst ho; exact isUp_name h⟩
  obtain ⟨rfl, rfl⟩ := isUp_one h' h
  rfl
theorem LineIs.valid {s : Sb} {L : List Us} {d l : ByteArray} {r : Sb × Int} (h : LineIs s L d l r) : sbV r.1 = true := by
  obtain ⟨u, o, hu⟩ := isUp_any L ((wdsF l).getD 2 eB)
  rw [← h u o hu]
  exact lineV_valid fun ho => by subst ho; exact isUp_name hu
theorem LineIs.one {s : Sb} {L : List Us} {d l : ByteArray} {r r' : Sb × Int} (h : LineIs s L d l r) (k : LineIs s L d l r') : r = r' := by
  obtain ⟨u, o, hu⟩ := isUp_any L ((wdsF l).getD 2 eB)
  exact (h u o hu).symm.trans (k u o hu)
/-- A submission and a reply, that can be read. -/
def GiveR (w : World) (r : Sb × Int) (e : Ending) (w' : World) : Prop :=
  ∃ A N cap, e = .returned (.tuple #[.agg #[.int .i64 r.1.st, .string r.1.us, .slice A N cap, .string r.1.tx], .int .i64 r.2]) ∧ SIn w' A N cap r.1.to ∧ Below w.heap.size w w'
theorem GiveL.r {w w' : World} {r : Sb × Int} {e : Ending} (hv : sbV r.1 = true) (h : GiveL w r e w') : GiveR w r e w' := by
  obtain ⟨A, N, cap, rfl, ho, hb⟩ := h
  obtain ⟨_, h2, h3, _⟩ := sbV_has hv
  exact ⟨A, N, cap, rfl, SIn.made ho (by omega) (fun g hg => Nat.le_trans (h3 g hg) (by omega)), hb⟩
theorem line_at {st : Int} {us tx d l : ByteArray} {T : List ByteArray} {L : List Us} {A AU : Option Addr} {N cap NU cU : Nat} {r : Sb × Int} (hr : LineIs ⟨st, us, T, tx⟩ L d l r) (w : World) (h : SIn w A N cap T) (hL : UIn w AU NU cU L) (hm : MxS w) (hu : us.size ≤ 30) (hd : d.size ≤ 30) (hl : l.size ≤ 2000) :
    Calls Tryz.prog 22 #[.agg #[.int .i64 st, .string us, .slice A N cap, .string tx], .slice AU NU cU, .string d, .string l] w (GiveR w r) := by
  obtain ⟨u, o, hup⟩ := isUp_any L ((wdsF l).getD 2 eB)
  have h2 := impl_subline st us tx d l u o T L A AU N cap NU cU w h hL (by omega) (by omega) (by omega) hm (fun _ => hup)
  rw [hr u o hup] at h2
  exact h2.mono fun e w' => GiveL.r hr.valid
theorem sline_at {st : Int} {us tx d l : ByteArray} {T : List ByteArray} {L : List Us} {A AU : Option Addr} {N cap NU cU : Nat} {r : Sb × Int} (hr : LineIs ⟨st, us, T, tx⟩ L d l r) (w : World) (h : SIn w A N cap T) (hL : UIn w AU NU cU L) (hu : us.size ≤ 30) (hd : d.size ≤ 30) (hl : l.size ≤ 2000) :
    Calls Tryz.prog 23 #[.agg #[.int .i64 st, .string us, .slice A N cap, .string tx], .slice AU NU cU, .string d, .string l] w (GiveR w r) := by
  obtain ⟨u, o, hup⟩ := isUp_any L ((wdsF l).getD 2 eB)
  have h2 := spec_subline st us tx d l u o T L A AU N cap NU cU w h hL (by omega) (by omega) (by omega) (fun _ => hup)
  rw [hr u o hup] at h2
  exact h2.mono fun e w' => GiveL.r hr.valid
/-- No line of a valid submission is told -1. -/
theorem told_ite {c : Prop} [Decidable c] {a b : Sb × Int} (ha : 0 ≤ a.2) (hb : 0 ≤ b.2) : 0 ≤ (if c then a else b).2 := by split <;> assumption
theorem lineF_told {s : Sb} {L : List Us} {d l u : ByteArray} {o : Bool} : 0 ≤ (lineF s L d l u o).2 := by
  unfold lineF dataF helloF authF mailF rcptF cmdF
  repeat' apply told_ite
  all_goals first
    | exact Int.le_refl 0
    | exact (by decide : (0 : Int) ≤ 503)
    | exact (by decide : (0 : Int) ≤ 250)
    | exact (by decide : (0 : Int) ≤ 501)
    | exact (by decide : (0 : Int) ≤ 235)
    | exact (by decide : (0 : Int) ≤ 535)
    | exact (by decide : (0 : Int) ≤ 530)
    | exact (by decide : (0 : Int) ≤ 550)
    | exact (by decide : (0 : Int) ≤ 452)
    | exact (by decide : (0 : Int) ≤ 354)
    | exact (by decide : (0 : Int) ≤ 221)
    | exact (by decide : (0 : Int) ≤ 500)
    | (show (0 : Int) ≤ (if s.tx.size ≤ 20 then 250 else 552); split <;> decide)
theorem LineIs.off {s : Sb} {L : List Us} {d l : ByteArray} {r : Sb × Int} (h : LineIs s L d l r) (hz : (sbV s && (vU L && domB (kb d))) = false) : r = (⟨0, eB, [], eB⟩, -1) := by
  obtain ⟨u, o, hu⟩ := isUp_any L ((wdsF l).getD 2 eB)
  rw [← h u o hu]
  unfold lineV
  rw [hz]
  rfl
theorem LineIs.on {s : Sb} {L : List Us} {d l : ByteArray} {r : Sb × Int} (h : LineIs s L d l r) (hz : (sbV s && (vU L && domB (kb d))) = true) : 0 ≤ r.2 := by
  obtain ⟨u, o, hu⟩ := isUp_any L ((wdsF l).getD 2 eB)
  rw [← h u o hu]
  unfold lineV
  rw [if_pos hz]
  exact lineF_told
theorem lineIs_of {s : Sb} {L : List Us} {d l : ByteArray} {r : Sb × Int} (hz : (sbV s && (vU L && domB (kb d))) = true) (h : ∀ u o, IsUp L ((wdsF l).getD 2 eB) u o → lineF s L d l u o = r) : LineIs s L d l r := fun u o hu => by
  unfold lineV
  rw [if_pos hz]
  exact h u o hu
set_option maxHeartbeats 2000000 in
theorem same_names (A A2 : Option Addr) (n cap cap2 : Nat) (P : List ByteArray) (w : World) (h : SIn w A n cap P) (h2 : SIn w A2 n cap2 P) :
    Calls Tryz.prog 51 #[.slice A n cap, .slice A2 n cap2] w fun e w' => e = .returned (.bool true) ∧ Below w.heap.size w w' := by
  have H := Lib.hid h
  have H2 := Lib.hid h2
  have hl := h.2.1
  clear h h2
  have hlb : ((n : Int) != (n : Int)) = false := by simp
  go_enter Tryz.func51, Tryz.ntmps51
  go_wp2
  go_loopw [5] (fun i wr => ∃ k : Nat, k ≤ n ∧ i = .int .i64 (k : Int) ∧ Hid (Below w.heap.size w wr)) (fun i _ => n - (intOf i).toNat)
  case atStart => exact ⟨0, Nat.zero_le _, by go_num, Below.refl _ _⟩
  case round =>
    obtain ⟨k, hk, rfl, HB⟩ := hrel
    by_cases hlt : k < n
    · have h0 : (0 : Int) ≤ (k : Int) := by omega
      have h5 : (k : Int) < (n : Int) := by omega
      obtain ⟨x, hx⟩ : ∃ x, P[k]? = some x := ⟨_, List.getElem?_eq_getElem (by rw [H.out.1]; exact hlt)⟩
      obtain ⟨b, o, rfl, hb, c0⟩ := str_at (H.out.2.2.1.below HB.out (Nat.le_refl _)) hx
      obtain ⟨b', o', rfl, hb', d0⟩ := str_at (H2.out.2.2.1.below HB.out (Nat.le_refl _)) hx
      clear hx
      go_wp2
      go_quiet (fail)
      go_wp2
      go_roundw
      case rel => exact ⟨k + 1, by omega, by go_num, below_drewN' HB.out _⟩
      case measure => simp [intOf]; omega
    · have h5 : ¬ (k : Int) < (n : Int) := by omega
      go_wp2
      go_ret
      exact ⟨rfl, HB.out⟩
set_option maxHeartbeats 1000000 in
theorem has_at {A : Option Addr} {N cap : Nat} {L : List ByteArray} {n : ByteArray} {z : Bool} (hz : decide (n ∈ L) = z) (w : World) (h : SIn w A N cap L) : Calls Tryz.prog 27 #[.slice A N cap, .string n] w fun e w' => e = .returned (.bool z) ∧ w' = w := by
  have H := Lib.hid h
  have HZ := Lib.hid hz
  have hl := h.2.1
  clear h hz
  go_enter Tryz.func27, Tryz.ntmps27
  go_wp2
  go_loopw [5] (fun i wr => ∃ k : Nat, k ≤ N ∧ i = .int .i64 (k : Int) ∧ Hid (¬ n ∈ L.take k) ∧ wr = w) (fun i _ => N - (intOf i).toNat)
  case atStart => exact ⟨0, Nat.zero_le _, by go_num, Lib.hid (by simp), rfl⟩
  case round =>
    obtain ⟨k, hk, rfl, HG, rfl⟩ := hrel
    by_cases hlt : k < N
    · have h0 : (0 : Int) ≤ (k : Int) := by omega
      have h5 : (k : Int) < (N : Int) := by omega
      obtain ⟨x, hx⟩ : ∃ x, L[k]? = some x := ⟨_, List.getElem?_eq_getElem (by rw [H.out.1]; exact hlt)⟩
      obtain ⟨b, o, rfl, hb, c0⟩ := str_at H.out.2.2.1 hx
      by_cases hn : x = n
      · have HE := Lib.hid (HZ.out.symm.trans (mem_here hx hn))
        subst hn
        clear hx
        go_wp2
        go_ret
        exact ⟨ret_bl HE.out.symm, rfl⟩
      · have HE := Lib.hid (mem_step HG.out hx hn)
        obtain ⟨v1, v2⟩ := ne_walk hn
        clear hx hn
        go_wp2
        go_roundw
        case rel => exact ⟨k + 1, by omega, by go_num, HE, trivial⟩
        case measure => simp [intOf]; omega
    · have h5 : ¬ (k : Int) < (N : Int) := by omega
      have HE : Hid (z = false) := Lib.hid (HZ.out.symm.trans (decide_eq_false (by have := HG.out; rw [List.take_of_length_le (by rw [H.out.1]; omega)] at this; exact this)))
      go_wp2
      go_ret
      exact ⟨ret_bl HE.out.symm, rfl⟩
set_option maxRecDepth 20000 in
set_option maxHeartbeats 2000000 in
theorem same_sub {st : Int} {us tx : ByteArray} {T : List ByteArray} {A A2 : Option Addr} {N N2 cap cap2 : Nat} (w : World) (h : SIn w A N cap T) (h2 : SIn w A2 N2 cap2 T) :
    Calls Tryz.prog 24 #[.agg #[.int .i64 st, .string us, .slice A N cap, .string tx], .agg #[.int .i64 st, .string us, .slice A2 N2 cap2, .string tx]] w fun e w' => e = .returned (.bool true) ∧ Below w.heap.size w w' := by
  obtain rfl : N = N2 := h.1.symm.trans h2.1
  obtain ⟨wq, hwq⟩ : ∃ wq, ((w.alloc (.cells #[.int .i64 st, .string us, .slice A N cap, .string tx] 25)).alloc (.cells #[.int .i64 st, .string us, .slice A2 N cap2, .string tx] 25)) = wq := ⟨_, rfl⟩
  obtain ⟨x1, x2, x3⟩ := two_made w #[.int .i64 st, .string us, .slice A N cap, .string tx] #[.int .i64 st, .string us, .slice A2 N cap2, .string tx]
  rw [hwq] at x1 x2 x3
  have HBA := Lib.hid x3
  have H := Lib.hid (h.below x3 (Nat.le_refl _))
  have H2 := Lib.hid (h2.below x3 (Nat.le_refl _))
  have y0 := x1.cell 0
  have y1 := x1.cell 1
  have y2 := x1.cell 2
  have y3 := x1.cell 3
  have z0 := x2.cell 0
  have z1 := x2.cell 1
  have z2 := x2.cell 2
  have z3 := x2.cell 3
  simp at y0 y1 y2 y3 z0 z1 z2 z3
  clear h h2 x1 x2 x3
  go_enter Tryz.func24, Tryz.ntmps24
  go_wp2_with fail
  refine (same_names A A2 N cap cap2 T _ H.out H2.out).mono ?_
  rintro e w2 ⟨rfl, hb⟩
  have HB2 := Lib.hid (HBA.out.trans (hb.mono HBA.out.size))
  clear hb
  go_wp2
  go_ret
  exact ⟨rfl, HB2.out⟩
set_option maxHeartbeats 1000000 in
theorem open_at {st : Int} {us tx : ByteArray} {A : Option Addr} {N cap : Nat} (z : Bool) (hz : (st != 5 && st != 6) = z) (w : World) : Calls Tryz.prog 25 #[.agg #[.int .i64 st, .string us, .slice A N cap, .string tx]] w fun e w' => e = .returned (.bool z) ∧ Below w.heap.size w w' := by
  have HB := Lib.hid (below_new w (.cells #[.int .i64 st, .string us, .slice A N cap, .string tx] 25))
  by_cases h5 : st = 5
  · subst h5
    go_enter Tryz.func25, Tryz.ntmps25
    go_wp2
    go_ret
    exact ⟨ret_bl (by rw [← hz]; rfl), HB.out⟩
  · have h5' : (st != 5) = true := bne_iff_ne.2 h5
    have HZ := Lib.hid hz
    clear hz h5
    go_enter Tryz.func25, Tryz.ntmps25
    go_wp2
    go_ret
    exact ⟨ret_bl (by rw [← HZ.out, h5']; rfl), HB.out⟩
set_option maxHeartbeats 1000000 in
theorem knows_at {A : Option Addr} {N cap : Nat} {L : List Us} {n : ByteArray} {z : Bool} (hz : (L.any fun u => decide (u.1 = n)) = z) (w : World) (h : UIn w A N cap L) : Calls Tryz.prog 28 #[.slice A N cap, .string n] w fun e w' => e = .returned (.bool z) ∧ w' = w := by
  have H := Lib.hid h
  have HZ := Lib.hid hz
  have hl := h.2.1
  clear h hz
  go_enter Tryz.func28, Tryz.ntmps28
  go_wp2
  go_loopw [5] (fun i wr => ∃ k : Nat, k ≤ N ∧ i = .int .i64 (k : Int) ∧ Hid (((L.take k).any fun u => decide (u.1 = n)) = false) ∧ wr = w) (fun i _ => N - (intOf i).toNat)
  case atStart => exact ⟨0, Nat.zero_le _, by go_num, Lib.hid (by simp), rfl⟩
  case round =>
    obtain ⟨k, hk, rfl, HG, rfl⟩ := hrel
    by_cases hlt : k < N
    · have h0 : (0 : Int) ≤ (k : Int) := by omega
      have h5 : (k : Int) < (N : Int) := by omega
      obtain ⟨⟨x, p, q⟩, hx⟩ : ∃ x, L[k]? = some x := ⟨_, List.getElem?_eq_getElem (by rw [H.out.1]; exact hlt)⟩
      obtain ⟨b, o, rfl, hb, c0, _, _⟩ := user_at H.out.2.2.1 hx
      by_cases hn : x = n
      · have HE : Hid (z = true) := Lib.hid (by
          rw [← HZ.out, List.any_eq_true]
          exact ⟨_, List.mem_of_getElem? hx, decide_eq_true hn⟩)
        subst hn
        clear hx
        go_wp2
        go_ret
        exact ⟨ret_bl HE.out.symm, rfl⟩
      · have HE : Hid (((L.take (k + 1)).any fun u => decide (u.1 = n)) = false) := Lib.hid (by rw [tsnoc hx, List.any_append, HG.out]; simp; exact hn)
        obtain ⟨v1, v2⟩ := ne_walk hn
        clear hx hn
        go_wp2
        go_roundw
        case rel => exact ⟨k + 1, by omega, by go_num, HE, trivial⟩
        case measure => simp [intOf]; omega
    · have h5 : ¬ (k : Int) < (N : Int) := by omega
      have HE : Hid (z = false) := Lib.hid (HZ.out.symm.trans (by have := HG.out; rw [List.take_of_length_le (by rw [H.out.1]; omega)] at this; exact this))
      go_wp2
      go_ret
      exact ⟨ret_bl HE.out.symm, rfl⟩
end Go.Proofs.YtichajalinkcdaaGreatDoor
