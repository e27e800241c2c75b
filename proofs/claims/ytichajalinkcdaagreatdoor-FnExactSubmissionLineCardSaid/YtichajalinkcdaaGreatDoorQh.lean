/-
  My texts Tj, Tk, Bdraw, Pdraw, Ud, Tn in one, so that a claim holds fewer files. Conditions: each contract's own.
-/
import Derived.Test.YtichajalinkcdaaGreatDoorQg
import Derived.Deep.RegionWith
import Derived.IntWalk
import Derived.ArgAppend
namespace Go.Proofs.YtichajalinkcdaaGreatDoor
open Go.RowKit
set_option linter.unusedVariables false


/-- What cutting a line leaves. -/
theorem spec_cutw (l : ByteArray) (w : World) (hl : l.size ≤ 2097152) : Calls Tryz.prog 83 #[.string l, .int .u8 32] w fun e w' => ∃ g N cap, e = .returned (.slice (some ⟨g, 0, none⟩) N cap) ∧ WIn w' (some ⟨g, 0, none⟩) N (wdsF l) ∧ Below w.heap.size w w' := by
  refine (cut_any l 32 w (by omega)).mono ?_
  rintro e w' ⟨g, cap, rfl, hg1, hg2, hc, hb⟩
  refine ⟨g, _, cap, rfl, ⟨by unfold wdsF; rw [List.length_map]; rfl, fun i x hx => ⟨g, 0, rfl, hg2, fun j u hu => ?_⟩⟩, hb⟩
  have hi := (List.getElem?_eq_some_iff.1 hx).1
  unfold wdsF at hi hx
  rw [List.length_map] at hi
  have hj : j = 0 := by
    have := (List.getElem?_eq_some_iff.1 hu).1
    simp [stR] at this
    omega
  subst hj
  simp [stR] at hu
  subst hu
  have h1 := hc i hi
  simp only [stR, Nat.zero_add, Nat.mul_one, Nat.add_zero]
  rw [h1]
  rw [List.getElem?_map, List.getElem?_eq_getElem hi] at hx
  have hx2 := Option.some.inj hx
  rw [List.getD_eq_getElem?_getD, ← hx2]
  show some (str ((cut 32 (kb l))[i]?.getD [])) = _
  rw [List.getElem?_eq_getElem hi]
  rfl
theorem lineF_6 {s : Sb} {L : List Us} {d l u : ByteArray} {o : Bool} (h : s.st = 6) : lineF s L d l u o = (s, 503) := by unfold lineF; rw [if_pos h]
theorem lineF_5 {s : Sb} {L : List Us} {d l u : ByteArray} {o : Bool} (h : s.st = 5) : lineF s L d l u o = dataF s l := by unfold lineF; rw [if_neg (by omega), if_pos h]
theorem lineF_w {s : Sb} {L : List Us} {d l u x : ByteArray} {o : Bool} (h6 : s.st ≠ 6) (h5 : s.st ≠ 5) (hx : (wdsF l).getD 0 eB = x) : lineF s L d l u o = if x = wEHLO then helloF s (wdsF l) else if x = wAUTH then authF s (wdsF l) u o else if x = wMAIL then mailF s d l else if x = wRCPT then rcptF s L d l else cmdF s l := by
  unfold lineF
  rw [if_neg h6, if_neg h5, hx]
theorem lineF_c {s : Sb} {L : List Us} {d l u x : ByteArray} {o : Bool} (h6 : s.st ≠ 6) (h5 : s.st ≠ 5) (hx : (wdsF l).getD 0 eB = x) (h1 : x ≠ wEHLO) (h2 : x ≠ wAUTH) (h3 : x ≠ wMAIL) (h4 : x ≠ wRCPT) : lineF s L d l u o = cmdF s l := by
  rw [lineF_w h6 h5 hx, if_neg h1, if_neg h2, if_neg h3, if_neg h4]

set_option maxRecDepth 20000 in
set_option maxHeartbeats 8000000 in
theorem spec_line (st : Int) (us tx d l u : ByteArray) (ok : Bool) (T : List ByteArray) (L : List Us) (A AU : Option Addr) (N cap NU cU : Nat) (w : World) (h : SIn w A N cap T) (hL : UIn w AU NU cU L) (hl : l.size ≤ 2097152) (ht : tx.size ≤ 21) (hT : T.length ≤ 10) (hup : (wdsF l).length = 3 → IsUp L ((wdsF l).getD 2 eB) u ok) : Calls Tryz.prog 50 #[.agg #[.int .i64 st, .string us, .slice A N cap, .string tx], .slice AU NU cU, .string d, .string l] w (GiveS w A (lineF ⟨st, us, T, tx⟩ L d l u ok)) := by
  have HLL := Lib.hid (hL.below (two_made w #[.int .i64 st, .string us, .slice A N cap, .string tx] #[.int .i64 0, .string ⟨#[]⟩, .slice none 0 0, .string ⟨#[]⟩]).2.2 (Nat.le_refl _))
  have HUP := Lib.hid hup
  clear hL hup
  have HI := Lib.hid h
  obtain ⟨hs, hr, hB⟩ := two_made w #[.int .i64 st, .string us, .slice A N cap, .string tx] #[.int .i64 0, .string ⟨#[]⟩, .slice none 0 0, .string ⟨#[]⟩]
  have c0 := hs.cell 0
  have c1 := hs.cell 1
  have c2 := hs.cell 2
  have c3 := hs.cell 3
  have z0 := hr.cell 0
  have z1 := hr.cell 1
  have z2 := hr.cell 2
  have z3 := hr.cell 3
  have f0 := hr.free 0
  have f1 := hr.free 1
  have f2 := hr.free 2
  have f3 := hr.free 3
  simp only [List.getElem?_toArray, List.getElem?_cons_zero, List.getElem?_cons_succ] at c0 c1 c2 c3 z0 z1 z2 z3
  have HS := Lib.hid hs
  have HR := Lib.hid hr
  have HB := Lib.hid hB
  clear h hs hr hB
  have hne : ∀ q, A = some q → q.block ≠ w.heap.size + 1 := fun q e => by have := HI.out.lt q e; omega
  have HNE := Lib.hid hne
  clear hne
  by_cases h6 : st = 6
  ·
    subst h6
    have HE : Hid (lineF ⟨6, us, T, tx⟩ L d l u ok = (⟨6, us, T, tx⟩, 503)) := Lib.hid (lineF_6 rfl)
    go_enter Tryz.func50, Tryz.ntmps50
    go_wp2_with fail
    refine (spec_cutw l _ hl).mono ?_
    rintro e w2 ⟨gw, Nw, capw, rfl, hw, hb2⟩
    have HW2 := Lib.hid hw
    have HS2 := Lib.hid (HS.out.below hb2 HS.out.lt)
    have HR2 := Lib.hid (HR.out.below hb2 HR.out.lt)
    have HB2 := Lib.hid (HB.out.trans (hb2.mono HB.out.size))
    have HL2 := Lib.hid (HLL.out.below hb2 (Nat.le_refl _))
    have HI2 := Lib.hid (HI.out.below HB2.out (Nat.le_refl _))
    have HZ2 : Hid (w.heap.size + 1 < w2.heap.size) := Lib.hid HR2.out.lt
    have HN2 : Hid (w.heap.size ≤ w2.heap.size) := Lib.hid HB2.out.size
    clear hb2 hw c0 c1 c2 c3 z0 z1 z2 z3 f0 f1 f2 f3
    have hs := HS2.out
    have c0 := hs.cell 0
    have c1 := hs.cell 1
    have c2 := hs.cell 2
    have c3 := hs.cell 3
    simp only [List.getElem?_toArray, List.getElem?_cons_zero, List.getElem?_cons_succ] at c0 c1 c2 c3
    clear hs
    have hs := HS2.out
    have hr := HR2.out
    have c0 := hs.cell 0
    have c1 := hs.cell 1
    have c2 := hs.cell 2
    have c3 := hs.cell 3
    have z0 := hr.cell 0
    have z1 := hr.cell 1
    have z2 := hr.cell 2
    have z3 := hr.cell 3
    have f0 := hr.free 0
    have f1 := hr.free 1
    have f2 := hr.free 2
    have f3 := hr.free 3
    simp only [List.getElem?_toArray, List.getElem?_cons_zero, List.getElem?_cons_succ] at c0 c1 c2 c3 z0 z1 z2 z3
    have hf := put_sb hr (.int .i64 6) (.string us) (.slice A N cap) (.string tx)
    have r0 := hf.cell 0
    have r1 := hf.cell 1
    have r2 := hf.cell 2
    have r3 := hf.cell 3
    simp only [List.getElem?_toArray, List.getElem?_cons_zero, List.getElem?_cons_succ] at r0 r1 r2 r3
    clear hs hr hf
    go_wp2
    refine bodyPost_ret (v := .tuple #[.agg #[.int .i64 6, .string us, .slice A N cap, .string tx], .int .i64 503]) (by simp [results, Tryz.results50, go_sem, r0, r1, r2, r3]) rfl ?_
    rw [HE.out]
    exact ⟨_, _, _, rfl, HI2.out.set4 HNE.out _ _ _ _, Fr.same _ _, below_set4 HB2.out (by omega) _ _ _ _⟩
  have h6' : (st == 6) = false := beq_eq_false_iff_ne.2 h6
  by_cases h5 : st = 5
  ·
    subst h5
    obtain ⟨⟨⟨st1, us1, T1, tx1⟩, n1⟩, hr⟩ : ∃ x, dataF ⟨5, us, T, tx⟩ l = x := ⟨_, rfl⟩
    have HE : Hid (lineF ⟨5, us, T, tx⟩ L d l u ok = (⟨st1, us1, T1, tx1⟩, n1)) := Lib.hid ((lineF_5 rfl).trans hr)
    have HRR := Lib.hid hr
    clear hr
    go_enter Tryz.func50, Tryz.ntmps50
    go_wp2_with fail
    refine (spec_cutw l _ hl).mono ?_
    rintro e w2 ⟨gw, Nw, capw, rfl, hw, hb2⟩
    have HW2 := Lib.hid hw
    have HS2 := Lib.hid (HS.out.below hb2 HS.out.lt)
    have HR2 := Lib.hid (HR.out.below hb2 HR.out.lt)
    have HB2 := Lib.hid (HB.out.trans (hb2.mono HB.out.size))
    have HL2 := Lib.hid (HLL.out.below hb2 (Nat.le_refl _))
    have HI2 := Lib.hid (HI.out.below HB2.out (Nat.le_refl _))
    have HZ2 : Hid (w.heap.size + 1 < w2.heap.size) := Lib.hid HR2.out.lt
    have HN2 : Hid (w.heap.size ≤ w2.heap.size) := Lib.hid HB2.out.size
    clear hb2 hw c0 c1 c2 c3 z0 z1 z2 z3 f0 f1 f2 f3
    have hs := HS2.out
    have c0 := hs.cell 0
    have c1 := hs.cell 1
    have c2 := hs.cell 2
    have c3 := hs.cell 3
    simp only [List.getElem?_toArray, List.getElem?_cons_zero, List.getElem?_cons_succ] at c0 c1 c2 c3
    clear hs
    have HC := Lib.hid (spec_data 5 us tx l T A N cap w2 HI2.out ht hl)
    rw [HRR.out] at HC
    go_wp2_with fail
    refine HC.out.mono ?_
    rintro e w3 ⟨A3, N3, cap3, rfl, hI3, hF3, hb3⟩
    have HI3 := Lib.hid hI3
    have HF3 := Lib.hid hF3
    have HS3 := Lib.hid (HS2.out.below hb3 HS2.out.lt)
    have HR3 := Lib.hid (HR2.out.below hb3 HR2.out.lt)
    have HB3 := Lib.hid (HB2.out.trans (hb3.mono HB2.out.size))
    clear hI3 hF3 hb3 c0 c1 c2 c3
    try clear k0
    have hs := HS3.out
    have hr := HR3.out
    have c0 := hs.cell 0
    have c1 := hs.cell 1
    have c2 := hs.cell 2
    have c3 := hs.cell 3
    have z0 := hr.cell 0
    have z1 := hr.cell 1
    have z2 := hr.cell 2
    have z3 := hr.cell 3
    have f0 := hr.free 0
    have f1 := hr.free 1
    have f2 := hr.free 2
    have f3 := hr.free 3
    simp only [List.getElem?_toArray, List.getElem?_cons_zero, List.getElem?_cons_succ] at c0 c1 c2 c3 z0 z1 z2 z3
    have hf := put_sb hr (.int .i64 st1) (.string us1) (.slice A3 N3 cap3) (.string tx1)
    have r0 := hf.cell 0
    have r1 := hf.cell 1
    have r2 := hf.cell 2
    have r3 := hf.cell 3
    simp only [List.getElem?_toArray, List.getElem?_cons_zero, List.getElem?_cons_succ] at r0 r1 r2 r3
    clear hs hr hf
    go_wp2
    refine bodyPost_ret (v := .tuple #[.agg #[.int .i64 st1, .string us1, .slice A3 N3 cap3, .string tx1], .int .i64 n1]) (by simp [results, Tryz.results50, go_sem, r0, r1, r2, r3]) rfl ?_
    rw [HE.out]
    exact ⟨_, _, _, rfl, HI3.out.set4 (fun q e => by
        rcases HF3.out q e with ⟨p, hp, hq⟩ | hq
        · have := HI.out.lt p hp; omega
        · have := HZ2.out; omega) _ _ _ _, (HF3.out.from HN2.out), below_set4 HB3.out (by omega) _ _ _ _⟩
  have h5' : (st == 5) = false := beq_eq_false_iff_ne.2 h5
  obtain ⟨x, hx⟩ : ∃ x, (wdsF l)[0]? = some x := ⟨_, List.getElem?_eq_getElem (by have := (wdsF_len l).1; omega)⟩
  have hg : (wdsF l).getD 0 eB = x := by rw [List.getD_eq_getElem?_getD, hx]; rfl
  have HX := Lib.hid hx
  have HG := Lib.hid hg
  have HN6 := Lib.hid h6
  have HN5 := Lib.hid h5
  clear hx hg h6 h5
  by_cases hEHLO : x = wEHLO
  ·
    subst hEHLO
    obtain ⟨⟨⟨st1, us1, T1, tx1⟩, n1⟩, hr⟩ : ∃ x, helloF ⟨st, us, T, tx⟩ (wdsF l) = x := ⟨_, rfl⟩
    have HE : Hid (lineF ⟨st, us, T, tx⟩ L d l u ok = (⟨st1, us1, T1, tx1⟩, n1)) := Lib.hid ((lineF_w HN6.out HN5.out HG.out).trans (by rw [if_pos rfl]; exact hr))
    have HRR := Lib.hid hr
    clear hr
    go_enter Tryz.func50, Tryz.ntmps50
    go_wp2_with fail
    refine (spec_cutw l _ hl).mono ?_
    rintro e w2 ⟨gw, Nw, capw, rfl, hw, hb2⟩
    have HW2 := Lib.hid hw
    have HS2 := Lib.hid (HS.out.below hb2 HS.out.lt)
    have HR2 := Lib.hid (HR.out.below hb2 HR.out.lt)
    have HB2 := Lib.hid (HB.out.trans (hb2.mono HB.out.size))
    have HL2 := Lib.hid (HLL.out.below hb2 (Nat.le_refl _))
    have HI2 := Lib.hid (HI.out.below HB2.out (Nat.le_refl _))
    have HZ2 : Hid (w.heap.size + 1 < w2.heap.size) := Lib.hid HR2.out.lt
    have HN2 : Hid (w.heap.size ≤ w2.heap.size) := Lib.hid HB2.out.size
    clear hb2 hw c0 c1 c2 c3 z0 z1 z2 z3 f0 f1 f2 f3
    have hs := HS2.out
    have c0 := hs.cell 0
    have c1 := hs.cell 1
    have c2 := hs.cell 2
    have c3 := hs.cell 3
    simp only [List.getElem?_toArray, List.getElem?_cons_zero, List.getElem?_cons_succ] at c0 c1 c2 c3
    clear hs
    obtain ⟨b, o, hA', hbb, k0⟩ := str_at HW2.out.2 HX.out
    cases hA'
    simp only [Nat.add_zero] at k0
    have hNw : (0 : Int) < (Nw : Int) := by have := (wdsF_len l).1; have h2 := HW2.out.1; omega
    clear hbb
    unfold wEHLO at k0
    have HC := Lib.hid (spec_hello st us tx T (wdsF l) A (some ⟨gw, 0, none⟩) N cap Nw capw w2 HI2.out HW2.out (fun y hy => Nat.le_trans (wdsF_sizes l y hy) hl))
    rw [HRR.out] at HC
    go_wp2_with fail
    refine HC.out.mono ?_
    rintro e w3 ⟨A3, N3, cap3, rfl, hI3, hF3, hb3⟩
    have HI3 := Lib.hid hI3
    have HF3 := Lib.hid hF3
    have HS3 := Lib.hid (HS2.out.below hb3 HS2.out.lt)
    have HR3 := Lib.hid (HR2.out.below hb3 HR2.out.lt)
    have HB3 := Lib.hid (HB2.out.trans (hb3.mono HB2.out.size))
    clear hI3 hF3 hb3 c0 c1 c2 c3
    try clear k0
    have hs := HS3.out
    have hr := HR3.out
    have c0 := hs.cell 0
    have c1 := hs.cell 1
    have c2 := hs.cell 2
    have c3 := hs.cell 3
    have z0 := hr.cell 0
    have z1 := hr.cell 1
    have z2 := hr.cell 2
    have z3 := hr.cell 3
    have f0 := hr.free 0
    have f1 := hr.free 1
    have f2 := hr.free 2
    have f3 := hr.free 3
    simp only [List.getElem?_toArray, List.getElem?_cons_zero, List.getElem?_cons_succ] at c0 c1 c2 c3 z0 z1 z2 z3
    have hf := put_sb hr (.int .i64 st1) (.string us1) (.slice A3 N3 cap3) (.string tx1)
    have r0 := hf.cell 0
    have r1 := hf.cell 1
    have r2 := hf.cell 2
    have r3 := hf.cell 3
    simp only [List.getElem?_toArray, List.getElem?_cons_zero, List.getElem?_cons_succ] at r0 r1 r2 r3
    clear hs hr hf
    go_wp2
    refine bodyPost_ret (v := .tuple #[.agg #[.int .i64 st1, .string us1, .slice A3 N3 cap3, .string tx1], .int .i64 n1]) (by simp [results, Tryz.results50, go_sem, r0, r1, r2, r3]) rfl ?_
    rw [HE.out]
    exact ⟨_, _, _, rfl, HI3.out.set4 (fun q e => by
        rcases HF3.out q e with ⟨p, hp, hq⟩ | hq
        · have := HI.out.lt p hp; omega
        · have := HZ2.out; omega) _ _ _ _, (HF3.out.from HN2.out), below_set4 HB3.out (by omega) _ _ _ _⟩
  have HNEHLO := Lib.hid hEHLO
  obtain ⟨vEHLO1, vEHLO2, vEHLO3⟩ := lit_walk (xs := [69, 72, 76, 79]) rfl hEHLO
  clear hEHLO
  by_cases hAUTH : x = wAUTH
  ·
    subst hAUTH
    obtain ⟨⟨⟨st1, us1, T1, tx1⟩, n1⟩, hr⟩ : ∃ x, authF ⟨st, us, T, tx⟩ (wdsF l) u ok = x := ⟨_, rfl⟩
    have HE : Hid (lineF ⟨st, us, T, tx⟩ L d l u ok = (⟨st1, us1, T1, tx1⟩, n1)) := Lib.hid ((lineF_w HN6.out HN5.out HG.out).trans (by rw [if_neg (show wAUTH ≠ wEHLO by decide), if_pos rfl]; exact hr))
    have HRR := Lib.hid hr
    clear hr vEHLO1 vEHLO2 vEHLO3
    go_enter Tryz.func50, Tryz.ntmps50
    go_wp2_with fail
    refine (spec_cutw l _ hl).mono ?_
    rintro e w2 ⟨gw, Nw, capw, rfl, hw, hb2⟩
    have HW2 := Lib.hid hw
    have HS2 := Lib.hid (HS.out.below hb2 HS.out.lt)
    have HR2 := Lib.hid (HR.out.below hb2 HR.out.lt)
    have HB2 := Lib.hid (HB.out.trans (hb2.mono HB.out.size))
    have HL2 := Lib.hid (HLL.out.below hb2 (Nat.le_refl _))
    have HI2 := Lib.hid (HI.out.below HB2.out (Nat.le_refl _))
    have HZ2 : Hid (w.heap.size + 1 < w2.heap.size) := Lib.hid HR2.out.lt
    have HN2 : Hid (w.heap.size ≤ w2.heap.size) := Lib.hid HB2.out.size
    clear hb2 hw c0 c1 c2 c3 z0 z1 z2 z3 f0 f1 f2 f3
    have hs := HS2.out
    have c0 := hs.cell 0
    have c1 := hs.cell 1
    have c2 := hs.cell 2
    have c3 := hs.cell 3
    simp only [List.getElem?_toArray, List.getElem?_cons_zero, List.getElem?_cons_succ] at c0 c1 c2 c3
    clear hs
    obtain ⟨b, o, hA', hbb, k0⟩ := str_at HW2.out.2 HX.out
    cases hA'
    simp only [Nat.add_zero] at k0
    have hNw : (0 : Int) < (Nw : Int) := by have := (wdsF_len l).1; have h2 := HW2.out.1; omega
    clear hbb
    unfold wAUTH at k0
    have HC := Lib.hid (spec_auth st us tx u ok T (wdsF l) L A (some ⟨gw, 0, none⟩) AU N cap Nw capw NU cU w2 HI2.out HW2.out HL2.out (fun y hy => Nat.le_trans (wdsF_sizes l y hy) hl) HUP.out)
    rw [HRR.out] at HC
    go_wp2_with fail
    refine HC.out.mono ?_
    rintro e w3 ⟨A3, N3, cap3, rfl, hI3, hF3, hb3⟩
    have HI3 := Lib.hid hI3
    have HF3 := Lib.hid hF3
    have HS3 := Lib.hid (HS2.out.below hb3 HS2.out.lt)
    have HR3 := Lib.hid (HR2.out.below hb3 HR2.out.lt)
    have HB3 := Lib.hid (HB2.out.trans (hb3.mono HB2.out.size))
    clear hI3 hF3 hb3 c0 c1 c2 c3
    try clear k0
    have hs := HS3.out
    have hr := HR3.out
    have c0 := hs.cell 0
    have c1 := hs.cell 1
    have c2 := hs.cell 2
    have c3 := hs.cell 3
    have z0 := hr.cell 0
    have z1 := hr.cell 1
    have z2 := hr.cell 2
    have z3 := hr.cell 3
    have f0 := hr.free 0
    have f1 := hr.free 1
    have f2 := hr.free 2
    have f3 := hr.free 3
    simp only [List.getElem?_toArray, List.getElem?_cons_zero, List.getElem?_cons_succ] at c0 c1 c2 c3 z0 z1 z2 z3
    have hf := put_sb hr (.int .i64 st1) (.string us1) (.slice A3 N3 cap3) (.string tx1)
    have r0 := hf.cell 0
    have r1 := hf.cell 1
    have r2 := hf.cell 2
    have r3 := hf.cell 3
    simp only [List.getElem?_toArray, List.getElem?_cons_zero, List.getElem?_cons_succ] at r0 r1 r2 r3
    clear hs hr hf
    go_wp2
    refine bodyPost_ret (v := .tuple #[.agg #[.int .i64 st1, .string us1, .slice A3 N3 cap3, .string tx1], .int .i64 n1]) (by simp [results, Tryz.results50, go_sem, r0, r1, r2, r3]) rfl ?_
    rw [HE.out]
    exact ⟨_, _, _, rfl, HI3.out.set4 (fun q e => by
        rcases HF3.out q e with ⟨p, hp, hq⟩ | hq
        · have := HI.out.lt p hp; omega
        · have := HZ2.out; omega) _ _ _ _, (HF3.out.from HN2.out), below_set4 HB3.out (by omega) _ _ _ _⟩
  have HNAUTH := Lib.hid hAUTH
  obtain ⟨vAUTH1, vAUTH2, vAUTH3⟩ := lit_walk (xs := [65, 85, 84, 72]) rfl hAUTH
  clear hAUTH
  by_cases hMAIL : x = wMAIL
  ·
    subst hMAIL
    obtain ⟨⟨⟨st1, us1, T1, tx1⟩, n1⟩, hr⟩ : ∃ x, mailF ⟨st, us, T, tx⟩ d l = x := ⟨_, rfl⟩
    have HE : Hid (lineF ⟨st, us, T, tx⟩ L d l u ok = (⟨st1, us1, T1, tx1⟩, n1)) := Lib.hid ((lineF_w HN6.out HN5.out HG.out).trans (by rw [if_neg (show wMAIL ≠ wEHLO by decide), if_neg (show wMAIL ≠ wAUTH by decide), if_pos rfl]; exact hr))
    have HRR := Lib.hid hr
    clear hr vEHLO1 vEHLO2 vEHLO3 vAUTH1 vAUTH2 vAUTH3
    go_enter Tryz.func50, Tryz.ntmps50
    go_wp2_with fail
    refine (spec_cutw l _ hl).mono ?_
    rintro e w2 ⟨gw, Nw, capw, rfl, hw, hb2⟩
    have HW2 := Lib.hid hw
    have HS2 := Lib.hid (HS.out.below hb2 HS.out.lt)
    have HR2 := Lib.hid (HR.out.below hb2 HR.out.lt)
    have HB2 := Lib.hid (HB.out.trans (hb2.mono HB.out.size))
    have HL2 := Lib.hid (HLL.out.below hb2 (Nat.le_refl _))
    have HI2 := Lib.hid (HI.out.below HB2.out (Nat.le_refl _))
    have HZ2 : Hid (w.heap.size + 1 < w2.heap.size) := Lib.hid HR2.out.lt
    have HN2 : Hid (w.heap.size ≤ w2.heap.size) := Lib.hid HB2.out.size
    clear hb2 hw c0 c1 c2 c3 z0 z1 z2 z3 f0 f1 f2 f3
    have hs := HS2.out
    have c0 := hs.cell 0
    have c1 := hs.cell 1
    have c2 := hs.cell 2
    have c3 := hs.cell 3
    simp only [List.getElem?_toArray, List.getElem?_cons_zero, List.getElem?_cons_succ] at c0 c1 c2 c3
    clear hs
    obtain ⟨b, o, hA', hbb, k0⟩ := str_at HW2.out.2 HX.out
    cases hA'
    simp only [Nat.add_zero] at k0
    have hNw : (0 : Int) < (Nw : Int) := by have := (wdsF_len l).1; have h2 := HW2.out.1; omega
    clear hbb
    unfold wMAIL at k0
    have HC := Lib.hid (spec_mail st us tx d l T A N cap w2 HI2.out hl)
    rw [HRR.out] at HC
    go_wp2_with fail
    refine HC.out.mono ?_
    rintro e w3 ⟨A3, N3, cap3, rfl, hI3, hF3, hb3⟩
    have HI3 := Lib.hid hI3
    have HF3 := Lib.hid hF3
    have HS3 := Lib.hid (HS2.out.below hb3 HS2.out.lt)
    have HR3 := Lib.hid (HR2.out.below hb3 HR2.out.lt)
    have HB3 := Lib.hid (HB2.out.trans (hb3.mono HB2.out.size))
    clear hI3 hF3 hb3 c0 c1 c2 c3
    try clear k0
    have hs := HS3.out
    have hr := HR3.out
    have c0 := hs.cell 0
    have c1 := hs.cell 1
    have c2 := hs.cell 2
    have c3 := hs.cell 3
    have z0 := hr.cell 0
    have z1 := hr.cell 1
    have z2 := hr.cell 2
    have z3 := hr.cell 3
    have f0 := hr.free 0
    have f1 := hr.free 1
    have f2 := hr.free 2
    have f3 := hr.free 3
    simp only [List.getElem?_toArray, List.getElem?_cons_zero, List.getElem?_cons_succ] at c0 c1 c2 c3 z0 z1 z2 z3
    have hf := put_sb hr (.int .i64 st1) (.string us1) (.slice A3 N3 cap3) (.string tx1)
    have r0 := hf.cell 0
    have r1 := hf.cell 1
    have r2 := hf.cell 2
    have r3 := hf.cell 3
    simp only [List.getElem?_toArray, List.getElem?_cons_zero, List.getElem?_cons_succ] at r0 r1 r2 r3
    clear hs hr hf
    go_wp2
    refine bodyPost_ret (v := .tuple #[.agg #[.int .i64 st1, .string us1, .slice A3 N3 cap3, .string tx1], .int .i64 n1]) (by simp [results, Tryz.results50, go_sem, r0, r1, r2, r3]) rfl ?_
    rw [HE.out]
    exact ⟨_, _, _, rfl, HI3.out.set4 (fun q e => by
        rcases HF3.out q e with ⟨p, hp, hq⟩ | hq
        · have := HI.out.lt p hp; omega
        · have := HZ2.out; omega) _ _ _ _, (HF3.out.from HN2.out), below_set4 HB3.out (by omega) _ _ _ _⟩
  have HNMAIL := Lib.hid hMAIL
  obtain ⟨vMAIL1, vMAIL2, vMAIL3⟩ := lit_walk (xs := [77, 65, 73, 76]) rfl hMAIL
  clear hMAIL
  by_cases hRCPT : x = wRCPT
  ·
    subst hRCPT
    obtain ⟨⟨⟨st1, us1, T1, tx1⟩, n1⟩, hr⟩ : ∃ x, rcptF ⟨st, us, T, tx⟩ L d l = x := ⟨_, rfl⟩
    have HE : Hid (lineF ⟨st, us, T, tx⟩ L d l u ok = (⟨st1, us1, T1, tx1⟩, n1)) := Lib.hid ((lineF_w HN6.out HN5.out HG.out).trans (by rw [if_neg (show wRCPT ≠ wEHLO by decide), if_neg (show wRCPT ≠ wAUTH by decide), if_neg (show wRCPT ≠ wMAIL by decide), if_pos rfl]; exact hr))
    have HRR := Lib.hid hr
    clear hr vEHLO1 vEHLO2 vEHLO3 vAUTH1 vAUTH2 vAUTH3 vMAIL1 vMAIL2 vMAIL3
    go_enter Tryz.func50, Tryz.ntmps50
    go_wp2_with fail
    refine (spec_cutw l _ hl).mono ?_
    rintro e w2 ⟨gw, Nw, capw, rfl, hw, hb2⟩
    have HW2 := Lib.hid hw
    have HS2 := Lib.hid (HS.out.below hb2 HS.out.lt)
    have HR2 := Lib.hid (HR.out.below hb2 HR.out.lt)
    have HB2 := Lib.hid (HB.out.trans (hb2.mono HB.out.size))
    have HL2 := Lib.hid (HLL.out.below hb2 (Nat.le_refl _))
    have HI2 := Lib.hid (HI.out.below HB2.out (Nat.le_refl _))
    have HZ2 : Hid (w.heap.size + 1 < w2.heap.size) := Lib.hid HR2.out.lt
    have HN2 : Hid (w.heap.size ≤ w2.heap.size) := Lib.hid HB2.out.size
    clear hb2 hw c0 c1 c2 c3 z0 z1 z2 z3 f0 f1 f2 f3
    have hs := HS2.out
    have c0 := hs.cell 0
    have c1 := hs.cell 1
    have c2 := hs.cell 2
    have c3 := hs.cell 3
    simp only [List.getElem?_toArray, List.getElem?_cons_zero, List.getElem?_cons_succ] at c0 c1 c2 c3
    clear hs
    obtain ⟨b, o, hA', hbb, k0⟩ := str_at HW2.out.2 HX.out
    cases hA'
    simp only [Nat.add_zero] at k0
    have hNw : (0 : Int) < (Nw : Int) := by have := (wdsF_len l).1; have h2 := HW2.out.1; omega
    clear hbb
    unfold wRCPT at k0
    have HC := Lib.hid (spec_to st us tx d l T L A AU N cap NU cU w2 HI2.out HL2.out hl hT)
    rw [HRR.out] at HC
    go_wp2_with fail
    refine HC.out.mono ?_
    rintro e w3 ⟨A3, N3, cap3, rfl, hI3, hF3, hb3⟩
    have HI3 := Lib.hid hI3
    have HF3 := Lib.hid hF3
    have HS3 := Lib.hid (HS2.out.below hb3 HS2.out.lt)
    have HR3 := Lib.hid (HR2.out.below hb3 HR2.out.lt)
    have HB3 := Lib.hid (HB2.out.trans (hb3.mono HB2.out.size))
    clear hI3 hF3 hb3 c0 c1 c2 c3
    try clear k0
    have hs := HS3.out
    have hr := HR3.out
    have c0 := hs.cell 0
    have c1 := hs.cell 1
    have c2 := hs.cell 2
    have c3 := hs.cell 3
    have z0 := hr.cell 0
    have z1 := hr.cell 1
    have z2 := hr.cell 2
    have z3 := hr.cell 3
    have f0 := hr.free 0
    have f1 := hr.free 1
    have f2 := hr.free 2
    have f3 := hr.free 3
    simp only [List.getElem?_toArray, List.getElem?_cons_zero, List.getElem?_cons_succ] at c0 c1 c2 c3 z0 z1 z2 z3
    have hf := put_sb hr (.int .i64 st1) (.string us1) (.slice A3 N3 cap3) (.string tx1)
    have r0 := hf.cell 0
    have r1 := hf.cell 1
    have r2 := hf.cell 2
    have r3 := hf.cell 3
    simp only [List.getElem?_toArray, List.getElem?_cons_zero, List.getElem?_cons_succ] at r0 r1 r2 r3
    clear hs hr hf
    go_wp2
    refine bodyPost_ret (v := .tuple #[.agg #[.int .i64 st1, .string us1, .slice A3 N3 cap3, .string tx1], .int .i64 n1]) (by simp [results, Tryz.results50, go_sem, r0, r1, r2, r3]) rfl ?_
    rw [HE.out]
    exact ⟨_, _, _, rfl, HI3.out.set4 (fun q e => by
        rcases HF3.out q e with ⟨p, hp, hq⟩ | hq
        · have := HI.out.lt p hp; omega
        · have := HZ2.out; omega) _ _ _ _, (HF3.out.from HN2.out), below_set4 HB3.out (by omega) _ _ _ _⟩
  have HNRCPT := Lib.hid hRCPT
  obtain ⟨vRCPT1, vRCPT2, vRCPT3⟩ := lit_walk (xs := [82, 67, 80, 84]) rfl hRCPT
  clear hRCPT
  by_cases hDATA : l = wDATA
  ·
    by_cases h4 : st = 4
    ·
      have HE : Hid (lineF ⟨st, us, T, tx⟩ L d l u ok = (⟨5, us, T, tx⟩, 354)) := Lib.hid ((lineF_c HN6.out HN5.out HG.out HNEHLO.out HNAUTH.out HNMAIL.out HNRCPT.out).trans (by unfold cmdF; rw [if_pos hDATA]; simp only; rw [if_pos h4]))
      subst h4
      have hlit : l.toList = [68, 65, 84, 65] := by rw [hDATA, ByteArray.toList_eq]; rfl
      have HLT := Lib.hid hlit
      clear hDATA
      go_enter Tryz.func50, Tryz.ntmps50
      go_wp2_with fail
      refine (spec_cutw l _ hl).mono ?_
      rintro e w2 ⟨gw, Nw, capw, rfl, hw, hb2⟩
      have HW2 := Lib.hid hw
      have HS2 := Lib.hid (HS.out.below hb2 HS.out.lt)
      have HR2 := Lib.hid (HR.out.below hb2 HR.out.lt)
      have HB2 := Lib.hid (HB.out.trans (hb2.mono HB.out.size))
      have HL2 := Lib.hid (HLL.out.below hb2 (Nat.le_refl _))
      have HI2 := Lib.hid (HI.out.below HB2.out (Nat.le_refl _))
      have HZ2 : Hid (w.heap.size + 1 < w2.heap.size) := Lib.hid HR2.out.lt
      have HN2 : Hid (w.heap.size ≤ w2.heap.size) := Lib.hid HB2.out.size
      clear hb2 hw c0 c1 c2 c3 z0 z1 z2 z3 f0 f1 f2 f3
      have hs := HS2.out
      have c0 := hs.cell 0
      have c1 := hs.cell 1
      have c2 := hs.cell 2
      have c3 := hs.cell 3
      simp only [List.getElem?_toArray, List.getElem?_cons_zero, List.getElem?_cons_succ] at c0 c1 c2 c3
      clear hs
      obtain ⟨b, o, hA', hbb, k0⟩ := str_at HW2.out.2 HX.out
      cases hA'
      simp only [Nat.add_zero] at k0
      have hNw : (0 : Int) < (Nw : Int) := by have := (wdsF_len l).1; have h2 := HW2.out.1; omega
      clear hbb
      have hs := HS2.out
      have hr := HR2.out
      have e0 := hs.free 0
      have hs1 : Whole (w2.setCell ⟨w.heap.size, 0, none⟩ (.int .i64 5)) w.heap.size 25 #[.int .i64 5, .string us, .slice A N cap, .string tx] := hs.store 0 (.int .i64 5)
      have hr1 := hr.apart (p := ⟨w.heap.size, 0, none⟩) (show w.heap.size + 1 ≠ w.heap.size by omega) (.int .i64 5)
      have m0 := hs1.cell 0
      have m1 := hs1.cell 1
      have m2 := hs1.cell 2
      have m3 := hs1.cell 3
      have x0 := hr1.cell 0
      have x1 := hr1.cell 1
      have x2 := hr1.cell 2
      have x3 := hr1.cell 3
      have i0 := hr1.free 0
      have i1 := hr1.free 1
      have i2 := hr1.free 2
      have i3 := hr1.free 3
      simp only [List.getElem?_toArray, List.getElem?_cons_zero, List.getElem?_cons_succ] at m0 m1 m2 m3 x0 x1 x2 x3
      have c0 := hs.cell 0
      have c1 := hs.cell 1
      have c2 := hs.cell 2
      have c3 := hs.cell 3
      have z0 := hr.cell 0
      have z1 := hr.cell 1
      have z2 := hr.cell 2
      have z3 := hr.cell 3
      have f0 := hr.free 0
      have f1 := hr.free 1
      have f2 := hr.free 2
      have f3 := hr.free 3
      simp only [List.getElem?_toArray, List.getElem?_cons_zero, List.getElem?_cons_succ] at c0 c1 c2 c3 z0 z1 z2 z3
      have hf := put_sb hr1 (.int .i64 5) (.string us) (.slice A N cap) (.string tx)
      have r0 := hf.cell 0
      have r1 := hf.cell 1
      have r2 := hf.cell 2
      have r3 := hf.cell 3
      simp only [List.getElem?_toArray, List.getElem?_cons_zero, List.getElem?_cons_succ] at r0 r1 r2 r3
      clear hs hr hs1 hr1 hf
      go_wp2
      refine bodyPost_ret (v := .tuple #[.agg #[.int .i64 5, .string us, .slice A N cap, .string tx], .int .i64 354]) (by simp [results, Tryz.results50, go_sem, r0, r1, r2, r3]) rfl ?_
      rw [HE.out]
      exact ⟨_, _, _, rfl, (HI2.out.set (R := w.heap.size) (j := 0) (fun q e => by have := HI.out.lt q e; omega) (.int .i64 5)).set4 HNE.out _ _ _ _, Fr.same _ _, below_set4 (HB2.out.setCell (p := ⟨w.heap.size, 0, none⟩) (Nat.le_refl _) _) (by omega) _ _ _ _⟩
    ·
      have HE : Hid (lineF ⟨st, us, T, tx⟩ L d l u ok = (⟨st, us, T, tx⟩, 503)) := Lib.hid ((lineF_c HN6.out HN5.out HG.out HNEHLO.out HNAUTH.out HNMAIL.out HNRCPT.out).trans (by unfold cmdF; rw [if_pos hDATA]; simp only; rw [if_neg h4]))
      have h4' : (st == 4) = false := beq_eq_false_iff_ne.2 h4
      have hlit : l.toList = [68, 65, 84, 65] := by rw [hDATA, ByteArray.toList_eq]; rfl
      clear hDATA h4
      go_enter Tryz.func50, Tryz.ntmps50
      go_wp2_with fail
      refine (spec_cutw l _ hl).mono ?_
      rintro e w2 ⟨gw, Nw, capw, rfl, hw, hb2⟩
      have HW2 := Lib.hid hw
      have HS2 := Lib.hid (HS.out.below hb2 HS.out.lt)
      have HR2 := Lib.hid (HR.out.below hb2 HR.out.lt)
      have HB2 := Lib.hid (HB.out.trans (hb2.mono HB.out.size))
      have HL2 := Lib.hid (HLL.out.below hb2 (Nat.le_refl _))
      have HI2 := Lib.hid (HI.out.below HB2.out (Nat.le_refl _))
      have HZ2 : Hid (w.heap.size + 1 < w2.heap.size) := Lib.hid HR2.out.lt
      have HN2 : Hid (w.heap.size ≤ w2.heap.size) := Lib.hid HB2.out.size
      clear hb2 hw c0 c1 c2 c3 z0 z1 z2 z3 f0 f1 f2 f3
      have hs := HS2.out
      have c0 := hs.cell 0
      have c1 := hs.cell 1
      have c2 := hs.cell 2
      have c3 := hs.cell 3
      simp only [List.getElem?_toArray, List.getElem?_cons_zero, List.getElem?_cons_succ] at c0 c1 c2 c3
      clear hs
      obtain ⟨b, o, hA', hbb, k0⟩ := str_at HW2.out.2 HX.out
      cases hA'
      simp only [Nat.add_zero] at k0
      have hNw : (0 : Int) < (Nw : Int) := by have := (wdsF_len l).1; have h2 := HW2.out.1; omega
      clear hbb
      have hs := HS2.out
      have hr := HR2.out
      have c0 := hs.cell 0
      have c1 := hs.cell 1
      have c2 := hs.cell 2
      have c3 := hs.cell 3
      have z0 := hr.cell 0
      have z1 := hr.cell 1
      have z2 := hr.cell 2
      have z3 := hr.cell 3
      have f0 := hr.free 0
      have f1 := hr.free 1
      have f2 := hr.free 2
      have f3 := hr.free 3
      simp only [List.getElem?_toArray, List.getElem?_cons_zero, List.getElem?_cons_succ] at c0 c1 c2 c3 z0 z1 z2 z3
      have hf := put_sb hr (.int .i64 st) (.string us) (.slice A N cap) (.string tx)
      have r0 := hf.cell 0
      have r1 := hf.cell 1
      have r2 := hf.cell 2
      have r3 := hf.cell 3
      simp only [List.getElem?_toArray, List.getElem?_cons_zero, List.getElem?_cons_succ] at r0 r1 r2 r3
      clear hs hr hf
      go_wp2
      refine bodyPost_ret (v := .tuple #[.agg #[.int .i64 st, .string us, .slice A N cap, .string tx], .int .i64 503]) (by simp [results, Tryz.results50, go_sem, r0, r1, r2, r3]) rfl ?_
      rw [HE.out]
      exact ⟨_, _, _, rfl, HI2.out.set4 HNE.out _ _ _ _, Fr.same _ _, below_set4 HB2.out (by omega) _ _ _ _⟩
  obtain ⟨vd1, vd2, vd3⟩ := lit_walk (xs := [68, 65, 84, 65]) rfl hDATA
  by_cases hRSET : l = wRSET
  ·
    obtain ⟨s1, hs1⟩ : ∃ s1, backF ⟨st, us, T, tx⟩ = s1 := ⟨_, rfl⟩
    have HE : Hid (lineF ⟨st, us, T, tx⟩ L d l u ok = (s1, 250)) := Lib.hid ((lineF_c HN6.out HN5.out HG.out HNEHLO.out HNAUTH.out HNMAIL.out HNRCPT.out).trans (by unfold cmdF; rw [if_neg hDATA, if_pos hRSET, hs1]))
    have hlit : l.toList = [82, 83, 69, 84] := by rw [hRSET, ByteArray.toList_eq]; rfl
    obtain ⟨st1, us1, T1, tx1⟩ := s1
    have HS1 := Lib.hid hs1
    clear hRSET hDATA hs1
    go_enter Tryz.func50, Tryz.ntmps50
    go_wp2_with fail
    refine (spec_cutw l _ hl).mono ?_
    rintro e w2 ⟨gw, Nw, capw, rfl, hw, hb2⟩
    have HW2 := Lib.hid hw
    have HS2 := Lib.hid (HS.out.below hb2 HS.out.lt)
    have HR2 := Lib.hid (HR.out.below hb2 HR.out.lt)
    have HB2 := Lib.hid (HB.out.trans (hb2.mono HB.out.size))
    have HL2 := Lib.hid (HLL.out.below hb2 (Nat.le_refl _))
    have HI2 := Lib.hid (HI.out.below HB2.out (Nat.le_refl _))
    have HZ2 : Hid (w.heap.size + 1 < w2.heap.size) := Lib.hid HR2.out.lt
    have HN2 : Hid (w.heap.size ≤ w2.heap.size) := Lib.hid HB2.out.size
    clear hb2 hw c0 c1 c2 c3 z0 z1 z2 z3 f0 f1 f2 f3
    have hs := HS2.out
    have c0 := hs.cell 0
    have c1 := hs.cell 1
    have c2 := hs.cell 2
    have c3 := hs.cell 3
    simp only [List.getElem?_toArray, List.getElem?_cons_zero, List.getElem?_cons_succ] at c0 c1 c2 c3
    clear hs
    obtain ⟨b, o, hA', hbb, k0⟩ := str_at HW2.out.2 HX.out
    cases hA'
    simp only [Nat.add_zero] at k0
    have hNw : (0 : Int) < (Nw : Int) := by have := (wdsF_len l).1; have h2 := HW2.out.1; omega
    clear hbb
    go_wp2_with fail
    refine (sback_at HS1.out _).mono ?_
    rintro e w3 ⟨A3, N3, cap3, rfl, hI3, hF3, hb3⟩
    have HI3 := Lib.hid hI3
    have HF3 := Lib.hid hF3
    have HS3 := Lib.hid (HS2.out.below hb3 HS2.out.lt)
    have HR3 := Lib.hid (HR2.out.below hb3 HR2.out.lt)
    have HB3 := Lib.hid (HB2.out.trans (hb3.mono HB2.out.size))
    clear hI3 hF3 hb3 c0 c1 c2 c3
    try clear k0
    have hs := HS3.out
    have hr := HR3.out
    have c0 := hs.cell 0
    have c1 := hs.cell 1
    have c2 := hs.cell 2
    have c3 := hs.cell 3
    have z0 := hr.cell 0
    have z1 := hr.cell 1
    have z2 := hr.cell 2
    have z3 := hr.cell 3
    have f0 := hr.free 0
    have f1 := hr.free 1
    have f2 := hr.free 2
    have f3 := hr.free 3
    simp only [List.getElem?_toArray, List.getElem?_cons_zero, List.getElem?_cons_succ] at c0 c1 c2 c3 z0 z1 z2 z3
    have hf := put_sb hr (.int .i64 st1) (.string us1) (.slice A3 N3 cap3) (.string tx1)
    have r0 := hf.cell 0
    have r1 := hf.cell 1
    have r2 := hf.cell 2
    have r3 := hf.cell 3
    simp only [List.getElem?_toArray, List.getElem?_cons_zero, List.getElem?_cons_succ] at r0 r1 r2 r3
    clear hs hr hf
    go_wp2
    refine bodyPost_ret (v := .tuple #[.agg #[.int .i64 st1, .string us1, .slice A3 N3 cap3, .string tx1], .int .i64 250]) (by simp [results, Tryz.results50, go_sem, r0, r1, r2, r3]) rfl ?_
    rw [HE.out]
    exact ⟨_, _, _, rfl, HI3.out.set4 (fun q e => by
        rcases HF3.out q e with ⟨p, hp, hq⟩ | hq
        · have := HI.out.lt p hp; omega
        · have := HZ2.out; omega) _ _ _ _, (HF3.out.from HN2.out), below_set4 HB3.out (by omega) _ _ _ _⟩
  obtain ⟨vr1, vr2, vr3⟩ := lit_walk (xs := [82, 83, 69, 84]) rfl hRSET
  by_cases hNOOP : l = wNOOP
  ·
    have HE : Hid (lineF ⟨st, us, T, tx⟩ L d l u ok = (⟨st, us, T, tx⟩, 250)) := Lib.hid ((lineF_c HN6.out HN5.out HG.out HNEHLO.out HNAUTH.out HNMAIL.out HNRCPT.out).trans (by unfold cmdF; rw [if_neg hDATA, if_neg hRSET, if_pos hNOOP]))
    have hlit : l.toList = [78, 79, 79, 80] := by rw [hNOOP, ByteArray.toList_eq]; rfl
    clear hRSET hDATA hNOOP
    go_enter Tryz.func50, Tryz.ntmps50
    go_wp2_with fail
    refine (spec_cutw l _ hl).mono ?_
    rintro e w2 ⟨gw, Nw, capw, rfl, hw, hb2⟩
    have HW2 := Lib.hid hw
    have HS2 := Lib.hid (HS.out.below hb2 HS.out.lt)
    have HR2 := Lib.hid (HR.out.below hb2 HR.out.lt)
    have HB2 := Lib.hid (HB.out.trans (hb2.mono HB.out.size))
    have HL2 := Lib.hid (HLL.out.below hb2 (Nat.le_refl _))
    have HI2 := Lib.hid (HI.out.below HB2.out (Nat.le_refl _))
    have HZ2 : Hid (w.heap.size + 1 < w2.heap.size) := Lib.hid HR2.out.lt
    have HN2 : Hid (w.heap.size ≤ w2.heap.size) := Lib.hid HB2.out.size
    clear hb2 hw c0 c1 c2 c3 z0 z1 z2 z3 f0 f1 f2 f3
    have hs := HS2.out
    have c0 := hs.cell 0
    have c1 := hs.cell 1
    have c2 := hs.cell 2
    have c3 := hs.cell 3
    simp only [List.getElem?_toArray, List.getElem?_cons_zero, List.getElem?_cons_succ] at c0 c1 c2 c3
    clear hs
    obtain ⟨b, o, hA', hbb, k0⟩ := str_at HW2.out.2 HX.out
    cases hA'
    simp only [Nat.add_zero] at k0
    have hNw : (0 : Int) < (Nw : Int) := by have := (wdsF_len l).1; have h2 := HW2.out.1; omega
    clear hbb
    have hs := HS2.out
    have hr := HR2.out
    have c0 := hs.cell 0
    have c1 := hs.cell 1
    have c2 := hs.cell 2
    have c3 := hs.cell 3
    have z0 := hr.cell 0
    have z1 := hr.cell 1
    have z2 := hr.cell 2
    have z3 := hr.cell 3
    have f0 := hr.free 0
    have f1 := hr.free 1
    have f2 := hr.free 2
    have f3 := hr.free 3
    simp only [List.getElem?_toArray, List.getElem?_cons_zero, List.getElem?_cons_succ] at c0 c1 c2 c3 z0 z1 z2 z3
    have hf := put_sb hr (.int .i64 st) (.string us) (.slice A N cap) (.string tx)
    have r0 := hf.cell 0
    have r1 := hf.cell 1
    have r2 := hf.cell 2
    have r3 := hf.cell 3
    simp only [List.getElem?_toArray, List.getElem?_cons_zero, List.getElem?_cons_succ] at r0 r1 r2 r3
    clear hs hr hf
    go_wp2
    refine bodyPost_ret (v := .tuple #[.agg #[.int .i64 st, .string us, .slice A N cap, .string tx], .int .i64 250]) (by simp [results, Tryz.results50, go_sem, r0, r1, r2, r3]) rfl ?_
    rw [HE.out]
    exact ⟨_, _, _, rfl, HI2.out.set4 HNE.out _ _ _ _, Fr.same _ _, below_set4 HB2.out (by omega) _ _ _ _⟩
  obtain ⟨vn1, vn2, vn3⟩ := lit_walk (xs := [78, 79, 79, 80]) rfl hNOOP
  by_cases hQUIT : l = wQUIT
  ·
    have HE : Hid (lineF ⟨st, us, T, tx⟩ L d l u ok = (quitS, 221)) := Lib.hid ((lineF_c HN6.out HN5.out HG.out HNEHLO.out HNAUTH.out HNMAIL.out HNRCPT.out).trans (by unfold cmdF; rw [if_neg hDATA, if_neg hRSET, if_neg hNOOP, if_pos hQUIT]))
    have hlit : l.toList = [81, 85, 73, 84] := by rw [hQUIT, ByteArray.toList_eq]; rfl
    clear hRSET hDATA hNOOP hQUIT
    go_enter Tryz.func50, Tryz.ntmps50
    go_wp2_with fail
    refine (spec_cutw l _ hl).mono ?_
    rintro e w2 ⟨gw, Nw, capw, rfl, hw, hb2⟩
    have HW2 := Lib.hid hw
    have HS2 := Lib.hid (HS.out.below hb2 HS.out.lt)
    have HR2 := Lib.hid (HR.out.below hb2 HR.out.lt)
    have HB2 := Lib.hid (HB.out.trans (hb2.mono HB.out.size))
    have HL2 := Lib.hid (HLL.out.below hb2 (Nat.le_refl _))
    have HI2 := Lib.hid (HI.out.below HB2.out (Nat.le_refl _))
    have HZ2 : Hid (w.heap.size + 1 < w2.heap.size) := Lib.hid HR2.out.lt
    have HN2 : Hid (w.heap.size ≤ w2.heap.size) := Lib.hid HB2.out.size
    clear hb2 hw c0 c1 c2 c3 z0 z1 z2 z3 f0 f1 f2 f3
    have hs := HS2.out
    have c0 := hs.cell 0
    have c1 := hs.cell 1
    have c2 := hs.cell 2
    have c3 := hs.cell 3
    simp only [List.getElem?_toArray, List.getElem?_cons_zero, List.getElem?_cons_succ] at c0 c1 c2 c3
    clear hs
    obtain ⟨b, o, hA', hbb, k0⟩ := str_at HW2.out.2 HX.out
    cases hA'
    simp only [Nat.add_zero] at k0
    have hNw : (0 : Int) < (Nw : Int) := by have := (wdsF_len l).1; have h2 := HW2.out.1; omega
    clear hbb
    have hr := HR2.out.alloc (.cells #[] 9)
    have z0 := hr.cell 0
    have z1 := hr.cell 1
    have z2 := hr.cell 2
    have z3 := hr.cell 3
    have f0 := hr.free 0
    have f1 := hr.free 1
    have f2 := hr.free 2
    have f3 := hr.free 3
    simp only [List.getElem?_toArray, List.getElem?_cons_zero, List.getElem?_cons_succ] at z0 z1 z2 z3
    have hf := put_sb hr (.int .i64 6) (.string ⟨#[]⟩) (.slice (some ⟨w2.heap.size, 0, none⟩) 0 0) (.string ⟨#[]⟩)
    have r0 := hf.cell 0
    have r1 := hf.cell 1
    have r2 := hf.cell 2
    have r3 := hf.cell 3
    simp only [List.getElem?_toArray, List.getElem?_cons_zero, List.getElem?_cons_succ] at r0 r1 r2 r3
    clear hr hf
    go_wp2
    refine bodyPost_ret (v := .tuple #[.agg #[.int .i64 6, .string ⟨#[]⟩, .slice (some ⟨w2.heap.size, 0, none⟩) 0 0, .string ⟨#[]⟩], .int .i64 221]) (by simp [results, Tryz.results50, go_sem, r0, r1, r2, r3]) rfl ?_
    rw [HE.out]
    exact ⟨_, _, _, rfl, SIn.new _ (by simp [World.setCell]), Fr.new HN2.out, below_set4 (HB2.out.alloc HB2.out.size _) (by omega) _ _ _ _⟩
  obtain ⟨vq1, vq2, vq3⟩ := lit_walk (xs := [81, 85, 73, 84]) rfl hQUIT
  have HE : Hid (lineF ⟨st, us, T, tx⟩ L d l u ok = (⟨st, us, T, tx⟩, 500)) := Lib.hid ((lineF_c HN6.out HN5.out HG.out HNEHLO.out HNAUTH.out HNMAIL.out HNRCPT.out).trans (by unfold cmdF; rw [if_neg hDATA, if_neg hRSET, if_neg hNOOP, if_neg hQUIT]))
  clear hRSET hDATA hNOOP hQUIT
  go_enter Tryz.func50, Tryz.ntmps50
  go_wp2_with fail
  refine (spec_cutw l _ hl).mono ?_
  rintro e w2 ⟨gw, Nw, capw, rfl, hw, hb2⟩
  have HW2 := Lib.hid hw
  have HS2 := Lib.hid (HS.out.below hb2 HS.out.lt)
  have HR2 := Lib.hid (HR.out.below hb2 HR.out.lt)
  have HB2 := Lib.hid (HB.out.trans (hb2.mono HB.out.size))
  have HL2 := Lib.hid (HLL.out.below hb2 (Nat.le_refl _))
  have HI2 := Lib.hid (HI.out.below HB2.out (Nat.le_refl _))
  have HZ2 : Hid (w.heap.size + 1 < w2.heap.size) := Lib.hid HR2.out.lt
  have HN2 : Hid (w.heap.size ≤ w2.heap.size) := Lib.hid HB2.out.size
  clear hb2 hw c0 c1 c2 c3 z0 z1 z2 z3 f0 f1 f2 f3
  have hs := HS2.out
  have c0 := hs.cell 0
  have c1 := hs.cell 1
  have c2 := hs.cell 2
  have c3 := hs.cell 3
  simp only [List.getElem?_toArray, List.getElem?_cons_zero, List.getElem?_cons_succ] at c0 c1 c2 c3
  clear hs
  obtain ⟨b, o, hA', hbb, k0⟩ := str_at HW2.out.2 HX.out
  cases hA'
  simp only [Nat.add_zero] at k0
  have hNw : (0 : Int) < (Nw : Int) := by have := (wdsF_len l).1; have h2 := HW2.out.1; omega
  clear hbb
  have hs := HS2.out
  have hr := HR2.out
  have c0 := hs.cell 0
  have c1 := hs.cell 1
  have c2 := hs.cell 2
  have c3 := hs.cell 3
  have z0 := hr.cell 0
  have z1 := hr.cell 1
  have z2 := hr.cell 2
  have z3 := hr.cell 3
  have f0 := hr.free 0
  have f1 := hr.free 1
  have f2 := hr.free 2
  have f3 := hr.free 3
  simp only [List.getElem?_toArray, List.getElem?_cons_zero, List.getElem?_cons_succ] at c0 c1 c2 c3 z0 z1 z2 z3
  have hf := put_sb hr (.int .i64 st) (.string us) (.slice A N cap) (.string tx)
  have r0 := hf.cell 0
  have r1 := hf.cell 1
  have r2 := hf.cell 2
  have r3 := hf.cell 3
  simp only [List.getElem?_toArray, List.getElem?_cons_zero, List.getElem?_cons_succ] at r0 r1 r2 r3
  clear hs hr hf
  go_wp2
  refine bodyPost_ret (v := .tuple #[.agg #[.int .i64 st, .string us, .slice A N cap, .string tx], .int .i64 500]) (by simp [results, Tryz.results50, go_sem, r0, r1, r2, r3]) rfl ?_
  rw [HE.out]
  exact ⟨_, _, _, rfl, HI2.out.set4 HNE.out _ _ _ _, Fr.same _ _, below_set4 HB2.out (by omega) _ _ _ _⟩
end Go.Proofs.YtichajalinkcdaaGreatDoor
namespace Go.Proofs.YtichajalinkcdaaGreatDoor
open Go.RowKit
set_option linter.unusedVariables false


/-- What SubmissionLine does. -/
def lineV (s : Sb) (L : List Us) (d l u : ByteArray) (o : Bool) : Sb × Int := if (sbV s && (vU L && domB (kb d))) = true then lineF s L d l u o else (⟨0, eB, [], eB⟩, -1)
theorem lineV_1 {s : Sb} {L : List Us} {d l u : ByteArray} {o : Bool} (h : sbV s = false) : lineV s L d l u o = (⟨0, eB, [], eB⟩, -1) := by unfold lineV; rw [h]; rfl
theorem lineV_2 {s : Sb} {L : List Us} {d l u : ByteArray} {o : Bool} (h : vU L = false) : lineV s L d l u o = (⟨0, eB, [], eB⟩, -1) := by unfold lineV; rw [h]; simp
theorem lineV_3 {s : Sb} {L : List Us} {d l u : ByteArray} {o : Bool} (h : domB (kb d) = false) : lineV s L d l u o = (⟨0, eB, [], eB⟩, -1) := by unfold lineV; rw [h]; simp
theorem lineV_4 {s : Sb} {L : List Us} {d l u : ByteArray} {o : Bool} (h1 : sbV s = true) (h2 : vU L = true) (h3 : domB (kb d) = true) : lineV s L d l u o = lineF s L d l u o := by unfold lineV; rw [h1, h2, h3]; rfl
/-- A submission of the call's own, and a reply. -/
def GiveL (w : World) (r : Sb × Int) (e : Ending) (w' : World) : Prop :=
  ∃ A N cap, e = .returned (.tuple #[.agg #[.int .i64 r.1.st, .string r.1.us, .slice A N cap, .string r.1.tx], .int .i64 r.2]) ∧ ROwn stR w' w.heap.size (.slice A N cap) r.1.to ∧ Below w.heap.size w w'
theorem own_set4 {w : World} {B R N cap : Nat} {A : Option Addr} {T : List ByteArray} (h : ROwn stR w B (.slice A N cap) T) (hne : ∀ q, A = some q → q.block ≠ R) (a b c d : Value) : ROwn stR ((((w.setCell ⟨R, 0, none⟩ a).setCell ⟨R, 1, none⟩ b).setCell ⟨R, 2, none⟩ c).setCell ⟨R, 3, none⟩ d) B (.slice A N cap) T := by
  have hb : (Value.slice A N cap).ownBlock ≠ some R := fun e => by
    cases A with
    | none => cases e
    | some q =>
      obtain ⟨b, o, sp⟩ := q
      have h1 := hne _ rfl
      rcases h.2 with ⟨he, _⟩ | ⟨g, c, cur, he, _⟩
      · cases he
      · cases he; cases e; exact h1 rfl
  exact (((h.store (p := ⟨R, 0, none⟩) hb _).store (p := ⟨R, 1, none⟩) hb _).store (p := ⟨R, 2, none⟩) hb _).store (p := ⟨R, 3, none⟩) hb _
theorem suv_at {A : Option Addr} {N cap : Nat} {L : List Us} {z : Bool} (h : vU L = z) (w : World) (hi : UIn w A N cap L) : Calls Tryz.prog 48 #[.slice A N cap] w (SayB w z) := spec_uv h w hi

set_option maxRecDepth 20000 in
set_option maxHeartbeats 8000000 in
theorem spec_subline (st : Int) (us tx d l u : ByteArray) (ok : Bool) (T : List ByteArray) (L : List Us) (A AU : Option Addr) (N cap NU cU : Nat) (w : World) (h : SIn w A N cap T) (hL : UIn w AU NU cU L) (hu : us.size ≤ 16777216) (hd : d.size ≤ 16777216) (hl : l.size ≤ 2097152) (hup : (wdsF l).length = 3 → IsUp L ((wdsF l).getD 2 eB) u ok) : Calls Tryz.prog 23 #[.agg #[.int .i64 st, .string us, .slice A N cap, .string tx], .slice AU NU cU, .string d, .string l] w (GiveL w (lineV ⟨st, us, T, tx⟩ L d l u ok)) := by
  have HLL := Lib.hid (hL.below (two_made w #[.int .i64 st, .string us, .slice A N cap, .string tx] #[.int .i64 0, .string ⟨#[]⟩, .slice none 0 0, .string ⟨#[]⟩]).2.2 (Nat.le_refl _))
  have HUP := Lib.hid hup
  clear hL hup
  have HI := Lib.hid h
  obtain ⟨hs, hr, hB⟩ := two_made w #[.int .i64 st, .string us, .slice A N cap, .string tx] #[.int .i64 0, .string ⟨#[]⟩, .slice none 0 0, .string ⟨#[]⟩]
  have c0 := hs.cell 0
  have c1 := hs.cell 1
  have c2 := hs.cell 2
  have c3 := hs.cell 3
  have z0 := hr.cell 0
  have z1 := hr.cell 1
  have z2 := hr.cell 2
  have z3 := hr.cell 3
  have f0 := hr.free 0
  have f1 := hr.free 1
  have f2 := hr.free 2
  have f3 := hr.free 3
  simp only [List.getElem?_toArray, List.getElem?_cons_zero, List.getElem?_cons_succ] at c0 c1 c2 c3 z0 z1 z2 z3
  have HS := Lib.hid hs
  have HR := Lib.hid hr
  have HB := Lib.hid hB
  clear h hs hr hB
  have HIR := Lib.hid (HI.out.below HB.out (Nat.le_refl _))
  cases hv : sbV ⟨st, us, T, tx⟩ with
  | false =>
    have HV := Lib.hid hv
    have HE : Hid (lineV ⟨st, us, T, tx⟩ L d l u ok = (⟨0, eB, [], eB⟩, -1)) := Lib.hid (lineV_1 hv)
    clear hv
    go_enter Tryz.func23, Tryz.ntmps23
    go_wp2_with fail
    refine (ssub_at HV.out _ HIR.out hu).mono ?_
    rintro e w2 ⟨rfl, hb⟩
    have HS2 := Lib.hid (HS.out.below hb HS.out.lt)
    have HR2 := Lib.hid (HR.out.below hb HR.out.lt)
    have HB2 := Lib.hid (HB.out.trans (hb.mono HB.out.size))
    have HL2 := Lib.hid (HLL.out.below hb (Nat.le_refl _))
    have HI2 := Lib.hid (HIR.out.below hb (Nat.le_refl _))
    clear hb
    clear c0 c1 c2 c3 z0 z1 z2 z3 f0 f1 f2 f3
    have hr := HR2.out
    have z0 := hr.cell 0
    have z1 := hr.cell 1
    have z2 := hr.cell 2
    have z3 := hr.cell 3
    have f0 := hr.free 0
    have f1 := hr.free 1
    have f2 := hr.free 2
    have f3 := hr.free 3
    simp only [List.getElem?_toArray, List.getElem?_cons_zero, List.getElem?_cons_succ] at z0 z1 z2 z3
    have hf := put_sb hr (.int .i64 0) (.string ⟨#[]⟩) (.slice none 0 0) (.string ⟨#[]⟩)
    have r0 := hf.cell 0
    have r1 := hf.cell 1
    have r2 := hf.cell 2
    have r3 := hf.cell 3
    simp only [List.getElem?_toArray, List.getElem?_cons_zero, List.getElem?_cons_succ] at r0 r1 r2 r3
    clear hr hf
    go_wp2
    refine bodyPost_ret (v := .tuple #[.agg #[.int .i64 0, .string ⟨#[]⟩, .slice none 0 0, .string ⟨#[]⟩], .int .i64 (-1)]) (by simp [results, Tryz.results23, go_sem, r0, r1, r2, r3]) rfl ?_
    rw [HE.out]
    exact ⟨_, _, _, rfl, ROwn.nil _ _, below_set4 HB2.out (by omega) _ _ _ _⟩
  | true =>
    have HV := Lib.hid hv
    obtain ⟨-, hT3, -, ht21, -⟩ := sbV_has hv
    simp only at hT3 ht21
    clear hv
    cases hvu : vU L with
    | false =>
      have HVU := Lib.hid hvu
      have HE : Hid (lineV ⟨st, us, T, tx⟩ L d l u ok = (⟨0, eB, [], eB⟩, -1)) := Lib.hid (lineV_2 hvu)
      clear hvu
      go_enter Tryz.func23, Tryz.ntmps23
      go_wp2_with fail
      refine (ssub_at HV.out _ HIR.out hu).mono ?_
      rintro e w2 ⟨rfl, hb⟩
      have HS2 := Lib.hid (HS.out.below hb HS.out.lt)
      have HR2 := Lib.hid (HR.out.below hb HR.out.lt)
      have HB2 := Lib.hid (HB.out.trans (hb.mono HB.out.size))
      have HL2 := Lib.hid (HLL.out.below hb (Nat.le_refl _))
      have HI2 := Lib.hid (HIR.out.below hb (Nat.le_refl _))
      clear hb
      clear c0 c1 c2 c3 z0 z1 z2 z3 f0 f1 f2 f3
      go_wp2_with fail
      refine (suv_at HVU.out _ HL2.out).mono ?_
      rintro e w3 ⟨rfl, hb⟩
      have HS3 := Lib.hid (HS2.out.below hb HS2.out.lt)
      have HR3 := Lib.hid (HR2.out.below hb HR2.out.lt)
      have HB3 := Lib.hid (HB2.out.trans (hb.mono HB2.out.size))
      have HL3 := Lib.hid (HL2.out.below hb (Nat.le_refl _))
      have HI3 := Lib.hid (HI2.out.below hb (Nat.le_refl _))
      clear hb
      have hr := HR3.out
      have z0 := hr.cell 0
      have z1 := hr.cell 1
      have z2 := hr.cell 2
      have z3 := hr.cell 3
      have f0 := hr.free 0
      have f1 := hr.free 1
      have f2 := hr.free 2
      have f3 := hr.free 3
      simp only [List.getElem?_toArray, List.getElem?_cons_zero, List.getElem?_cons_succ] at z0 z1 z2 z3
      have hf := put_sb hr (.int .i64 0) (.string ⟨#[]⟩) (.slice none 0 0) (.string ⟨#[]⟩)
      have r0 := hf.cell 0
      have r1 := hf.cell 1
      have r2 := hf.cell 2
      have r3 := hf.cell 3
      simp only [List.getElem?_toArray, List.getElem?_cons_zero, List.getElem?_cons_succ] at r0 r1 r2 r3
      clear hr hf
      go_wp2
      refine bodyPost_ret (v := .tuple #[.agg #[.int .i64 0, .string ⟨#[]⟩, .slice none 0 0, .string ⟨#[]⟩], .int .i64 (-1)]) (by simp [results, Tryz.results23, go_sem, r0, r1, r2, r3]) rfl ?_
      rw [HE.out]
      exact ⟨_, _, _, rfl, ROwn.nil _ _, below_set4 HB3.out (by omega) _ _ _ _⟩
    | true =>
      have HVU := Lib.hid hvu
      cases hvd : domB (kb d) with
      | false =>
        have HVD := Lib.hid hvd
        have HE : Hid (lineV ⟨st, us, T, tx⟩ L d l u ok = (⟨0, eB, [], eB⟩, -1)) := Lib.hid (lineV_3 hvd)
        clear hvd hvu
        go_enter Tryz.func23, Tryz.ntmps23
        go_wp2_with fail
        refine (ssub_at HV.out _ HIR.out hu).mono ?_
        rintro e w2 ⟨rfl, hb⟩
        have HS2 := Lib.hid (HS.out.below hb HS.out.lt)
        have HR2 := Lib.hid (HR.out.below hb HR.out.lt)
        have HB2 := Lib.hid (HB.out.trans (hb.mono HB.out.size))
        have HL2 := Lib.hid (HLL.out.below hb (Nat.le_refl _))
        have HI2 := Lib.hid (HIR.out.below hb (Nat.le_refl _))
        clear hb
        clear c0 c1 c2 c3 z0 z1 z2 z3 f0 f1 f2 f3
        go_wp2_with fail
        refine (suv_at HVU.out _ HL2.out).mono ?_
        rintro e w3 ⟨rfl, hb⟩
        have HS3 := Lib.hid (HS2.out.below hb HS2.out.lt)
        have HR3 := Lib.hid (HR2.out.below hb HR2.out.lt)
        have HB3 := Lib.hid (HB2.out.trans (hb.mono HB2.out.size))
        have HL3 := Lib.hid (HL2.out.below hb (Nat.le_refl _))
        have HI3 := Lib.hid (HI2.out.below hb (Nat.le_refl _))
        clear hb
        go_wp2_with fail
        refine (sdom_at HVD.out hd _).mono ?_
        rintro e w4 ⟨rfl, hb⟩
        have HS4 := Lib.hid (HS3.out.below hb HS3.out.lt)
        have HR4 := Lib.hid (HR3.out.below hb HR3.out.lt)
        have HB4 := Lib.hid (HB3.out.trans (hb.mono HB3.out.size))
        have HL4 := Lib.hid (HL3.out.below hb (Nat.le_refl _))
        have HI4 := Lib.hid (HI3.out.below hb (Nat.le_refl _))
        clear hb
        have hr := HR4.out
        have z0 := hr.cell 0
        have z1 := hr.cell 1
        have z2 := hr.cell 2
        have z3 := hr.cell 3
        have f0 := hr.free 0
        have f1 := hr.free 1
        have f2 := hr.free 2
        have f3 := hr.free 3
        simp only [List.getElem?_toArray, List.getElem?_cons_zero, List.getElem?_cons_succ] at z0 z1 z2 z3
        have hf := put_sb hr (.int .i64 0) (.string ⟨#[]⟩) (.slice none 0 0) (.string ⟨#[]⟩)
        have r0 := hf.cell 0
        have r1 := hf.cell 1
        have r2 := hf.cell 2
        have r3 := hf.cell 3
        simp only [List.getElem?_toArray, List.getElem?_cons_zero, List.getElem?_cons_succ] at r0 r1 r2 r3
        clear hr hf
        go_wp2
        refine bodyPost_ret (v := .tuple #[.agg #[.int .i64 0, .string ⟨#[]⟩, .slice none 0 0, .string ⟨#[]⟩], .int .i64 (-1)]) (by simp [results, Tryz.results23, go_sem, r0, r1, r2, r3]) rfl ?_
        rw [HE.out]
        exact ⟨_, _, _, rfl, ROwn.nil _ _, below_set4 HB4.out (by omega) _ _ _ _⟩
      | true =>
        have HVD := Lib.hid hvd
        clear hvd hvu
        obtain ⟨⟨⟨st1, us1, T1, tx1⟩, n1⟩, hr⟩ : ∃ x, lineF ⟨st, us, T, tx⟩ L d l u ok = x := ⟨_, rfl⟩
        have HE := Lib.hid ((lineV_4 HV.out HVU.out HVD.out (l := l) (u := u) (o := ok)).trans hr)
        have HRR := Lib.hid hr
        clear hr
        obtain ⟨i0, hi0, hq0, hq1, hq2⟩ := info_parts Tryz.infoString
        go_enter Tryz.func23, Tryz.ntmps23
        go_wp2_with fail
        refine (ssub_at HV.out _ HIR.out hu).mono ?_
        rintro e w2 ⟨rfl, hb⟩
        have HS2 := Lib.hid (HS.out.below hb HS.out.lt)
        have HR2 := Lib.hid (HR.out.below hb HR.out.lt)
        have HB2 := Lib.hid (HB.out.trans (hb.mono HB.out.size))
        have HL2 := Lib.hid (HLL.out.below hb (Nat.le_refl _))
        have HI2 := Lib.hid (HIR.out.below hb (Nat.le_refl _))
        clear hb
        clear c0 c1 c2 c3 z0 z1 z2 z3 f0 f1 f2 f3
        go_wp2_with fail
        refine (suv_at HVU.out _ HL2.out).mono ?_
        rintro e w3 ⟨rfl, hb⟩
        have HS3 := Lib.hid (HS2.out.below hb HS2.out.lt)
        have HR3 := Lib.hid (HR2.out.below hb HR2.out.lt)
        have HB3 := Lib.hid (HB2.out.trans (hb.mono HB2.out.size))
        have HL3 := Lib.hid (HL2.out.below hb (Nat.le_refl _))
        have HI3 := Lib.hid (HI2.out.below hb (Nat.le_refl _))
        clear hb
        go_wp2_with fail
        refine (sdom_at HVD.out hd _).mono ?_
        rintro e w4 ⟨rfl, hb⟩
        have HS4 := Lib.hid (HS3.out.below hb HS3.out.lt)
        have HR4 := Lib.hid (HR3.out.below hb HR3.out.lt)
        have HB4 := Lib.hid (HB3.out.trans (hb.mono HB3.out.size))
        have HL4 := Lib.hid (HL3.out.below hb (Nat.le_refl _))
        have HI4 := Lib.hid (HI3.out.below hb (Nat.le_refl _))
        clear hb
        have hs := HS4.out
        have c0 := hs.cell 0
        have c1 := hs.cell 1
        have c2 := hs.cell 2
        have c3 := hs.cell 3
        simp only [List.getElem?_toArray, List.getElem?_cons_zero, List.getElem?_cons_succ] at c0 c1 c2 c3
        clear hs
        have HC := Lib.hid (spec_line st us tx d l u ok T L A AU N cap NU cU w4 HI4.out HL4.out hl ht21 (by omega) HUP.out)
        rw [HRR.out] at HC
        go_wp2_with fail
        refine HC.out.mono ?_
        rintro e w5 ⟨A5, N5, cap5, rfl, hI5, hF5, hb⟩
        have HI5 := Lib.hid hI5
        have HR5 := Lib.hid (HR4.out.below hb HR4.out.lt)
        have HB5 := Lib.hid (HB4.out.trans (hb.mono HB4.out.size))
        have HT5 := Lib.hid hI5.1
        have hN5 : N5 ≤ 4194304 := hI5.2.1
        clear hI5 hF5 hb c0 c1 c2 c3 HC HS HR HB
        have HBX := Lib.hid (HB5.out.alloc HB5.out.size (.cells #[.int .i64 st1, .string us1, .slice A5 N5 cap5, .string tx1] 25))
        have HRX := Lib.hid (HR5.out.alloc (.cells #[.int .i64 st1, .string us1, .slice A5 N5 cap5, .string tx1] 25))
        have HX := Lib.hid (Whole.made w5 25 #[.int .i64 st1, .string us1, .slice A5 N5 cap5, .string tx1])
        have HIX := Lib.hid (HI5.out.below (below_new' w5 (.cells #[.int .i64 st1, .string us1, .slice A5 N5 cap5, .string tx1] 25)) (Nat.le_refl _))
        have HBY := Lib.hid (HBX.out.alloc HBX.out.size (.cells #[] 9))
        have HRY := Lib.hid (HRX.out.alloc (.cells #[] 9))
        have HXY := Lib.hid (HX.out.alloc (.cells #[] 9))
        have HIY := Lib.hid (HIX.out.below (below_new' _ (.cells #[] 9)) (Nat.le_refl _))
        have HOY := Lib.hid (ROwn.lit (R := stR) (B := w.heap.size) (w5.alloc (.cells #[.int .i64 st1, .string us1, .slice A5 N5 cap5, .string tx1] 25)) (w5.heap.size + 1) (by have := HBX.out.size; exact this) (by simp))
        have x0 := HXY.out.cell 0
        have x1 := HXY.out.cell 1
        have x2 := HXY.out.cell 2
        have x3 := HXY.out.cell 3
        simp only [List.getElem?_toArray, List.getElem?_cons_zero, List.getElem?_cons_succ] at x0 x1 x2 x3
        have hml : 0 + N5 ≤ maxLen := by unfold maxLen; omega
        have hby : (0 + N5) * 16 ≤ 140737488355328 := by omega
        have hba := HBY.out.size
        have HRlt : Hid (w.heap.size + 1 < w5.heap.size) := Lib.hid HR5.out.lt
        go_wp2_with (at_builtin; refine wpList_append_rows rfl (.tmp 34) (.tmp 36) 23 rfl stR w.heap.size i0 _ 16 Tryz.underlying23 hi0 hq0 hq1 hq2 rfl (by decide) _ [] T1 0 rfl rfl HOY.out A5 N5 cap5 rfl HT5.out HIY.out.2.2.1 HI5.out.2.2.2.1 HI5.out.2.2.2.2.1 hml hby hba ?_)
        intro v' w8 hown hgrow hnn
        obtain ⟨A8, N8, cap8, rfl⟩ := hown.val
        have HO8 := Lib.hid hown
        have HR8 := Lib.hid (HRY.out.grown hgrow (fun e => by have h1 := HRlt.out; have h2 := Option.some.inj (show some (w.heap.size + 1) = some (w5.heap.size + 1) from e); omega))
        have HX8 := Lib.hid (HXY.out.grown hgrow (fun e => by have h2 := Option.some.inj (show some w5.heap.size = some (w5.heap.size + 1) from e); omega))
        have HB8 := Lib.hid (below_far HBY.out hgrow (fun g e => by have h1 := HB5.out.size; have h2 := Option.some.inj (show some (w5.heap.size + 1) = some g from e); omega))
        have hOne : (Value.slice A8 N8 cap8).ownBlock ≠ some w5.heap.size ∧ (Value.slice A8 N8 cap8).ownBlock ≠ some (w.heap.size + 1) := ⟨HO8.out.whole HX8.out (by decide), HO8.out.whole HR8.out (by decide)⟩
        have HON := Lib.hid hOne
        have hx1 : Whole (w8.setCell ⟨w5.heap.size, 2, none⟩ (.slice A8 N8 cap8)) w5.heap.size 25 #[.int .i64 st1, .string us1, .slice A8 N8 cap8, .string tx1] := HX8.out.store 2 _
        have hr1 := HR8.out.apart (p := ⟨w5.heap.size, 2, none⟩) (show w.heap.size + 1 ≠ w5.heap.size by have := HRlt.out; omega) (.slice A8 N8 cap8)
        have k2 := HX8.out.cell 2
        have kf := HX8.out.free 2
        simp only [List.getElem?_toArray, List.getElem?_cons_zero, List.getElem?_cons_succ] at k2
        have m0 := hx1.cell 0
        have m1 := hx1.cell 1
        have m2 := hx1.cell 2
        have m3 := hx1.cell 3
        have z0 := hr1.cell 0
        have z1 := hr1.cell 1
        have z2 := hr1.cell 2
        have z3 := hr1.cell 3
        have f0 := hr1.free 0
        have f1 := hr1.free 1
        have f2 := hr1.free 2
        have f3 := hr1.free 3
        simp only [List.getElem?_toArray, List.getElem?_cons_zero, List.getElem?_cons_succ] at m0 m1 m2 m3 z0 z1 z2 z3
        have hf := put_sb hr1 (.int .i64 st1) (.string us1) (.slice A8 N8 cap8) (.string tx1)
        have r0 := hf.cell 0
        have r1 := hf.cell 1
        have r2 := hf.cell 2
        have r3 := hf.cell 3
        simp only [List.getElem?_toArray, List.getElem?_cons_zero, List.getElem?_cons_succ] at r0 r1 r2 r3
        clear hown hgrow hnn hOne hx1 hr1 hf x0 x1 x2 x3
        go_wp2
        refine bodyPost_ret (v := .tuple #[.agg #[.int .i64 st1, .string us1, .slice A8 N8 cap8, .string tx1], .int .i64 n1]) (by simp [results, Tryz.results23, go_sem, r0, r1, r2, r3]) rfl ?_
        rw [HE.out]
        have ho1 := HO8.out.store (p := ⟨w5.heap.size, 2, none⟩) HON.out.1 (.slice A8 N8 cap8)
        refine ⟨A8, N8, cap8, rfl, own_set4 ho1 (fun q e => ?_) _ _ _ _, below_set4 (HB8.out.setCell (p := ⟨w5.heap.size, 2, none⟩) (show w.heap.size ≤ w5.heap.size from HB5.out.size) _) (by omega) _ _ _ _⟩
        subst e
        intro hq
        have h1 := HON.out.2
        rcases HO8.out.2 with ⟨he, _⟩ | ⟨g, c, cur, he, _⟩
        · cases he
        · cases he
          exact h1 (by rw [← hq]; rfl)
end Go.Proofs.YtichajalinkcdaaGreatDoor
namespace Go.Proofs.YtichajalinkcdaaGreatDoor
open Go.RowKit
set_option linter.unusedVariables false

/-- A drawn text; the reader stands a few places further. -/
def Text2 (w : World) (b p : Nat) (e : Ending) (w' : World) : Prop := ∃ (s : ByteArray) (q : Nat), s.size ≤ 40 ∧ q ≤ p + 100 ∧ e = .returned (.string s) ∧ Rd w' b q ∧ w.grownBy w' (some b)
theorem own_picked {w w' : World} {B b n : Nat} {t : TypeId} {v : Value} {xs : List Value} (h : w.ownsRow B t 1 v n xs) (hg : w.grownBy w' (some b)) (hb : b < B) : w'.ownsRow B t 1 v n xs :=
  h.kept hg (by
    rcases h.2 with ⟨rfl, _⟩ | ⟨g, cap, cur, rfl, hB, _⟩
    · exact Or.inl rfl
    · exact Or.inr (by simp [Value.ownBlock]; omega))
theorem grow_own {w w1 w2 : World} {b : Nat} {row : Option Nat} (h : w.grownBy w1 (some b)) (hg : w1.grownBy w2 row) (hr : ∀ g, row = some g → w.heap.size ≤ g) : w.grownBy w2 (some b) :=
  ⟨hg.os.trans h.os, hg.tape.trans h.tape, hg.output.trans h.output, Nat.le_trans h.size hg.size, fun i hi hn => (hg.block i (Nat.lt_of_lt_of_le hi h.size) (fun e => by have := hr i e.symm; omega)).trans (h.block i hi hn)⟩

theorem Rd.kept_row {w w' : World} {b p : Nat} {row : Option Nat} (h : Rd w b p) (hg : w.grownBy w' row) (hb : ∀ g, row = some g → b < g) : Rd w' b p := by
  cases row with
  | none => exact h.below ⟨hg.os, hg.tape, hg.output, hg.size, fun k hk => hg.block k hk (by simp)⟩ h.lt
  | some g => exact h.grown hg (hb g rfl)
theorem of_new_drew (b p : Nat) (ls : List (List UInt8)) (w : World) (h : Rd w b p) (hp : p ≤ 1000000) (hn : 1 ≤ ls.length) (hn' : ls.length ≤ 1000000) (ha : ls.all (fun x => decide (x.length ≤ 30)) = true) :
    Calls Tryz.prog 67 #[.pointer (some ⟨b, 0, none⟩), .slice (some ⟨w.heap.size, 0, none⟩) ls.length ls.length] (w.alloc (.cells (ls.map str).toArray 9)).drew
      fun e w' => ∃ u : ByteArray, u.size ≤ 30 ∧ e = .returned (.string u) ∧ Rd w' b (p + 1) ∧ w.grownBy w' (some b) := by
  have hb := h.lt
  have hA := (Below.refl w.heap.size w).alloc (Nat.le_refl _) (.cells (ls.map str).toArray 9)
  refine (of_any b p w.heap.size ls.length ls _ (show Rd (w.alloc (.cells (ls.map str).toArray 9)).drew b p from (h.below hA hb : Rd (w.alloc (.cells (ls.map str).toArray 9)) b p)) hp hn hn' (by omega) (by simp) (fun j hj => ?_)).mono ?_
  · show (w.alloc (.cells (ls.map str).toArray 9)).cell? ⟨w.heap.size, j, none⟩ = _
    rw [(Whole.made w 9 (ls.map str).toArray).cell j, List.getElem?_toArray, List.getElem?_map, List.getD_eq_getElem?_getD, List.getElem?_eq_getElem hj]
    rfl
  · rintro e w' ⟨l, hl, he, hr, hg⟩
    exact ⟨_, text_le ha hl, he, hr, gr_trans (gr_drew (gr_alloc (gr_refl _ _) _)) hg⟩
theorem str_size (l : List UInt8) : (⟨l.toArray⟩ : ByteArray).size = l.length := rfl
end Go.Proofs.YtichajalinkcdaaGreatDoor
namespace Go.Proofs.YtichajalinkcdaaGreatDoor
open Go.RowKit
set_option linter.unusedVariables false

/-- Two drawn texts. -/
def DrewTwo (w : World) (e : Ending) (w' : World) : Prop := ∃ u p : ByteArray, u.size ≤ 30 ∧ p.size ≤ 30 ∧ e = .returned (.tuple #[.string u, .string p]) ∧ Below w.heap.size w w'
theorem two_cat (a b : ByteArray) (c d : UInt8) : ((⟨#[c, d]⟩ : ByteArray) ++ a ++ ⟨#[0]⟩ ++ b).size = a.size + b.size + 3 := by
  rw [ByteArray.size_append, ByteArray.size_append, ByteArray.size_append, one_size, two_size]
  omega
end Go.Proofs.YtichajalinkcdaaGreatDoor
namespace Go.Proofs.YtichajalinkcdaaGreatDoor
open Go.RowKit
set_option linter.unusedVariables false

theorem ROwn.front {α : Type} {R : RowT α} {w : World} {B g n cap k : Nat} {L : List α} (h : ROwn R w B (.slice (some ⟨g, 0, none⟩) n cap) L) (hk : k ≤ n) : ROwn R w B (.slice (some ⟨g, 0, none⟩) k cap) (L.take k) := by
  have hn := h.len.1
  have hkl : (L.take k).length = k := by rw [List.length_take]; omega
  rcases h.2 with ⟨he, _⟩ | ⟨g', c, cur, he, hB, hg, h1, h2, h3, h4⟩
  · cases he
  · cases he
    refine ⟨rcells_len R _, .inr ⟨g, cap, cur, by rw [hkl], hB, hg, by omega, h2, h3, ?_⟩⟩
    have e : (rcells R L).take (k * R.sz) = rcells R (L.take k) := by
      have e2 : rcells R L = rcells R (L.take k) ++ rcells R (L.drop k) := by rw [← rcells_app, List.take_append_drop]
      rw [e2, List.take_append_of_le_length (by rw [rcells_len, hkl]; exact Nat.le_refl _), List.take_of_length_le (by rw [rcells_len, hkl]; exact Nat.le_refl _)]
    rw [hkl, ← e, ← h4, List.take_take]
    congr 1
    have := Nat.mul_le_mul_right R.sz (show k ≤ L.length by omega)
    omega
/-- Drawn users, so far. -/
def DrU (w wr : World) (b q N : Nat) (v : Value) (L : List Us) : Prop := Rd wr b q ∧ ROwn usR wr w.heap.size v L ∧ w.grownBy wr (some b) ∧ (∀ g ∈ L, g.1.size ≤ 30 ∧ g.2.1.size ≤ 30) ∧ (1 ≤ N ∧ N ≤ 5) ∧ b < w.heap.size
theorem DrU.read {w wr w' : World} {b q q' N : Nat} {v : Value} {L : List Us} (h : DrU w wr b q N v L) (hr : Rd w' b q') (hg : wr.grownBy w' (some b)) : DrU w w' b q' N v L := ⟨hr, h.2.1.grown hg h.2.2.2.2.2, gr_trans h.2.2.1 hg, h.2.2.2⟩
theorem DrU.alloc {w wr : World} {b q N : Nat} {v : Value} {L : List Us} (h : DrU w wr b q N v L) (o : Obj) : DrU w (wr.alloc o) b q N v L := ⟨h.1.below ((Below.refl _ _).alloc (Nat.le_refl _) _) h.1.lt, h.2.1.alloc o, gr_alloc h.2.2.1 _, h.2.2.2⟩
theorem DrU.set {w wr : World} {b q N cap g k : Nat} {L : List Us} {x y : Us} {j : Nat} {u : Value} (h : DrU w wr b q N (.slice (some ⟨g, 0, none⟩) N cap) L) (hx : L[k]? = some x) (hj : j < 3) (hy : usR.enc y = (usR.enc x).set j u) (hs : y.1.size ≤ 30 ∧ y.2.1.size ≤ 30) :
    DrU w (wr.setCell ⟨g, k * 3 + j, none⟩ u) b q N (.slice (some ⟨g, 0, none⟩) N cap) (L.set k y) := by
  obtain ⟨h1, g1⟩ := h.2.1.stored (y := y) hx hj hy
  have hg : w.heap.size ≤ g := (World.ownsRow.lt h.2.1 g rfl).1
  refine ⟨rd_far h.1 g1 (fun z e => by cases e; exact Nat.lt_of_lt_of_le h.2.2.2.2.2 hg), h1, gr_far h.2.2.1 g1 (fun z e => by cases e; exact hg), fun z hz => ?_, h.2.2.2.2.1, h.2.2.2.2.2⟩
  rcases List.mem_or_eq_of_mem_set hz with h2 | h2
  · exact h.2.2.2.1 z h2
  · rw [h2]; exact hs
/-- Drawn users. -/
def DrewU (w : World) (b p : Nat) (e : Ending) (w' : World) : Prop := ∃ g N cap L q, e = .returned (.slice (some ⟨g, 0, none⟩) N cap) ∧ q ≤ p + 10 ∧ DrU w w' b q N (.slice (some ⟨g, 0, none⟩) N cap) L
def usL (y z : Nat) : List Us := [(⟨#[97, 109, 121]⟩, ⟨#[97, 49]⟩, 60), (⟨#[98, 111, 98]⟩, ⟨#[98, 50]⟩, 20 + (y : Int)), (⟨#[99, 121, 100]⟩, ⟨#[99, 51]⟩, 100 + (z : Int))]
theorem usL_size (y z : Nat) : ∀ g ∈ usL y z, g.1.size ≤ 30 ∧ g.2.1.size ≤ 30 := by
  intro g hg
  simp [usL] at hg
  rcases hg with rfl | rfl | rfl <;> exact ⟨Nat.le_of_ble_eq_true rfl, Nat.le_of_ble_eq_true rfl⟩
def usCells (y z : Int) : Array Value := #[.string ⟨#[97, 109, 121]⟩, .string ⟨#[97, 49]⟩, .int .i64 60, .string ⟨#[98, 111, 98]⟩, .string ⟨#[98, 50]⟩, .int .i64 (20 + y), .string ⟨#[99, 121, 100]⟩, .string ⟨#[99, 51]⟩, .int .i64 (100 + z)]
theorem usq_at {y : Nat} (h : y < 4) : ∃ z : Int, (#[Value.int .i64 (-1), .int .i64 0, .int .i64 200, .int .i64 201] : Array Value)[y]? = some (.int .i64 z) := by
  match y, h with
  | 0, _ => exact ⟨-1, rfl⟩
  | 1, _ => exact ⟨0, rfl⟩
  | 2, _ => exact ⟨200, rfl⟩
  | 3, _ => exact ⟨201, rfl⟩
set_option maxRecDepth 20000 in
set_option maxHeartbeats 8000000 in
theorem users_draw (b p : Nat) (w : World) (h : Rd w b p) (hp : p ≤ 800000) : Calls Tryz.prog 40 #[.pointer (some ⟨b, 0, none⟩)] w (DrewU w b p) := by
  obtain ⟨i0, hi, hq0, hq1, hq2⟩ := info_parts Tryz.infoUser
  have hbl := h.lt
  have HR0 := Lib.hid h
  clear h
  go_enter Tryz.func40, Tryz.ntmps40
  go_wp2_with fail
  refine (pick_any b p 60 w HR0.out (by omega) (by omega) (by omega)).mono ?_
  rintro e w1 ⟨y, hy, rfl, hr, hg⟩
  have HR1 := Lib.hid hr
  have HG1 := Lib.hid hg
  have W1 : IntKind.i64.wrap (20 + (y : Int)) = 20 + (y : Int) := IntWalk.i64_in _ (by omega)
  clear hr hg
  go_wp2_with fail
  refine (pick_any b (p + 1) 100 _ HR1.out (by omega) (by omega) (by omega)).mono ?_
  rintro e w2 ⟨z, hz, rfl, hr, hg⟩
  have W2 : IntKind.i64.wrap (100 + (z : Int)) = 100 + (z : Int) := IntWalk.i64_in _ (by omega)
  obtain ⟨S, hS⟩ : ∃ S, w2.heap.size = S := ⟨_, rfl⟩
  obtain ⟨wa, hwa⟩ : ∃ wa, w2.alloc (.cells #[.string ⟨#[97, 109, 121]⟩, .string ⟨#[97, 49]⟩, .int .i64 60, .string ⟨#[98, 111, 98]⟩, .string ⟨#[98, 50]⟩, .int .i64 (20 + (y : Int)), .string ⟨#[99, 121, 100]⟩, .string ⟨#[99, 51]⟩, .int .i64 (100 + (z : Int))] 35) = wa := ⟨_, rfl⟩
  have hgw := gr_trans HG1.out hg
  have hle : w.heap.size ≤ w2.heap.size := hgw.size
  have HD : Hid (DrU w wa b (p + 1 + 1) 3 (.slice (some ⟨S, 0, none⟩) 3 3) (usL y z)) := Lib.hid ⟨by rw [← hwa]; exact hr.below ((Below.refl w2.heap.size w2).alloc (Nat.le_refl _) _) hr.lt, by rw [← hwa, ← hS]; exact World.ownsRow_lit w2 #[.string ⟨#[97, 109, 121]⟩, .string ⟨#[97, 49]⟩, .int .i64 60, .string ⟨#[98, 111, 98]⟩, .string ⟨#[98, 50]⟩, .int .i64 (20 + (y : Int)), .string ⟨#[99, 121, 100]⟩, .string ⟨#[99, 51]⟩, .int .i64 (100 + (z : Int))] 3 hle (by unfold maxLen; omega) rfl, by rw [← hwa]; exact gr_alloc hgw _, usL_size y z, by omega, hbl⟩
  have HWA := Lib.hid hwa
  have HSS := Lib.hid hS
  clear hr hg hgw hle hwa hS
  go_wp2_with fail
  rw [HWA.out, HSS.out]
  refine (pick_any b (p + 1 + 1) 3 _ HD.out.1 (by omega) (by omega) (by omega)).mono ?_
  rintro e w3 ⟨x, hx, rfl, hr, hg⟩
  have hd := HD.out.read hr hg
  obtain ⟨m, hm⟩ : ∃ m, 1 + x = m := ⟨_, rfl⟩
  have hm1 : 1 ≤ m := by omega
  have hm3 : m ≤ 3 := by omega
  have E1 : (1 : Int) + (x : Int) = (m : Int) := by omega
  have W3 : IntKind.i64.wrap (1 + (x : Int)) = (m : Int) := (IntWalk.i64_in _ (by omega)).trans E1
  have HD3 : Hid (DrU w w3 b (p + 1 + 1 + 1) m (.slice (some ⟨S, 0, none⟩) m 3) ((usL y z).take m)) := Lib.hid ⟨hd.1, hd.2.1.front hm3, hd.2.2.1, fun g hg => hd.2.2.2.1 g (List.mem_of_mem_take hg), by omega, hbl⟩
  obtain ⟨L, hL⟩ : ∃ L, (usL y z).take m = L := ⟨_, rfl⟩
  rw [hL] at HD3
  have m0 : (0 : Int) ≤ (m : Int) := by omega
  have m1 : (m : Int) ≤ 3 := by omega
  clear hr hg hm hd hL
  go_wp2_with fail
  refine (pick_any b (p + 1 + 1 + 1) m _ HD3.out.1 (by omega) (by omega) (by omega)).mono ?_
  rintro e w4 ⟨k, hk, rfl, hr, hg⟩
  have HD4 := Lib.hid (HD3.out.read hr hg)
  have k0 : (0 : Int) ≤ (k : Int) := by omega
  have k1 : (k : Int) < (m : Int) := by omega
  clear hr hg
  go_wp2_with fail
  refine (pick_any b (p + 1 + 1 + 1 + 1) 20 _ HD4.out.1 (by omega) (by omega) (by omega)).mono ?_
  rintro e w5 ⟨c, hc, rfl, hr, hg⟩
  have HD5 := Lib.hid (HD4.out.read hr hg)
  clear hr hg
  by_cases h0 : c = 0
  · subst h0
    go_wp2_with fail
    refine (name_text b (p + 1 + 1 + 1 + 1 + 1) _ HD5.out.1 (by omega)).mono ?_
    rintro e w6 ⟨s, hs, rfl, hr, hg⟩
    have HD6 := Lib.hid (HD5.out.read hr hg)
    clear hr hg
    obtain ⟨⟨n1, p1, q1⟩, hx⟩ : ∃ x, L[k]? = some x := ⟨_, List.getElem?_eq_getElem (by rw [← HD6.out.2.1.len.1]; exact hk)⟩
    have hsz := HD6.out.2.2.2.1 _ (List.mem_of_getElem? hx)
    have d0 := HD6.out.2.1.cell hx (j := 0) rfl
    have f0 := HD6.out.2.1.free (k * 3 + 0)
    simp only [usR, Nat.add_zero] at d0 f0
    have HE := Lib.hid (HD6.out.set (j := 0) (y := (s, p1, q1)) hx (by omega) rfl ⟨hs, hsz.2⟩)
    simp only [Nat.add_zero] at HE
    clear hx
    go_wp2
    go_ret
    exact ⟨S, m, 3, _, _, rfl, by omega, HE.out⟩
  · have h0' : ((c : Int) == 0) = false := beq_eq_false_iff_ne.2 (by omega)
    by_cases h1 : c = 1
    · subst h1
      go_wp2_with fail
      refine (name_text b (p + 1 + 1 + 1 + 1 + 1) _ HD5.out.1 (by omega)).mono ?_
      rintro e w6 ⟨s, hs, rfl, hr, hg⟩
      have HD6 := Lib.hid (HD5.out.read hr hg)
      clear hr hg
      obtain ⟨⟨n1, p1, q1⟩, hx⟩ : ∃ x, L[k]? = some x := ⟨_, List.getElem?_eq_getElem (by rw [← HD6.out.2.1.len.1]; exact hk)⟩
      have hsz := HD6.out.2.2.2.1 _ (List.mem_of_getElem? hx)
      have d1 := HD6.out.2.1.cell hx (j := 1) rfl
      have f1 := HD6.out.2.1.free (k * 3 + 1)
      simp only [usR] at d1 f1
      have HE := Lib.hid (HD6.out.set (j := 1) (y := (n1, s, q1)) hx (by omega) rfl ⟨hsz.1, hs⟩)
      skip
      clear hx
      go_wp2
      go_ret
      exact ⟨S, m, 3, _, _, rfl, by omega, HE.out⟩
    · have h1' : ((c : Int) == 1) = false := beq_eq_false_iff_ne.2 (by omega)
      by_cases h2 : c = 2
      · subst h2
        have HA5 := Lib.hid (HD5.out.alloc (.cells #[.int .i64 (-1), .int .i64 0, .int .i64 200, .int .i64 201] 3))
        have hbl5 := HD5.out.1.lt
        go_wp2_with fail
        refine (pick_any b (p + 1 + 1 + 1 + 1 + 1) 4 _ HA5.out.1 (by omega) (by omega) (by omega)).mono ?_
        rintro e w6 ⟨t, ht, rfl, hr, hg⟩
        have HD6 := Lib.hid (HA5.out.read hr hg)
        obtain ⟨v, hv⟩ := usq_at ht
        have hcv : w6.cell? ⟨w5.heap.size, t, none⟩ = some (.int .i64 v) := (((Whole.made w5 3 #[.int .i64 (-1), .int .i64 0, .int .i64 200, .int .i64 201]).grown hg (by simp; omega)).cell t).trans hv
        have t0 : (0 : Int) ≤ (t : Int) := by omega
        have t4 : (t : Int) < 4 := by omega
        clear hr hg hv
        obtain ⟨⟨n1, p1, q1⟩, hx⟩ : ∃ x, L[k]? = some x := ⟨_, List.getElem?_eq_getElem (by rw [← HD6.out.2.1.len.1]; exact hk)⟩
        have hsz := HD6.out.2.2.2.1 _ (List.mem_of_getElem? hx)
        have d2 := HD6.out.2.1.cell hx (j := 2) rfl
        have f2 := HD6.out.2.1.free (k * 3 + 2)
        simp only [usR] at d2 f2
        have HE := Lib.hid (HD6.out.set (j := 2) (y := (n1, p1, v)) hx (by omega) rfl hsz)
        clear hx
        go_wp2
        go_ret
        exact ⟨S, m, 3, _, _, rfl, by omega, HE.out⟩
      · have h2' : ((c : Int) == 2) = false := beq_eq_false_iff_ne.2 (by omega)
        by_cases h3 : c = 3
        · subst h3
          have HN := Lib.hid HD5.out.2.1.len.1.symm
          have hml : m + 2 ≤ maxLen := by unfold maxLen; omega
          have hby : (m + 2) * 40 ≤ 140737488355328 := by omega
          have hown5 := HD5.out.2.1.alloc (.cells #[.string ⟨#[100, 97, 110]⟩, .string ⟨#[100, 52]⟩, .int .i64 9, .string ⟨#[101, 118, 101]⟩, .string ⟨#[101, 53]⟩, .int .i64 9] 35)
          have hnew5 := RAt.made usR w5 [((⟨#[100, 97, 110]⟩ : ByteArray), (⟨#[100, 52]⟩ : ByteArray), (9 : Int)), (⟨#[101, 118, 101]⟩, ⟨#[101, 53]⟩, 9)] w5.heap.size rfl
          have hws : w.heap.size ≤ w5.heap.size := HD5.out.2.2.1.size
          go_wp2_with (at_builtin; refine wpList_append_rows rfl (.tmp 55) (.tmp 58) 26 rfl usR w.heap.size i0 _ 40 Tryz.underlying26 hi hq0 hq1 hq2 rfl (by decide) _ L [((⟨#[100, 97, 110]⟩ : ByteArray), (⟨#[100, 52]⟩ : ByteArray), (9 : Int)), (⟨#[101, 118, 101]⟩, ⟨#[101, 53]⟩, 9)] m HN.out rfl hown5 (some ⟨w5.heap.size, 0, none⟩) 2 2 rfl rfl hnew5 (fun e => by cases e) (fun q e => by cases e; rfl) hml hby (by simp; omega) ?_)
          intro v' w6 ho hg hnn
          have hfar : ∀ g, (Value.slice (some (⟨S, 0, none⟩ : Addr)) m 3).ownBlock = some g → w.heap.size ≤ g := fun g e => (World.ownsRow.lt HD5.out.2.1 g e).1
          have HR6 := Lib.hid (rd_far (HD5.out.alloc (.cells #[.string ⟨#[100, 97, 110]⟩, .string ⟨#[100, 52]⟩, .int .i64 9, .string ⟨#[101, 118, 101]⟩, .string ⟨#[101, 53]⟩, .int .i64 9] 35)).1 hg (fun g e => Nat.lt_of_lt_of_le hbl (hfar g e)))
          have HG6 := Lib.hid (gr_far (gr_alloc HD5.out.2.2.1 _) hg hfar)
          obtain ⟨A6, N6, cap6, rfl⟩ := ho.val
          have hN6 : N6 = m + 2 := by
            have h1 := ho.len.1
            have h2 := HN.out
            simp only [List.length_append, List.length_cons, List.length_nil] at h1
            omega
          obtain ⟨g6, hg6⟩ : ∃ g6, A6 = some ⟨g6, 0, none⟩ := by
            obtain ⟨A', cap', hv', _, _, _, _, hne⟩ := ho.form
            cases hv'
            exact hne (by simp)
          subst hg6
          have HO6 := Lib.hid ho
          have HZ6 : Hid (∀ g ∈ L ++ [((⟨#[100, 97, 110]⟩ : ByteArray), (⟨#[100, 52]⟩ : ByteArray), (9 : Int)), (⟨#[101, 118, 101]⟩, ⟨#[101, 53]⟩, 9)], g.1.size ≤ 30 ∧ g.2.1.size ≤ 30) := Lib.hid (fun g hg => by
            rcases List.mem_append.1 hg with h | h
            · exact HD5.out.2.2.2.1 g h
            · simp at h
              rcases h with rfl | rfl <;> exact ⟨(by decide), (by decide)⟩)
          clear ho hg hown5 hnew5 hnn
          go_wp2
          go_ret
          exact ⟨g6, N6, cap6, _, _, rfl, by omega, HR6.out, HO6.out, HG6.out, HZ6.out, by omega, hbl⟩
        · have h3' : ((c : Int) == 3) = false := beq_eq_false_iff_ne.2 (by omega)
          clear h0 h1 h2 h3
          go_wp2
          go_ret
          exact ⟨S, m, 3, L, _, rfl, by omega, HD5.out⟩
def passes : List (List UInt8) := [[97, 49], [98, 50], [120], []]
/-- A drawn text, with some picks. -/
def TextQ (w : World) (b p : Nat) (e : Ending) (w' : World) : Prop := ∃ (s : ByteArray) (q : Nat), s.size ≤ 30 ∧ q ≤ p + 2 ∧ e = .returned (.string s) ∧ Rd w' b q ∧ w.grownBy w' (some b)
set_option maxRecDepth 20000 in
set_option maxHeartbeats 4000000 in
theorem pass_draw (b p : Nat) (A : Option Addr) (N cap : Nat) (L : List Us) (n : ByteArray) (w : World) (h : Rd w b p) (hp : p ≤ 800000) (hU : UIn w A N cap L) (hs : ∀ g ∈ L, g.2.1.size ≤ 30) (hAb : ∀ bb o, A = some ⟨bb, o, none⟩ → bb ≠ b) : Calls Tryz.prog 69 #[.pointer (some ⟨b, 0, none⟩), .slice A N cap, .string n] w (TextQ w b p) := by
  have HR := Lib.hid h
  have HU := Lib.hid hU
  have HS := Lib.hid hs
  have HAB := Lib.hid hAb
  clear h hU hs hAb
  rcases ixG_case L n 0 with ⟨_, hi⟩ | ⟨j, x, hj, _, hi⟩
  · have HI := Lib.hid hi
    clear hi
    go_enter Tryz.func69, Tryz.ntmps69
    go_wp2_with fail
    refine (spec_l14 HI.out _ HU.out).mono ?_
    rintro e w1 ⟨rfl, hw⟩
    subst hw
    go_wp2_with fail
    refine (of_new b p passes w1 HR.out (by omega) (by decide) (by decide)).mono ?_
    rintro e w2 ⟨l, hl, rfl, hr, hg⟩
    have hls : (⟨l.toArray⟩ : ByteArray).size ≤ 30 := by
      have h : ∀ l ∈ passes, l.length ≤ 30 := by decide
      have := h l hl
      rw [ByteArray.size]
      simpa using this
    have H2 := Lib.hid (And.intro hr hg)
    clear hr hg
    go_wp2
    go_ret
    exact ⟨_, _, hls, by omega, rfl, H2.out.1, H2.out.2⟩
  · rw [Nat.zero_add] at hi
    have HI := Lib.hid hi
    have HJ := Lib.hid hj
    have hjN : j < N := by rw [← HU.out.1]; exact (List.getElem?_eq_some_iff.1 hj).1
    have j0 : (0 : Int) ≤ (j : Int) := by omega
    have j1 : ¬ (j : Int) < 0 := by omega
    have j2 : (j : Int) < (N : Int) := by omega
    obtain ⟨n1, p1, q1⟩ := x
    have hps : p1.size ≤ 30 := HS.out _ (List.mem_of_getElem? hj)
    clear hi hj
    go_enter Tryz.func69, Tryz.ntmps69
    go_wp2_with fail
    refine (spec_l14 HI.out _ HU.out).mono ?_
    rintro e w1 ⟨rfl, hw⟩
    subst hw
    go_wp2_with fail
    refine (pick_any b p 4 _ HR.out (by omega) (by omega) (by omega)).mono ?_
    rintro e w2 ⟨x, hx, rfl, hr, hg⟩
    have H2 := Lib.hid (And.intro hr hg)
    obtain ⟨bb, o, rfl, hbz, c0, c1, c2⟩ := user_at (HU.out.2.2.1.grown hg HAB.out) HJ.out
    clear hr hg
    by_cases h0 : x = 0
    · subst h0
      go_wp2_with fail
      refine (of_new b (p + 1) passes w2 H2.out.1 (by omega) (by decide) (by decide)).mono ?_
      rintro e w3 ⟨l, hl, rfl, hr, hg⟩
      have hls : (⟨l.toArray⟩ : ByteArray).size ≤ 30 := by
        have h : ∀ l ∈ passes, l.length ≤ 30 := by decide
        have := h l hl
        rw [ByteArray.size]
        simpa using this
      have H3 := Lib.hid (And.intro hr (gr_trans H2.out.2 hg))
      clear hr hg
      go_wp2
      go_ret
      exact ⟨_, _, hls, by omega, rfl, H3.out.1, H3.out.2⟩
    · have h0' : (0 : Int) < (x : Int) := by omega
      clear h0
      go_wp2
      go_ret
      exact ⟨p1, _, hps, by omega, rfl, H2.out.1, H2.out.2⟩
/-- Users that were drawn. -/
def Uss (w w' : World) (A : Option Addr) (N cap : Nat) (L : List Us) : Prop := 1 ≤ N ∧ N ≤ 5 ∧ (∀ g ∈ L, g.1.size ≤ 30 ∧ g.2.1.size ≤ 30) ∧ ROwn usR w' w.heap.size (.slice A N cap) L ∧ Below w.heap.size w w'
theorem Uss.uin {w w' : World} {A : Option Addr} {N cap : Nat} {L : List Us} (h : Uss w w' A N cap L) : UIn w' A N cap L := UIn.made h.2.2.2.1 ⟨by have := h.2.2.2.1.len.1; have := h.2.1; omega, fun g hg => ⟨Nat.le_trans (h.2.2.1 g hg).1 (by omega), Nat.le_trans (h.2.2.1 g hg).2 (by omega)⟩⟩
def DrewUL (w : World) (e : Ending) (w' : World) : Prop := ∃ A N cap L, e = .returned (.slice A N cap) ∧ Uss w w' A N cap L
def DrewUF (w : World) (e : Ending) (w' : World) : Prop := ∃ A N cap L s, e = .returned (.tuple #[.slice A N cap, .string s]) ∧ s.size ≤ 100 ∧ Uss w w' A N cap L
def DrewUP (w : World) (e : Ending) (w' : World) : Prop := ∃ A N cap L s t, e = .returned (.tuple #[.slice A N cap, .string s, .string t]) ∧ s.size ≤ 30 ∧ t.size ≤ 30 ∧ Uss w w' A N cap L
/-- Beside a reader. -/
def UsR (w wr : World) (b q g N cap : Nat) (L : List Us) : Prop := Rd wr b q ∧ ROwn usR wr (b + 1) (.slice (some ⟨g, 0, none⟩) N cap) L ∧ Below b w wr ∧ (∀ g ∈ L, g.1.size ≤ 30 ∧ g.2.1.size ≤ 30) ∧ (1 ≤ N ∧ N ≤ 5) ∧ b = w.heap.size
theorem UsR.read {w wr w' : World} {b q q' g N cap : Nat} {L : List Us} (h : UsR w wr b q g N cap L) (hr : Rd w' b q') (hg : wr.grownBy w' (some b)) : UsR w w' b q' g N cap L :=
  ⟨hr, h.2.1.grown hg (by omega), below_gr h.2.2.1 hg (by have := h.1.lt; omega) (Nat.le_refl _), h.2.2.2⟩
theorem UsR.later {w wr w' : World} {b q g N cap : Nat} {L : List Us} (h : UsR w wr b q g N cap L) (hb : Below wr.heap.size wr w') : UsR w w' b q g N cap L :=
  ⟨h.1.below hb h.1.lt, h.2.1.kept hb, h.2.2.1.trans (hb.mono (Nat.le_of_lt h.1.lt)), h.2.2.2⟩
theorem UsR.done {w wr : World} {b q g N cap : Nat} {L : List Us} (h : UsR w wr b q g N cap L) : Uss w wr (some ⟨g, 0, none⟩) N cap L := ⟨h.2.2.2.2.1.1, h.2.2.2.2.1.2, h.2.2.2.1, h.2.1.from (by have := h.2.2.2.2.2; omega), by rw [← h.2.2.2.2.2]; exact h.2.2.1⟩
theorem UsR.uin {w wr : World} {b q g N cap : Nat} {L : List Us} (h : UsR w wr b q g N cap L) : UIn wr (some ⟨g, 0, none⟩) N cap L := h.done.uin
theorem UsR.off {w wr : World} {b q g N cap : Nat} {L : List Us} (h : UsR w wr b q g N cap L) : ∀ bb o, (some (⟨g, 0, none⟩ : Addr)) = some ⟨bb, o, none⟩ → bb ≠ b := fun bb o e => by
  cases e
  have := (World.ownsRow.lt h.2.1 g rfl).1
  omega
theorem users_first {b : Nat} (w w1 : World) (hb : b = w.heap.size) (hr : Rd w1 b 0) (hB : Below b w w1) : Calls Tryz.prog 40 #[.pointer (some ⟨b, 0, none⟩)] w1 fun e w' => ∃ g N cap L q, e = .returned (.slice (some ⟨g, 0, none⟩) N cap) ∧ q ≤ 10 ∧ UsR w w' b q g N cap L := by
  refine (users_draw b 0 w1 hr (by omega)).mono ?_
  rintro e w' ⟨g, N, cap, L, q, rfl, hq, hr2, ho, hg, hz, hN, hbl⟩
  have hlt := hr.lt
  exact ⟨g, N, cap, L, q, rfl, by omega, hr2, ho.from (by omega), below_gr hB hg (by omega) (Nat.le_refl _), hz, hN, hb⟩
end Go.Proofs.YtichajalinkcdaaGreatDoor
namespace Go.Proofs.YtichajalinkcdaaGreatDoor
open Go.RowKit
set_option linter.unusedVariables false

def NMS : Array Value := #[.string ⟨#[97, 109, 121]⟩, .string ⟨#[98, 111, 98]⟩, .string ⟨#[99, 121, 100]⟩, .string ⟨#[100, 97, 110]⟩]
/-- Drawn receivers. -/
def DrewT (w : World) (b p : Nat) (e : Ending) (w' : World) : Prop := ∃ A N cap T q, e = .returned (.slice A N cap) ∧ q ≤ p + 7 ∧ Rd w' b q ∧ ROwn stR w' w.heap.size (.slice A N cap) T ∧ w.grownBy w' (some b) ∧ T.length ≤ 6 ∧ (∀ g ∈ T, g.size ≤ 30)
/-- Receivers so far: 'NB' is the block of the names. -/
def TSt (w wr : World) (b q NB : Nat) (A : Option Addr) (n cap : Nat) (T : List ByteArray) : Prop :=
  Rd wr b q ∧ w.grownBy wr (some b) ∧ b < w.heap.size ∧ w.heap.size < NB ∧ NB < wr.heap.size ∧ Whole wr NB 9 NMS ∧ (∀ g ∈ T, g.size ≤ 30) ∧
    ((T = [] ∧ A = some ⟨w.heap.size, 0, none⟩ ∧ n = 0 ∧ cap = 0 ∧ Whole wr w.heap.size 9 #[]) ∨ ROwn stR wr (NB + 1) (.slice A n cap) T)
theorem TSt.read {w wr w' : World} {b q q' NB n cap : Nat} {A : Option Addr} {T : List ByteArray} (h : TSt w wr b q NB A n cap T) (hr : Rd w' b q') (hg : wr.grownBy w' (some b)) : TSt w w' b q' NB A n cap T := by
  obtain ⟨h1, h2, h3, h4, h5, h6, h7, h8⟩ := h
  refine ⟨hr, gr_trans h2 hg, h3, h4, Nat.lt_of_lt_of_le h5 hg.size, h6.grown hg (by simp; omega), h7, ?_⟩
  rcases h8 with ⟨e1, e2, e3, e4, e5⟩ | h8
  · exact .inl ⟨e1, e2, e3, e4, e5.grown hg (by simp; omega)⟩
  · exact .inr (h8.grown hg (by omega))
theorem TSt.len {w wr : World} {b q NB n cap : Nat} {A : Option Addr} {T : List ByteArray} (h : TSt w wr b q NB A n cap T) : n = T.length := by
  rcases h.2.2.2.2.2.2.2 with ⟨e1, e2, e3, e4, e5⟩ | h8
  · rw [e1, e3]; rfl
  · exact h8.len.1
theorem TSt.own {w wr : World} {b q NB n cap : Nat} {A : Option Addr} {T : List ByteArray} (h : TSt w wr b q NB A n cap T) : ROwn stR wr w.heap.size (.slice A n cap) T := by
  rcases h.2.2.2.2.2.2.2 with ⟨rfl, rfl, rfl, rfl, e5⟩ | h8
  · refine ⟨rfl, .inr ⟨w.heap.size, 0, #[], rfl, Nat.le_refl _, e5, by simp, by unfold maxLen; omega, by simp, rfl⟩⟩
  · exact h8.from (by have := h.2.2.2.1; omega)
/-- One more receiver. -/
theorem TSt.push {w wr w1 w' : World} {b q NB n cap N' cap' : Nat} {A A' : Option Addr} {T : List ByteArray} {x : ByteArray} {row : Option Nat} (h : TSt w wr b q NB A n cap T) (h1 : Below wr.heap.size wr w1) (hg : w1.grownBy w' row) (hrow : ∀ g, row = some g → NB < g) (ho : ROwn stR w' (NB + 1) (.slice A' N' cap') (T ++ [x])) (hx : x.size ≤ 30) : TSt w w' b q NB A' N' cap' (T ++ [x]) := by
  obtain ⟨k1, k2, k3, k4, k5, k6, k7, k8⟩ := h
  have hb1 := k1.lt
  refine ⟨rd_far (k1.below h1 hb1) hg (fun g e => by have := hrow g e; omega), gr_far (gr_trans k2 (gr_below h1 _)) hg (fun g e => by have := hrow g e; omega), k3, k4, Nat.lt_of_lt_of_le (Nat.lt_of_lt_of_le k5 h1.size) hg.size, (k6.below h1 k5).grown hg (fun e => by have := hrow NB e.symm; omega), fun g hgm => ?_, .inr ho⟩
  rcases List.mem_append.1 hgm with h2 | h2
  · exact k7 g h2
  · simp at h2; rw [h2]; exact hx
theorem nms_get {j : Nat} (h : j < 4) : ∃ s : ByteArray, NMS[j]? = some (.string s) ∧ s.size ≤ 30 := by
  match j, h with
  | 0, _ => exact ⟨_, rfl, by decide⟩
  | 1, _ => exact ⟨_, rfl, by decide⟩
  | 2, _ => exact ⟨_, rfl, by decide⟩
  | 3, _ => exact ⟨_, rfl, by decide⟩
theorem small_app {T U : List ByteArray} {k : Nat} (h : ∀ g ∈ T, g.size ≤ k) (h2 : ∀ g ∈ U, g.size ≤ k) : ∀ g ∈ T ++ U, g.size ≤ k := fun g hg => (List.mem_append.1 hg).elim (h g) (h2 g)
set_option maxRecDepth 20000 in
set_option maxHeartbeats 8000000 in
theorem to_draw (b p : Nat) (w : World) (h : Rd w b p) (hp : p ≤ 800000) : Calls Tryz.prog 66 #[.pointer (some ⟨b, 0, none⟩)] w (DrewT w b p) := by
  obtain ⟨i0, hi0, hq0, hq1, hq2⟩ := info_parts Tryz.infoString
  have hbl := h.lt
  have hw1 := Whole.made w 9 #[]
  have hw2 := Whole.made (w.alloc (.cells #[] 9)) 9 NMS
  have es : (w.alloc (.cells #[] 9)).heap.size = w.heap.size + 1 := by simp
  rw [es] at hw2
  have hbB : Below w.heap.size w ((w.alloc (.cells #[] 9)).alloc (.cells NMS 9)) := ((Below.refl _ _).alloc (Nat.le_refl _) _).alloc (by simp) _
  have HS0 : Hid (TSt w ((w.alloc (.cells #[] 9)).alloc (.cells NMS 9)) b p (w.heap.size + 1) (some ⟨w.heap.size, 0, none⟩) 0 0 []) :=
    Lib.hid ⟨h.below hbB hbl, gr_below hbB _, hbl, by omega, by simp, hw2, fun g hg => (by cases hg), .inl ⟨rfl, rfl, rfl, rfl, hw1.alloc _⟩⟩
  obtain ⟨wa, hwa⟩ : ∃ wa, (w.alloc (.cells #[] 9)).alloc (.cells NMS 9) = wa := ⟨_, rfl⟩
  rw [hwa] at HS0
  unfold NMS at hwa
  have HWA := Lib.hid hwa
  clear h hw1 hw2 es hbB hwa
  obtain ⟨NB, hNB⟩ : ∃ NB, w.heap.size + 1 = NB := ⟨_, rfl⟩
  rw [hNB] at HS0
  have HNB := Lib.hid hNB
  clear hNB
  go_enter Tryz.func66, Tryz.ntmps66
  go_wp2
  rw [HWA.out, HNB.out]
  go_loopw [3, 5] (fun v i wr => ∃ (k n cap q : Nat) (A : Option Addr) (T : List ByteArray), k ≤ 3 ∧ n ≤ k ∧ v = .slice A n cap ∧ i = .int .i64 (k : Int) ∧ q ≤ p + k ∧ Hid (TSt w wr b q NB A n cap T)) (fun _ i _ => 3 - (intOf i).toNat)
  case atStart => exact ⟨0, 0, 0, p, _, [], Nat.zero_le _, Nat.le_refl _, rfl, by go_num, by omega, HS0⟩
  case round =>
    obtain ⟨k, n, cap, q, A, T, hk, hnk, rfl, rfl, hq, HS⟩ := hrel
    by_cases hlt : k < 3
    · have h5 : (k : Int) < 3 := by omega
      have k0 : (0 : Int) ≤ (k : Int) := by omega
      have k4 : (k : Int) < 4 := by omega
      go_wp2_with fail
      refine (pick_any b q 2 _ HS.out.1 (by omega) (by omega) (by omega)).mono ?_
      rintro e w4 ⟨x, hx, rfl, hr, hg⟩
      have HS4 := Lib.hid (TSt.read HS.out hr hg)
      clear hr hg
      by_cases h0 : x = 0
      · subst h0
        obtain ⟨s, hsn, hxs⟩ := nms_get (show k < 4 by omega)
        have ks := (HS4.out.2.2.2.2.2.1.cell k).trans hsn
        clear hsn
        have hbs : NB < w4.heap.size := HS4.out.2.2.2.2.1
        rcases HS4.out.2.2.2.2.2.2.2 with ⟨hT, hA, hn, hc, hE⟩ | hown
        ·
          subst hT
          subst hA
          try subst hn
          try subst hc
          have hnew := RAt.made stR w4 [s] w4.heap.size rfl
          have hnc : ∀ j u, [Value.string s][j]? = some u → (w4.alloc (.cells #[.string s] 9)).cell? ((⟨w4.heap.size, 0, none⟩ : Addr).add j) = some u := rnew w4 [.string s] 9 _ rfl
          have hml1 : 0 + 1 ≤ maxLen := by unfold maxLen; omega
          go_wp2_with (at_builtin; refine wpList_append_grows _ rfl (.tmp 15) (.tmp 20) 23 rfl 9 i0 (.string ⟨#[]⟩) 1 16 Tryz.underlying23 hi0 hq0 hq1 hq2 rfl (by decide) (some ⟨w.heap.size, 0, none⟩) 0 0 [] rfl (fun e => by cases e) rfl (fun b0 e j u hj => by simp at hj) ⟨w4.heap.size, 0, none⟩ 1 1 [.string s] rfl rfl hnc (by intro u hu; simp at hu; subst hu; rfl) (by omega) hml1 (by omega) ?_)
          intro v' w9 hown hgrow
          have hown : ROwn stR w9 (NB + 1) v' [s] := ROwn.from (B := w4.heap.size + 1) hown (by omega)
          obtain ⟨A9, N9, cap9, rfl⟩ := hown.val
          have hN9 : N9 = 1 := hown.len.1
          subst hN9
          have HT9 : Hid (TSt w w9 b _ NB A9 1 cap9 [s]) := Lib.hid (TSt.push (T := []) HS4.out (below_new' w4 (.cells #[.string s] 9)) hgrow (fun g e => by cases e) hown hxs)
          clear hown hgrow hnew hnc
          go_wp2
          go_roundw
          case rel => exact ⟨k + 1, _, cap9, q + 1, A9, _, by omega, by omega, rfl, by go_num, by omega, HT9⟩
          case measure => simp [intOf]; omega
        ·
          have hnew := RAt.made stR w4 [s] w4.heap.size rfl
          have HLN := Lib.hid hown.len.1.symm
          have hml : n + 1 ≤ maxLen := by unfold maxLen; omega
          have hby : (n + 1) * 16 ≤ 140737488355328 := by omega
          have hba : NB + 1 ≤ (w4.alloc (.cells #[.string s] 9)).heap.size := by simp; omega
          have HOW := Lib.hid hown
          have howna := hown.alloc (.cells #[.string s] 9)
          clear hown
          go_wp2_with (at_builtin; refine wpList_append_rows rfl (.tmp 15) (.tmp 20) 23 rfl stR (NB + 1) i0 _ 16 Tryz.underlying23 hi0 hq0 hq1 hq2 rfl (by decide) _ (T) [s] n HLN.out rfl howna (some ⟨w4.heap.size, 0, none⟩) 1 1 rfl rfl hnew (fun e => by cases e) (fun q e => by cases e; rfl) hml hby hba ?_)
          intro v' w9 hown hgrow hnn
          obtain ⟨A9, N9, cap9, rfl⟩ := hown.val
          have hN9 : N9 = n + 1 := hown.len.1.trans (by rw [List.length_append, HLN.out]; rfl)
          subst hN9
          have HT9 := Lib.hid (TSt.push HS4.out (below_new' w4 (.cells #[.string s] 9)) hgrow (fun g e => by have := (World.ownsRow.lt HOW.out g e).1; omega) hown hxs)
          clear hown hgrow hnn hnew howna
          go_wp2
          go_roundw
          case rel => exact ⟨k + 1, _, cap9, q + 1, A9, _, by omega, by omega, rfl, by go_num, by omega, HT9⟩
          case measure => simp [intOf]; omega
      · have h0' : ((x : Int) == 0) = false := beq_eq_false_iff_ne.2 (by omega)
        go_wp2
        go_roundw
        case rel => exact ⟨k + 1, n, cap, q + 1, A, T, by omega, by omega, rfl, by go_num, by omega, HS4⟩
        case measure => simp [intOf]; omega
    · have h5 : ¬ (k : Int) < 3 := by omega
      have HNL := Lib.hid HS.out.len
      by_cases hn0 : n = 0
      ·
        have hn0' : ((n : Int) == 0) = true := by rw [hn0]; rfl
        go_wp2_with fail
        refine (pick_any b q 4 _ HS.out.1 (by omega) (by omega) (by omega)).mono ?_
        rintro e w4 ⟨x, hx, rfl, hr, hg⟩
        have HS4 := Lib.hid (TSt.read HS.out hr hg)
        clear hr hg
        obtain ⟨s, hsn, hxs⟩ := nms_get hx
        have ks := (HS4.out.2.2.2.2.2.1.cell x).trans hsn
        have x0 : (0 : Int) ≤ (x : Int) := by omega
        have x4 : (x : Int) < 4 := by omega
        subst hn0
        clear hsn hn0'
        have hbs : NB < w4.heap.size := HS4.out.2.2.2.2.1
        rcases HS4.out.2.2.2.2.2.2.2 with ⟨hT, hA, hn, hc, hE⟩ | hown
        ·
          subst hT
          subst hA
          try subst hn
          try subst hc
          have hnew := RAt.made stR w4 [s] w4.heap.size rfl
          have hnc : ∀ j u, [Value.string s][j]? = some u → (w4.alloc (.cells #[.string s] 9)).cell? ((⟨w4.heap.size, 0, none⟩ : Addr).add j) = some u := rnew w4 [.string s] 9 _ rfl
          have hml1 : 0 + 1 ≤ maxLen := by unfold maxLen; omega
          go_wp2_with (at_builtin; refine wpList_append_grows _ rfl (.tmp 25) (.tmp 31) 23 rfl 9 i0 (.string ⟨#[]⟩) 1 16 Tryz.underlying23 hi0 hq0 hq1 hq2 rfl (by decide) (some ⟨w.heap.size, 0, none⟩) 0 0 [] rfl (fun e => by cases e) rfl (fun b0 e j u hj => by simp at hj) ⟨w4.heap.size, 0, none⟩ 1 1 [.string s] rfl rfl hnc (by intro u hu; simp at hu; subst hu; rfl) (by omega) hml1 (by omega) ?_)
          intro v' w9 hown hgrow
          have hown : ROwn stR w9 (NB + 1) v' [s] := ROwn.from (B := w4.heap.size + 1) hown (by omega)
          obtain ⟨A9, N9, cap9, rfl⟩ := hown.val
          have hN9 : N9 = 1 := hown.len.1
          subst hN9
          have HT9 : Hid (TSt w w9 b _ NB A9 1 cap9 [s]) := Lib.hid (TSt.push (T := []) HS4.out (below_new' w4 (.cells #[.string s] 9)) hgrow (fun g e => by cases e) hown hxs)
          clear hown hgrow hnew hnc
          go_wp2_with fail
          refine (pick_any b (q + 1) 20 _ HT9.out.1 (by omega) (by omega) (by omega)).mono ?_
          rintro e w5 ⟨y, hy, rfl, hr, hg⟩
          have HS5 := Lib.hid (TSt.read HT9.out hr hg)
          clear hr hg
          have HO5 := Lib.hid HS5.out.own
          have HL5 := Lib.hid HO5.out.len.1
          obtain ⟨g5, hg5⟩ : ∃ g, A9 = some ⟨g, 0, none⟩ := by
            obtain ⟨A', c', he, _, _, _, _, hne⟩ := HO5.out.form
            injection he with he1 he2 he3
            subst he1
            exact hne (fun e => by have h9 := HL5.out; rw [e] at h9; first | (simp at h9; done) | (simp at h9; omega))
          subst hg5
          by_cases h0 : y = 0
          ·
            subst h0
            obtain ⟨x, hx⟩ : ∃ x, ([s])[0]? = some x := ⟨_, List.getElem?_eq_getElem (by rw [← HL5.out]; omega)⟩
            have hxs : x.size ≤ 30 := HS5.out.2.2.2.2.2.2.1 x (List.mem_of_getElem? hx)
            obtain ⟨b0, o0, hA0, hb0, k0⟩ := str_at HO5.out.at hx
            cases hA0
            simp only [Nat.add_zero] at k0
            have hn0 : (0 : Int) < ((1 : Nat) : Int) := by omega
            have hnew := RAt.made stR w5 [x] w5.heap.size rfl
            have HLN : Hid (([s]).length = 1) := Lib.hid HL5.out.symm
            have hml : 1 + 1 ≤ maxLen := by unfold maxLen; omega
            have hby : (1 + 1) * 16 ≤ 140737488355328 := by omega
            have hba : w.heap.size ≤ (w5.alloc (.cells #[.string x] 9)).heap.size := by have := HS5.out.2.1.size; simp; omega
            have howna := HO5.out.alloc (.cells #[.string x] 9)
            clear hx
            go_wp2_with (at_builtin; refine wpList_append_rows rfl (.tmp 37) (.tmp 41) 23 rfl stR w.heap.size i0 _ 16 Tryz.underlying23 hi0 hq0 hq1 hq2 rfl (by decide) _ ([s]) [x] 1 HLN.out rfl howna (some ⟨w5.heap.size, 0, none⟩) 1 1 rfl rfl hnew (fun e => by cases e) (fun q e => by cases e; rfl) hml hby hba ?_)
            intro v' w9 hown hgrow hnn
            obtain ⟨A9, N9, cap9, rfl⟩ := hown.val
            have hN9 := hown.len.1
            have HR9 := Lib.hid (rd_far (HS5.out.1.below (below_new' w5 (.cells #[.string x] 9)) HS5.out.1.lt) hgrow (fun g e => by have h1 := (World.ownsRow.lt HO5.out g e).1; have h2 := HS5.out.2.2.1; omega))
            have HG9 := Lib.hid (gr_far (gr_trans HS5.out.2.1 (gr_below (below_new' w5 (.cells #[.string x] 9)) _)) hgrow (fun g e => (World.ownsRow.lt HO5.out g e).1))
            have HO9 := Lib.hid hown
            clear hown hgrow hnn hnew howna
            go_wp2
            go_ret
            exact ⟨A9, N9, cap9, ([s]) ++ [x], _, rfl, by omega, HR9.out, (by have h9 := HO9.out; first | exact h9 | simpa [List.append_assoc] using h9), HG9.out, by rw [List.length_append, HLN.out]; simp only [List.length_cons, List.length_nil]; omega, small_app HS5.out.2.2.2.2.2.2.1 (fun g hg => by simp at hg; rw [hg]; exact hxs)⟩
          have h0' : ((y : Int) == 0) = false := beq_eq_false_iff_ne.2 (by omega)
          by_cases h1 : y = 1
          ·
            subst h1
            have hc0 : (0 : Int) ≤ (cap9 : Int) := by omega
            have HOF := Lib.hid (HO5.out.front (Nat.zero_le _))
            go_wp2
            go_ret
            exact ⟨_, 0, _, _, _, rfl, by omega, HS5.out.1, HOF.out, HS5.out.2.1, by simp, fun g hg => by simp at hg⟩
          have h1' : ((y : Int) == 1) = false := beq_eq_false_iff_ne.2 (by omega)
          by_cases h2 : y = 2
          ·
            subst h2
            have hnew := RAt.made stR w5 [(⟨#[100, 97, 110]⟩ : ByteArray), ⟨#[101, 118, 101]⟩] w5.heap.size rfl
            have HLN : Hid (([s]).length = 1) := Lib.hid HL5.out.symm
            have hml : 1 + 2 ≤ maxLen := by unfold maxLen; omega
            have hby : (1 + 2) * 16 ≤ 140737488355328 := by omega
            have hba : w.heap.size ≤ (w5.alloc (.cells #[.string ⟨#[100, 97, 110]⟩, .string ⟨#[101, 118, 101]⟩] 9)).heap.size := by have := HS5.out.2.1.size; simp; omega
            have howna := HO5.out.alloc (.cells #[.string ⟨#[100, 97, 110]⟩, .string ⟨#[101, 118, 101]⟩] 9)
            go_wp2_with (at_builtin; refine wpList_append_rows rfl (.tmp 49) (.tmp 50) 23 rfl stR w.heap.size i0 _ 16 Tryz.underlying23 hi0 hq0 hq1 hq2 rfl (by decide) _ ([s]) [(⟨#[100, 97, 110]⟩ : ByteArray), ⟨#[101, 118, 101]⟩] 1 HLN.out rfl howna (some ⟨w5.heap.size, 0, none⟩) 2 2 rfl rfl hnew (fun e => by cases e) (fun q e => by cases e; rfl) hml hby hba ?_)
            intro v' w9 hown hgrow hnn
            obtain ⟨A9, N9, cap9, rfl⟩ := hown.val
            have hN9 := hown.len.1
            have HR9 := Lib.hid (rd_far (HS5.out.1.below (below_new' w5 (.cells #[.string ⟨#[100, 97, 110]⟩, .string ⟨#[101, 118, 101]⟩] 9)) HS5.out.1.lt) hgrow (fun g e => by have h1 := (World.ownsRow.lt HO5.out g e).1; have h2 := HS5.out.2.2.1; omega))
            have HG9 := Lib.hid (gr_far (gr_trans HS5.out.2.1 (gr_below (below_new' w5 (.cells #[.string ⟨#[100, 97, 110]⟩, .string ⟨#[101, 118, 101]⟩] 9)) _)) hgrow (fun g e => (World.ownsRow.lt HO5.out g e).1))
            have HO9 := Lib.hid hown
            clear hown hgrow hnn hnew howna
            go_wp2
            go_ret
            exact ⟨A9, N9, cap9, ([s]) ++ [(⟨#[100, 97, 110]⟩ : ByteArray), ⟨#[101, 118, 101]⟩], _, rfl, by omega, HR9.out, (by have h9 := HO9.out; first | exact h9 | simpa [List.append_assoc] using h9), HG9.out, by rw [List.length_append, HLN.out]; simp only [List.length_cons, List.length_nil]; omega, small_app HS5.out.2.2.2.2.2.2.1 (fun g hg => by simp at hg; rcases hg with rfl | rfl <;> decide)⟩
          have h2' : ((y : Int) == 2) = false := beq_eq_false_iff_ne.2 (by omega)
          go_wp2
          go_ret
          exact ⟨_, _, _, _, _, rfl, by omega, HS5.out.1, HO5.out, HS5.out.2.1, by have := HL5.out; omega, HS5.out.2.2.2.2.2.2.1⟩
        ·
          have hnew := RAt.made stR w4 [s] w4.heap.size rfl
          have HLN := Lib.hid hown.len.1.symm
          have hml : 0 + 1 ≤ maxLen := by unfold maxLen; omega
          have hby : (0 + 1) * 16 ≤ 140737488355328 := by omega
          have hba : NB + 1 ≤ (w4.alloc (.cells #[.string s] 9)).heap.size := by simp; omega
          have HOW := Lib.hid hown
          have howna := hown.alloc (.cells #[.string s] 9)
          clear hown
          go_wp2_with (at_builtin; refine wpList_append_rows rfl (.tmp 25) (.tmp 31) 23 rfl stR (NB + 1) i0 _ 16 Tryz.underlying23 hi0 hq0 hq1 hq2 rfl (by decide) _ (T) [s] 0 HLN.out rfl howna (some ⟨w4.heap.size, 0, none⟩) 1 1 rfl rfl hnew (fun e => by cases e) (fun q e => by cases e; rfl) hml hby hba ?_)
          intro v' w9 hown hgrow hnn
          obtain ⟨A9, N9, cap9, rfl⟩ := hown.val
          have hN9 : N9 = 0 + 1 := hown.len.1.trans (by rw [List.length_append, HLN.out]; rfl)
          subst hN9
          have HT9 := Lib.hid (TSt.push HS4.out (below_new' w4 (.cells #[.string s] 9)) hgrow (fun g e => by have := (World.ownsRow.lt HOW.out g e).1; omega) hown hxs)
          clear hown hgrow hnn hnew howna
          go_wp2_with fail
          refine (pick_any b (q + 1) 20 _ HT9.out.1 (by omega) (by omega) (by omega)).mono ?_
          rintro e w5 ⟨y, hy, rfl, hr, hg⟩
          have HS5 := Lib.hid (TSt.read HT9.out hr hg)
          clear hr hg
          have HO5 := Lib.hid HS5.out.own
          have HL5 := Lib.hid HO5.out.len.1
          obtain ⟨g5, hg5⟩ : ∃ g, A9 = some ⟨g, 0, none⟩ := by
            obtain ⟨A', c', he, _, _, _, _, hne⟩ := HO5.out.form
            injection he with he1 he2 he3
            subst he1
            exact hne (fun e => by have h9 := HL5.out; rw [e] at h9; first | (simp at h9; done) | (simp at h9; omega))
          subst hg5
          by_cases h0 : y = 0
          ·
            subst h0
            obtain ⟨x, hx⟩ : ∃ x, (T ++ [s])[0]? = some x := ⟨_, List.getElem?_eq_getElem (by rw [← HL5.out]; omega)⟩
            have hxs : x.size ≤ 30 := HS5.out.2.2.2.2.2.2.1 x (List.mem_of_getElem? hx)
            obtain ⟨b0, o0, hA0, hb0, k0⟩ := str_at HO5.out.at hx
            cases hA0
            simp only [Nat.add_zero] at k0
            have hn0 : (0 : Int) < (((0 + 1) : Nat) : Int) := by omega
            have hnew := RAt.made stR w5 [x] w5.heap.size rfl
            have HLN : Hid ((T ++ [s]).length = (0 + 1)) := Lib.hid HL5.out.symm
            have hml : (0 + 1) + 1 ≤ maxLen := by unfold maxLen; omega
            have hby : ((0 + 1) + 1) * 16 ≤ 140737488355328 := by omega
            have hba : w.heap.size ≤ (w5.alloc (.cells #[.string x] 9)).heap.size := by have := HS5.out.2.1.size; simp; omega
            have howna := HO5.out.alloc (.cells #[.string x] 9)
            clear hx
            go_wp2_with (at_builtin; refine wpList_append_rows rfl (.tmp 37) (.tmp 41) 23 rfl stR w.heap.size i0 _ 16 Tryz.underlying23 hi0 hq0 hq1 hq2 rfl (by decide) _ (T ++ [s]) [x] (0 + 1) HLN.out rfl howna (some ⟨w5.heap.size, 0, none⟩) 1 1 rfl rfl hnew (fun e => by cases e) (fun q e => by cases e; rfl) hml hby hba ?_)
            intro v' w9 hown hgrow hnn
            obtain ⟨A9, N9, cap9, rfl⟩ := hown.val
            have hN9 := hown.len.1
            have HR9 := Lib.hid (rd_far (HS5.out.1.below (below_new' w5 (.cells #[.string x] 9)) HS5.out.1.lt) hgrow (fun g e => by have h1 := (World.ownsRow.lt HO5.out g e).1; have h2 := HS5.out.2.2.1; omega))
            have HG9 := Lib.hid (gr_far (gr_trans HS5.out.2.1 (gr_below (below_new' w5 (.cells #[.string x] 9)) _)) hgrow (fun g e => (World.ownsRow.lt HO5.out g e).1))
            have HO9 := Lib.hid hown
            clear hown hgrow hnn hnew howna
            go_wp2
            go_ret
            exact ⟨A9, N9, cap9, (T ++ [s]) ++ [x], _, rfl, by omega, HR9.out, (by have h9 := HO9.out; first | exact h9 | simpa [List.append_assoc] using h9), HG9.out, by rw [List.length_append, HLN.out]; simp only [List.length_cons, List.length_nil]; omega, small_app HS5.out.2.2.2.2.2.2.1 (fun g hg => by simp at hg; rw [hg]; exact hxs)⟩
          have h0' : ((y : Int) == 0) = false := beq_eq_false_iff_ne.2 (by omega)
          by_cases h1 : y = 1
          ·
            subst h1
            have hc0 : (0 : Int) ≤ (cap9 : Int) := by omega
            have HOF := Lib.hid (HO5.out.front (Nat.zero_le _))
            go_wp2
            go_ret
            exact ⟨_, 0, _, _, _, rfl, by omega, HS5.out.1, HOF.out, HS5.out.2.1, by simp, fun g hg => by simp at hg⟩
          have h1' : ((y : Int) == 1) = false := beq_eq_false_iff_ne.2 (by omega)
          by_cases h2 : y = 2
          ·
            subst h2
            have hnew := RAt.made stR w5 [(⟨#[100, 97, 110]⟩ : ByteArray), ⟨#[101, 118, 101]⟩] w5.heap.size rfl
            have HLN : Hid ((T ++ [s]).length = (0 + 1)) := Lib.hid HL5.out.symm
            have hml : (0 + 1) + 2 ≤ maxLen := by unfold maxLen; omega
            have hby : ((0 + 1) + 2) * 16 ≤ 140737488355328 := by omega
            have hba : w.heap.size ≤ (w5.alloc (.cells #[.string ⟨#[100, 97, 110]⟩, .string ⟨#[101, 118, 101]⟩] 9)).heap.size := by have := HS5.out.2.1.size; simp; omega
            have howna := HO5.out.alloc (.cells #[.string ⟨#[100, 97, 110]⟩, .string ⟨#[101, 118, 101]⟩] 9)
            go_wp2_with (at_builtin; refine wpList_append_rows rfl (.tmp 49) (.tmp 50) 23 rfl stR w.heap.size i0 _ 16 Tryz.underlying23 hi0 hq0 hq1 hq2 rfl (by decide) _ (T ++ [s]) [(⟨#[100, 97, 110]⟩ : ByteArray), ⟨#[101, 118, 101]⟩] (0 + 1) HLN.out rfl howna (some ⟨w5.heap.size, 0, none⟩) 2 2 rfl rfl hnew (fun e => by cases e) (fun q e => by cases e; rfl) hml hby hba ?_)
            intro v' w9 hown hgrow hnn
            obtain ⟨A9, N9, cap9, rfl⟩ := hown.val
            have hN9 := hown.len.1
            have HR9 := Lib.hid (rd_far (HS5.out.1.below (below_new' w5 (.cells #[.string ⟨#[100, 97, 110]⟩, .string ⟨#[101, 118, 101]⟩] 9)) HS5.out.1.lt) hgrow (fun g e => by have h1 := (World.ownsRow.lt HO5.out g e).1; have h2 := HS5.out.2.2.1; omega))
            have HG9 := Lib.hid (gr_far (gr_trans HS5.out.2.1 (gr_below (below_new' w5 (.cells #[.string ⟨#[100, 97, 110]⟩, .string ⟨#[101, 118, 101]⟩] 9)) _)) hgrow (fun g e => (World.ownsRow.lt HO5.out g e).1))
            have HO9 := Lib.hid hown
            clear hown hgrow hnn hnew howna
            go_wp2
            go_ret
            exact ⟨A9, N9, cap9, (T ++ [s]) ++ [(⟨#[100, 97, 110]⟩ : ByteArray), ⟨#[101, 118, 101]⟩], _, rfl, by omega, HR9.out, (by have h9 := HO9.out; first | exact h9 | simpa [List.append_assoc] using h9), HG9.out, by rw [List.length_append, HLN.out]; simp only [List.length_cons, List.length_nil]; omega, small_app HS5.out.2.2.2.2.2.2.1 (fun g hg => by simp at hg; rcases hg with rfl | rfl <;> decide)⟩
          have h2' : ((y : Int) == 2) = false := beq_eq_false_iff_ne.2 (by omega)
          go_wp2
          go_ret
          exact ⟨_, _, _, _, _, rfl, by omega, HS5.out.1, HO5.out, HS5.out.2.1, by have := HL5.out; omega, HS5.out.2.2.2.2.2.2.1⟩
      ·
        have hn0' : ((n : Int) == 0) = false := beq_eq_false_iff_ne.2 (by omega)
        go_wp2_with fail
        refine (pick_any b (q) 20 _ HS.out.1 (by omega) (by omega) (by omega)).mono ?_
        rintro e w5 ⟨y, hy, rfl, hr, hg⟩
        have HS5 := Lib.hid (TSt.read HS.out hr hg)
        clear hr hg
        have HO5 := Lib.hid HS5.out.own
        have HL5 := Lib.hid HO5.out.len.1
        obtain ⟨g5, hg5⟩ : ∃ g, A = some ⟨g, 0, none⟩ := by
          obtain ⟨A', c', he, _, _, _, _, hne⟩ := HO5.out.form
          injection he with he1 he2 he3
          subst he1
          exact hne (fun e => by have h9 := HL5.out; rw [e] at h9; first | (simp at h9; done) | (simp at h9; omega))
        subst hg5
        by_cases h0 : y = 0
        ·
          subst h0
          obtain ⟨x, hx⟩ : ∃ x, (T)[0]? = some x := ⟨_, List.getElem?_eq_getElem (by rw [← HL5.out]; omega)⟩
          have hxs : x.size ≤ 30 := HS5.out.2.2.2.2.2.2.1 x (List.mem_of_getElem? hx)
          obtain ⟨b0, o0, hA0, hb0, k0⟩ := str_at HO5.out.at hx
          cases hA0
          simp only [Nat.add_zero] at k0
          have hn0 : (0 : Int) < ((n : Nat) : Int) := by omega
          have hnew := RAt.made stR w5 [x] w5.heap.size rfl
          have HLN : Hid ((T).length = n) := Lib.hid HL5.out.symm
          have hml : n + 1 ≤ maxLen := by unfold maxLen; omega
          have hby : (n + 1) * 16 ≤ 140737488355328 := by omega
          have hba : w.heap.size ≤ (w5.alloc (.cells #[.string x] 9)).heap.size := by have := HS5.out.2.1.size; simp; omega
          have howna := HO5.out.alloc (.cells #[.string x] 9)
          clear hx
          go_wp2_with (at_builtin; refine wpList_append_rows rfl (.tmp 37) (.tmp 41) 23 rfl stR w.heap.size i0 _ 16 Tryz.underlying23 hi0 hq0 hq1 hq2 rfl (by decide) _ (T) [x] n HLN.out rfl howna (some ⟨w5.heap.size, 0, none⟩) 1 1 rfl rfl hnew (fun e => by cases e) (fun q e => by cases e; rfl) hml hby hba ?_)
          intro v' w9 hown hgrow hnn
          obtain ⟨A9, N9, cap9, rfl⟩ := hown.val
          have hN9 := hown.len.1
          have HR9 := Lib.hid (rd_far (HS5.out.1.below (below_new' w5 (.cells #[.string x] 9)) HS5.out.1.lt) hgrow (fun g e => by have h1 := (World.ownsRow.lt HO5.out g e).1; have h2 := HS5.out.2.2.1; omega))
          have HG9 := Lib.hid (gr_far (gr_trans HS5.out.2.1 (gr_below (below_new' w5 (.cells #[.string x] 9)) _)) hgrow (fun g e => (World.ownsRow.lt HO5.out g e).1))
          have HO9 := Lib.hid hown
          clear hown hgrow hnn hnew howna
          go_wp2
          go_ret
          exact ⟨A9, N9, cap9, (T) ++ [x], _, rfl, by omega, HR9.out, (by have h9 := HO9.out; first | exact h9 | simpa [List.append_assoc] using h9), HG9.out, by rw [List.length_append, HLN.out]; simp only [List.length_cons, List.length_nil]; omega, small_app HS5.out.2.2.2.2.2.2.1 (fun g hg => by simp at hg; rw [hg]; exact hxs)⟩
        have h0' : ((y : Int) == 0) = false := beq_eq_false_iff_ne.2 (by omega)
        by_cases h1 : y = 1
        ·
          subst h1
          have hc0 : (0 : Int) ≤ (cap : Int) := by omega
          have HOF := Lib.hid (HO5.out.front (Nat.zero_le _))
          go_wp2
          go_ret
          exact ⟨_, 0, _, _, _, rfl, by omega, HS5.out.1, HOF.out, HS5.out.2.1, by simp, fun g hg => by simp at hg⟩
        have h1' : ((y : Int) == 1) = false := beq_eq_false_iff_ne.2 (by omega)
        by_cases h2 : y = 2
        ·
          subst h2
          have hnew := RAt.made stR w5 [(⟨#[100, 97, 110]⟩ : ByteArray), ⟨#[101, 118, 101]⟩] w5.heap.size rfl
          have HLN : Hid ((T).length = n) := Lib.hid HL5.out.symm
          have hml : n + 2 ≤ maxLen := by unfold maxLen; omega
          have hby : (n + 2) * 16 ≤ 140737488355328 := by omega
          have hba : w.heap.size ≤ (w5.alloc (.cells #[.string ⟨#[100, 97, 110]⟩, .string ⟨#[101, 118, 101]⟩] 9)).heap.size := by have := HS5.out.2.1.size; simp; omega
          have howna := HO5.out.alloc (.cells #[.string ⟨#[100, 97, 110]⟩, .string ⟨#[101, 118, 101]⟩] 9)
          go_wp2_with (at_builtin; refine wpList_append_rows rfl (.tmp 49) (.tmp 50) 23 rfl stR w.heap.size i0 _ 16 Tryz.underlying23 hi0 hq0 hq1 hq2 rfl (by decide) _ (T) [(⟨#[100, 97, 110]⟩ : ByteArray), ⟨#[101, 118, 101]⟩] n HLN.out rfl howna (some ⟨w5.heap.size, 0, none⟩) 2 2 rfl rfl hnew (fun e => by cases e) (fun q e => by cases e; rfl) hml hby hba ?_)
          intro v' w9 hown hgrow hnn
          obtain ⟨A9, N9, cap9, rfl⟩ := hown.val
          have hN9 := hown.len.1
          have HR9 := Lib.hid (rd_far (HS5.out.1.below (below_new' w5 (.cells #[.string ⟨#[100, 97, 110]⟩, .string ⟨#[101, 118, 101]⟩] 9)) HS5.out.1.lt) hgrow (fun g e => by have h1 := (World.ownsRow.lt HO5.out g e).1; have h2 := HS5.out.2.2.1; omega))
          have HG9 := Lib.hid (gr_far (gr_trans HS5.out.2.1 (gr_below (below_new' w5 (.cells #[.string ⟨#[100, 97, 110]⟩, .string ⟨#[101, 118, 101]⟩] 9)) _)) hgrow (fun g e => (World.ownsRow.lt HO5.out g e).1))
          have HO9 := Lib.hid hown
          clear hown hgrow hnn hnew howna
          go_wp2
          go_ret
          exact ⟨A9, N9, cap9, (T) ++ [(⟨#[100, 97, 110]⟩ : ByteArray), ⟨#[101, 118, 101]⟩], _, rfl, by omega, HR9.out, (by have h9 := HO9.out; first | exact h9 | simpa [List.append_assoc] using h9), HG9.out, by rw [List.length_append, HLN.out]; simp only [List.length_cons, List.length_nil]; omega, small_app HS5.out.2.2.2.2.2.2.1 (fun g hg => by simp at hg; rcases hg with rfl | rfl <;> decide)⟩
        have h2' : ((y : Int) == 2) = false := beq_eq_false_iff_ne.2 (by omega)
        go_wp2
        go_ret
        exact ⟨_, _, _, _, _, rfl, by omega, HS5.out.1, HO5.out, HS5.out.2.1, by have := HL5.out; omega, HS5.out.2.2.2.2.2.2.1⟩
end Go.Proofs.YtichajalinkcdaaGreatDoor
