/-
  My texts Tj, Tk, Tn, Tp, Tq in one, so that a claim holds fewer files. Conditions: each contract's own.
-/
import Derived.Test.YtichajalinkcdaaQg
import Derived.ArgAppend
namespace Go.Proofs.Ytichajalinkcdaa
open Go.RowKit
set_option linter.unusedVariables false


/-- What cutting a line leaves. -/
theorem spec_cutw (l : ByteArray) (w : World) (hl : l.size ≤ 2097152) : Calls Try.prog 64 #[.string l, .int .u8 32] w fun e w' => ∃ g N cap, e = .returned (.slice (some ⟨g, 0, none⟩) N cap) ∧ WIn w' (some ⟨g, 0, none⟩) N (wdsF l) ∧ Below w.heap.size w w' := by
  refine (cut_any l 32 w (by omega)).mono ?_
  rintro e w' ⟨g, cap, rfl, hg1, hg2, hc, hb⟩
  refine ⟨g, _, cap, rfl, ⟨by unfold wdsF; rw [List.length_map]; rfl, fun i x hx => ⟨g, 0, rfl, hg2, fun j u hu => ?_⟩⟩, hb⟩
  have hi := (List.getElem?_eq_some_iff.1 hx).1
  unfold wdsF at hi hx
  rw [List.length_map] at hi
  have hj : j = 0 := by
    have := (List.getElem?_eq_some_iff.1 hu).1
    simp [stR] at this
    omega
  subst hj
  simp [stR] at hu
  subst hu
  have h1 := hc i hi
  simp only [stR, Nat.zero_add, Nat.mul_one, Nat.add_zero]
  rw [h1]
  rw [List.getElem?_map, List.getElem?_eq_getElem hi] at hx
  have hx2 := Option.some.inj hx
  rw [List.getD_eq_getElem?_getD, ← hx2]
  show some (str ((cut 32 (kb l))[i]?.getD [])) = _
  rw [List.getElem?_eq_getElem hi]
  rfl
theorem lineF_6 {s : Sb} {L : List Us} {d l u : ByteArray} {o : Bool} (h : s.st = 6) : lineF s L d l u o = (s, 503) := by unfold lineF; rw [if_pos h]
theorem lineF_5 {s : Sb} {L : List Us} {d l u : ByteArray} {o : Bool} (h : s.st = 5) : lineF s L d l u o = dataF s l := by unfold lineF; rw [if_neg (by omega), if_pos h]
theorem lineF_w {s : Sb} {L : List Us} {d l u x : ByteArray} {o : Bool} (h6 : s.st ≠ 6) (h5 : s.st ≠ 5) (hx : (wdsF l).getD 0 eB = x) : lineF s L d l u o = if x = wEHLO then helloF s (wdsF l) else if x = wAUTH then authF s (wdsF l) u o else if x = wMAIL then mailF s d l else if x = wRCPT then rcptF s L d l else cmdF s l := by
  unfold lineF
  rw [if_neg h6, if_neg h5, hx]
theorem lineF_c {s : Sb} {L : List Us} {d l u x : ByteArray} {o : Bool} (h6 : s.st ≠ 6) (h5 : s.st ≠ 5) (hx : (wdsF l).getD 0 eB = x) (h1 : x ≠ wEHLO) (h2 : x ≠ wAUTH) (h3 : x ≠ wMAIL) (h4 : x ≠ wRCPT) : lineF s L d l u o = cmdF s l := by
  rw [lineF_w h6 h5 hx, if_neg h1, if_neg h2, if_neg h3, if_neg h4]

set_option maxRecDepth 20000 in
set_option maxHeartbeats 8000000 in
theorem spec_line (st : Int) (us tx d l u : ByteArray) (ok : Bool) (T : List ByteArray) (L : List Us) (A AU : Option Addr) (N cap NU cU : Nat) (w : World) (h : SIn w A N cap T) (hL : UIn w AU NU cU L) (hl : l.size ≤ 2097152) (ht : tx.size ≤ 21) (hT : T.length ≤ 10) (hup : (wdsF l).length = 3 → IsUp L ((wdsF l).getD 2 eB) u ok) : Calls Try.prog 58 #[.agg #[.int .i64 st, .string us, .slice A N cap, .string tx], .slice AU NU cU, .string d, .string l] w (GiveS w A (lineF ⟨st, us, T, tx⟩ L d l u ok)) := by
  have HLL := Lib.hid (hL.below (two_made w #[.int .i64 st, .string us, .slice A N cap, .string tx] #[.int .i64 0, .string ⟨#[]⟩, .slice none 0 0, .string ⟨#[]⟩]).2.2 (Nat.le_refl _))
  have HUP := Lib.hid hup
  clear hL hup
  have HI := Lib.hid h
  obtain ⟨hs, hr, hB⟩ := two_made w #[.int .i64 st, .string us, .slice A N cap, .string tx] #[.int .i64 0, .string ⟨#[]⟩, .slice none 0 0, .string ⟨#[]⟩]
  have c0 := hs.cell 0
  have c1 := hs.cell 1
  have c2 := hs.cell 2
  have c3 := hs.cell 3
  have z0 := hr.cell 0
  have z1 := hr.cell 1
  have z2 := hr.cell 2
  have z3 := hr.cell 3
  have f0 := hr.free 0
  have f1 := hr.free 1
  have f2 := hr.free 2
  have f3 := hr.free 3
  simp only [List.getElem?_toArray, List.getElem?_cons_zero, List.getElem?_cons_succ] at c0 c1 c2 c3 z0 z1 z2 z3
  have HS := Lib.hid hs
  have HR := Lib.hid hr
  have HB := Lib.hid hB
  clear h hs hr hB
  have hne : ∀ q, A = some q → q.block ≠ w.heap.size + 1 := fun q e => by have := HI.out.lt q e; omega
  have HNE := Lib.hid hne
  clear hne
  by_cases h6 : st = 6
  ·
    subst h6
    have HE : Hid (lineF ⟨6, us, T, tx⟩ L d l u ok = (⟨6, us, T, tx⟩, 503)) := Lib.hid (lineF_6 rfl)
    go_enter Try.func58, Try.ntmps58
    go_wp2_with fail
    refine (spec_cutw l _ hl).mono ?_
    rintro e w2 ⟨gw, Nw, capw, rfl, hw, hb2⟩
    have HW2 := Lib.hid hw
    have HS2 := Lib.hid (HS.out.below hb2 HS.out.lt)
    have HR2 := Lib.hid (HR.out.below hb2 HR.out.lt)
    have HB2 := Lib.hid (HB.out.trans (hb2.mono HB.out.size))
    have HL2 := Lib.hid (HLL.out.below hb2 (Nat.le_refl _))
    have HI2 := Lib.hid (HI.out.below HB2.out (Nat.le_refl _))
    have HZ2 : Hid (w.heap.size + 1 < w2.heap.size) := Lib.hid HR2.out.lt
    have HN2 : Hid (w.heap.size ≤ w2.heap.size) := Lib.hid HB2.out.size
    clear hb2 hw c0 c1 c2 c3 z0 z1 z2 z3 f0 f1 f2 f3
    have hs := HS2.out
    have c0 := hs.cell 0
    have c1 := hs.cell 1
    have c2 := hs.cell 2
    have c3 := hs.cell 3
    simp only [List.getElem?_toArray, List.getElem?_cons_zero, List.getElem?_cons_succ] at c0 c1 c2 c3
    clear hs
    have hs := HS2.out
    have hr := HR2.out
    have c0 := hs.cell 0
    have c1 := hs.cell 1
    have c2 := hs.cell 2
    have c3 := hs.cell 3
    have z0 := hr.cell 0
    have z1 := hr.cell 1
    have z2 := hr.cell 2
    have z3 := hr.cell 3
    have f0 := hr.free 0
    have f1 := hr.free 1
    have f2 := hr.free 2
    have f3 := hr.free 3
    simp only [List.getElem?_toArray, List.getElem?_cons_zero, List.getElem?_cons_succ] at c0 c1 c2 c3 z0 z1 z2 z3
    have hf := put_sb hr (.int .i64 6) (.string us) (.slice A N cap) (.string tx)
    have r0 := hf.cell 0
    have r1 := hf.cell 1
    have r2 := hf.cell 2
    have r3 := hf.cell 3
    simp only [List.getElem?_toArray, List.getElem?_cons_zero, List.getElem?_cons_succ] at r0 r1 r2 r3
    clear hs hr hf
    go_wp2
    refine bodyPost_ret (v := .tuple #[.agg #[.int .i64 6, .string us, .slice A N cap, .string tx], .int .i64 503]) (by simp [results, Try.results58, go_sem, r0, r1, r2, r3]) rfl ?_
    rw [HE.out]
    exact ⟨_, _, _, rfl, HI2.out.set4 HNE.out _ _ _ _, Fr.same _ _, below_set4 HB2.out (by omega) _ _ _ _⟩
  have h6' : (st == 6) = false := beq_eq_false_iff_ne.2 h6
  by_cases h5 : st = 5
  ·
    subst h5
    obtain ⟨⟨⟨st1, us1, T1, tx1⟩, n1⟩, hr⟩ : ∃ x, dataF ⟨5, us, T, tx⟩ l = x := ⟨_, rfl⟩
    have HE : Hid (lineF ⟨5, us, T, tx⟩ L d l u ok = (⟨st1, us1, T1, tx1⟩, n1)) := Lib.hid ((lineF_5 rfl).trans hr)
    have HRR := Lib.hid hr
    clear hr
    go_enter Try.func58, Try.ntmps58
    go_wp2_with fail
    refine (spec_cutw l _ hl).mono ?_
    rintro e w2 ⟨gw, Nw, capw, rfl, hw, hb2⟩
    have HW2 := Lib.hid hw
    have HS2 := Lib.hid (HS.out.below hb2 HS.out.lt)
    have HR2 := Lib.hid (HR.out.below hb2 HR.out.lt)
    have HB2 := Lib.hid (HB.out.trans (hb2.mono HB.out.size))
    have HL2 := Lib.hid (HLL.out.below hb2 (Nat.le_refl _))
    have HI2 := Lib.hid (HI.out.below HB2.out (Nat.le_refl _))
    have HZ2 : Hid (w.heap.size + 1 < w2.heap.size) := Lib.hid HR2.out.lt
    have HN2 : Hid (w.heap.size ≤ w2.heap.size) := Lib.hid HB2.out.size
    clear hb2 hw c0 c1 c2 c3 z0 z1 z2 z3 f0 f1 f2 f3
    have hs := HS2.out
    have c0 := hs.cell 0
    have c1 := hs.cell 1
    have c2 := hs.cell 2
    have c3 := hs.cell 3
    simp only [List.getElem?_toArray, List.getElem?_cons_zero, List.getElem?_cons_succ] at c0 c1 c2 c3
    clear hs
    have HC := Lib.hid (spec_data 5 us tx l T A N cap w2 HI2.out ht hl)
    rw [HRR.out] at HC
    go_wp2_with fail
    refine HC.out.mono ?_
    rintro e w3 ⟨A3, N3, cap3, rfl, hI3, hF3, hb3⟩
    have HI3 := Lib.hid hI3
    have HF3 := Lib.hid hF3
    have HS3 := Lib.hid (HS2.out.below hb3 HS2.out.lt)
    have HR3 := Lib.hid (HR2.out.below hb3 HR2.out.lt)
    have HB3 := Lib.hid (HB2.out.trans (hb3.mono HB2.out.size))
    clear hI3 hF3 hb3 c0 c1 c2 c3
    try clear k0
    have hs := HS3.out
    have hr := HR3.out
    have c0 := hs.cell 0
    have c1 := hs.cell 1
    have c2 := hs.cell 2
    have c3 := hs.cell 3
    have z0 := hr.cell 0
    have z1 := hr.cell 1
    have z2 := hr.cell 2
    have z3 := hr.cell 3
    have f0 := hr.free 0
    have f1 := hr.free 1
    have f2 := hr.free 2
    have f3 := hr.free 3
    simp only [List.getElem?_toArray, List.getElem?_cons_zero, List.getElem?_cons_succ] at c0 c1 c2 c3 z0 z1 z2 z3
    have hf := put_sb hr (.int .i64 st1) (.string us1) (.slice A3 N3 cap3) (.string tx1)
    have r0 := hf.cell 0
    have r1 := hf.cell 1
    have r2 := hf.cell 2
    have r3 := hf.cell 3
    simp only [List.getElem?_toArray, List.getElem?_cons_zero, List.getElem?_cons_succ] at r0 r1 r2 r3
    clear hs hr hf
    go_wp2
    refine bodyPost_ret (v := .tuple #[.agg #[.int .i64 st1, .string us1, .slice A3 N3 cap3, .string tx1], .int .i64 n1]) (by simp [results, Try.results58, go_sem, r0, r1, r2, r3]) rfl ?_
    rw [HE.out]
    exact ⟨_, _, _, rfl, HI3.out.set4 (fun q e => by
        rcases HF3.out q e with ⟨p, hp, hq⟩ | hq
        · have := HI.out.lt p hp; omega
        · have := HZ2.out; omega) _ _ _ _, (HF3.out.from HN2.out), below_set4 HB3.out (by omega) _ _ _ _⟩
  have h5' : (st == 5) = false := beq_eq_false_iff_ne.2 h5
  obtain ⟨x, hx⟩ : ∃ x, (wdsF l)[0]? = some x := ⟨_, List.getElem?_eq_getElem (by have := (wdsF_len l).1; omega)⟩
  have hg : (wdsF l).getD 0 eB = x := by rw [List.getD_eq_getElem?_getD, hx]; rfl
  have HX := Lib.hid hx
  have HG := Lib.hid hg
  have HN6 := Lib.hid h6
  have HN5 := Lib.hid h5
  clear hx hg h6 h5
  by_cases hEHLO : x = wEHLO
  ·
    subst hEHLO
    obtain ⟨⟨⟨st1, us1, T1, tx1⟩, n1⟩, hr⟩ : ∃ x, helloF ⟨st, us, T, tx⟩ (wdsF l) = x := ⟨_, rfl⟩
    have HE : Hid (lineF ⟨st, us, T, tx⟩ L d l u ok = (⟨st1, us1, T1, tx1⟩, n1)) := Lib.hid ((lineF_w HN6.out HN5.out HG.out).trans (by rw [if_pos rfl]; exact hr))
    have HRR := Lib.hid hr
    clear hr
    go_enter Try.func58, Try.ntmps58
    go_wp2_with fail
    refine (spec_cutw l _ hl).mono ?_
    rintro e w2 ⟨gw, Nw, capw, rfl, hw, hb2⟩
    have HW2 := Lib.hid hw
    have HS2 := Lib.hid (HS.out.below hb2 HS.out.lt)
    have HR2 := Lib.hid (HR.out.below hb2 HR.out.lt)
    have HB2 := Lib.hid (HB.out.trans (hb2.mono HB.out.size))
    have HL2 := Lib.hid (HLL.out.below hb2 (Nat.le_refl _))
    have HI2 := Lib.hid (HI.out.below HB2.out (Nat.le_refl _))
    have HZ2 : Hid (w.heap.size + 1 < w2.heap.size) := Lib.hid HR2.out.lt
    have HN2 : Hid (w.heap.size ≤ w2.heap.size) := Lib.hid HB2.out.size
    clear hb2 hw c0 c1 c2 c3 z0 z1 z2 z3 f0 f1 f2 f3
    have hs := HS2.out
    have c0 := hs.cell 0
    have c1 := hs.cell 1
    have c2 := hs.cell 2
    have c3 := hs.cell 3
    simp only [List.getElem?_toArray, List.getElem?_cons_zero, List.getElem?_cons_succ] at c0 c1 c2 c3
    clear hs
    obtain ⟨b, o, hA', hbb, k0⟩ := str_at HW2.out.2 HX.out
    cases hA'
    simp only [Nat.add_zero] at k0
    have hNw : (0 : Int) < (Nw : Int) := by have := (wdsF_len l).1; have h2 := HW2.out.1; omega
    clear hbb
    unfold wEHLO at k0
    have HC := Lib.hid (spec_hello st us tx T (wdsF l) A (some ⟨gw, 0, none⟩) N cap Nw capw w2 HI2.out HW2.out (fun y hy => Nat.le_trans (wdsF_sizes l y hy) hl))
    rw [HRR.out] at HC
    go_wp2_with fail
    refine HC.out.mono ?_
    rintro e w3 ⟨A3, N3, cap3, rfl, hI3, hF3, hb3⟩
    have HI3 := Lib.hid hI3
    have HF3 := Lib.hid hF3
    have HS3 := Lib.hid (HS2.out.below hb3 HS2.out.lt)
    have HR3 := Lib.hid (HR2.out.below hb3 HR2.out.lt)
    have HB3 := Lib.hid (HB2.out.trans (hb3.mono HB2.out.size))
    clear hI3 hF3 hb3 c0 c1 c2 c3
    try clear k0
    have hs := HS3.out
    have hr := HR3.out
    have c0 := hs.cell 0
    have c1 := hs.cell 1
    have c2 := hs.cell 2
    have c3 := hs.cell 3
    have z0 := hr.cell 0
    have z1 := hr.cell 1
    have z2 := hr.cell 2
    have z3 := hr.cell 3
    have f0 := hr.free 0
    have f1 := hr.free 1
    have f2 := hr.free 2
    have f3 := hr.free 3
    simp only [List.getElem?_toArray, List.getElem?_cons_zero, List.getElem?_cons_succ] at c0 c1 c2 c3 z0 z1 z2 z3
    have hf := put_sb hr (.int .i64 st1) (.string us1) (.slice A3 N3 cap3) (.string tx1)
    have r0 := hf.cell 0
    have r1 := hf.cell 1
    have r2 := hf.cell 2
    have r3 := hf.cell 3
    simp only [List.getElem?_toArray, List.getElem?_cons_zero, List.getElem?_cons_succ] at r0 r1 r2 r3
    clear hs hr hf
    go_wp2
    refine bodyPost_ret (v := .tuple #[.agg #[.int .i64 st1, .string us1, .slice A3 N3 cap3, .string tx1], .int .i64 n1]) (by simp [results, Try.results58, go_sem, r0, r1, r2, r3]) rfl ?_
    rw [HE.out]
    exact ⟨_, _, _, rfl, HI3.out.set4 (fun q e => by
        rcases HF3.out q e with ⟨p, hp, hq⟩ | hq
        · have := HI.out.lt p hp; omega
        · have := HZ2.out; omega) _ _ _ _, (HF3.out.from HN2.out), below_set4 HB3.out (by omega) _ _ _ _⟩
  have HNEHLO := Lib.hid hEHLO
  obtain ⟨vEHLO1, vEHLO2, vEHLO3⟩ := lit_walk (xs := [69, 72, 76, 79]) rfl hEHLO
  clear hEHLO
  by_cases hAUTH : x = wAUTH
  ·
    subst hAUTH
    obtain ⟨⟨⟨st1, us1, T1, tx1⟩, n1⟩, hr⟩ : ∃ x, authF ⟨st, us, T, tx⟩ (wdsF l) u ok = x := ⟨_, rfl⟩
    have HE : Hid (lineF ⟨st, us, T, tx⟩ L d l u ok = (⟨st1, us1, T1, tx1⟩, n1)) := Lib.hid ((lineF_w HN6.out HN5.out HG.out).trans (by rw [if_neg (show wAUTH ≠ wEHLO by decide), if_pos rfl]; exact hr))
    have HRR := Lib.hid hr
    clear hr vEHLO1 vEHLO2 vEHLO3
    go_enter Try.func58, Try.ntmps58
    go_wp2_with fail
    refine (spec_cutw l _ hl).mono ?_
    rintro e w2 ⟨gw, Nw, capw, rfl, hw, hb2⟩
    have HW2 := Lib.hid hw
    have HS2 := Lib.hid (HS.out.below hb2 HS.out.lt)
    have HR2 := Lib.hid (HR.out.below hb2 HR.out.lt)
    have HB2 := Lib.hid (HB.out.trans (hb2.mono HB.out.size))
    have HL2 := Lib.hid (HLL.out.below hb2 (Nat.le_refl _))
    have HI2 := Lib.hid (HI.out.below HB2.out (Nat.le_refl _))
    have HZ2 : Hid (w.heap.size + 1 < w2.heap.size) := Lib.hid HR2.out.lt
    have HN2 : Hid (w.heap.size ≤ w2.heap.size) := Lib.hid HB2.out.size
    clear hb2 hw c0 c1 c2 c3 z0 z1 z2 z3 f0 f1 f2 f3
    have hs := HS2.out
    have c0 := hs.cell 0
    have c1 := hs.cell 1
    have c2 := hs.cell 2
    have c3 := hs.cell 3
    simp only [List.getElem?_toArray, List.getElem?_cons_zero, List.getElem?_cons_succ] at c0 c1 c2 c3
    clear hs
    obtain ⟨b, o, hA', hbb, k0⟩ := str_at HW2.out.2 HX.out
    cases hA'
    simp only [Nat.add_zero] at k0
    have hNw : (0 : Int) < (Nw : Int) := by have := (wdsF_len l).1; have h2 := HW2.out.1; omega
    clear hbb
    unfold wAUTH at k0
    have HC := Lib.hid (spec_auth st us tx u ok T (wdsF l) L A (some ⟨gw, 0, none⟩) AU N cap Nw capw NU cU w2 HI2.out HW2.out HL2.out (fun y hy => Nat.le_trans (wdsF_sizes l y hy) hl) HUP.out)
    rw [HRR.out] at HC
    go_wp2_with fail
    refine HC.out.mono ?_
    rintro e w3 ⟨A3, N3, cap3, rfl, hI3, hF3, hb3⟩
    have HI3 := Lib.hid hI3
    have HF3 := Lib.hid hF3
    have HS3 := Lib.hid (HS2.out.below hb3 HS2.out.lt)
    have HR3 := Lib.hid (HR2.out.below hb3 HR2.out.lt)
    have HB3 := Lib.hid (HB2.out.trans (hb3.mono HB2.out.size))
    clear hI3 hF3 hb3 c0 c1 c2 c3
    try clear k0
    have hs := HS3.out
    have hr := HR3.out
    have c0 := hs.cell 0
    have c1 := hs.cell 1
    have c2 := hs.cell 2
    have c3 := hs.cell 3
    have z0 := hr.cell 0
    have z1 := hr.cell 1
    have z2 := hr.cell 2
    have z3 := hr.cell 3
    have f0 := hr.free 0
    have f1 := hr.free 1
    have f2 := hr.free 2
    have f3 := hr.free 3
    simp only [List.getElem?_toArray, List.getElem?_cons_zero, List.getElem?_cons_succ] at c0 c1 c2 c3 z0 z1 z2 z3
    have hf := put_sb hr (.int .i64 st1) (.string us1) (.slice A3 N3 cap3) (.string tx1)
    have r0 := hf.cell 0
    have r1 := hf.cell 1
    have r2 := hf.cell 2
    have r3 := hf.cell 3
    simp only [List.getElem?_toArray, List.getElem?_cons_zero, List.getElem?_cons_succ] at r0 r1 r2 r3
    clear hs hr hf
    go_wp2
    refine bodyPost_ret (v := .tuple #[.agg #[.int .i64 st1, .string us1, .slice A3 N3 cap3, .string tx1], .int .i64 n1]) (by simp [results, Try.results58, go_sem, r0, r1, r2, r3]) rfl ?_
    rw [HE.out]
    exact ⟨_, _, _, rfl, HI3.out.set4 (fun q e => by
        rcases HF3.out q e with ⟨p, hp, hq⟩ | hq
        · have := HI.out.lt p hp; omega
        · have := HZ2.out; omega) _ _ _ _, (HF3.out.from HN2.out), below_set4 HB3.out (by omega) _ _ _ _⟩
  have HNAUTH := Lib.hid hAUTH
  obtain ⟨vAUTH1, vAUTH2, vAUTH3⟩ := lit_walk (xs := [65, 85, 84, 72]) rfl hAUTH
  clear hAUTH
  by_cases hMAIL : x = wMAIL
  ·
    subst hMAIL
    obtain ⟨⟨⟨st1, us1, T1, tx1⟩, n1⟩, hr⟩ : ∃ x, mailF ⟨st, us, T, tx⟩ d l = x := ⟨_, rfl⟩
    have HE : Hid (lineF ⟨st, us, T, tx⟩ L d l u ok = (⟨st1, us1, T1, tx1⟩, n1)) := Lib.hid ((lineF_w HN6.out HN5.out HG.out).trans (by rw [if_neg (show wMAIL ≠ wEHLO by decide), if_neg (show wMAIL ≠ wAUTH by decide), if_pos rfl]; exact hr))
    have HRR := Lib.hid hr
    clear hr vEHLO1 vEHLO2 vEHLO3 vAUTH1 vAUTH2 vAUTH3
    go_enter Try.func58, Try.ntmps58
    go_wp2_with fail
    refine (spec_cutw l _ hl).mono ?_
    rintro e w2 ⟨gw, Nw, capw, rfl, hw, hb2⟩
    have HW2 := Lib.hid hw
    have HS2 := Lib.hid (HS.out.below hb2 HS.out.lt)
    have HR2 := Lib.hid (HR.out.below hb2 HR.out.lt)
    have HB2 := Lib.hid (HB.out.trans (hb2.mono HB.out.size))
    have HL2 := Lib.hid (HLL.out.below hb2 (Nat.le_refl _))
    have HI2 := Lib.hid (HI.out.below HB2.out (Nat.le_refl _))
    have HZ2 : Hid (w.heap.size + 1 < w2.heap.size) := Lib.hid HR2.out.lt
    have HN2 : Hid (w.heap.size ≤ w2.heap.size) := Lib.hid HB2.out.size
    clear hb2 hw c0 c1 c2 c3 z0 z1 z2 z3 f0 f1 f2 f3
    have hs := HS2.out
    have c0 := hs.cell 0
    have c1 := hs.cell 1
    have c2 := hs.cell 2
    have c3 := hs.cell 3
    simp only [List.getElem?_toArray, List.getElem?_cons_zero, List.getElem?_cons_succ] at c0 c1 c2 c3
    clear hs
    obtain ⟨b, o, hA', hbb, k0⟩ := str_at HW2.out.2 HX.out
    cases hA'
    simp only [Nat.add_zero] at k0
    have hNw : (0 : Int) < (Nw : Int) := by have := (wdsF_len l).1; have h2 := HW2.out.1; omega
    clear hbb
    unfold wMAIL at k0
    have HC := Lib.hid (spec_mail st us tx d l T A N cap w2 HI2.out hl)
    rw [HRR.out] at HC
    go_wp2_with fail
    refine HC.out.mono ?_
    rintro e w3 ⟨A3, N3, cap3, rfl, hI3, hF3, hb3⟩
    have HI3 := Lib.hid hI3
    have HF3 := Lib.hid hF3
    have HS3 := Lib.hid (HS2.out.below hb3 HS2.out.lt)
    have HR3 := Lib.hid (HR2.out.below hb3 HR2.out.lt)
    have HB3 := Lib.hid (HB2.out.trans (hb3.mono HB2.out.size))
    clear hI3 hF3 hb3 c0 c1 c2 c3
    try clear k0
    have hs := HS3.out
    have hr := HR3.out
    have c0 := hs.cell 0
    have c1 := hs.cell 1
    have c2 := hs.cell 2
    have c3 := hs.cell 3
    have z0 := hr.cell 0
    have z1 := hr.cell 1
    have z2 := hr.cell 2
    have z3 := hr.cell 3
    have f0 := hr.free 0
    have f1 := hr.free 1
    have f2 := hr.free 2
    have f3 := hr.free 3
    simp only [List.getElem?_toArray, List.getElem?_cons_zero, List.getElem?_cons_succ] at c0 c1 c2 c3 z0 z1 z2 z3
    have hf := put_sb hr (.int .i64 st1) (.string us1) (.slice A3 N3 cap3) (.string tx1)
    have r0 := hf.cell 0
    have r1 := hf.cell 1
    have r2 := hf.cell 2
    have r3 := hf.cell 3
    simp only [List.getElem?_toArray, List.getElem?_cons_zero, List.getElem?_cons_succ] at r0 r1 r2 r3
    clear hs hr hf
    go_wp2
    refine bodyPost_ret (v := .tuple #[.agg #[.int .i64 st1, .string us1, .slice A3 N3 cap3, .string tx1], .int .i64 n1]) (by simp [results, Try.results58, go_sem, r0, r1, r2, r3]) rfl ?_
    rw [HE.out]
    exact ⟨_, _, _, rfl, HI3.out.set4 (fun q e => by
        rcases HF3.out q e with ⟨p, hp, hq⟩ | hq
        · have := HI.out.lt p hp; omega
        · have := HZ2.out; omega) _ _ _ _, (HF3.out.from HN2.out), below_set4 HB3.out (by omega) _ _ _ _⟩
  have HNMAIL := Lib.hid hMAIL
  obtain ⟨vMAIL1, vMAIL2, vMAIL3⟩ := lit_walk (xs := [77, 65, 73, 76]) rfl hMAIL
  clear hMAIL
  by_cases hRCPT : x = wRCPT
  ·
    subst hRCPT
    obtain ⟨⟨⟨st1, us1, T1, tx1⟩, n1⟩, hr⟩ : ∃ x, rcptF ⟨st, us, T, tx⟩ L d l = x := ⟨_, rfl⟩
    have HE : Hid (lineF ⟨st, us, T, tx⟩ L d l u ok = (⟨st1, us1, T1, tx1⟩, n1)) := Lib.hid ((lineF_w HN6.out HN5.out HG.out).trans (by rw [if_neg (show wRCPT ≠ wEHLO by decide), if_neg (show wRCPT ≠ wAUTH by decide), if_neg (show wRCPT ≠ wMAIL by decide), if_pos rfl]; exact hr))
    have HRR := Lib.hid hr
    clear hr vEHLO1 vEHLO2 vEHLO3 vAUTH1 vAUTH2 vAUTH3 vMAIL1 vMAIL2 vMAIL3
    go_enter Try.func58, Try.ntmps58
    go_wp2_with fail
    refine (spec_cutw l _ hl).mono ?_
    rintro e w2 ⟨gw, Nw, capw, rfl, hw, hb2⟩
    have HW2 := Lib.hid hw
    have HS2 := Lib.hid (HS.out.below hb2 HS.out.lt)
    have HR2 := Lib.hid (HR.out.below hb2 HR.out.lt)
    have HB2 := Lib.hid (HB.out.trans (hb2.mono HB.out.size))
    have HL2 := Lib.hid (HLL.out.below hb2 (Nat.le_refl _))
    have HI2 := Lib.hid (HI.out.below HB2.out (Nat.le_refl _))
    have HZ2 : Hid (w.heap.size + 1 < w2.heap.size) := Lib.hid HR2.out.lt
    have HN2 : Hid (w.heap.size ≤ w2.heap.size) := Lib.hid HB2.out.size
    clear hb2 hw c0 c1 c2 c3 z0 z1 z2 z3 f0 f1 f2 f3
    have hs := HS2.out
    have c0 := hs.cell 0
    have c1 := hs.cell 1
    have c2 := hs.cell 2
    have c3 := hs.cell 3
    simp only [List.getElem?_toArray, List.getElem?_cons_zero, List.getElem?_cons_succ] at c0 c1 c2 c3
    clear hs
    obtain ⟨b, o, hA', hbb, k0⟩ := str_at HW2.out.2 HX.out
    cases hA'
    simp only [Nat.add_zero] at k0
    have hNw : (0 : Int) < (Nw : Int) := by have := (wdsF_len l).1; have h2 := HW2.out.1; omega
    clear hbb
    unfold wRCPT at k0
    have HC := Lib.hid (spec_to st us tx d l T L A AU N cap NU cU w2 HI2.out HL2.out hl hT)
    rw [HRR.out] at HC
    go_wp2_with fail
    refine HC.out.mono ?_
    rintro e w3 ⟨A3, N3, cap3, rfl, hI3, hF3, hb3⟩
    have HI3 := Lib.hid hI3
    have HF3 := Lib.hid hF3
    have HS3 := Lib.hid (HS2.out.below hb3 HS2.out.lt)
    have HR3 := Lib.hid (HR2.out.below hb3 HR2.out.lt)
    have HB3 := Lib.hid (HB2.out.trans (hb3.mono HB2.out.size))
    clear hI3 hF3 hb3 c0 c1 c2 c3
    try clear k0
    have hs := HS3.out
    have hr := HR3.out
    have c0 := hs.cell 0
    have c1 := hs.cell 1
    have c2 := hs.cell 2
    have c3 := hs.cell 3
    have z0 := hr.cell 0
    have z1 := hr.cell 1
    have z2 := hr.cell 2
    have z3 := hr.cell 3
    have f0 := hr.free 0
    have f1 := hr.free 1
    have f2 := hr.free 2
    have f3 := hr.free 3
    simp only [List.getElem?_toArray, List.getElem?_cons_zero, List.getElem?_cons_succ] at c0 c1 c2 c3 z0 z1 z2 z3
    have hf := put_sb hr (.int .i64 st1) (.string us1) (.slice A3 N3 cap3) (.string tx1)
    have r0 := hf.cell 0
    have r1 := hf.cell 1
    have r2 := hf.cell 2
    have r3 := hf.cell 3
    simp only [List.getElem?_toArray, List.getElem?_cons_zero, List.getElem?_cons_succ] at r0 r1 r2 r3
    clear hs hr hf
    go_wp2
    refine bodyPost_ret (v := .tuple #[.agg #[.int .i64 st1, .string us1, .slice A3 N3 cap3, .string tx1], .int .i64 n1]) (by simp [results, Try.results58, go_sem, r0, r1, r2, r3]) rfl ?_
    rw [HE.out]
    exact ⟨_, _, _, rfl, HI3.out.set4 (fun q e => by
        rcases HF3.out q e with ⟨p, hp, hq⟩ | hq
        · have := HI.out.lt p hp; omega
        · have := HZ2.out; omega) _ _ _ _, (HF3.out.from HN2.out), below_set4 HB3.out (by omega) _ _ _ _⟩
  have HNRCPT := Lib.hid hRCPT
  obtain ⟨vRCPT1, vRCPT2, vRCPT3⟩ := lit_walk (xs := [82, 67, 80, 84]) rfl hRCPT
  clear hRCPT
  by_cases hDATA : l = wDATA
  ·
    by_cases h4 : st = 4
    ·
      have HE : Hid (lineF ⟨st, us, T, tx⟩ L d l u ok = (⟨5, us, T, tx⟩, 354)) := Lib.hid ((lineF_c HN6.out HN5.out HG.out HNEHLO.out HNAUTH.out HNMAIL.out HNRCPT.out).trans (by unfold cmdF; rw [if_pos hDATA]; simp only; rw [if_pos h4]))
      subst h4
      have hlit : l.toList = [68, 65, 84, 65] := by rw [hDATA, ByteArray.toList_eq]; rfl
      have HLT := Lib.hid hlit
      clear hDATA
      go_enter Try.func58, Try.ntmps58
      go_wp2_with fail
      refine (spec_cutw l _ hl).mono ?_
      rintro e w2 ⟨gw, Nw, capw, rfl, hw, hb2⟩
      have HW2 := Lib.hid hw
      have HS2 := Lib.hid (HS.out.below hb2 HS.out.lt)
      have HR2 := Lib.hid (HR.out.below hb2 HR.out.lt)
      have HB2 := Lib.hid (HB.out.trans (hb2.mono HB.out.size))
      have HL2 := Lib.hid (HLL.out.below hb2 (Nat.le_refl _))
      have HI2 := Lib.hid (HI.out.below HB2.out (Nat.le_refl _))
      have HZ2 : Hid (w.heap.size + 1 < w2.heap.size) := Lib.hid HR2.out.lt
      have HN2 : Hid (w.heap.size ≤ w2.heap.size) := Lib.hid HB2.out.size
      clear hb2 hw c0 c1 c2 c3 z0 z1 z2 z3 f0 f1 f2 f3
      have hs := HS2.out
      have c0 := hs.cell 0
      have c1 := hs.cell 1
      have c2 := hs.cell 2
      have c3 := hs.cell 3
      simp only [List.getElem?_toArray, List.getElem?_cons_zero, List.getElem?_cons_succ] at c0 c1 c2 c3
      clear hs
      obtain ⟨b, o, hA', hbb, k0⟩ := str_at HW2.out.2 HX.out
      cases hA'
      simp only [Nat.add_zero] at k0
      have hNw : (0 : Int) < (Nw : Int) := by have := (wdsF_len l).1; have h2 := HW2.out.1; omega
      clear hbb
      have hs := HS2.out
      have hr := HR2.out
      have e0 := hs.free 0
      have hs1 : Whole (w2.setCell ⟨w.heap.size, 0, none⟩ (.int .i64 5)) w.heap.size 25 #[.int .i64 5, .string us, .slice A N cap, .string tx] := hs.store 0 (.int .i64 5)
      have hr1 := hr.apart (p := ⟨w.heap.size, 0, none⟩) (show w.heap.size + 1 ≠ w.heap.size by omega) (.int .i64 5)
      have m0 := hs1.cell 0
      have m1 := hs1.cell 1
      have m2 := hs1.cell 2
      have m3 := hs1.cell 3
      have x0 := hr1.cell 0
      have x1 := hr1.cell 1
      have x2 := hr1.cell 2
      have x3 := hr1.cell 3
      have i0 := hr1.free 0
      have i1 := hr1.free 1
      have i2 := hr1.free 2
      have i3 := hr1.free 3
      simp only [List.getElem?_toArray, List.getElem?_cons_zero, List.getElem?_cons_succ] at m0 m1 m2 m3 x0 x1 x2 x3
      have c0 := hs.cell 0
      have c1 := hs.cell 1
      have c2 := hs.cell 2
      have c3 := hs.cell 3
      have z0 := hr.cell 0
      have z1 := hr.cell 1
      have z2 := hr.cell 2
      have z3 := hr.cell 3
      have f0 := hr.free 0
      have f1 := hr.free 1
      have f2 := hr.free 2
      have f3 := hr.free 3
      simp only [List.getElem?_toArray, List.getElem?_cons_zero, List.getElem?_cons_succ] at c0 c1 c2 c3 z0 z1 z2 z3
      have hf := put_sb hr1 (.int .i64 5) (.string us) (.slice A N cap) (.string tx)
      have r0 := hf.cell 0
      have r1 := hf.cell 1
      have r2 := hf.cell 2
      have r3 := hf.cell 3
      simp only [List.getElem?_toArray, List.getElem?_cons_zero, List.getElem?_cons_succ] at r0 r1 r2 r3
      clear hs hr hs1 hr1 hf
      go_wp2
      refine bodyPost_ret (v := .tuple #[.agg #[.int .i64 5, .string us, .slice A N cap, .string tx], .int .i64 354]) (by simp [results, Try.results58, go_sem, r0, r1, r2, r3]) rfl ?_
      rw [HE.out]
      exact ⟨_, _, _, rfl, (HI2.out.set (R := w.heap.size) (j := 0) (fun q e => by have := HI.out.lt q e; omega) (.int .i64 5)).set4 HNE.out _ _ _ _, Fr.same _ _, below_set4 (HB2.out.setCell (p := ⟨w.heap.size, 0, none⟩) (Nat.le_refl _) _) (by omega) _ _ _ _⟩
    ·
      have HE : Hid (lineF ⟨st, us, T, tx⟩ L d l u ok = (⟨st, us, T, tx⟩, 503)) := Lib.hid ((lineF_c HN6.out HN5.out HG.out HNEHLO.out HNAUTH.out HNMAIL.out HNRCPT.out).trans (by unfold cmdF; rw [if_pos hDATA]; simp only; rw [if_neg h4]))
      have h4' : (st == 4) = false := beq_eq_false_iff_ne.2 h4
      have hlit : l.toList = [68, 65, 84, 65] := by rw [hDATA, ByteArray.toList_eq]; rfl
      clear hDATA h4
      go_enter Try.func58, Try.ntmps58
      go_wp2_with fail
      refine (spec_cutw l _ hl).mono ?_
      rintro e w2 ⟨gw, Nw, capw, rfl, hw, hb2⟩
      have HW2 := Lib.hid hw
      have HS2 := Lib.hid (HS.out.below hb2 HS.out.lt)
      have HR2 := Lib.hid (HR.out.below hb2 HR.out.lt)
      have HB2 := Lib.hid (HB.out.trans (hb2.mono HB.out.size))
      have HL2 := Lib.hid (HLL.out.below hb2 (Nat.le_refl _))
      have HI2 := Lib.hid (HI.out.below HB2.out (Nat.le_refl _))
      have HZ2 : Hid (w.heap.size + 1 < w2.heap.size) := Lib.hid HR2.out.lt
      have HN2 : Hid (w.heap.size ≤ w2.heap.size) := Lib.hid HB2.out.size
      clear hb2 hw c0 c1 c2 c3 z0 z1 z2 z3 f0 f1 f2 f3
      have hs := HS2.out
      have c0 := hs.cell 0
      have c1 := hs.cell 1
      have c2 := hs.cell 2
      have c3 := hs.cell 3
      simp only [List.getElem?_toArray, List.getElem?_cons_zero, List.getElem?_cons_succ] at c0 c1 c2 c3
      clear hs
      obtain ⟨b, o, hA', hbb, k0⟩ := str_at HW2.out.2 HX.out
      cases hA'
      simp only [Nat.add_zero] at k0
      have hNw : (0 : Int) < (Nw : Int) := by have := (wdsF_len l).1; have h2 := HW2.out.1; omega
      clear hbb
      have hs := HS2.out
      have hr := HR2.out
      have c0 := hs.cell 0
      have c1 := hs.cell 1
      have c2 := hs.cell 2
      have c3 := hs.cell 3
      have z0 := hr.cell 0
      have z1 := hr.cell 1
      have z2 := hr.cell 2
      have z3 := hr.cell 3
      have f0 := hr.free 0
      have f1 := hr.free 1
      have f2 := hr.free 2
      have f3 := hr.free 3
      simp only [List.getElem?_toArray, List.getElem?_cons_zero, List.getElem?_cons_succ] at c0 c1 c2 c3 z0 z1 z2 z3
      have hf := put_sb hr (.int .i64 st) (.string us) (.slice A N cap) (.string tx)
      have r0 := hf.cell 0
      have r1 := hf.cell 1
      have r2 := hf.cell 2
      have r3 := hf.cell 3
      simp only [List.getElem?_toArray, List.getElem?_cons_zero, List.getElem?_cons_succ] at r0 r1 r2 r3
      clear hs hr hf
      go_wp2
      refine bodyPost_ret (v := .tuple #[.agg #[.int .i64 st, .string us, .slice A N cap, .string tx], .int .i64 503]) (by simp [results, Try.results58, go_sem, r0, r1, r2, r3]) rfl ?_
      rw [HE.out]
      exact ⟨_, _, _, rfl, HI2.out.set4 HNE.out _ _ _ _, Fr.same _ _, below_set4 HB2.out (by omega) _ _ _ _⟩
  obtain ⟨vd1, vd2, vd3⟩ := lit_walk (xs := [68, 65, 84, 65]) rfl hDATA
  by_cases hRSET : l = wRSET
  ·
    obtain ⟨s1, hs1⟩ : ∃ s1, backF ⟨st, us, T, tx⟩ = s1 := ⟨_, rfl⟩
    have HE : Hid (lineF ⟨st, us, T, tx⟩ L d l u ok = (s1, 250)) := Lib.hid ((lineF_c HN6.out HN5.out HG.out HNEHLO.out HNAUTH.out HNMAIL.out HNRCPT.out).trans (by unfold cmdF; rw [if_neg hDATA, if_pos hRSET, hs1]))
    have hlit : l.toList = [82, 83, 69, 84] := by rw [hRSET, ByteArray.toList_eq]; rfl
    obtain ⟨st1, us1, T1, tx1⟩ := s1
    have HS1 := Lib.hid hs1
    clear hRSET hDATA hs1
    go_enter Try.func58, Try.ntmps58
    go_wp2_with fail
    refine (spec_cutw l _ hl).mono ?_
    rintro e w2 ⟨gw, Nw, capw, rfl, hw, hb2⟩
    have HW2 := Lib.hid hw
    have HS2 := Lib.hid (HS.out.below hb2 HS.out.lt)
    have HR2 := Lib.hid (HR.out.below hb2 HR.out.lt)
    have HB2 := Lib.hid (HB.out.trans (hb2.mono HB.out.size))
    have HL2 := Lib.hid (HLL.out.below hb2 (Nat.le_refl _))
    have HI2 := Lib.hid (HI.out.below HB2.out (Nat.le_refl _))
    have HZ2 : Hid (w.heap.size + 1 < w2.heap.size) := Lib.hid HR2.out.lt
    have HN2 : Hid (w.heap.size ≤ w2.heap.size) := Lib.hid HB2.out.size
    clear hb2 hw c0 c1 c2 c3 z0 z1 z2 z3 f0 f1 f2 f3
    have hs := HS2.out
    have c0 := hs.cell 0
    have c1 := hs.cell 1
    have c2 := hs.cell 2
    have c3 := hs.cell 3
    simp only [List.getElem?_toArray, List.getElem?_cons_zero, List.getElem?_cons_succ] at c0 c1 c2 c3
    clear hs
    obtain ⟨b, o, hA', hbb, k0⟩ := str_at HW2.out.2 HX.out
    cases hA'
    simp only [Nat.add_zero] at k0
    have hNw : (0 : Int) < (Nw : Int) := by have := (wdsF_len l).1; have h2 := HW2.out.1; omega
    clear hbb
    go_wp2_with fail
    refine (sback_at HS1.out _).mono ?_
    rintro e w3 ⟨A3, N3, cap3, rfl, hI3, hF3, hb3⟩
    have HI3 := Lib.hid hI3
    have HF3 := Lib.hid hF3
    have HS3 := Lib.hid (HS2.out.below hb3 HS2.out.lt)
    have HR3 := Lib.hid (HR2.out.below hb3 HR2.out.lt)
    have HB3 := Lib.hid (HB2.out.trans (hb3.mono HB2.out.size))
    clear hI3 hF3 hb3 c0 c1 c2 c3
    try clear k0
    have hs := HS3.out
    have hr := HR3.out
    have c0 := hs.cell 0
    have c1 := hs.cell 1
    have c2 := hs.cell 2
    have c3 := hs.cell 3
    have z0 := hr.cell 0
    have z1 := hr.cell 1
    have z2 := hr.cell 2
    have z3 := hr.cell 3
    have f0 := hr.free 0
    have f1 := hr.free 1
    have f2 := hr.free 2
    have f3 := hr.free 3
    simp only [List.getElem?_toArray, List.getElem?_cons_zero, List.getElem?_cons_succ] at c0 c1 c2 c3 z0 z1 z2 z3
    have hf := put_sb hr (.int .i64 st1) (.string us1) (.slice A3 N3 cap3) (.string tx1)
    have r0 := hf.cell 0
    have r1 := hf.cell 1
    have r2 := hf.cell 2
    have r3 := hf.cell 3
    simp only [List.getElem?_toArray, List.getElem?_cons_zero, List.getElem?_cons_succ] at r0 r1 r2 r3
    clear hs hr hf
    go_wp2
    refine bodyPost_ret (v := .tuple #[.agg #[.int .i64 st1, .string us1, .slice A3 N3 cap3, .string tx1], .int .i64 250]) (by simp [results, Try.results58, go_sem, r0, r1, r2, r3]) rfl ?_
    rw [HE.out]
    exact ⟨_, _, _, rfl, HI3.out.set4 (fun q e => by
        rcases HF3.out q e with ⟨p, hp, hq⟩ | hq
        · have := HI.out.lt p hp; omega
        · have := HZ2.out; omega) _ _ _ _, (HF3.out.from HN2.out), below_set4 HB3.out (by omega) _ _ _ _⟩
  obtain ⟨vr1, vr2, vr3⟩ := lit_walk (xs := [82, 83, 69, 84]) rfl hRSET
  by_cases hNOOP : l = wNOOP
  ·
    have HE : Hid (lineF ⟨st, us, T, tx⟩ L d l u ok = (⟨st, us, T, tx⟩, 250)) := Lib.hid ((lineF_c HN6.out HN5.out HG.out HNEHLO.out HNAUTH.out HNMAIL.out HNRCPT.out).trans (by unfold cmdF; rw [if_neg hDATA, if_neg hRSET, if_pos hNOOP]))
    have hlit : l.toList = [78, 79, 79, 80] := by rw [hNOOP, ByteArray.toList_eq]; rfl
    clear hRSET hDATA hNOOP
    go_enter Try.func58, Try.ntmps58
    go_wp2_with fail
    refine (spec_cutw l _ hl).mono ?_
    rintro e w2 ⟨gw, Nw, capw, rfl, hw, hb2⟩
    have HW2 := Lib.hid hw
    have HS2 := Lib.hid (HS.out.below hb2 HS.out.lt)
    have HR2 := Lib.hid (HR.out.below hb2 HR.out.lt)
    have HB2 := Lib.hid (HB.out.trans (hb2.mono HB.out.size))
    have HL2 := Lib.hid (HLL.out.below hb2 (Nat.le_refl _))
    have HI2 := Lib.hid (HI.out.below HB2.out (Nat.le_refl _))
    have HZ2 : Hid (w.heap.size + 1 < w2.heap.size) := Lib.hid HR2.out.lt
    have HN2 : Hid (w.heap.size ≤ w2.heap.size) := Lib.hid HB2.out.size
    clear hb2 hw c0 c1 c2 c3 z0 z1 z2 z3 f0 f1 f2 f3
    have hs := HS2.out
    have c0 := hs.cell 0
    have c1 := hs.cell 1
    have c2 := hs.cell 2
    have c3 := hs.cell 3
    simp only [List.getElem?_toArray, List.getElem?_cons_zero, List.getElem?_cons_succ] at c0 c1 c2 c3
    clear hs
    obtain ⟨b, o, hA', hbb, k0⟩ := str_at HW2.out.2 HX.out
    cases hA'
    simp only [Nat.add_zero] at k0
    have hNw : (0 : Int) < (Nw : Int) := by have := (wdsF_len l).1; have h2 := HW2.out.1; omega
    clear hbb
    have hs := HS2.out
    have hr := HR2.out
    have c0 := hs.cell 0
    have c1 := hs.cell 1
    have c2 := hs.cell 2
    have c3 := hs.cell 3
    have z0 := hr.cell 0
    have z1 := hr.cell 1
    have z2 := hr.cell 2
    have z3 := hr.cell 3
    have f0 := hr.free 0
    have f1 := hr.free 1
    have f2 := hr.free 2
    have f3 := hr.free 3
    simp only [List.getElem?_toArray, List.getElem?_cons_zero, List.getElem?_cons_succ] at c0 c1 c2 c3 z0 z1 z2 z3
    have hf := put_sb hr (.int .i64 st) (.string us) (.slice A N cap) (.string tx)
    have r0 := hf.cell 0
    have r1 := hf.cell 1
    have r2 := hf.cell 2
    have r3 := hf.cell 3
    simp only [List.getElem?_toArray, List.getElem?_cons_zero, List.getElem?_cons_succ] at r0 r1 r2 r3
    clear hs hr hf
    go_wp2
    refine bodyPost_ret (v := .tuple #[.agg #[.int .i64 st, .string us, .slice A N cap, .string tx], .int .i64 250]) (by simp [results, Try.results58, go_sem, r0, r1, r2, r3]) rfl ?_
    rw [HE.out]
    exact ⟨_, _, _, rfl, HI2.out.set4 HNE.out _ _ _ _, Fr.same _ _, below_set4 HB2.out (by omega) _ _ _ _⟩
  obtain ⟨vn1, vn2, vn3⟩ := lit_walk (xs := [78, 79, 79, 80]) rfl hNOOP
  by_cases hQUIT : l = wQUIT
  ·
    have HE : Hid (lineF ⟨st, us, T, tx⟩ L d l u ok = (quitS, 221)) := Lib.hid ((lineF_c HN6.out HN5.out HG.out HNEHLO.out HNAUTH.out HNMAIL.out HNRCPT.out).trans (by unfold cmdF; rw [if_neg hDATA, if_neg hRSET, if_neg hNOOP, if_pos hQUIT]))
    have hlit : l.toList = [81, 85, 73, 84] := by rw [hQUIT, ByteArray.toList_eq]; rfl
    clear hRSET hDATA hNOOP hQUIT
    go_enter Try.func58, Try.ntmps58
    go_wp2_with fail
    refine (spec_cutw l _ hl).mono ?_
    rintro e w2 ⟨gw, Nw, capw, rfl, hw, hb2⟩
    have HW2 := Lib.hid hw
    have HS2 := Lib.hid (HS.out.below hb2 HS.out.lt)
    have HR2 := Lib.hid (HR.out.below hb2 HR.out.lt)
    have HB2 := Lib.hid (HB.out.trans (hb2.mono HB.out.size))
    have HL2 := Lib.hid (HLL.out.below hb2 (Nat.le_refl _))
    have HI2 := Lib.hid (HI.out.below HB2.out (Nat.le_refl _))
    have HZ2 : Hid (w.heap.size + 1 < w2.heap.size) := Lib.hid HR2.out.lt
    have HN2 : Hid (w.heap.size ≤ w2.heap.size) := Lib.hid HB2.out.size
    clear hb2 hw c0 c1 c2 c3 z0 z1 z2 z3 f0 f1 f2 f3
    have hs := HS2.out
    have c0 := hs.cell 0
    have c1 := hs.cell 1
    have c2 := hs.cell 2
    have c3 := hs.cell 3
    simp only [List.getElem?_toArray, List.getElem?_cons_zero, List.getElem?_cons_succ] at c0 c1 c2 c3
    clear hs
    obtain ⟨b, o, hA', hbb, k0⟩ := str_at HW2.out.2 HX.out
    cases hA'
    simp only [Nat.add_zero] at k0
    have hNw : (0 : Int) < (Nw : Int) := by have := (wdsF_len l).1; have h2 := HW2.out.1; omega
    clear hbb
    have hr := HR2.out.alloc (.cells #[] 9)
    have z0 := hr.cell 0
    have z1 := hr.cell 1
    have z2 := hr.cell 2
    have z3 := hr.cell 3
    have f0 := hr.free 0
    have f1 := hr.free 1
    have f2 := hr.free 2
    have f3 := hr.free 3
    simp only [List.getElem?_toArray, List.getElem?_cons_zero, List.getElem?_cons_succ] at z0 z1 z2 z3
    have hf := put_sb hr (.int .i64 6) (.string ⟨#[]⟩) (.slice (some ⟨w2.heap.size, 0, none⟩) 0 0) (.string ⟨#[]⟩)
    have r0 := hf.cell 0
    have r1 := hf.cell 1
    have r2 := hf.cell 2
    have r3 := hf.cell 3
    simp only [List.getElem?_toArray, List.getElem?_cons_zero, List.getElem?_cons_succ] at r0 r1 r2 r3
    clear hr hf
    go_wp2
    refine bodyPost_ret (v := .tuple #[.agg #[.int .i64 6, .string ⟨#[]⟩, .slice (some ⟨w2.heap.size, 0, none⟩) 0 0, .string ⟨#[]⟩], .int .i64 221]) (by simp [results, Try.results58, go_sem, r0, r1, r2, r3]) rfl ?_
    rw [HE.out]
    exact ⟨_, _, _, rfl, SIn.new _ (by simp [World.setCell]), Fr.new HN2.out, below_set4 (HB2.out.alloc HB2.out.size _) (by omega) _ _ _ _⟩
  obtain ⟨vq1, vq2, vq3⟩ := lit_walk (xs := [81, 85, 73, 84]) rfl hQUIT
  have HE : Hid (lineF ⟨st, us, T, tx⟩ L d l u ok = (⟨st, us, T, tx⟩, 500)) := Lib.hid ((lineF_c HN6.out HN5.out HG.out HNEHLO.out HNAUTH.out HNMAIL.out HNRCPT.out).trans (by unfold cmdF; rw [if_neg hDATA, if_neg hRSET, if_neg hNOOP, if_neg hQUIT]))
  clear hRSET hDATA hNOOP hQUIT
  go_enter Try.func58, Try.ntmps58
  go_wp2_with fail
  refine (spec_cutw l _ hl).mono ?_
  rintro e w2 ⟨gw, Nw, capw, rfl, hw, hb2⟩
  have HW2 := Lib.hid hw
  have HS2 := Lib.hid (HS.out.below hb2 HS.out.lt)
  have HR2 := Lib.hid (HR.out.below hb2 HR.out.lt)
  have HB2 := Lib.hid (HB.out.trans (hb2.mono HB.out.size))
  have HL2 := Lib.hid (HLL.out.below hb2 (Nat.le_refl _))
  have HI2 := Lib.hid (HI.out.below HB2.out (Nat.le_refl _))
  have HZ2 : Hid (w.heap.size + 1 < w2.heap.size) := Lib.hid HR2.out.lt
  have HN2 : Hid (w.heap.size ≤ w2.heap.size) := Lib.hid HB2.out.size
  clear hb2 hw c0 c1 c2 c3 z0 z1 z2 z3 f0 f1 f2 f3
  have hs := HS2.out
  have c0 := hs.cell 0
  have c1 := hs.cell 1
  have c2 := hs.cell 2
  have c3 := hs.cell 3
  simp only [List.getElem?_toArray, List.getElem?_cons_zero, List.getElem?_cons_succ] at c0 c1 c2 c3
  clear hs
  obtain ⟨b, o, hA', hbb, k0⟩ := str_at HW2.out.2 HX.out
  cases hA'
  simp only [Nat.add_zero] at k0
  have hNw : (0 : Int) < (Nw : Int) := by have := (wdsF_len l).1; have h2 := HW2.out.1; omega
  clear hbb
  have hs := HS2.out
  have hr := HR2.out
  have c0 := hs.cell 0
  have c1 := hs.cell 1
  have c2 := hs.cell 2
  have c3 := hs.cell 3
  have z0 := hr.cell 0
  have z1 := hr.cell 1
  have z2 := hr.cell 2
  have z3 := hr.cell 3
  have f0 := hr.free 0
  have f1 := hr.free 1
  have f2 := hr.free 2
  have f3 := hr.free 3
  simp only [List.getElem?_toArray, List.getElem?_cons_zero, List.getElem?_cons_succ] at c0 c1 c2 c3 z0 z1 z2 z3
  have hf := put_sb hr (.int .i64 st) (.string us) (.slice A N cap) (.string tx)
  have r0 := hf.cell 0
  have r1 := hf.cell 1
  have r2 := hf.cell 2
  have r3 := hf.cell 3
  simp only [List.getElem?_toArray, List.getElem?_cons_zero, List.getElem?_cons_succ] at r0 r1 r2 r3
  clear hs hr hf
  go_wp2
  refine bodyPost_ret (v := .tuple #[.agg #[.int .i64 st, .string us, .slice A N cap, .string tx], .int .i64 500]) (by simp [results, Try.results58, go_sem, r0, r1, r2, r3]) rfl ?_
  rw [HE.out]
  exact ⟨_, _, _, rfl, HI2.out.set4 HNE.out _ _ _ _, Fr.same _ _, below_set4 HB2.out (by omega) _ _ _ _⟩
end Go.Proofs.Ytichajalinkcdaa
namespace Go.Proofs.Ytichajalinkcdaa
open Go.RowKit
set_option linter.unusedVariables false


/-- What SubmissionLine does. -/
def lineV (s : Sb) (L : List Us) (d l u : ByteArray) (o : Bool) : Sb × Int := if (sbV s && (vU L && domB (kb d))) = true then lineF s L d l u o else (⟨0, eB, [], eB⟩, -1)
theorem lineV_1 {s : Sb} {L : List Us} {d l u : ByteArray} {o : Bool} (h : sbV s = false) : lineV s L d l u o = (⟨0, eB, [], eB⟩, -1) := by unfold lineV; rw [h]; rfl
theorem lineV_2 {s : Sb} {L : List Us} {d l u : ByteArray} {o : Bool} (h : vU L = false) : lineV s L d l u o = (⟨0, eB, [], eB⟩, -1) := by unfold lineV; rw [h]; simp
theorem lineV_3 {s : Sb} {L : List Us} {d l u : ByteArray} {o : Bool} (h : domB (kb d) = false) : lineV s L d l u o = (⟨0, eB, [], eB⟩, -1) := by unfold lineV; rw [h]; simp
theorem lineV_4 {s : Sb} {L : List Us} {d l u : ByteArray} {o : Bool} (h1 : sbV s = true) (h2 : vU L = true) (h3 : domB (kb d) = true) : lineV s L d l u o = lineF s L d l u o := by unfold lineV; rw [h1, h2, h3]; rfl
/-- A submission of the call's own, and a reply. -/
def GiveL (w : World) (r : Sb × Int) (e : Ending) (w' : World) : Prop :=
  ∃ A N cap, e = .returned (.tuple #[.agg #[.int .i64 r.1.st, .string r.1.us, .slice A N cap, .string r.1.tx], .int .i64 r.2]) ∧ ROwn stR w' w.heap.size (.slice A N cap) r.1.to ∧ Below w.heap.size w w'
theorem own_set4 {w : World} {B R N cap : Nat} {A : Option Addr} {T : List ByteArray} (h : ROwn stR w B (.slice A N cap) T) (hne : ∀ q, A = some q → q.block ≠ R) (a b c d : Value) : ROwn stR ((((w.setCell ⟨R, 0, none⟩ a).setCell ⟨R, 1, none⟩ b).setCell ⟨R, 2, none⟩ c).setCell ⟨R, 3, none⟩ d) B (.slice A N cap) T := by
  have hb : (Value.slice A N cap).ownBlock ≠ some R := fun e => by
    cases A with
    | none => cases e
    | some q =>
      obtain ⟨b, o, sp⟩ := q
      have h1 := hne _ rfl
      rcases h.2 with ⟨he, _⟩ | ⟨g, c, cur, he, _⟩
      · cases he
      · cases he; cases e; exact h1 rfl
  exact (((h.store (p := ⟨R, 0, none⟩) hb _).store (p := ⟨R, 1, none⟩) hb _).store (p := ⟨R, 2, none⟩) hb _).store (p := ⟨R, 3, none⟩) hb _
theorem suv_at {A : Option Addr} {N cap : Nat} {L : List Us} {z : Bool} (h : vU L = z) (w : World) (hi : UIn w A N cap L) : Calls Try.prog 44 #[.slice A N cap] w (SayB w z) := spec_uv h w hi

set_option maxRecDepth 20000 in
set_option maxHeartbeats 8000000 in
theorem spec_subline (st : Int) (us tx d l u : ByteArray) (ok : Bool) (T : List ByteArray) (L : List Us) (A AU : Option Addr) (N cap NU cU : Nat) (w : World) (h : SIn w A N cap T) (hL : UIn w AU NU cU L) (hu : us.size ≤ 16777216) (hd : d.size ≤ 16777216) (hl : l.size ≤ 2097152) (hup : (wdsF l).length = 3 → IsUp L ((wdsF l).getD 2 eB) u ok) : Calls Try.prog 45 #[.agg #[.int .i64 st, .string us, .slice A N cap, .string tx], .slice AU NU cU, .string d, .string l] w (GiveL w (lineV ⟨st, us, T, tx⟩ L d l u ok)) := by
  have HLL := Lib.hid (hL.below (two_made w #[.int .i64 st, .string us, .slice A N cap, .string tx] #[.int .i64 0, .string ⟨#[]⟩, .slice none 0 0, .string ⟨#[]⟩]).2.2 (Nat.le_refl _))
  have HUP := Lib.hid hup
  clear hL hup
  have HI := Lib.hid h
  obtain ⟨hs, hr, hB⟩ := two_made w #[.int .i64 st, .string us, .slice A N cap, .string tx] #[.int .i64 0, .string ⟨#[]⟩, .slice none 0 0, .string ⟨#[]⟩]
  have c0 := hs.cell 0
  have c1 := hs.cell 1
  have c2 := hs.cell 2
  have c3 := hs.cell 3
  have z0 := hr.cell 0
  have z1 := hr.cell 1
  have z2 := hr.cell 2
  have z3 := hr.cell 3
  have f0 := hr.free 0
  have f1 := hr.free 1
  have f2 := hr.free 2
  have f3 := hr.free 3
  simp only [List.getElem?_toArray, List.getElem?_cons_zero, List.getElem?_cons_succ] at c0 c1 c2 c3 z0 z1 z2 z3
  have HS := Lib.hid hs
  have HR := Lib.hid hr
  have HB := Lib.hid hB
  clear h hs hr hB
  have HIR := Lib.hid (HI.out.below HB.out (Nat.le_refl _))
  cases hv : sbV ⟨st, us, T, tx⟩ with
  | false =>
    have HV := Lib.hid hv
    have HE : Hid (lineV ⟨st, us, T, tx⟩ L d l u ok = (⟨0, eB, [], eB⟩, -1)) := Lib.hid (lineV_1 hv)
    clear hv
    go_enter Try.func45, Try.ntmps45
    go_wp2_with fail
    refine (ssub_at HV.out _ HIR.out hu).mono ?_
    rintro e w2 ⟨rfl, hb⟩
    have HS2 := Lib.hid (HS.out.below hb HS.out.lt)
    have HR2 := Lib.hid (HR.out.below hb HR.out.lt)
    have HB2 := Lib.hid (HB.out.trans (hb.mono HB.out.size))
    have HL2 := Lib.hid (HLL.out.below hb (Nat.le_refl _))
    have HI2 := Lib.hid (HIR.out.below hb (Nat.le_refl _))
    clear hb
    clear c0 c1 c2 c3 z0 z1 z2 z3 f0 f1 f2 f3
    have hr := HR2.out
    have z0 := hr.cell 0
    have z1 := hr.cell 1
    have z2 := hr.cell 2
    have z3 := hr.cell 3
    have f0 := hr.free 0
    have f1 := hr.free 1
    have f2 := hr.free 2
    have f3 := hr.free 3
    simp only [List.getElem?_toArray, List.getElem?_cons_zero, List.getElem?_cons_succ] at z0 z1 z2 z3
    have hf := put_sb hr (.int .i64 0) (.string ⟨#[]⟩) (.slice none 0 0) (.string ⟨#[]⟩)
    have r0 := hf.cell 0
    have r1 := hf.cell 1
    have r2 := hf.cell 2
    have r3 := hf.cell 3
    simp only [List.getElem?_toArray, List.getElem?_cons_zero, List.getElem?_cons_succ] at r0 r1 r2 r3
    clear hr hf
    go_wp2
    refine bodyPost_ret (v := .tuple #[.agg #[.int .i64 0, .string ⟨#[]⟩, .slice none 0 0, .string ⟨#[]⟩], .int .i64 (-1)]) (by simp [results, Try.results45, go_sem, r0, r1, r2, r3]) rfl ?_
    rw [HE.out]
    exact ⟨_, _, _, rfl, ROwn.nil _ _, below_set4 HB2.out (by omega) _ _ _ _⟩
  | true =>
    have HV := Lib.hid hv
    obtain ⟨-, hT3, -, ht21, -⟩ := sbV_has hv
    simp only at hT3 ht21
    clear hv
    cases hvu : vU L with
    | false =>
      have HVU := Lib.hid hvu
      have HE : Hid (lineV ⟨st, us, T, tx⟩ L d l u ok = (⟨0, eB, [], eB⟩, -1)) := Lib.hid (lineV_2 hvu)
      clear hvu
      go_enter Try.func45, Try.ntmps45
      go_wp2_with fail
      refine (ssub_at HV.out _ HIR.out hu).mono ?_
      rintro e w2 ⟨rfl, hb⟩
      have HS2 := Lib.hid (HS.out.below hb HS.out.lt)
      have HR2 := Lib.hid (HR.out.below hb HR.out.lt)
      have HB2 := Lib.hid (HB.out.trans (hb.mono HB.out.size))
      have HL2 := Lib.hid (HLL.out.below hb (Nat.le_refl _))
      have HI2 := Lib.hid (HIR.out.below hb (Nat.le_refl _))
      clear hb
      clear c0 c1 c2 c3 z0 z1 z2 z3 f0 f1 f2 f3
      go_wp2_with fail
      refine (suv_at HVU.out _ HL2.out).mono ?_
      rintro e w3 ⟨rfl, hb⟩
      have HS3 := Lib.hid (HS2.out.below hb HS2.out.lt)
      have HR3 := Lib.hid (HR2.out.below hb HR2.out.lt)
      have HB3 := Lib.hid (HB2.out.trans (hb.mono HB2.out.size))
      have HL3 := Lib.hid (HL2.out.below hb (Nat.le_refl _))
      have HI3 := Lib.hid (HI2.out.below hb (Nat.le_refl _))
      clear hb
      have hr := HR3.out
      have z0 := hr.cell 0
      have z1 := hr.cell 1
      have z2 := hr.cell 2
      have z3 := hr.cell 3
      have f0 := hr.free 0
      have f1 := hr.free 1
      have f2 := hr.free 2
      have f3 := hr.free 3
      simp only [List.getElem?_toArray, List.getElem?_cons_zero, List.getElem?_cons_succ] at z0 z1 z2 z3
      have hf := put_sb hr (.int .i64 0) (.string ⟨#[]⟩) (.slice none 0 0) (.string ⟨#[]⟩)
      have r0 := hf.cell 0
      have r1 := hf.cell 1
      have r2 := hf.cell 2
      have r3 := hf.cell 3
      simp only [List.getElem?_toArray, List.getElem?_cons_zero, List.getElem?_cons_succ] at r0 r1 r2 r3
      clear hr hf
      go_wp2
      refine bodyPost_ret (v := .tuple #[.agg #[.int .i64 0, .string ⟨#[]⟩, .slice none 0 0, .string ⟨#[]⟩], .int .i64 (-1)]) (by simp [results, Try.results45, go_sem, r0, r1, r2, r3]) rfl ?_
      rw [HE.out]
      exact ⟨_, _, _, rfl, ROwn.nil _ _, below_set4 HB3.out (by omega) _ _ _ _⟩
    | true =>
      have HVU := Lib.hid hvu
      cases hvd : domB (kb d) with
      | false =>
        have HVD := Lib.hid hvd
        have HE : Hid (lineV ⟨st, us, T, tx⟩ L d l u ok = (⟨0, eB, [], eB⟩, -1)) := Lib.hid (lineV_3 hvd)
        clear hvd hvu
        go_enter Try.func45, Try.ntmps45
        go_wp2_with fail
        refine (ssub_at HV.out _ HIR.out hu).mono ?_
        rintro e w2 ⟨rfl, hb⟩
        have HS2 := Lib.hid (HS.out.below hb HS.out.lt)
        have HR2 := Lib.hid (HR.out.below hb HR.out.lt)
        have HB2 := Lib.hid (HB.out.trans (hb.mono HB.out.size))
        have HL2 := Lib.hid (HLL.out.below hb (Nat.le_refl _))
        have HI2 := Lib.hid (HIR.out.below hb (Nat.le_refl _))
        clear hb
        clear c0 c1 c2 c3 z0 z1 z2 z3 f0 f1 f2 f3
        go_wp2_with fail
        refine (suv_at HVU.out _ HL2.out).mono ?_
        rintro e w3 ⟨rfl, hb⟩
        have HS3 := Lib.hid (HS2.out.below hb HS2.out.lt)
        have HR3 := Lib.hid (HR2.out.below hb HR2.out.lt)
        have HB3 := Lib.hid (HB2.out.trans (hb.mono HB2.out.size))
        have HL3 := Lib.hid (HL2.out.below hb (Nat.le_refl _))
        have HI3 := Lib.hid (HI2.out.below hb (Nat.le_refl _))
        clear hb
        go_wp2_with fail
        refine (sdom_at HVD.out hd _).mono ?_
        rintro e w4 ⟨rfl, hb⟩
        have HS4 := Lib.hid (HS3.out.below hb HS3.out.lt)
        have HR4 := Lib.hid (HR3.out.below hb HR3.out.lt)
        have HB4 := Lib.hid (HB3.out.trans (hb.mono HB3.out.size))
        have HL4 := Lib.hid (HL3.out.below hb (Nat.le_refl _))
        have HI4 := Lib.hid (HI3.out.below hb (Nat.le_refl _))
        clear hb
        have hr := HR4.out
        have z0 := hr.cell 0
        have z1 := hr.cell 1
        have z2 := hr.cell 2
        have z3 := hr.cell 3
        have f0 := hr.free 0
        have f1 := hr.free 1
        have f2 := hr.free 2
        have f3 := hr.free 3
        simp only [List.getElem?_toArray, List.getElem?_cons_zero, List.getElem?_cons_succ] at z0 z1 z2 z3
        have hf := put_sb hr (.int .i64 0) (.string ⟨#[]⟩) (.slice none 0 0) (.string ⟨#[]⟩)
        have r0 := hf.cell 0
        have r1 := hf.cell 1
        have r2 := hf.cell 2
        have r3 := hf.cell 3
        simp only [List.getElem?_toArray, List.getElem?_cons_zero, List.getElem?_cons_succ] at r0 r1 r2 r3
        clear hr hf
        go_wp2
        refine bodyPost_ret (v := .tuple #[.agg #[.int .i64 0, .string ⟨#[]⟩, .slice none 0 0, .string ⟨#[]⟩], .int .i64 (-1)]) (by simp [results, Try.results45, go_sem, r0, r1, r2, r3]) rfl ?_
        rw [HE.out]
        exact ⟨_, _, _, rfl, ROwn.nil _ _, below_set4 HB4.out (by omega) _ _ _ _⟩
      | true =>
        have HVD := Lib.hid hvd
        clear hvd hvu
        obtain ⟨⟨⟨st1, us1, T1, tx1⟩, n1⟩, hr⟩ : ∃ x, lineF ⟨st, us, T, tx⟩ L d l u ok = x := ⟨_, rfl⟩
        have HE := Lib.hid ((lineV_4 HV.out HVU.out HVD.out (l := l) (u := u) (o := ok)).trans hr)
        have HRR := Lib.hid hr
        clear hr
        obtain ⟨i0, hi0, hq0, hq1, hq2⟩ := info_parts Try.infoString
        go_enter Try.func45, Try.ntmps45
        go_wp2_with fail
        refine (ssub_at HV.out _ HIR.out hu).mono ?_
        rintro e w2 ⟨rfl, hb⟩
        have HS2 := Lib.hid (HS.out.below hb HS.out.lt)
        have HR2 := Lib.hid (HR.out.below hb HR.out.lt)
        have HB2 := Lib.hid (HB.out.trans (hb.mono HB.out.size))
        have HL2 := Lib.hid (HLL.out.below hb (Nat.le_refl _))
        have HI2 := Lib.hid (HIR.out.below hb (Nat.le_refl _))
        clear hb
        clear c0 c1 c2 c3 z0 z1 z2 z3 f0 f1 f2 f3
        go_wp2_with fail
        refine (suv_at HVU.out _ HL2.out).mono ?_
        rintro e w3 ⟨rfl, hb⟩
        have HS3 := Lib.hid (HS2.out.below hb HS2.out.lt)
        have HR3 := Lib.hid (HR2.out.below hb HR2.out.lt)
        have HB3 := Lib.hid (HB2.out.trans (hb.mono HB2.out.size))
        have HL3 := Lib.hid (HL2.out.below hb (Nat.le_refl _))
        have HI3 := Lib.hid (HI2.out.below hb (Nat.le_refl _))
        clear hb
        go_wp2_with fail
        refine (sdom_at HVD.out hd _).mono ?_
        rintro e w4 ⟨rfl, hb⟩
        have HS4 := Lib.hid (HS3.out.below hb HS3.out.lt)
        have HR4 := Lib.hid (HR3.out.below hb HR3.out.lt)
        have HB4 := Lib.hid (HB3.out.trans (hb.mono HB3.out.size))
        have HL4 := Lib.hid (HL3.out.below hb (Nat.le_refl _))
        have HI4 := Lib.hid (HI3.out.below hb (Nat.le_refl _))
        clear hb
        have hs := HS4.out
        have c0 := hs.cell 0
        have c1 := hs.cell 1
        have c2 := hs.cell 2
        have c3 := hs.cell 3
        simp only [List.getElem?_toArray, List.getElem?_cons_zero, List.getElem?_cons_succ] at c0 c1 c2 c3
        clear hs
        have HC := Lib.hid (spec_line st us tx d l u ok T L A AU N cap NU cU w4 HI4.out HL4.out hl ht21 (by omega) HUP.out)
        rw [HRR.out] at HC
        go_wp2_with fail
        refine HC.out.mono ?_
        rintro e w5 ⟨A5, N5, cap5, rfl, hI5, hF5, hb⟩
        have HI5 := Lib.hid hI5
        have HR5 := Lib.hid (HR4.out.below hb HR4.out.lt)
        have HB5 := Lib.hid (HB4.out.trans (hb.mono HB4.out.size))
        have HT5 := Lib.hid hI5.1
        have hN5 : N5 ≤ 4194304 := hI5.2.1
        clear hI5 hF5 hb c0 c1 c2 c3 HC HS HR HB
        have HBX := Lib.hid (HB5.out.alloc HB5.out.size (.cells #[.int .i64 st1, .string us1, .slice A5 N5 cap5, .string tx1] 25))
        have HRX := Lib.hid (HR5.out.alloc (.cells #[.int .i64 st1, .string us1, .slice A5 N5 cap5, .string tx1] 25))
        have HX := Lib.hid (Whole.made w5 25 #[.int .i64 st1, .string us1, .slice A5 N5 cap5, .string tx1])
        have HIX := Lib.hid (HI5.out.below (below_new' w5 (.cells #[.int .i64 st1, .string us1, .slice A5 N5 cap5, .string tx1] 25)) (Nat.le_refl _))
        have HBY := Lib.hid (HBX.out.alloc HBX.out.size (.cells #[] 9))
        have HRY := Lib.hid (HRX.out.alloc (.cells #[] 9))
        have HXY := Lib.hid (HX.out.alloc (.cells #[] 9))
        have HIY := Lib.hid (HIX.out.below (below_new' _ (.cells #[] 9)) (Nat.le_refl _))
        have HOY := Lib.hid (ROwn.lit (R := stR) (B := w.heap.size) (w5.alloc (.cells #[.int .i64 st1, .string us1, .slice A5 N5 cap5, .string tx1] 25)) (w5.heap.size + 1) (by have := HBX.out.size; exact this) (by simp))
        have x0 := HXY.out.cell 0
        have x1 := HXY.out.cell 1
        have x2 := HXY.out.cell 2
        have x3 := HXY.out.cell 3
        simp only [List.getElem?_toArray, List.getElem?_cons_zero, List.getElem?_cons_succ] at x0 x1 x2 x3
        have hml : 0 + N5 ≤ maxLen := by unfold maxLen; omega
        have hby : (0 + N5) * 16 ≤ 140737488355328 := by omega
        have hba := HBY.out.size
        have HRlt : Hid (w.heap.size + 1 < w5.heap.size) := Lib.hid HR5.out.lt
        go_wp2_with (at_builtin; refine wpList_append_rows rfl (.tmp 34) (.tmp 36) 23 rfl stR w.heap.size i0 _ 16 Try.underlying23 hi0 hq0 hq1 hq2 rfl (by decide) _ [] T1 0 rfl rfl HOY.out A5 N5 cap5 rfl HT5.out HIY.out.2.2.1 HI5.out.2.2.2.1 HI5.out.2.2.2.2.1 hml hby hba ?_)
        intro v' w8 hown hgrow hnn
        obtain ⟨A8, N8, cap8, rfl⟩ := hown.val
        have HO8 := Lib.hid hown
        have HR8 := Lib.hid (HRY.out.grown hgrow (fun e => by have h1 := HRlt.out; have h2 := Option.some.inj (show some (w.heap.size + 1) = some (w5.heap.size + 1) from e); omega))
        have HX8 := Lib.hid (HXY.out.grown hgrow (fun e => by have h2 := Option.some.inj (show some w5.heap.size = some (w5.heap.size + 1) from e); omega))
        have HB8 := Lib.hid (below_far HBY.out hgrow (fun g e => by have h1 := HB5.out.size; have h2 := Option.some.inj (show some (w5.heap.size + 1) = some g from e); omega))
        have hOne : (Value.slice A8 N8 cap8).ownBlock ≠ some w5.heap.size ∧ (Value.slice A8 N8 cap8).ownBlock ≠ some (w.heap.size + 1) := ⟨HO8.out.whole HX8.out (by decide), HO8.out.whole HR8.out (by decide)⟩
        have HON := Lib.hid hOne
        have hx1 : Whole (w8.setCell ⟨w5.heap.size, 2, none⟩ (.slice A8 N8 cap8)) w5.heap.size 25 #[.int .i64 st1, .string us1, .slice A8 N8 cap8, .string tx1] := HX8.out.store 2 _
        have hr1 := HR8.out.apart (p := ⟨w5.heap.size, 2, none⟩) (show w.heap.size + 1 ≠ w5.heap.size by have := HRlt.out; omega) (.slice A8 N8 cap8)
        have k2 := HX8.out.cell 2
        have kf := HX8.out.free 2
        simp only [List.getElem?_toArray, List.getElem?_cons_zero, List.getElem?_cons_succ] at k2
        have m0 := hx1.cell 0
        have m1 := hx1.cell 1
        have m2 := hx1.cell 2
        have m3 := hx1.cell 3
        have z0 := hr1.cell 0
        have z1 := hr1.cell 1
        have z2 := hr1.cell 2
        have z3 := hr1.cell 3
        have f0 := hr1.free 0
        have f1 := hr1.free 1
        have f2 := hr1.free 2
        have f3 := hr1.free 3
        simp only [List.getElem?_toArray, List.getElem?_cons_zero, List.getElem?_cons_succ] at m0 m1 m2 m3 z0 z1 z2 z3
        have hf := put_sb hr1 (.int .i64 st1) (.string us1) (.slice A8 N8 cap8) (.string tx1)
        have r0 := hf.cell 0
        have r1 := hf.cell 1
        have r2 := hf.cell 2
        have r3 := hf.cell 3
        simp only [List.getElem?_toArray, List.getElem?_cons_zero, List.getElem?_cons_succ] at r0 r1 r2 r3
        clear hown hgrow hnn hOne hx1 hr1 hf x0 x1 x2 x3
        go_wp2
        refine bodyPost_ret (v := .tuple #[.agg #[.int .i64 st1, .string us1, .slice A8 N8 cap8, .string tx1], .int .i64 n1]) (by simp [results, Try.results45, go_sem, r0, r1, r2, r3]) rfl ?_
        rw [HE.out]
        have ho1 := HO8.out.store (p := ⟨w5.heap.size, 2, none⟩) HON.out.1 (.slice A8 N8 cap8)
        refine ⟨A8, N8, cap8, rfl, own_set4 ho1 (fun q e => ?_) _ _ _ _, below_set4 (HB8.out.setCell (p := ⟨w5.heap.size, 2, none⟩) (show w.heap.size ≤ w5.heap.size from HB5.out.size) _) (by omega) _ _ _ _⟩
        subst e
        intro hq
        have h1 := HON.out.2
        rcases HO8.out.2 with ⟨he, _⟩ | ⟨g, c, cur, he, _⟩
        · cases he
        · cases he
          exact h1 (by rw [← hq]; rfl)
end Go.Proofs.Ytichajalinkcdaa
namespace Go.Proofs.Ytichajalinkcdaa
open Go.RowKit
set_option linter.unusedVariables false

def NMS : Array Value := #[.string ⟨#[97, 109, 121]⟩, .string ⟨#[98, 111, 98]⟩, .string ⟨#[99, 121, 100]⟩, .string ⟨#[100, 97, 110]⟩]
/-- Drawn receivers. -/
def DrewT (w : World) (b p : Nat) (e : Ending) (w' : World) : Prop := ∃ A N cap T q, e = .returned (.slice A N cap) ∧ q ≤ p + 7 ∧ Rd w' b q ∧ ROwn stR w' w.heap.size (.slice A N cap) T ∧ w.grownBy w' (some b) ∧ T.length ≤ 6 ∧ (∀ g ∈ T, g.size ≤ 30)
/-- Receivers so far: 'NB' is the block of the names. -/
def TSt (w wr : World) (b q NB : Nat) (A : Option Addr) (n cap : Nat) (T : List ByteArray) : Prop :=
  Rd wr b q ∧ w.grownBy wr (some b) ∧ b < w.heap.size ∧ w.heap.size < NB ∧ NB < wr.heap.size ∧ Whole wr NB 9 NMS ∧ (∀ g ∈ T, g.size ≤ 30) ∧
    ((T = [] ∧ A = some ⟨w.heap.size, 0, none⟩ ∧ n = 0 ∧ cap = 0 ∧ Whole wr w.heap.size 9 #[]) ∨ ROwn stR wr (NB + 1) (.slice A n cap) T)
theorem TSt.read {w wr w' : World} {b q q' NB n cap : Nat} {A : Option Addr} {T : List ByteArray} (h : TSt w wr b q NB A n cap T) (hr : Rd w' b q') (hg : wr.grownBy w' (some b)) : TSt w w' b q' NB A n cap T := by
  obtain ⟨h1, h2, h3, h4, h5, h6, h7, h8⟩ := h
  refine ⟨hr, gr_trans h2 hg, h3, h4, Nat.lt_of_lt_of_le h5 hg.size, h6.grown hg (by simp; omega), h7, ?_⟩
  rcases h8 with ⟨e1, e2, e3, e4, e5⟩ | h8
  · exact .inl ⟨e1, e2, e3, e4, e5.grown hg (by simp; omega)⟩
  · exact .inr (h8.grown hg (by omega))
theorem TSt.len {w wr : World} {b q NB n cap : Nat} {A : Option Addr} {T : List ByteArray} (h : TSt w wr b q NB A n cap T) : n = T.length := by
  rcases h.2.2.2.2.2.2.2 with ⟨e1, e2, e3, e4, e5⟩ | h8
  · rw [e1, e3]; rfl
  · exact h8.len.1
theorem TSt.own {w wr : World} {b q NB n cap : Nat} {A : Option Addr} {T : List ByteArray} (h : TSt w wr b q NB A n cap T) : ROwn stR wr w.heap.size (.slice A n cap) T := by
  rcases h.2.2.2.2.2.2.2 with ⟨rfl, rfl, rfl, rfl, e5⟩ | h8
  · refine ⟨rfl, .inr ⟨w.heap.size, 0, #[], rfl, Nat.le_refl _, e5, by simp, by unfold maxLen; omega, by simp, rfl⟩⟩
  · exact h8.from (by have := h.2.2.2.1; omega)
/-- One more receiver. -/
theorem TSt.push {w wr w1 w' : World} {b q NB n cap N' cap' : Nat} {A A' : Option Addr} {T : List ByteArray} {x : ByteArray} {row : Option Nat} (h : TSt w wr b q NB A n cap T) (h1 : Below wr.heap.size wr w1) (hg : w1.grownBy w' row) (hrow : ∀ g, row = some g → NB < g) (ho : ROwn stR w' (NB + 1) (.slice A' N' cap') (T ++ [x])) (hx : x.size ≤ 30) : TSt w w' b q NB A' N' cap' (T ++ [x]) := by
  obtain ⟨k1, k2, k3, k4, k5, k6, k7, k8⟩ := h
  have hb1 := k1.lt
  refine ⟨rd_far (k1.below h1 hb1) hg (fun g e => by have := hrow g e; omega), gr_far (gr_trans k2 (gr_below h1 _)) hg (fun g e => by have := hrow g e; omega), k3, k4, Nat.lt_of_lt_of_le (Nat.lt_of_lt_of_le k5 h1.size) hg.size, (k6.below h1 k5).grown hg (fun e => by have := hrow NB e.symm; omega), fun g hgm => ?_, .inr ho⟩
  rcases List.mem_append.1 hgm with h2 | h2
  · exact k7 g h2
  · simp at h2; rw [h2]; exact hx
theorem nms_get {j : Nat} (h : j < 4) : ∃ s : ByteArray, NMS[j]? = some (.string s) ∧ s.size ≤ 30 := by
  match j, h with
  | 0, _ => exact ⟨_, rfl, by decide⟩
  | 1, _ => exact ⟨_, rfl, by decide⟩
  | 2, _ => exact ⟨_, rfl, by decide⟩
  | 3, _ => exact ⟨_, rfl, by decide⟩
theorem small_app {T U : List ByteArray} {k : Nat} (h : ∀ g ∈ T, g.size ≤ k) (h2 : ∀ g ∈ U, g.size ≤ k) : ∀ g ∈ T ++ U, g.size ≤ k := fun g hg => (List.mem_append.1 hg).elim (h g) (h2 g)
set_option maxRecDepth 20000 in
set_option maxHeartbeats 8000000 in
theorem to_draw (b p : Nat) (w : World) (h : Rd w b p) (hp : p ≤ 800000) : Calls Try.prog 49 #[.pointer (some ⟨b, 0, none⟩)] w (DrewT w b p) := by
  obtain ⟨i0, hi0, hq0, hq1, hq2⟩ := info_parts Try.infoString
  have hbl := h.lt
  have hw1 := Whole.made w 9 #[]
  have hw2 := Whole.made (w.alloc (.cells #[] 9)) 9 NMS
  have es : (w.alloc (.cells #[] 9)).heap.size = w.heap.size + 1 := by simp
  rw [es] at hw2
  have hbB : Below w.heap.size w ((w.alloc (.cells #[] 9)).alloc (.cells NMS 9)) := ((Below.refl _ _).alloc (Nat.le_refl _) _).alloc (by simp) _
  have HS0 : Hid (TSt w ((w.alloc (.cells #[] 9)).alloc (.cells NMS 9)) b p (w.heap.size + 1) (some ⟨w.heap.size, 0, none⟩) 0 0 []) :=
    Lib.hid ⟨h.below hbB hbl, gr_below hbB _, hbl, by omega, by simp, hw2, fun g hg => (by cases hg), .inl ⟨rfl, rfl, rfl, rfl, hw1.alloc _⟩⟩
  obtain ⟨wa, hwa⟩ : ∃ wa, (w.alloc (.cells #[] 9)).alloc (.cells NMS 9) = wa := ⟨_, rfl⟩
  rw [hwa] at HS0
  unfold NMS at hwa
  have HWA := Lib.hid hwa
  clear h hw1 hw2 es hbB hwa
  obtain ⟨NB, hNB⟩ : ∃ NB, w.heap.size + 1 = NB := ⟨_, rfl⟩
  rw [hNB] at HS0
  have HNB := Lib.hid hNB
  clear hNB
  go_enter Try.func49, Try.ntmps49
  go_wp2
  rw [HWA.out, HNB.out]
  go_loopw [3, 5] (fun v i wr => ∃ (k n cap q : Nat) (A : Option Addr) (T : List ByteArray), k ≤ 3 ∧ n ≤ k ∧ v = .slice A n cap ∧ i = .int .i64 (k : Int) ∧ q ≤ p + k ∧ Hid (TSt w wr b q NB A n cap T)) (fun _ i _ => 3 - (intOf i).toNat)
  case atStart => exact ⟨0, 0, 0, p, _, [], Nat.zero_le _, Nat.le_refl _, rfl, by go_num, by omega, HS0⟩
  case round =>
    obtain ⟨k, n, cap, q, A, T, hk, hnk, rfl, rfl, hq, HS⟩ := hrel
    by_cases hlt : k < 3
    · have h5 : (k : Int) < 3 := by omega
      have k0 : (0 : Int) ≤ (k : Int) := by omega
      have k4 : (k : Int) < 4 := by omega
      go_wp2_with fail
      refine (pick_any b q 2 _ HS.out.1 (by omega) (by omega) (by omega)).mono ?_
      rintro e w4 ⟨x, hx, rfl, hr, hg⟩
      have HS4 := Lib.hid (TSt.read HS.out hr hg)
      clear hr hg
      by_cases h0 : x = 0
      · subst h0
        obtain ⟨s, hsn, hxs⟩ := nms_get (show k < 4 by omega)
        have ks := (HS4.out.2.2.2.2.2.1.cell k).trans hsn
        clear hsn
        have hbs : NB < w4.heap.size := HS4.out.2.2.2.2.1
        rcases HS4.out.2.2.2.2.2.2.2 with ⟨hT, hA, hn, hc, hE⟩ | hown
        ·
          subst hT
          subst hA
          try subst hn
          try subst hc
          have hnew := RAt.made stR w4 [s] w4.heap.size rfl
          have hnc : ∀ j u, [Value.string s][j]? = some u → (w4.alloc (.cells #[.string s] 9)).cell? ((⟨w4.heap.size, 0, none⟩ : Addr).add j) = some u := rnew w4 [.string s] 9 _ rfl
          have hml1 : 0 + 1 ≤ maxLen := by unfold maxLen; omega
          go_wp2_with (at_builtin; refine wpList_append_grows _ rfl (.tmp 15) (.tmp 20) 23 rfl 9 i0 (.string ⟨#[]⟩) 1 16 Try.underlying23 hi0 hq0 hq1 hq2 rfl (by decide) (some ⟨w.heap.size, 0, none⟩) 0 0 [] rfl (fun e => by cases e) rfl (fun b0 e j u hj => by simp at hj) ⟨w4.heap.size, 0, none⟩ 1 1 [.string s] rfl rfl hnc (by intro u hu; simp at hu; subst hu; rfl) (by omega) hml1 (by omega) ?_)
          intro v' w9 hown hgrow
          have hown : ROwn stR w9 (NB + 1) v' [s] := ROwn.from (B := w4.heap.size + 1) hown (by omega)
          obtain ⟨A9, N9, cap9, rfl⟩ := hown.val
          have hN9 : N9 = 1 := hown.len.1
          subst hN9
          have HT9 : Hid (TSt w w9 b _ NB A9 1 cap9 [s]) := Lib.hid (TSt.push (T := []) HS4.out (below_new' w4 (.cells #[.string s] 9)) hgrow (fun g e => by cases e) hown hxs)
          clear hown hgrow hnew hnc
          go_wp2
          go_roundw
          case rel => exact ⟨k + 1, _, cap9, q + 1, A9, _, by omega, by omega, rfl, by go_num, by omega, HT9⟩
          case measure => simp [intOf]; omega
        ·
          have hnew := RAt.made stR w4 [s] w4.heap.size rfl
          have HLN := Lib.hid hown.len.1.symm
          have hml : n + 1 ≤ maxLen := by unfold maxLen; omega
          have hby : (n + 1) * 16 ≤ 140737488355328 := by omega
          have hba : NB + 1 ≤ (w4.alloc (.cells #[.string s] 9)).heap.size := by simp; omega
          have HOW := Lib.hid hown
          have howna := hown.alloc (.cells #[.string s] 9)
          clear hown
          go_wp2_with (at_builtin; refine wpList_append_rows rfl (.tmp 15) (.tmp 20) 23 rfl stR (NB + 1) i0 _ 16 Try.underlying23 hi0 hq0 hq1 hq2 rfl (by decide) _ (T) [s] n HLN.out rfl howna (some ⟨w4.heap.size, 0, none⟩) 1 1 rfl rfl hnew (fun e => by cases e) (fun q e => by cases e; rfl) hml hby hba ?_)
          intro v' w9 hown hgrow hnn
          obtain ⟨A9, N9, cap9, rfl⟩ := hown.val
          have hN9 : N9 = n + 1 := hown.len.1.trans (by rw [List.length_append, HLN.out]; rfl)
          subst hN9
          have HT9 := Lib.hid (TSt.push HS4.out (below_new' w4 (.cells #[.string s] 9)) hgrow (fun g e => by have := (World.ownsRow.lt HOW.out g e).1; omega) hown hxs)
          clear hown hgrow hnn hnew howna
          go_wp2
          go_roundw
          case rel => exact ⟨k + 1, _, cap9, q + 1, A9, _, by omega, by omega, rfl, by go_num, by omega, HT9⟩
          case measure => simp [intOf]; omega
      · have h0' : ((x : Int) == 0) = false := beq_eq_false_iff_ne.2 (by omega)
        go_wp2
        go_roundw
        case rel => exact ⟨k + 1, n, cap, q + 1, A, T, by omega, by omega, rfl, by go_num, by omega, HS4⟩
        case measure => simp [intOf]; omega
    · have h5 : ¬ (k : Int) < 3 := by omega
      have HNL := Lib.hid HS.out.len
      by_cases hn0 : n = 0
      ·
        have hn0' : ((n : Int) == 0) = true := by rw [hn0]; rfl
        go_wp2_with fail
        refine (pick_any b q 4 _ HS.out.1 (by omega) (by omega) (by omega)).mono ?_
        rintro e w4 ⟨x, hx, rfl, hr, hg⟩
        have HS4 := Lib.hid (TSt.read HS.out hr hg)
        clear hr hg
        obtain ⟨s, hsn, hxs⟩ := nms_get hx
        have ks := (HS4.out.2.2.2.2.2.1.cell x).trans hsn
        have x0 : (0 : Int) ≤ (x : Int) := by omega
        have x4 : (x : Int) < 4 := by omega
        subst hn0
        clear hsn hn0'
        have hbs : NB < w4.heap.size := HS4.out.2.2.2.2.1
        rcases HS4.out.2.2.2.2.2.2.2 with ⟨hT, hA, hn, hc, hE⟩ | hown
        ·
          subst hT
          subst hA
          try subst hn
          try subst hc
          have hnew := RAt.made stR w4 [s] w4.heap.size rfl
          have hnc : ∀ j u, [Value.string s][j]? = some u → (w4.alloc (.cells #[.string s] 9)).cell? ((⟨w4.heap.size, 0, none⟩ : Addr).add j) = some u := rnew w4 [.string s] 9 _ rfl
          have hml1 : 0 + 1 ≤ maxLen := by unfold maxLen; omega
          go_wp2_with (at_builtin; refine wpList_append_grows _ rfl (.tmp 25) (.tmp 31) 23 rfl 9 i0 (.string ⟨#[]⟩) 1 16 Try.underlying23 hi0 hq0 hq1 hq2 rfl (by decide) (some ⟨w.heap.size, 0, none⟩) 0 0 [] rfl (fun e => by cases e) rfl (fun b0 e j u hj => by simp at hj) ⟨w4.heap.size, 0, none⟩ 1 1 [.string s] rfl rfl hnc (by intro u hu; simp at hu; subst hu; rfl) (by omega) hml1 (by omega) ?_)
          intro v' w9 hown hgrow
          have hown : ROwn stR w9 (NB + 1) v' [s] := ROwn.from (B := w4.heap.size + 1) hown (by omega)
          obtain ⟨A9, N9, cap9, rfl⟩ := hown.val
          have hN9 : N9 = 1 := hown.len.1
          subst hN9
          have HT9 : Hid (TSt w w9 b _ NB A9 1 cap9 [s]) := Lib.hid (TSt.push (T := []) HS4.out (below_new' w4 (.cells #[.string s] 9)) hgrow (fun g e => by cases e) hown hxs)
          clear hown hgrow hnew hnc
          go_wp2_with fail
          refine (pick_any b (q + 1) 20 _ HT9.out.1 (by omega) (by omega) (by omega)).mono ?_
          rintro e w5 ⟨y, hy, rfl, hr, hg⟩
          have HS5 := Lib.hid (TSt.read HT9.out hr hg)
          clear hr hg
          have HO5 := Lib.hid HS5.out.own
          have HL5 := Lib.hid HO5.out.len.1
          obtain ⟨g5, hg5⟩ : ∃ g, A9 = some ⟨g, 0, none⟩ := by
            obtain ⟨A', c', he, _, _, _, _, hne⟩ := HO5.out.form
            injection he with he1 he2 he3
            subst he1
            exact hne (fun e => by have h9 := HL5.out; rw [e] at h9; first | (simp at h9; done) | (simp at h9; omega))
          subst hg5
          by_cases h0 : y = 0
          ·
            subst h0
            obtain ⟨x, hx⟩ : ∃ x, ([s])[0]? = some x := ⟨_, List.getElem?_eq_getElem (by rw [← HL5.out]; omega)⟩
            have hxs : x.size ≤ 30 := HS5.out.2.2.2.2.2.2.1 x (List.mem_of_getElem? hx)
            obtain ⟨b0, o0, hA0, hb0, k0⟩ := str_at HO5.out.at hx
            cases hA0
            simp only [Nat.add_zero] at k0
            have hn0 : (0 : Int) < ((1 : Nat) : Int) := by omega
            have hnew := RAt.made stR w5 [x] w5.heap.size rfl
            have HLN : Hid (([s]).length = 1) := Lib.hid HL5.out.symm
            have hml : 1 + 1 ≤ maxLen := by unfold maxLen; omega
            have hby : (1 + 1) * 16 ≤ 140737488355328 := by omega
            have hba : w.heap.size ≤ (w5.alloc (.cells #[.string x] 9)).heap.size := by have := HS5.out.2.1.size; simp; omega
            have howna := HO5.out.alloc (.cells #[.string x] 9)
            clear hx
            go_wp2_with (at_builtin; refine wpList_append_rows rfl (.tmp 37) (.tmp 41) 23 rfl stR w.heap.size i0 _ 16 Try.underlying23 hi0 hq0 hq1 hq2 rfl (by decide) _ ([s]) [x] 1 HLN.out rfl howna (some ⟨w5.heap.size, 0, none⟩) 1 1 rfl rfl hnew (fun e => by cases e) (fun q e => by cases e; rfl) hml hby hba ?_)
            intro v' w9 hown hgrow hnn
            obtain ⟨A9, N9, cap9, rfl⟩ := hown.val
            have hN9 := hown.len.1
            have HR9 := Lib.hid (rd_far (HS5.out.1.below (below_new' w5 (.cells #[.string x] 9)) HS5.out.1.lt) hgrow (fun g e => by have h1 := (World.ownsRow.lt HO5.out g e).1; have h2 := HS5.out.2.2.1; omega))
            have HG9 := Lib.hid (gr_far (gr_trans HS5.out.2.1 (gr_below (below_new' w5 (.cells #[.string x] 9)) _)) hgrow (fun g e => (World.ownsRow.lt HO5.out g e).1))
            have HO9 := Lib.hid hown
            clear hown hgrow hnn hnew howna
            go_wp2
            go_ret
            exact ⟨A9, N9, cap9, ([s]) ++ [x], _, rfl, by omega, HR9.out, (by have h9 := HO9.out; first | exact h9 | simpa [List.append_assoc] using h9), HG9.out, by rw [List.length_append, HLN.out]; simp only [List.length_cons, List.length_nil]; omega, small_app HS5.out.2.2.2.2.2.2.1 (fun g hg => by simp at hg; rw [hg]; exact hxs)⟩
          have h0' : ((y : Int) == 0) = false := beq_eq_false_iff_ne.2 (by omega)
          by_cases h1 : y = 1
          ·
            subst h1
            have hc0 : (0 : Int) ≤ (cap9 : Int) := by omega
            have HOF := Lib.hid (HO5.out.front (Nat.zero_le _))
            go_wp2
            go_ret
            exact ⟨_, 0, _, _, _, rfl, by omega, HS5.out.1, HOF.out, HS5.out.2.1, by simp, fun g hg => by simp at hg⟩
          have h1' : ((y : Int) == 1) = false := beq_eq_false_iff_ne.2 (by omega)
          by_cases h2 : y = 2
          ·
            subst h2
            have hnew := RAt.made stR w5 [(⟨#[100, 97, 110]⟩ : ByteArray), ⟨#[101, 118, 101]⟩] w5.heap.size rfl
            have HLN : Hid (([s]).length = 1) := Lib.hid HL5.out.symm
            have hml : 1 + 2 ≤ maxLen := by unfold maxLen; omega
            have hby : (1 + 2) * 16 ≤ 140737488355328 := by omega
            have hba : w.heap.size ≤ (w5.alloc (.cells #[.string ⟨#[100, 97, 110]⟩, .string ⟨#[101, 118, 101]⟩] 9)).heap.size := by have := HS5.out.2.1.size; simp; omega
            have howna := HO5.out.alloc (.cells #[.string ⟨#[100, 97, 110]⟩, .string ⟨#[101, 118, 101]⟩] 9)
            go_wp2_with (at_builtin; refine wpList_append_rows rfl (.tmp 49) (.tmp 50) 23 rfl stR w.heap.size i0 _ 16 Try.underlying23 hi0 hq0 hq1 hq2 rfl (by decide) _ ([s]) [(⟨#[100, 97, 110]⟩ : ByteArray), ⟨#[101, 118, 101]⟩] 1 HLN.out rfl howna (some ⟨w5.heap.size, 0, none⟩) 2 2 rfl rfl hnew (fun e => by cases e) (fun q e => by cases e; rfl) hml hby hba ?_)
            intro v' w9 hown hgrow hnn
            obtain ⟨A9, N9, cap9, rfl⟩ := hown.val
            have hN9 := hown.len.1
            have HR9 := Lib.hid (rd_far (HS5.out.1.below (below_new' w5 (.cells #[.string ⟨#[100, 97, 110]⟩, .string ⟨#[101, 118, 101]⟩] 9)) HS5.out.1.lt) hgrow (fun g e => by have h1 := (World.ownsRow.lt HO5.out g e).1; have h2 := HS5.out.2.2.1; omega))
            have HG9 := Lib.hid (gr_far (gr_trans HS5.out.2.1 (gr_below (below_new' w5 (.cells #[.string ⟨#[100, 97, 110]⟩, .string ⟨#[101, 118, 101]⟩] 9)) _)) hgrow (fun g e => (World.ownsRow.lt HO5.out g e).1))
            have HO9 := Lib.hid hown
            clear hown hgrow hnn hnew howna
            go_wp2
            go_ret
            exact ⟨A9, N9, cap9, ([s]) ++ [(⟨#[100, 97, 110]⟩ : ByteArray), ⟨#[101, 118, 101]⟩], _, rfl, by omega, HR9.out, (by have h9 := HO9.out; first | exact h9 | simpa [List.append_assoc] using h9), HG9.out, by rw [List.length_append, HLN.out]; simp only [List.length_cons, List.length_nil]; omega, small_app HS5.out.2.2.2.2.2.2.1 (fun g hg => by simp at hg; rcases hg with rfl | rfl <;> decide)⟩
          have h2' : ((y : Int) == 2) = false := beq_eq_false_iff_ne.2 (by omega)
          go_wp2
          go_ret
          exact ⟨_, _, _, _, _, rfl, by omega, HS5.out.1, HO5.out, HS5.out.2.1, by have := HL5.out; omega, HS5.out.2.2.2.2.2.2.1⟩
        ·
          have hnew := RAt.made stR w4 [s] w4.heap.size rfl
          have HLN := Lib.hid hown.len.1.symm
          have hml : 0 + 1 ≤ maxLen := by unfold maxLen; omega
          have hby : (0 + 1) * 16 ≤ 140737488355328 := by omega
          have hba : NB + 1 ≤ (w4.alloc (.cells #[.string s] 9)).heap.size := by simp; omega
          have HOW := Lib.hid hown
          have howna := hown.alloc (.cells #[.string s] 9)
          clear hown
          go_wp2_with (at_builtin; refine wpList_append_rows rfl (.tmp 25) (.tmp 31) 23 rfl stR (NB + 1) i0 _ 16 Try.underlying23 hi0 hq0 hq1 hq2 rfl (by decide) _ (T) [s] 0 HLN.out rfl howna (some ⟨w4.heap.size, 0, none⟩) 1 1 rfl rfl hnew (fun e => by cases e) (fun q e => by cases e; rfl) hml hby hba ?_)
          intro v' w9 hown hgrow hnn
          obtain ⟨A9, N9, cap9, rfl⟩ := hown.val
          have hN9 : N9 = 0 + 1 := hown.len.1.trans (by rw [List.length_append, HLN.out]; rfl)
          subst hN9
          have HT9 := Lib.hid (TSt.push HS4.out (below_new' w4 (.cells #[.string s] 9)) hgrow (fun g e => by have := (World.ownsRow.lt HOW.out g e).1; omega) hown hxs)
          clear hown hgrow hnn hnew howna
          go_wp2_with fail
          refine (pick_any b (q + 1) 20 _ HT9.out.1 (by omega) (by omega) (by omega)).mono ?_
          rintro e w5 ⟨y, hy, rfl, hr, hg⟩
          have HS5 := Lib.hid (TSt.read HT9.out hr hg)
          clear hr hg
          have HO5 := Lib.hid HS5.out.own
          have HL5 := Lib.hid HO5.out.len.1
          obtain ⟨g5, hg5⟩ : ∃ g, A9 = some ⟨g, 0, none⟩ := by
            obtain ⟨A', c', he, _, _, _, _, hne⟩ := HO5.out.form
            injection he with he1 he2 he3
            subst he1
            exact hne (fun e => by have h9 := HL5.out; rw [e] at h9; first | (simp at h9; done) | (simp at h9; omega))
          subst hg5
          by_cases h0 : y = 0
          ·
            subst h0
            obtain ⟨x, hx⟩ : ∃ x, (T ++ [s])[0]? = some x := ⟨_, List.getElem?_eq_getElem (by rw [← HL5.out]; omega)⟩
            have hxs : x.size ≤ 30 := HS5.out.2.2.2.2.2.2.1 x (List.mem_of_getElem? hx)
            obtain ⟨b0, o0, hA0, hb0, k0⟩ := str_at HO5.out.at hx
            cases hA0
            simp only [Nat.add_zero] at k0
            have hn0 : (0 : Int) < (((0 + 1) : Nat) : Int) := by omega
            have hnew := RAt.made stR w5 [x] w5.heap.size rfl
            have HLN : Hid ((T ++ [s]).length = (0 + 1)) := Lib.hid HL5.out.symm
            have hml : (0 + 1) + 1 ≤ maxLen := by unfold maxLen; omega
            have hby : ((0 + 1) + 1) * 16 ≤ 140737488355328 := by omega
            have hba : w.heap.size ≤ (w5.alloc (.cells #[.string x] 9)).heap.size := by have := HS5.out.2.1.size; simp; omega
            have howna := HO5.out.alloc (.cells #[.string x] 9)
            clear hx
            go_wp2_with (at_builtin; refine wpList_append_rows rfl (.tmp 37) (.tmp 41) 23 rfl stR w.heap.size i0 _ 16 Try.underlying23 hi0 hq0 hq1 hq2 rfl (by decide) _ (T ++ [s]) [x] (0 + 1) HLN.out rfl howna (some ⟨w5.heap.size, 0, none⟩) 1 1 rfl rfl hnew (fun e => by cases e) (fun q e => by cases e; rfl) hml hby hba ?_)
            intro v' w9 hown hgrow hnn
            obtain ⟨A9, N9, cap9, rfl⟩ := hown.val
            have hN9 := hown.len.1
            have HR9 := Lib.hid (rd_far (HS5.out.1.below (below_new' w5 (.cells #[.string x] 9)) HS5.out.1.lt) hgrow (fun g e => by have h1 := (World.ownsRow.lt HO5.out g e).1; have h2 := HS5.out.2.2.1; omega))
            have HG9 := Lib.hid (gr_far (gr_trans HS5.out.2.1 (gr_below (below_new' w5 (.cells #[.string x] 9)) _)) hgrow (fun g e => (World.ownsRow.lt HO5.out g e).1))
            have HO9 := Lib.hid hown
            clear hown hgrow hnn hnew howna
            go_wp2
            go_ret
            exact ⟨A9, N9, cap9, (T ++ [s]) ++ [x], _, rfl, by omega, HR9.out, (by have h9 := HO9.out; first | exact h9 | simpa [List.append_assoc] using h9), HG9.out, by rw [List.length_append, HLN.out]; simp only [List.length_cons, List.length_nil]; omega, small_app HS5.out.2.2.2.2.2.2.1 (fun g hg => by simp at hg; rw [hg]; exact hxs)⟩
          have h0' : ((y : Int) == 0) = false := beq_eq_false_iff_ne.2 (by omega)
          by_cases h1 : y = 1
          ·
            subst h1
            have hc0 : (0 : Int) ≤ (cap9 : Int) := by omega
            have HOF := Lib.hid (HO5.out.front (Nat.zero_le _))
            go_wp2
            go_ret
            exact ⟨_, 0, _, _, _, rfl, by omega, HS5.out.1, HOF.out, HS5.out.2.1, by simp, fun g hg => by simp at hg⟩
          have h1' : ((y : Int) == 1) = false := beq_eq_false_iff_ne.2 (by omega)
          by_cases h2 : y = 2
          ·
            subst h2
            have hnew := RAt.made stR w5 [(⟨#[100, 97, 110]⟩ : ByteArray), ⟨#[101, 118, 101]⟩] w5.heap.size rfl
            have HLN : Hid ((T ++ [s]).length = (0 + 1)) := Lib.hid HL5.out.symm
            have hml : (0 + 1) + 2 ≤ maxLen := by unfold maxLen; omega
            have hby : ((0 + 1) + 2) * 16 ≤ 140737488355328 := by omega
            have hba : w.heap.size ≤ (w5.alloc (.cells #[.string ⟨#[100, 97, 110]⟩, .string ⟨#[101, 118, 101]⟩] 9)).heap.size := by have := HS5.out.2.1.size; simp; omega
            have howna := HO5.out.alloc (.cells #[.string ⟨#[100, 97, 110]⟩, .string ⟨#[101, 118, 101]⟩] 9)
            go_wp2_with (at_builtin; refine wpList_append_rows rfl (.tmp 49) (.tmp 50) 23 rfl stR w.heap.size i0 _ 16 Try.underlying23 hi0 hq0 hq1 hq2 rfl (by decide) _ (T ++ [s]) [(⟨#[100, 97, 110]⟩ : ByteArray), ⟨#[101, 118, 101]⟩] (0 + 1) HLN.out rfl howna (some ⟨w5.heap.size, 0, none⟩) 2 2 rfl rfl hnew (fun e => by cases e) (fun q e => by cases e; rfl) hml hby hba ?_)
            intro v' w9 hown hgrow hnn
            obtain ⟨A9, N9, cap9, rfl⟩ := hown.val
            have hN9 := hown.len.1
            have HR9 := Lib.hid (rd_far (HS5.out.1.below (below_new' w5 (.cells #[.string ⟨#[100, 97, 110]⟩, .string ⟨#[101, 118, 101]⟩] 9)) HS5.out.1.lt) hgrow (fun g e => by have h1 := (World.ownsRow.lt HO5.out g e).1; have h2 := HS5.out.2.2.1; omega))
            have HG9 := Lib.hid (gr_far (gr_trans HS5.out.2.1 (gr_below (below_new' w5 (.cells #[.string ⟨#[100, 97, 110]⟩, .string ⟨#[101, 118, 101]⟩] 9)) _)) hgrow (fun g e => (World.ownsRow.lt HO5.out g e).1))
            have HO9 := Lib.hid hown
            clear hown hgrow hnn hnew howna
            go_wp2
            go_ret
            exact ⟨A9, N9, cap9, (T ++ [s]) ++ [(⟨#[100, 97, 110]⟩ : ByteArray), ⟨#[101, 118, 101]⟩], _, rfl, by omega, HR9.out, (by have h9 := HO9.out; first | exact h9 | simpa [List.append_assoc] using h9), HG9.out, by rw [List.length_append, HLN.out]; simp only [List.length_cons, List.length_nil]; omega, small_app HS5.out.2.2.2.2.2.2.1 (fun g hg => by simp at hg; rcases hg with rfl | rfl <;> decide)⟩
          have h2' : ((y : Int) == 2) = false := beq_eq_false_iff_ne.2 (by omega)
          go_wp2
          go_ret
          exact ⟨_, _, _, _, _, rfl, by omega, HS5.out.1, HO5.out, HS5.out.2.1, by have := HL5.out; omega, HS5.out.2.2.2.2.2.2.1⟩
      ·
        have hn0' : ((n : Int) == 0) = false := beq_eq_false_iff_ne.2 (by omega)
        go_wp2_with fail
        refine (pick_any b (q) 20 _ HS.out.1 (by omega) (by omega) (by omega)).mono ?_
        rintro e w5 ⟨y, hy, rfl, hr, hg⟩
        have HS5 := Lib.hid (TSt.read HS.out hr hg)
        clear hr hg
        have HO5 := Lib.hid HS5.out.own
        have HL5 := Lib.hid HO5.out.len.1
        obtain ⟨g5, hg5⟩ : ∃ g, A = some ⟨g, 0, none⟩ := by
          obtain ⟨A', c', he, _, _, _, _, hne⟩ := HO5.out.form
          injection he with he1 he2 he3
          subst he1
          exact hne (fun e => by have h9 := HL5.out; rw [e] at h9; first | (simp at h9; done) | (simp at h9; omega))
        subst hg5
        by_cases h0 : y = 0
        ·
          subst h0
          obtain ⟨x, hx⟩ : ∃ x, (T)[0]? = some x := ⟨_, List.getElem?_eq_getElem (by rw [← HL5.out]; omega)⟩
          have hxs : x.size ≤ 30 := HS5.out.2.2.2.2.2.2.1 x (List.mem_of_getElem? hx)
          obtain ⟨b0, o0, hA0, hb0, k0⟩ := str_at HO5.out.at hx
          cases hA0
          simp only [Nat.add_zero] at k0
          have hn0 : (0 : Int) < ((n : Nat) : Int) := by omega
          have hnew := RAt.made stR w5 [x] w5.heap.size rfl
          have HLN : Hid ((T).length = n) := Lib.hid HL5.out.symm
          have hml : n + 1 ≤ maxLen := by unfold maxLen; omega
          have hby : (n + 1) * 16 ≤ 140737488355328 := by omega
          have hba : w.heap.size ≤ (w5.alloc (.cells #[.string x] 9)).heap.size := by have := HS5.out.2.1.size; simp; omega
          have howna := HO5.out.alloc (.cells #[.string x] 9)
          clear hx
          go_wp2_with (at_builtin; refine wpList_append_rows rfl (.tmp 37) (.tmp 41) 23 rfl stR w.heap.size i0 _ 16 Try.underlying23 hi0 hq0 hq1 hq2 rfl (by decide) _ (T) [x] n HLN.out rfl howna (some ⟨w5.heap.size, 0, none⟩) 1 1 rfl rfl hnew (fun e => by cases e) (fun q e => by cases e; rfl) hml hby hba ?_)
          intro v' w9 hown hgrow hnn
          obtain ⟨A9, N9, cap9, rfl⟩ := hown.val
          have hN9 := hown.len.1
          have HR9 := Lib.hid (rd_far (HS5.out.1.below (below_new' w5 (.cells #[.string x] 9)) HS5.out.1.lt) hgrow (fun g e => by have h1 := (World.ownsRow.lt HO5.out g e).1; have h2 := HS5.out.2.2.1; omega))
          have HG9 := Lib.hid (gr_far (gr_trans HS5.out.2.1 (gr_below (below_new' w5 (.cells #[.string x] 9)) _)) hgrow (fun g e => (World.ownsRow.lt HO5.out g e).1))
          have HO9 := Lib.hid hown
          clear hown hgrow hnn hnew howna
          go_wp2
          go_ret
          exact ⟨A9, N9, cap9, (T) ++ [x], _, rfl, by omega, HR9.out, (by have h9 := HO9.out; first | exact h9 | simpa [List.append_assoc] using h9), HG9.out, by rw [List.length_append, HLN.out]; simp only [List.length_cons, List.length_nil]; omega, small_app HS5.out.2.2.2.2.2.2.1 (fun g hg => by simp at hg; rw [hg]; exact hxs)⟩
        have h0' : ((y : Int) == 0) = false := beq_eq_false_iff_ne.2 (by omega)
        by_cases h1 : y = 1
        ·
          subst h1
          have hc0 : (0 : Int) ≤ (cap : Int) := by omega
          have HOF := Lib.hid (HO5.out.front (Nat.zero_le _))
          go_wp2
          go_ret
          exact ⟨_, 0, _, _, _, rfl, by omega, HS5.out.1, HOF.out, HS5.out.2.1, by simp, fun g hg => by simp at hg⟩
        have h1' : ((y : Int) == 1) = false := beq_eq_false_iff_ne.2 (by omega)
        by_cases h2 : y = 2
        ·
          subst h2
          have hnew := RAt.made stR w5 [(⟨#[100, 97, 110]⟩ : ByteArray), ⟨#[101, 118, 101]⟩] w5.heap.size rfl
          have HLN : Hid ((T).length = n) := Lib.hid HL5.out.symm
          have hml : n + 2 ≤ maxLen := by unfold maxLen; omega
          have hby : (n + 2) * 16 ≤ 140737488355328 := by omega
          have hba : w.heap.size ≤ (w5.alloc (.cells #[.string ⟨#[100, 97, 110]⟩, .string ⟨#[101, 118, 101]⟩] 9)).heap.size := by have := HS5.out.2.1.size; simp; omega
          have howna := HO5.out.alloc (.cells #[.string ⟨#[100, 97, 110]⟩, .string ⟨#[101, 118, 101]⟩] 9)
          go_wp2_with (at_builtin; refine wpList_append_rows rfl (.tmp 49) (.tmp 50) 23 rfl stR w.heap.size i0 _ 16 Try.underlying23 hi0 hq0 hq1 hq2 rfl (by decide) _ (T) [(⟨#[100, 97, 110]⟩ : ByteArray), ⟨#[101, 118, 101]⟩] n HLN.out rfl howna (some ⟨w5.heap.size, 0, none⟩) 2 2 rfl rfl hnew (fun e => by cases e) (fun q e => by cases e; rfl) hml hby hba ?_)
          intro v' w9 hown hgrow hnn
          obtain ⟨A9, N9, cap9, rfl⟩ := hown.val
          have hN9 := hown.len.1
          have HR9 := Lib.hid (rd_far (HS5.out.1.below (below_new' w5 (.cells #[.string ⟨#[100, 97, 110]⟩, .string ⟨#[101, 118, 101]⟩] 9)) HS5.out.1.lt) hgrow (fun g e => by have h1 := (World.ownsRow.lt HO5.out g e).1; have h2 := HS5.out.2.2.1; omega))
          have HG9 := Lib.hid (gr_far (gr_trans HS5.out.2.1 (gr_below (below_new' w5 (.cells #[.string ⟨#[100, 97, 110]⟩, .string ⟨#[101, 118, 101]⟩] 9)) _)) hgrow (fun g e => (World.ownsRow.lt HO5.out g e).1))
          have HO9 := Lib.hid hown
          clear hown hgrow hnn hnew howna
          go_wp2
          go_ret
          exact ⟨A9, N9, cap9, (T) ++ [(⟨#[100, 97, 110]⟩ : ByteArray), ⟨#[101, 118, 101]⟩], _, rfl, by omega, HR9.out, (by have h9 := HO9.out; first | exact h9 | simpa [List.append_assoc] using h9), HG9.out, by rw [List.length_append, HLN.out]; simp only [List.length_cons, List.length_nil]; omega, small_app HS5.out.2.2.2.2.2.2.1 (fun g hg => by simp at hg; rcases hg with rfl | rfl <;> decide)⟩
        have h2' : ((y : Int) == 2) = false := beq_eq_false_iff_ne.2 (by omega)
        go_wp2
        go_ret
        exact ⟨_, _, _, _, _, rfl, by omega, HS5.out.1, HO5.out, HS5.out.2.1, by have := HL5.out; omega, HS5.out.2.2.2.2.2.2.1⟩
end Go.Proofs.Ytichajalinkcdaa
namespace Go.Proofs.Ytichajalinkcdaa
open Go.RowKit
set_option linter.unusedVariables false

def ls7 : List (List UInt8) := [[46], [104, 101, 108, 108, 111], [46, 46], [46, 120], [], [97, 32, 108, 111, 110, 103, 32, 108, 105, 110, 101, 32, 111, 102, 32, 116, 101, 120, 116], [116, 111, 32, 98, 111, 98]]
def ls16 : List (List UInt8) := [[69, 72, 76, 79, 32, 104, 111, 115, 116], [69, 72, 76, 79], [65, 85, 84, 72, 32, 80, 76, 65, 73, 78], [65, 85, 84, 72, 32, 76, 79, 71, 73, 78, 32, 120], [77, 65, 73, 76, 32, 70, 82, 79, 77, 58, 60, 62], [77, 65, 73, 76, 32, 70, 82, 79, 77, 58, 60, 97, 109, 121, 64, 104, 111, 115, 116, 46, 111, 114, 103, 62], [82, 67, 80, 84, 32, 84, 79, 58, 60, 98, 111, 98, 64, 104, 111, 115, 116, 46, 111, 114, 103, 62], [82, 67, 80, 84, 32, 84, 79, 58, 98, 111, 98], [68, 65, 84, 65], [82, 83, 69, 84], [78, 79, 79, 80], [81, 85, 73, 84], [81, 85, 73, 84, 32, 110, 111, 119], [101, 104, 108, 111, 32, 104, 111, 115, 116], [], [46]]
def ls3 : List (List UInt8) := [[97, 109, 121], [98, 111, 98], [99, 121, 100]]
def ls4 : List (List UInt8) := [[104, 111, 115, 116, 46, 111, 114, 103], [104, 111, 115, 116, 46, 111, 114, 103], [104, 111, 115, 116, 46, 111, 114, 103], [120]]
def ls4b : List (List UInt8) := [[97, 109, 121], [98, 111, 98], [99, 121, 100], [101, 118, 101]]
/-- One of a list of texts, none of them long. -/
theorem of_txt (b p : Nat) (ls : List (List UInt8)) (w : World) (h : Rd w b p) (hp : p ≤ 1000000) (hn : 1 ≤ ls.length) (hn' : ls.length ≤ 1000000) (hle : ls.all (fun x => decide (x.length ≤ 30)) = true) :
    Calls Try.prog 53 #[.pointer (some ⟨b, 0, none⟩), .slice (some ⟨w.heap.size, 0, none⟩) ls.length ls.length] (w.alloc (.cells (ls.map str).toArray 9))
      fun e w' => ∃ s : ByteArray, s.size ≤ 30 ∧ e = .returned (.string s) ∧ Rd w' b (p + 1) ∧ w.grownBy w' (some b) :=
  (of_new b p ls w h hp hn hn').mono fun e w' ⟨l, hl, he, hr, hg⟩ => ⟨⟨l.toArray⟩, text_le hle hl, he, hr, hg⟩
/-- A drawn line. -/
def TextC (w : World) (b p : Nat) (e : Ending) (w' : World) : Prop := ∃ (s : ByteArray) (q : Nat), s.size ≤ 200 ∧ q ≤ p + 8 ∧ e = .returned (.string s) ∧ Rd w' b q ∧ w.grownBy w' (some b)
theorem UIn.grown {w w' : World} {A : Option Addr} {N cap g : Nat} {L : List Us} (h : UIn w A N cap L) (hg : w.grownBy w' (some g)) (hne : ∀ b o, A = some ⟨b, o, none⟩ → b ≠ g) : UIn w' A N cap L := ⟨h.1, h.2.1, h.2.2.1.grown hg hne, h.2.2.2⟩
/-- What a call of the reader leaves. -/
def CG (w wr : World) (b q : Nat) : Prop := Rd wr b q ∧ w.grownBy wr (some b)
theorem CG.read {w wr w' : World} {b q q' : Nat} (h : CG w wr b q) (hr : Rd w' b q') (hg : wr.grownBy w' (some b)) : CG w w' b q' := ⟨hr, gr_trans h.2 hg⟩
theorem CG.later {w wr w' : World} {b q : Nat} (h : CG w wr b q) (hb : Below wr.heap.size wr w') : CG w w' b q := ⟨h.1.below hb h.1.lt, gr_trans h.2 (gr_below hb _)⟩
theorem below_drew0 (w : World) : Below w.heap.size w w.drew := ⟨rfl, rfl, rfl, Nat.le_refl _, fun _ _ => rfl⟩
set_option maxRecDepth 20000 in
set_option maxHeartbeats 8000000 in
theorem cmd_draw (b p : Nat) (st : Int) (us tx : ByteArray) (A AU : Option Addr) (N cap NU cU : Nat) (L : List Us) (w : World) (h : Rd w b p) (hp : p ≤ 700000) (hU : UIn w AU NU cU L) (hs : ∀ g ∈ L, g.2.1.size ≤ 30) (hAb : ∀ bb o, AU = some ⟨bb, o, none⟩ → bb ≠ b) (hus : us.size ≤ 30) : Calls Try.prog 46 #[.pointer (some ⟨b, 0, none⟩), .agg #[.int .i64 st, .string us, .slice A N cap, .string tx], .slice AU NU cU] w (TextC w b p) := by
  have hbl := h.lt
  have hW := Whole.made w 25 #[.int .i64 st, .string us, .slice A N cap, .string tx]
  have hB := below_new' w (.cells #[.int .i64 st, .string us, .slice A N cap, .string tx] 25)
  have HC0 : Hid (CG w (w.alloc (.cells #[.int .i64 st, .string us, .slice A N cap, .string tx] 25)) b p) := Lib.hid ⟨h.below hB hbl, gr_below hB _⟩
  have HW := Lib.hid hW
  have HU := Lib.hid (hU.below hB (Nat.le_refl _))
  have HS := Lib.hid hs
  have HAB := Lib.hid hAb
  have c0 := hW.cell 0
  have c1 := hW.cell 1
  simp only [List.getElem?_toArray, List.getElem?_cons_zero, List.getElem?_cons_succ] at c0 c1
  obtain ⟨w0, hw0⟩ : ∃ w0, w.alloc (.cells #[.int .i64 st, .string us, .slice A N cap, .string tx] 25) = w0 := ⟨_, rfl⟩
  rw [hw0] at HC0 HW HU
  have HW0 := Lib.hid hw0
  obtain ⟨C, hC⟩ : ∃ C, w.heap.size = C := ⟨_, rfl⟩
  rw [hC] at HW
  have HCC := Lib.hid hC
  have HbC : Hid (b < C) := Lib.hid (by omega)
  clear h hU hs hAb hW hB hw0 hC
  by_cases h5 : st = 5
  ·
    subst h5
    go_enter Try.func46, Try.ntmps46
    go_wp2_with fail
    rw [HW0.out]
    refine (pick_any b p 3 w0 HC0.out.1 (by omega) (by omega) (by omega)).mono ?_
    rintro e w1 ⟨x1, hx1, rfl, hr, hg⟩
    have H1 := Lib.hid (CG.read HC0.out hr hg)
    have G1 := Lib.hid hg
    clear hr hg
    by_cases h0 : 0 < x1
    ·
      have h0' : (0 : Int) < (x1 : Int) := by omega
      clear h0
      go_wp2_with fail
      refine (of_txt b (p + 1) ls7 w1 H1.out.1 (by omega) (by decide) (by decide) (by decide)).mono ?_
      rintro e w4 ⟨l1, hs1, rfl, hr, hg⟩
      have Hw4 := Lib.hid (CG.read H1.out hr hg)
      clear hr hg
      go_wp2
      go_ret
      exact ⟨_, _, by omega, by omega, rfl, Hw4.out.1, Hw4.out.2⟩
    ·
      have h0' : ¬ (0 : Int) < (x1 : Int) := by omega
      clear h0
      go_wp2_with fail
      refine (pick_any b (p + 1) 4 w1 H1.out.1 (by omega) (by omega) (by omega)).mono ?_
      rintro e w2 ⟨x2, hx2, rfl, hr, hg⟩
      have H2 := Lib.hid (CG.read H1.out hr hg)
      have G2 := Lib.hid (gr_trans G1.out hg)
      clear hr hg
      by_cases h0 : x2 = 0
      ·
        subst h0
        go_wp2_with fail
        refine (of_txt b (p + 1 + 1) ls16 w2 H2.out.1 (by omega) (by decide) (by decide) (by decide)).mono ?_
        rintro e w3 ⟨l2, hs2, rfl, hr, hg⟩
        have Hw3 := Lib.hid (CG.read H2.out hr hg)
        clear hr hg
        go_wp2
        go_ret
        exact ⟨_, _, by omega, by omega, rfl, Hw3.out.1, Hw3.out.2⟩
      ·
        have h0' : ((x2 : Int) == 0) = false := beq_eq_false_iff_ne.2 (by omega)
        clear h0
        have hx := HW.out.grown G2.out (by simp; have := HbC.out; omega)
        have c0 := hx.cell 0
        have c1 := hx.cell 1
        simp only [List.getElem?_toArray, List.getElem?_cons_zero, List.getElem?_cons_succ] at c0 c1
        clear hx
        rw [HCC.out]
        go_wp2
        go_ret
        exact ⟨_, _, by decide, by omega, rfl, H2.out.1, H2.out.2⟩
  have h5' : (st == 5) = false := beq_eq_false_iff_ne.2 h5
  by_cases hr01 : st = 0 ∨ st = 1 ∨ st = 2 ∨ st = 3 ∨ st = 4
  · rcases hr01 with rfl | rfl | rfl | rfl | rfl
    ·
      try clear h5
      go_enter Try.func46, Try.ntmps46
      go_wp2_with fail
      rw [HW0.out]
      refine (pick_any b p 4 w0 HC0.out.1 (by omega) (by omega) (by omega)).mono ?_
      rintro e w2 ⟨x2, hx2, rfl, hr, hg⟩
      have H2 := Lib.hid (CG.read HC0.out hr hg)
      have G2 := Lib.hid hg
      clear hr hg
      try rw [HCC.out]
      by_cases h0 : x2 = 0
      ·
        subst h0
        go_wp2_with fail
        refine (of_txt b (p + 1) ls16 w2 H2.out.1 (by omega) (by decide) (by decide) (by decide)).mono ?_
        rintro e w3 ⟨l3, hs3, rfl, hr, hg⟩
        have Hw3 := Lib.hid (CG.read H2.out hr hg)
        clear hr hg
        go_wp2
        go_ret
        exact ⟨_, _, by omega, by omega, rfl, Hw3.out.1, Hw3.out.2⟩
      ·
        have h0' : ((x2 : Int) == 0) = false := beq_eq_false_iff_ne.2 (by omega)
        clear h0
        have hx := HW.out.grown G2.out (by simp; have := HbC.out; omega)
        have c0 := hx.cell 0
        have c1 := hx.cell 1
        simp only [List.getElem?_toArray, List.getElem?_cons_zero, List.getElem?_cons_succ] at c0 c1
        clear hx
        go_wp2_with fail
        refine (domain_text b (p + 1) _ H2.out.1 (by omega)).mono ?_
        rintro e w4 ⟨s, hs, rfl, hr, hg⟩
        have H4 := Lib.hid (CG.read H2.out hr hg)
        clear hr hg
        go_wp2
        go_ret
        exact ⟨_, _, by rw [ByteArray.size_append]; have e5 : (ByteArray.mk #[69, 72, 76, 79, 32]).size = 5 := rfl; omega, by omega, rfl, H4.out.1, H4.out.2⟩
    ·
      try clear h5
      go_enter Try.func46, Try.ntmps46
      go_wp2_with fail
      rw [HW0.out]
      refine (pick_any b p 4 w0 HC0.out.1 (by omega) (by omega) (by omega)).mono ?_
      rintro e w2 ⟨x2, hx2, rfl, hr, hg⟩
      have H2 := Lib.hid (CG.read HC0.out hr hg)
      have G2 := Lib.hid hg
      clear hr hg
      try rw [HCC.out]
      by_cases h0 : x2 = 0
      ·
        subst h0
        go_wp2_with fail
        refine (of_txt b (p + 1) ls16 w2 H2.out.1 (by omega) (by decide) (by decide) (by decide)).mono ?_
        rintro e w3 ⟨l4, hs4, rfl, hr, hg⟩
        have Hw3 := Lib.hid (CG.read H2.out hr hg)
        clear hr hg
        go_wp2
        go_ret
        exact ⟨_, _, by omega, by omega, rfl, Hw3.out.1, Hw3.out.2⟩
      ·
        have h0' : ((x2 : Int) == 0) = false := beq_eq_false_iff_ne.2 (by omega)
        clear h0
        have hx := HW.out.grown G2.out (by simp; have := HbC.out; omega)
        have c0 := hx.cell 0
        have c1 := hx.cell 1
        simp only [List.getElem?_toArray, List.getElem?_cons_zero, List.getElem?_cons_succ] at c0 c1
        clear hx
        go_wp2_with fail
        refine (of_txt b (p + 1) ls3 w2 H2.out.1 (by omega) (by decide) (by decide) (by decide)).mono ?_
        rintro e w4 ⟨l5, hs5, rfl, hr, hg⟩
        have Hw4 := Lib.hid (CG.read H2.out hr hg)
        have G4 := Lib.hid (gr_trans G2.out hg)
        clear hr hg
        have HUw := Lib.hid (HU.out.grown (G4.out) HAB.out)
        go_wp2_with fail
        refine (pass_draw b (p + 1 + 1) AU NU cU L l5 w4 Hw4.out.1 (by omega) HUw.out HS.out HAB.out).mono ?_
        rintro e w5 ⟨s, q5, hs, hq5, rfl, hr, hg⟩
        have H5 := Lib.hid (CG.read Hw4.out hr hg)
        clear hr hg
        go_wp2_with fail
        refine (smake l5 s _ (by omega) (by omega)).mono ?_
        rintro e w6 ⟨rfl, hb⟩
        have hmk := mkB_le l5 s
        have H6 := Lib.hid (CG.later H5.out hb)
        clear hb
        go_wp2
        go_ret
        exact ⟨_, _, by rw [ByteArray.size_append]; have e5 : (ByteArray.mk #[65, 85, 84, 72, 32, 80, 76, 65, 73, 78, 32]).size = 11 := rfl; omega, by omega, rfl, H6.out.1, H6.out.2⟩
    ·
      try clear h5
      go_enter Try.func46, Try.ntmps46
      go_wp2_with fail
      rw [HW0.out]
      refine (pick_any b p 4 w0 HC0.out.1 (by omega) (by omega) (by omega)).mono ?_
      rintro e w2 ⟨x2, hx2, rfl, hr, hg⟩
      have H2 := Lib.hid (CG.read HC0.out hr hg)
      have G2 := Lib.hid hg
      clear hr hg
      try rw [HCC.out]
      by_cases h0 : x2 = 0
      ·
        subst h0
        go_wp2_with fail
        refine (of_txt b (p + 1) ls16 w2 H2.out.1 (by omega) (by decide) (by decide) (by decide)).mono ?_
        rintro e w3 ⟨l6, hs6, rfl, hr, hg⟩
        have Hw3 := Lib.hid (CG.read H2.out hr hg)
        clear hr hg
        go_wp2
        go_ret
        exact ⟨_, _, by omega, by omega, rfl, Hw3.out.1, Hw3.out.2⟩
      ·
        have h0' : ((x2 : Int) == 0) = false := beq_eq_false_iff_ne.2 (by omega)
        clear h0
        have hx := HW.out.grown G2.out (by simp; have := HbC.out; omega)
        have c0 := hx.cell 0
        have c1 := hx.cell 1
        simp only [List.getElem?_toArray, List.getElem?_cons_zero, List.getElem?_cons_succ] at c0 c1
        clear hx
        go_wp2
        try rw [HCC.out]
        have ca1 := (((HW.out.grown G2.out (by simp; have := HbC.out; omega)).alloc (.cells (ls4.map str).toArray 9)).cell 1)
        simp only [List.getElem?_toArray, List.getElem?_cons_zero, List.getElem?_cons_succ] at ca1
        simp only [ls4, List.map_cons, List.map_nil, str] at ca1
        go_region_with (go_at_call 53; refine (of_txt b (p + 1) ls4 w2.drew H2.out.1 (by omega) (by decide) (by decide) (by decide)).mono ?_; rintro e w4 ⟨l9, hs9, rfl, hr, hg⟩; have k1 : w4.cell? ⟨C, 1, none⟩ = some (.string us) := (((HW.out.grown G2.out (by simp; have := HbC.out; omega)).drew.grown hg (by simp; have := HbC.out; omega)).cell 1); have H4 := Lib.hid (show CG w w4 b (p + 1 + 1) from ⟨hr, gr_trans H2.out.2 (gr_trans (gr_below (below_drew0 w2) _) hg)⟩); clear hr hg)
        all_goals
          go_wp2
          go_ret
          exact ⟨_, _, by simp only [ByteArray.size_append]; have e5 : (ByteArray.mk #[77, 65, 73, 76, 32, 70, 82, 79, 77, 58, 60]).size = 11 := rfl; have e6 : (ByteArray.mk #[64]).size = 1 := rfl; have e7 : (ByteArray.mk #[62]).size = 1 := rfl; omega, by omega, rfl, H4.out.1, H4.out.2⟩
    ·
      try clear h5
      go_enter Try.func46, Try.ntmps46
      go_wp2_with fail
      rw [HW0.out]
      refine (pick_any b p 4 w0 HC0.out.1 (by omega) (by omega) (by omega)).mono ?_
      rintro e w2 ⟨x2, hx2, rfl, hr, hg⟩
      have H2 := Lib.hid (CG.read HC0.out hr hg)
      have G2 := Lib.hid hg
      clear hr hg
      try rw [HCC.out]
      by_cases h0 : x2 = 0
      ·
        subst h0
        go_wp2_with fail
        refine (of_txt b (p + 1) ls16 w2 H2.out.1 (by omega) (by decide) (by decide) (by decide)).mono ?_
        rintro e w3 ⟨l7, hs7, rfl, hr, hg⟩
        have Hw3 := Lib.hid (CG.read H2.out hr hg)
        clear hr hg
        go_wp2
        go_ret
        exact ⟨_, _, by omega, by omega, rfl, Hw3.out.1, Hw3.out.2⟩
      ·
        have h0' : ((x2 : Int) == 0) = false := beq_eq_false_iff_ne.2 (by omega)
        clear h0
        have hx := HW.out.grown G2.out (by simp; have := HbC.out; omega)
        have c0 := hx.cell 0
        have c1 := hx.cell 1
        simp only [List.getElem?_toArray, List.getElem?_cons_zero, List.getElem?_cons_succ] at c0 c1
        clear hx
        go_wp2_with fail
        refine (of_txt b (p + 1) ls4b w2 H2.out.1 (by omega) (by decide) (by decide) (by decide)).mono ?_
        rintro e w6 ⟨l8, hs8, rfl, hr, hg⟩
        have Hw6 := Lib.hid (CG.read H2.out hr hg)
        clear hr hg
        go_wp2_with fail
        refine (of_txt b (p + 1 + 1) ls4 w6 Hw6.out.1 (by omega) (by decide) (by decide) (by decide)).mono ?_
        rintro e w7 ⟨l9, hs9, rfl, hr, hg⟩
        have Hw7 := Lib.hid (CG.read Hw6.out hr hg)
        clear hr hg
        go_wp2
        go_ret
        exact ⟨_, _, by simp only [ByteArray.size_append]; have e5 : (ByteArray.mk #[82, 67, 80, 84, 32, 84, 79, 58, 60]).size = 9 := rfl; have e6 : (ByteArray.mk #[64]).size = 1 := rfl; have e7 : (ByteArray.mk #[62]).size = 1 := rfl; omega, by omega, rfl, Hw7.out.1, Hw7.out.2⟩
    ·
      try clear h5
      go_enter Try.func46, Try.ntmps46
      go_wp2_with fail
      rw [HW0.out]
      refine (pick_any b p 4 w0 HC0.out.1 (by omega) (by omega) (by omega)).mono ?_
      rintro e w2 ⟨x2, hx2, rfl, hr, hg⟩
      have H2 := Lib.hid (CG.read HC0.out hr hg)
      have G2 := Lib.hid hg
      clear hr hg
      try rw [HCC.out]
      by_cases h0 : x2 = 0
      ·
        subst h0
        go_wp2_with fail
        refine (of_txt b (p + 1) ls16 w2 H2.out.1 (by omega) (by decide) (by decide) (by decide)).mono ?_
        rintro e w3 ⟨l10, hs10, rfl, hr, hg⟩
        have Hw3 := Lib.hid (CG.read H2.out hr hg)
        clear hr hg
        go_wp2
        go_ret
        exact ⟨_, _, by omega, by omega, rfl, Hw3.out.1, Hw3.out.2⟩
      ·
        have h0' : ((x2 : Int) == 0) = false := beq_eq_false_iff_ne.2 (by omega)
        clear h0
        have hx := HW.out.grown G2.out (by simp; have := HbC.out; omega)
        have c0 := hx.cell 0
        have c1 := hx.cell 1
        simp only [List.getElem?_toArray, List.getElem?_cons_zero, List.getElem?_cons_succ] at c0 c1
        clear hx
        go_wp2_with fail
        refine (pick_any b (p + 1) 2 _ H2.out.1 (by omega) (by omega) (by omega)).mono ?_
        rintro e w5 ⟨x5, hx5, rfl, hr, hg⟩
        have H5 := Lib.hid (CG.read H2.out hr hg)
        clear hr hg c0 c1
        by_cases h0 : x5 = 0
        · subst h0
          go_wp2
          go_ret
          exact ⟨_, _, by decide, by omega, rfl, H5.out.1, H5.out.2⟩
        ·
          have h0' : ((x5 : Int) == 0) = false := beq_eq_false_iff_ne.2 (by omega)
          clear h0
          go_wp2_with fail
          refine (of_txt b (p + 1 + 1) ls4b w5 H5.out.1 (by omega) (by decide) (by decide) (by decide)).mono ?_
          rintro e w6 ⟨l11, hs11, rfl, hr, hg⟩
          have Hw6 := Lib.hid (CG.read H5.out hr hg)
          clear hr hg
          go_wp2_with fail
          refine (of_txt b (p + 1 + 1 + 1) ls4 w6 Hw6.out.1 (by omega) (by decide) (by decide) (by decide)).mono ?_
          rintro e w7 ⟨l12, hs12, rfl, hr, hg⟩
          have Hw7 := Lib.hid (CG.read Hw6.out hr hg)
          clear hr hg
          go_wp2
          go_ret
          exact ⟨_, _, by simp only [ByteArray.size_append]; have e5 : (ByteArray.mk #[82, 67, 80, 84, 32, 84, 79, 58, 60]).size = 9 := rfl; have e6 : (ByteArray.mk #[64]).size = 1 := rfl; have e7 : (ByteArray.mk #[62]).size = 1 := rfl; omega, by omega, rfl, Hw7.out.1, Hw7.out.2⟩
  ·
    have n0 : (st == 0) = false := beq_eq_false_iff_ne.2 (by omega)
    have n1 : (st == 1) = false := beq_eq_false_iff_ne.2 (by omega)
    have n2 : (st == 2) = false := beq_eq_false_iff_ne.2 (by omega)
    have n3 : (st == 3) = false := beq_eq_false_iff_ne.2 (by omega)
    have n4 : (st == 4) = false := beq_eq_false_iff_ne.2 (by omega)
    clear hr01
    try clear h5
    go_enter Try.func46, Try.ntmps46
    go_wp2_with fail
    rw [HW0.out]
    refine (pick_any b p 4 w0 HC0.out.1 (by omega) (by omega) (by omega)).mono ?_
    rintro e w2 ⟨x2, hx2, rfl, hr, hg⟩
    have H2 := Lib.hid (CG.read HC0.out hr hg)
    have G2 := Lib.hid hg
    clear hr hg
    try rw [HCC.out]
    by_cases h0 : x2 = 0
    ·
      subst h0
      go_wp2_with fail
      refine (of_txt b (p + 1) ls16 w2 H2.out.1 (by omega) (by decide) (by decide) (by decide)).mono ?_
      rintro e w3 ⟨l13, hs13, rfl, hr, hg⟩
      have Hw3 := Lib.hid (CG.read H2.out hr hg)
      clear hr hg
      go_wp2
      go_ret
      exact ⟨_, _, by omega, by omega, rfl, Hw3.out.1, Hw3.out.2⟩
    ·
      have h0' : ((x2 : Int) == 0) = false := beq_eq_false_iff_ne.2 (by omega)
      clear h0
      have hx := HW.out.grown G2.out (by simp; have := HbC.out; omega)
      have c0 := hx.cell 0
      have c1 := hx.cell 1
      simp only [List.getElem?_toArray, List.getElem?_cons_zero, List.getElem?_cons_succ] at c0 c1
      clear hx
      go_wp2
      go_ret
      exact ⟨_, _, by decide, by omega, rfl, H2.out.1, H2.out.2⟩
end Go.Proofs.Ytichajalinkcdaa
namespace Go.Proofs.Ytichajalinkcdaa
open Go.RowKit
set_option linter.unusedVariables false

theorem many_step {z n k r o N : Nat} (hn : n = 2 * k + r) (h : o + z * n = N) : (o + z * r) + (z + z) * k = N := by
  have e : z * (2 * k + r) = (z + z) * k + z * r := by rw [Nat.mul_add, ← Nat.mul_assoc, Nat.mul_two]
  rw [hn, e] at h
  omega
set_option maxHeartbeats 2000000 in
theorem spec_many (N : Nat) (hN : N ≤ 30) (w : World) : Calls Try.prog 48 #[.string ⟨#[121]⟩, .int .i64 (N : Int)] w fun e w' => ∃ s : ByteArray, s.size = N ∧ e = .returned (.string s) ∧ w' = w := by
  go_enter Try.func48, Try.ntmps48
  go_wp2
  go_loopw [0, 1, 5] (fun v0 v1 v5 wr => ∃ (s o : ByteArray) (n : Nat), n ≤ 30 ∧ v0 = .string s ∧ v1 = .int .i64 (n : Int) ∧ v5 = .string o ∧ Hid (o.size + s.size * n = N) ∧ 1 ≤ s.size ∧ s.size ≤ 60 ∧ o.size ≤ 30 ∧ wr = w) (fun _ v1 _ _ => (intOf v1).toNat)
  case atStart => exact ⟨⟨#[121]⟩, ⟨#[]⟩, N, hN, rfl, by go_num, rfl, Lib.hid (by have e1 : (ByteArray.mk #[121]).size = 1 := rfl; have e2 : (ByteArray.mk #[]).size = 0 := rfl; rw [e1, e2]; omega), by decide, by decide, by decide, rfl⟩
  case round =>
    obtain ⟨s, o, n, hn, rfl, rfl, rfl, HI, hs1, hs2, ho, rfl⟩ := hrel
    by_cases h0 : 0 < n
    · have h0' : (0 : Int) < (n : Int) := by omega
      obtain ⟨k, r, hk, hr⟩ : ∃ k r, n = 2 * k + r ∧ r ≤ 1 := ⟨n / 2, n % 2, by omega, by omega⟩
      have HM := Lib.hid (many_step hk HI.out)
      have hsn : s.size ≤ N := by
        have h1 := HI.out
        have h2 : s.size * 1 ≤ s.size * n := Nat.mul_le_mul_left _ h0
        omega
      have hq : (n : Int).tdiv 2 = (k : Int) := by rw [Int.tdiv_eq_ediv_of_nonneg (by omega)]; omega
      have W1 : IntKind.i64.wrap (k : Int) = (k : Int) := IntWalk.i64_in _ (by omega)
      have hk30 : k ≤ 30 := by omega
      have hkn : k < n := by omega
      have ht : (n : Int).tmod 2 = (r : Int) := by rw [Int.tmod_eq_emod_of_nonneg (by omega)]; omega
      rcases (show r = 0 ∨ r = 1 by omega) with rfl | rfl
      · have hm : ((n : Int).tmod 2 == 1) = false := by rw [ht]; rfl
        have hm2 : ((n : Int) % 2 == 1) = false := beq_eq_false_iff_ne.2 (by omega)
        have hm3 : ¬ (n : Int) % 2 = 1 := by omega
        have hm4 : ¬ n % 2 = 1 := by omega
        have hm5 : (n % 2 == 1) = false := beq_eq_false_iff_ne.2 (by omega)
        have HM2 : Hid (o.size + (s ++ s).size * k = N) := Lib.hid (by have h3 := HM.out; rw [ByteArray.size_append]; omega)
        have hsz : (s ++ s).size ≤ 60 := by rw [ByteArray.size_append]; omega
        have hsz1 : 1 ≤ (s ++ s).size := by rw [ByteArray.size_append]; omega
        clear hk ht
        go_wp2
        go_roundw
        case rel => exact ⟨s ++ s, o, k, by omega, rfl, by first | rfl | go_num, rfl, HM2, hsz1, hsz, ho, by trivial⟩
        case measure => simp [intOf]; omega
      · have hm : ((n : Int).tmod 2 == 1) = true := by rw [ht]; rfl
        have hm2 : ((n : Int) % 2 == 1) = true := beq_iff_eq.2 (by omega)
        have hm3 : (n : Int) % 2 = 1 := by omega
        have hm4 : n % 2 = 1 := by omega
        have hm5 : (n % 2 == 1) = true := beq_iff_eq.2 (by omega)
        have HM2 : Hid ((o ++ s).size + (s ++ s).size * k = N) := Lib.hid (by have h3 := HM.out; rw [ByteArray.size_append, ByteArray.size_append]; omega)
        have hsz : (s ++ s).size ≤ 60 := by rw [ByteArray.size_append]; omega
        have hsz1 : 1 ≤ (s ++ s).size := by rw [ByteArray.size_append]; omega
        have hso : (o ++ s).size ≤ 30 := by have h3 := HM2.out; omega
        clear hk ht
        go_wp2
        go_roundw
        case rel => exact ⟨s ++ s, o ++ s, k, by omega, rfl, by first | rfl | go_num, rfl, HM2, hsz1, hsz, hso, by trivial⟩
        case measure => simp [intOf]; omega
    · have h0' : ¬ (0 : Int) < (n : Int) := by omega
      have hz : n = 0 := by omega
      have hsz : o.size = N := by have h1 := HI.out; rw [hz, Nat.mul_zero] at h1; omega
      clear hz h0
      go_wp2
      go_ret
      exact ⟨o, hsz, rfl, rfl⟩
/-- Whatever the line, what SubmissionLine answers is valid. -/
theorem lineV_valid {s : Sb} {L : List Us} {d l u : ByteArray} {o : Bool} (hu : o = true → nameB (kb u) = true) : sbV (lineV s L d l u o).1 = true := by
  unfold lineV
  split
  · rename_i h
    simp only [Bool.and_eq_true] at h
    exact lineF_valid h.1 hu
  · rfl
end Go.Proofs.Ytichajalinkcdaa
