/-
  The walks of the laws FnTakeNone and FnTakeText. Condition: the code can be read.
-/
import Derived.Test.YtinbdibenbplnaaJp
import Derived.Test.YtinbdibenbplnaaQi
namespace Go.Proofs.Ytinbdibenbplnaa
open Go.RowKit
set_option linter.unusedVariables false

theorem take_none {n : Int} {L : List QI} {id : Int} {u : ByteArray} (h : qtO n L id u = false) (hv : vQ n L = true) : qtN n L = n ∧ qtK n L id u = L.map keyI ∧ qtT n L id u = ⟨#[]⟩ ∧ ∀ g ∈ L, ¬ (g.id = id ∧ u ∈ g.T) := by
  have h1 : tkO (L.map keyI) id u = false := by unfold qtO at h; rw [hv] at h; simpa using h
  have hno : ∀ k ∈ L.map keyI, ¬ (k.1 = id ∧ u ∈ k.2.2.2) := fun k hk hh => by
    unfold tkO at h1
    rw [List.find?_isSome.2 ⟨k, hk, by unfold mtch; rw [decide_eq_true hh.1, decide_eq_true hh.2]; rfl⟩] at h1
    cases h1
  have hne : ∀ k ∈ L.map keyI, k.2.2.2 ≠ [] := fun k hk => by
    obtain ⟨g, hg, rfl⟩ := List.mem_map.1 hk
    exact (letB_parts ((okQ_asc (vQ_parts hv).2.2.1).2 g hg).2).2.1
  refine ⟨by unfold qtN; rw [if_pos hv], by unfold qtK; rw [if_pos hv, tkK_none hne hno], by unfold qtT; rw [if_pos hv]; unfold tkT; rw [find_none hno]; rfl, fun g hg => hno (keyI g) (List.mem_map.2 ⟨g, hg, rfl⟩)⟩
theorem take_some {n : Int} {L : List QI} {id : Int} {u : ByteArray} (h : qtO n L id u = true) : ∃ g ∈ L, g.id = id ∧ u ∈ g.T ∧ qtT n L id u = g.tx ∧ ∀ x ∈ L, x.id = id → keyI x = keyI g := by
  unfold qtO at h
  simp only [Bool.and_eq_true] at h
  obtain ⟨hv, h1⟩ := h
  unfold tkO at h1
  cases hf : (L.map keyI).find? (mtch id u) with
  | none => rw [hf] at h1; cases h1
  | some k =>
    obtain ⟨g, hg, rfl⟩ := List.mem_map.1 (List.mem_of_find?_eq_some hf)
    have h3 := List.find?_some hf
    unfold mtch at h3
    simp only [Bool.and_eq_true, decide_eq_true_eq] at h3
    refine ⟨g, hg, h3.1, h3.2, by unfold qtT; rw [if_pos hv]; unfold tkT; rw [hf]; rfl, fun x hx hi => ?_⟩
    have hd := asc_dst (okQ_asc (vQ_parts hv).2.2.1).1
    obtain ⟨i, hi1, e1⟩ := List.getElem_of_mem hg
    obtain ⟨j, hj1, e2⟩ := List.getElem_of_mem hx
    by_cases hij : i = j
    · subst hij; rw [← e1, ← e2]
    · exact absurd (h3.1.trans hi.symm) (dst_ne hd (i := i) (j := j) (x := keyI g) (y := keyI x) (by rw [List.getElem?_map, List.getElem?_eq_getElem hi1, e1]; rfl) (by rw [List.getElem?_map, List.getElem?_eq_getElem hj1, e2]; rfl) hij)
set_option maxRecDepth 20000 in
set_option maxHeartbeats 8000000 in
theorem law_FnTakeNone (A0 : Option Addr) (len cap0 : Nat) (w : World) (h : Coded w A0 len cap0) : Calls Try.prog 11 #[.slice A0 len cap0] w (Holds1 w) := by
  have HC := Lib.hid h
  clear h
  by_cases hlen : len ≤ 1048576
  · have hlenI : (len : Int) ≤ 1048576 := by omega
    have hlenJ : ¬ (1048576 : Int) < (len : Int) := by omega
    go_enter Try.func11, Try.ntmps11
    go_wp2_with fail
    refine (draw_qtake A0 len cap0 w HC.out).mono ?_
    rintro e w1 ⟨n, A, N, cap, L, id, u, rfl, ho, hs, hl, hu, hb⟩
    have HL := Lib.hid hl
    have HNL := Lib.hid ho.1.len.1
    have hN8 : N ≤ 8 := by have := HNL.out; omega
    have HSQ := Lib.hid hs
    obtain ⟨D, hD⟩ : ∃ D, w1.heap.size = D := ⟨_, rfl⟩
    obtain ⟨w2, hw2⟩ : ∃ w2, w1.alloc (.cells #[.int .i64 n, .slice A N cap] 31) = w2 := ⟨_, rfl⟩
    have hb2 : Below w1.heap.size w1 w2 := by rw [← hw2]; exact below_new _ _
    have HB := Lib.hid (hb.trans (hb2.mono hb.size))
    have HQ := Lib.hid (show Whole w2 D 31 #[.int .i64 n, .slice A N cap] by rw [← hw2, ← hD]; exact Whole.made _ _ _)
    have HI := Lib.hid ((ho.qinS hs (by omega)).below hb2 (Nat.le_refl _))
    clear ho hs hl hb hb2
    obtain ⟨n6, hn6⟩ : ∃ x, qtN n L = x := ⟨_, rfl⟩
    obtain ⟨K6, hk6⟩ : ∃ x, qtK n L id u = x := ⟨_, rfl⟩
    obtain ⟨t6, ht6⟩ : ∃ x, qtT n L id u = x := ⟨_, rfl⟩
    obtain ⟨ok6, ho6⟩ : ∃ x, qtO n L id u = x := ⟨_, rfl⟩
    have HN6 := Lib.hid hn6
    have HK6 := Lib.hid hk6
    have HT6 := Lib.hid ht6
    have HO6 := Lib.hid ho6
    have HSM6 : Hid (smQ K6) := Lib.hid (by rw [← hk6]; exact (qtK_sm HSQ.out).1)
    have HLE6 : Hid (K6.length ≤ L.length) := Lib.hid (by rw [← hk6]; exact (qtK_sm HSQ.out).2)
    clear hn6 hk6 ht6 ho6
    have cHQ0 := HQ.out.cell 0
    have cHQ1 := HQ.out.cell 1
    simp only [List.getElem?_toArray, List.getElem?_cons_zero, List.getElem?_cons_succ] at cHQ0 cHQ1
    go_wp2_with fail
    have HCA := impl_queuetake (n := n) id u w2 HI.out
    rw [HN6.out, HK6.out, HT6.out, HO6.out] at HCA
    refine HCA.mono ?_
    rintro e w3 ⟨A6, N6, c6, L6, rfl, ho3, hk3, hb3⟩
    clear HCA
    clear cHQ0 cHQ1
    have HB_1 := Lib.hid (HB.out.trans (hb3.mono HB.out.size))
    have HQ_1 := Lib.hid (HQ.out.below hb3 HQ.out.lt)
    have HI_1 := Lib.hid (HI.out.below hb3 (Nat.le_refl _))
    clear HI HQ HB
    have hla : L6.length ≤ 1000 := by have h1 := HLE6.out; rw [← hk3, List.length_map] at h1; have := HL.out; omega
    have hia := ho3.qinS (by rw [hk3]; exact HSM6.out) hla
    have HKYa := Lib.hid hk3
    have HNa := Lib.hid ho3.1.len.1
    obtain ⟨D5, hD5⟩ : ∃ D, w3.heap.size = D := ⟨_, rfl⟩
    obtain ⟨w4, hw4⟩ : ∃ wn, w3.alloc (.cells #[.int .i64 n6, .slice A6 N6 c6] 31) = wn := ⟨_, rfl⟩
    have hbn : Below w3.heap.size w3 w4 := by rw [← hw4]; exact below_new _ _
    have HB_2 := Lib.hid (HB_1.out.trans (hbn.mono HB_1.out.size))
    have HQ_2 := Lib.hid (HQ_1.out.below hbn HQ_1.out.lt)
    have HI_2 := Lib.hid (HI_1.out.below hbn (Nat.le_refl _))
    clear HI_1 HQ_1 HB_1
    have HOa := Lib.hid (show Whole w4 D5 31 #[.int .i64 n6, .slice A6 N6 c6] by rw [← hw4, ← hD5]; exact Whole.made _ _ _)
    have HIa := Lib.hid (hia.below hbn (Nat.le_refl _))
    clear hla hia hbn ho3 hk3 hb3
    have cHQ0 := HQ_2.out.cell 0
    have cHQ1 := HQ_2.out.cell 1
    simp only [List.getElem?_toArray, List.getElem?_cons_zero, List.getElem?_cons_succ] at cHQ0 cHQ1
    go_wp2_with fail
    have HCA := spec_queuetake (n := n) id u w4 HI_2.out
    rw [HN6.out, HK6.out, HT6.out, HO6.out] at HCA
    refine HCA.mono ?_
    rintro e w5 ⟨A7, N7, c7, L7, rfl, ho5, hk5, hb5⟩
    clear HCA
    clear cHQ0 cHQ1
    have HB_3 := Lib.hid (HB_2.out.trans (hb5.mono HB_2.out.size))
    have HQ_3 := Lib.hid (HQ_2.out.below hb5 HQ_2.out.lt)
    have HI_3 := Lib.hid (HI_2.out.below hb5 (Nat.le_refl _))
    have HOa_3 := Lib.hid (HOa.out.below hb5 HOa.out.lt)
    have HIa_3 := Lib.hid (HIa.out.below hb5 (Nat.le_refl _))
    clear HIa HOa HI_2 HQ_2 HB_2
    have hlb : L7.length ≤ 1000 := by have h1 := HLE6.out; rw [← hk5, List.length_map] at h1; have := HL.out; omega
    have hib := ho5.qinS (by rw [hk5]; exact HSM6.out) hlb
    have HKYb := Lib.hid hk5
    have HNb := Lib.hid ho5.1.len.1
    obtain ⟨D7, hD7⟩ : ∃ D, w5.heap.size = D := ⟨_, rfl⟩
    obtain ⟨w6, hw6⟩ : ∃ wn, w5.alloc (.cells #[.int .i64 n6, .slice A7 N7 c7] 31) = wn := ⟨_, rfl⟩
    have hbn : Below w5.heap.size w5 w6 := by rw [← hw6]; exact below_new _ _
    have HB_4 := Lib.hid (HB_3.out.trans (hbn.mono HB_3.out.size))
    have HQ_4 := Lib.hid (HQ_3.out.below hbn HQ_3.out.lt)
    have HI_4 := Lib.hid (HI_3.out.below hbn (Nat.le_refl _))
    have HOa_4 := Lib.hid (HOa_3.out.below hbn HOa_3.out.lt)
    have HIa_4 := Lib.hid (HIa_3.out.below hbn (Nat.le_refl _))
    clear HIa_3 HOa_3 HI_3 HQ_3 HB_3
    have HOb := Lib.hid (show Whole w6 D7 31 #[.int .i64 n6, .slice A7 N7 c7] by rw [← hw6, ← hD7]; exact Whole.made _ _ _)
    have HIb := Lib.hid (hib.below hbn (Nat.le_refl _))
    clear hlb hib hbn ho5 hk5 hb5
    have h67 : N6 = N7 := by have h1 := HNa.out; have h2 := HNb.out; have h3 := key_len (HKYa.out.trans HKYb.out.symm); omega
    subst h67
    have HE67 := Lib.hid (HKYa.out.trans HKYb.out.symm)
    cases ok6 with
    | true =>
      have cHOa0 := HOa_4.out.cell 0
      have cHOa1 := HOa_4.out.cell 1
      have cHOb0 := HOb.out.cell 0
      have cHOb1 := HOb.out.cell 1
      simp only [List.getElem?_toArray, List.getElem?_cons_zero, List.getElem?_cons_succ] at cHOa0 cHOa1 cHOb0 cHOb1
      go_wp2_with fail
      refine (same_queue _ HIa_4.out HIb.out HE67.out).mono ?_
      rintro e u5x ⟨rfl, hb⟩
      clear cHOa0 cHOa1 cHOb0 cHOb1
      have HB_6 := Lib.hid (HB_4.out.trans (hb.mono HB_4.out.size))
      have HQ_6 := Lib.hid (HQ_4.out.below hb HQ_4.out.lt)
      have HI_6 := Lib.hid (HI_4.out.below hb (Nat.le_refl _))
      have HOa_6 := Lib.hid (HOa_4.out.below hb HOa_4.out.lt)
      have HIa_6 := Lib.hid (HIa_4.out.below hb (Nat.le_refl _))
      have HOb_6 := Lib.hid (HOb.out.below hb HOb.out.lt)
      have HIb_6 := Lib.hid (HIb.out.below hb (Nat.le_refl _))
      clear HIb HOb HIa_4 HOa_4 HI_4 HQ_4 HB_4
      clear hb
      have cHOa0 := HOa_6.out.cell 0
      have cHOa1 := HOa_6.out.cell 1
      have cHOb0 := HOb_6.out.cell 0
      have cHOb1 := HOb_6.out.cell 1
      simp only [List.getElem?_toArray, List.getElem?_cons_zero, List.getElem?_cons_succ] at cHOa0 cHOa1 cHOb0 cHOb1
      go_wp2_with fail
      refine (same_queue _ HIa_6.out HIb_6.out HE67.out).mono ?_
      rintro e u7x ⟨rfl, hb⟩
      clear cHOa0 cHOa1 cHOb0 cHOb1
      have HB_8 := Lib.hid (HB_6.out.trans (hb.mono HB_6.out.size))
      have HQ_8 := Lib.hid (HQ_6.out.below hb HQ_6.out.lt)
      have HI_8 := Lib.hid (HI_6.out.below hb (Nat.le_refl _))
      have HOa_8 := Lib.hid (HOa_6.out.below hb HOa_6.out.lt)
      have HIa_8 := Lib.hid (HIa_6.out.below hb (Nat.le_refl _))
      have HOb_8 := Lib.hid (HOb_6.out.below hb HOb_6.out.lt)
      have HIb_8 := Lib.hid (HIb_6.out.below hb (Nat.le_refl _))
      clear HIb_6 HOb_6 HIa_6 HOa_6 HI_6 HQ_6 HB_6
      clear hb
      go_wp2
      go_ret
      exact ⟨rfl, HB_8.out⟩
    | false =>
      have cHOa0 := HOa_4.out.cell 0
      have cHOa1 := HOa_4.out.cell 1
      have cHOb0 := HOb.out.cell 0
      have cHOb1 := HOb.out.cell 1
      simp only [List.getElem?_toArray, List.getElem?_cons_zero, List.getElem?_cons_succ] at cHOa0 cHOa1 cHOb0 cHOb1
      go_wp2_with fail
      refine (same_queue _ HIa_4.out HIb.out HE67.out).mono ?_
      rintro e u5x ⟨rfl, hb⟩
      clear cHOa0 cHOa1 cHOb0 cHOb1
      have HB_6 := Lib.hid (HB_4.out.trans (hb.mono HB_4.out.size))
      have HQ_6 := Lib.hid (HQ_4.out.below hb HQ_4.out.lt)
      have HI_6 := Lib.hid (HI_4.out.below hb (Nat.le_refl _))
      have HOa_6 := Lib.hid (HOa_4.out.below hb HOa_4.out.lt)
      have HIa_6 := Lib.hid (HIa_4.out.below hb (Nat.le_refl _))
      have HOb_6 := Lib.hid (HOb.out.below hb HOb.out.lt)
      have HIb_6 := Lib.hid (HIb.out.below hb (Nat.le_refl _))
      clear HIb HOb HIa_4 HOa_4 HI_4 HQ_4 HB_4
      clear hb
      cases hv : vQ n L with
      | false =>
        have HV := Lib.hid hv
        clear hv
        have cHQ0 := HQ_6.out.cell 0
        have cHQ1 := HQ_6.out.cell 1
        simp only [List.getElem?_toArray, List.getElem?_cons_zero, List.getElem?_cons_succ] at cHQ0 cHQ1
        go_wp2_with fail
        refine (sqv_at HV.out _ HI_6.out).mono ?_
        rintro e wv ⟨rfl, hb⟩
        clear cHQ0 cHQ1
        have HB_7 := Lib.hid (HB_6.out.trans (hb.mono HB_6.out.size))
        have HQ_7 := Lib.hid (HQ_6.out.below hb HQ_6.out.lt)
        have HI_7 := Lib.hid (HI_6.out.below hb (Nat.le_refl _))
        have HOa_7 := Lib.hid (HOa_6.out.below hb HOa_6.out.lt)
        have HIa_7 := Lib.hid (HIa_6.out.below hb (Nat.le_refl _))
        have HOb_7 := Lib.hid (HOb_6.out.below hb HOb_6.out.lt)
        have HIb_7 := Lib.hid (HIb_6.out.below hb (Nat.le_refl _))
        clear HIb_6 HOb_6 HIa_6 HOa_6 HI_6 HQ_6 HB_6
        clear hb
        have cHOa0 := HOa_7.out.cell 0
        have cHOa1 := HOa_7.out.cell 1
        have cHOb0 := HOb_7.out.cell 0
        have cHOb1 := HOb_7.out.cell 1
        simp only [List.getElem?_toArray, List.getElem?_cons_zero, List.getElem?_cons_succ] at cHOa0 cHOa1 cHOb0 cHOb1
        go_wp2_with fail
        refine (same_queue _ HIa_7.out HIb_7.out HE67.out).mono ?_
        rintro e u8x ⟨rfl, hb⟩
        clear cHOa0 cHOa1 cHOb0 cHOb1
        have HB_9 := Lib.hid (HB_7.out.trans (hb.mono HB_7.out.size))
        have HQ_9 := Lib.hid (HQ_7.out.below hb HQ_7.out.lt)
        have HI_9 := Lib.hid (HI_7.out.below hb (Nat.le_refl _))
        have HOa_9 := Lib.hid (HOa_7.out.below hb HOa_7.out.lt)
        have HIa_9 := Lib.hid (HIa_7.out.below hb (Nat.le_refl _))
        have HOb_9 := Lib.hid (HOb_7.out.below hb HOb_7.out.lt)
        have HIb_9 := Lib.hid (HIb_7.out.below hb (Nat.le_refl _))
        clear HIb_7 HOb_7 HIa_7 HOa_7 HI_7 HQ_7 HB_7
        clear hb
        go_wp2
        go_ret
        exact ⟨rfl, HB_9.out⟩
      | true =>
        have HV := Lib.hid hv
        clear hv
        have cHQ0 := HQ_6.out.cell 0
        have cHQ1 := HQ_6.out.cell 1
        simp only [List.getElem?_toArray, List.getElem?_cons_zero, List.getElem?_cons_succ] at cHQ0 cHQ1
        go_wp2_with fail
        refine (sqv_at HV.out _ HI_6.out).mono ?_
        rintro e wv ⟨rfl, hb⟩
        clear cHQ0 cHQ1
        have HB_7 := Lib.hid (HB_6.out.trans (hb.mono HB_6.out.size))
        have HQ_7 := Lib.hid (HQ_6.out.below hb HQ_6.out.lt)
        have HI_7 := Lib.hid (HI_6.out.below hb (Nat.le_refl _))
        have HOa_7 := Lib.hid (HOa_6.out.below hb HOa_6.out.lt)
        have HIa_7 := Lib.hid (HIa_6.out.below hb (Nat.le_refl _))
        have HOb_7 := Lib.hid (HOb_6.out.below hb HOb_6.out.lt)
        have HIb_7 := Lib.hid (HIb_6.out.below hb (Nat.le_refl _))
        clear HIb_6 HOb_6 HIa_6 HOa_6 HI_6 HQ_6 HB_6
        clear hb
        obtain ⟨hf1, hf2, hf3, hf4⟩ := take_none HO6.out HV.out
        have hn6n : n6 = n := HN6.out.symm.trans hf1
        subst hn6n
        have ht6e : t6 = ⟨#[]⟩ := HT6.out.symm.trans hf3
        subst ht6e
        have HKA := Lib.hid (HKYa.out.trans (HK6.out.symm.trans hf2))
        have hNN : N6 = N := by have h1 := key_len HKA.out; have h2 := HNa.out; have h3 := HNL.out; omega
        subst hNN
        have HNO := Lib.hid hf4
        clear hf1 hf2 hf3 hf4
        go_wp2
        go_loopw [12] (fun iv wr => ∃ k : Nat, k ≤ N6 ∧ iv = .int .i64 (k : Int) ∧ Hid (Below wv.heap.size wv wr)) (fun iv _ => N6 - (intOf iv).toNat)
        case atStart => exact ⟨0, Nat.zero_le _, by go_num, Below.refl _ _⟩
        case round =>
          obtain ⟨k, hk, rfl, KB⟩ := hrel
          have hbr := KB.out
          have HB_8 := Lib.hid (HB_7.out.trans (hbr.mono HB_7.out.size))
          have HQ_8 := Lib.hid (HQ_7.out.below hbr HQ_7.out.lt)
          have HI_8 := Lib.hid (HI_7.out.below hbr (Nat.le_refl _))
          have HOa_8 := Lib.hid (HOa_7.out.below hbr HOa_7.out.lt)
          have HIa_8 := Lib.hid (HIa_7.out.below hbr (Nat.le_refl _))
          have HOb_8 := Lib.hid (HOb_7.out.below hbr HOb_7.out.lt)
          have HIb_8 := Lib.hid (HIb_7.out.below hbr (Nat.le_refl _))
          clear hbr
          have cHQ0 := HQ_8.out.cell 0
          have cHQ1 := HQ_8.out.cell 1
          simp only [List.getElem?_toArray, List.getElem?_cons_zero, List.getElem?_cons_succ] at cHQ0 cHQ1
          by_cases hlt : k < N6
          · have h0 : (0 : Int) ≤ (k : Int) := by omega
            have h5 : (k : Int) < (N6 : Int) := by omega
            obtain ⟨g, hx⟩ : ∃ x, L[k]? = some x := ⟨_, List.getElem?_eq_getElem (by rw [HI_8.out.1]; exact hlt)⟩
            obtain ⟨b, o, rfl, hgb, x0, x1, x2, x3⟩ := qi_at HI_8.out.2.2.1 hx
            have HG := Lib.hid (HI_8.out.2.2.2.2.2 _ (List.mem_of_getElem? hx)).2
            have hno := HNO.out g (List.mem_of_getElem? hx)
            clear hx
            by_cases hid : g.id = id
            · have hid' : (g.id == id) = true := by rw [beq_iff_eq]; exact hid
              have HM : Hid (decide (u ∈ g.T) = false) := Lib.hid (decide_eq_false (fun hm => hno ⟨hid, hm⟩))
              clear hno hid
              go_wp2_with fail
              have HCA := has_name g.A g.N g.cap g.T u _ HG.out
              rw [HM.out] at HCA
              refine HCA.mono ?_
              rintro e wh ⟨rfl, hbh⟩
              have KB2 := Lib.hid (KB.out.trans (hbh.mono KB.out.size))
              clear hbh HCA
              go_wp2
              go_roundw
              case rel => exact ⟨k + 1, by omega, by go_num, KB2⟩
              case measure => simp [intOf]; omega
            · have hid' : (g.id == id) = false := beq_eq_false_iff_ne.2 hid
              clear hno hid
              go_wp2
              go_roundw
              case rel => exact ⟨k + 1, by omega, by go_num, KB⟩
              case measure => simp [intOf]; omega
          · have h5 : ¬ (k : Int) < (N6 : Int) := by omega
            clear cHQ0 cHQ1
            have cHQ0 := HQ_8.out.cell 0
            have cHQ1 := HQ_8.out.cell 1
            have cHOa0 := HOa_8.out.cell 0
            have cHOa1 := HOa_8.out.cell 1
            simp only [List.getElem?_toArray, List.getElem?_cons_zero, List.getElem?_cons_succ] at cHQ0 cHQ1 cHOa0 cHOa1
            go_wp2_with fail
            refine (same_queue _ HIa_8.out HI_8.out HKA.out).mono ?_
            rintro e ws ⟨rfl, hb⟩
            clear cHQ0 cHQ1 cHOa0 cHOa1
            have HB_9 := Lib.hid (HB_8.out.trans (hb.mono HB_8.out.size))
            have HQ_9 := Lib.hid (HQ_8.out.below hb HQ_8.out.lt)
            have HI_9 := Lib.hid (HI_8.out.below hb (Nat.le_refl _))
            have HOa_9 := Lib.hid (HOa_8.out.below hb HOa_8.out.lt)
            have HIa_9 := Lib.hid (HIa_8.out.below hb (Nat.le_refl _))
            have HOb_9 := Lib.hid (HOb_8.out.below hb HOb_8.out.lt)
            have HIb_9 := Lib.hid (HIb_8.out.below hb (Nat.le_refl _))
            clear hb
            go_wp2
            go_ret
            exact ⟨rfl, HB_9.out⟩
  · have hlenI : (1048576 : Int) < (len : Int) := by omega
    go_enter Try.func11, Try.ntmps11
    go_wp2
    go_ret
    exact ⟨rfl, Below.refl _ _⟩
set_option maxRecDepth 20000 in
set_option maxHeartbeats 8000000 in
theorem law_FnTakeText (A0 : Option Addr) (len cap0 : Nat) (w : World) (h : Coded w A0 len cap0) : Calls Try.prog 9 #[.slice A0 len cap0] w (Holds1 w) := by
  have HC := Lib.hid h
  clear h
  by_cases hlen : len ≤ 1048576
  · have hlenI : (len : Int) ≤ 1048576 := by omega
    have hlenJ : ¬ (1048576 : Int) < (len : Int) := by omega
    go_enter Try.func9, Try.ntmps9
    go_wp2_with fail
    refine (draw_qtake A0 len cap0 w HC.out).mono ?_
    rintro e w1 ⟨n, A, N, cap, L, id, u, rfl, ho, hs, hl, hu, hb⟩
    have HL := Lib.hid hl
    have HNL := Lib.hid ho.1.len.1
    have hN8 : N ≤ 8 := by have := HNL.out; omega
    have HSQ := Lib.hid hs
    obtain ⟨D, hD⟩ : ∃ D, w1.heap.size = D := ⟨_, rfl⟩
    obtain ⟨w2, hw2⟩ : ∃ w2, w1.alloc (.cells #[.int .i64 n, .slice A N cap] 31) = w2 := ⟨_, rfl⟩
    have hb2 : Below w1.heap.size w1 w2 := by rw [← hw2]; exact below_new _ _
    have HB := Lib.hid (hb.trans (hb2.mono hb.size))
    have HQ := Lib.hid (show Whole w2 D 31 #[.int .i64 n, .slice A N cap] by rw [← hw2, ← hD]; exact Whole.made _ _ _)
    have HI := Lib.hid ((ho.qinS hs (by omega)).below hb2 (Nat.le_refl _))
    clear ho hs hl hb hb2
    obtain ⟨n6, hn6⟩ : ∃ x, qtN n L = x := ⟨_, rfl⟩
    obtain ⟨K6, hk6⟩ : ∃ x, qtK n L id u = x := ⟨_, rfl⟩
    obtain ⟨t6, ht6⟩ : ∃ x, qtT n L id u = x := ⟨_, rfl⟩
    obtain ⟨ok6, ho6⟩ : ∃ x, qtO n L id u = x := ⟨_, rfl⟩
    have HN6 := Lib.hid hn6
    have HK6 := Lib.hid hk6
    have HT6 := Lib.hid ht6
    have HO6 := Lib.hid ho6
    have HSM6 : Hid (smQ K6) := Lib.hid (by rw [← hk6]; exact (qtK_sm HSQ.out).1)
    have HLE6 : Hid (K6.length ≤ L.length) := Lib.hid (by rw [← hk6]; exact (qtK_sm HSQ.out).2)
    clear hn6 hk6 ht6 ho6
    have cHQ0 := HQ.out.cell 0
    have cHQ1 := HQ.out.cell 1
    simp only [List.getElem?_toArray, List.getElem?_cons_zero, List.getElem?_cons_succ] at cHQ0 cHQ1
    go_wp2_with fail
    have HCA := impl_queuetake (n := n) id u w2 HI.out
    rw [HN6.out, HK6.out, HT6.out, HO6.out] at HCA
    refine HCA.mono ?_
    rintro e w3 ⟨A6, N6, c6, L6, rfl, ho3, hk3, hb3⟩
    clear HCA
    clear cHQ0 cHQ1
    have HB_1 := Lib.hid (HB.out.trans (hb3.mono HB.out.size))
    have HQ_1 := Lib.hid (HQ.out.below hb3 HQ.out.lt)
    have HI_1 := Lib.hid (HI.out.below hb3 (Nat.le_refl _))
    clear HI HQ HB
    have hla : L6.length ≤ 1000 := by have h1 := HLE6.out; rw [← hk3, List.length_map] at h1; have := HL.out; omega
    have hia := ho3.qinS (by rw [hk3]; exact HSM6.out) hla
    have HKYa := Lib.hid hk3
    have HNa := Lib.hid ho3.1.len.1
    obtain ⟨D5, hD5⟩ : ∃ D, w3.heap.size = D := ⟨_, rfl⟩
    obtain ⟨w4, hw4⟩ : ∃ wn, w3.alloc (.cells #[.int .i64 n6, .slice A6 N6 c6] 31) = wn := ⟨_, rfl⟩
    have hbn : Below w3.heap.size w3 w4 := by rw [← hw4]; exact below_new _ _
    have HB_2 := Lib.hid (HB_1.out.trans (hbn.mono HB_1.out.size))
    have HQ_2 := Lib.hid (HQ_1.out.below hbn HQ_1.out.lt)
    have HI_2 := Lib.hid (HI_1.out.below hbn (Nat.le_refl _))
    clear HI_1 HQ_1 HB_1
    have HOa := Lib.hid (show Whole w4 D5 31 #[.int .i64 n6, .slice A6 N6 c6] by rw [← hw4, ← hD5]; exact Whole.made _ _ _)
    have HIa := Lib.hid (hia.below hbn (Nat.le_refl _))
    clear hla hia hbn ho3 hk3 hb3
    have cHQ0 := HQ_2.out.cell 0
    have cHQ1 := HQ_2.out.cell 1
    simp only [List.getElem?_toArray, List.getElem?_cons_zero, List.getElem?_cons_succ] at cHQ0 cHQ1
    go_wp2_with fail
    have HCA := spec_queuetake (n := n) id u w4 HI_2.out
    rw [HN6.out, HK6.out, HT6.out, HO6.out] at HCA
    refine HCA.mono ?_
    rintro e w5 ⟨A7, N7, c7, L7, rfl, ho5, hk5, hb5⟩
    clear HCA
    clear cHQ0 cHQ1
    have HB_3 := Lib.hid (HB_2.out.trans (hb5.mono HB_2.out.size))
    have HQ_3 := Lib.hid (HQ_2.out.below hb5 HQ_2.out.lt)
    have HI_3 := Lib.hid (HI_2.out.below hb5 (Nat.le_refl _))
    have HOa_3 := Lib.hid (HOa.out.below hb5 HOa.out.lt)
    have HIa_3 := Lib.hid (HIa.out.below hb5 (Nat.le_refl _))
    clear HIa HOa HI_2 HQ_2 HB_2
    have hlb : L7.length ≤ 1000 := by have h1 := HLE6.out; rw [← hk5, List.length_map] at h1; have := HL.out; omega
    have hib := ho5.qinS (by rw [hk5]; exact HSM6.out) hlb
    have HKYb := Lib.hid hk5
    have HNb := Lib.hid ho5.1.len.1
    obtain ⟨D7, hD7⟩ : ∃ D, w5.heap.size = D := ⟨_, rfl⟩
    obtain ⟨w6, hw6⟩ : ∃ wn, w5.alloc (.cells #[.int .i64 n6, .slice A7 N7 c7] 31) = wn := ⟨_, rfl⟩
    have hbn : Below w5.heap.size w5 w6 := by rw [← hw6]; exact below_new _ _
    have HB_4 := Lib.hid (HB_3.out.trans (hbn.mono HB_3.out.size))
    have HQ_4 := Lib.hid (HQ_3.out.below hbn HQ_3.out.lt)
    have HI_4 := Lib.hid (HI_3.out.below hbn (Nat.le_refl _))
    have HOa_4 := Lib.hid (HOa_3.out.below hbn HOa_3.out.lt)
    have HIa_4 := Lib.hid (HIa_3.out.below hbn (Nat.le_refl _))
    clear HIa_3 HOa_3 HI_3 HQ_3 HB_3
    have HOb := Lib.hid (show Whole w6 D7 31 #[.int .i64 n6, .slice A7 N7 c7] by rw [← hw6, ← hD7]; exact Whole.made _ _ _)
    have HIb := Lib.hid (hib.below hbn (Nat.le_refl _))
    clear hlb hib hbn ho5 hk5 hb5
    have h67 : N6 = N7 := by have h1 := HNa.out; have h2 := HNb.out; have h3 := key_len (HKYa.out.trans HKYb.out.symm); omega
    subst h67
    have HE67 := Lib.hid (HKYa.out.trans HKYb.out.symm)
    cases ok6 with
    | false =>
      have cHOa0 := HOa_4.out.cell 0
      have cHOa1 := HOa_4.out.cell 1
      have cHOb0 := HOb.out.cell 0
      have cHOb1 := HOb.out.cell 1
      simp only [List.getElem?_toArray, List.getElem?_cons_zero, List.getElem?_cons_succ] at cHOa0 cHOa1 cHOb0 cHOb1
      go_wp2_with fail
      refine (same_queue _ HIa_4.out HIb.out HE67.out).mono ?_
      rintro e u5x ⟨rfl, hb⟩
      clear cHOa0 cHOa1 cHOb0 cHOb1
      have HB_6 := Lib.hid (HB_4.out.trans (hb.mono HB_4.out.size))
      have HQ_6 := Lib.hid (HQ_4.out.below hb HQ_4.out.lt)
      have HI_6 := Lib.hid (HI_4.out.below hb (Nat.le_refl _))
      have HOa_6 := Lib.hid (HOa_4.out.below hb HOa_4.out.lt)
      have HIa_6 := Lib.hid (HIa_4.out.below hb (Nat.le_refl _))
      have HOb_6 := Lib.hid (HOb.out.below hb HOb.out.lt)
      have HIb_6 := Lib.hid (HIb.out.below hb (Nat.le_refl _))
      clear HIb HOb HIa_4 HOa_4 HI_4 HQ_4 HB_4
      clear hb
      have cHOa0 := HOa_6.out.cell 0
      have cHOa1 := HOa_6.out.cell 1
      have cHOb0 := HOb_6.out.cell 0
      have cHOb1 := HOb_6.out.cell 1
      simp only [List.getElem?_toArray, List.getElem?_cons_zero, List.getElem?_cons_succ] at cHOa0 cHOa1 cHOb0 cHOb1
      go_wp2_with fail
      refine (same_queue _ HIa_6.out HIb_6.out HE67.out).mono ?_
      rintro e u7x ⟨rfl, hb⟩
      clear cHOa0 cHOa1 cHOb0 cHOb1
      have HB_8 := Lib.hid (HB_6.out.trans (hb.mono HB_6.out.size))
      have HQ_8 := Lib.hid (HQ_6.out.below hb HQ_6.out.lt)
      have HI_8 := Lib.hid (HI_6.out.below hb (Nat.le_refl _))
      have HOa_8 := Lib.hid (HOa_6.out.below hb HOa_6.out.lt)
      have HIa_8 := Lib.hid (HIa_6.out.below hb (Nat.le_refl _))
      have HOb_8 := Lib.hid (HOb_6.out.below hb HOb_6.out.lt)
      have HIb_8 := Lib.hid (HIb_6.out.below hb (Nat.le_refl _))
      clear HIb_6 HOb_6 HIa_6 HOa_6 HI_6 HQ_6 HB_6
      clear hb
      go_wp2
      go_ret
      exact ⟨rfl, HB_8.out⟩
    | true =>
      have cHOa0 := HOa_4.out.cell 0
      have cHOa1 := HOa_4.out.cell 1
      have cHOb0 := HOb.out.cell 0
      have cHOb1 := HOb.out.cell 1
      simp only [List.getElem?_toArray, List.getElem?_cons_zero, List.getElem?_cons_succ] at cHOa0 cHOa1 cHOb0 cHOb1
      go_wp2_with fail
      refine (same_queue _ HIa_4.out HIb.out HE67.out).mono ?_
      rintro e u5x ⟨rfl, hb⟩
      clear cHOa0 cHOa1 cHOb0 cHOb1
      have HB_6 := Lib.hid (HB_4.out.trans (hb.mono HB_4.out.size))
      have HQ_6 := Lib.hid (HQ_4.out.below hb HQ_4.out.lt)
      have HI_6 := Lib.hid (HI_4.out.below hb (Nat.le_refl _))
      have HOa_6 := Lib.hid (HOa_4.out.below hb HOa_4.out.lt)
      have HIa_6 := Lib.hid (HIa_4.out.below hb (Nat.le_refl _))
      have HOb_6 := Lib.hid (HOb.out.below hb HOb.out.lt)
      have HIb_6 := Lib.hid (HIb.out.below hb (Nat.le_refl _))
      clear HIb HOb HIa_4 HOa_4 HI_4 HQ_4 HB_4
      clear hb
      obtain ⟨gg, hgg, hg1, hg2, hg3, hg4⟩ := take_some HO6.out
      have ht6e : t6 = gg.tx := HT6.out.symm.trans hg3
      subst ht6e
      have HGM := Lib.hid hgg
      have HG1 := Lib.hid hg1
      have HG2 := Lib.hid hg2
      have HG4 := Lib.hid hg4
      clear hgg hg1 hg2 hg3 hg4
      go_wp2
      go_loopw [12] (fun iv wr => ∃ k : Nat, k ≤ N ∧ iv = .int .i64 (k : Int) ∧ Hid (∀ x ∈ L.take k, x.id ≠ id) ∧ Hid (Below u5x.heap.size u5x wr)) (fun iv _ => N - (intOf iv).toNat)
      case atStart => exact ⟨0, Nat.zero_le _, by go_num, (fun x hx => by cases hx), Below.refl _ _⟩
      case round =>
        obtain ⟨k, hk, rfl, KN, KB⟩ := hrel
        have hbr := KB.out
        have HB_7 := Lib.hid (HB_6.out.trans (hbr.mono HB_6.out.size))
        have HQ_7 := Lib.hid (HQ_6.out.below hbr HQ_6.out.lt)
        have HI_7 := Lib.hid (HI_6.out.below hbr (Nat.le_refl _))
        have HOa_7 := Lib.hid (HOa_6.out.below hbr HOa_6.out.lt)
        have HIa_7 := Lib.hid (HIa_6.out.below hbr (Nat.le_refl _))
        have HOb_7 := Lib.hid (HOb_6.out.below hbr HOb_6.out.lt)
        have HIb_7 := Lib.hid (HIb_6.out.below hbr (Nat.le_refl _))
        clear hbr
        have cHQ0 := HQ_7.out.cell 0
        have cHQ1 := HQ_7.out.cell 1
        simp only [List.getElem?_toArray, List.getElem?_cons_zero, List.getElem?_cons_succ] at cHQ0 cHQ1
        by_cases hlt : k < N
        · have h0 : (0 : Int) ≤ (k : Int) := by omega
          have h5 : (k : Int) < (N : Int) := by omega
          obtain ⟨g, hx⟩ : ∃ x, L[k]? = some x := ⟨_, List.getElem?_eq_getElem (by rw [HI_7.out.1]; exact hlt)⟩
          obtain ⟨b, o, rfl, hgb, x0, x1, x2, x3⟩ := qi_at HI_7.out.2.2.1 hx
          have HG := Lib.hid (HI_7.out.2.2.2.2.2 _ (List.mem_of_getElem? hx)).2
          have HX := Lib.hid hx
          obtain ⟨Di, hDi⟩ : ∃ Di, wr.heap.size = Di := ⟨_, rfl⟩
          obtain ⟨wi, hwi⟩ : ∃ wi, wr.alloc (.cells #[.int .i64 g.id, .string g.us, .string g.tx, .slice g.A g.N g.cap] 38) = wi := ⟨_, rfl⟩
          have hbi : Below wr.heap.size wr wi := by rw [← hwi]; exact below_new _ _
          have HIT := Lib.hid (show Whole wi Di 38 #[.int .i64 g.id, .string g.us, .string g.tx, .slice g.A g.N g.cap] by rw [← hwi, ← hDi]; exact Whole.made _ _ _)
          have HGi := Lib.hid (HG.out.below hbi (Nat.le_refl _))
          have KBi := Lib.hid (KB.out.trans (hbi.mono KB.out.size))
          have dT0 := HIT.out.cell 0
          have dT1 := HIT.out.cell 1
          have dT2 := HIT.out.cell 2
          have dT3 := HIT.out.cell 3
          simp only [List.getElem?_toArray, List.getElem?_cons_zero, List.getElem?_cons_succ] at dT0 dT1 dT2 dT3
          clear hx hbi
          by_cases hid : g.id = id
          · have hid' : (g.id == id) = true := by rw [beq_iff_eq]; exact hid
            have hke := HG4.out g (List.mem_of_getElem? HX.out) hid
            simp only [keyI, Prod.mk.injEq] at hke
            obtain ⟨hk1, hk2, hk3, hk4⟩ := hke
            have HM : Hid (decide (u ∈ g.T) = true) := Lib.hid (decide_eq_true (by rw [hk4]; exact HG2.out))
            rw [← hk3]
            clear hid hk1 hk2 hk3 hk4
            go_wp2_with fail
            have HCA := has_name g.A g.N g.cap g.T u _ HGi.out
            rw [HM.out] at HCA
            refine HCA.mono ?_
            rintro e wh ⟨rfl, hbh⟩
            have KB2 := Lib.hid (KBi.out.trans (hbh.mono KBi.out.size))
            clear hbh HCA
            go_wp2
            go_ret
            exact ⟨rfl, HB_6.out.trans (KB2.out.mono HB_6.out.size)⟩
          · have hid' : (g.id == id) = false := beq_eq_false_iff_ne.2 hid
            have KN2 : Hid (∀ x ∈ L.take (k + 1), x.id ≠ id) := Lib.hid (fun x hx => by
              rw [List.take_add_one, HX.out] at hx
              rcases List.mem_append.1 hx with h1 | h1
              · exact KN.out x h1
              · have : x = g := List.mem_singleton.1 h1
                rw [this]; exact hid)
            clear hid
            go_wp2
            go_roundw
            case rel => exact ⟨k + 1, by omega, by go_num, KN2, KBi⟩
            case measure => simp [intOf]; omega
        · exfalso
          have h1 := KN.out gg (by rw [List.take_of_length_le (by rw [HI_7.out.1]; omega)]; exact HGM.out)
          exact h1 HG1.out
  · have hlenI : (1048576 : Int) < (len : Int) := by omega
    go_enter Try.func9, Try.ntmps9
    go_wp2
    go_ret
    exact ⟨rfl, Below.refl _ _⟩
end Go.Proofs.Ytinbdibenbplnaa
