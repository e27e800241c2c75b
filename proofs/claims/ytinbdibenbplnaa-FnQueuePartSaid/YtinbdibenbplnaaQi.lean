/-
  My texts Jx in one, so that a claim holds fewer files. Conditions: each contract's own.
-/
import Derived.Test.YtinbdibenbplnaaQh
namespace Go.Proofs.Ytinbdibenbplnaa
open Go.RowKit
set_option linter.unusedVariables false

theorem add_yes {n : Int} {L : List QI} {u t : ByteArray} {T : List ByteArray} (h : qaO n L u t T = true) : vQ n L = true ∧ letB u T t = true ∧ L.length < 6 ∧ n ≤ 99 ∧ qaN n L u t T = n + 1 ∧ qaK n L u t T = L.map keyI ++ [(n, u, t, T)] := by
  unfold qaO at h
  simp only [Bool.and_eq_true] at h
  obtain ⟨h1, h2⟩ := h
  have h3 := h1
  have h4 := h2
  unfold qaV at h3
  unfold qaG at h4
  simp only [Bool.and_eq_true, decide_eq_true_eq] at h3 h4
  refine ⟨h3.1, h3.2, h4.1, h4.2, ?_, ?_⟩
  · unfold qaN; rw [if_pos h1, if_pos h2]
  · unfold qaK; rw [if_pos h1, if_pos h2]
theorem vQ_mk {n : Int} {L : List QI} (h1 : L.length ≤ 6) (h2 : n ≤ 100) (h3 : okQ 0 L = true) (h4 : lastQ 0 L < n) : vQ n L = true := by
  unfold vQ
  simp only [Bool.and_eq_true, decide_eq_true_eq]
  exact ⟨⟨h1, h2⟩, h3, h4⟩
theorem add_valid {n : Int} {L M : List QI} {u t : ByteArray} {T : List ByteArray} (hv : vQ n L = true) (hl : letB u T t = true) (h6 : L.length < 6) (h9 : n ≤ 99) (hk : M.map keyI = L.map keyI ++ [(n, u, t, T)]) : vQ (n + 1) M = true := by
  have hM : M.map keyI = (L ++ [(⟨n, u, t, none, 0, 0, T⟩ : QI)]).map keyI := by rw [hk, List.map_append]; rfl
  rw [vQ_key hM]
  obtain ⟨h1, h2, h3, h4⟩ := vQ_parts hv
  refine vQ_mk (by rw [List.length_append]; simp; omega) (by omega) ?_ (by rw [lastQ_snoc]; show n < n + 1; omega)
  rw [okQ_snoc, h3, decide_eq_true (show lastQ 0 L < n from h4)]
  exact hl
theorem add_last {L M : List QI} {k : QK} (hk : M.map keyI = L.map keyI ++ [k]) : M.length = L.length + 1 ∧ ∃ g, M[L.length]? = some g ∧ keyI g = k := by
  have hl : M.length = L.length + 1 := by have := congrArg List.length hk; rw [List.length_map, List.length_append, List.length_map] at this; exact this
  refine ⟨hl, ?_⟩
  have h1 : (M.map keyI)[L.length]? = (L.map keyI ++ [k])[L.length]? := by rw [hk]
  rw [List.getElem?_append_right (by rw [List.length_map]; exact Nat.le_refl _), List.length_map, Nat.sub_self, List.getElem?_map] at h1
  cases hg : M[L.length]? with
  | none => rw [hg] at h1; cases h1
  | some g => rw [hg] at h1; exact ⟨g, rfl, Option.some.inj h1⟩
theorem add_old {L M : List QI} {k : QK} (hk : M.map keyI = L.map keyI ++ [k]) : (M.take L.length).map keyI = L.map keyI := by
  rw [List.map_take, hk, List.take_append_of_le_length (by rw [List.length_map]; exact Nat.le_refl _), List.take_of_length_le (by rw [List.length_map]; exact Nat.le_refl _)]
theorem QIn.front {w : World} {A : Option Addr} {N cap k : Nat} {L : List QI} (h : QIn w A N cap L) (hk : k ≤ N) : QIn w A k cap (L.take k) := ⟨by rw [List.length_take, h.1]; omega, by have := h.2.1; omega, h.2.2.1.take k, h.2.2.2.1, h.2.2.2.2.1, fun g hg => h.2.2.2.2.2 g (List.mem_of_mem_take hg)⟩
theorem own6 {w : World} {A : Option Addr} {N cap : Nat} {L : List QI} (h : QIn w A N cap L) (hN : 0 < N) : ∃ g, A = some g := by
  obtain ⟨x, hx⟩ : ∃ x, L[0]? = some x := ⟨_, List.getElem?_eq_getElem (by rw [h.1]; exact hN)⟩
  obtain ⟨b, o, rfl, _⟩ := qi_at h.2.2.1 hx
  exact ⟨_, rfl⟩
theorem add_full {n : Int} {L : List QI} {u t : ByteArray} {T : List ByteArray} (h : qaO n L u t T = false) (hv : vQ n L = true) (hl : letB u T t = true) : qaN n L u t T = n ∧ qaK n L u t T = L.map keyI ∧ (L.length = 6 ∨ 99 < n) := by
  have h1 : qaV n L u t T = true := by unfold qaV; rw [hv, hl]; rfl
  have h2 : qaG n L = false := by unfold qaO at h; rw [h1] at h; simpa using h
  refine ⟨by unfold qaN; rw [if_pos h1, h2]; rfl, by unfold qaK; rw [if_pos h1, h2]; rfl, ?_⟩
  unfold qaG at h2
  obtain ⟨h3, _, _, _⟩ := vQ_parts hv
  by_cases h6 : L.length < 6
  · by_cases h9 : n ≤ 99
    · rw [decide_eq_true h6, decide_eq_true h9] at h2; cases h2
    · exact .inr (by omega)
  · exact .inl (by omega)
set_option maxRecDepth 20000 in
set_option maxHeartbeats 8000000 in
theorem law_FnQueueAdd (A0 : Option Addr) (len cap0 : Nat) (w : World) (h : Coded w A0 len cap0) : Calls Try.prog 4 #[.slice A0 len cap0] w (Holds1 w) := by
  have HC := Lib.hid h
  clear h
  by_cases hlen : len ≤ 1048576
  · have hlenI : (len : Int) ≤ 1048576 := by omega
    have hlenJ : ¬ (1048576 : Int) < (len : Int) := by omega
    go_enter Try.func4, Try.ntmps4
    go_wp2_with fail
    refine (draw_qadd A0 len cap0 w HC.out).mono ?_
    rintro e w1 ⟨n, A, N, cap, L, us, tx, AT, NT, cT, TT, rfl, ho, hs, hl, ht, hus, htx, hTl, hTs, hb⟩
    have HL := Lib.hid hl
    have HNL := Lib.hid ho.1.len.1
    have hN8 : N ≤ 8 := by have := HNL.out; omega
    have HSQ := Lib.hid hs
    have HZK := Lib.hid (show smK (n, us, tx, TT) from ⟨hus, htx, hTl, hTs⟩)
    obtain ⟨D, hD⟩ : ∃ D, w1.heap.size = D := ⟨_, rfl⟩
    obtain ⟨w2, hw2⟩ : ∃ w2, ((w1.alloc (.cells #[.int .i64 n, .slice A N cap] 31)).alloc (.cells #[.string us, .slice AT NT cT, .string tx] 25)) = w2 := ⟨_, rfl⟩
    have e1 : (w1.alloc (.cells #[.int .i64 n, .slice A N cap] 31)).heap.size = D + 1 := by simp [hD]
    have hb2 : Below w1.heap.size w1 w2 := by rw [← hw2]; exact (below_new _ _).alloc (by simp) _
    have HB := Lib.hid (hb.trans (hb2.mono hb.size))
    have HQ := Lib.hid (show Whole w2 D 31 #[.int .i64 n, .slice A N cap] by rw [← hw2, ← hD]; exact (Whole.made _ _ _).alloc _)
    have HX := Lib.hid (show Whole w2 (D + 1) 25 #[.string us, .slice AT NT cT, .string tx] by rw [← hw2, ← e1]; exact Whole.made _ _ _)
    have HI := Lib.hid ((ho.qinS hs (by omega)).below hb2 (Nat.le_refl _))
    have HJ := Lib.hid ((SIn.made ht (by omega) (fun g hg => Nat.le_trans (hTs g hg) (by omega))).below hb2 (Nat.le_refl _))
    have HW2 := Lib.hid hw2
    have HDD := Lib.hid hD
    clear ho hs hl ht hTs hb hb2 e1 hw2 hD
    obtain ⟨n6, hn6⟩ : ∃ x, qaN n L us tx TT = x := ⟨_, rfl⟩
    obtain ⟨K6, hk6⟩ : ∃ x, qaK n L us tx TT = x := ⟨_, rfl⟩
    obtain ⟨ok6, ho6⟩ : ∃ x, qaO n L us tx TT = x := ⟨_, rfl⟩
    have HN6 := Lib.hid hn6
    have HK6 := Lib.hid hk6
    have HO6 := Lib.hid ho6
    have HSM6 : Hid (smQ K6) := Lib.hid (by rw [← hk6]; exact (qaK_sm HSQ.out HZK.out).1)
    have HLE6 : Hid (K6.length ≤ L.length + 1) := Lib.hid (by rw [← hk6]; exact (qaK_sm HSQ.out HZK.out).2)
    clear hn6 hk6 ho6
    have cHQ0 := HQ.out.cell 0
    have cHQ1 := HQ.out.cell 1
    have cHX0 := HX.out.cell 0
    have cHX1 := HX.out.cell 1
    have cHX2 := HX.out.cell 2
    simp only [List.getElem?_toArray, List.getElem?_cons_zero, List.getElem?_cons_succ] at cHQ0 cHQ1 cHX0 cHX1 cHX2
    go_wp2_with fail
    rw [HDD.out, HW2.out]
    have HCA := impl_queueadd (n := n) us tx TT AT NT cT w2 HI.out HJ.out (by omega)
    rw [HN6.out, HK6.out, HO6.out] at HCA
    refine HCA.mono ?_
    rintro e w3 ⟨A6, N6, c6, L6, rfl, ho3, hk3, hb3⟩
    clear HCA
    clear cHQ0 cHQ1 cHX0 cHX1 cHX2
    have HB_1 := Lib.hid (HB.out.trans (hb3.mono HB.out.size))
    have HQ_1 := Lib.hid (HQ.out.below hb3 HQ.out.lt)
    have HX_1 := Lib.hid (HX.out.below hb3 HX.out.lt)
    have HI_1 := Lib.hid (HI.out.below hb3 (Nat.le_refl _))
    have HJ_1 := Lib.hid (HJ.out.below hb3 (Nat.le_refl _))
    clear HJ HI HX HQ HB
    have hla : L6.length ≤ 1000 := by have h1 := HLE6.out; rw [← hk3, List.length_map] at h1; have := HL.out; omega
    have hia := ho3.qinS (by rw [hk3]; exact HSM6.out) hla
    have HKYa := Lib.hid hk3
    have HNa := Lib.hid ho3.1.len.1
    have HCa := Lib.hid ho3.1.len.2.1
    obtain ⟨D5, hD5⟩ : ∃ D, w3.heap.size = D := ⟨_, rfl⟩
    obtain ⟨w4, hw4⟩ : ∃ wn, w3.alloc (.cells #[.int .i64 n6, .slice A6 N6 c6] 31) = wn := ⟨_, rfl⟩
    have hbn : Below w3.heap.size w3 w4 := by rw [← hw4]; exact below_new _ _
    have HB_2 := Lib.hid (HB_1.out.trans (hbn.mono HB_1.out.size))
    have HQ_2 := Lib.hid (HQ_1.out.below hbn HQ_1.out.lt)
    have HX_2 := Lib.hid (HX_1.out.below hbn HX_1.out.lt)
    have HI_2 := Lib.hid (HI_1.out.below hbn (Nat.le_refl _))
    have HJ_2 := Lib.hid (HJ_1.out.below hbn (Nat.le_refl _))
    clear HJ_1 HI_1 HX_1 HQ_1 HB_1
    have HOa := Lib.hid (show Whole w4 D5 31 #[.int .i64 n6, .slice A6 N6 c6] by rw [← hw4, ← hD5]; exact Whole.made _ _ _)
    have HIa := Lib.hid (hia.below hbn (Nat.le_refl _))
    clear hla hia hbn ho3 hk3
    have cHQ0 := HQ_2.out.cell 0
    have cHQ1 := HQ_2.out.cell 1
    have cHX0 := HX_2.out.cell 0
    have cHX1 := HX_2.out.cell 1
    have cHX2 := HX_2.out.cell 2
    simp only [List.getElem?_toArray, List.getElem?_cons_zero, List.getElem?_cons_succ] at cHQ0 cHQ1 cHX0 cHX1 cHX2

    go_wp2_with fail
    have HCA := spec_queueadd (n := n) us tx TT AT NT cT w4 HI_2.out HJ_2.out (by omega)
    rw [HN6.out, HK6.out, HO6.out] at HCA
    refine HCA.mono ?_
    rintro e w5 ⟨A7, N7, c7, L7, rfl, ho5, hk5, hb5⟩
    clear HCA
    clear cHQ0 cHQ1 cHX0 cHX1 cHX2
    have HB_3 := Lib.hid (HB_2.out.trans (hb5.mono HB_2.out.size))
    have HQ_3 := Lib.hid (HQ_2.out.below hb5 HQ_2.out.lt)
    have HX_3 := Lib.hid (HX_2.out.below hb5 HX_2.out.lt)
    have HI_3 := Lib.hid (HI_2.out.below hb5 (Nat.le_refl _))
    have HJ_3 := Lib.hid (HJ_2.out.below hb5 (Nat.le_refl _))
    have HOa_3 := Lib.hid (HOa.out.below hb5 HOa.out.lt)
    have HIa_3 := Lib.hid (HIa.out.below hb5 (Nat.le_refl _))
    clear HIa HOa HJ_2 HI_2 HX_2 HQ_2 HB_2
    have hlb : L7.length ≤ 1000 := by have h1 := HLE6.out; rw [← hk5, List.length_map] at h1; have := HL.out; omega
    have hib := ho5.qinS (by rw [hk5]; exact HSM6.out) hlb
    have HKYb := Lib.hid hk5
    have HNb := Lib.hid ho5.1.len.1
    have HCb := Lib.hid ho5.1.len.2.1
    obtain ⟨D7, hD7⟩ : ∃ D, w5.heap.size = D := ⟨_, rfl⟩
    obtain ⟨w6, hw6⟩ : ∃ wn, w5.alloc (.cells #[.int .i64 n6, .slice A7 N7 c7] 31) = wn := ⟨_, rfl⟩
    have hbn : Below w5.heap.size w5 w6 := by rw [← hw6]; exact below_new _ _
    have HB_4 := Lib.hid (HB_3.out.trans (hbn.mono HB_3.out.size))
    have HQ_4 := Lib.hid (HQ_3.out.below hbn HQ_3.out.lt)
    have HX_4 := Lib.hid (HX_3.out.below hbn HX_3.out.lt)
    have HI_4 := Lib.hid (HI_3.out.below hbn (Nat.le_refl _))
    have HJ_4 := Lib.hid (HJ_3.out.below hbn (Nat.le_refl _))
    have HOa_4 := Lib.hid (HOa_3.out.below hbn HOa_3.out.lt)
    have HIa_4 := Lib.hid (HIa_3.out.below hbn (Nat.le_refl _))
    clear HIa_3 HOa_3 HJ_3 HI_3 HX_3 HQ_3 HB_3
    have HOb := Lib.hid (show Whole w6 D7 31 #[.int .i64 n6, .slice A7 N7 c7] by rw [← hw6, ← hD7]; exact Whole.made _ _ _)
    have HIb := Lib.hid (hib.below hbn (Nat.le_refl _))
    clear hlb hib hbn ho5 hk5
    have h67 : N6 = N7 := by have h1 := HNa.out; have h2 := HNb.out; have h3 := key_len (HKYa.out.trans HKYb.out.symm); omega
    subst h67
    have HE67 := Lib.hid (HKYa.out.trans HKYb.out.symm)
    clear hb3 hb5
    cases ok6 with
    | false =>
      have cHOa0 := HOa_4.out.cell 0
      have cHOa1 := HOa_4.out.cell 1
      have cHOb0 := HOb.out.cell 0
      have cHOb1 := HOb.out.cell 1
      simp only [List.getElem?_toArray, List.getElem?_cons_zero, List.getElem?_cons_succ] at cHOa0 cHOa1 cHOb0 cHOb1
      go_wp2_with fail
      refine (same_queue _ HIa_4.out HIb.out HE67.out).mono ?_
      rintro e u5x ⟨rfl, hb⟩
      clear cHOa0 cHOa1 cHOb0 cHOb1
      have HB_6 := Lib.hid (HB_4.out.trans (hb.mono HB_4.out.size))
      have HQ_6 := Lib.hid (HQ_4.out.below hb HQ_4.out.lt)
      have HX_6 := Lib.hid (HX_4.out.below hb HX_4.out.lt)
      have HI_6 := Lib.hid (HI_4.out.below hb (Nat.le_refl _))
      have HJ_6 := Lib.hid (HJ_4.out.below hb (Nat.le_refl _))
      have HOa_6 := Lib.hid (HOa_4.out.below hb HOa_4.out.lt)
      have HIa_6 := Lib.hid (HIa_4.out.below hb (Nat.le_refl _))
      have HOb_6 := Lib.hid (HOb.out.below hb HOb.out.lt)
      have HIb_6 := Lib.hid (HIb.out.below hb (Nat.le_refl _))
      clear HIb HOb HIa_4 HOa_4 HJ_4 HI_4 HX_4 HQ_4 HB_4
      clear hb
      have cHOa0 := HOa_6.out.cell 0
      have cHOa1 := HOa_6.out.cell 1
      have cHOb0 := HOb_6.out.cell 0
      have cHOb1 := HOb_6.out.cell 1
      simp only [List.getElem?_toArray, List.getElem?_cons_zero, List.getElem?_cons_succ] at cHOa0 cHOa1 cHOb0 cHOb1
      go_wp2_with fail
      refine (same_queue _ HIa_6.out HIb_6.out HE67.out).mono ?_
      rintro e u7x ⟨rfl, hb⟩
      clear cHOa0 cHOa1 cHOb0 cHOb1
      have HB_8 := Lib.hid (HB_6.out.trans (hb.mono HB_6.out.size))
      have HQ_8 := Lib.hid (HQ_6.out.below hb HQ_6.out.lt)
      have HX_8 := Lib.hid (HX_6.out.below hb HX_6.out.lt)
      have HI_8 := Lib.hid (HI_6.out.below hb (Nat.le_refl _))
      have HJ_8 := Lib.hid (HJ_6.out.below hb (Nat.le_refl _))
      have HOa_8 := Lib.hid (HOa_6.out.below hb HOa_6.out.lt)
      have HIa_8 := Lib.hid (HIa_6.out.below hb (Nat.le_refl _))
      have HOb_8 := Lib.hid (HOb_6.out.below hb HOb_6.out.lt)
      have HIb_8 := Lib.hid (HIb_6.out.below hb (Nat.le_refl _))
      clear HIb_6 HOb_6 HIa_6 HOa_6 HJ_6 HI_6 HX_6 HQ_6 HB_6
      clear hb
      go_wp2
      go_ret
      exact ⟨rfl, HB_8.out⟩
    | true =>
      obtain ⟨hv1, hv2, hv3, hv4, hv5, hv6⟩ := add_yes HO6.out
      have hn61 : n6 = n + 1 := HN6.out.symm.trans hv5
      subst hn61
      have HKA := Lib.hid (HKYa.out.trans (HK6.out.symm.trans hv6))
      have hn1 := vQ_low hv1
      have hNn : N6 = N + 1 := by have h1 := (add_last HKA.out).1; have h2 := HNa.out; have h3 := HNL.out; omega
      subst hNn
      have HV := Lib.hid hv1
      have HLB := Lib.hid hv2
      have HL6 := Lib.hid hv3
      clear hv1 hv2 hv3 hv5 hv6
      have cHOa0 := HOa_4.out.cell 0
      have cHOa1 := HOa_4.out.cell 1
      have cHOb0 := HOb.out.cell 0
      have cHOb1 := HOb.out.cell 1
      simp only [List.getElem?_toArray, List.getElem?_cons_zero, List.getElem?_cons_succ] at cHOa0 cHOa1 cHOb0 cHOb1
      go_wp2_with fail
      refine (same_queue _ HIa_4.out HIb.out HE67.out).mono ?_
      rintro e u5x ⟨rfl, hb⟩
      clear cHOa0 cHOa1 cHOb0 cHOb1
      have HB_6 := Lib.hid (HB_4.out.trans (hb.mono HB_4.out.size))
      have HQ_6 := Lib.hid (HQ_4.out.below hb HQ_4.out.lt)
      have HX_6 := Lib.hid (HX_4.out.below hb HX_4.out.lt)
      have HI_6 := Lib.hid (HI_4.out.below hb (Nat.le_refl _))
      have HJ_6 := Lib.hid (HJ_4.out.below hb (Nat.le_refl _))
      have HOa_6 := Lib.hid (HOa_4.out.below hb HOa_4.out.lt)
      have HIa_6 := Lib.hid (HIa_4.out.below hb (Nat.le_refl _))
      have HOb_6 := Lib.hid (HOb.out.below hb HOb.out.lt)
      have HIb_6 := Lib.hid (HIb.out.below hb (Nat.le_refl _))
      clear HIb HOb HIa_4 HOa_4 HJ_4 HI_4 HX_4 HQ_4 HB_4
      clear hb
      have W1 : IntKind.i64.wrap ((N : Int) + 1) = (N : Int) + 1 := IntWalk.i64_in _ (by omega)
      have W2 : IntKind.i64.wrap (n + 1) = n + 1 := IntWalk.i64_in _ (by omega)
      have q1 : (((N + 1 : Nat) : Int) != (N : Int) + 1) = false := by simp
      have q2 : ((n + 1) != (n + 1)) = false := by simp
      have i0 : (0 : Int) ≤ (N : Int) := by omega
      have i1 : (N : Int) < ((N + 1 : Nat) : Int) := by omega
      obtain ⟨hg1, g, hg2, hg3⟩ := add_last HKA.out
      rw [← HNL.out] at hg2
      obtain ⟨b, o, rfl, hgb, x0, x1, x2, x3⟩ := qi_at HIa_6.out.2.2.1 hg2
      have HG := Lib.hid (HIa_6.out.2.2.2.2.2 _ (List.mem_of_getElem? hg2)).2
      obtain ⟨gi, gu, gx, gA, gN, gc, gT⟩ := g
      simp only [keyI, Prod.mk.injEq] at hg3
      obtain ⟨rfl, rfl, rfl, rfl⟩ := hg3
      simp only at x0 x1 x2 x3
      clear hg1 hg2
      have cHQ0 := HQ_6.out.cell 0
      have cHQ1 := HQ_6.out.cell 1
      have cHX0 := HX_6.out.cell 0
      have cHX1 := HX_6.out.cell 1
      have cHX2 := HX_6.out.cell 2
      have cHOa0 := HOa_6.out.cell 0
      have cHOa1 := HOa_6.out.cell 1
      simp only [List.getElem?_toArray, List.getElem?_cons_zero, List.getElem?_cons_succ] at cHQ0 cHQ1 cHX0 cHX1 cHX2 cHOa0 cHOa1
      have hNT : gN = NT := HG.out.1.symm.trans HJ_6.out.1
      subst hNT
      obtain ⟨Di, hDi⟩ : ∃ Di, u5x.heap.size = Di := ⟨_, rfl⟩
      obtain ⟨wi, hwi⟩ : ∃ wi, u5x.alloc (.cells #[.int .i64 gi, .string gu, .string gx, .slice gA gN gc] 38) = wi := ⟨_, rfl⟩
      have hbi : Below u5x.heap.size u5x wi := by rw [← hwi]; exact below_new _ _
      have HGi := Lib.hid (HG.out.below hbi (Nat.le_refl _))
      have HB_7 := Lib.hid (HB_6.out.trans (hbi.mono HB_6.out.size))
      have HQ_7 := Lib.hid (HQ_6.out.below hbi HQ_6.out.lt)
      have HX_7 := Lib.hid (HX_6.out.below hbi HX_6.out.lt)
      have HI_7 := Lib.hid (HI_6.out.below hbi (Nat.le_refl _))
      have HJ_7 := Lib.hid (HJ_6.out.below hbi (Nat.le_refl _))
      have HOa_7 := Lib.hid (HOa_6.out.below hbi HOa_6.out.lt)
      have HIa_7 := Lib.hid (HIa_6.out.below hbi (Nat.le_refl _))
      have HOb_7 := Lib.hid (HOb_6.out.below hbi HOb_6.out.lt)
      have HIb_7 := Lib.hid (HIb_6.out.below hbi (Nat.le_refl _))
      clear HIb_6 HOb_6 HIa_6 HOa_6 HJ_6 HI_6 HX_6 HQ_6 HB_6
      have HIT := Lib.hid (show Whole wi Di 38 #[.int .i64 gi, .string gu, .string gx, .slice gA gN gc] by rw [← hwi, ← hDi]; exact Whole.made _ _ _)
      have dHQ0 := HQ_7.out.cell 0
      have dHQ1 := HQ_7.out.cell 1
      have dHX0 := HX_7.out.cell 0
      have dHX1 := HX_7.out.cell 1
      have dHX2 := HX_7.out.cell 2
      have dHOa0 := HOa_7.out.cell 0
      have dHOa1 := HOa_7.out.cell 1
      have dHIT0 := HIT.out.cell 0
      have dHIT1 := HIT.out.cell 1
      have dHIT2 := HIT.out.cell 2
      have dHIT3 := HIT.out.cell 3
      simp only [List.getElem?_toArray, List.getElem?_cons_zero, List.getElem?_cons_succ] at dHQ0 dHQ1 dHX0 dHX1 dHX2 dHOa0 dHOa1 dHIT0 dHIT1 dHIT2 dHIT3
      clear hbi
      go_wp2_with fail
      refine (same_names gA AT gN gc cT gT wi HGi.out HJ_7.out).mono ?_
      rintro e wk ⟨rfl, hb⟩
      have HVA := Lib.hid (add_valid HV.out HLB.out HL6.out (by omega) HKA.out)
      clear cHQ0 cHQ1 cHX0 cHX1 cHX2 cHOa0 cHOa1 dHQ0 dHQ1 dHX0 dHX1 dHX2 dHOa0 dHOa1 dHIT0 dHIT1 dHIT2 dHIT3
      have HB_8 := Lib.hid (HB_7.out.trans (hb.mono HB_7.out.size))
      have HQ_8 := Lib.hid (HQ_7.out.below hb HQ_7.out.lt)
      have HX_8 := Lib.hid (HX_7.out.below hb HX_7.out.lt)
      have HI_8 := Lib.hid (HI_7.out.below hb (Nat.le_refl _))
      have HJ_8 := Lib.hid (HJ_7.out.below hb (Nat.le_refl _))
      have HOa_8 := Lib.hid (HOa_7.out.below hb HOa_7.out.lt)
      have HIa_8 := Lib.hid (HIa_7.out.below hb (Nat.le_refl _))
      have HOb_8 := Lib.hid (HOb_7.out.below hb HOb_7.out.lt)
      have HIb_8 := Lib.hid (HIb_7.out.below hb (Nat.le_refl _))
      have HIT_8 := Lib.hid (HIT.out.below hb HIT.out.lt)
      clear HIT HIb_7 HOb_7 HIa_7 HOa_7 HJ_7 HI_7 HX_7 HQ_7 HB_7
      clear hb x0 x1 x2 x3
      have cHOa0 := HOa_8.out.cell 0
      have cHOa1 := HOa_8.out.cell 1
      simp only [List.getElem?_toArray, List.getElem?_cons_zero, List.getElem?_cons_succ] at cHOa0 cHOa1
      go_wp2_with fail
      refine (iqv_at HVA.out wk HIa_8.out).mono ?_
      rintro e wl ⟨rfl, hb⟩
      clear cHOa0 cHOa1
      have HB_9 := Lib.hid (HB_8.out.trans (hb.mono HB_8.out.size))
      have HQ_9 := Lib.hid (HQ_8.out.below hb HQ_8.out.lt)
      have HX_9 := Lib.hid (HX_8.out.below hb HX_8.out.lt)
      have HI_9 := Lib.hid (HI_8.out.below hb (Nat.le_refl _))
      have HJ_9 := Lib.hid (HJ_8.out.below hb (Nat.le_refl _))
      have HOa_9 := Lib.hid (HOa_8.out.below hb HOa_8.out.lt)
      have HIa_9 := Lib.hid (HIa_8.out.below hb (Nat.le_refl _))
      have HOb_9 := Lib.hid (HOb_8.out.below hb HOb_8.out.lt)
      have HIb_9 := Lib.hid (HIb_8.out.below hb (Nat.le_refl _))
      have HIT_9 := Lib.hid (HIT_8.out.below hb HIT_8.out.lt)
      clear HIT_8 HIb_8 HOb_8 HIa_8 HOa_8 HJ_8 HI_8 HX_8 HQ_8 HB_8
      clear hb
      go_wp2
      go_ret
      exact ⟨rfl, HB_9.out⟩
  · have hlenI : (1048576 : Int) < (len : Int) := by omega
    go_enter Try.func4, Try.ntmps4
    go_wp2
    go_ret
    exact ⟨rfl, Below.refl _ _⟩
set_option maxRecDepth 20000 in
set_option maxHeartbeats 8000000 in
theorem law_FnQueueAddOld (A0 : Option Addr) (len cap0 : Nat) (w : World) (h : Coded w A0 len cap0) : Calls Try.prog 5 #[.slice A0 len cap0] w (Holds1 w) := by
  have HC := Lib.hid h
  clear h
  by_cases hlen : len ≤ 1048576
  · have hlenI : (len : Int) ≤ 1048576 := by omega
    have hlenJ : ¬ (1048576 : Int) < (len : Int) := by omega
    go_enter Try.func5, Try.ntmps5
    go_wp2_with fail
    refine (draw_qadd A0 len cap0 w HC.out).mono ?_
    rintro e w1 ⟨n, A, N, cap, L, us, tx, AT, NT, cT, TT, rfl, ho, hs, hl, ht, hus, htx, hTl, hTs, hb⟩
    have HL := Lib.hid hl
    have HNL := Lib.hid ho.1.len.1
    have hN8 : N ≤ 8 := by have := HNL.out; omega
    have HSQ := Lib.hid hs
    have HZK := Lib.hid (show smK (n, us, tx, TT) from ⟨hus, htx, hTl, hTs⟩)
    obtain ⟨D, hD⟩ : ∃ D, w1.heap.size = D := ⟨_, rfl⟩
    obtain ⟨w2, hw2⟩ : ∃ w2, ((w1.alloc (.cells #[.int .i64 n, .slice A N cap] 31)).alloc (.cells #[.string us, .slice AT NT cT, .string tx] 25)) = w2 := ⟨_, rfl⟩
    have e1 : (w1.alloc (.cells #[.int .i64 n, .slice A N cap] 31)).heap.size = D + 1 := by simp [hD]
    have hb2 : Below w1.heap.size w1 w2 := by rw [← hw2]; exact (below_new _ _).alloc (by simp) _
    have HB := Lib.hid (hb.trans (hb2.mono hb.size))
    have HQ := Lib.hid (show Whole w2 D 31 #[.int .i64 n, .slice A N cap] by rw [← hw2, ← hD]; exact (Whole.made _ _ _).alloc _)
    have HX := Lib.hid (show Whole w2 (D + 1) 25 #[.string us, .slice AT NT cT, .string tx] by rw [← hw2, ← e1]; exact Whole.made _ _ _)
    have HI := Lib.hid ((ho.qinS hs (by omega)).below hb2 (Nat.le_refl _))
    have HJ := Lib.hid ((SIn.made ht (by omega) (fun g hg => Nat.le_trans (hTs g hg) (by omega))).below hb2 (Nat.le_refl _))
    have HW2 := Lib.hid hw2
    have HDD := Lib.hid hD
    clear ho hs hl ht hTs hb hb2 e1 hw2 hD
    obtain ⟨n6, hn6⟩ : ∃ x, qaN n L us tx TT = x := ⟨_, rfl⟩
    obtain ⟨K6, hk6⟩ : ∃ x, qaK n L us tx TT = x := ⟨_, rfl⟩
    obtain ⟨ok6, ho6⟩ : ∃ x, qaO n L us tx TT = x := ⟨_, rfl⟩
    have HN6 := Lib.hid hn6
    have HK6 := Lib.hid hk6
    have HO6 := Lib.hid ho6
    have HSM6 : Hid (smQ K6) := Lib.hid (by rw [← hk6]; exact (qaK_sm HSQ.out HZK.out).1)
    have HLE6 : Hid (K6.length ≤ L.length + 1) := Lib.hid (by rw [← hk6]; exact (qaK_sm HSQ.out HZK.out).2)
    clear hn6 hk6 ho6
    have cHQ0 := HQ.out.cell 0
    have cHQ1 := HQ.out.cell 1
    have cHX0 := HX.out.cell 0
    have cHX1 := HX.out.cell 1
    have cHX2 := HX.out.cell 2
    simp only [List.getElem?_toArray, List.getElem?_cons_zero, List.getElem?_cons_succ] at cHQ0 cHQ1 cHX0 cHX1 cHX2
    go_wp2_with fail
    rw [HDD.out, HW2.out]
    have HCA := impl_queueadd (n := n) us tx TT AT NT cT w2 HI.out HJ.out (by omega)
    rw [HN6.out, HK6.out, HO6.out] at HCA
    refine HCA.mono ?_
    rintro e w3 ⟨A6, N6, c6, L6, rfl, ho3, hk3, hb3⟩
    clear HCA
    clear cHQ0 cHQ1 cHX0 cHX1 cHX2
    have HB_1 := Lib.hid (HB.out.trans (hb3.mono HB.out.size))
    have HQ_1 := Lib.hid (HQ.out.below hb3 HQ.out.lt)
    have HX_1 := Lib.hid (HX.out.below hb3 HX.out.lt)
    have HI_1 := Lib.hid (HI.out.below hb3 (Nat.le_refl _))
    have HJ_1 := Lib.hid (HJ.out.below hb3 (Nat.le_refl _))
    clear HJ HI HX HQ HB
    have hla : L6.length ≤ 1000 := by have h1 := HLE6.out; rw [← hk3, List.length_map] at h1; have := HL.out; omega
    have hia := ho3.qinS (by rw [hk3]; exact HSM6.out) hla
    have HKYa := Lib.hid hk3
    have HNa := Lib.hid ho3.1.len.1
    have HCa := Lib.hid ho3.1.len.2.1
    obtain ⟨D5, hD5⟩ : ∃ D, w3.heap.size = D := ⟨_, rfl⟩
    obtain ⟨w4, hw4⟩ : ∃ wn, w3.alloc (.cells #[.int .i64 n6, .slice A6 N6 c6] 31) = wn := ⟨_, rfl⟩
    have hbn : Below w3.heap.size w3 w4 := by rw [← hw4]; exact below_new _ _
    have HB_2 := Lib.hid (HB_1.out.trans (hbn.mono HB_1.out.size))
    have HQ_2 := Lib.hid (HQ_1.out.below hbn HQ_1.out.lt)
    have HX_2 := Lib.hid (HX_1.out.below hbn HX_1.out.lt)
    have HI_2 := Lib.hid (HI_1.out.below hbn (Nat.le_refl _))
    have HJ_2 := Lib.hid (HJ_1.out.below hbn (Nat.le_refl _))
    clear HJ_1 HI_1 HX_1 HQ_1 HB_1
    have HOa := Lib.hid (show Whole w4 D5 31 #[.int .i64 n6, .slice A6 N6 c6] by rw [← hw4, ← hD5]; exact Whole.made _ _ _)
    have HIa := Lib.hid (hia.below hbn (Nat.le_refl _))
    clear hla hia hbn ho3 hk3
    have cHQ0 := HQ_2.out.cell 0
    have cHQ1 := HQ_2.out.cell 1
    have cHX0 := HX_2.out.cell 0
    have cHX1 := HX_2.out.cell 1
    have cHX2 := HX_2.out.cell 2
    simp only [List.getElem?_toArray, List.getElem?_cons_zero, List.getElem?_cons_succ] at cHQ0 cHQ1 cHX0 cHX1 cHX2

    go_wp2_with fail
    have HCA := spec_queueadd (n := n) us tx TT AT NT cT w4 HI_2.out HJ_2.out (by omega)
    rw [HN6.out, HK6.out, HO6.out] at HCA
    refine HCA.mono ?_
    rintro e w5 ⟨A7, N7, c7, L7, rfl, ho5, hk5, hb5⟩
    clear HCA
    clear cHQ0 cHQ1 cHX0 cHX1 cHX2
    have HB_3 := Lib.hid (HB_2.out.trans (hb5.mono HB_2.out.size))
    have HQ_3 := Lib.hid (HQ_2.out.below hb5 HQ_2.out.lt)
    have HX_3 := Lib.hid (HX_2.out.below hb5 HX_2.out.lt)
    have HI_3 := Lib.hid (HI_2.out.below hb5 (Nat.le_refl _))
    have HJ_3 := Lib.hid (HJ_2.out.below hb5 (Nat.le_refl _))
    have HOa_3 := Lib.hid (HOa.out.below hb5 HOa.out.lt)
    have HIa_3 := Lib.hid (HIa.out.below hb5 (Nat.le_refl _))
    clear HIa HOa HJ_2 HI_2 HX_2 HQ_2 HB_2
    have hlb : L7.length ≤ 1000 := by have h1 := HLE6.out; rw [← hk5, List.length_map] at h1; have := HL.out; omega
    have hib := ho5.qinS (by rw [hk5]; exact HSM6.out) hlb
    have HKYb := Lib.hid hk5
    have HNb := Lib.hid ho5.1.len.1
    have HCb := Lib.hid ho5.1.len.2.1
    obtain ⟨D7, hD7⟩ : ∃ D, w5.heap.size = D := ⟨_, rfl⟩
    obtain ⟨w6, hw6⟩ : ∃ wn, w5.alloc (.cells #[.int .i64 n6, .slice A7 N7 c7] 31) = wn := ⟨_, rfl⟩
    have hbn : Below w5.heap.size w5 w6 := by rw [← hw6]; exact below_new _ _
    have HB_4 := Lib.hid (HB_3.out.trans (hbn.mono HB_3.out.size))
    have HQ_4 := Lib.hid (HQ_3.out.below hbn HQ_3.out.lt)
    have HX_4 := Lib.hid (HX_3.out.below hbn HX_3.out.lt)
    have HI_4 := Lib.hid (HI_3.out.below hbn (Nat.le_refl _))
    have HJ_4 := Lib.hid (HJ_3.out.below hbn (Nat.le_refl _))
    have HOa_4 := Lib.hid (HOa_3.out.below hbn HOa_3.out.lt)
    have HIa_4 := Lib.hid (HIa_3.out.below hbn (Nat.le_refl _))
    clear HIa_3 HOa_3 HJ_3 HI_3 HX_3 HQ_3 HB_3
    have HOb := Lib.hid (show Whole w6 D7 31 #[.int .i64 n6, .slice A7 N7 c7] by rw [← hw6, ← hD7]; exact Whole.made _ _ _)
    have HIb := Lib.hid (hib.below hbn (Nat.le_refl _))
    clear hlb hib hbn ho5 hk5
    have h67 : N6 = N7 := by have h1 := HNa.out; have h2 := HNb.out; have h3 := key_len (HKYa.out.trans HKYb.out.symm); omega
    subst h67
    have HE67 := Lib.hid (HKYa.out.trans HKYb.out.symm)
    clear hb3 hb5
    cases ok6 with
    | false =>
      have cHOa0 := HOa_4.out.cell 0
      have cHOa1 := HOa_4.out.cell 1
      have cHOb0 := HOb.out.cell 0
      have cHOb1 := HOb.out.cell 1
      simp only [List.getElem?_toArray, List.getElem?_cons_zero, List.getElem?_cons_succ] at cHOa0 cHOa1 cHOb0 cHOb1
      go_wp2_with fail
      refine (same_queue _ HIa_4.out HIb.out HE67.out).mono ?_
      rintro e u5x ⟨rfl, hb⟩
      clear cHOa0 cHOa1 cHOb0 cHOb1
      have HB_6 := Lib.hid (HB_4.out.trans (hb.mono HB_4.out.size))
      have HQ_6 := Lib.hid (HQ_4.out.below hb HQ_4.out.lt)
      have HX_6 := Lib.hid (HX_4.out.below hb HX_4.out.lt)
      have HI_6 := Lib.hid (HI_4.out.below hb (Nat.le_refl _))
      have HJ_6 := Lib.hid (HJ_4.out.below hb (Nat.le_refl _))
      have HOa_6 := Lib.hid (HOa_4.out.below hb HOa_4.out.lt)
      have HIa_6 := Lib.hid (HIa_4.out.below hb (Nat.le_refl _))
      have HOb_6 := Lib.hid (HOb.out.below hb HOb.out.lt)
      have HIb_6 := Lib.hid (HIb.out.below hb (Nat.le_refl _))
      clear HIb HOb HIa_4 HOa_4 HJ_4 HI_4 HX_4 HQ_4 HB_4
      clear hb
      have cHOa0 := HOa_6.out.cell 0
      have cHOa1 := HOa_6.out.cell 1
      have cHOb0 := HOb_6.out.cell 0
      have cHOb1 := HOb_6.out.cell 1
      simp only [List.getElem?_toArray, List.getElem?_cons_zero, List.getElem?_cons_succ] at cHOa0 cHOa1 cHOb0 cHOb1
      go_wp2_with fail
      refine (same_queue _ HIa_6.out HIb_6.out HE67.out).mono ?_
      rintro e u7x ⟨rfl, hb⟩
      clear cHOa0 cHOa1 cHOb0 cHOb1
      have HB_8 := Lib.hid (HB_6.out.trans (hb.mono HB_6.out.size))
      have HQ_8 := Lib.hid (HQ_6.out.below hb HQ_6.out.lt)
      have HX_8 := Lib.hid (HX_6.out.below hb HX_6.out.lt)
      have HI_8 := Lib.hid (HI_6.out.below hb (Nat.le_refl _))
      have HJ_8 := Lib.hid (HJ_6.out.below hb (Nat.le_refl _))
      have HOa_8 := Lib.hid (HOa_6.out.below hb HOa_6.out.lt)
      have HIa_8 := Lib.hid (HIa_6.out.below hb (Nat.le_refl _))
      have HOb_8 := Lib.hid (HOb_6.out.below hb HOb_6.out.lt)
      have HIb_8 := Lib.hid (HIb_6.out.below hb (Nat.le_refl _))
      clear HIb_6 HOb_6 HIa_6 HOa_6 HJ_6 HI_6 HX_6 HQ_6 HB_6
      clear hb
      go_wp2
      go_ret
      exact ⟨rfl, HB_8.out⟩
    | true =>
      obtain ⟨hv1, hv2, hv3, hv4, hv5, hv6⟩ := add_yes HO6.out
      have hn61 : n6 = n + 1 := HN6.out.symm.trans hv5
      subst hn61
      have HKA := Lib.hid (HKYa.out.trans (HK6.out.symm.trans hv6))
      have hn1 := vQ_low hv1
      have hNn : N6 = N + 1 := by have h1 := (add_last HKA.out).1; have h2 := HNa.out; have h3 := HNL.out; omega
      subst hNn
      have HV := Lib.hid hv1
      have HLB := Lib.hid hv2
      have HL6 := Lib.hid hv3
      clear hv1 hv2 hv3 hv5 hv6
      have cHOa0 := HOa_4.out.cell 0
      have cHOa1 := HOa_4.out.cell 1
      have cHOb0 := HOb.out.cell 0
      have cHOb1 := HOb.out.cell 1
      simp only [List.getElem?_toArray, List.getElem?_cons_zero, List.getElem?_cons_succ] at cHOa0 cHOa1 cHOb0 cHOb1
      go_wp2_with fail
      refine (same_queue _ HIa_4.out HIb.out HE67.out).mono ?_
      rintro e u5x ⟨rfl, hb⟩
      clear cHOa0 cHOa1 cHOb0 cHOb1
      have HB_6 := Lib.hid (HB_4.out.trans (hb.mono HB_4.out.size))
      have HQ_6 := Lib.hid (HQ_4.out.below hb HQ_4.out.lt)
      have HX_6 := Lib.hid (HX_4.out.below hb HX_4.out.lt)
      have HI_6 := Lib.hid (HI_4.out.below hb (Nat.le_refl _))
      have HJ_6 := Lib.hid (HJ_4.out.below hb (Nat.le_refl _))
      have HOa_6 := Lib.hid (HOa_4.out.below hb HOa_4.out.lt)
      have HIa_6 := Lib.hid (HIa_4.out.below hb (Nat.le_refl _))
      have HOb_6 := Lib.hid (HOb.out.below hb HOb.out.lt)
      have HIb_6 := Lib.hid (HIb.out.below hb (Nat.le_refl _))
      clear HIb HOb HIa_4 HOa_4 HJ_4 HI_4 HX_4 HQ_4 HB_4
      clear hb
      have i0 : (0 : Int) ≤ (N : Int) := by omega
      have i1 : (N : Int) ≤ (c6 : Int) := by have := HCa.out; omega
      obtain ⟨g6, rfl⟩ := own6 HIa_6.out (by omega)
      obtain ⟨ud, hud⟩ : ∃ ud, u5x.drew = ud := ⟨_, rfl⟩
      have hbd : Below u5x.heap.size u5x ud := by rw [← hud]; exact below_drew1 _
      have HUD := Lib.hid hud
      clear hud
      have HB_7 := Lib.hid (HB_6.out.trans (hbd.mono HB_6.out.size))
      have HQ_7 := Lib.hid (HQ_6.out.below hbd HQ_6.out.lt)
      have HX_7 := Lib.hid (HX_6.out.below hbd HX_6.out.lt)
      have HI_7 := Lib.hid (HI_6.out.below hbd (Nat.le_refl _))
      have HJ_7 := Lib.hid (HJ_6.out.below hbd (Nat.le_refl _))
      have HOa_7 := Lib.hid (HOa_6.out.below hbd HOa_6.out.lt)
      have HIa_7 := Lib.hid (HIa_6.out.below hbd (Nat.le_refl _))
      have HOb_7 := Lib.hid (HOb_6.out.below hbd HOb_6.out.lt)
      have HIb_7 := Lib.hid (HIb_6.out.below hbd (Nat.le_refl _))
      clear HIb_6 HOb_6 HIa_6 HOa_6 HJ_6 HI_6 HX_6 HQ_6 HB_6
      clear hbd
      have cHQ0 := HQ_7.out.cell 0
      have cHQ1 := HQ_7.out.cell 1
      have cHOa0 := HOa_7.out.cell 0
      have cHOa1 := HOa_7.out.cell 1
      simp only [List.getElem?_toArray, List.getElem?_cons_zero, List.getElem?_cons_succ] at cHQ0 cHQ1 cHOa0 cHOa1
      go_upto_region 8 with fail
      refine wp_region_late (fun w' => w'.cell? ⟨D, 0, none⟩ = some (.int .i64 n) ∧ w'.cell? ⟨D, 1, none⟩ = some (.slice A N cap) ∧ w'.cell? ⟨D5, 1, none⟩ = some (.slice (some g6) (N + 1) c6)) 11 (by kernel_rfl) ?_
      rw [HUD.out]
      refine wpLate_take (i := 0) (v := ?v0) rfl (by kernel_rfl) (by kernel_rfl) (by kernel_rfl) (by kernel_rfl) (by kernel_rfl) (fun _ _ _ h => h) ⟨cHQ0, cHQ1, cHOa1⟩ (by rfl) ?hy0 ?r0
      case hy0 =>
        rintro wz ⟨z0, z1, z2⟩
        go_simp
        try with_reducible rfl
      try simp only [Act.put]
      refine wpLate_take (i := 1) (v := ?v1) rfl (by kernel_rfl) (by kernel_rfl) (by kernel_rfl) (by kernel_rfl) (by kernel_rfl) (fun _ _ _ h => h) ⟨cHQ0, cHQ1, cHOa1⟩ (by rfl) ?hy1 ?r1
      case hy1 =>
        rintro wz ⟨z0, z1, z2⟩
        go_simp
        try with_reducible rfl
      try simp only [Act.put]
      refine wpLate_take (i := 2) (v := ?v2) rfl (by kernel_rfl) (by kernel_rfl) (by kernel_rfl) (by kernel_rfl) (by kernel_rfl) (fun _ _ _ h => h) ⟨cHQ0, cHQ1, cHOa1⟩ (by rfl) ?hy2 ?r2
      case hy2 =>
        rintro wz ⟨z0, z1, z2⟩
        go_simp
        try with_reducible rfl
      try simp only [Act.put]
      refine wpLate_take (i := 3) (v := ?v3) rfl (by kernel_rfl) (by kernel_rfl) (by kernel_rfl) (by kernel_rfl) (by kernel_rfl) (fun _ _ _ h => h) ⟨cHQ0, cHQ1, cHOa1⟩ (by rfl) ?hy3 ?r3
      case hy3 =>
        rintro wz ⟨z0, z1, z2⟩
        go_simp
        try with_reducible rfl
      try simp only [Act.put]
      refine wpLate_take (i := 4) (v := ?v4) rfl (by kernel_rfl) (by kernel_rfl) (by kernel_rfl) (by kernel_rfl) (by kernel_rfl) (fun _ _ _ h => h) ⟨cHQ0, cHQ1, cHOa1⟩ (by rfl) ?hy4 ?r4
      case hy4 =>
        rintro wz ⟨z0, z1, z2⟩
        go_simp
        try with_reducible rfl
      try simp only [Act.put]
      refine wpLate_take (i := 5) (v := ?v5) rfl (by kernel_rfl) (by kernel_rfl) (by kernel_rfl) (by kernel_rfl) (by kernel_rfl) (fun _ _ _ h => h) ⟨cHQ0, cHQ1, cHOa1⟩ (by rfl) ?hy5 ?r5
      case hy5 =>
        rintro wz ⟨z0, z1, z2⟩
        go_simp
        try with_reducible rfl
      try simp only [Act.put]
      refine wpLate_take (i := 6) (v := ?v6) rfl (by kernel_rfl) (by kernel_rfl) (by kernel_rfl) (by kernel_rfl) (by kernel_rfl) (fun _ _ _ h => h) ⟨cHQ0, cHQ1, cHOa1⟩ (by rfl) ?hy6 ?r6
      case hy6 =>
        rintro wz ⟨z0, z1, z2⟩
        go_simp
        try with_reducible rfl
      try simp only [Act.put]
      refine wpLate_take (i := 7) (v := ?v7) rfl (by kernel_rfl) (by kernel_rfl) (by kernel_rfl) (by kernel_rfl) (by kernel_rfl) (fun _ _ _ h => h) ⟨cHQ0, cHQ1, cHOa1⟩ (by rfl) ?hy7 ?r7
      case hy7 =>
        rintro wz ⟨z0, z1, z2⟩
        go_simp
        try with_reducible rfl
      try simp only [Act.put]
      refine wpLate_take (i := 8) (v := ?v8) rfl (by kernel_rfl) (by kernel_rfl) (by kernel_rfl) (by kernel_rfl) (by kernel_rfl) (fun _ _ _ h => h) ⟨cHQ0, cHQ1, cHOa1⟩ (by rfl) ?hy8 ?r8
      case hy8 =>
        rintro wz ⟨z0, z1, z2⟩
        go_simp
        try with_reducible rfl
      try simp only [Act.put]
      refine wpLate_take (i := 9) (v := ?v9) rfl (by kernel_rfl) (by kernel_rfl) (by kernel_rfl) (by kernel_rfl) (by kernel_rfl) (fun _ _ _ h => h) ⟨cHQ0, cHQ1, cHOa1⟩ (by rfl) ?hy9 ?r9
      case hy9 =>
        rintro wz ⟨z0, z1, z2⟩
        go_simp
        try with_reducible rfl
      try simp only [Act.put]
      refine wpLate_one (i := 10) (by kernel_rfl) rfl (fun K hK => ?_)
      go_simp
      refine (same_queue ud (HIa_7.out.front (Nat.le_succ N)) HI_7.out (by rw [HNL.out]; exact add_old HKA.out)).mono ?_
      rintro e wz ⟨rfl, hb⟩
      clear cHQ0 cHQ1 cHOa0 cHOa1
      have HB_8 := Lib.hid (HB_7.out.trans (hb.mono HB_7.out.size))
      have HQ_8 := Lib.hid (HQ_7.out.below hb HQ_7.out.lt)
      have HX_8 := Lib.hid (HX_7.out.below hb HX_7.out.lt)
      have HI_8 := Lib.hid (HI_7.out.below hb (Nat.le_refl _))
      have HJ_8 := Lib.hid (HJ_7.out.below hb (Nat.le_refl _))
      have HOa_8 := Lib.hid (HOa_7.out.below hb HOa_7.out.lt)
      have HIa_8 := Lib.hid (HIa_7.out.below hb (Nat.le_refl _))
      have HOb_8 := Lib.hid (HOb_7.out.below hb HOb_7.out.lt)
      have HIb_8 := Lib.hid (HIb_7.out.below hb (Nat.le_refl _))
      clear HIb_7 HOb_7 HIa_7 HOa_7 HJ_7 HI_7 HX_7 HQ_7 HB_7
      clear hb
      have cHQ0 := HQ_8.out.cell 0
      have cHQ1 := HQ_8.out.cell 1
      have cHOa0 := HOa_8.out.cell 0
      have cHOa1 := HOa_8.out.cell 1
      simp only [List.getElem?_toArray, List.getElem?_cons_zero, List.getElem?_cons_succ] at cHQ0 cHQ1 cHOa0 cHOa1
      refine hK.out _ _ (fun _ => ⟨cHQ0, cHQ1, cHOa1⟩) ?_
      clear hK K
      try simp only [Act.put]
      refine wpLate_one (i := 11) (by kernel_rfl) rfl (fun K hK => ?_)
      go_simp
      refine hK.out _ _ (fun h => absurd rfl h) ?_
      clear hK K
      try simp only [Act.put]
      refine wpLate_done (by kernel_rfl) ?_ _
      go_wp2
      go_ret
      exact ⟨rfl, HB_8.out⟩
  · have hlenI : (1048576 : Int) < (len : Int) := by omega
    go_enter Try.func5, Try.ntmps5
    go_wp2
    go_ret
    exact ⟨rfl, Below.refl _ _⟩
set_option maxRecDepth 20000 in
set_option maxHeartbeats 8000000 in
theorem law_FnQueueFull (A0 : Option Addr) (len cap0 : Nat) (w : World) (h : Coded w A0 len cap0) : Calls Try.prog 7 #[.slice A0 len cap0] w (Holds1 w) := by
  have HC := Lib.hid h
  clear h
  by_cases hlen : len ≤ 1048576
  · have hlenI : (len : Int) ≤ 1048576 := by omega
    have hlenJ : ¬ (1048576 : Int) < (len : Int) := by omega
    go_enter Try.func7, Try.ntmps7
    go_wp2_with fail
    refine (draw_qadd A0 len cap0 w HC.out).mono ?_
    rintro e w1 ⟨n, A, N, cap, L, us, tx, AT, NT, cT, TT, rfl, ho, hs, hl, ht, hus, htx, hTl, hTs, hb⟩
    have HL := Lib.hid hl
    have HNL := Lib.hid ho.1.len.1
    have hN8 : N ≤ 8 := by have := HNL.out; omega
    have HSQ := Lib.hid hs
    have HZK := Lib.hid (show smK (n, us, tx, TT) from ⟨hus, htx, hTl, hTs⟩)
    obtain ⟨D, hD⟩ : ∃ D, w1.heap.size = D := ⟨_, rfl⟩
    obtain ⟨w2, hw2⟩ : ∃ w2, ((w1.alloc (.cells #[.int .i64 n, .slice A N cap] 31)).alloc (.cells #[.string us, .slice AT NT cT, .string tx] 25)) = w2 := ⟨_, rfl⟩
    have e1 : (w1.alloc (.cells #[.int .i64 n, .slice A N cap] 31)).heap.size = D + 1 := by simp [hD]
    have hb2 : Below w1.heap.size w1 w2 := by rw [← hw2]; exact (below_new _ _).alloc (by simp) _
    have HB := Lib.hid (hb.trans (hb2.mono hb.size))
    have HQ := Lib.hid (show Whole w2 D 31 #[.int .i64 n, .slice A N cap] by rw [← hw2, ← hD]; exact (Whole.made _ _ _).alloc _)
    have HX := Lib.hid (show Whole w2 (D + 1) 25 #[.string us, .slice AT NT cT, .string tx] by rw [← hw2, ← e1]; exact Whole.made _ _ _)
    have HI := Lib.hid ((ho.qinS hs (by omega)).below hb2 (Nat.le_refl _))
    have HJ := Lib.hid ((SIn.made ht (by omega) (fun g hg => Nat.le_trans (hTs g hg) (by omega))).below hb2 (Nat.le_refl _))
    have HW2 := Lib.hid hw2
    have HDD := Lib.hid hD
    clear ho hs hl ht hTs hb hb2 e1 hw2 hD
    obtain ⟨n6, hn6⟩ : ∃ x, qaN n L us tx TT = x := ⟨_, rfl⟩
    obtain ⟨K6, hk6⟩ : ∃ x, qaK n L us tx TT = x := ⟨_, rfl⟩
    obtain ⟨ok6, ho6⟩ : ∃ x, qaO n L us tx TT = x := ⟨_, rfl⟩
    have HN6 := Lib.hid hn6
    have HK6 := Lib.hid hk6
    have HO6 := Lib.hid ho6
    have HSM6 : Hid (smQ K6) := Lib.hid (by rw [← hk6]; exact (qaK_sm HSQ.out HZK.out).1)
    have HLE6 : Hid (K6.length ≤ L.length + 1) := Lib.hid (by rw [← hk6]; exact (qaK_sm HSQ.out HZK.out).2)
    clear hn6 hk6 ho6
    have cHQ0 := HQ.out.cell 0
    have cHQ1 := HQ.out.cell 1
    have cHX0 := HX.out.cell 0
    have cHX1 := HX.out.cell 1
    have cHX2 := HX.out.cell 2
    simp only [List.getElem?_toArray, List.getElem?_cons_zero, List.getElem?_cons_succ] at cHQ0 cHQ1 cHX0 cHX1 cHX2
    go_wp2_with fail
    rw [HDD.out, HW2.out]
    have HCA := impl_queueadd (n := n) us tx TT AT NT cT w2 HI.out HJ.out (by omega)
    rw [HN6.out, HK6.out, HO6.out] at HCA
    refine HCA.mono ?_
    rintro e w3 ⟨A6, N6, c6, L6, rfl, ho3, hk3, hb3⟩
    clear HCA
    clear cHQ0 cHQ1 cHX0 cHX1 cHX2
    have HB_1 := Lib.hid (HB.out.trans (hb3.mono HB.out.size))
    have HQ_1 := Lib.hid (HQ.out.below hb3 HQ.out.lt)
    have HX_1 := Lib.hid (HX.out.below hb3 HX.out.lt)
    have HI_1 := Lib.hid (HI.out.below hb3 (Nat.le_refl _))
    have HJ_1 := Lib.hid (HJ.out.below hb3 (Nat.le_refl _))
    clear HJ HI HX HQ HB
    have hla : L6.length ≤ 1000 := by have h1 := HLE6.out; rw [← hk3, List.length_map] at h1; have := HL.out; omega
    have hia := ho3.qinS (by rw [hk3]; exact HSM6.out) hla
    have HKYa := Lib.hid hk3
    have HNa := Lib.hid ho3.1.len.1
    have HCa := Lib.hid ho3.1.len.2.1
    obtain ⟨D5, hD5⟩ : ∃ D, w3.heap.size = D := ⟨_, rfl⟩
    obtain ⟨w4, hw4⟩ : ∃ wn, w3.alloc (.cells #[.int .i64 n6, .slice A6 N6 c6] 31) = wn := ⟨_, rfl⟩
    have hbn : Below w3.heap.size w3 w4 := by rw [← hw4]; exact below_new _ _
    have HB_2 := Lib.hid (HB_1.out.trans (hbn.mono HB_1.out.size))
    have HQ_2 := Lib.hid (HQ_1.out.below hbn HQ_1.out.lt)
    have HX_2 := Lib.hid (HX_1.out.below hbn HX_1.out.lt)
    have HI_2 := Lib.hid (HI_1.out.below hbn (Nat.le_refl _))
    have HJ_2 := Lib.hid (HJ_1.out.below hbn (Nat.le_refl _))
    clear HJ_1 HI_1 HX_1 HQ_1 HB_1
    have HOa := Lib.hid (show Whole w4 D5 31 #[.int .i64 n6, .slice A6 N6 c6] by rw [← hw4, ← hD5]; exact Whole.made _ _ _)
    have HIa := Lib.hid (hia.below hbn (Nat.le_refl _))
    clear hla hia hbn ho3 hk3
    have cHQ0 := HQ_2.out.cell 0
    have cHQ1 := HQ_2.out.cell 1
    have cHX0 := HX_2.out.cell 0
    have cHX1 := HX_2.out.cell 1
    have cHX2 := HX_2.out.cell 2
    simp only [List.getElem?_toArray, List.getElem?_cons_zero, List.getElem?_cons_succ] at cHQ0 cHQ1 cHX0 cHX1 cHX2

    go_wp2_with fail
    have HCA := spec_queueadd (n := n) us tx TT AT NT cT w4 HI_2.out HJ_2.out (by omega)
    rw [HN6.out, HK6.out, HO6.out] at HCA
    refine HCA.mono ?_
    rintro e w5 ⟨A7, N7, c7, L7, rfl, ho5, hk5, hb5⟩
    clear HCA
    clear cHQ0 cHQ1 cHX0 cHX1 cHX2
    have HB_3 := Lib.hid (HB_2.out.trans (hb5.mono HB_2.out.size))
    have HQ_3 := Lib.hid (HQ_2.out.below hb5 HQ_2.out.lt)
    have HX_3 := Lib.hid (HX_2.out.below hb5 HX_2.out.lt)
    have HI_3 := Lib.hid (HI_2.out.below hb5 (Nat.le_refl _))
    have HJ_3 := Lib.hid (HJ_2.out.below hb5 (Nat.le_refl _))
    have HOa_3 := Lib.hid (HOa.out.below hb5 HOa.out.lt)
    have HIa_3 := Lib.hid (HIa.out.below hb5 (Nat.le_refl _))
    clear HIa HOa HJ_2 HI_2 HX_2 HQ_2 HB_2
    have hlb : L7.length ≤ 1000 := by have h1 := HLE6.out; rw [← hk5, List.length_map] at h1; have := HL.out; omega
    have hib := ho5.qinS (by rw [hk5]; exact HSM6.out) hlb
    have HKYb := Lib.hid hk5
    have HNb := Lib.hid ho5.1.len.1
    have HCb := Lib.hid ho5.1.len.2.1
    obtain ⟨D7, hD7⟩ : ∃ D, w5.heap.size = D := ⟨_, rfl⟩
    obtain ⟨w6, hw6⟩ : ∃ wn, w5.alloc (.cells #[.int .i64 n6, .slice A7 N7 c7] 31) = wn := ⟨_, rfl⟩
    have hbn : Below w5.heap.size w5 w6 := by rw [← hw6]; exact below_new _ _
    have HB_4 := Lib.hid (HB_3.out.trans (hbn.mono HB_3.out.size))
    have HQ_4 := Lib.hid (HQ_3.out.below hbn HQ_3.out.lt)
    have HX_4 := Lib.hid (HX_3.out.below hbn HX_3.out.lt)
    have HI_4 := Lib.hid (HI_3.out.below hbn (Nat.le_refl _))
    have HJ_4 := Lib.hid (HJ_3.out.below hbn (Nat.le_refl _))
    have HOa_4 := Lib.hid (HOa_3.out.below hbn HOa_3.out.lt)
    have HIa_4 := Lib.hid (HIa_3.out.below hbn (Nat.le_refl _))
    clear HIa_3 HOa_3 HJ_3 HI_3 HX_3 HQ_3 HB_3
    have HOb := Lib.hid (show Whole w6 D7 31 #[.int .i64 n6, .slice A7 N7 c7] by rw [← hw6, ← hD7]; exact Whole.made _ _ _)
    have HIb := Lib.hid (hib.below hbn (Nat.le_refl _))
    clear hlb hib hbn ho5 hk5
    have h67 : N6 = N7 := by have h1 := HNa.out; have h2 := HNb.out; have h3 := key_len (HKYa.out.trans HKYb.out.symm); omega
    subst h67
    have HE67 := Lib.hid (HKYa.out.trans HKYb.out.symm)
    clear hb3 hb5
    cases ok6 with
    | true =>
      have cHOa0 := HOa_4.out.cell 0
      have cHOa1 := HOa_4.out.cell 1
      have cHOb0 := HOb.out.cell 0
      have cHOb1 := HOb.out.cell 1
      simp only [List.getElem?_toArray, List.getElem?_cons_zero, List.getElem?_cons_succ] at cHOa0 cHOa1 cHOb0 cHOb1
      go_wp2_with fail
      refine (same_queue _ HIa_4.out HIb.out HE67.out).mono ?_
      rintro e u5x ⟨rfl, hb⟩
      clear cHOa0 cHOa1 cHOb0 cHOb1
      have HB_6 := Lib.hid (HB_4.out.trans (hb.mono HB_4.out.size))
      have HQ_6 := Lib.hid (HQ_4.out.below hb HQ_4.out.lt)
      have HX_6 := Lib.hid (HX_4.out.below hb HX_4.out.lt)
      have HI_6 := Lib.hid (HI_4.out.below hb (Nat.le_refl _))
      have HJ_6 := Lib.hid (HJ_4.out.below hb (Nat.le_refl _))
      have HOa_6 := Lib.hid (HOa_4.out.below hb HOa_4.out.lt)
      have HIa_6 := Lib.hid (HIa_4.out.below hb (Nat.le_refl _))
      have HOb_6 := Lib.hid (HOb.out.below hb HOb.out.lt)
      have HIb_6 := Lib.hid (HIb.out.below hb (Nat.le_refl _))
      clear HIb HOb HIa_4 HOa_4 HJ_4 HI_4 HX_4 HQ_4 HB_4
      clear hb
      have cHOa0 := HOa_6.out.cell 0
      have cHOa1 := HOa_6.out.cell 1
      have cHOb0 := HOb_6.out.cell 0
      have cHOb1 := HOb_6.out.cell 1
      simp only [List.getElem?_toArray, List.getElem?_cons_zero, List.getElem?_cons_succ] at cHOa0 cHOa1 cHOb0 cHOb1
      go_wp2_with fail
      refine (same_queue _ HIa_6.out HIb_6.out HE67.out).mono ?_
      rintro e u7x ⟨rfl, hb⟩
      clear cHOa0 cHOa1 cHOb0 cHOb1
      have HB_8 := Lib.hid (HB_6.out.trans (hb.mono HB_6.out.size))
      have HQ_8 := Lib.hid (HQ_6.out.below hb HQ_6.out.lt)
      have HX_8 := Lib.hid (HX_6.out.below hb HX_6.out.lt)
      have HI_8 := Lib.hid (HI_6.out.below hb (Nat.le_refl _))
      have HJ_8 := Lib.hid (HJ_6.out.below hb (Nat.le_refl _))
      have HOa_8 := Lib.hid (HOa_6.out.below hb HOa_6.out.lt)
      have HIa_8 := Lib.hid (HIa_6.out.below hb (Nat.le_refl _))
      have HOb_8 := Lib.hid (HOb_6.out.below hb HOb_6.out.lt)
      have HIb_8 := Lib.hid (HIb_6.out.below hb (Nat.le_refl _))
      clear HIb_6 HOb_6 HIa_6 HOa_6 HJ_6 HI_6 HX_6 HQ_6 HB_6
      clear hb
      go_wp2
      go_ret
      exact ⟨rfl, HB_8.out⟩
    | false =>
      have cHOa0 := HOa_4.out.cell 0
      have cHOa1 := HOa_4.out.cell 1
      have cHOb0 := HOb.out.cell 0
      have cHOb1 := HOb.out.cell 1
      simp only [List.getElem?_toArray, List.getElem?_cons_zero, List.getElem?_cons_succ] at cHOa0 cHOa1 cHOb0 cHOb1
      go_wp2_with fail
      refine (same_queue _ HIa_4.out HIb.out HE67.out).mono ?_
      rintro e u5x ⟨rfl, hb⟩
      clear cHOa0 cHOa1 cHOb0 cHOb1
      have HB_6 := Lib.hid (HB_4.out.trans (hb.mono HB_4.out.size))
      have HQ_6 := Lib.hid (HQ_4.out.below hb HQ_4.out.lt)
      have HX_6 := Lib.hid (HX_4.out.below hb HX_4.out.lt)
      have HI_6 := Lib.hid (HI_4.out.below hb (Nat.le_refl _))
      have HJ_6 := Lib.hid (HJ_4.out.below hb (Nat.le_refl _))
      have HOa_6 := Lib.hid (HOa_4.out.below hb HOa_4.out.lt)
      have HIa_6 := Lib.hid (HIa_4.out.below hb (Nat.le_refl _))
      have HOb_6 := Lib.hid (HOb.out.below hb HOb.out.lt)
      have HIb_6 := Lib.hid (HIb.out.below hb (Nat.le_refl _))
      clear HIb HOb HIa_4 HOa_4 HJ_4 HI_4 HX_4 HQ_4 HB_4
      clear hb
      cases hv : vQ n L with
      | false =>
        have HV := Lib.hid hv
        clear hv
        have cHQ0 := HQ_6.out.cell 0
        have cHQ1 := HQ_6.out.cell 1
        simp only [List.getElem?_toArray, List.getElem?_cons_zero, List.getElem?_cons_succ] at cHQ0 cHQ1
        go_wp2_with fail
        refine (sqv_at HV.out _ HI_6.out).mono ?_
        rintro e wv ⟨rfl, hb⟩
        clear cHQ0 cHQ1
        have HB_7 := Lib.hid (HB_6.out.trans (hb.mono HB_6.out.size))
        have HQ_7 := Lib.hid (HQ_6.out.below hb HQ_6.out.lt)
        have HX_7 := Lib.hid (HX_6.out.below hb HX_6.out.lt)
        have HI_7 := Lib.hid (HI_6.out.below hb (Nat.le_refl _))
        have HJ_7 := Lib.hid (HJ_6.out.below hb (Nat.le_refl _))
        have HOa_7 := Lib.hid (HOa_6.out.below hb HOa_6.out.lt)
        have HIa_7 := Lib.hid (HIa_6.out.below hb (Nat.le_refl _))
        have HOb_7 := Lib.hid (HOb_6.out.below hb HOb_6.out.lt)
        have HIb_7 := Lib.hid (HIb_6.out.below hb (Nat.le_refl _))
        clear HIb_6 HOb_6 HIa_6 HOa_6 HJ_6 HI_6 HX_6 HQ_6 HB_6
        clear hb
        have cHOa0 := HOa_7.out.cell 0
        have cHOa1 := HOa_7.out.cell 1
        have cHOb0 := HOb_7.out.cell 0
        have cHOb1 := HOb_7.out.cell 1
        simp only [List.getElem?_toArray, List.getElem?_cons_zero, List.getElem?_cons_succ] at cHOa0 cHOa1 cHOb0 cHOb1
        go_wp2_with fail
        refine (same_queue _ HIa_7.out HIb_7.out HE67.out).mono ?_
        rintro e u8x ⟨rfl, hb⟩
        clear cHOa0 cHOa1 cHOb0 cHOb1
        have HB_9 := Lib.hid (HB_7.out.trans (hb.mono HB_7.out.size))
        have HQ_9 := Lib.hid (HQ_7.out.below hb HQ_7.out.lt)
        have HX_9 := Lib.hid (HX_7.out.below hb HX_7.out.lt)
        have HI_9 := Lib.hid (HI_7.out.below hb (Nat.le_refl _))
        have HJ_9 := Lib.hid (HJ_7.out.below hb (Nat.le_refl _))
        have HOa_9 := Lib.hid (HOa_7.out.below hb HOa_7.out.lt)
        have HIa_9 := Lib.hid (HIa_7.out.below hb (Nat.le_refl _))
        have HOb_9 := Lib.hid (HOb_7.out.below hb HOb_7.out.lt)
        have HIb_9 := Lib.hid (HIb_7.out.below hb (Nat.le_refl _))
        clear HIb_7 HOb_7 HIa_7 HOa_7 HJ_7 HI_7 HX_7 HQ_7 HB_7
        clear hb
        go_wp2
        go_ret
        exact ⟨rfl, HB_9.out⟩
      | true =>
        have HV := Lib.hid hv
        clear hv
        have cHQ0 := HQ_6.out.cell 0
        have cHQ1 := HQ_6.out.cell 1
        simp only [List.getElem?_toArray, List.getElem?_cons_zero, List.getElem?_cons_succ] at cHQ0 cHQ1
        go_wp2_with fail
        refine (sqv_at HV.out _ HI_6.out).mono ?_
        rintro e wv ⟨rfl, hb⟩
        clear cHQ0 cHQ1
        have HB_7 := Lib.hid (HB_6.out.trans (hb.mono HB_6.out.size))
        have HQ_7 := Lib.hid (HQ_6.out.below hb HQ_6.out.lt)
        have HX_7 := Lib.hid (HX_6.out.below hb HX_6.out.lt)
        have HI_7 := Lib.hid (HI_6.out.below hb (Nat.le_refl _))
        have HJ_7 := Lib.hid (HJ_6.out.below hb (Nat.le_refl _))
        have HOa_7 := Lib.hid (HOa_6.out.below hb HOa_6.out.lt)
        have HIa_7 := Lib.hid (HIa_6.out.below hb (Nat.le_refl _))
        have HOb_7 := Lib.hid (HOb_6.out.below hb HOb_6.out.lt)
        have HIb_7 := Lib.hid (HIb_6.out.below hb (Nat.le_refl _))
        clear HIb_6 HOb_6 HIa_6 HOa_6 HJ_6 HI_6 HX_6 HQ_6 HB_6
        clear hb
        cases hl : letB us TT tx with
        | false =>
          have HLT := Lib.hid hl
          clear hl
          have cHX0 := HX_7.out.cell 0
          have cHX1 := HX_7.out.cell 1
          have cHX2 := HX_7.out.cell 2
          simp only [List.getElem?_toArray, List.getElem?_cons_zero, List.getElem?_cons_succ] at cHX0 cHX1 cHX2
          go_wp2_with fail
          refine (slet_at HLT.out _ HJ_7.out (by omega)).mono ?_
          rintro e wx ⟨rfl, hb⟩
          clear cHX0 cHX1 cHX2
          have HB_8 := Lib.hid (HB_7.out.trans (hb.mono HB_7.out.size))
          have HQ_8 := Lib.hid (HQ_7.out.below hb HQ_7.out.lt)
          have HX_8 := Lib.hid (HX_7.out.below hb HX_7.out.lt)
          have HI_8 := Lib.hid (HI_7.out.below hb (Nat.le_refl _))
          have HJ_8 := Lib.hid (HJ_7.out.below hb (Nat.le_refl _))
          have HOa_8 := Lib.hid (HOa_7.out.below hb HOa_7.out.lt)
          have HIa_8 := Lib.hid (HIa_7.out.below hb (Nat.le_refl _))
          have HOb_8 := Lib.hid (HOb_7.out.below hb HOb_7.out.lt)
          have HIb_8 := Lib.hid (HIb_7.out.below hb (Nat.le_refl _))
          clear HIb_7 HOb_7 HIa_7 HOa_7 HJ_7 HI_7 HX_7 HQ_7 HB_7
          clear hb
          have cHOa0 := HOa_8.out.cell 0
          have cHOa1 := HOa_8.out.cell 1
          have cHOb0 := HOb_8.out.cell 0
          have cHOb1 := HOb_8.out.cell 1
          simp only [List.getElem?_toArray, List.getElem?_cons_zero, List.getElem?_cons_succ] at cHOa0 cHOa1 cHOb0 cHOb1
          go_wp2_with fail
          refine (same_queue _ HIa_8.out HIb_8.out HE67.out).mono ?_
          rintro e u9x ⟨rfl, hb⟩
          clear cHOa0 cHOa1 cHOb0 cHOb1
          have HB_10 := Lib.hid (HB_8.out.trans (hb.mono HB_8.out.size))
          have HQ_10 := Lib.hid (HQ_8.out.below hb HQ_8.out.lt)
          have HX_10 := Lib.hid (HX_8.out.below hb HX_8.out.lt)
          have HI_10 := Lib.hid (HI_8.out.below hb (Nat.le_refl _))
          have HJ_10 := Lib.hid (HJ_8.out.below hb (Nat.le_refl _))
          have HOa_10 := Lib.hid (HOa_8.out.below hb HOa_8.out.lt)
          have HIa_10 := Lib.hid (HIa_8.out.below hb (Nat.le_refl _))
          have HOb_10 := Lib.hid (HOb_8.out.below hb HOb_8.out.lt)
          have HIb_10 := Lib.hid (HIb_8.out.below hb (Nat.le_refl _))
          clear HIb_8 HOb_8 HIa_8 HOa_8 HJ_8 HI_8 HX_8 HQ_8 HB_8
          clear hb
          go_wp2
          go_ret
          exact ⟨rfl, HB_10.out⟩
        | true =>
          have HLT := Lib.hid hl
          clear hl
          have cHX0 := HX_7.out.cell 0
          have cHX1 := HX_7.out.cell 1
          have cHX2 := HX_7.out.cell 2
          simp only [List.getElem?_toArray, List.getElem?_cons_zero, List.getElem?_cons_succ] at cHX0 cHX1 cHX2
          go_wp2_with fail
          refine (slet_at HLT.out _ HJ_7.out (by omega)).mono ?_
          rintro e wx ⟨rfl, hb⟩
          clear cHX0 cHX1 cHX2
          have HB_8 := Lib.hid (HB_7.out.trans (hb.mono HB_7.out.size))
          have HQ_8 := Lib.hid (HQ_7.out.below hb HQ_7.out.lt)
          have HX_8 := Lib.hid (HX_7.out.below hb HX_7.out.lt)
          have HI_8 := Lib.hid (HI_7.out.below hb (Nat.le_refl _))
          have HJ_8 := Lib.hid (HJ_7.out.below hb (Nat.le_refl _))
          have HOa_8 := Lib.hid (HOa_7.out.below hb HOa_7.out.lt)
          have HIa_8 := Lib.hid (HIa_7.out.below hb (Nat.le_refl _))
          have HOb_8 := Lib.hid (HOb_7.out.below hb HOb_7.out.lt)
          have HIb_8 := Lib.hid (HIb_7.out.below hb (Nat.le_refl _))
          clear HIb_7 HOb_7 HIa_7 HOa_7 HJ_7 HI_7 HX_7 HQ_7 HB_7
          clear hb
          obtain ⟨hf1, hf2, hf3⟩ := add_full HO6.out HV.out HLT.out
          have hn6n : n6 = n := HN6.out.symm.trans hf1
          subst hn6n
          have HKA := Lib.hid (HKYa.out.trans (HK6.out.symm.trans hf2))
          have hNN : N6 = N := by have h1 := key_len HKA.out; have h2 := HNa.out; have h3 := HNL.out; omega
          subst hNN
          have hor : N6 = 6 ∨ 99 < n6 := by have h3 := HNL.out; omega
          clear hf1 hf2 hf3
          have cHOa0 := HOa_8.out.cell 0
          have cHOa1 := HOa_8.out.cell 1
          have cHQ0 := HQ_8.out.cell 0
          have cHQ1 := HQ_8.out.cell 1
          simp only [List.getElem?_toArray, List.getElem?_cons_zero, List.getElem?_cons_succ] at cHOa0 cHOa1 cHQ0 cHQ1
          go_wp2_with fail
          refine (same_queue _ HIa_8.out HI_8.out HKA.out).mono ?_
          rintro e wy ⟨rfl, hb⟩
          clear cHOa0 cHOa1 cHQ0 cHQ1
          have HB_9 := Lib.hid (HB_8.out.trans (hb.mono HB_8.out.size))
          have HQ_9 := Lib.hid (HQ_8.out.below hb HQ_8.out.lt)
          have HX_9 := Lib.hid (HX_8.out.below hb HX_8.out.lt)
          have HI_9 := Lib.hid (HI_8.out.below hb (Nat.le_refl _))
          have HJ_9 := Lib.hid (HJ_8.out.below hb (Nat.le_refl _))
          have HOa_9 := Lib.hid (HOa_8.out.below hb HOa_8.out.lt)
          have HIa_9 := Lib.hid (HIa_8.out.below hb (Nat.le_refl _))
          have HOb_9 := Lib.hid (HOb_8.out.below hb HOb_8.out.lt)
          have HIb_9 := Lib.hid (HIb_8.out.below hb (Nat.le_refl _))
          clear HIb_8 HOb_8 HIa_8 HOa_8 HJ_8 HI_8 HX_8 HQ_8 HB_8
          clear hb
          have cHQ0 := HQ_9.out.cell 0
          have cHQ1 := HQ_9.out.cell 1
          simp only [List.getElem?_toArray, List.getElem?_cons_zero, List.getElem?_cons_succ] at cHQ0 cHQ1
          by_cases h6 : N6 = 6
          · subst h6
            go_wp2
            go_ret
            exact ⟨rfl, HB_9.out⟩
          · have h6' : ((N6 : Int) == 6) = false := beq_eq_false_iff_ne.2 (by omega)
            have h9 : (99 : Int) < n6 := by omega
            go_wp2
            go_ret
            exact ⟨rfl, HB_9.out⟩
  · have hlenI : (1048576 : Int) < (len : Int) := by omega
    go_enter Try.func7, Try.ntmps7
    go_wp2
    go_ret
    exact ⟨rfl, Below.refl _ _⟩
end Go.Proofs.Ytinbdibenbplnaa
