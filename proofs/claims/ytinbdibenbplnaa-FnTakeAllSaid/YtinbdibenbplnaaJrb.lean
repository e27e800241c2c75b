/-
  The walks of the laws FnTakeAll. Condition: the code can be read.
-/
import Derived.Test.YtinbdibenbplnaaJr
import Derived.BigQuiet
namespace Go.Proofs.Ytinbdibenbplnaa
open Go.RowKit
set_option linter.unusedVariables false

def rstK (n : Int) (us tx : ByteArray) (T : List ByteArray) : List QK := if T = [] then [] else [(n, us, tx, T)]
theorem let_drop {us tx : ByteArray} {T : List ByteArray} {i : Nat} (h : letB us T tx = true) (hi : i < T.length) : letB us (T.drop i) tx = true := by
  unfold letB recB n21 at h ⊢
  simp only [Bool.and_eq_true, decide_eq_true_eq] at h ⊢
  obtain ⟨h1, ⟨⟨h2, h3⟩, h4⟩, h5⟩ := h
  obtain ⟨h6, h7⟩ := namesB_iff.1 h2
  have h8 : (T.drop i).length = T.length - i := List.length_drop
  refine ⟨h1, ⟨⟨namesB_iff.2 ⟨fun x hx => h6 x (List.mem_of_mem_drop hx), List.Pairwise.sublist (List.drop_sublist i T) h7⟩, by omega⟩, by omega⟩, h5⟩
theorem let_nodup {us tx : ByteArray} {T : List ByteArray} (h : letB us T tx = true) : T.Nodup := by
  unfold letB recB n21 at h
  simp only [Bool.and_eq_true, decide_eq_true_eq] at h
  exact (namesB_iff.1 h.2.1.1.1).2
theorem all_valid {n : Int} {L M : List QI} {us tx : ByteArray} {T : List ByteArray} {i : Nat} (hv : vQ n L = true) (hl : letB us T tx = true) (h6 : L.length < 6) (h9 : n ≤ 99) (hk : M.map keyI = L.map keyI ++ rstK n us tx (T.drop i)) : vQ (n + 1) M = true := by
  by_cases hd : T.drop i = []
  · have hM : M.map keyI = L.map keyI := by rw [hk]; unfold rstK; rw [if_pos hd, List.append_nil]
    rw [vQ_key hM]
    obtain ⟨h1, h2, h3, h4⟩ := vQ_parts hv
    exact vQ_mk h1 (by omega) h3 (by omega)
  · have hi : i < T.length := by
      rcases Nat.lt_or_ge i T.length with h | h
      · exact h
      · exact absurd (List.drop_of_length_le h) hd
    exact add_valid hv (let_drop hl hi) h6 h9 (by rw [hk]; unfold rstK; rw [if_neg hd])
theorem all_step {n : Int} {L M : List QI} {us tx u : ByteArray} {T : List ByteArray} {i : Nat} (hv : vQ n L = true) (hl : letB us T tx = true) (h6 : L.length < 6) (h9 : n ≤ 99) (hk : M.map keyI = L.map keyI ++ rstK n us tx (T.drop i)) (hu : T[i]? = some u) :
    qtO (n + 1) M n u = true ∧ qtT (n + 1) M n u = tx ∧ qtN (n + 1) M = n + 1 ∧ qtK (n + 1) M n u = L.map keyI ++ rstK n us tx (T.drop (i + 1)) := by
  have hvM := all_valid hv hl h6 h9 hk
  obtain ⟨hi, rfl⟩ := List.getElem?_eq_some_iff.1 hu
  have hdr : T.drop i = T[i] :: T.drop (i + 1) := List.drop_eq_getElem_cons hi
  have hne : ¬ T.drop i = [] := by rw [hdr]; exact List.cons_ne_nil _ _
  have hk2 : M.map keyI = L.map keyI ++ [(n, us, tx, T.drop i)] := by rw [hk]; unfold rstK; rw [if_neg hne]
  obtain ⟨h1, h2, h3, h4⟩ := vQ_parts hv
  have hlt : ∀ x ∈ L, x.id ≠ n := fun x hx => by have := (okQ_le h3).2 x hx; omega
  have hneL : ∀ x ∈ L, x.T ≠ [] := fun x hx => (letB_parts ((okQ_asc h3).2 x hx).2).2.1
  have ho : qtO (n + 1) M n T[i] = true := by
    unfold qtO tkO
    rw [hvM, Bool.true_and]
    refine List.find?_isSome.2 ⟨(n, us, tx, T.drop i), by rw [hk2]; simp, ?_⟩
    unfold mtch
    rw [decide_eq_true rfl, decide_eq_true (show T[i] ∈ T.drop i by rw [hdr]; exact List.mem_cons_self)]
    rfl
  refine ⟨ho, ?_, by unfold qtN; rw [if_pos hvM], ?_⟩
  · obtain ⟨g, hg, hg1, hg2, hg3, _⟩ := take_some ho
    have hm : keyI g ∈ L.map keyI ++ [(n, us, tx, T.drop i)] := by rw [← hk2]; exact List.mem_map.2 ⟨g, hg, rfl⟩
    rcases List.mem_append.1 hm with hm | hm
    · obtain ⟨x, hx, he⟩ := List.mem_map.1 hm
      have : x.id = g.id := by have := congrArg (fun k : QK => k.1) he; exact this
      exact absurd (this.trans hg1) (hlt x hx)
    · have he := List.mem_singleton.1 hm
      have : g.tx = tx := by have := congrArg (fun k : QK => k.2.2.1) he; exact this
      rw [hg3, this]
  · unfold qtK
    rw [if_pos hvM, hk2, tkK_app, tkK_none (fun k hk => by obtain ⟨x, hx, rfl⟩ := List.mem_map.1 hk; exact hneL x hx) (fun k hk hh => by obtain ⟨x, hx, rfl⟩ := List.mem_map.1 hk; exact hlt x hx hh.1)]
    congr 1
    have hnd := let_nodup hl
    have hnd2 : (T.drop i).Nodup := List.Pairwise.sublist (List.drop_sublist i T) hnd
    rw [hdr] at hnd2
    have hni := (List.nodup_cons.1 hnd2).1
    have hf : (T.drop i).filter (fun x => decide (x ≠ T[i])) = T.drop (i + 1) := by
      rw [hdr, List.filter_cons, if_neg (by simp)]
      refine List.filter_eq_self.2 fun x hx => decide_eq_true (fun e => hni (e ▸ hx))
    show ([((n, us, tx, T.drop i) : QK)].map (tk1 n T[i])).filter neT = _
    rw [List.map_cons, List.map_nil, tk1_yes (k := (n, us, tx, T.drop i)) (id := n) (u := T[i]) rfl (show T[i] ∈ T.drop i by rw [hdr]; exact List.mem_cons_self), List.filter_cons]
    unfold rstK
    by_cases hd : T.drop (i + 1) = []
    · rw [if_neg (by unfold neT; simp only [hf]; simp [hd]), if_pos hd]; rfl
    · rw [if_pos (by unfold neT; simp only [hf]; simp [hd]), if_neg hd]
      show [((n, us, tx, (T.drop i).filter fun x => decide (x ≠ T[i])) : QK)] = _
      rw [hf]
theorem rst_sm {n : Int} {L : List QI} {us tx : ByteArray} {T : List ByteArray} {i : Nat} (hs : smQ (L.map keyI)) (hk : smK (n, us, tx, T)) : smQ (L.map keyI ++ rstK n us tx (T.drop i)) := fun y hy => by
  rcases List.mem_append.1 hy with hy | hy
  · exact hs y hy
  · unfold rstK at hy
    split at hy
    · cases hy
    · rw [List.mem_singleton] at hy
      subst hy
      obtain ⟨h1, h2, h3, h4⟩ := hk
      exact ⟨h1, h2, by show (T.drop i).length ≤ _; have : (T.drop i).length ≤ T.length := by rw [List.length_drop]; omega
                        exact Nat.le_trans this h3, fun g hg => h4 g (List.mem_of_mem_drop hg)⟩
set_option maxRecDepth 20000 in
set_option maxHeartbeats 8000000 in
theorem law_FnTakeAll (A0 : Option Addr) (len cap0 : Nat) (w : World) (h : Coded w A0 len cap0) : Calls Try.prog 12 #[.slice A0 len cap0] w (Holds1 w) := by
  have HC := Lib.hid h
  clear h
  by_cases hlen : len ≤ 1048576
  · have hlenI : (len : Int) ≤ 1048576 := by omega
    have hlenJ : ¬ (1048576 : Int) < (len : Int) := by omega
    go_enter Try.func12, Try.ntmps12
    go_wp2_with fail
    refine (draw_qadd A0 len cap0 w HC.out).mono ?_
    rintro e w1 ⟨n, A, N, cap, L, us, tx, AT, NT, cT, TT, rfl, ho, hs, hl, ht, hus, htx, hTl, hTs, hb⟩
    have HL := Lib.hid hl
    have HNL := Lib.hid ho.1.len.1
    have hN8 : N ≤ 8 := by have := HNL.out; omega
    have HSQ := Lib.hid hs
    have HZK := Lib.hid (show smK (n, us, tx, TT) from ⟨hus, htx, hTl, hTs⟩)
    obtain ⟨D, hD⟩ : ∃ D, w1.heap.size = D := ⟨_, rfl⟩
    obtain ⟨w2, hw2⟩ : ∃ w2, ((w1.alloc (.cells #[.int .i64 n, .slice A N cap] 31)).alloc (.cells #[.string us, .slice AT NT cT, .string tx] 25)) = w2 := ⟨_, rfl⟩
    have e1 : (w1.alloc (.cells #[.int .i64 n, .slice A N cap] 31)).heap.size = D + 1 := by simp [hD]
    have hb2 : Below w1.heap.size w1 w2 := by rw [← hw2]; exact (below_new _ _).alloc (by simp) _
    have HB := Lib.hid (hb.trans (hb2.mono hb.size))
    have HQ := Lib.hid (show Whole w2 D 31 #[.int .i64 n, .slice A N cap] by rw [← hw2, ← hD]; exact (Whole.made _ _ _).alloc _)
    have HX := Lib.hid (show Whole w2 (D + 1) 25 #[.string us, .slice AT NT cT, .string tx] by rw [← hw2, ← e1]; exact Whole.made _ _ _)
    have HI := Lib.hid ((ho.qinS hs (by omega)).below hb2 (Nat.le_refl _))
    have HJ := Lib.hid ((SIn.made ht (by omega) (fun g hg => Nat.le_trans (hTs g hg) (by omega))).below hb2 (Nat.le_refl _))
    have HW2 := Lib.hid hw2
    have HDD := Lib.hid hD
    clear ho hs hl ht hTs hb hb2 e1 hw2 hD
    obtain ⟨n6, hn6⟩ : ∃ x, qaN n L us tx TT = x := ⟨_, rfl⟩
    obtain ⟨K6, hk6⟩ : ∃ x, qaK n L us tx TT = x := ⟨_, rfl⟩
    obtain ⟨ok6, ho6⟩ : ∃ x, qaO n L us tx TT = x := ⟨_, rfl⟩
    have HN6 := Lib.hid hn6
    have HK6 := Lib.hid hk6
    have HO6 := Lib.hid ho6
    have HSM6 : Hid (smQ K6) := Lib.hid (by rw [← hk6]; exact (qaK_sm HSQ.out HZK.out).1)
    have HLE6 : Hid (K6.length ≤ L.length + 1) := Lib.hid (by rw [← hk6]; exact (qaK_sm HSQ.out HZK.out).2)
    clear hn6 hk6 ho6
    have cHQ0 := HQ.out.cell 0
    have cHQ1 := HQ.out.cell 1
    have cHX0 := HX.out.cell 0
    have cHX1 := HX.out.cell 1
    have cHX2 := HX.out.cell 2
    simp only [List.getElem?_toArray, List.getElem?_cons_zero, List.getElem?_cons_succ] at cHQ0 cHQ1 cHX0 cHX1 cHX2
    go_wp2_with fail
    rw [HDD.out, HW2.out]
    have HCA := impl_queueadd (n := n) us tx TT AT NT cT w2 HI.out HJ.out (by omega)
    rw [HN6.out, HK6.out, HO6.out] at HCA
    refine HCA.mono ?_
    rintro e w3 ⟨A6, N6, c6, L6, rfl, ho3, hk3, hb3⟩
    clear HCA
    clear cHQ0 cHQ1 cHX0 cHX1 cHX2
    have HB_1 := Lib.hid (HB.out.trans (hb3.mono HB.out.size))
    have HQ_1 := Lib.hid (HQ.out.below hb3 HQ.out.lt)
    have HX_1 := Lib.hid (HX.out.below hb3 HX.out.lt)
    have HI_1 := Lib.hid (HI.out.below hb3 (Nat.le_refl _))
    have HJ_1 := Lib.hid (HJ.out.below hb3 (Nat.le_refl _))
    clear HJ HI HX HQ HB
    have hla : L6.length ≤ 1000 := by have h1 := HLE6.out; rw [← hk3, List.length_map] at h1; have := HL.out; omega
    have hia := ho3.qinS (by rw [hk3]; exact HSM6.out) hla
    have HKYa := Lib.hid hk3
    have HNa := Lib.hid ho3.1.len.1
    have HCa := Lib.hid ho3.1.len.2.1
    obtain ⟨D5, hD5⟩ : ∃ D, w3.heap.size = D := ⟨_, rfl⟩
    obtain ⟨w4, hw4⟩ : ∃ wn, w3.alloc (.cells #[.int .i64 n6, .slice A6 N6 c6] 31) = wn := ⟨_, rfl⟩
    have hbn : Below w3.heap.size w3 w4 := by rw [← hw4]; exact below_new _ _
    have HB_2 := Lib.hid (HB_1.out.trans (hbn.mono HB_1.out.size))
    have HQ_2 := Lib.hid (HQ_1.out.below hbn HQ_1.out.lt)
    have HX_2 := Lib.hid (HX_1.out.below hbn HX_1.out.lt)
    have HI_2 := Lib.hid (HI_1.out.below hbn (Nat.le_refl _))
    have HJ_2 := Lib.hid (HJ_1.out.below hbn (Nat.le_refl _))
    clear HJ_1 HI_1 HX_1 HQ_1 HB_1
    have HOa := Lib.hid (show Whole w4 D5 31 #[.int .i64 n6, .slice A6 N6 c6] by rw [← hw4, ← hD5]; exact Whole.made _ _ _)
    have HIa := Lib.hid (hia.below hbn (Nat.le_refl _))
    have HWa := Lib.hid (ho3.kept hbn)
    clear hla hia hbn ho3 hk3
    have cHQ0 := HQ_2.out.cell 0
    have cHQ1 := HQ_2.out.cell 1
    have cHX0 := HX_2.out.cell 0
    have cHX1 := HX_2.out.cell 1
    have cHX2 := HX_2.out.cell 2
    simp only [List.getElem?_toArray, List.getElem?_cons_zero, List.getElem?_cons_succ] at cHQ0 cHQ1 cHX0 cHX1 cHX2

    go_wp2_with fail
    have HCA := spec_queueadd (n := n) us tx TT AT NT cT w4 HI_2.out HJ_2.out (by omega)
    rw [HN6.out, HK6.out, HO6.out] at HCA
    refine HCA.mono ?_
    rintro e w5 ⟨A7, N7, c7, L7, rfl, ho5, hk5, hb5⟩
    clear HCA
    clear cHQ0 cHQ1 cHX0 cHX1 cHX2
    have HB_3 := Lib.hid (HB_2.out.trans (hb5.mono HB_2.out.size))
    have HQ_3 := Lib.hid (HQ_2.out.below hb5 HQ_2.out.lt)
    have HX_3 := Lib.hid (HX_2.out.below hb5 HX_2.out.lt)
    have HI_3 := Lib.hid (HI_2.out.below hb5 (Nat.le_refl _))
    have HJ_3 := Lib.hid (HJ_2.out.below hb5 (Nat.le_refl _))
    have HOa_3 := Lib.hid (HOa.out.below hb5 HOa.out.lt)
    have HIa_3 := Lib.hid (HIa.out.below hb5 (Nat.le_refl _))
    have HWa_3 := Lib.hid (HWa.out.kept hb5)
    clear HWa HIa HOa HJ_2 HI_2 HX_2 HQ_2 HB_2
    have hlb : L7.length ≤ 1000 := by have h1 := HLE6.out; rw [← hk5, List.length_map] at h1; have := HL.out; omega
    have hib := ho5.qinS (by rw [hk5]; exact HSM6.out) hlb
    have HKYb := Lib.hid hk5
    have HNb := Lib.hid ho5.1.len.1
    have HCb := Lib.hid ho5.1.len.2.1
    obtain ⟨D7, hD7⟩ : ∃ D, w5.heap.size = D := ⟨_, rfl⟩
    obtain ⟨w6, hw6⟩ : ∃ wn, w5.alloc (.cells #[.int .i64 n6, .slice A7 N7 c7] 31) = wn := ⟨_, rfl⟩
    have hbn : Below w5.heap.size w5 w6 := by rw [← hw6]; exact below_new _ _
    have HB_4 := Lib.hid (HB_3.out.trans (hbn.mono HB_3.out.size))
    have HQ_4 := Lib.hid (HQ_3.out.below hbn HQ_3.out.lt)
    have HX_4 := Lib.hid (HX_3.out.below hbn HX_3.out.lt)
    have HI_4 := Lib.hid (HI_3.out.below hbn (Nat.le_refl _))
    have HJ_4 := Lib.hid (HJ_3.out.below hbn (Nat.le_refl _))
    have HOa_4 := Lib.hid (HOa_3.out.below hbn HOa_3.out.lt)
    have HIa_4 := Lib.hid (HIa_3.out.below hbn (Nat.le_refl _))
    have HWa_4 := Lib.hid (HWa_3.out.kept hbn)
    clear HWa_3 HIa_3 HOa_3 HJ_3 HI_3 HX_3 HQ_3 HB_3
    have HOb := Lib.hid (show Whole w6 D7 31 #[.int .i64 n6, .slice A7 N7 c7] by rw [← hw6, ← hD7]; exact Whole.made _ _ _)
    have HIb := Lib.hid (hib.below hbn (Nat.le_refl _))
    have HWb := Lib.hid (ho5.kept hbn)
    clear hlb hib hbn ho5 hk5
    have h67 : N6 = N7 := by have h1 := HNa.out; have h2 := HNb.out; have h3 := key_len (HKYa.out.trans HKYb.out.symm); omega
    subst h67
    have HE67 := Lib.hid (HKYa.out.trans HKYb.out.symm)
    clear hb3 hb5
    cases ok6 with
    | false =>
      have cHOa0 := HOa_4.out.cell 0
      have cHOa1 := HOa_4.out.cell 1
      have cHOb0 := HOb.out.cell 0
      have cHOb1 := HOb.out.cell 1
      simp only [List.getElem?_toArray, List.getElem?_cons_zero, List.getElem?_cons_succ] at cHOa0 cHOa1 cHOb0 cHOb1
      go_wp2_with fail
      refine (same_queue _ HIa_4.out HIb.out HE67.out).mono ?_
      rintro e u5x ⟨rfl, hb⟩
      clear cHOa0 cHOa1 cHOb0 cHOb1
      have HB_6 := Lib.hid (HB_4.out.trans (hb.mono HB_4.out.size))
      have HQ_6 := Lib.hid (HQ_4.out.below hb HQ_4.out.lt)
      have HX_6 := Lib.hid (HX_4.out.below hb HX_4.out.lt)
      have HI_6 := Lib.hid (HI_4.out.below hb (Nat.le_refl _))
      have HJ_6 := Lib.hid (HJ_4.out.below hb (Nat.le_refl _))
      have HOa_6 := Lib.hid (HOa_4.out.below hb HOa_4.out.lt)
      have HIa_6 := Lib.hid (HIa_4.out.below hb (Nat.le_refl _))
      have HWa_6 := Lib.hid (HWa_4.out.kept hb)
      have HOb_6 := Lib.hid (HOb.out.below hb HOb.out.lt)
      have HIb_6 := Lib.hid (HIb.out.below hb (Nat.le_refl _))
      have HWb_6 := Lib.hid (HWb.out.kept hb)
      clear HWb HIb HOb HWa_4 HIa_4 HOa_4 HJ_4 HI_4 HX_4 HQ_4 HB_4
      clear hb
      have cHOa0 := HOa_6.out.cell 0
      have cHOa1 := HOa_6.out.cell 1
      have cHOb0 := HOb_6.out.cell 0
      have cHOb1 := HOb_6.out.cell 1
      simp only [List.getElem?_toArray, List.getElem?_cons_zero, List.getElem?_cons_succ] at cHOa0 cHOa1 cHOb0 cHOb1
      go_wp2_with fail
      refine (same_queue _ HIa_6.out HIb_6.out HE67.out).mono ?_
      rintro e u7x ⟨rfl, hb⟩
      clear cHOa0 cHOa1 cHOb0 cHOb1
      have HB_8 := Lib.hid (HB_6.out.trans (hb.mono HB_6.out.size))
      have HQ_8 := Lib.hid (HQ_6.out.below hb HQ_6.out.lt)
      have HX_8 := Lib.hid (HX_6.out.below hb HX_6.out.lt)
      have HI_8 := Lib.hid (HI_6.out.below hb (Nat.le_refl _))
      have HJ_8 := Lib.hid (HJ_6.out.below hb (Nat.le_refl _))
      have HOa_8 := Lib.hid (HOa_6.out.below hb HOa_6.out.lt)
      have HIa_8 := Lib.hid (HIa_6.out.below hb (Nat.le_refl _))
      have HWa_8 := Lib.hid (HWa_6.out.kept hb)
      have HOb_8 := Lib.hid (HOb_6.out.below hb HOb_6.out.lt)
      have HIb_8 := Lib.hid (HIb_6.out.below hb (Nat.le_refl _))
      have HWb_8 := Lib.hid (HWb_6.out.kept hb)
      clear HWb_6 HIb_6 HOb_6 HWa_6 HIa_6 HOa_6 HJ_6 HI_6 HX_6 HQ_6 HB_6
      clear hb
      go_wp2
      go_ret
      exact ⟨rfl, HB_8.out⟩
    | true =>
      obtain ⟨hv1, hv2, hv3, hv4, hv5, hv6⟩ := add_yes HO6.out
      have hn61 : n6 = n + 1 := HN6.out.symm.trans hv5
      subst hn61
      have HKA := Lib.hid (HKYa.out.trans (HK6.out.symm.trans hv6))
      have hn1 := vQ_low hv1
      have hNn : N6 = N + 1 := by have h1 := (add_last HKA.out).1; have h2 := HNa.out; have h3 := HNL.out; omega
      subst hNn
      have HV := Lib.hid hv1
      have HLB := Lib.hid hv2
      have HL6 := Lib.hid hv3
      clear hv1 hv2 hv3 hv5 hv6
      have cHOa0 := HOa_4.out.cell 0
      have cHOa1 := HOa_4.out.cell 1
      have cHOb0 := HOb.out.cell 0
      have cHOb1 := HOb.out.cell 1
      simp only [List.getElem?_toArray, List.getElem?_cons_zero, List.getElem?_cons_succ] at cHOa0 cHOa1 cHOb0 cHOb1
      go_wp2_with fail
      refine (same_queue _ HIa_4.out HIb.out HE67.out).mono ?_
      rintro e u5x ⟨rfl, hb⟩
      clear cHOa0 cHOa1 cHOb0 cHOb1
      have HB_6 := Lib.hid (HB_4.out.trans (hb.mono HB_4.out.size))
      have HQ_6 := Lib.hid (HQ_4.out.below hb HQ_4.out.lt)
      have HX_6 := Lib.hid (HX_4.out.below hb HX_4.out.lt)
      have HI_6 := Lib.hid (HI_4.out.below hb (Nat.le_refl _))
      have HJ_6 := Lib.hid (HJ_4.out.below hb (Nat.le_refl _))
      have HOa_6 := Lib.hid (HOa_4.out.below hb HOa_4.out.lt)
      have HIa_6 := Lib.hid (HIa_4.out.below hb (Nat.le_refl _))
      have HWa_6 := Lib.hid (HWa_4.out.kept hb)
      have HOb_6 := Lib.hid (HOb.out.below hb HOb.out.lt)
      have HIb_6 := Lib.hid (HIb.out.below hb (Nat.le_refl _))
      have HWb_6 := Lib.hid (HWb.out.kept hb)
      clear HWb HIb HOb HWa_4 HIa_4 HOa_4 HJ_4 HI_4 HX_4 HQ_4 HB_4
      clear hb
      have W2 : IntKind.i64.wrap (n + 1) = n + 1 := IntWalk.i64_in _ (by omega)
      have hNT : NT ≤ 4194304 := HJ_6.out.2.1
      have HKL0 : Hid (L6.map keyI = L.map keyI ++ rstK n us tx (TT.drop 0)) := Lib.hid (by rw [HKA.out, List.drop_zero]; unfold rstK; rw [if_neg (letB_parts HLB.out).2.1])
      have HTL : Hid (TT.length = NT) := Lib.hid HJ_6.out.1
      obtain ⟨B0, hB0⟩ : ∃ B0, w2.heap.size = B0 := ⟨_, rfl⟩
      have HW0 := HWa_6.out
      rw [hB0] at HW0
      have HB0 : Hid (B0 ≤ u5x.heap.size) := Lib.hid (by
        rcases Nat.lt_or_ge u5x.heap.size B0 with h | h
        · obtain ⟨g6, e6⟩ := own6 HIa_6.out (by omega)
          have h1 := World.ownsRow.lt HW0.1 g6.block (by rw [e6]; rfl)
          omega
        · exact h)
      have HW1 := Lib.hid HW0
      obtain ⟨Dy, hDy⟩ : ∃ Dy, u5x.heap.size = Dy := ⟨_, rfl⟩
      obtain ⟨wy, hwy⟩ : ∃ wy, u5x.alloc (.cells #[.int .i64 (n + 1), .slice A6 (N + 1) c6] 31) = wy := ⟨_, rfl⟩
      have hby : Below u5x.heap.size u5x wy := by rw [← hwy]; exact below_new _ _
      have HWY := Lib.hid (show Whole wy Dy 31 #[.int .i64 (n + 1), .slice A6 (N + 1) c6] by rw [← hwy, ← hDy]; exact Whole.made _ _ _)
      have HOY := Lib.hid (HW1.out.kept hby)
      have HBY := Lib.hid hby
      have HDY := Lib.hid hDy
      clear hby HW0 hB0
      have cHOa0 := HOa_6.out.cell 0
      have cHOa1 := HOa_6.out.cell 1
      simp only [List.getElem?_toArray, List.getElem?_cons_zero, List.getElem?_cons_succ] at cHOa0 cHOa1
      go_wp2
      go_loopw [10] (fun iv wr => ∃ (k : Nat) (Ay : Option Addr) (Ny cy : Nat) (M : List QI), k ≤ NT ∧ iv = .int .i64 (k : Int) ∧ Hid (Below u5x.heap.size u5x wr) ∧ Hid (Whole wr Dy 31 #[.int .i64 (n + 1), .slice Ay Ny cy]) ∧ Hid (OwnQ wr B0 Ay Ny cy M) ∧ Hid (M.map keyI = L.map keyI ++ rstK n us tx (TT.drop k))) (fun iv _ => NT - (intOf iv).toNat)
      case atStart => exact ⟨0, A6, N + 1, c6, L6, Nat.zero_le _, by go_num, HBY, HWY, HOY, HKL0⟩
      case round =>
        clear cHOa0 cHOa1
        obtain ⟨k, Ay, Ny, cy, M, hk, rfl, KB, KY, KO, KK⟩ := hrel
        clear hwy hDy
        have hbr := KB.out
        have HB_7 := Lib.hid (HB_6.out.trans (hbr.mono HB_6.out.size))
        have HQ_7 := Lib.hid (HQ_6.out.below hbr HQ_6.out.lt)
        have HX_7 := Lib.hid (HX_6.out.below hbr HX_6.out.lt)
        have HI_7 := Lib.hid (HI_6.out.below hbr (Nat.le_refl _))
        have HJ_7 := Lib.hid (HJ_6.out.below hbr (Nat.le_refl _))
        have HOa_7 := Lib.hid (HOa_6.out.below hbr HOa_6.out.lt)
        have HIa_7 := Lib.hid (HIa_6.out.below hbr (Nat.le_refl _))
        have HWa_7 := Lib.hid (HWa_6.out.kept hbr)
        have HOb_7 := Lib.hid (HOb_6.out.below hbr HOb_6.out.lt)
        have HIb_7 := Lib.hid (HIb_6.out.below hbr (Nat.le_refl _))
        have HWb_7 := Lib.hid (HWb_6.out.kept hbr)
        clear hbr
        have hML : M.length ≤ 1000 := by
          have h1 := congrArg List.length KK.out
          rw [List.length_map, List.length_append, List.length_map] at h1
          have h2 : (rstK n us tx (TT.drop k)).length ≤ 1 := by unfold rstK; split <;> simp
          have := HL.out
          omega
        have hMS : smQ (M.map keyI) := by rw [KK.out]; exact rst_sm HSQ.out HZK.out
        have KI := Lib.hid (KO.out.qinS hMS hML)
        have HNy := Lib.hid KO.out.1.len.1
        clear hML hMS
        by_cases hlt : k < NT
        · have h0 : (0 : Int) ≤ (k : Int) := by omega
          have h5 : (k : Int) < (NT : Int) := by omega
          obtain ⟨u, hx⟩ : ∃ x, TT[k]? = some x := ⟨_, List.getElem?_eq_getElem (by rw [HTL.out]; exact hlt)⟩
          obtain ⟨hs1, hs2, hs3, hs4⟩ := all_step HV.out HLB.out HL6.out (by omega) KK.out hx
          have HS1 := Lib.hid hs1
          have HS2 := Lib.hid hs2
          have HS3 := Lib.hid hs3
          have HS4 := Lib.hid hs4
          obtain ⟨bu, ou, hAT, hbu, x0⟩ := str_at HJ_7.out.2.2.1 hx
          subst hAT
          clear hx hs1 hs2 hs3 hs4
          have cHQ0 := HQ_7.out.cell 0
          have cHQ1 := HQ_7.out.cell 1
          have cHX0 := HX_7.out.cell 0
          have cHX1 := HX_7.out.cell 1
          have cHX2 := HX_7.out.cell 2
          simp only [List.getElem?_toArray, List.getElem?_cons_zero, List.getElem?_cons_succ] at cHQ0 cHQ1 cHX0 cHX1 cHX2
          have y0 := KY.out.cell 0
          have y1 := KY.out.cell 1
          simp only [List.getElem?_toArray, List.getElem?_cons_zero, List.getElem?_cons_succ] at y0 y1
          go_upto_region 12 with fail
          go_cut [11, 12, 13] (fun s11 s12 s13 wx => ∃ (F : Nat) (A' : Option Addr) (N' c' : Nat) (M' : List QI), s11 = .pointer (some ⟨F, 0, none⟩) ∧ s12 = .string tx ∧ s13 = .bool true ∧ Hid (Below wr.heap.size wr wx) ∧ Hid (Whole wx F 31 #[.int .i64 (n + 1), .slice A' N' c']) ∧ Hid (OwnQ wx B0 A' N' c' M') ∧ Hid (M'.map keyI = L.map keyI ++ rstK n us tx (TT.drop (k + 1))))
          case first =>
            refine wp_region_late (fun w' => w'.cell? ⟨Dy, 0, none⟩ = some (.int .i64 (n + 1)) ∧ w'.cell? ⟨Dy, 1, none⟩ = some (.slice Ay Ny cy) ∧ w'.cell? ⟨D, 0, none⟩ = some (.int .i64 n) ∧ w'.cell? ⟨D + 1, 1, none⟩ = some (.slice (some ⟨bu, ou, none⟩) NT cT) ∧ w'.cell? ⟨bu, ou + k, none⟩ = some (.string u)) 16 (by kernel_rfl) ?_
            have CS : ∀ wx, Below wr.heap.size wr wx → (fun w' => w'.cell? ⟨Dy, 0, none⟩ = some (.int .i64 (n + 1)) ∧ w'.cell? ⟨Dy, 1, none⟩ = some (.slice Ay Ny cy) ∧ w'.cell? ⟨D, 0, none⟩ = some (.int .i64 n) ∧ w'.cell? ⟨D + 1, 1, none⟩ = some (.slice (some ⟨bu, ou, none⟩) NT cT) ∧ w'.cell? ⟨bu, ou + k, none⟩ = some (.string u)) wx := fun wx hbx => ⟨(hbx.cell (p := ⟨Dy, 0, none⟩) KY.out.lt).trans y0, (hbx.cell (p := ⟨Dy, 1, none⟩) KY.out.lt).trans y1, (hbx.cell (p := ⟨D, 0, none⟩) HQ_7.out.lt).trans cHQ0, (hbx.cell (p := ⟨D + 1, 1, none⟩) HX_7.out.lt).trans cHX1, (hbx.cell (p := ⟨bu, ou + k, none⟩) hbu).trans x0⟩
            have HBd : Hid (Below wr.heap.size wr wr.drew) := Lib.hid (below_drew1 wr)
            revert HBd
            generalize wr.drew = wd
            intro HBd
            have hcd := CS _ HBd.out
            refine wpLate_take (i := 0) (v := ?v0) rfl (by kernel_rfl) (by kernel_rfl) (by kernel_rfl) (by kernel_rfl) (by kernel_rfl) (fun _ _ _ h => h) hcd (by rfl) ?hy0 ?r0
            case hy0 =>
              rintro wz ⟨z0, z1, z2, z3, z4⟩
              go_simp
              try with_reducible rfl
            try simp only [Act.put]
            refine wpLate_take (i := 1) (v := ?v1) rfl (by kernel_rfl) (by kernel_rfl) (by kernel_rfl) (by kernel_rfl) (by kernel_rfl) (fun _ _ _ h => h) hcd (by rfl) ?hy1 ?r1
            case hy1 =>
              rintro wz ⟨z0, z1, z2, z3, z4⟩
              go_simp
              try with_reducible rfl
            try simp only [Act.put]
            refine wpLate_take (i := 2) (v := ?v2) rfl (by kernel_rfl) (by kernel_rfl) (by kernel_rfl) (by kernel_rfl) (by kernel_rfl) (fun _ _ _ h => h) hcd (by rfl) ?hy2 ?r2
            case hy2 =>
              rintro wz ⟨z0, z1, z2, z3, z4⟩
              go_simp
              try with_reducible rfl
            try simp only [Act.put]
            refine wpLate_take (i := 3) (v := ?v3) rfl (by kernel_rfl) (by kernel_rfl) (by kernel_rfl) (by kernel_rfl) (by kernel_rfl) (fun _ _ _ h => h) hcd (by rfl) ?hy3 ?r3
            case hy3 =>
              rintro wz ⟨z0, z1, z2, z3, z4⟩
              go_simp
              try with_reducible rfl
            try simp only [Act.put]
            refine wpLate_take (i := 4) (v := ?v4) rfl (by kernel_rfl) (by kernel_rfl) (by kernel_rfl) (by kernel_rfl) (by kernel_rfl) (fun _ _ _ h => h) hcd (by rfl) ?hy4 ?r4
            case hy4 =>
              rintro wz ⟨z0, z1, z2, z3, z4⟩
              go_simp
              try with_reducible rfl
            try simp only [Act.put]
            refine wpLate_take (i := 5) (v := ?v5) rfl (by kernel_rfl) (by kernel_rfl) (by kernel_rfl) (by kernel_rfl) (by kernel_rfl) (fun _ _ _ h => h) hcd (by rfl) ?hy5 ?r5
            case hy5 =>
              rintro wz ⟨z0, z1, z2, z3, z4⟩
              go_simp
              try with_reducible rfl
            try simp only [Act.put]
            refine wpLate_take (i := 6) (v := ?v6) rfl (by kernel_rfl) (by kernel_rfl) (by kernel_rfl) (by kernel_rfl) (by kernel_rfl) (fun _ _ _ h => h) hcd (by rfl) ?hy6 ?r6
            case hy6 =>
              rintro wz ⟨z0, z1, z2, z3, z4⟩
              go_simp
              try with_reducible rfl
            try simp only [Act.put]
            refine wpLate_take (i := 7) (v := ?v7) rfl (by kernel_rfl) (by kernel_rfl) (by kernel_rfl) (by kernel_rfl) (by kernel_rfl) (fun _ _ _ h => h) hcd (by rfl) ?hy7 ?r7
            case hy7 =>
              rintro wz ⟨z0, z1, z2, z3, z4⟩
              go_simp
              try with_reducible rfl
            try simp only [Act.put]

            refine wpLate_two (i := 8) (k := 13) (by kernel_rfl) rfl rfl (fun K hK => ?xa) (fun K hK => ?ya)
            case xa =>
              go_simp
              have HCA := impl_queuetake (n := n + 1) n u wd (KI.out.below HBd.out (Nat.le_refl _))
              rw [HS1.out, HS2.out, HS3.out, HS4.out] at HCA
              refine HCA.mono ?_
              rintro e w4 ⟨A8, N8, c8, M8, rfl, ho8, hk8, hb8⟩
              have HBp := Lib.hid (HBd.out.trans (hb8.mono HBd.out.size))
              have HOp := Lib.hid (ho8.from (show B0 ≤ wd.heap.size from Nat.le_trans (Nat.le_trans HB0.out KB.out.size) HBd.out.size))
              have HKp := Lib.hid hk8
              have hcp := CS _ HBp.out
              clear HCA ho8 hk8 hb8
              refine hK.out _ _ (fun _ => hcp) ?_
              clear hK K
              try simp only [Act.put]
              refine wpLate_take (i := 9) (v := ?v9p) rfl (by kernel_rfl) (by kernel_rfl) (by kernel_rfl) (by kernel_rfl) (by kernel_rfl) (fun _ _ _ h => h) hcp (by rfl) ?hy9p ?r9p
              case hy9p =>
                rintro wz ⟨z0, z1, z2, z3, z4⟩
                go_simp
                try with_reducible rfl
              try simp only [Act.put]
              refine wpLate_take (i := 10) (v := ?v10p) rfl (by kernel_rfl) (by kernel_rfl) (by kernel_rfl) (by kernel_rfl) (by kernel_rfl) (fun _ _ _ h => h) hcp (by rfl) ?hy10p ?r10p
              case hy10p =>
                rintro wz ⟨z0, z1, z2, z3, z4⟩
                go_simp
                try with_reducible rfl
              try simp only [Act.put]
              refine wpLate_take (i := 11) (v := ?v11p) rfl (by kernel_rfl) (by kernel_rfl) (by kernel_rfl) (by kernel_rfl) (by kernel_rfl) (fun _ _ _ h => h) hcp (by rfl) ?hy11p ?r11p
              case hy11p =>
                rintro wz ⟨z0, z1, z2, z3, z4⟩
                go_simp
                try with_reducible rfl
              try simp only [Act.put]
              refine wpLate_take (i := 12) (v := ?v12p) rfl (by kernel_rfl) (by kernel_rfl) (by kernel_rfl) (by kernel_rfl) (by kernel_rfl) (fun _ _ _ h => h) hcp (by rfl) ?hy12p ?r12p
              case hy12p =>
                rintro wz ⟨z0, z1, z2, z3, z4⟩
                go_simp
                try with_reducible rfl
              try simp only [Act.put]
              obtain ⟨F, hF⟩ : ∃ F, w4.heap.size = F := ⟨_, rfl⟩
              obtain ⟨wc, hwc⟩ : ∃ wc, w4.alloc (.cells #[.int .i64 0, .slice none 0 0] 31) = wc := ⟨_, rfl⟩
              have hbc : Below w4.heap.size w4 wc := by rw [← hwc]; exact below_newq w4 _ _
              have HBc := Lib.hid (HBp.out.trans (hbc.mono HBp.out.size))
              have HFc := Lib.hid (show Whole wc F 31 #[.int .i64 0, .slice none 0 0] by rw [← hwc, ← hF]; exact Whole.made _ _ _)
              have HFL : Hid (wr.heap.size ≤ F) := Lib.hid (by rw [← hF]; exact HBp.out.size)
              have hcc := CS _ HBc.out
              have HOc := Lib.hid (HOp.out.kept hbc)
              clear hbc
              refine wpLate_one (i := 13) (by kernel_rfl) rfl (fun K hK => ?_)
              go_simp
              refine hK.out _ _ (fun _ => hcc) ?_
              clear hK K
              try simp only [Act.put]
              clear hwc hF
              have HBs := Lib.hid (show Below wr.heap.size wr ((wc.setCell ⟨F, 0, none⟩ (.int .i64 (n + 1))).setCell ⟨F, 1, none⟩ (.slice A8 N8 c8)) from ((HBc.out.setCell (p := ⟨F, 0, none⟩) HFL.out _).setCell (p := ⟨F, 1, none⟩) HFL.out _))
              have HFs : Hid (Whole ((wc.setCell ⟨F, 0, none⟩ (.int .i64 (n + 1))).setCell ⟨F, 1, none⟩ (.slice A8 N8 c8)) F 31 #[.int .i64 (n + 1), .slice A8 N8 c8]) := Lib.hid ((HFc.out.store 0 _).store 1 _)
              have HOs : Hid (OwnQ ((wc.setCell ⟨F, 0, none⟩ (.int .i64 (n + 1))).setCell ⟨F, 1, none⟩ (.slice A8 N8 c8)) B0 A8 N8 c8 M8) := Lib.hid ((HOc.out.storeT HFc.out (by decide) (by decide) _).storeT (HFc.out.store 0 _) (by decide) (by decide) _)
              have f0 := HFc.out.cell 0
              have f1 := HFc.out.cell 1
              have g0 := HFc.out.free 0
              have g1 := HFc.out.free 1
              simp only [List.getElem?_toArray, List.getElem?_cons_zero, List.getElem?_cons_succ] at f0 f1
              have hcs := CS _ HBs.out
              refine wpLate_one (i := 14) (by kernel_rfl) rfl (fun K hK => ?_)
              go_simp
              refine hK.out _ _ (fun _ => hcs) ?_
              clear hK K
              try simp only [Act.put]
              refine wpLate_one (i := 15) (by kernel_rfl) rfl (fun K hK => ?_)
              go_simp
              refine hK.out _ _ (fun _ => hcs) ?_
              clear hK K
              try simp only [Act.put]
              refine wpLate_one (i := 16) (by kernel_rfl) rfl (fun K hK => ?_)
              go_simp
              refine hK.out _ _ (fun h => absurd rfl h) ?_
              clear hK K
              try simp only [Act.put]
              refine wpLate_done (by kernel_rfl) ?_ _
              go_wp2_with fail
              go_meet
              case rel => exact ⟨F, A8, N8, c8, M8, rfl, rfl, rfl, HBs, HFs, HOs, HKp⟩
            case ya =>
              obtain ⟨F, hF⟩ : ∃ F, wd.heap.size = F := ⟨_, rfl⟩
              obtain ⟨wc, hwc⟩ : ∃ wc, wd.alloc (.cells #[.int .i64 0, .slice none 0 0] 31) = wc := ⟨_, rfl⟩
              have hbc : Below wd.heap.size wd wc := by rw [← hwc]; exact below_newq wd _ _
              have HBc := Lib.hid (HBd.out.trans (hbc.mono HBd.out.size))
              have HFc := Lib.hid (show Whole wc F 31 #[.int .i64 0, .slice none 0 0] by rw [← hwc, ← hF]; exact Whole.made _ _ _)
              have HFL : Hid (wr.heap.size ≤ F) := Lib.hid (by rw [← hF]; exact HBd.out.size)
              have hcc := CS _ HBc.out
              clear hbc
              go_simp
              refine hK.out _ _ (fun _ => hcc) ?_
              clear hK K
              try simp only [Act.put]
              clear hwc hF
              refine wpLate_one (i := 8) (by kernel_rfl) rfl (fun K hK => ?_)
              go_simp
              have HCA := impl_queuetake (n := n + 1) n u wc (KI.out.below HBc.out (Nat.le_refl _))
              rw [HS1.out, HS2.out, HS3.out, HS4.out] at HCA
              refine HCA.mono ?_
              rintro e w6 ⟨A8, N8, c8, M8, rfl, ho8, hk8, hb8⟩
              have HBq := Lib.hid (HBc.out.trans (hb8.mono HBc.out.size))
              have HOq := Lib.hid (ho8.from (show B0 ≤ wc.heap.size from Nat.le_trans (Nat.le_trans HB0.out KB.out.size) HBc.out.size))
              have HKq := Lib.hid hk8
              have hcq := CS _ HBq.out
              have hbq := hb8
              clear HCA ho8 hk8 hb8
              have HFq := Lib.hid (HFc.out.below (show Below wc.heap.size wc w6 from hbq) HFc.out.lt)
              clear hbq
              refine hK.out _ _ (fun _ => hcq) ?_
              clear hK K
              try simp only [Act.put]
              refine wpLate_take (i := 9) (v := ?v9r) rfl (by kernel_rfl) (by kernel_rfl) (by kernel_rfl) (by kernel_rfl) (by kernel_rfl) (fun _ _ _ h => h) hcq (by rfl) ?hy9r ?r9r
              case hy9r =>
                rintro wz ⟨z0, z1, z2, z3, z4⟩
                go_simp
                try with_reducible rfl
              try simp only [Act.put]
              refine wpLate_take (i := 10) (v := ?v10r) rfl (by kernel_rfl) (by kernel_rfl) (by kernel_rfl) (by kernel_rfl) (by kernel_rfl) (fun _ _ _ h => h) hcq (by rfl) ?hy10r ?r10r
              case hy10r =>
                rintro wz ⟨z0, z1, z2, z3, z4⟩
                go_simp
                try with_reducible rfl
              try simp only [Act.put]
              refine wpLate_take (i := 11) (v := ?v11r) rfl (by kernel_rfl) (by kernel_rfl) (by kernel_rfl) (by kernel_rfl) (by kernel_rfl) (fun _ _ _ h => h) hcq (by rfl) ?hy11r ?r11r
              case hy11r =>
                rintro wz ⟨z0, z1, z2, z3, z4⟩
                go_simp
                try with_reducible rfl
              try simp only [Act.put]
              refine wpLate_take (i := 12) (v := ?v12r) rfl (by kernel_rfl) (by kernel_rfl) (by kernel_rfl) (by kernel_rfl) (by kernel_rfl) (fun _ _ _ h => h) hcq (by rfl) ?hy12r ?r12r
              case hy12r =>
                rintro wz ⟨z0, z1, z2, z3, z4⟩
                go_simp
                try with_reducible rfl
              try simp only [Act.put]
              have HBs := Lib.hid (show Below wr.heap.size wr ((w6.setCell ⟨F, 0, none⟩ (.int .i64 (n + 1))).setCell ⟨F, 1, none⟩ (.slice A8 N8 c8)) from ((HBq.out.setCell (p := ⟨F, 0, none⟩) HFL.out _).setCell (p := ⟨F, 1, none⟩) HFL.out _))
              have HFs : Hid (Whole ((w6.setCell ⟨F, 0, none⟩ (.int .i64 (n + 1))).setCell ⟨F, 1, none⟩ (.slice A8 N8 c8)) F 31 #[.int .i64 (n + 1), .slice A8 N8 c8]) := Lib.hid ((HFq.out.store 0 _).store 1 _)
              have HOs : Hid (OwnQ ((w6.setCell ⟨F, 0, none⟩ (.int .i64 (n + 1))).setCell ⟨F, 1, none⟩ (.slice A8 N8 c8)) B0 A8 N8 c8 M8) := Lib.hid ((HOq.out.storeT HFq.out (by decide) (by decide) _).storeT (HFq.out.store 0 _) (by decide) (by decide) _)
              have f0 := HFq.out.cell 0
              have f1 := HFq.out.cell 1
              have g0 := HFq.out.free 0
              have g1 := HFq.out.free 1
              simp only [List.getElem?_toArray, List.getElem?_cons_zero, List.getElem?_cons_succ] at f0 f1
              have hcs := CS _ HBs.out
              refine wpLate_one (i := 14) (by kernel_rfl) rfl (fun K hK => ?_)
              go_simp
              refine hK.out _ _ (fun _ => hcs) ?_
              clear hK K
              try simp only [Act.put]
              refine wpLate_one (i := 15) (by kernel_rfl) rfl (fun K hK => ?_)
              go_simp
              refine hK.out _ _ (fun _ => hcs) ?_
              clear hK K
              try simp only [Act.put]
              refine wpLate_one (i := 16) (by kernel_rfl) rfl (fun K hK => ?_)
              go_simp
              refine hK.out _ _ (fun h => absurd rfl h) ?_
              clear hK K
              try simp only [Act.put]
              refine wpLate_done (by kernel_rfl) ?_ _
              go_wp2_with fail
              go_meet
              case rel => exact ⟨F, A8, N8, c8, M8, rfl, rfl, rfl, HBs, HFs, HOs, HKq⟩
          case rest =>
            obtain ⟨F, A8, N8, c8, M8, rfl, rfl, rfl, KB8, KF8, KO8, KK8⟩ := hcut
            have hbx := KB8.out
            have KBx := Lib.hid (KB.out.trans (hbx.mono KB.out.size))
            have KYx := Lib.hid (KY.out.below hbx KY.out.lt)
            clear cHQ0 cHQ1 cHX0 cHX1 cHX2
            have HB_8 := Lib.hid (HB_7.out.trans (hbx.mono HB_7.out.size))
            have HQ_8 := Lib.hid (HQ_7.out.below hbx HQ_7.out.lt)
            have HX_8 := Lib.hid (HX_7.out.below hbx HX_7.out.lt)
            have HI_8 := Lib.hid (HI_7.out.below hbx (Nat.le_refl _))
            have HJ_8 := Lib.hid (HJ_7.out.below hbx (Nat.le_refl _))
            have HOa_8 := Lib.hid (HOa_7.out.below hbx HOa_7.out.lt)
            have HIa_8 := Lib.hid (HIa_7.out.below hbx (Nat.le_refl _))
            have HWa_8 := Lib.hid (HWa_7.out.kept hbx)
            have HOb_8 := Lib.hid (HOb_7.out.below hbx HOb_7.out.lt)
            have HIb_8 := Lib.hid (HIb_7.out.below hbx (Nat.le_refl _))
            have HWb_8 := Lib.hid (HWb_7.out.kept hbx)
            have cHX0 := HX_8.out.cell 0
            have cHX1 := HX_8.out.cell 1
            have cHX2 := HX_8.out.cell 2
            simp only [List.getElem?_toArray, List.getElem?_cons_zero, List.getElem?_cons_succ] at cHX0 cHX1 cHX2
            have f0 := KF8.out.cell 0
            have f1 := KF8.out.cell 1
            have g0 := KYx.out.cell 0
            have g1 := KYx.out.cell 1
            have g2 := KYx.out.free 0
            have g3 := KYx.out.free 1
            simp only [List.getElem?_toArray, List.getElem?_cons_zero, List.getElem?_cons_succ] at f0 f1 g0 g1
            have KYe := Lib.hid ((KYx.out.store 0 (.int .i64 (n + 1))).store 1 (.slice A8 N8 c8))
            have KOe := Lib.hid ((KO8.out.storeT KYx.out (by decide) (by decide) (.int .i64 (n + 1)) (k := 0)).storeT (KYx.out.store 0 (.int .i64 (n + 1))) (by decide) (by decide) (.slice A8 N8 c8) (k := 1))
            have hDle : u5x.heap.size ≤ Dy := Nat.le_of_eq HDY.out
            have KBe := Lib.hid ((KBx.out.setCell (p := ⟨Dy, 0, none⟩) hDle (.int .i64 (n + 1))).setCell (p := ⟨Dy, 1, none⟩) hDle (.slice A8 N8 c8))
            clear hbx hDle y0 y1 x0
            go_wp2
            go_roundw
            case rel => exact ⟨k + 1, A8, N8, c8, M8, by omega, by go_num, KBe, KYe, KOe, KK8⟩
            case measure => simp [intOf]; omega
        · have h5 : ¬ (k : Int) < (NT : Int) := by omega
          have HKE : Hid (M.map keyI = L.map keyI) := Lib.hid (by rw [KK.out, List.drop_of_length_le (by rw [HTL.out]; omega)]; simp [rstK])
          have hNyN : Ny = N := by have h1 := key_len HKE.out; have h2 := HNy.out; have h3 := HNL.out; omega
          subst hNyN
          have y0 := KY.out.cell 0
          have y1 := KY.out.cell 1
          simp only [List.getElem?_toArray, List.getElem?_cons_zero, List.getElem?_cons_succ] at y0 y1
          have cHQ0 := HQ_7.out.cell 0
          have cHQ1 := HQ_7.out.cell 1
          have cHX0 := HX_7.out.cell 0
          have cHX1 := HX_7.out.cell 1
          have cHX2 := HX_7.out.cell 2
          simp only [List.getElem?_toArray, List.getElem?_cons_zero, List.getElem?_cons_succ] at cHQ0 cHQ1 cHX0 cHX1 cHX2
          go_wp2_with fail
          refine (same_queue _ KI.out HI_7.out HKE.out).mono ?_
          rintro e ws ⟨rfl, hb⟩
          clear cHQ0 cHQ1 cHX0 cHX1 cHX2
          have HB_8 := Lib.hid (HB_7.out.trans (hb.mono HB_7.out.size))
          have HQ_8 := Lib.hid (HQ_7.out.below hb HQ_7.out.lt)
          have HX_8 := Lib.hid (HX_7.out.below hb HX_7.out.lt)
          have HI_8 := Lib.hid (HI_7.out.below hb (Nat.le_refl _))
          have HJ_8 := Lib.hid (HJ_7.out.below hb (Nat.le_refl _))
          have HOa_8 := Lib.hid (HOa_7.out.below hb HOa_7.out.lt)
          have HIa_8 := Lib.hid (HIa_7.out.below hb (Nat.le_refl _))
          have HWa_8 := Lib.hid (HWa_7.out.kept hb)
          have HOb_8 := Lib.hid (HOb_7.out.below hb HOb_7.out.lt)
          have HIb_8 := Lib.hid (HIb_7.out.below hb (Nat.le_refl _))
          have HWb_8 := Lib.hid (HWb_7.out.kept hb)
          clear hb
          go_wp2
          go_ret
          exact ⟨rfl, HB_8.out⟩
  · have hlenI : (1048576 : Int) < (len : Int) := by omega
    go_enter Try.func12, Try.ntmps12
    go_wp2
    go_ret
    exact ⟨rfl, Below.refl _ _⟩
end Go.Proofs.Ytinbdibenbplnaa
