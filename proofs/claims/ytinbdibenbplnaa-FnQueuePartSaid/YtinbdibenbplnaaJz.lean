/-
  The walks of the laws FnQueueAddLeft. Condition: the code can be read.
-/
import Derived.Test.YtinbdibenbplnaaQi
namespace Go.Proofs.Ytinbdibenbplnaa
open Go.RowKit
set_option linter.unusedVariables false

def SMB : List ByteArray := [⟨#[97, 109, 121]⟩, ⟨#[98, 111, 98]⟩, ⟨#[99, 121, 100]⟩, ⟨#[100, 97, 110]⟩]
set_option maxHeartbeats 1000000 in
theorem some_body (w : World) : Calls Try.prog 26 #[] w fun e w' => ∃ v, e = .returned v ∧ ROwn stR w' w.heap.size v SMB ∧ Below w.heap.size w w' := by
  have HO := Lib.hid (show ROwn stR (w.alloc (.cells #[.string ⟨#[97, 109, 121]⟩, .string ⟨#[98, 111, 98]⟩, .string ⟨#[99, 121, 100]⟩, .string ⟨#[100, 97, 110]⟩] 9)) w.heap.size (.slice (some ⟨w.heap.size, 0, none⟩) 4 4) SMB from World.ownsRow_lit w #[.string ⟨#[97, 109, 121]⟩, .string ⟨#[98, 111, 98]⟩, .string ⟨#[99, 121, 100]⟩, .string ⟨#[100, 97, 110]⟩] 4 (Nat.le_refl _) (by unfold maxLen; omega) rfl)
  have HB := Lib.hid (below_new w (.cells #[.string ⟨#[97, 109, 121]⟩, .string ⟨#[98, 111, 98]⟩, .string ⟨#[99, 121, 100]⟩, .string ⟨#[100, 97, 110]⟩] 9))
  go_enter Try.func26, Try.ntmps26
  go_wp2
  go_ret
  exact ⟨_, rfl, HO.out, HB.out⟩
theorem cnt_snoc (u : ByteArray) (L : List QI) (g : QI) : cntQ u (L ++ [g]) = cntQ u L + (if decide (u ∈ g.T) then 1 else 0) := by
  have h := cntQ_take (u := u) (L := L ++ [g]) (k := L.length) (g := g) (by simp) rfl
  rw [List.take_of_length_le (by simp), List.take_append_of_le_length (Nat.le_refl _), List.take_length] at h
  exact h
theorem left_add {n : Int} {L M : List QI} {us tx : ByteArray} {T : List ByteArray} (u : ByteArray) (hv : vQ n L = true) (hl : letB us T tx = true) (h6 : L.length < 6) (h9 : n ≤ 99) (hk : M.map keyI = L.map keyI ++ [(n, us, tx, T)]) :
    leftQ u n L = (cntQ u L : Int) ∧ leftQ u (n + 1) M = ((cntQ u L + (if decide (u ∈ T) then 1 else 0) : Nat) : Int) := by
  have h1 := add_valid hv hl h6 h9 hk
  have hM : M.map keyI = (L ++ [(⟨n, us, tx, none, 0, 0, T⟩ : QI)]).map keyI := by rw [hk, List.map_append]; rfl
  refine ⟨by unfold leftQ; rw [hv]; rfl, ?_⟩
  unfold leftQ
  rw [h1, if_pos rfl, cntQ_key hM, cnt_snoc]
set_option maxRecDepth 20000 in
set_option maxHeartbeats 8000000 in
theorem law_FnQueueAddLeft (A0 : Option Addr) (len cap0 : Nat) (w : World) (h : Coded w A0 len cap0) : Calls Try.prog 6 #[.slice A0 len cap0] w (Holds1 w) := by
  have HC := Lib.hid h
  clear h
  by_cases hlen : len ≤ 1048576
  · have hlenI : (len : Int) ≤ 1048576 := by omega
    have hlenJ : ¬ (1048576 : Int) < (len : Int) := by omega
    go_enter Try.func6, Try.ntmps6
    go_wp2_with fail
    refine (draw_qadd A0 len cap0 w HC.out).mono ?_
    rintro e w1 ⟨n, A, N, cap, L, us, tx, AT, NT, cT, TT, rfl, ho, hs, hl, ht, hus, htx, hTl, hTs, hb⟩
    have HL := Lib.hid hl
    have HNL := Lib.hid ho.1.len.1
    have hN8 : N ≤ 8 := by have := HNL.out; omega
    have HSQ := Lib.hid hs
    have HZK := Lib.hid (show smK (n, us, tx, TT) from ⟨hus, htx, hTl, hTs⟩)
    obtain ⟨D, hD⟩ : ∃ D, w1.heap.size = D := ⟨_, rfl⟩
    obtain ⟨w2, hw2⟩ : ∃ w2, ((w1.alloc (.cells #[.int .i64 n, .slice A N cap] 31)).alloc (.cells #[.string us, .slice AT NT cT, .string tx] 25)) = w2 := ⟨_, rfl⟩
    have e1 : (w1.alloc (.cells #[.int .i64 n, .slice A N cap] 31)).heap.size = D + 1 := by simp [hD]
    have hb2 : Below w1.heap.size w1 w2 := by rw [← hw2]; exact (below_new _ _).alloc (by simp) _
    have HB := Lib.hid (hb.trans (hb2.mono hb.size))
    have HQ := Lib.hid (show Whole w2 D 31 #[.int .i64 n, .slice A N cap] by rw [← hw2, ← hD]; exact (Whole.made _ _ _).alloc _)
    have HX := Lib.hid (show Whole w2 (D + 1) 25 #[.string us, .slice AT NT cT, .string tx] by rw [← hw2, ← e1]; exact Whole.made _ _ _)
    have HI := Lib.hid ((ho.qinS hs (by omega)).below hb2 (Nat.le_refl _))
    have HJ := Lib.hid ((SIn.made ht (by omega) (fun g hg => Nat.le_trans (hTs g hg) (by omega))).below hb2 (Nat.le_refl _))
    have HW2 := Lib.hid hw2
    have HDD := Lib.hid hD
    clear ho hs hl ht hTs hb hb2 e1 hw2 hD
    obtain ⟨n6, hn6⟩ : ∃ x, qaN n L us tx TT = x := ⟨_, rfl⟩
    obtain ⟨K6, hk6⟩ : ∃ x, qaK n L us tx TT = x := ⟨_, rfl⟩
    obtain ⟨ok6, ho6⟩ : ∃ x, qaO n L us tx TT = x := ⟨_, rfl⟩
    have HN6 := Lib.hid hn6
    have HK6 := Lib.hid hk6
    have HO6 := Lib.hid ho6
    have HSM6 : Hid (smQ K6) := Lib.hid (by rw [← hk6]; exact (qaK_sm HSQ.out HZK.out).1)
    have HLE6 : Hid (K6.length ≤ L.length + 1) := Lib.hid (by rw [← hk6]; exact (qaK_sm HSQ.out HZK.out).2)
    clear hn6 hk6 ho6
    have cHQ0 := HQ.out.cell 0
    have cHQ1 := HQ.out.cell 1
    have cHX0 := HX.out.cell 0
    have cHX1 := HX.out.cell 1
    have cHX2 := HX.out.cell 2
    simp only [List.getElem?_toArray, List.getElem?_cons_zero, List.getElem?_cons_succ] at cHQ0 cHQ1 cHX0 cHX1 cHX2
    go_wp2_with fail
    rw [HDD.out, HW2.out]
    have HCA := impl_queueadd (n := n) us tx TT AT NT cT w2 HI.out HJ.out (by omega)
    rw [HN6.out, HK6.out, HO6.out] at HCA
    refine HCA.mono ?_
    rintro e w3 ⟨A6, N6, c6, L6, rfl, ho3, hk3, hb3⟩
    clear HCA
    clear cHQ0 cHQ1 cHX0 cHX1 cHX2
    have HB_1 := Lib.hid (HB.out.trans (hb3.mono HB.out.size))
    have HQ_1 := Lib.hid (HQ.out.below hb3 HQ.out.lt)
    have HX_1 := Lib.hid (HX.out.below hb3 HX.out.lt)
    have HI_1 := Lib.hid (HI.out.below hb3 (Nat.le_refl _))
    have HJ_1 := Lib.hid (HJ.out.below hb3 (Nat.le_refl _))
    clear HJ HI HX HQ HB
    have hla : L6.length ≤ 1000 := by have h1 := HLE6.out; rw [← hk3, List.length_map] at h1; have := HL.out; omega
    have hia := ho3.qinS (by rw [hk3]; exact HSM6.out) hla
    have HKYa := Lib.hid hk3
    have HNa := Lib.hid ho3.1.len.1
    have HCa := Lib.hid ho3.1.len.2.1
    obtain ⟨D5, hD5⟩ : ∃ D, w3.heap.size = D := ⟨_, rfl⟩
    obtain ⟨w4, hw4⟩ : ∃ wn, w3.alloc (.cells #[.int .i64 n6, .slice A6 N6 c6] 31) = wn := ⟨_, rfl⟩
    have hbn : Below w3.heap.size w3 w4 := by rw [← hw4]; exact below_new _ _
    have HB_2 := Lib.hid (HB_1.out.trans (hbn.mono HB_1.out.size))
    have HQ_2 := Lib.hid (HQ_1.out.below hbn HQ_1.out.lt)
    have HX_2 := Lib.hid (HX_1.out.below hbn HX_1.out.lt)
    have HI_2 := Lib.hid (HI_1.out.below hbn (Nat.le_refl _))
    have HJ_2 := Lib.hid (HJ_1.out.below hbn (Nat.le_refl _))
    clear HJ_1 HI_1 HX_1 HQ_1 HB_1
    have HOa := Lib.hid (show Whole w4 D5 31 #[.int .i64 n6, .slice A6 N6 c6] by rw [← hw4, ← hD5]; exact Whole.made _ _ _)
    have HIa := Lib.hid (hia.below hbn (Nat.le_refl _))
    clear hla hia hbn ho3 hk3
    have cHQ0 := HQ_2.out.cell 0
    have cHQ1 := HQ_2.out.cell 1
    have cHX0 := HX_2.out.cell 0
    have cHX1 := HX_2.out.cell 1
    have cHX2 := HX_2.out.cell 2
    simp only [List.getElem?_toArray, List.getElem?_cons_zero, List.getElem?_cons_succ] at cHQ0 cHQ1 cHX0 cHX1 cHX2

    go_wp2_with fail
    have HCA := spec_queueadd (n := n) us tx TT AT NT cT w4 HI_2.out HJ_2.out (by omega)
    rw [HN6.out, HK6.out, HO6.out] at HCA
    refine HCA.mono ?_
    rintro e w5 ⟨A7, N7, c7, L7, rfl, ho5, hk5, hb5⟩
    clear HCA
    clear cHQ0 cHQ1 cHX0 cHX1 cHX2
    have HB_3 := Lib.hid (HB_2.out.trans (hb5.mono HB_2.out.size))
    have HQ_3 := Lib.hid (HQ_2.out.below hb5 HQ_2.out.lt)
    have HX_3 := Lib.hid (HX_2.out.below hb5 HX_2.out.lt)
    have HI_3 := Lib.hid (HI_2.out.below hb5 (Nat.le_refl _))
    have HJ_3 := Lib.hid (HJ_2.out.below hb5 (Nat.le_refl _))
    have HOa_3 := Lib.hid (HOa.out.below hb5 HOa.out.lt)
    have HIa_3 := Lib.hid (HIa.out.below hb5 (Nat.le_refl _))
    clear HIa HOa HJ_2 HI_2 HX_2 HQ_2 HB_2
    have hlb : L7.length ≤ 1000 := by have h1 := HLE6.out; rw [← hk5, List.length_map] at h1; have := HL.out; omega
    have hib := ho5.qinS (by rw [hk5]; exact HSM6.out) hlb
    have HKYb := Lib.hid hk5
    have HNb := Lib.hid ho5.1.len.1
    have HCb := Lib.hid ho5.1.len.2.1
    obtain ⟨D7, hD7⟩ : ∃ D, w5.heap.size = D := ⟨_, rfl⟩
    obtain ⟨w6, hw6⟩ : ∃ wn, w5.alloc (.cells #[.int .i64 n6, .slice A7 N7 c7] 31) = wn := ⟨_, rfl⟩
    have hbn : Below w5.heap.size w5 w6 := by rw [← hw6]; exact below_new _ _
    have HB_4 := Lib.hid (HB_3.out.trans (hbn.mono HB_3.out.size))
    have HQ_4 := Lib.hid (HQ_3.out.below hbn HQ_3.out.lt)
    have HX_4 := Lib.hid (HX_3.out.below hbn HX_3.out.lt)
    have HI_4 := Lib.hid (HI_3.out.below hbn (Nat.le_refl _))
    have HJ_4 := Lib.hid (HJ_3.out.below hbn (Nat.le_refl _))
    have HOa_4 := Lib.hid (HOa_3.out.below hbn HOa_3.out.lt)
    have HIa_4 := Lib.hid (HIa_3.out.below hbn (Nat.le_refl _))
    clear HIa_3 HOa_3 HJ_3 HI_3 HX_3 HQ_3 HB_3
    have HOb := Lib.hid (show Whole w6 D7 31 #[.int .i64 n6, .slice A7 N7 c7] by rw [← hw6, ← hD7]; exact Whole.made _ _ _)
    have HIb := Lib.hid (hib.below hbn (Nat.le_refl _))
    clear hlb hib hbn ho5 hk5
    have h67 : N6 = N7 := by have h1 := HNa.out; have h2 := HNb.out; have h3 := key_len (HKYa.out.trans HKYb.out.symm); omega
    subst h67
    have HE67 := Lib.hid (HKYa.out.trans HKYb.out.symm)
    clear hb3 hb5
    cases ok6 with
    | false =>
      have cHOa0 := HOa_4.out.cell 0
      have cHOa1 := HOa_4.out.cell 1
      have cHOb0 := HOb.out.cell 0
      have cHOb1 := HOb.out.cell 1
      simp only [List.getElem?_toArray, List.getElem?_cons_zero, List.getElem?_cons_succ] at cHOa0 cHOa1 cHOb0 cHOb1
      go_wp2_with fail
      refine (same_queue _ HIa_4.out HIb.out HE67.out).mono ?_
      rintro e u5x ⟨rfl, hb⟩
      clear cHOa0 cHOa1 cHOb0 cHOb1
      have HB_6 := Lib.hid (HB_4.out.trans (hb.mono HB_4.out.size))
      have HQ_6 := Lib.hid (HQ_4.out.below hb HQ_4.out.lt)
      have HX_6 := Lib.hid (HX_4.out.below hb HX_4.out.lt)
      have HI_6 := Lib.hid (HI_4.out.below hb (Nat.le_refl _))
      have HJ_6 := Lib.hid (HJ_4.out.below hb (Nat.le_refl _))
      have HOa_6 := Lib.hid (HOa_4.out.below hb HOa_4.out.lt)
      have HIa_6 := Lib.hid (HIa_4.out.below hb (Nat.le_refl _))
      have HOb_6 := Lib.hid (HOb.out.below hb HOb.out.lt)
      have HIb_6 := Lib.hid (HIb.out.below hb (Nat.le_refl _))
      clear HIb HOb HIa_4 HOa_4 HJ_4 HI_4 HX_4 HQ_4 HB_4
      clear hb
      have cHOa0 := HOa_6.out.cell 0
      have cHOa1 := HOa_6.out.cell 1
      have cHOb0 := HOb_6.out.cell 0
      have cHOb1 := HOb_6.out.cell 1
      simp only [List.getElem?_toArray, List.getElem?_cons_zero, List.getElem?_cons_succ] at cHOa0 cHOa1 cHOb0 cHOb1
      go_wp2_with fail
      refine (same_queue _ HIa_6.out HIb_6.out HE67.out).mono ?_
      rintro e u7x ⟨rfl, hb⟩
      clear cHOa0 cHOa1 cHOb0 cHOb1
      have HB_8 := Lib.hid (HB_6.out.trans (hb.mono HB_6.out.size))
      have HQ_8 := Lib.hid (HQ_6.out.below hb HQ_6.out.lt)
      have HX_8 := Lib.hid (HX_6.out.below hb HX_6.out.lt)
      have HI_8 := Lib.hid (HI_6.out.below hb (Nat.le_refl _))
      have HJ_8 := Lib.hid (HJ_6.out.below hb (Nat.le_refl _))
      have HOa_8 := Lib.hid (HOa_6.out.below hb HOa_6.out.lt)
      have HIa_8 := Lib.hid (HIa_6.out.below hb (Nat.le_refl _))
      have HOb_8 := Lib.hid (HOb_6.out.below hb HOb_6.out.lt)
      have HIb_8 := Lib.hid (HIb_6.out.below hb (Nat.le_refl _))
      clear HIb_6 HOb_6 HIa_6 HOa_6 HJ_6 HI_6 HX_6 HQ_6 HB_6
      clear hb
      go_wp2
      go_ret
      exact ⟨rfl, HB_8.out⟩
    | true =>
      obtain ⟨hv1, hv2, hv3, hv4, hv5, hv6⟩ := add_yes HO6.out
      have hn61 : n6 = n + 1 := HN6.out.symm.trans hv5
      subst hn61
      have HKA := Lib.hid (HKYa.out.trans (HK6.out.symm.trans hv6))
      have hn1 := vQ_low hv1
      have hNn : N6 = N + 1 := by have h1 := (add_last HKA.out).1; have h2 := HNa.out; have h3 := HNL.out; omega
      subst hNn
      have HV := Lib.hid hv1
      have HLB := Lib.hid hv2
      have HL6 := Lib.hid hv3
      clear hv1 hv2 hv3 hv5 hv6
      have cHOa0 := HOa_4.out.cell 0
      have cHOa1 := HOa_4.out.cell 1
      have cHOb0 := HOb.out.cell 0
      have cHOb1 := HOb.out.cell 1
      simp only [List.getElem?_toArray, List.getElem?_cons_zero, List.getElem?_cons_succ] at cHOa0 cHOa1 cHOb0 cHOb1
      go_wp2_with fail
      refine (same_queue _ HIa_4.out HIb.out HE67.out).mono ?_
      rintro e u5x ⟨rfl, hb⟩
      clear cHOa0 cHOa1 cHOb0 cHOb1
      have HB_6 := Lib.hid (HB_4.out.trans (hb.mono HB_4.out.size))
      have HQ_6 := Lib.hid (HQ_4.out.below hb HQ_4.out.lt)
      have HX_6 := Lib.hid (HX_4.out.below hb HX_4.out.lt)
      have HI_6 := Lib.hid (HI_4.out.below hb (Nat.le_refl _))
      have HJ_6 := Lib.hid (HJ_4.out.below hb (Nat.le_refl _))
      have HOa_6 := Lib.hid (HOa_4.out.below hb HOa_4.out.lt)
      have HIa_6 := Lib.hid (HIa_4.out.below hb (Nat.le_refl _))
      have HOb_6 := Lib.hid (HOb.out.below hb HOb.out.lt)
      have HIb_6 := Lib.hid (HIb.out.below hb (Nat.le_refl _))
      clear HIb HOb HIa_4 HOa_4 HJ_4 HI_4 HX_4 HQ_4 HB_4
      clear hb
      obtain ⟨i0, hi0, hq0, hq1, hq2⟩ := info_parts Try.infoString
      obtain ⟨ud, hud⟩ : ∃ ud, u5x.drew = ud := ⟨_, rfl⟩
      have hbd : Below u5x.heap.size u5x ud := by rw [← hud]; exact below_drew1 _
      have HUD := Lib.hid hud
      clear hud
      have HB_7 := Lib.hid (HB_6.out.trans (hbd.mono HB_6.out.size))
      have HQ_7 := Lib.hid (HQ_6.out.below hbd HQ_6.out.lt)
      have HX_7 := Lib.hid (HX_6.out.below hbd HX_6.out.lt)
      have HI_7 := Lib.hid (HI_6.out.below hbd (Nat.le_refl _))
      have HJ_7 := Lib.hid (HJ_6.out.below hbd (Nat.le_refl _))
      have HOa_7 := Lib.hid (HOa_6.out.below hbd HOa_6.out.lt)
      have HIa_7 := Lib.hid (HIa_6.out.below hbd (Nat.le_refl _))
      have HOb_7 := Lib.hid (HOb_6.out.below hbd HOb_6.out.lt)
      have HIb_7 := Lib.hid (HIb_6.out.below hbd (Nat.le_refl _))
      clear HIb_6 HOb_6 HIa_6 HOa_6 HJ_6 HI_6 HX_6 HQ_6 HB_6
      clear hbd
      have cHX0 := HX_7.out.cell 0
      have cHX1 := HX_7.out.cell 1
      have cHX2 := HX_7.out.cell 2
      simp only [List.getElem?_toArray, List.getElem?_cons_zero, List.getElem?_cons_succ] at cHX0 cHX1 cHX2
      go_upto_region 8 with fail
      refine wp_region_late (fun w' => w'.cell? ⟨D + 1, 1, none⟩ = some (.slice AT NT cT)) 4 (by kernel_rfl) ?_
      rw [HUD.out]
      refine wpLate_take (i := 1) (v := ?v1) rfl (by kernel_rfl) (by kernel_rfl) (by kernel_rfl) (by kernel_rfl) (by kernel_rfl) (fun _ _ _ h => h) cHX1 (by rfl) ?hy1 ?r1
      case hy1 =>
        rintro wz z0
        go_simp
        try with_reducible rfl
      try simp only [Act.put]
      refine wpLate_take (i := 2) (v := ?v2) rfl (by kernel_rfl) (by kernel_rfl) (by kernel_rfl) (by kernel_rfl) (by kernel_rfl) (fun _ _ _ h => h) cHX1 (by rfl) ?hy2 ?r2
      case hy2 =>
        rintro wz z0
        go_simp
        try with_reducible rfl
      try simp only [Act.put]
      refine wpLate_pure (i := 5) (v := ?v5) rfl (by kernel_rfl) (by kernel_rfl) (by kernel_rfl) (by decide) (fun _ _ _ h => h) cHX1 (by rfl) ?hy5 ?r5
      case hy5 =>
        intro wz
        go_simp
        try with_reducible rfl
      try simp only [Act.put]
      refine wpLate_one (i := 0) (by kernel_rfl) rfl (fun K hK => ?_)
      go_simp
      refine (some_body ud).mono ?_
      rintro e we ⟨v, rfl, hov, hbv⟩
      obtain ⟨Av, Nv, cv, rfl⟩ := hov.val
      have hNv : Nv = 4 := hov.len.1
      subst hNv
      have HOV := Lib.hid hov
      have HBV := Lib.hid hbv
      have HXv := Lib.hid (HX_7.out.below hbv HX_7.out.lt)
      have HJv := Lib.hid (HJ_7.out.below hbv (Nat.le_refl _))
      have xv1 := HXv.out.cell 1
      simp only [List.getElem?_toArray, List.getElem?_cons_succ] at xv1
      have hml : 4 + NT ≤ maxLen := by have := HJv.out.2.1; unfold maxLen; omega
      have hby : (4 + NT) * 16 ≤ 140737488355328 := by have := HJv.out.2.1; omega
      clear hov hbv
      refine hK.out _ _ (fun _ => xv1) ?_
      clear hK K
      try simp only [Act.put]
      refine wpLate_one (i := 3) (by kernel_rfl) rfl (fun K hK => ?_)
      refine step_append_rows rfl (.tmp 53) (.tmp 55) 23 rfl stR ud.heap.size i0 _ 16 Try.underlying23 hi0 hq0 hq1 hq2 rfl (by decide) _ SMB TT 4 rfl rfl HOV.out AT NT cT rfl HJv.out.1 HJv.out.2.2.1 HJv.out.2.2.2.1 HJv.out.2.2.2.2.1 hml hby HBV.out.size ?_
      intro v' wf hof hgf hnn
      obtain ⟨Af, Nf, cf, rfl⟩ := hof.val
      have hNf : Nf = 4 + NT := hof.len.1.trans (by rw [List.length_append, HJv.out.1]; rfl)
      subst hNf
      have HOF := Lib.hid hof
      have hbf : Below ud.heap.size ud wf := HBV.out.grown hgf HBV.out.size (fun z e => (World.ownsRow.lt HOV.out z e).1)
      have HXf := Lib.hid (HX_7.out.below hbf HX_7.out.lt)
      have xf1 := HXf.out.cell 1
      simp only [List.getElem?_toArray, List.getElem?_cons_succ] at xf1
      clear hof hgf hnn
      refine hK.out _ _ (fun _ => xf1) ?_
      clear hK K
      try simp only [Act.put]
      refine wpLate_one (i := 4) (by kernel_rfl) rfl (fun K hK => ?_)
      go_simp
      refine hK.out _ _ (fun h => absurd rfl h) ?_
      clear hK K
      try simp only [Act.put]
      refine wpLate_done (by kernel_rfl) ?_ _
      clear cHX0 cHX1 cHX2
      have HB_8 := Lib.hid (HB_7.out.trans (hbf.mono HB_7.out.size))
      have HQ_8 := Lib.hid (HQ_7.out.below hbf HQ_7.out.lt)
      have HX_8 := Lib.hid (HX_7.out.below hbf HX_7.out.lt)
      have HI_8 := Lib.hid (HI_7.out.below hbf (Nat.le_refl _))
      have HJ_8 := Lib.hid (HJ_7.out.below hbf (Nat.le_refl _))
      have HOa_8 := Lib.hid (HOa_7.out.below hbf HOa_7.out.lt)
      have HIa_8 := Lib.hid (HIa_7.out.below hbf (Nat.le_refl _))
      have HOb_8 := Lib.hid (HOb_7.out.below hbf HOb_7.out.lt)
      have HIb_8 := Lib.hid (HIb_7.out.below hbf (Nat.le_refl _))
      clear HIb_7 HOb_7 HIa_7 HOa_7 HJ_7 HI_7 HX_7 HQ_7 HB_7
      clear hbf xf1 xv1
      have HUL : Hid ((SMB ++ TT).length = 4 + NT) := Lib.hid (by rw [List.length_append, HJ_8.out.1]; rfl)
      have hNT : NT ≤ 4194304 := HJ_8.out.2.1
      have HRF := Lib.hid HOF.out.at
      obtain ⟨M4, hM4⟩ : ∃ M, 4 + NT = M := ⟨_, rfl⟩
      have hM5 : M4 ≤ 5000000 := by omega
      have h4i : (4 : Int) + (NT : Int) = (M4 : Int) := by omega
      rw [hM4] at HUL
      try rw [hM4]
      try rw [h4i]
      clear hM4
      go_wp2
      go_loopw [58] (fun iv wr => ∃ k : Nat, k ≤ M4 ∧ iv = .int .i64 (k : Int) ∧ Hid (Below wf.heap.size wf wr)) (fun iv _ => M4 - (intOf iv).toNat)
      case atStart => exact ⟨0, Nat.zero_le _, by go_num, Below.refl _ _⟩
      case round =>
        obtain ⟨k, hk, rfl, KB⟩ := hrel
        have hbr := KB.out
        have HB_9 := Lib.hid (HB_8.out.trans (hbr.mono HB_8.out.size))
        have HQ_9 := Lib.hid (HQ_8.out.below hbr HQ_8.out.lt)
        have HX_9 := Lib.hid (HX_8.out.below hbr HX_8.out.lt)
        have HI_9 := Lib.hid (HI_8.out.below hbr (Nat.le_refl _))
        have HJ_9 := Lib.hid (HJ_8.out.below hbr (Nat.le_refl _))
        have HOa_9 := Lib.hid (HOa_8.out.below hbr HOa_8.out.lt)
        have HIa_9 := Lib.hid (HIa_8.out.below hbr (Nat.le_refl _))
        have HOb_9 := Lib.hid (HOb_8.out.below hbr HOb_8.out.lt)
        have HIb_9 := Lib.hid (HIb_8.out.below hbr (Nat.le_refl _))
        clear hbr
        by_cases hlt : k < M4
        · have h0 : (0 : Int) ≤ (k : Int) := by omega
          have h5 : (k : Int) < (M4 : Int) := by omega
          obtain ⟨u, hx⟩ : ∃ x, (SMB ++ TT)[k]? = some x := ⟨_, List.getElem?_eq_getElem (by rw [HUL.out]; exact hlt)⟩
          obtain ⟨bu, ou, rfl, hbu, x0⟩ := str_at (HRF.out.below KB.out (Nat.le_refl _)) hx
          obtain ⟨hA1, hA2⟩ := left_add u HV.out HLB.out HL6.out (by omega) HKA.out
          have HA1 := Lib.hid hA1
          have hc8 : cntQ u L ≤ 8 := Nat.le_trans (cntQ_le u L) HL.out
          have W1 : IntKind.i64.wrap ((cntQ u L : Int) + 1) = (cntQ u L : Int) + 1 := IntWalk.i64_in _ (by omega)
          clear hx hA1
          have cHQ0 := HQ_9.out.cell 0
          have cHQ1 := HQ_9.out.cell 1
          have cHX0 := HX_9.out.cell 0
          have cHX1 := HX_9.out.cell 1
          have cHX2 := HX_9.out.cell 2
          have cHOa0 := HOa_9.out.cell 0
          have cHOa1 := HOa_9.out.cell 1
          simp only [List.getElem?_toArray, List.getElem?_cons_zero, List.getElem?_cons_succ] at cHQ0 cHQ1 cHX0 cHX1 cHX2 cHOa0 cHOa1
          go_wp2_with fail
          refine (iql_at HA1.out wr HI_9.out).mono ?_
          rintro e wg ⟨rfl, hb⟩
          have KB1 := Lib.hid (KB.out.trans (hb.mono KB.out.size))
          clear cHQ0 cHQ1 cHX0 cHX1 cHX2 cHOa0 cHOa1
          have HB_10 := Lib.hid (HB_9.out.trans (hb.mono HB_9.out.size))
          have HQ_10 := Lib.hid (HQ_9.out.below hb HQ_9.out.lt)
          have HX_10 := Lib.hid (HX_9.out.below hb HX_9.out.lt)
          have HI_10 := Lib.hid (HI_9.out.below hb (Nat.le_refl _))
          have HJ_10 := Lib.hid (HJ_9.out.below hb (Nat.le_refl _))
          have HOa_10 := Lib.hid (HOa_9.out.below hb HOa_9.out.lt)
          have HIa_10 := Lib.hid (HIa_9.out.below hb (Nat.le_refl _))
          have HOb_10 := Lib.hid (HOb_9.out.below hb HOb_9.out.lt)
          have HIb_10 := Lib.hid (HIb_9.out.below hb (Nat.le_refl _))
          clear hb
          have cHQ0 := HQ_10.out.cell 0
          have cHQ1 := HQ_10.out.cell 1
          have cHX0 := HX_10.out.cell 0
          have cHX1 := HX_10.out.cell 1
          have cHX2 := HX_10.out.cell 2
          have cHOa0 := HOa_10.out.cell 0
          have cHOa1 := HOa_10.out.cell 1
          simp only [List.getElem?_toArray, List.getElem?_cons_zero, List.getElem?_cons_succ] at cHQ0 cHQ1 cHX0 cHX1 cHX2 cHOa0 cHOa1
          cases hm : decide (u ∈ TT) with
          | false =>
            have HM := Lib.hid hm
            have HA2 : Hid (leftQ u (n + 1) L6 = (cntQ u L : Int)) := Lib.hid (by rw [hA2, hm]; simp)
            have hne : (((cntQ u L : Int)) != ((cntQ u L : Int))) = false := by simp
            clear hm hA2
            go_wp2_with fail
            have HCA := has_name AT NT cT TT u wg HJ_10.out
            rw [HM.out] at HCA
            refine HCA.mono ?_
            rintro e wh ⟨rfl, hb⟩
            have KB2 := Lib.hid (KB1.out.trans (hb.mono KB1.out.size))
            clear HCA
            clear cHQ0 cHQ1 cHX0 cHX1 cHX2 cHOa0 cHOa1
            have HB_11 := Lib.hid (HB_10.out.trans (hb.mono HB_10.out.size))
            have HQ_11 := Lib.hid (HQ_10.out.below hb HQ_10.out.lt)
            have HX_11 := Lib.hid (HX_10.out.below hb HX_10.out.lt)
            have HI_11 := Lib.hid (HI_10.out.below hb (Nat.le_refl _))
            have HJ_11 := Lib.hid (HJ_10.out.below hb (Nat.le_refl _))
            have HOa_11 := Lib.hid (HOa_10.out.below hb HOa_10.out.lt)
            have HIa_11 := Lib.hid (HIa_10.out.below hb (Nat.le_refl _))
            have HOb_11 := Lib.hid (HOb_10.out.below hb HOb_10.out.lt)
            have HIb_11 := Lib.hid (HIb_10.out.below hb (Nat.le_refl _))
            clear hb
            have cHOa0 := HOa_11.out.cell 0
            have cHOa1 := HOa_11.out.cell 1
            simp only [List.getElem?_toArray, List.getElem?_cons_zero, List.getElem?_cons_succ] at cHOa0 cHOa1
            go_wp2_with fail
            refine (iql_at HA2.out wh HIa_11.out).mono ?_
            rintro e wi ⟨rfl, hb⟩
            have KB3 := Lib.hid (KB2.out.trans (hb.mono KB2.out.size))
            clear hb
            go_wp2
            go_roundw
            case rel => exact ⟨k + 1, by omega, by go_num, KB3⟩
            case measure => simp [intOf]; omega
          | true =>
            have HM := Lib.hid hm
            have HA2 : Hid (leftQ u (n + 1) L6 = (cntQ u L : Int) + 1) := Lib.hid (by rw [hA2, hm]; simp)
            have hne : (((cntQ u L : Int) + 1) != ((cntQ u L : Int) + 1)) = false := by simp
            clear hm hA2
            go_wp2_with fail
            have HCA := has_name AT NT cT TT u wg HJ_10.out
            rw [HM.out] at HCA
            refine HCA.mono ?_
            rintro e wh ⟨rfl, hb⟩
            have KB2 := Lib.hid (KB1.out.trans (hb.mono KB1.out.size))
            clear HCA
            clear cHQ0 cHQ1 cHX0 cHX1 cHX2 cHOa0 cHOa1
            have HB_11 := Lib.hid (HB_10.out.trans (hb.mono HB_10.out.size))
            have HQ_11 := Lib.hid (HQ_10.out.below hb HQ_10.out.lt)
            have HX_11 := Lib.hid (HX_10.out.below hb HX_10.out.lt)
            have HI_11 := Lib.hid (HI_10.out.below hb (Nat.le_refl _))
            have HJ_11 := Lib.hid (HJ_10.out.below hb (Nat.le_refl _))
            have HOa_11 := Lib.hid (HOa_10.out.below hb HOa_10.out.lt)
            have HIa_11 := Lib.hid (HIa_10.out.below hb (Nat.le_refl _))
            have HOb_11 := Lib.hid (HOb_10.out.below hb HOb_10.out.lt)
            have HIb_11 := Lib.hid (HIb_10.out.below hb (Nat.le_refl _))
            clear hb
            have cHOa0 := HOa_11.out.cell 0
            have cHOa1 := HOa_11.out.cell 1
            simp only [List.getElem?_toArray, List.getElem?_cons_zero, List.getElem?_cons_succ] at cHOa0 cHOa1
            go_wp2_with fail
            refine (iql_at HA2.out wh HIa_11.out).mono ?_
            rintro e wi ⟨rfl, hb⟩
            have KB3 := Lib.hid (KB2.out.trans (hb.mono KB2.out.size))
            clear hb
            go_wp2
            go_roundw
            case rel => exact ⟨k + 1, by omega, by go_num, KB3⟩
            case measure => simp [intOf]; omega
        · have h5 : ¬ (k : Int) < (M4 : Int) := by omega
          go_wp2
          go_ret
          exact ⟨rfl, HB_9.out⟩
  · have hlenI : (1048576 : Int) < (len : Int) := by omega
    go_enter Try.func6, Try.ntmps6
    go_wp2
    go_ret
    exact ⟨rfl, Below.refl _ _⟩
end Go.Proofs.Ytinbdibenbplnaa
