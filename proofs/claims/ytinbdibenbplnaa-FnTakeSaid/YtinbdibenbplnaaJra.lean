/-
  The walks of the laws FnTake. Condition: the code can be read.
-/
import Derived.Test.YtinbdibenbplnaaJr
import Derived.BigQuiet
namespace Go.Proofs.Ytinbdibenbplnaa
open Go.RowKit
set_option linter.unusedVariables false

set_option maxRecDepth 20000 in
set_option maxHeartbeats 8000000 in
theorem law_FnTake (A0 : Option Addr) (len cap0 : Nat) (w : World) (h : Coded w A0 len cap0) : Calls Try.prog 8 #[.slice A0 len cap0] w (Holds1 w) := by
  have HC := Lib.hid h
  clear h
  by_cases hlen : len ≤ 1048576
  · have hlenI : (len : Int) ≤ 1048576 := by omega
    have hlenJ : ¬ (1048576 : Int) < (len : Int) := by omega
    go_enter Try.func8, Try.ntmps8
    go_wp2_with fail
    refine (draw_qtake A0 len cap0 w HC.out).mono ?_
    rintro e w1 ⟨n, A, N, cap, L, id, u, rfl, ho, hs, hl, hu, hb⟩
    have HL := Lib.hid hl
    have HNL := Lib.hid ho.1.len.1
    have hN8 : N ≤ 8 := by have := HNL.out; omega
    have HSQ := Lib.hid hs
    obtain ⟨D, hD⟩ : ∃ D, w1.heap.size = D := ⟨_, rfl⟩
    obtain ⟨w2, hw2⟩ : ∃ w2, w1.alloc (.cells #[.int .i64 n, .slice A N cap] 31) = w2 := ⟨_, rfl⟩
    have hb2 : Below w1.heap.size w1 w2 := by rw [← hw2]; exact below_new _ _
    have HB := Lib.hid (hb.trans (hb2.mono hb.size))
    have HQ := Lib.hid (show Whole w2 D 31 #[.int .i64 n, .slice A N cap] by rw [← hw2, ← hD]; exact Whole.made _ _ _)
    have HI := Lib.hid ((ho.qinS hs (by omega)).below hb2 (Nat.le_refl _))
    clear ho hs hl hb hb2
    obtain ⟨n6, hn6⟩ : ∃ x, qtN n L = x := ⟨_, rfl⟩
    obtain ⟨K6, hk6⟩ : ∃ x, qtK n L id u = x := ⟨_, rfl⟩
    obtain ⟨t6, ht6⟩ : ∃ x, qtT n L id u = x := ⟨_, rfl⟩
    obtain ⟨ok6, ho6⟩ : ∃ x, qtO n L id u = x := ⟨_, rfl⟩
    have HN6 := Lib.hid hn6
    have HK6 := Lib.hid hk6
    have HT6 := Lib.hid ht6
    have HO6 := Lib.hid ho6
    have HSM6 : Hid (smQ K6) := Lib.hid (by rw [← hk6]; exact (qtK_sm HSQ.out).1)
    have HLE6 : Hid (K6.length ≤ L.length) := Lib.hid (by rw [← hk6]; exact (qtK_sm HSQ.out).2)
    clear hn6 hk6 ht6 ho6
    have cHQ0 := HQ.out.cell 0
    have cHQ1 := HQ.out.cell 1
    simp only [List.getElem?_toArray, List.getElem?_cons_zero, List.getElem?_cons_succ] at cHQ0 cHQ1
    go_wp2_with fail
    have HCA := impl_queuetake (n := n) id u w2 HI.out
    rw [HN6.out, HK6.out, HT6.out, HO6.out] at HCA
    refine HCA.mono ?_
    rintro e w3 ⟨A6, N6, c6, L6, rfl, ho3, hk3, hb3⟩
    clear HCA
    clear cHQ0 cHQ1
    have HB_1 := Lib.hid (HB.out.trans (hb3.mono HB.out.size))
    have HQ_1 := Lib.hid (HQ.out.below hb3 HQ.out.lt)
    have HI_1 := Lib.hid (HI.out.below hb3 (Nat.le_refl _))
    clear HI HQ HB
    have hla : L6.length ≤ 1000 := by have h1 := HLE6.out; rw [← hk3, List.length_map] at h1; have := HL.out; omega
    have hia := ho3.qinS (by rw [hk3]; exact HSM6.out) hla
    have HKYa := Lib.hid hk3
    have HNa := Lib.hid ho3.1.len.1
    obtain ⟨D5, hD5⟩ : ∃ D, w3.heap.size = D := ⟨_, rfl⟩
    obtain ⟨w4, hw4⟩ : ∃ wn, w3.alloc (.cells #[.int .i64 n6, .slice A6 N6 c6] 31) = wn := ⟨_, rfl⟩
    have hbn : Below w3.heap.size w3 w4 := by rw [← hw4]; exact below_new _ _
    have HB_2 := Lib.hid (HB_1.out.trans (hbn.mono HB_1.out.size))
    have HQ_2 := Lib.hid (HQ_1.out.below hbn HQ_1.out.lt)
    have HI_2 := Lib.hid (HI_1.out.below hbn (Nat.le_refl _))
    clear HI_1 HQ_1 HB_1
    have HOa := Lib.hid (show Whole w4 D5 31 #[.int .i64 n6, .slice A6 N6 c6] by rw [← hw4, ← hD5]; exact Whole.made _ _ _)
    have HIa := Lib.hid (hia.below hbn (Nat.le_refl _))
    clear hla hia hbn ho3 hk3 hb3
    have cHQ0 := HQ_2.out.cell 0
    have cHQ1 := HQ_2.out.cell 1
    simp only [List.getElem?_toArray, List.getElem?_cons_zero, List.getElem?_cons_succ] at cHQ0 cHQ1
    go_wp2_with fail
    have HCA := spec_queuetake (n := n) id u w4 HI_2.out
    rw [HN6.out, HK6.out, HT6.out, HO6.out] at HCA
    refine HCA.mono ?_
    rintro e w5 ⟨A7, N7, c7, L7, rfl, ho5, hk5, hb5⟩
    clear HCA
    clear cHQ0 cHQ1
    have HB_3 := Lib.hid (HB_2.out.trans (hb5.mono HB_2.out.size))
    have HQ_3 := Lib.hid (HQ_2.out.below hb5 HQ_2.out.lt)
    have HI_3 := Lib.hid (HI_2.out.below hb5 (Nat.le_refl _))
    have HOa_3 := Lib.hid (HOa.out.below hb5 HOa.out.lt)
    have HIa_3 := Lib.hid (HIa.out.below hb5 (Nat.le_refl _))
    clear HIa HOa HI_2 HQ_2 HB_2
    have hlb : L7.length ≤ 1000 := by have h1 := HLE6.out; rw [← hk5, List.length_map] at h1; have := HL.out; omega
    have hib := ho5.qinS (by rw [hk5]; exact HSM6.out) hlb
    have HKYb := Lib.hid hk5
    have HNb := Lib.hid ho5.1.len.1
    obtain ⟨D7, hD7⟩ : ∃ D, w5.heap.size = D := ⟨_, rfl⟩
    obtain ⟨w6, hw6⟩ : ∃ wn, w5.alloc (.cells #[.int .i64 n6, .slice A7 N7 c7] 31) = wn := ⟨_, rfl⟩
    have hbn : Below w5.heap.size w5 w6 := by rw [← hw6]; exact below_new _ _
    have HB_4 := Lib.hid (HB_3.out.trans (hbn.mono HB_3.out.size))
    have HQ_4 := Lib.hid (HQ_3.out.below hbn HQ_3.out.lt)
    have HI_4 := Lib.hid (HI_3.out.below hbn (Nat.le_refl _))
    have HOa_4 := Lib.hid (HOa_3.out.below hbn HOa_3.out.lt)
    have HIa_4 := Lib.hid (HIa_3.out.below hbn (Nat.le_refl _))
    clear HIa_3 HOa_3 HI_3 HQ_3 HB_3
    have HOb := Lib.hid (show Whole w6 D7 31 #[.int .i64 n6, .slice A7 N7 c7] by rw [← hw6, ← hD7]; exact Whole.made _ _ _)
    have HIb := Lib.hid (hib.below hbn (Nat.le_refl _))
    clear hlb hib hbn ho5 hk5 hb5
    have h67 : N6 = N7 := by have h1 := HNa.out; have h2 := HNb.out; have h3 := key_len (HKYa.out.trans HKYb.out.symm); omega
    subst h67
    have HE67 := Lib.hid (HKYa.out.trans HKYb.out.symm)
    cases ok6 with
    | false =>
      have cHOa0 := HOa_4.out.cell 0
      have cHOa1 := HOa_4.out.cell 1
      have cHOb0 := HOb.out.cell 0
      have cHOb1 := HOb.out.cell 1
      simp only [List.getElem?_toArray, List.getElem?_cons_zero, List.getElem?_cons_succ] at cHOa0 cHOa1 cHOb0 cHOb1
      go_wp2_with fail
      refine (same_queue _ HIa_4.out HIb.out HE67.out).mono ?_
      rintro e u5x ⟨rfl, hb⟩
      clear cHOa0 cHOa1 cHOb0 cHOb1
      have HB_6 := Lib.hid (HB_4.out.trans (hb.mono HB_4.out.size))
      have HQ_6 := Lib.hid (HQ_4.out.below hb HQ_4.out.lt)
      have HI_6 := Lib.hid (HI_4.out.below hb (Nat.le_refl _))
      have HOa_6 := Lib.hid (HOa_4.out.below hb HOa_4.out.lt)
      have HIa_6 := Lib.hid (HIa_4.out.below hb (Nat.le_refl _))
      have HOb_6 := Lib.hid (HOb.out.below hb HOb.out.lt)
      have HIb_6 := Lib.hid (HIb.out.below hb (Nat.le_refl _))
      clear HIb HOb HIa_4 HOa_4 HI_4 HQ_4 HB_4
      clear hb
      have cHOa0 := HOa_6.out.cell 0
      have cHOa1 := HOa_6.out.cell 1
      have cHOb0 := HOb_6.out.cell 0
      have cHOb1 := HOb_6.out.cell 1
      simp only [List.getElem?_toArray, List.getElem?_cons_zero, List.getElem?_cons_succ] at cHOa0 cHOa1 cHOb0 cHOb1
      go_wp2_with fail
      refine (same_queue _ HIa_6.out HIb_6.out HE67.out).mono ?_
      rintro e u7x ⟨rfl, hb⟩
      clear cHOa0 cHOa1 cHOb0 cHOb1
      have HB_8 := Lib.hid (HB_6.out.trans (hb.mono HB_6.out.size))
      have HQ_8 := Lib.hid (HQ_6.out.below hb HQ_6.out.lt)
      have HI_8 := Lib.hid (HI_6.out.below hb (Nat.le_refl _))
      have HOa_8 := Lib.hid (HOa_6.out.below hb HOa_6.out.lt)
      have HIa_8 := Lib.hid (HIa_6.out.below hb (Nat.le_refl _))
      have HOb_8 := Lib.hid (HOb_6.out.below hb HOb_6.out.lt)
      have HIb_8 := Lib.hid (HIb_6.out.below hb (Nat.le_refl _))
      clear HIb_6 HOb_6 HIa_6 HOa_6 HI_6 HQ_6 HB_6
      clear hb
      go_wp2
      go_ret
      exact ⟨rfl, HB_8.out⟩
    | true =>
      have cHOa0 := HOa_4.out.cell 0
      have cHOa1 := HOa_4.out.cell 1
      have cHOb0 := HOb.out.cell 0
      have cHOb1 := HOb.out.cell 1
      simp only [List.getElem?_toArray, List.getElem?_cons_zero, List.getElem?_cons_succ] at cHOa0 cHOa1 cHOb0 cHOb1
      go_wp2_with fail
      refine (same_queue _ HIa_4.out HIb.out HE67.out).mono ?_
      rintro e u5x ⟨rfl, hb⟩
      clear cHOa0 cHOa1 cHOb0 cHOb1
      have HB_6 := Lib.hid (HB_4.out.trans (hb.mono HB_4.out.size))
      have HQ_6 := Lib.hid (HQ_4.out.below hb HQ_4.out.lt)
      have HI_6 := Lib.hid (HI_4.out.below hb (Nat.le_refl _))
      have HOa_6 := Lib.hid (HOa_4.out.below hb HOa_4.out.lt)
      have HIa_6 := Lib.hid (HIa_4.out.below hb (Nat.le_refl _))
      have HOb_6 := Lib.hid (HOb.out.below hb HOb.out.lt)
      have HIb_6 := Lib.hid (HIb.out.below hb (Nat.le_refl _))
      clear HIb HOb HIa_4 HOa_4 HI_4 HQ_4 HB_4
      clear hb
      obtain ⟨hv1, hv2, hv3, hv4, hv5, hv6⟩ := take_facts HO6.out (HKYa.out.trans HK6.out.symm)
      have hn6n : n6 = n := HN6.out.symm.trans hv2
      subst hn6n
      obtain ⟨z, hz⟩ : ∃ z : Nat, cntQ u L6 = z := ⟨_, rfl⟩
      have hz8 : z ≤ 8 := by have h1 := cntQ_le u L6; have h2 := HLE6.out; rw [← HKYa.out, List.length_map] at h2; have := HL.out; omega
      have HZ1 : Hid (leftQ u n6 L6 = (z : Int)) := Lib.hid (by unfold leftQ; rw [hv3, hz]; rfl)
      have HZ2 : Hid (leftQ u n6 L = (z : Int) + 1) := Lib.hid (by unfold leftQ; rw [hv1, hv5, hz]; rfl)
      have HV := Lib.hid hv3
      obtain ⟨hf1, hf2, hf3, hf4⟩ := take_none hv4 hv3
      have HO8 := Lib.hid hv4
      have HN8 := Lib.hid hf1
      have HK8 := Lib.hid hf2
      have W1 : IntKind.i64.wrap ((z : Int) + 1 - 1) = (z : Int) := (congrArg IntKind.i64.wrap (Int.add_sub_cancel (z : Int) 1)).trans (IntWalk.i64_in _ (by omega))
      have W2 : IntKind.i64.wrap (z : Int) = (z : Int) := IntWalk.i64_in _ (by omega)
      have HT8 := Lib.hid hf3
      clear hv1 hv2 hv3 hv4 hv5 hv6 hf1 hf2 hf3 hf4 hz
      have cHOa0 := HOa_6.out.cell 0
      have cHOa1 := HOa_6.out.cell 1
      simp only [List.getElem?_toArray, List.getElem?_cons_zero, List.getElem?_cons_succ] at cHOa0 cHOa1
      go_wp2_with fail
      have HCA := impl_queuetake (n := n6) id u u5x HIa_6.out
      rw [HN8.out, HK8.out, HT8.out, HO8.out] at HCA
      refine HCA.mono ?_
      rintro e w8 ⟨A8, N8, c8, L8, rfl, ho8, hk8, hb8⟩
      clear HCA
      clear cHOa0 cHOa1
      have HB_7 := Lib.hid (HB_6.out.trans (hb8.mono HB_6.out.size))
      have HQ_7 := Lib.hid (HQ_6.out.below hb8 HQ_6.out.lt)
      have HI_7 := Lib.hid (HI_6.out.below hb8 (Nat.le_refl _))
      have HOa_7 := Lib.hid (HOa_6.out.below hb8 HOa_6.out.lt)
      have HIa_7 := Lib.hid (HIa_6.out.below hb8 (Nat.le_refl _))
      have HOb_7 := Lib.hid (HOb_6.out.below hb8 HOb_6.out.lt)
      have HIb_7 := Lib.hid (HIb_6.out.below hb8 (Nat.le_refl _))
      clear HIb_6 HOb_6 HIa_6 HOa_6 HI_6 HQ_6 HB_6
      have hl8 : L8.length ≤ 1000 := by have h1 := HLE6.out; rw [← HKYa.out, ← hk8, List.length_map] at h1; have := HL.out; omega
      have hi8 := ho8.qinS (by rw [hk8, HKYa.out]; exact HSM6.out) hl8
      have HK86 := Lib.hid hk8
      have hN8 : N6 = N8 := by have h1 := HNa.out; have h2 := ho8.1.len.1; have h3 := key_len hk8; omega
      subst hN8
      obtain ⟨D8, hD8⟩ : ∃ D8, w8.heap.size = D8 := ⟨_, rfl⟩
      obtain ⟨w9, hw9⟩ : ∃ wn, w8.alloc (.cells #[.int .i64 n6, .slice A8 N6 c8] 31) = wn := ⟨_, rfl⟩
      have hbn : Below w8.heap.size w8 w9 := by rw [← hw9]; exact below_new _ _
      have HB_8 := Lib.hid (HB_7.out.trans (hbn.mono HB_7.out.size))
      have HQ_8 := Lib.hid (HQ_7.out.below hbn HQ_7.out.lt)
      have HI_8 := Lib.hid (HI_7.out.below hbn (Nat.le_refl _))
      have HOa_8 := Lib.hid (HOa_7.out.below hbn HOa_7.out.lt)
      have HIa_8 := Lib.hid (HIa_7.out.below hbn (Nat.le_refl _))
      have HOb_8 := Lib.hid (HOb_7.out.below hbn HOb_7.out.lt)
      have HIb_8 := Lib.hid (HIb_7.out.below hbn (Nat.le_refl _))
      clear HIb_7 HOb_7 HIa_7 HOa_7 HI_7 HQ_7 HB_7
      have HOc := Lib.hid (show Whole w9 D8 31 #[.int .i64 n6, .slice A8 N6 c8] by rw [← hw9, ← hD8]; exact Whole.made _ _ _)
      have HIc := Lib.hid (hi8.below hbn (Nat.le_refl _))
      clear hl8 hi8 hbn ho8 hk8 hb8
      obtain ⟨wd, hwd⟩ : ∃ wd, w9.drew = wd := ⟨_, rfl⟩
      have hbd : Below w9.heap.size w9 wd := by rw [← hwd]; exact below_drew1 _
      have HWD := Lib.hid hwd
      clear hwd
      have HB_9 := Lib.hid (HB_8.out.trans (hbd.mono HB_8.out.size))
      have HQ_9 := Lib.hid (HQ_8.out.below hbd HQ_8.out.lt)
      have HI_9 := Lib.hid (HI_8.out.below hbd (Nat.le_refl _))
      have HOa_9 := Lib.hid (HOa_8.out.below hbd HOa_8.out.lt)
      have HIa_9 := Lib.hid (HIa_8.out.below hbd (Nat.le_refl _))
      have HOb_9 := Lib.hid (HOb_8.out.below hbd HOb_8.out.lt)
      have HIb_9 := Lib.hid (HIb_8.out.below hbd (Nat.le_refl _))
      have HOc_9 := Lib.hid (HOc.out.below hbd HOc.out.lt)
      have HIc_9 := Lib.hid (HIc.out.below hbd (Nat.le_refl _))
      clear HIc HOc HIb_8 HOb_8 HIa_8 HOa_8 HI_8 HQ_8 HB_8
      clear hbd
      have cHQ0 := HQ_9.out.cell 0
      have cHQ1 := HQ_9.out.cell 1
      have cHOa0 := HOa_9.out.cell 0
      have cHOa1 := HOa_9.out.cell 1
      have cHOc0 := HOc_9.out.cell 0
      have cHOc1 := HOc_9.out.cell 1
      simp only [List.getElem?_toArray, List.getElem?_cons_zero, List.getElem?_cons_succ] at cHQ0 cHQ1 cHOa0 cHOa1 cHOc0 cHOc1
      go_upto_region 9 with fail
      refine wp_region_late (fun w' => w'.cell? ⟨D, 0, none⟩ = some (.int .i64 n6) ∧ w'.cell? ⟨D, 1, none⟩ = some (.slice A N cap) ∧ w'.cell? ⟨D5, 0, none⟩ = some (.int .i64 n6) ∧ w'.cell? ⟨D5, 1, none⟩ = some (.slice A6 N6 c6) ∧ w'.cell? ⟨D8, 0, none⟩ = some (.int .i64 n6) ∧ w'.cell? ⟨D8, 1, none⟩ = some (.slice A8 N6 c8)) 21 (by kernel_rfl) ?_
      rw [HWD.out]
      refine wpLate_take (i := 0) (v := ?v0) rfl (by kernel_rfl) (by kernel_rfl) (by kernel_rfl) (by kernel_rfl) (by kernel_rfl) (fun _ _ _ h => h) ⟨cHQ0, cHQ1, cHOa0, cHOa1, cHOc0, cHOc1⟩ (by rfl) ?hy0 ?r0
      case hy0 =>
        rintro wz ⟨z0, z1, z2, z3, z4, z5⟩
        go_simp
        try with_reducible rfl
      try simp only [Act.put]
      refine wpLate_take (i := 1) (v := ?v1) rfl (by kernel_rfl) (by kernel_rfl) (by kernel_rfl) (by kernel_rfl) (by kernel_rfl) (fun _ _ _ h => h) ⟨cHQ0, cHQ1, cHOa0, cHOa1, cHOc0, cHOc1⟩ (by rfl) ?hy1 ?r1
      case hy1 =>
        rintro wz ⟨z0, z1, z2, z3, z4, z5⟩
        go_simp
        try with_reducible rfl
      try simp only [Act.put]
      refine wpLate_take (i := 2) (v := ?v2) rfl (by kernel_rfl) (by kernel_rfl) (by kernel_rfl) (by kernel_rfl) (by kernel_rfl) (fun _ _ _ h => h) ⟨cHQ0, cHQ1, cHOa0, cHOa1, cHOc0, cHOc1⟩ (by rfl) ?hy2 ?r2
      case hy2 =>
        rintro wz ⟨z0, z1, z2, z3, z4, z5⟩
        go_simp
        try with_reducible rfl
      try simp only [Act.put]
      refine wpLate_take (i := 3) (v := ?v3) rfl (by kernel_rfl) (by kernel_rfl) (by kernel_rfl) (by kernel_rfl) (by kernel_rfl) (fun _ _ _ h => h) ⟨cHQ0, cHQ1, cHOa0, cHOa1, cHOc0, cHOc1⟩ (by go_simp) ?hy3 ?r3
      case hy3 =>
        rintro wz ⟨z0, z1, z2, z3, z4, z5⟩
        go_simp
        try with_reducible rfl
      try simp only [Act.put]
      refine wpLate_take (i := 4) (v := ?v4) rfl (by kernel_rfl) (by kernel_rfl) (by kernel_rfl) (by kernel_rfl) (by kernel_rfl) (fun _ _ _ h => h) ⟨cHQ0, cHQ1, cHOa0, cHOa1, cHOc0, cHOc1⟩ (by go_simp) ?hy4 ?r4
      case hy4 =>
        rintro wz ⟨z0, z1, z2, z3, z4, z5⟩
        go_simp
        try with_reducible rfl
      try simp only [Act.put]
      refine wpLate_one (i := 5) (by kernel_rfl) rfl (fun K hK => ?_)
      go_simp
      refine (same_queue wd HIc_9.out HIa_9.out HK86.out).mono ?_
      rintro e we ⟨rfl, hb⟩
      clear cHQ0 cHQ1 cHOa0 cHOa1 cHOc0 cHOc1
      have HB_10 := Lib.hid (HB_9.out.trans (hb.mono HB_9.out.size))
      have HQ_10 := Lib.hid (HQ_9.out.below hb HQ_9.out.lt)
      have HI_10 := Lib.hid (HI_9.out.below hb (Nat.le_refl _))
      have HOa_10 := Lib.hid (HOa_9.out.below hb HOa_9.out.lt)
      have HIa_10 := Lib.hid (HIa_9.out.below hb (Nat.le_refl _))
      have HOb_10 := Lib.hid (HOb_9.out.below hb HOb_9.out.lt)
      have HIb_10 := Lib.hid (HIb_9.out.below hb (Nat.le_refl _))
      have HOc_10 := Lib.hid (HOc_9.out.below hb HOc_9.out.lt)
      have HIc_10 := Lib.hid (HIc_9.out.below hb (Nat.le_refl _))
      clear HIc_9 HOc_9 HIb_9 HOb_9 HIa_9 HOa_9 HI_9 HQ_9 HB_9
      clear hb
      have cHQ0 := HQ_10.out.cell 0
      have cHQ1 := HQ_10.out.cell 1
      have cHOa0 := HOa_10.out.cell 0
      have cHOa1 := HOa_10.out.cell 1
      have cHOc0 := HOc_10.out.cell 0
      have cHOc1 := HOc_10.out.cell 1
      simp only [List.getElem?_toArray, List.getElem?_cons_zero, List.getElem?_cons_succ] at cHQ0 cHQ1 cHOa0 cHOa1 cHOc0 cHOc1
      refine hK.out _ _ (fun _ => ⟨cHQ0, cHQ1, cHOa0, cHOa1, cHOc0, cHOc1⟩) ?_
      clear hK K
      try simp only [Act.put]
      refine wpLate_take (i := 6) (v := ?v6) rfl (by kernel_rfl) (by kernel_rfl) (by kernel_rfl) (by kernel_rfl) (by kernel_rfl) (fun _ _ _ h => h) ⟨cHQ0, cHQ1, cHOa0, cHOa1, cHOc0, cHOc1⟩ (by go_simp) ?hy6 ?r6
      case hy6 =>
        rintro wz ⟨z0, z1, z2, z3, z4, z5⟩
        go_simp
        try with_reducible rfl
      try simp only [Act.put]
      refine wpLate_take (i := 7) (v := ?v7) rfl (by kernel_rfl) (by kernel_rfl) (by kernel_rfl) (by kernel_rfl) (by kernel_rfl) (fun _ _ _ h => h) ⟨cHQ0, cHQ1, cHOa0, cHOa1, cHOc0, cHOc1⟩ (by go_simp) ?hy7 ?r7
      case hy7 =>
        rintro wz ⟨z0, z1, z2, z3, z4, z5⟩
        go_simp
        try with_reducible rfl
      try simp only [Act.put]
      refine wpLate_take (i := 8) (v := ?v8) rfl (by kernel_rfl) (by kernel_rfl) (by kernel_rfl) (by kernel_rfl) (by kernel_rfl) (fun _ _ _ h => h) ⟨cHQ0, cHQ1, cHOa0, cHOa1, cHOc0, cHOc1⟩ (by go_simp) ?hy8 ?r8
      case hy8 =>
        rintro wz ⟨z0, z1, z2, z3, z4, z5⟩
        go_simp
        try with_reducible rfl
      try simp only [Act.put]
      refine wpLate_take (i := 9) (v := ?v9) rfl (by kernel_rfl) (by kernel_rfl) (by kernel_rfl) (by kernel_rfl) (by kernel_rfl) (fun _ _ _ h => h) ⟨cHQ0, cHQ1, cHOa0, cHOa1, cHOc0, cHOc1⟩ (by go_simp) ?hy9 ?r9
      case hy9 =>
        rintro wz ⟨z0, z1, z2, z3, z4, z5⟩
        go_simp
        try with_reducible rfl
      try simp only [Act.put]
      refine wpLate_take (i := 11) (v := ?v11) rfl (by kernel_rfl) (by kernel_rfl) (by kernel_rfl) (by kernel_rfl) (by kernel_rfl) (fun _ _ _ h => h) ⟨cHQ0, cHQ1, cHOa0, cHOa1, cHOc0, cHOc1⟩ (by go_simp) ?hy11 ?r11
      case hy11 =>
        rintro wz ⟨z0, z1, z2, z3, z4, z5⟩
        go_simp
        try with_reducible rfl
      try simp only [Act.put]
      refine wpLate_take (i := 12) (v := ?v12) rfl (by kernel_rfl) (by kernel_rfl) (by kernel_rfl) (by kernel_rfl) (by kernel_rfl) (fun _ _ _ h => h) ⟨cHQ0, cHQ1, cHOa0, cHOa1, cHOc0, cHOc1⟩ (by go_simp) ?hy12 ?r12
      case hy12 =>
        rintro wz ⟨z0, z1, z2, z3, z4, z5⟩
        go_simp
        try with_reducible rfl
      try simp only [Act.put]
      refine wpLate_one (i := 10) (by kernel_rfl) rfl (fun K hK => ?_)
      go_simp
      refine (iql_at HZ1.out we HIa_10.out).mono ?_
      rintro e wf ⟨rfl, hb⟩
      clear cHQ0 cHQ1 cHOa0 cHOa1 cHOc0 cHOc1
      have HB_11 := Lib.hid (HB_10.out.trans (hb.mono HB_10.out.size))
      have HQ_11 := Lib.hid (HQ_10.out.below hb HQ_10.out.lt)
      have HI_11 := Lib.hid (HI_10.out.below hb (Nat.le_refl _))
      have HOa_11 := Lib.hid (HOa_10.out.below hb HOa_10.out.lt)
      have HIa_11 := Lib.hid (HIa_10.out.below hb (Nat.le_refl _))
      have HOb_11 := Lib.hid (HOb_10.out.below hb HOb_10.out.lt)
      have HIb_11 := Lib.hid (HIb_10.out.below hb (Nat.le_refl _))
      have HOc_11 := Lib.hid (HOc_10.out.below hb HOc_10.out.lt)
      have HIc_11 := Lib.hid (HIc_10.out.below hb (Nat.le_refl _))
      clear HIc_10 HOc_10 HIb_10 HOb_10 HIa_10 HOa_10 HI_10 HQ_10 HB_10
      clear hb
      have cHQ0 := HQ_11.out.cell 0
      have cHQ1 := HQ_11.out.cell 1
      have cHOa0 := HOa_11.out.cell 0
      have cHOa1 := HOa_11.out.cell 1
      have cHOc0 := HOc_11.out.cell 0
      have cHOc1 := HOc_11.out.cell 1
      simp only [List.getElem?_toArray, List.getElem?_cons_zero, List.getElem?_cons_succ] at cHQ0 cHQ1 cHOa0 cHOa1 cHOc0 cHOc1
      refine hK.out _ _ (fun _ => ⟨cHQ0, cHQ1, cHOa0, cHOa1, cHOc0, cHOc1⟩) ?_
      clear hK K
      try simp only [Act.put]
      refine wpLate_one (i := 13) (by kernel_rfl) rfl (fun K hK => ?_)
      go_simp
      refine (iql_at HZ2.out wf HI_11.out).mono ?_
      rintro e wg ⟨rfl, hb⟩
      clear cHQ0 cHQ1 cHOa0 cHOa1 cHOc0 cHOc1
      have HB_12 := Lib.hid (HB_11.out.trans (hb.mono HB_11.out.size))
      have HQ_12 := Lib.hid (HQ_11.out.below hb HQ_11.out.lt)
      have HI_12 := Lib.hid (HI_11.out.below hb (Nat.le_refl _))
      have HOa_12 := Lib.hid (HOa_11.out.below hb HOa_11.out.lt)
      have HIa_12 := Lib.hid (HIa_11.out.below hb (Nat.le_refl _))
      have HOb_12 := Lib.hid (HOb_11.out.below hb HOb_11.out.lt)
      have HIb_12 := Lib.hid (HIb_11.out.below hb (Nat.le_refl _))
      have HOc_12 := Lib.hid (HOc_11.out.below hb HOc_11.out.lt)
      have HIc_12 := Lib.hid (HIc_11.out.below hb (Nat.le_refl _))
      clear HIc_11 HOc_11 HIb_11 HOb_11 HIa_11 HOa_11 HI_11 HQ_11 HB_11
      clear hb
      have cHQ0 := HQ_12.out.cell 0
      have cHQ1 := HQ_12.out.cell 1
      have cHOa0 := HOa_12.out.cell 0
      have cHOa1 := HOa_12.out.cell 1
      have cHOc0 := HOc_12.out.cell 0
      have cHOc1 := HOc_12.out.cell 1
      simp only [List.getElem?_toArray, List.getElem?_cons_zero, List.getElem?_cons_succ] at cHQ0 cHQ1 cHOa0 cHOa1 cHOc0 cHOc1
      refine hK.out _ _ (fun _ => ⟨cHQ0, cHQ1, cHOa0, cHOa1, cHOc0, cHOc1⟩) ?_
      clear hK K
      try simp only [Act.put]
      refine wpLate_take (i := 14) (v := ?v14) rfl (by kernel_rfl) (by kernel_rfl) (by kernel_rfl) (by kernel_rfl) (by kernel_rfl) (fun _ _ _ h => h) ⟨cHQ0, cHQ1, cHOa0, cHOa1, cHOc0, cHOc1⟩ (by go_simp) ?hy14 ?r14
      case hy14 =>
        rintro wz ⟨z0, z1, z2, z3, z4, z5⟩
        go_simp
        try with_reducible rfl
      try simp only [Act.put]
      refine wpLate_take (i := 15) (v := ?v15) rfl (by kernel_rfl) (by kernel_rfl) (by kernel_rfl) (by kernel_rfl) (by kernel_rfl) (fun _ _ _ h => h) ⟨cHQ0, cHQ1, cHOa0, cHOa1, cHOc0, cHOc1⟩ (by go_simp) ?hy15 ?r15
      case hy15 =>
        rintro wz ⟨z0, z1, z2, z3, z4, z5⟩
        go_simp
        try with_reducible rfl
      try simp only [Act.put]
      refine wpLate_take (i := 16) (v := ?v16) rfl (by kernel_rfl) (by kernel_rfl) (by kernel_rfl) (by kernel_rfl) (by kernel_rfl) (fun _ _ _ h => h) ⟨cHQ0, cHQ1, cHOa0, cHOa1, cHOc0, cHOc1⟩ (by go_simp) ?hy16 ?r16
      case hy16 =>
        rintro wz ⟨z0, z1, z2, z3, z4, z5⟩
        go_simp
        try with_reducible rfl
      try simp only [Act.put]
      refine wpLate_take (i := 17) (v := ?v17) rfl (by kernel_rfl) (by kernel_rfl) (by kernel_rfl) (by kernel_rfl) (by kernel_rfl) (fun _ _ _ h => h) ⟨cHQ0, cHQ1, cHOa0, cHOa1, cHOc0, cHOc1⟩ (by go_simp) ?hy17 ?r17
      case hy17 =>
        rintro wz ⟨z0, z1, z2, z3, z4, z5⟩
        go_simp
        try with_reducible rfl
      try simp only [Act.put]
      refine wpLate_take (i := 18) (v := ?v18) rfl (by kernel_rfl) (by kernel_rfl) (by kernel_rfl) (by kernel_rfl) (by kernel_rfl) (fun _ _ _ h => h) ⟨cHQ0, cHQ1, cHOa0, cHOa1, cHOc0, cHOc1⟩ (by go_simp) ?hy18 ?r18
      case hy18 =>
        rintro wz ⟨z0, z1, z2, z3, z4, z5⟩
        go_simp
        try with_reducible rfl
      try simp only [Act.put]
      refine wpLate_one (i := 19) (by kernel_rfl) rfl (fun K hK => ?_)
      go_simp
      refine (iqv_at HV.out wg HIa_12.out).mono ?_
      rintro e wh ⟨rfl, hb⟩
      clear cHQ0 cHQ1 cHOa0 cHOa1 cHOc0 cHOc1
      have HB_13 := Lib.hid (HB_12.out.trans (hb.mono HB_12.out.size))
      have HQ_13 := Lib.hid (HQ_12.out.below hb HQ_12.out.lt)
      have HI_13 := Lib.hid (HI_12.out.below hb (Nat.le_refl _))
      have HOa_13 := Lib.hid (HOa_12.out.below hb HOa_12.out.lt)
      have HIa_13 := Lib.hid (HIa_12.out.below hb (Nat.le_refl _))
      have HOb_13 := Lib.hid (HOb_12.out.below hb HOb_12.out.lt)
      have HIb_13 := Lib.hid (HIb_12.out.below hb (Nat.le_refl _))
      have HOc_13 := Lib.hid (HOc_12.out.below hb HOc_12.out.lt)
      have HIc_13 := Lib.hid (HIc_12.out.below hb (Nat.le_refl _))
      clear HIc_12 HOc_12 HIb_12 HOb_12 HIa_12 HOa_12 HI_12 HQ_12 HB_12
      clear hb
      have cHQ0 := HQ_13.out.cell 0
      have cHQ1 := HQ_13.out.cell 1
      have cHOa0 := HOa_13.out.cell 0
      have cHOa1 := HOa_13.out.cell 1
      have cHOc0 := HOc_13.out.cell 0
      have cHOc1 := HOc_13.out.cell 1
      simp only [List.getElem?_toArray, List.getElem?_cons_zero, List.getElem?_cons_succ] at cHQ0 cHQ1 cHOa0 cHOa1 cHOc0 cHOc1
      refine hK.out _ _ (fun _ => ⟨cHQ0, cHQ1, cHOa0, cHOa1, cHOc0, cHOc1⟩) ?_
      clear hK K
      try simp only [Act.put]
      refine wpLate_take (i := 20) (v := ?v20) rfl (by kernel_rfl) (by kernel_rfl) (by kernel_rfl) (by kernel_rfl) (by kernel_rfl) (fun _ _ _ h => h) ⟨cHQ0, cHQ1, cHOa0, cHOa1, cHOc0, cHOc1⟩ (by go_simp) ?hy20 ?r20
      case hy20 =>
        rintro wz ⟨z0, z1, z2, z3, z4, z5⟩
        go_simp
        try with_reducible rfl
      try simp only [Act.put]
      refine wpLate_one (i := 21) (by kernel_rfl) rfl (fun K hK => ?_)
      go_simp
      refine hK.out _ _ (fun h => absurd rfl h) ?_
      clear hK K
      try simp only [Act.put]
      refine wpLate_done (by kernel_rfl) ?_ _
      go_wp2
      go_ret
      exact ⟨rfl, HB_13.out⟩
  · have hlenI : (1048576 : Int) < (len : Int) := by omega
    go_enter Try.func8, Try.ntmps8
    go_wp2
    go_ret
    exact ⟨rfl, Below.refl _ _⟩
end Go.Proofs.Ytinbdibenbplnaa
