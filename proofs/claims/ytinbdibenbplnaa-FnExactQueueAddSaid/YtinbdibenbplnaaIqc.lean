/-
  The walks of the laws FnExactQueueAdd. Condition: the code can be read.
-/
import Derived.Test.YtinbdibenbplnaaIqb
import Derived.BigQuiet
namespace Go.Proofs.Ytinbdibenbplnaa
open Go.RowKit
set_option linter.unusedVariables false

theorem qa_key {n : Int} {L M : List QI} (hk : M.map keyI = L.map keyI) (us tx : ByteArray) (T : List ByteArray) : qaN n M us tx T = qaN n L us tx T ∧ qaK n M us tx T = qaK n L us tx T ∧ qaO n M us tx T = qaO n L us tx T := by
  unfold qaN qaK qaO qaV qaG
  rw [vQ_key hk, hk, key_len hk]
  exact ⟨rfl, rfl, rfl⟩
theorem qa_fine {n : Int} {L : List QI} {us tx : ByteArray} {T : List ByteArray} (h : ∀ g ∈ L, SmI 1048576 g) (hl : L.length ≤ 1048576) (ht : totK (L.map keyI) ≤ 4194304) (hk : SmK 1048576 (n, us, tx, T)) : Fine (qaK n L us tx T) := by
  unfold qaK
  have hT : (T.length : Int) ≤ 1048576 := hk.2.2.1
  split
  · split
    · refine ⟨fun k hm => ?_, ?_, ?_⟩
      · rcases List.mem_append.1 hm with hm | hm
        · exact smK_to h k hm
        · rw [List.mem_singleton.1 hm]; exact hk
      · rw [totK_app, show totK [(n, us, tx, T)] = (3 + T.length) + 0 from rfl]; omega
      · rw [List.length_append, List.length_map]; show L.length + 1 ≤ _; omega
    · exact ⟨smK_to h, by omega, by rw [List.length_map]; omega⟩
  · exact ⟨(fun k hm => by cases hm), Nat.zero_le _, Nat.zero_le _⟩
theorem szQ_top {L : List QI} : szQ L 1048576 ≤ 1048576 := by
  unfold szQ
  split
  · omega
  · have := (szJ_ok (L := L) (z := 1048576 - (L.length : Int)) (by omega)).1
    omega
theorem szM_neg {us tx : ByteArray} {T : List ByteArray} {z : Int} (h : 0 ≤ z) (h2 : szM us T tx z < 0) : True := trivial
set_option maxRecDepth 20000 in
set_option maxHeartbeats 60000000 in
theorem law_FnExactQueueAdd (nx : Int) (A : Option Addr) (N cap : Nat) (us : ByteArray) (AT : Option Addr) (NT cT : Nat) (tx : ByteArray) (w : World) (h : QArgs w A N cap) (hus : us.size ≤ maxLen) (hT0 : StrArg w AT NT cT) (htx : tx.size ≤ maxLen) : Calls Try.prog 15 #[.agg #[.int .i64 nx, .slice A N cap], .agg #[.string us, .slice AT NT cT, .string tx]] w (Holds1 w) := by
  obtain ⟨L, hA⟩ := h
  obtain ⟨T, hS⟩ := hT0
  have HN := Lib.hid hA.1
  have HNT := Lib.hid hS.1
  have HU := Lib.hid hus
  have HX := Lib.hid htx
  obtain ⟨r, hr⟩ : ∃ r, szQ L 1048576 = r := ⟨_, rfl⟩
  have HR := Lib.hid hr
  have HRN : Hid (r < 0 → r = -1) := Lib.hid (fun h => by rw [← hr] at h ⊢; exact szQ_neg h)
  have hrt : r ≤ 1048576 := by rw [← hr]; exact szQ_top
  obtain ⟨Da, hDa⟩ : ∃ D, w.heap.size = D := ⟨_, rfl⟩
  obtain ⟨wq, hwq⟩ : ∃ z, w.alloc (.cells #[.int .i64 nx, .slice A N cap] 54) = z := ⟨_, rfl⟩
  have hb0 : Below w.heap.size w wq := by rw [← hwq]; exact below_new _ _
  have hD0 : Whole wq Da 54 #[.int .i64 nx, .slice A N cap] := by rw [← hwq, ← hDa]; exact Whole.made _ _ _
  obtain ⟨Db, hDb⟩ : ∃ D, wq.heap.size = D := ⟨_, rfl⟩
  obtain ⟨w0, hw0⟩ : ∃ z, wq.alloc (.cells #[.string us, .slice AT NT cT, .string tx] 55) = z := ⟨_, rfl⟩
  have hb1 : Below wq.heap.size wq w0 := by rw [← hw0]; exact below_new _ _
  have HB := Lib.hid (hb0.trans (hb1.mono hb0.size))
  have HA := Lib.hid ((hA.below hb0 (Nat.le_refl _)).below hb1 (Nat.le_refl _))
  have HS := Lib.hid ((hS.below hb0 (Nat.le_refl _)).below hb1 (Nat.le_refl _))
  have HD := Lib.hid (hD0.below hb1 hD0.lt)
  have HE := Lib.hid (show Whole w0 Db 55 #[.string us, .slice AT NT cT, .string tx] by rw [← hw0, ← hDb]; exact Whole.made _ _ _)
  clear hA hS hb0 hb1 hD0 hus htx
  by_cases hr0 : r < 0
  · clear hr
    have HRE := Lib.hid (HRN.out hr0)
    have cHD0 := HD.out.cell 0
    have cHD1 := HD.out.cell 1
    have cHE0 := HE.out.cell 0
    have cHE1 := HE.out.cell 1
    have cHE2 := HE.out.cell 2
    simp only [List.getElem?_toArray, List.getElem?_cons_zero, List.getElem?_cons_succ] at cHD0 cHD1 cHE0 cHE1 cHE2
    go_enter Try.func15, Try.ntmps15
    go_wp2_with fail
    refine (sz_queue nx A N cap 1048576 r L w0 HA.out (by omega) (by omega) HR.out HRN.out).mono ?_
    rintro e w1 ⟨rfl, hb⟩
    clear cHD0 cHD1 cHE0 cHE1 cHE2
    have HB_1 := Lib.hid (HB.out.trans (hb.mono HB.out.size))
    have HA_1 := Lib.hid (HA.out.below hb (Nat.le_refl _))
    have HS_1 := Lib.hid (HS.out.below hb (Nat.le_refl _))
    have HD_1 := Lib.hid (HD.out.below hb HD.out.lt)
    have HE_1 := Lib.hid (HE.out.below hb HE.out.lt)
    clear HE HD HS HA HB
    clear hb
    go_wp2
    go_ret
    exact ⟨rfl, HB_1.out⟩
  · obtain ⟨r2, hr2⟩ : ∃ z, szM us T tx r = z := ⟨_, rfl⟩
    have HR2 := Lib.hid hr2
    have hsm := szQ_ok (L := L) (z := 1048576) (by omega) (by rw [hr]; omega)
    have HSM := Lib.hid hsm.2
    have hN : N ≤ 1048576 := by have := hsm.1; rw [HN.out] at this; omega
    have hT : Hid (∀ g ∈ L, g.T.length ≤ 1048576) := Lib.hid (fun g hg => by have := (HSM.out g hg).2.2.1; omega)
    have HTO := Lib.hid (szQ_tot (L := L) (by rw [hr]; omega))
    have HF0 : Hid (Fine (L.map keyI)) := Lib.hid ⟨smK_to HSM.out, by have := HTO.out; omega, by rw [List.length_map, HN.out]; omega⟩
    clear hr hsm
    by_cases hr20 : r2 < 0
    · clear hr2
      have cHD0 := HD.out.cell 0
      have cHD1 := HD.out.cell 1
      have cHE0 := HE.out.cell 0
      have cHE1 := HE.out.cell 1
      have cHE2 := HE.out.cell 2
      simp only [List.getElem?_toArray, List.getElem?_cons_zero, List.getElem?_cons_succ] at cHD0 cHD1 cHE0 cHE1 cHE2
      go_enter Try.func15, Try.ntmps15
      go_wp2_with fail
      refine (sz_queue nx A N cap 1048576 r L w0 HA.out (by omega) (by omega) HR.out HRN.out).mono ?_
      rintro e w1 ⟨rfl, hb⟩
      clear cHD0 cHD1 cHE0 cHE1 cHE2
      have HB_1 := Lib.hid (HB.out.trans (hb.mono HB.out.size))
      have HA_1 := Lib.hid (HA.out.below hb (Nat.le_refl _))
      have HS_1 := Lib.hid (HS.out.below hb (Nat.le_refl _))
      have HD_1 := Lib.hid (HD.out.below hb HD.out.lt)
      have HE_1 := Lib.hid (HE.out.below hb HE.out.lt)
      clear HE HD HS HA HB
      clear hb
      have cHE0 := HE_1.out.cell 0
      have cHE1 := HE_1.out.cell 1
      have cHE2 := HE_1.out.cell 2
      simp only [List.getElem?_toArray, List.getElem?_cons_zero, List.getElem?_cons_succ] at cHE0 cHE1 cHE2
      go_wp2_with fail
      refine (sz_letter us tx T AT NT cT r r2 w1 HS_1.out HU.out HX.out (by omega) (by omega) HR2.out).mono ?_
      rintro e w2 ⟨rfl, hb⟩
      clear cHE0 cHE1 cHE2
      have HB_2 := Lib.hid (HB_1.out.trans (hb.mono HB_1.out.size))
      have HA_2 := Lib.hid (HA_1.out.below hb (Nat.le_refl _))
      have HS_2 := Lib.hid (HS_1.out.below hb (Nat.le_refl _))
      have HD_2 := Lib.hid (HD_1.out.below hb HD_1.out.lt)
      have HE_2 := Lib.hid (HE_1.out.below hb HE_1.out.lt)
      clear HE_1 HD_1 HS_1 HA_1 HB_1
      clear hb
      go_wp2
      go_ret
      exact ⟨rfl, HB_2.out⟩
    · have hsm := szM_ok (a := us) (L := T) (c := tx) (z := r) (by omega) (by rw [hr2]; omega)
      have hNT : NT ≤ 1048576 := by have := hsm.2.1; rw [HNT.out] at this; omega
      have HUU : Hid (us.size ≤ 16777216) := Lib.hid (by have := hsm.1; omega)
      have HTL : Hid (T.length ≤ 4194304) := Lib.hid (by have := hsm.2.1; omega)
      have HTG : Hid (∀ g ∈ T, g.size ≤ 16777216) := Lib.hid (fun g hg => by have := hsm.2.2.2 g hg; omega)
      have HSK : Hid (SmK 1048576 (nx, us, tx, T)) := Lib.hid ⟨by show (us.size : Int) ≤ 1048576; have := hsm.1; omega, by show (tx.size : Int) ≤ 1048576; have := hsm.2.2.1; omega, by show (T.length : Int) ≤ 1048576; have := hsm.2.1; omega, fun g hg => by have := hsm.2.2.2 g hg; omega⟩
      obtain ⟨n6, hn6⟩ : ∃ x, qaN nx L us tx T = x := ⟨_, rfl⟩
      obtain ⟨K6, hk6⟩ : ∃ x, qaK nx L us tx T = x := ⟨_, rfl⟩
      obtain ⟨ok6, ho6⟩ : ∃ x, qaO nx L us tx T = x := ⟨_, rfl⟩
      have HQT : Hid (∀ M : List QI, M.map keyI = L.map keyI → qaN nx M us tx T = n6 ∧ qaK nx M us tx T = K6 ∧ qaO nx M us tx T = ok6) := Lib.hid (fun M hk => by
        obtain ⟨h1, h2, h3⟩ := qa_key (n := nx) hk us tx T
        exact ⟨h1.trans hn6, h2.trans hk6, h3.trans ho6⟩)
      have HFK : Hid (Fine K6) := Lib.hid (by rw [← hk6]; exact qa_fine HSM.out (by rw [HN.out]; exact hN) HTO.out HSK.out)
      have hoo : (ok6 != ok6) = false := by simp
      clear hr2 hsm hn6 hk6 ho6
      have cHD0 := HD.out.cell 0
      have cHD1 := HD.out.cell 1
      have cHE0 := HE.out.cell 0
      have cHE1 := HE.out.cell 1
      have cHE2 := HE.out.cell 2
      simp only [List.getElem?_toArray, List.getElem?_cons_zero, List.getElem?_cons_succ] at cHD0 cHD1 cHE0 cHE1 cHE2
      go_enter Try.func15, Try.ntmps15
      go_wp2_with fail
      refine (sz_queue nx A N cap 1048576 r L w0 HA.out (by omega) (by omega) HR.out HRN.out).mono ?_
      rintro e w1 ⟨rfl, hb⟩
      clear cHD0 cHD1 cHE0 cHE1 cHE2
      have HB_1 := Lib.hid (HB.out.trans (hb.mono HB.out.size))
      have HA_1 := Lib.hid (HA.out.below hb (Nat.le_refl _))
      have HS_1 := Lib.hid (HS.out.below hb (Nat.le_refl _))
      have HD_1 := Lib.hid (HD.out.below hb HD.out.lt)
      have HE_1 := Lib.hid (HE.out.below hb HE.out.lt)
      clear HE HD HS HA HB
      clear hb
      have cHE0 := HE_1.out.cell 0
      have cHE1 := HE_1.out.cell 1
      have cHE2 := HE_1.out.cell 2
      simp only [List.getElem?_toArray, List.getElem?_cons_zero, List.getElem?_cons_succ] at cHE0 cHE1 cHE2
      go_wp2_with fail
      refine (sz_letter us tx T AT NT cT r r2 w1 HS_1.out HU.out HX.out (by omega) (by omega) HR2.out).mono ?_
      rintro e w2 ⟨rfl, hb⟩
      clear cHE0 cHE1 cHE2
      have HB_2 := Lib.hid (HB_1.out.trans (hb.mono HB_1.out.size))
      have HA_2 := Lib.hid (HA_1.out.below hb (Nat.le_refl _))
      have HS_2 := Lib.hid (HS_1.out.below hb (Nat.le_refl _))
      have HD_2 := Lib.hid (HD_1.out.below hb HD_1.out.lt)
      have HE_2 := Lib.hid (HE_1.out.below hb HE_1.out.lt)
      clear HE_1 HD_1 HS_1 HA_1 HB_1
      clear hb
      have cHD0 := HD_2.out.cell 0
      have cHD1 := HD_2.out.cell 1
      have cHE0 := HE_2.out.cell 0
      have cHE1 := HE_2.out.cell 1
      have cHE2 := HE_2.out.cell 2
      simp only [List.getElem?_toArray, List.getElem?_cons_zero, List.getElem?_cons_succ] at cHD0 cHD1 cHE0 cHE1 cHE2
      go_upto_region 8 with fail
      go_cut [6, 7] (fun s1 s2 wxs => ∃ (F : Nat) (A' : Option Addr) (N' c' : Nat) (L' : List QI), s1 = .pointer (some ⟨F, 0, none⟩) ∧ s2 = .bool ok6 ∧ Hid (Below w2.heap.size w2 wxs) ∧ Hid (Whole wxs F 31 #[.int .i64 n6, .slice A' N' c']) ∧ Hid (QIn wxs A' N' c' L') ∧ Hid (L'.map keyI = K6))
      case first =>
        have CS : ∀ wx, Below w2.heap.size w2 wx → (fun w' => w'.cell? ⟨Da, 0, none⟩ = some (.int .i64 nx) ∧ w'.cell? ⟨Da, 1, none⟩ = some (.slice A N cap) ∧ w'.cell? ⟨Db, 0, none⟩ = some (.string us) ∧ w'.cell? ⟨Db, 1, none⟩ = some (.slice AT NT cT) ∧ w'.cell? ⟨Db, 2, none⟩ = some (.string tx)) wx := fun wx hbx => ⟨(hbx.cell (p := ⟨Da, 0, none⟩) HD_2.out.lt).trans cHD0, (hbx.cell (p := ⟨Da, 1, none⟩) HD_2.out.lt).trans cHD1, (hbx.cell (p := ⟨Db, 0, none⟩) HE_2.out.lt).trans cHE0, (hbx.cell (p := ⟨Db, 1, none⟩) HE_2.out.lt).trans cHE1, (hbx.cell (p := ⟨Db, 2, none⟩) HE_2.out.lt).trans cHE2⟩
        have hbd := below_drew1 w2
        clear cHD0 cHD1 cHE0 cHE1 cHE2
        have HA_3 := Lib.hid (HA_2.out.below hbd (Nat.le_refl _))
        have HS_3 := Lib.hid (HS_2.out.below hbd (Nat.le_refl _))
        have HBR := Lib.hid hbd
        have hcd := CS _ hbd
        clear hbd
        refine wp_region_late (fun w' => w'.cell? ⟨Da, 0, none⟩ = some (.int .i64 nx) ∧ w'.cell? ⟨Da, 1, none⟩ = some (.slice A N cap) ∧ w'.cell? ⟨Db, 0, none⟩ = some (.string us) ∧ w'.cell? ⟨Db, 1, none⟩ = some (.slice AT NT cT) ∧ w'.cell? ⟨Db, 2, none⟩ = some (.string tx)) 10 (by kernel_rfl) ?_
        revert HA_3 HS_3 HBR hcd
        generalize w2.drew = wd
        intro HA_3 HS_3 HBR hcd
        refine wpLate_take (i := 0) (v := ?v0s) rfl (by kernel_rfl) (by kernel_rfl) (by kernel_rfl) (by kernel_rfl) (by kernel_rfl) (fun _ _ _ h => h) hcd (by rfl) ?hy0s ?r0s
        case hy0s =>
          rintro wz ⟨z0, z1, z2, z3, z4⟩
          go_simp
          try with_reducible rfl
        try simp only [Act.put]
        refine wpLate_take (i := 2) (v := ?v2s) rfl (by kernel_rfl) (by kernel_rfl) (by kernel_rfl) (by kernel_rfl) (by kernel_rfl) (fun _ _ _ h => h) hcd (by rfl) ?hy2s ?r2s
        case hy2s =>
          rintro wz ⟨z0, z1, z2, z3, z4⟩
          go_simp
          try with_reducible rfl
        try simp only [Act.put]
        refine wpLate_two (i := 1) (k := 8) (by kernel_rfl) rfl rfl (fun K hK => ?xs) (fun K hK => ?ys)
        case xs =>
          go_simp
          refine (to_queueA nx A N cap L wd HA_3.out hN hT.out).mono ?_
          rintro e v3q ⟨g1, M1, rfl, hk, ho, hb⟩
          have HA_4 := Lib.hid (HA_3.out.below hb (Nat.le_refl _))
          have HS_4 := Lib.hid (HS_3.out.below hb (Nat.le_refl _))
          have HBR_4 := Lib.hid (HBR.out.trans (hb.mono HBR.out.size))
          clear HBR HS_3 HA_3
          have HK1 := Lib.hid hk
          have HM := Lib.hid ((show Fine (M1.map keyI) by rw [hk]; exact HF0.out).qin ho)
          clear hk ho hb
          refine hK.out _ _ (fun _ => (CS _ HBR_4.out)) ?_
          clear hK K
          try simp only [Act.put]
          refine wpLate_two (i := 3) (k := 8) (by kernel_rfl) rfl rfl (fun K hK => ?xsa) (fun K hK => ?ysa)
          case xsa =>
            go_simp
            refine (to_letter us tx T AT NT cT v3q HS_4.out hNT).mono ?_
            rintro e v4l ⟨g2, rfl, ho, hb⟩
            have HA_5 := Lib.hid (HA_4.out.below hb (Nat.le_refl _))
            have HS_5 := Lib.hid (HS_4.out.below hb (Nat.le_refl _))
            have HBR_5 := Lib.hid (HBR_4.out.trans (hb.mono HBR_4.out.size))
            have HM_5 := Lib.hid (HM.out.below hb (Nat.le_refl _))
            clear HM HBR_4 HS_4 HA_4
            have HL := Lib.hid (SIn.made ho HTL.out HTG.out)
            clear ho hb
            refine hK.out _ _ (fun _ => (CS _ HBR_5.out)) ?_
            clear hK K
            try simp only [Act.put]
            refine wpLate_two (i := 4) (k := 8) (by kernel_rfl) rfl rfl (fun K hK => ?xsaa) (fun K hK => ?ysaa)
            case xsaa =>
              go_simp
              have HCA := spec_queueadd (n := nx) us tx T (some ⟨g2, 0, none⟩) NT NT v4l HM_5.out HL.out HUU.out
              rw [(HQT.out M1 HK1.out).1, (HQT.out M1 HK1.out).2.1, (HQT.out M1 HK1.out).2.2] at HCA
              refine HCA.mono ?_
              rintro e v5a ⟨A8, N8, c8, L8, rfl, ho, hk, hb⟩
              clear HCA
              clear HM_5
              clear HL
              have HA_6 := Lib.hid (HA_5.out.below hb (Nat.le_refl _))
              have HS_6 := Lib.hid (HS_5.out.below hb (Nat.le_refl _))
              have HBR_6 := Lib.hid (HBR_5.out.trans (hb.mono HBR_5.out.size))
              clear HBR_5 HS_5 HA_5
              have HKR := Lib.hid hk
              have HO := Lib.hid (ho)
              clear hk ho hb
              refine hK.out _ _ (fun _ => (CS _ HBR_6.out)) ?_
              clear hK K
              try simp only [Act.put]
              refine wpLate_take (i := 5) (v := ?v5ssaaa) rfl (by kernel_rfl) (by kernel_rfl) (by kernel_rfl) (by kernel_rfl) (by kernel_rfl) (fun _ _ _ h => h) (CS _ HBR_6.out) (by rfl) ?hy5ssaaa ?r5ssaaa
              case hy5ssaaa =>
                rintro wz ⟨z0, z1, z2, z3, z4⟩
                go_simp
                try with_reducible rfl
              try simp only [Act.put]
              refine wpLate_take (i := 6) (v := ?v6ssaaa) rfl (by kernel_rfl) (by kernel_rfl) (by kernel_rfl) (by kernel_rfl) (by kernel_rfl) (fun _ _ _ h => h) (CS _ HBR_6.out) (by rfl) ?hy6ssaaa ?r6ssaaa
              case hy6ssaaa =>
                rintro wz ⟨z0, z1, z2, z3, z4⟩
                go_simp
                try with_reducible rfl
              try simp only [Act.put]
              refine wpLate_take (i := 7) (v := ?v7ssaaa) rfl (by kernel_rfl) (by kernel_rfl) (by kernel_rfl) (by kernel_rfl) (by kernel_rfl) (fun _ _ _ h => h) (CS _ HBR_6.out) (by rfl) ?hy7ssaaa ?r7ssaaa
              case hy7ssaaa =>
                rintro wz ⟨z0, z1, z2, z3, z4⟩
                go_simp
                try with_reducible rfl
              try simp only [Act.put]
              refine wpLate_one (i := 8) (by kernel_rfl) rfl (fun K hK => ?_)
              obtain ⟨F, hF⟩ : ∃ F, v5a.heap.size = F := ⟨_, rfl⟩
              obtain ⟨v6c, hv6c⟩ : ∃ z, v5a.alloc (.cells #[.int .i64 0, .slice none 0 0] 31) = z := ⟨_, rfl⟩
              have HFL : Hid (w2.heap.size ≤ F) := Lib.hid (by rw [← hF]; exact HBR_6.out.size)
              have hbc : Below v5a.heap.size v5a v6c := by rw [← hv6c]; exact below_newq v5a _ _
              have HF' := Lib.hid (show Whole v6c F 31 #[.int .i64 0, .slice none 0 0] by rw [← hv6c, ← hF]; exact Whole.made _ _ _)
              have HA_7 := Lib.hid (HA_6.out.below hbc (Nat.le_refl _))
              have HS_7 := Lib.hid (HS_6.out.below hbc (Nat.le_refl _))
              have HBR_7 := Lib.hid (HBR_6.out.trans (hbc.mono HBR_6.out.size))
              have HO_7 := Lib.hid (HO.out.kept hbc)
              clear HO HBR_6 HS_6 HA_6
              clear hbc
              go_simp
              refine hK.out _ _ (fun _ => (CS _ HBR_7.out)) ?_
              clear hK K
              try simp only [Act.put]
              have HBs := Lib.hid (show Below w2.heap.size w2 ((v6c.setCell ⟨F, 0, none⟩ (.int .i64 n6)).setCell ⟨F, 1, none⟩ (.slice A8 N8 c8)) from ((HBR_7.out.setCell (p := ⟨F, 0, none⟩) HFL.out _).setCell (p := ⟨F, 1, none⟩) HFL.out _))
              have HFs : Hid (Whole ((v6c.setCell ⟨F, 0, none⟩ (.int .i64 n6)).setCell ⟨F, 1, none⟩ (.slice A8 N8 c8)) F 31 #[.int .i64 n6, .slice A8 N8 c8]) := Lib.hid ((HF'.out.store 0 _).store 1 _)
              have HIs : Hid (QIn ((v6c.setCell ⟨F, 0, none⟩ (.int .i64 n6)).setCell ⟨F, 1, none⟩ (.slice A8 N8 c8)) A8 N8 c8 L8) := Lib.hid ((show Fine (L8.map keyI) by rw [HKR.out]; exact HFK.out).qin ((HO_7.out.storeT HF'.out (by decide) (by decide) _).storeT (HF'.out.store 0 _) (by decide) (by decide) _))
              have f0 := HF'.out.cell 0
              have f1 := HF'.out.cell 1
              have j0 := HF'.out.free 0
              have j1 := HF'.out.free 1
              simp only [List.getElem?_toArray, List.getElem?_cons_zero, List.getElem?_cons_succ] at f0 f1
              have hcs := CS _ HBs.out
              refine wpLate_one (i := 9) (by kernel_rfl) rfl (fun K hK => ?_)
              go_simp
              refine hK.out _ _ (fun _ => hcs) ?_
              clear hK K
              try simp only [Act.put]
              refine wpLate_one (i := 10) (by kernel_rfl) rfl (fun K hK => ?_)
              go_simp
              refine hK.out _ _ (fun h => absurd rfl h) ?_
              clear hK K
              try simp only [Act.put]
              refine wpLate_done (by kernel_rfl) ?_ _
              go_wp2_with fail
              go_meet
              case rel => exact ⟨F, A8, N8, c8, L8, rfl, rfl, HBs, HFs, HIs, HKR⟩
            case ysaa =>
              obtain ⟨F, hF⟩ : ∃ F, v4l.heap.size = F := ⟨_, rfl⟩
              obtain ⟨v5c, hv5c⟩ : ∃ z, v4l.alloc (.cells #[.int .i64 0, .slice none 0 0] 31) = z := ⟨_, rfl⟩
              have HFL : Hid (w2.heap.size ≤ F) := Lib.hid (by rw [← hF]; exact HBR_5.out.size)
              have hbc : Below v4l.heap.size v4l v5c := by rw [← hv5c]; exact below_newq v4l _ _
              have HF' := Lib.hid (show Whole v5c F 31 #[.int .i64 0, .slice none 0 0] by rw [← hv5c, ← hF]; exact Whole.made _ _ _)
              have HA_6 := Lib.hid (HA_5.out.below hbc (Nat.le_refl _))
              have HS_6 := Lib.hid (HS_5.out.below hbc (Nat.le_refl _))
              have HBR_6 := Lib.hid (HBR_5.out.trans (hbc.mono HBR_5.out.size))
              have HM_6 := Lib.hid (HM_5.out.below hbc (Nat.le_refl _))
              have HL_6 := Lib.hid (HL.out.below hbc (Nat.le_refl _))
              clear HL HM_5 HBR_5 HS_5 HA_5
              clear hbc
              go_simp
              refine hK.out _ _ (fun _ => (CS _ HBR_6.out)) ?_
              clear hK K
              try simp only [Act.put]
              refine wpLate_one (i := 4) (by kernel_rfl) rfl (fun K hK => ?_)
              go_simp
              have HCA := spec_queueadd (n := nx) us tx T (some ⟨g2, 0, none⟩) NT NT v5c HM_6.out HL_6.out HUU.out
              rw [(HQT.out M1 HK1.out).1, (HQT.out M1 HK1.out).2.1, (HQT.out M1 HK1.out).2.2] at HCA
              refine HCA.mono ?_
              rintro e v6a ⟨A8, N8, c8, L8, rfl, ho, hk, hb⟩
              clear HCA
              clear HM_6
              clear HL_6
              have HA_7 := Lib.hid (HA_6.out.below hb (Nat.le_refl _))
              have HS_7 := Lib.hid (HS_6.out.below hb (Nat.le_refl _))
              have HBR_7 := Lib.hid (HBR_6.out.trans (hb.mono HBR_6.out.size))
              have HF'_7 := Lib.hid (HF'.out.below hb HF'.out.lt)
              clear HF' HBR_6 HS_6 HA_6
              have HKR := Lib.hid hk
              have HO := Lib.hid (ho)
              clear hk ho hb
              refine hK.out _ _ (fun _ => (CS _ HBR_7.out)) ?_
              clear hK K
              try simp only [Act.put]
              refine wpLate_take (i := 5) (v := ?v5ssaabo) rfl (by kernel_rfl) (by kernel_rfl) (by kernel_rfl) (by kernel_rfl) (by kernel_rfl) (fun _ _ _ h => h) (CS _ HBR_7.out) (by rfl) ?hy5ssaabo ?r5ssaabo
              case hy5ssaabo =>
                rintro wz ⟨z0, z1, z2, z3, z4⟩
                go_simp
                try with_reducible rfl
              try simp only [Act.put]
              refine wpLate_take (i := 6) (v := ?v6ssaabo) rfl (by kernel_rfl) (by kernel_rfl) (by kernel_rfl) (by kernel_rfl) (by kernel_rfl) (fun _ _ _ h => h) (CS _ HBR_7.out) (by rfl) ?hy6ssaabo ?r6ssaabo
              case hy6ssaabo =>
                rintro wz ⟨z0, z1, z2, z3, z4⟩
                go_simp
                try with_reducible rfl
              try simp only [Act.put]
              refine wpLate_take (i := 7) (v := ?v7ssaabo) rfl (by kernel_rfl) (by kernel_rfl) (by kernel_rfl) (by kernel_rfl) (by kernel_rfl) (fun _ _ _ h => h) (CS _ HBR_7.out) (by rfl) ?hy7ssaabo ?r7ssaabo
              case hy7ssaabo =>
                rintro wz ⟨z0, z1, z2, z3, z4⟩
                go_simp
                try with_reducible rfl
              try simp only [Act.put]
              have HBs := Lib.hid (show Below w2.heap.size w2 ((v6a.setCell ⟨F, 0, none⟩ (.int .i64 n6)).setCell ⟨F, 1, none⟩ (.slice A8 N8 c8)) from ((HBR_7.out.setCell (p := ⟨F, 0, none⟩) HFL.out _).setCell (p := ⟨F, 1, none⟩) HFL.out _))
              have HFs : Hid (Whole ((v6a.setCell ⟨F, 0, none⟩ (.int .i64 n6)).setCell ⟨F, 1, none⟩ (.slice A8 N8 c8)) F 31 #[.int .i64 n6, .slice A8 N8 c8]) := Lib.hid ((HF'_7.out.store 0 _).store 1 _)
              have HIs : Hid (QIn ((v6a.setCell ⟨F, 0, none⟩ (.int .i64 n6)).setCell ⟨F, 1, none⟩ (.slice A8 N8 c8)) A8 N8 c8 L8) := Lib.hid ((show Fine (L8.map keyI) by rw [HKR.out]; exact HFK.out).qin ((HO.out.storeT HF'_7.out (by decide) (by decide) _).storeT (HF'_7.out.store 0 _) (by decide) (by decide) _))
              have f0 := HF'_7.out.cell 0
              have f1 := HF'_7.out.cell 1
              have j0 := HF'_7.out.free 0
              have j1 := HF'_7.out.free 1
              simp only [List.getElem?_toArray, List.getElem?_cons_zero, List.getElem?_cons_succ] at f0 f1
              have hcs := CS _ HBs.out
              refine wpLate_one (i := 9) (by kernel_rfl) rfl (fun K hK => ?_)
              go_simp
              refine hK.out _ _ (fun _ => hcs) ?_
              clear hK K
              try simp only [Act.put]
              refine wpLate_one (i := 10) (by kernel_rfl) rfl (fun K hK => ?_)
              go_simp
              refine hK.out _ _ (fun h => absurd rfl h) ?_
              clear hK K
              try simp only [Act.put]
              refine wpLate_done (by kernel_rfl) ?_ _
              go_wp2_with fail
              go_meet
              case rel => exact ⟨F, A8, N8, c8, L8, rfl, rfl, HBs, HFs, HIs, HKR⟩
          case ysa =>
            obtain ⟨F, hF⟩ : ∃ F, v3q.heap.size = F := ⟨_, rfl⟩
            obtain ⟨v4c, hv4c⟩ : ∃ z, v3q.alloc (.cells #[.int .i64 0, .slice none 0 0] 31) = z := ⟨_, rfl⟩
            have HFL : Hid (w2.heap.size ≤ F) := Lib.hid (by rw [← hF]; exact HBR_4.out.size)
            have hbc : Below v3q.heap.size v3q v4c := by rw [← hv4c]; exact below_newq v3q _ _
            have HF' := Lib.hid (show Whole v4c F 31 #[.int .i64 0, .slice none 0 0] by rw [← hv4c, ← hF]; exact Whole.made _ _ _)
            have HA_5 := Lib.hid (HA_4.out.below hbc (Nat.le_refl _))
            have HS_5 := Lib.hid (HS_4.out.below hbc (Nat.le_refl _))
            have HBR_5 := Lib.hid (HBR_4.out.trans (hbc.mono HBR_4.out.size))
            have HM_5 := Lib.hid (HM.out.below hbc (Nat.le_refl _))
            clear HM HBR_4 HS_4 HA_4
            clear hbc
            go_simp
            refine hK.out _ _ (fun _ => (CS _ HBR_5.out)) ?_
            clear hK K
            try simp only [Act.put]
            refine wpLate_one (i := 3) (by kernel_rfl) rfl (fun K hK => ?_)
            go_simp
            refine (to_letter us tx T AT NT cT v4c HS_5.out hNT).mono ?_
            rintro e v5l ⟨g2, rfl, ho, hb⟩
            have HA_6 := Lib.hid (HA_5.out.below hb (Nat.le_refl _))
            have HS_6 := Lib.hid (HS_5.out.below hb (Nat.le_refl _))
            have HBR_6 := Lib.hid (HBR_5.out.trans (hb.mono HBR_5.out.size))
            have HM_6 := Lib.hid (HM_5.out.below hb (Nat.le_refl _))
            have HF'_6 := Lib.hid (HF'.out.below hb HF'.out.lt)
            clear HF' HM_5 HBR_5 HS_5 HA_5
            have HL := Lib.hid (SIn.made ho HTL.out HTG.out)
            clear ho hb
            refine hK.out _ _ (fun _ => (CS _ HBR_6.out)) ?_
            clear hK K
            try simp only [Act.put]
            refine wpLate_one (i := 4) (by kernel_rfl) rfl (fun K hK => ?_)
            go_simp
            have HCA := spec_queueadd (n := nx) us tx T (some ⟨g2, 0, none⟩) NT NT v5l HM_6.out HL.out HUU.out
            rw [(HQT.out M1 HK1.out).1, (HQT.out M1 HK1.out).2.1, (HQT.out M1 HK1.out).2.2] at HCA
            refine HCA.mono ?_
            rintro e v6a ⟨A8, N8, c8, L8, rfl, ho, hk, hb⟩
            clear HCA
            clear HM_6
            clear HL
            have HA_7 := Lib.hid (HA_6.out.below hb (Nat.le_refl _))
            have HS_7 := Lib.hid (HS_6.out.below hb (Nat.le_refl _))
            have HBR_7 := Lib.hid (HBR_6.out.trans (hb.mono HBR_6.out.size))
            have HF'_7 := Lib.hid (HF'_6.out.below hb HF'_6.out.lt)
            clear HF'_6 HBR_6 HS_6 HA_6
            have HKR := Lib.hid hk
            have HO := Lib.hid (ho)
            clear hk ho hb
            refine hK.out _ _ (fun _ => (CS _ HBR_7.out)) ?_
            clear hK K
            try simp only [Act.put]
            refine wpLate_take (i := 5) (v := ?v5ssaboo) rfl (by kernel_rfl) (by kernel_rfl) (by kernel_rfl) (by kernel_rfl) (by kernel_rfl) (fun _ _ _ h => h) (CS _ HBR_7.out) (by rfl) ?hy5ssaboo ?r5ssaboo
            case hy5ssaboo =>
              rintro wz ⟨z0, z1, z2, z3, z4⟩
              go_simp
              try with_reducible rfl
            try simp only [Act.put]
            refine wpLate_take (i := 6) (v := ?v6ssaboo) rfl (by kernel_rfl) (by kernel_rfl) (by kernel_rfl) (by kernel_rfl) (by kernel_rfl) (fun _ _ _ h => h) (CS _ HBR_7.out) (by rfl) ?hy6ssaboo ?r6ssaboo
            case hy6ssaboo =>
              rintro wz ⟨z0, z1, z2, z3, z4⟩
              go_simp
              try with_reducible rfl
            try simp only [Act.put]
            refine wpLate_take (i := 7) (v := ?v7ssaboo) rfl (by kernel_rfl) (by kernel_rfl) (by kernel_rfl) (by kernel_rfl) (by kernel_rfl) (fun _ _ _ h => h) (CS _ HBR_7.out) (by rfl) ?hy7ssaboo ?r7ssaboo
            case hy7ssaboo =>
              rintro wz ⟨z0, z1, z2, z3, z4⟩
              go_simp
              try with_reducible rfl
            try simp only [Act.put]
            have HBs := Lib.hid (show Below w2.heap.size w2 ((v6a.setCell ⟨F, 0, none⟩ (.int .i64 n6)).setCell ⟨F, 1, none⟩ (.slice A8 N8 c8)) from ((HBR_7.out.setCell (p := ⟨F, 0, none⟩) HFL.out _).setCell (p := ⟨F, 1, none⟩) HFL.out _))
            have HFs : Hid (Whole ((v6a.setCell ⟨F, 0, none⟩ (.int .i64 n6)).setCell ⟨F, 1, none⟩ (.slice A8 N8 c8)) F 31 #[.int .i64 n6, .slice A8 N8 c8]) := Lib.hid ((HF'_7.out.store 0 _).store 1 _)
            have HIs : Hid (QIn ((v6a.setCell ⟨F, 0, none⟩ (.int .i64 n6)).setCell ⟨F, 1, none⟩ (.slice A8 N8 c8)) A8 N8 c8 L8) := Lib.hid ((show Fine (L8.map keyI) by rw [HKR.out]; exact HFK.out).qin ((HO.out.storeT HF'_7.out (by decide) (by decide) _).storeT (HF'_7.out.store 0 _) (by decide) (by decide) _))
            have f0 := HF'_7.out.cell 0
            have f1 := HF'_7.out.cell 1
            have j0 := HF'_7.out.free 0
            have j1 := HF'_7.out.free 1
            simp only [List.getElem?_toArray, List.getElem?_cons_zero, List.getElem?_cons_succ] at f0 f1
            have hcs := CS _ HBs.out
            refine wpLate_one (i := 9) (by kernel_rfl) rfl (fun K hK => ?_)
            go_simp
            refine hK.out _ _ (fun _ => hcs) ?_
            clear hK K
            try simp only [Act.put]
            refine wpLate_one (i := 10) (by kernel_rfl) rfl (fun K hK => ?_)
            go_simp
            refine hK.out _ _ (fun h => absurd rfl h) ?_
            clear hK K
            try simp only [Act.put]
            refine wpLate_done (by kernel_rfl) ?_ _
            go_wp2_with fail
            go_meet
            case rel => exact ⟨F, A8, N8, c8, L8, rfl, rfl, HBs, HFs, HIs, HKR⟩
        case ys =>
          obtain ⟨F, hF⟩ : ∃ F, wd.heap.size = F := ⟨_, rfl⟩
          obtain ⟨v3c, hv3c⟩ : ∃ z, wd.alloc (.cells #[.int .i64 0, .slice none 0 0] 31) = z := ⟨_, rfl⟩
          have HFL : Hid (w2.heap.size ≤ F) := Lib.hid (by rw [← hF]; exact HBR.out.size)
          have hbc : Below wd.heap.size wd v3c := by rw [← hv3c]; exact below_newq wd _ _
          have HF' := Lib.hid (show Whole v3c F 31 #[.int .i64 0, .slice none 0 0] by rw [← hv3c, ← hF]; exact Whole.made _ _ _)
          have HA_4 := Lib.hid (HA_3.out.below hbc (Nat.le_refl _))
          have HS_4 := Lib.hid (HS_3.out.below hbc (Nat.le_refl _))
          have HBR_4 := Lib.hid (HBR.out.trans (hbc.mono HBR.out.size))
          clear HBR HS_3 HA_3
          clear hbc
          go_simp
          refine hK.out _ _ (fun _ => (CS _ HBR_4.out)) ?_
          clear hK K
          try simp only [Act.put]
          refine wpLate_one (i := 1) (by kernel_rfl) rfl (fun K hK => ?_)
          go_simp
          refine (to_queueA nx A N cap L v3c HA_4.out hN hT.out).mono ?_
          rintro e v4q ⟨g1, M1, rfl, hk, ho, hb⟩
          have HA_5 := Lib.hid (HA_4.out.below hb (Nat.le_refl _))
          have HS_5 := Lib.hid (HS_4.out.below hb (Nat.le_refl _))
          have HBR_5 := Lib.hid (HBR_4.out.trans (hb.mono HBR_4.out.size))
          have HF'_5 := Lib.hid (HF'.out.below hb HF'.out.lt)
          clear HF' HBR_4 HS_4 HA_4
          have HK1 := Lib.hid hk
          have HM := Lib.hid ((show Fine (M1.map keyI) by rw [hk]; exact HF0.out).qin ho)
          clear hk ho hb
          refine hK.out _ _ (fun _ => (CS _ HBR_5.out)) ?_
          clear hK K
          try simp only [Act.put]
          refine wpLate_one (i := 3) (by kernel_rfl) rfl (fun K hK => ?_)
          go_simp
          refine (to_letter us tx T AT NT cT v4q HS_5.out hNT).mono ?_
          rintro e v5l ⟨g2, rfl, ho, hb⟩
          have HA_6 := Lib.hid (HA_5.out.below hb (Nat.le_refl _))
          have HS_6 := Lib.hid (HS_5.out.below hb (Nat.le_refl _))
          have HBR_6 := Lib.hid (HBR_5.out.trans (hb.mono HBR_5.out.size))
          have HF'_6 := Lib.hid (HF'_5.out.below hb HF'_5.out.lt)
          have HM_6 := Lib.hid (HM.out.below hb (Nat.le_refl _))
          clear HM HF'_5 HBR_5 HS_5 HA_5
          have HL := Lib.hid (SIn.made ho HTL.out HTG.out)
          clear ho hb
          refine hK.out _ _ (fun _ => (CS _ HBR_6.out)) ?_
          clear hK K
          try simp only [Act.put]
          refine wpLate_one (i := 4) (by kernel_rfl) rfl (fun K hK => ?_)
          go_simp
          have HCA := spec_queueadd (n := nx) us tx T (some ⟨g2, 0, none⟩) NT NT v5l HM_6.out HL.out HUU.out
          rw [(HQT.out M1 HK1.out).1, (HQT.out M1 HK1.out).2.1, (HQT.out M1 HK1.out).2.2] at HCA
          refine HCA.mono ?_
          rintro e v6a ⟨A8, N8, c8, L8, rfl, ho, hk, hb⟩
          clear HCA
          clear HM_6
          clear HL
          have HA_7 := Lib.hid (HA_6.out.below hb (Nat.le_refl _))
          have HS_7 := Lib.hid (HS_6.out.below hb (Nat.le_refl _))
          have HBR_7 := Lib.hid (HBR_6.out.trans (hb.mono HBR_6.out.size))
          have HF'_7 := Lib.hid (HF'_6.out.below hb HF'_6.out.lt)
          clear HF'_6 HBR_6 HS_6 HA_6
          have HKR := Lib.hid hk
          have HO := Lib.hid (ho)
          clear hk ho hb
          refine hK.out _ _ (fun _ => (CS _ HBR_7.out)) ?_
          clear hK K
          try simp only [Act.put]
          refine wpLate_take (i := 5) (v := ?v5ssbooo) rfl (by kernel_rfl) (by kernel_rfl) (by kernel_rfl) (by kernel_rfl) (by kernel_rfl) (fun _ _ _ h => h) (CS _ HBR_7.out) (by rfl) ?hy5ssbooo ?r5ssbooo
          case hy5ssbooo =>
            rintro wz ⟨z0, z1, z2, z3, z4⟩
            go_simp
            try with_reducible rfl
          try simp only [Act.put]
          refine wpLate_take (i := 6) (v := ?v6ssbooo) rfl (by kernel_rfl) (by kernel_rfl) (by kernel_rfl) (by kernel_rfl) (by kernel_rfl) (fun _ _ _ h => h) (CS _ HBR_7.out) (by rfl) ?hy6ssbooo ?r6ssbooo
          case hy6ssbooo =>
            rintro wz ⟨z0, z1, z2, z3, z4⟩
            go_simp
            try with_reducible rfl
          try simp only [Act.put]
          refine wpLate_take (i := 7) (v := ?v7ssbooo) rfl (by kernel_rfl) (by kernel_rfl) (by kernel_rfl) (by kernel_rfl) (by kernel_rfl) (fun _ _ _ h => h) (CS _ HBR_7.out) (by rfl) ?hy7ssbooo ?r7ssbooo
          case hy7ssbooo =>
            rintro wz ⟨z0, z1, z2, z3, z4⟩
            go_simp
            try with_reducible rfl
          try simp only [Act.put]
          have HBs := Lib.hid (show Below w2.heap.size w2 ((v6a.setCell ⟨F, 0, none⟩ (.int .i64 n6)).setCell ⟨F, 1, none⟩ (.slice A8 N8 c8)) from ((HBR_7.out.setCell (p := ⟨F, 0, none⟩) HFL.out _).setCell (p := ⟨F, 1, none⟩) HFL.out _))
          have HFs : Hid (Whole ((v6a.setCell ⟨F, 0, none⟩ (.int .i64 n6)).setCell ⟨F, 1, none⟩ (.slice A8 N8 c8)) F 31 #[.int .i64 n6, .slice A8 N8 c8]) := Lib.hid ((HF'_7.out.store 0 _).store 1 _)
          have HIs : Hid (QIn ((v6a.setCell ⟨F, 0, none⟩ (.int .i64 n6)).setCell ⟨F, 1, none⟩ (.slice A8 N8 c8)) A8 N8 c8 L8) := Lib.hid ((show Fine (L8.map keyI) by rw [HKR.out]; exact HFK.out).qin ((HO.out.storeT HF'_7.out (by decide) (by decide) _).storeT (HF'_7.out.store 0 _) (by decide) (by decide) _))
          have f0 := HF'_7.out.cell 0
          have f1 := HF'_7.out.cell 1
          have j0 := HF'_7.out.free 0
          have j1 := HF'_7.out.free 1
          simp only [List.getElem?_toArray, List.getElem?_cons_zero, List.getElem?_cons_succ] at f0 f1
          have hcs := CS _ HBs.out
          refine wpLate_one (i := 9) (by kernel_rfl) rfl (fun K hK => ?_)
          go_simp
          refine hK.out _ _ (fun _ => hcs) ?_
          clear hK K
          try simp only [Act.put]
          refine wpLate_one (i := 10) (by kernel_rfl) rfl (fun K hK => ?_)
          go_simp
          refine hK.out _ _ (fun h => absurd rfl h) ?_
          clear hK K
          try simp only [Act.put]
          refine wpLate_done (by kernel_rfl) ?_ _
          go_wp2_with fail
          go_meet
          case rel => exact ⟨F, A8, N8, c8, L8, rfl, rfl, HBs, HFs, HIs, HKR⟩
      case rest =>
        obtain ⟨wxs, hwx⟩ : ∃ z, z = wc := ⟨_, rfl⟩
        subst hwx
        obtain ⟨Fs, As, Ns, cs, Ls, rfl, rfl, KB, KF, KI, KK⟩ := hcut
        have hb := KB.out
        clear cHD0 cHD1 cHE0 cHE1 cHE2
        have HB_3 := Lib.hid (HB_2.out.trans (hb.mono HB_2.out.size))
        have HA_3 := Lib.hid (HA_2.out.below hb (Nat.le_refl _))
        have HS_3 := Lib.hid (HS_2.out.below hb (Nat.le_refl _))
        have HD_3 := Lib.hid (HD_2.out.below hb HD_2.out.lt)
        have HE_3 := Lib.hid (HE_2.out.below hb HE_2.out.lt)
        clear HE_2 HD_2 HS_2 HA_2 HB_2
        have Hs := Lib.hid (KF.out)
        have HIs := Lib.hid (KI.out)
        have HKs := Lib.hid KK.out
        clear hb KB KF KI KK
        have HBb := Lib.hid HB_3.out
        have HAb := Lib.hid HA_3.out
        have HSb := Lib.hid HS_3.out
        have HDb := Lib.hid HD_3.out
        have HEb := Lib.hid HE_3.out
        have Hsb := Lib.hid Hs.out
        have HIsb := Lib.hid HIs.out
        have HBA := Lib.hid (Below.refl wxs.heap.size wxs)
        have cHD0 := HD_3.out.cell 0
        have cHD1 := HD_3.out.cell 1
        have cHE0 := HE_3.out.cell 0
        have cHE1 := HE_3.out.cell 1
        have cHE2 := HE_3.out.cell 2
        simp only [List.getElem?_toArray, List.getElem?_cons_zero, List.getElem?_cons_succ] at cHD0 cHD1 cHE0 cHE1 cHE2
        go_wp2_with fail
        refine (to_queueA nx A N cap L wxs HA_3.out hN hT.out).mono ?_
        rintro e w4 ⟨gx, M2, rfl, hk, ho, hb⟩
        clear cHD0 cHD1 cHE0 cHE1 cHE2
        have HB_4 := Lib.hid (HB_3.out.trans (hb.mono HB_3.out.size))
        have HA_4 := Lib.hid (HA_3.out.below hb (Nat.le_refl _))
        have HS_4 := Lib.hid (HS_3.out.below hb (Nat.le_refl _))
        have HD_4 := Lib.hid (HD_3.out.below hb HD_3.out.lt)
        have HE_4 := Lib.hid (HE_3.out.below hb HE_3.out.lt)
        have Hs_4 := Lib.hid (Hs.out.below hb Hs.out.lt)
        have HIs_4 := Lib.hid (HIs.out.below hb (Nat.le_refl _))
        have HBA_4 := Lib.hid (HBA.out.trans (hb.mono HBA.out.size))
        clear HBA HIs Hs HE_3 HD_3 HS_3 HA_3 HB_3
        have HZ4 := Lib.hid hb.size
        have HK2 := Lib.hid hk
        have HF2 : Hid (Fine (M2.map keyI)) := Lib.hid (by rw [hk]; exact HF0.out)
        have HIX := Lib.hid ho.inB
        have X0 := Lib.hid (ho)
        clear hk ho hb
        obtain ⟨D8, hD8⟩ : ∃ D, w4.heap.size = D := ⟨_, rfl⟩
        obtain ⟨wb, hwb⟩ : ∃ z, w4.alloc (.cells #[.int .i64 nx, .slice (some ⟨gx, 0, none⟩) N N] 31) = z := ⟨_, rfl⟩
        have hbn : Below w4.heap.size w4 wb := by rw [← hwb]; exact below_new _ _
        have HB_5 := Lib.hid (HB_4.out.trans (hbn.mono HB_4.out.size))
        have HA_5 := Lib.hid (HA_4.out.below hbn (Nat.le_refl _))
        have HS_5 := Lib.hid (HS_4.out.below hbn (Nat.le_refl _))
        have HD_5 := Lib.hid (HD_4.out.below hbn HD_4.out.lt)
        have HE_5 := Lib.hid (HE_4.out.below hbn HE_4.out.lt)
        have Hs_5 := Lib.hid (Hs_4.out.below hbn Hs_4.out.lt)
        have HIs_5 := Lib.hid (HIs_4.out.below hbn (Nat.le_refl _))
        have HBA_5 := Lib.hid (HBA_4.out.trans (hbn.mono HBA_4.out.size))
        have X0_5 := Lib.hid (X0.out.kept hbn)
        clear X0 HBA_4 HIs_4 Hs_4 HE_4 HD_4 HS_4 HA_4 HB_4
        have H8 := Lib.hid (show Whole wb D8 31 #[.int .i64 nx, .slice (some ⟨gx, 0, none⟩) N N] by rw [← hwb, ← hD8]; exact Whole.made _ _ _)
        have HD8 := Lib.hid hD8
        clear hbn
        have HZ8 := Lib.hid H8.out.lt
        have cHE0 := HE_5.out.cell 0
        have cHE1 := HE_5.out.cell 1
        have cHE2 := HE_5.out.cell 2
        simp only [List.getElem?_toArray, List.getElem?_cons_zero, List.getElem?_cons_succ] at cHE0 cHE1 cHE2
        go_wp2_with fail
        refine (to_letter us tx T AT NT cT wb HS_5.out hNT).mono ?_
        rintro e w5 ⟨gy, rfl, ho, hb⟩
        clear cHE0 cHE1 cHE2
        have HB_6 := Lib.hid (HB_5.out.trans (hb.mono HB_5.out.size))
        have HA_6 := Lib.hid (HA_5.out.below hb (Nat.le_refl _))
        have HS_6 := Lib.hid (HS_5.out.below hb (Nat.le_refl _))
        have HD_6 := Lib.hid (HD_5.out.below hb HD_5.out.lt)
        have HE_6 := Lib.hid (HE_5.out.below hb HE_5.out.lt)
        have Hs_6 := Lib.hid (Hs_5.out.below hb Hs_5.out.lt)
        have HIs_6 := Lib.hid (HIs_5.out.below hb (Nat.le_refl _))
        have HBA_6 := Lib.hid (HBA_5.out.trans (hb.mono HBA_5.out.size))
        have X0_6 := Lib.hid (X0_5.out.kept hb)
        have H8_6 := Lib.hid (H8.out.below hb H8.out.lt)
        clear H8 X0_5 HBA_5 HIs_5 Hs_5 HE_5 HD_5 HS_5 HA_5 HB_5
        have HZ5 := Lib.hid hb.size
        have HIY : Hid (wb.heap.size ≤ gy ∧ gy < w5.heap.size) := Lib.hid (World.ownsRow.lt ho gy rfl)
        have X1 := Lib.hid (ho)
        clear ho hb
        obtain ⟨D9, hD9⟩ : ∃ D, w5.heap.size = D := ⟨_, rfl⟩
        obtain ⟨w5c, hw5c⟩ : ∃ z, w5.alloc (.cells #[.string us, .slice (some ⟨gy, 0, none⟩) NT NT, .string tx] 25) = z := ⟨_, rfl⟩
        have hbn : Below w5.heap.size w5 w5c := by rw [← hw5c]; exact below_new _ _
        have HB_7 := Lib.hid (HB_6.out.trans (hbn.mono HB_6.out.size))
        have HA_7 := Lib.hid (HA_6.out.below hbn (Nat.le_refl _))
        have HS_7 := Lib.hid (HS_6.out.below hbn (Nat.le_refl _))
        have HD_7 := Lib.hid (HD_6.out.below hbn HD_6.out.lt)
        have HE_7 := Lib.hid (HE_6.out.below hbn HE_6.out.lt)
        have Hs_7 := Lib.hid (Hs_6.out.below hbn Hs_6.out.lt)
        have HIs_7 := Lib.hid (HIs_6.out.below hbn (Nat.le_refl _))
        have HBA_7 := Lib.hid (HBA_6.out.trans (hbn.mono HBA_6.out.size))
        have X0_7 := Lib.hid (X0_6.out.kept hbn)
        have H8_7 := Lib.hid (H8_6.out.below hbn H8_6.out.lt)
        have X1_7 := Lib.hid (X1.out.kept hbn)
        clear X1 H8_6 X0_6 HBA_6 HIs_6 Hs_6 HE_6 HD_6 HS_6 HA_6 HB_6
        have H9 := Lib.hid (show Whole w5c D9 25 #[.string us, .slice (some ⟨gy, 0, none⟩) NT NT, .string tx] by rw [← hw5c, ← hD9]; exact Whole.made _ _ _)
        have HD9 := Lib.hid hD9
        clear hbn
        have HZ9 := Lib.hid H9.out.lt
        have cH80 := H8_7.out.cell 0
        have cH81 := H8_7.out.cell 1
        have cH90 := H9.out.cell 0
        have cH91 := H9.out.cell 1
        have cH92 := H9.out.cell 2
        simp only [List.getElem?_toArray, List.getElem?_cons_zero, List.getElem?_cons_succ] at cH80 cH81 cH90 cH91 cH92
        go_wp2_with fail
        have HCA := impl_queueadd (n := nx) us tx T (some ⟨gy, 0, none⟩) NT NT w5c (HF2.out.qin X0_7.out) (SIn.made X1_7.out HTL.out HTG.out) HUU.out
        rw [(HQT.out M2 HK2.out).1, (HQT.out M2 HK2.out).2.1, (HQT.out M2 HK2.out).2.2] at HCA
        refine HCA.mono ?_
        rintro e w6 ⟨Ag, Ng, cg, Lg, rfl, ho, hk, hb⟩
        clear HCA
        have hNg : Ng = Ns := by have h1 := ho.1.len.1; have h2 := key_len (hk.trans HKs.out.symm); have h3 := qin_len HIs_7.out; omega
        subst hNg
        clear cH80 cH81 cH90 cH91 cH92
        have HB_8 := Lib.hid (HB_7.out.trans (hb.mono HB_7.out.size))
        have HA_8 := Lib.hid (HA_7.out.below hb (Nat.le_refl _))
        have HS_8 := Lib.hid (HS_7.out.below hb (Nat.le_refl _))
        have HD_8 := Lib.hid (HD_7.out.below hb HD_7.out.lt)
        have HE_8 := Lib.hid (HE_7.out.below hb HE_7.out.lt)
        have Hs_8 := Lib.hid (Hs_7.out.below hb Hs_7.out.lt)
        have HIs_8 := Lib.hid (HIs_7.out.below hb (Nat.le_refl _))
        have HBA_8 := Lib.hid (HBA_7.out.trans (hb.mono HBA_7.out.size))
        have X0_8 := Lib.hid (X0_7.out.kept hb)
        have H8_8 := Lib.hid (H8_7.out.below hb H8_7.out.lt)
        have X1_8 := Lib.hid (X1_7.out.kept hb)
        have H9_8 := Lib.hid (H9.out.below hb H9.out.lt)
        clear H9 X1_7 H8_7 X0_7 HBA_7 HIs_7 Hs_7 HE_7 HD_7 HS_7 HA_7 HB_7
        have HZ6 := Lib.hid hb.size
        have HKG := Lib.hid hk
        have HFG : Hid (Fine (Lg.map keyI)) := Lib.hid (by rw [hk]; exact HFK.out)
        have HIG := Lib.hid ho.inB
        have G0 := Lib.hid (ho)
        clear hk ho hb
        obtain ⟨D10, hD10⟩ : ∃ D, w6.heap.size = D := ⟨_, rfl⟩
        obtain ⟨we, hwe⟩ : ∃ z, w6.alloc (.cells #[.int .i64 n6, .slice Ag Ng cg] 31) = z := ⟨_, rfl⟩
        have hbn : Below w6.heap.size w6 we := by rw [← hwe]; exact below_new _ _
        have HB_9 := Lib.hid (HB_8.out.trans (hbn.mono HB_8.out.size))
        have HA_9 := Lib.hid (HA_8.out.below hbn (Nat.le_refl _))
        have HS_9 := Lib.hid (HS_8.out.below hbn (Nat.le_refl _))
        have HD_9 := Lib.hid (HD_8.out.below hbn HD_8.out.lt)
        have HE_9 := Lib.hid (HE_8.out.below hbn HE_8.out.lt)
        have Hs_9 := Lib.hid (Hs_8.out.below hbn Hs_8.out.lt)
        have HIs_9 := Lib.hid (HIs_8.out.below hbn (Nat.le_refl _))
        have HBA_9 := Lib.hid (HBA_8.out.trans (hbn.mono HBA_8.out.size))
        have X0_9 := Lib.hid (X0_8.out.kept hbn)
        have H8_9 := Lib.hid (H8_8.out.below hbn H8_8.out.lt)
        have X1_9 := Lib.hid (X1_8.out.kept hbn)
        have H9_9 := Lib.hid (H9_8.out.below hbn H9_8.out.lt)
        have G0_9 := Lib.hid (G0.out.kept hbn)
        clear G0 H9_8 X1_8 H8_8 X0_8 HBA_8 HIs_8 Hs_8 HE_8 HD_8 HS_8 HA_8 HB_8
        have H10 := Lib.hid (show Whole we D10 31 #[.int .i64 n6, .slice Ag Ng cg] by rw [← hwe, ← hD10]; exact Whole.made _ _ _)
        have HD10 := Lib.hid hD10
        clear hbn
        have cH100 := H10.out.cell 0
        have cH101 := H10.out.cell 1
        have cHs0 := Hs_9.out.cell 0
        have cHs1 := Hs_9.out.cell 1
        simp only [List.getElem?_toArray, List.getElem?_cons_zero, List.getElem?_cons_succ] at cH100 cH101 cHs0 cHs1
        go_wp2_with fail
        refine (eq_queue n6 Lg Ls Ag As Ng cg cs we (HFG.out.qin G0_9.out) HIs_9.out (HKG.out.trans HKs.out.symm)).mono ?_
        rintro e w7 ⟨rfl, hb⟩
        clear cH100 cH101 cHs0 cHs1
        have HB_10 := Lib.hid (HB_9.out.trans (hb.mono HB_9.out.size))
        have HA_10 := Lib.hid (HA_9.out.below hb (Nat.le_refl _))
        have HS_10 := Lib.hid (HS_9.out.below hb (Nat.le_refl _))
        have HD_10 := Lib.hid (HD_9.out.below hb HD_9.out.lt)
        have HE_10 := Lib.hid (HE_9.out.below hb HE_9.out.lt)
        have Hs_10 := Lib.hid (Hs_9.out.below hb Hs_9.out.lt)
        have HIs_10 := Lib.hid (HIs_9.out.below hb (Nat.le_refl _))
        have HBA_10 := Lib.hid (HBA_9.out.trans (hb.mono HBA_9.out.size))
        have X0_10 := Lib.hid (X0_9.out.kept hb)
        have H8_10 := Lib.hid (H8_9.out.below hb H8_9.out.lt)
        have X1_10 := Lib.hid (X1_9.out.kept hb)
        have H9_10 := Lib.hid (H9_9.out.below hb H9_9.out.lt)
        have G0_10 := Lib.hid (G0_9.out.kept hb)
        have H10_10 := Lib.hid (H10.out.below hb H10.out.lt)
        clear H10 G0_9 H9_9 X1_9 H8_9 X0_9 HBA_9 HIs_9 Hs_9 HE_9 HD_9 HS_9 HA_9 HB_9
        clear hb
        obtain ⟨wz14, hwz⟩ : ∃ z, w7.drew = z := ⟨_, rfl⟩
        have hbd : Below w7.heap.size w7 wz14 := by rw [← hwz]; exact below_drew1 _
        have HWZ14 := Lib.hid hwz
        clear hwz
        have HB_11 := Lib.hid (HB_10.out.trans (hbd.mono HB_10.out.size))
        have HA_11 := Lib.hid (HA_10.out.below hbd (Nat.le_refl _))
        have HS_11 := Lib.hid (HS_10.out.below hbd (Nat.le_refl _))
        have HD_11 := Lib.hid (HD_10.out.below hbd HD_10.out.lt)
        have HE_11 := Lib.hid (HE_10.out.below hbd HE_10.out.lt)
        have Hs_11 := Lib.hid (Hs_10.out.below hbd Hs_10.out.lt)
        have HIs_11 := Lib.hid (HIs_10.out.below hbd (Nat.le_refl _))
        have HBA_11 := Lib.hid (HBA_10.out.trans (hbd.mono HBA_10.out.size))
        have X0_11 := Lib.hid (X0_10.out.kept hbd)
        have H8_11 := Lib.hid (H8_10.out.below hbd H8_10.out.lt)
        have X1_11 := Lib.hid (X1_10.out.kept hbd)
        have H9_11 := Lib.hid (H9_10.out.below hbd H9_10.out.lt)
        have G0_11 := Lib.hid (G0_10.out.kept hbd)
        have H10_11 := Lib.hid (H10_10.out.below hbd H10_10.out.lt)
        clear H10_10 G0_10 H9_10 X1_10 H8_10 X0_10 HBA_10 HIs_10 Hs_10 HE_10 HD_10 HS_10 HA_10 HB_10
        clear hbd
        have cHD0 := HD_11.out.cell 0
        have cHD1 := HD_11.out.cell 1
        have cH80 := H8_11.out.cell 0
        have cH81 := H8_11.out.cell 1
        simp only [List.getElem?_toArray, List.getElem?_cons_zero, List.getElem?_cons_succ] at cHD0 cHD1 cH80 cH81
        go_upto_region 14 with fail
        refine wp_region_late (fun w' => w'.cell? ⟨Da, 0, none⟩ = some (.int .i64 nx) ∧ w'.cell? ⟨Da, 1, none⟩ = some (.slice A N cap) ∧ w'.cell? ⟨D8, 0, none⟩ = some (.int .i64 nx) ∧ w'.cell? ⟨D8, 1, none⟩ = some (.slice (some ⟨gx, 0, none⟩) N N)) 4 (by kernel_rfl) ?_
        rw [HWZ14.out]
        refine wpLate_take (i := 0) (v := ?v0r14) rfl (by kernel_rfl) (by kernel_rfl) (by kernel_rfl) (by kernel_rfl) (by kernel_rfl) (fun _ _ _ h => h) ⟨cHD0, cHD1, cH80, cH81⟩ (by rfl) ?hy0r14 ?r0r14
        case hy0r14 =>
          rintro wz ⟨z0, z1, z2, z3⟩
          go_simp
          try with_reducible rfl
        try simp only [Act.put]
        refine wpLate_take (i := 1) (v := ?v1r14) rfl (by kernel_rfl) (by kernel_rfl) (by kernel_rfl) (by kernel_rfl) (by kernel_rfl) (fun _ _ _ h => h) ⟨cHD0, cHD1, cH80, cH81⟩ (by rfl) ?hy1r14 ?r1r14
        case hy1r14 =>
          rintro wz ⟨z0, z1, z2, z3⟩
          go_simp
          try with_reducible rfl
        try simp only [Act.put]
        refine wpLate_one (i := 2) (by kernel_rfl) rfl (fun K hK => ?_)
        go_simp
        refine (to_queueA nx A N cap L wz14 HA_11.out hN hT.out).mono ?_
        rintro e w8 ⟨gz, M3, rfl, hk, ho, hb⟩
        clear cHD0 cHD1 cH80 cH81
        have HB_12 := Lib.hid (HB_11.out.trans (hb.mono HB_11.out.size))
        have HA_12 := Lib.hid (HA_11.out.below hb (Nat.le_refl _))
        have HS_12 := Lib.hid (HS_11.out.below hb (Nat.le_refl _))
        have HD_12 := Lib.hid (HD_11.out.below hb HD_11.out.lt)
        have HE_12 := Lib.hid (HE_11.out.below hb HE_11.out.lt)
        have Hs_12 := Lib.hid (Hs_11.out.below hb Hs_11.out.lt)
        have HIs_12 := Lib.hid (HIs_11.out.below hb (Nat.le_refl _))
        have HBA_12 := Lib.hid (HBA_11.out.trans (hb.mono HBA_11.out.size))
        have X0_12 := Lib.hid (X0_11.out.kept hb)
        have H8_12 := Lib.hid (H8_11.out.below hb H8_11.out.lt)
        have X1_12 := Lib.hid (X1_11.out.kept hb)
        have H9_12 := Lib.hid (H9_11.out.below hb H9_11.out.lt)
        have G0_12 := Lib.hid (G0_11.out.kept hb)
        have H10_12 := Lib.hid (H10_11.out.below hb H10_11.out.lt)
        clear H10_11 G0_11 H9_11 X1_11 H8_11 X0_11 HBA_11 HIs_11 Hs_11 HE_11 HD_11 HS_11 HA_11 HB_11
        have HK3 := Lib.hid hk
        have HM3 := Lib.hid ((show Fine (M3.map keyI) by rw [hk]; exact HF0.out).qin ho)
        clear hk ho hb
        have cHD0 := HD_12.out.cell 0
        have cHD1 := HD_12.out.cell 1
        have cH80 := H8_12.out.cell 0
        have cH81 := H8_12.out.cell 1
        simp only [List.getElem?_toArray, List.getElem?_cons_zero, List.getElem?_cons_succ] at cHD0 cHD1 cH80 cH81
        refine hK.out _ _ (fun _ => ⟨cHD0, cHD1, cH80, cH81⟩) ?_
        clear hK K
        try simp only [Act.put]
        refine wpLate_one (i := 3) (by kernel_rfl) rfl (fun K hK => ?_)
        go_simp
        refine (eq_queue nx M2 M3 (some ⟨gx, 0, none⟩) (some ⟨gz, 0, none⟩) N N N w8 (HF2.out.qin X0_12.out) HM3.out (HK2.out.trans HK3.out.symm)).mono ?_
        rintro e w9 ⟨rfl, hb⟩
        clear cHD0 cHD1 cH80 cH81
        clear HM3
        have HB_13 := Lib.hid (HB_12.out.trans (hb.mono HB_12.out.size))
        have HA_13 := Lib.hid (HA_12.out.below hb (Nat.le_refl _))
        have HS_13 := Lib.hid (HS_12.out.below hb (Nat.le_refl _))
        have HD_13 := Lib.hid (HD_12.out.below hb HD_12.out.lt)
        have HE_13 := Lib.hid (HE_12.out.below hb HE_12.out.lt)
        have Hs_13 := Lib.hid (Hs_12.out.below hb Hs_12.out.lt)
        have HIs_13 := Lib.hid (HIs_12.out.below hb (Nat.le_refl _))
        have HBA_13 := Lib.hid (HBA_12.out.trans (hb.mono HBA_12.out.size))
        have X0_13 := Lib.hid (X0_12.out.kept hb)
        have H8_13 := Lib.hid (H8_12.out.below hb H8_12.out.lt)
        have X1_13 := Lib.hid (X1_12.out.kept hb)
        have H9_13 := Lib.hid (H9_12.out.below hb H9_12.out.lt)
        have G0_13 := Lib.hid (G0_12.out.kept hb)
        have H10_13 := Lib.hid (H10_12.out.below hb H10_12.out.lt)
        clear H10_12 G0_12 H9_12 X1_12 H8_12 X0_12 HBA_12 HIs_12 Hs_12 HE_12 HD_12 HS_12 HA_12 HB_12
        clear hb
        have cHD0 := HD_13.out.cell 0
        have cHD1 := HD_13.out.cell 1
        have cH80 := H8_13.out.cell 0
        have cH81 := H8_13.out.cell 1
        simp only [List.getElem?_toArray, List.getElem?_cons_zero, List.getElem?_cons_succ] at cHD0 cHD1 cH80 cH81
        refine hK.out _ _ (fun _ => ⟨cHD0, cHD1, cH80, cH81⟩) ?_
        clear hK K
        try simp only [Act.put]
        refine wpLate_one (i := 4) (by kernel_rfl) rfl (fun K hK => ?_)
        go_simp
        refine hK.out _ _ (fun h => absurd rfl h) ?_
        clear hK K
        try simp only [Act.put]
        refine wpLate_done (by kernel_rfl) ?_ _
        obtain ⟨wz16, hwz⟩ : ∃ z, w9.drew = z := ⟨_, rfl⟩
        have hbd : Below w9.heap.size w9 wz16 := by rw [← hwz]; exact below_drew1 _
        have HWZ16 := Lib.hid hwz
        clear hwz
        clear cHD0 cHD1 cH80 cH81
        have HB_14 := Lib.hid (HB_13.out.trans (hbd.mono HB_13.out.size))
        have HA_14 := Lib.hid (HA_13.out.below hbd (Nat.le_refl _))
        have HS_14 := Lib.hid (HS_13.out.below hbd (Nat.le_refl _))
        have HD_14 := Lib.hid (HD_13.out.below hbd HD_13.out.lt)
        have HE_14 := Lib.hid (HE_13.out.below hbd HE_13.out.lt)
        have Hs_14 := Lib.hid (Hs_13.out.below hbd Hs_13.out.lt)
        have HIs_14 := Lib.hid (HIs_13.out.below hbd (Nat.le_refl _))
        have HBA_14 := Lib.hid (HBA_13.out.trans (hbd.mono HBA_13.out.size))
        have X0_14 := Lib.hid (X0_13.out.kept hbd)
        have H8_14 := Lib.hid (H8_13.out.below hbd H8_13.out.lt)
        have X1_14 := Lib.hid (X1_13.out.kept hbd)
        have H9_14 := Lib.hid (H9_13.out.below hbd H9_13.out.lt)
        have G0_14 := Lib.hid (G0_13.out.kept hbd)
        have H10_14 := Lib.hid (H10_13.out.below hbd H10_13.out.lt)
        clear H10_13 G0_13 H9_13 X1_13 H8_13 X0_13 HBA_13 HIs_13 Hs_13 HE_13 HD_13 HS_13 HA_13 HB_13
        clear hbd
        have cHE0 := HE_14.out.cell 0
        have cHE1 := HE_14.out.cell 1
        have cHE2 := HE_14.out.cell 2
        have cH90 := H9_14.out.cell 0
        have cH91 := H9_14.out.cell 1
        have cH92 := H9_14.out.cell 2
        simp only [List.getElem?_toArray, List.getElem?_cons_zero, List.getElem?_cons_succ] at cHE0 cHE1 cHE2 cH90 cH91 cH92
        go_upto_region 16 with fail
        refine wp_region_late (fun w' => w'.cell? ⟨Db, 0, none⟩ = some (.string us) ∧ w'.cell? ⟨Db, 1, none⟩ = some (.slice AT NT cT) ∧ w'.cell? ⟨Db, 2, none⟩ = some (.string tx) ∧ w'.cell? ⟨D9, 0, none⟩ = some (.string us) ∧ w'.cell? ⟨D9, 1, none⟩ = some (.slice (some ⟨gy, 0, none⟩) NT NT) ∧ w'.cell? ⟨D9, 2, none⟩ = some (.string tx)) 4 (by kernel_rfl) ?_
        rw [HWZ16.out]
        refine wpLate_take (i := 0) (v := ?v0r16) rfl (by kernel_rfl) (by kernel_rfl) (by kernel_rfl) (by kernel_rfl) (by kernel_rfl) (fun _ _ _ h => h) ⟨cHE0, cHE1, cHE2, cH90, cH91, cH92⟩ (by rfl) ?hy0r16 ?r0r16
        case hy0r16 =>
          rintro wz ⟨z0, z1, z2, z3, z4, z5⟩
          go_simp
          try with_reducible rfl
        try simp only [Act.put]
        refine wpLate_take (i := 1) (v := ?v1r16) rfl (by kernel_rfl) (by kernel_rfl) (by kernel_rfl) (by kernel_rfl) (by kernel_rfl) (fun _ _ _ h => h) ⟨cHE0, cHE1, cHE2, cH90, cH91, cH92⟩ (by rfl) ?hy1r16 ?r1r16
        case hy1r16 =>
          rintro wz ⟨z0, z1, z2, z3, z4, z5⟩
          go_simp
          try with_reducible rfl
        try simp only [Act.put]
        refine wpLate_one (i := 2) (by kernel_rfl) rfl (fun K hK => ?_)
        go_simp
        refine (to_letter us tx T AT NT cT wz16 HS_14.out hNT).mono ?_
        rintro e w10 ⟨gu, rfl, ho, hb⟩
        clear cHE0 cHE1 cHE2 cH90 cH91 cH92
        have HB_15 := Lib.hid (HB_14.out.trans (hb.mono HB_14.out.size))
        have HA_15 := Lib.hid (HA_14.out.below hb (Nat.le_refl _))
        have HS_15 := Lib.hid (HS_14.out.below hb (Nat.le_refl _))
        have HD_15 := Lib.hid (HD_14.out.below hb HD_14.out.lt)
        have HE_15 := Lib.hid (HE_14.out.below hb HE_14.out.lt)
        have Hs_15 := Lib.hid (Hs_14.out.below hb Hs_14.out.lt)
        have HIs_15 := Lib.hid (HIs_14.out.below hb (Nat.le_refl _))
        have HBA_15 := Lib.hid (HBA_14.out.trans (hb.mono HBA_14.out.size))
        have X0_15 := Lib.hid (X0_14.out.kept hb)
        have H8_15 := Lib.hid (H8_14.out.below hb H8_14.out.lt)
        have X1_15 := Lib.hid (X1_14.out.kept hb)
        have H9_15 := Lib.hid (H9_14.out.below hb H9_14.out.lt)
        have G0_15 := Lib.hid (G0_14.out.kept hb)
        have H10_15 := Lib.hid (H10_14.out.below hb H10_14.out.lt)
        clear H10_14 G0_14 H9_14 X1_14 H8_14 X0_14 HBA_14 HIs_14 Hs_14 HE_14 HD_14 HS_14 HA_14 HB_14
        have HL3 := Lib.hid (SIn.made ho HTL.out HTG.out)
        clear ho hb
        have cHE0 := HE_15.out.cell 0
        have cHE1 := HE_15.out.cell 1
        have cHE2 := HE_15.out.cell 2
        have cH90 := H9_15.out.cell 0
        have cH91 := H9_15.out.cell 1
        have cH92 := H9_15.out.cell 2
        simp only [List.getElem?_toArray, List.getElem?_cons_zero, List.getElem?_cons_succ] at cHE0 cHE1 cHE2 cH90 cH91 cH92
        refine hK.out _ _ (fun _ => ⟨cHE0, cHE1, cHE2, cH90, cH91, cH92⟩) ?_
        clear hK K
        try simp only [Act.put]
        refine wpLate_one (i := 3) (by kernel_rfl) rfl (fun K hK => ?_)
        go_simp
        refine (eq_letter us tx T (some ⟨gy, 0, none⟩) (some ⟨gu, 0, none⟩) NT NT NT w10 (SIn.made X1_15.out HTL.out HTG.out) HL3.out).mono ?_
        rintro e w11 ⟨rfl, hb⟩
        clear cHE0 cHE1 cHE2 cH90 cH91 cH92
        clear HL3
        have HB_16 := Lib.hid (HB_15.out.trans (hb.mono HB_15.out.size))
        have HA_16 := Lib.hid (HA_15.out.below hb (Nat.le_refl _))
        have HS_16 := Lib.hid (HS_15.out.below hb (Nat.le_refl _))
        have HD_16 := Lib.hid (HD_15.out.below hb HD_15.out.lt)
        have HE_16 := Lib.hid (HE_15.out.below hb HE_15.out.lt)
        have Hs_16 := Lib.hid (Hs_15.out.below hb Hs_15.out.lt)
        have HIs_16 := Lib.hid (HIs_15.out.below hb (Nat.le_refl _))
        have HBA_16 := Lib.hid (HBA_15.out.trans (hb.mono HBA_15.out.size))
        have X0_16 := Lib.hid (X0_15.out.kept hb)
        have H8_16 := Lib.hid (H8_15.out.below hb H8_15.out.lt)
        have X1_16 := Lib.hid (X1_15.out.kept hb)
        have H9_16 := Lib.hid (H9_15.out.below hb H9_15.out.lt)
        have G0_16 := Lib.hid (G0_15.out.kept hb)
        have H10_16 := Lib.hid (H10_15.out.below hb H10_15.out.lt)
        clear H10_15 G0_15 H9_15 X1_15 H8_15 X0_15 HBA_15 HIs_15 Hs_15 HE_15 HD_15 HS_15 HA_15 HB_15
        clear hb
        have cHE0 := HE_16.out.cell 0
        have cHE1 := HE_16.out.cell 1
        have cHE2 := HE_16.out.cell 2
        have cH90 := H9_16.out.cell 0
        have cH91 := H9_16.out.cell 1
        have cH92 := H9_16.out.cell 2
        simp only [List.getElem?_toArray, List.getElem?_cons_zero, List.getElem?_cons_succ] at cHE0 cHE1 cHE2 cH90 cH91 cH92
        refine hK.out _ _ (fun _ => ⟨cHE0, cHE1, cHE2, cH90, cH91, cH92⟩) ?_
        clear hK K
        try simp only [Act.put]
        refine wpLate_one (i := 4) (by kernel_rfl) rfl (fun K hK => ?_)
        go_simp
        refine hK.out _ _ (fun h => absurd rfl h) ?_
        clear hK K
        try simp only [Act.put]
        refine wpLate_done (by kernel_rfl) ?_ _
        clear cHE0 cHE1 cHE2 cH90 cH91 cH92
        have cH80 := H8_16.out.cell 0
        have cH81 := H8_16.out.cell 1
        simp only [List.getElem?_toArray, List.getElem?_cons_zero, List.getElem?_cons_succ] at cH80 cH81
        obtain ⟨q1, hq1⟩ : ∃ q, endQ 1 M2 = q := ⟨_, rfl⟩
        obtain ⟨q2, hq2⟩ : ∃ q, endQ 1 Lg = q := ⟨_, rfl⟩
        obtain ⟨q3, hq3⟩ : ∃ q, q1 + NT = q := ⟨_, rfl⟩
        have HQ1 := Lib.hid hq1
        have HQ2 := Lib.hid hq2
        have HQ3 := Lib.hid hq3
        have hq1b : q1 ≤ 8000001 := by rw [← hq1, HF2.out.fin X0_16.out]; have := HF2.out.2.1; omega
        have hq1c : 0 < q1 := by rw [← hq1, HF2.out.fin X0_16.out]; omega
        have hq2b : q2 ≤ 8000001 := by rw [← hq2, HFG.out.fin G0_16.out]; have := HFG.out.2.1; omega
        have hq3b : q3 ≤ 10000001 := by omega
        have p1 : ¬ (q3 : Int) < 0 := by omega
        have p1d : decide ((q3 : Int) < 0) = false := decide_eq_false p1
        have p2 : ¬ (q2 : Int) < 0 := by omega
        have p2d : decide ((q2 : Int) < 0) = false := decide_eq_false p2
        have p3 : ((q2 : Int) != (q2 : Int)) = false := by simp
        have hNgb : Ng ≤ 90000000 := by have h1 := HFG.out.2.2; have h2 := (G0_16.out).1.len.1; rw [List.length_map] at h1; omega
        have HX8 : Hid (InB (fun g => wxs.heap.size ≤ g ∧ g < D8) (some ⟨gx, 0, none⟩) N N M2) := Lib.hid (by rw [← HD8.out]; exact HIX.out)
        have HWB : Hid (wxs.heap.size ≤ D8 ∧ D8 < wb.heap.size ∧ wb.heap.size ≤ D9 ∧ D9 < w5c.heap.size ∧ w5c.heap.size ≤ D10 ∧ gy < D9 ∧ wb.heap.size ≤ gy) := Lib.hid ⟨by rw [← HD8.out]; exact HZ4.out, HZ8.out, by rw [← HD9.out]; exact HZ5.out, HZ9.out, by rw [← HD10.out]; exact HZ6.out, by rw [← HD9.out]; exact HIY.out.2, HIY.out.1⟩
        have HX10 : Hid (InB (fun g => wxs.heap.size ≤ g ∧ g < D10) Ag Ng cg Lg) := Lib.hid (HIG.out.mono (fun g h => ⟨by have := HWB.out; omega, by rw [← HD10.out]; exact h.2⟩))
        have HY10 : Hid (InB (fun g => ¬ (wxs.heap.size ≤ g ∧ g < D8)) Ag Ng cg Lg) := Lib.hid (HIG.out.mono (fun g h => by have := HWB.out; omega))
        have HY11 : Hid (InB (fun g => ¬ (wxs.heap.size ≤ g ∧ g < D9)) Ag Ng cg Lg) := Lib.hid (HIG.out.mono (fun g h => by have := HWB.out; omega))
        clear hq1 hq2 hq3
        go_wp2_with fail
        refine (mark_queue (fun g => wxs.heap.size ≤ g ∧ g < D8) 1 q1 nx (some ⟨gx, 0, none⟩) N N wxs.heap.size M2 w11 X0_16.out HX8.out (by omega) HQ1.out (by omega) (HF2.out.nN X0_16.out)).mono ?_
        rintro e w12 ⟨rfl, hom, hwr⟩
        clear cH80 cH81
        have HBA_17 := Lib.hid (hwr.under HBA_16.out HBA_16.out.size (fun g e => e.1))
        have HB_17 := Lib.hid (HBb.out.trans (HBA_17.out.mono HBb.out.size))
        have HA_17 := Lib.hid (HAb.out.below HBA_17.out (Nat.le_refl _))
        have HS_17 := Lib.hid (HSb.out.below HBA_17.out (Nat.le_refl _))
        have HD_17 := Lib.hid (HDb.out.below HBA_17.out HDb.out.lt)
        have HE_17 := Lib.hid (HEb.out.below HBA_17.out HEb.out.lt)
        have Hs_17 := Lib.hid (Hsb.out.below HBA_17.out Hsb.out.lt)
        have HIs_17 := Lib.hid (HIsb.out.below HBA_17.out (Nat.le_refl _))
        have X1_17 := Lib.hid (X1_16.out.writ hwr (fun g e => by have h1 := Option.some.inj (show some gy = some g from e); have := HWB.out; omega))
        have H9_17 := Lib.hid (H9_16.out.writ hwr (by have := HWB.out; omega))
        have G0_17 := Lib.hid (G0_16.out.writ hwr HY10.out)
        have H10_17 := Lib.hid (H10_16.out.writ hwr (by have := HWB.out; omega))
        clear H10_16 G0_16 H9_16 X1_16 H8_16 X0_16 HBA_16 HIs_16 Hs_16 HE_16 HD_16 HS_16 HA_16 HB_16
        clear hom hwr
        have cH90 := H9_17.out.cell 0
        have cH91 := H9_17.out.cell 1
        have cH92 := H9_17.out.cell 2
        simp only [List.getElem?_toArray, List.getElem?_cons_zero, List.getElem?_cons_succ] at cH90 cH91 cH92
        go_wp2_with fail
        refine (mark_letter q1 q3 us tx (some ⟨gy, 0, none⟩) NT NT wb.heap.size T w12 HNT.out X1_17.out (by omega) hq1c (by omega) HQ3.out).mono ?_
        rintro e w13 ⟨rfl, hom, hgr⟩
        have hwr : Writ (fun g => wxs.heap.size ≤ g ∧ g < D9) w12 w13 := Writ.one hgr (fun g e => by have h1 := Option.some.inj (show some gy = some g from e); have := HWB.out; omega)
        clear cH90 cH91 cH92
        have HBA_18 := Lib.hid (hwr.under HBA_17.out HBA_17.out.size (fun g e => e.1))
        have HB_18 := Lib.hid (HBb.out.trans (HBA_18.out.mono HBb.out.size))
        have HA_18 := Lib.hid (HAb.out.below HBA_18.out (Nat.le_refl _))
        have HS_18 := Lib.hid (HSb.out.below HBA_18.out (Nat.le_refl _))
        have HD_18 := Lib.hid (HDb.out.below HBA_18.out HDb.out.lt)
        have HE_18 := Lib.hid (HEb.out.below HBA_18.out HEb.out.lt)
        have Hs_18 := Lib.hid (Hsb.out.below HBA_18.out Hsb.out.lt)
        have HIs_18 := Lib.hid (HIsb.out.below HBA_18.out (Nat.le_refl _))
        have G0_18 := Lib.hid (G0_17.out.writ hwr HY11.out)
        have H10_18 := Lib.hid (H10_17.out.writ hwr (by have := HWB.out; omega))
        clear H10_17 G0_17 H9_17 X1_17 HIs_17 Hs_17 HE_17 HD_17 HS_17 HA_17 HB_17 HBA_17
        clear hom hgr hwr
        have cH100 := H10_18.out.cell 0
        have cH101 := H10_18.out.cell 1
        have cHs0 := Hs_18.out.cell 0
        have cHs1 := Hs_18.out.cell 1
        simp only [List.getElem?_toArray, List.getElem?_cons_zero, List.getElem?_cons_succ] at cH100 cH101 cHs0 cHs1
        go_wp2_with fail
        refine (eq_queue n6 Lg Ls Ag As Ng cg cs w13 (HFG.out.qin G0_18.out) HIs_18.out (HKG.out.trans HKs.out.symm)).mono ?_
        rintro e w14 ⟨rfl, hb⟩
        clear cH100 cH101 cHs0 cHs1
        have HBA_19 := Lib.hid (HBA_18.out.trans (hb.mono HBA_18.out.size))
        have HB_19 := Lib.hid (HB_18.out.trans (hb.mono HB_18.out.size))
        have HA_19 := Lib.hid (HA_18.out.below hb (Nat.le_refl _))
        have HS_19 := Lib.hid (HS_18.out.below hb (Nat.le_refl _))
        have HD_19 := Lib.hid (HD_18.out.below hb HD_18.out.lt)
        have HE_19 := Lib.hid (HE_18.out.below hb HE_18.out.lt)
        have Hs_19 := Lib.hid (Hs_18.out.below hb Hs_18.out.lt)
        have HIs_19 := Lib.hid (HIs_18.out.below hb (Nat.le_refl _))
        have G0_19 := Lib.hid (G0_18.out.kept hb)
        have H10_19 := Lib.hid (H10_18.out.below hb H10_18.out.lt)
        clear H10_18 G0_18 HIs_18 Hs_18 HE_18 HD_18 HS_18 HA_18 HB_18 HBA_18
        clear hb
        have cH100 := H10_19.out.cell 0
        have cH101 := H10_19.out.cell 1
        simp only [List.getElem?_toArray, List.getElem?_cons_zero, List.getElem?_cons_succ] at cH100 cH101
        go_wp2_with fail
        refine (mark_queue (fun g => wxs.heap.size ≤ g ∧ g < D10) 1 q2 n6 Ag cg Ng w5c.heap.size Lg w14 G0_19.out HX10.out (by omega) HQ2.out (by omega) (HFG.out.nN G0_19.out)).mono ?_
        rintro e w15 ⟨rfl, hom, hwr⟩
        have HNN := Lib.hid (HFG.out.nN G0_19.out)
        clear cH100 cH101
        have HBA_20 := Lib.hid (hwr.under HBA_19.out HBA_19.out.size (fun g e => e.1))
        have HB_20 := Lib.hid (HBb.out.trans (HBA_20.out.mono HBb.out.size))
        have HA_20 := Lib.hid (HAb.out.below HBA_20.out (Nat.le_refl _))
        have HS_20 := Lib.hid (HSb.out.below HBA_20.out (Nat.le_refl _))
        have HD_20 := Lib.hid (HDb.out.below HBA_20.out HDb.out.lt)
        have HE_20 := Lib.hid (HEb.out.below HBA_20.out HEb.out.lt)
        have Hs_20 := Lib.hid (Hsb.out.below HBA_20.out Hsb.out.lt)
        have HIs_20 := Lib.hid (HIsb.out.below HBA_20.out (Nat.le_refl _))
        have H10_20 := Lib.hid (H10_19.out.writ hwr (by omega))
        have G0_20 := Lib.hid (hom)
        clear H10_19 G0_19 HIs_19 Hs_19 HE_19 HD_19 HS_19 HA_19 HB_19 HBA_19
        clear hom hwr
        have cH100 := H10_20.out.cell 0
        have cH101 := H10_20.out.cell 1
        simp only [List.getElem?_toArray, List.getElem?_cons_zero, List.getElem?_cons_succ] at cH100 cH101
        go_wp2_with fail
        refine (held_queue 1 q2 n6 Ag cg Ng w5c.heap.size Lg w15 G0_20.out (by omega) HQ2.out (by omega) hNgb HNN.out).mono ?_
        rintro e w16 ⟨rfl, hb⟩
        clear cH100 cH101
        have HBA_21 := Lib.hid (HBA_20.out.trans (hb.mono HBA_20.out.size))
        have HB_21 := Lib.hid (HB_20.out.trans (hb.mono HB_20.out.size))
        have HA_21 := Lib.hid (HA_20.out.below hb (Nat.le_refl _))
        have HS_21 := Lib.hid (HS_20.out.below hb (Nat.le_refl _))
        have HD_21 := Lib.hid (HD_20.out.below hb HD_20.out.lt)
        have HE_21 := Lib.hid (HE_20.out.below hb HE_20.out.lt)
        have Hs_21 := Lib.hid (Hs_20.out.below hb Hs_20.out.lt)
        have HIs_21 := Lib.hid (HIs_20.out.below hb (Nat.le_refl _))
        have H10_21 := Lib.hid (H10_20.out.below hb H10_20.out.lt)
        have G0_21 := Lib.hid (G0_20.out.kept hb)
        clear G0_20 H10_20 HIs_20 Hs_20 HE_20 HD_20 HS_20 HA_20 HB_20 HBA_20
        clear hb
        have cHD0 := HD_21.out.cell 0
        have cHD1 := HD_21.out.cell 1
        have cHE0 := HE_21.out.cell 0
        have cHE1 := HE_21.out.cell 1
        have cHE2 := HE_21.out.cell 2
        simp only [List.getElem?_toArray, List.getElem?_cons_zero, List.getElem?_cons_succ] at cHD0 cHD1 cHE0 cHE1 cHE2
        go_upto_region 31 with fail
        go_cut [15, 16] (fun s1 s2 wxh => ∃ (F : Nat) (A' : Option Addr) (N' c' : Nat) (L' : List QI), s1 = .pointer (some ⟨F, 0, none⟩) ∧ s2 = .bool ok6 ∧ Hid (Below w16.heap.size w16 wxh) ∧ Hid (Whole wxh F 31 #[.int .i64 n6, .slice A' N' c']) ∧ Hid (QIn wxh A' N' c' L') ∧ Hid (L'.map keyI = K6))
        case first =>
          have CS : ∀ wx, Below w16.heap.size w16 wx → (fun w' => w'.cell? ⟨Da, 0, none⟩ = some (.int .i64 nx) ∧ w'.cell? ⟨Da, 1, none⟩ = some (.slice A N cap) ∧ w'.cell? ⟨Db, 0, none⟩ = some (.string us) ∧ w'.cell? ⟨Db, 1, none⟩ = some (.slice AT NT cT) ∧ w'.cell? ⟨Db, 2, none⟩ = some (.string tx)) wx := fun wx hbx => ⟨(hbx.cell (p := ⟨Da, 0, none⟩) HD_21.out.lt).trans cHD0, (hbx.cell (p := ⟨Da, 1, none⟩) HD_21.out.lt).trans cHD1, (hbx.cell (p := ⟨Db, 0, none⟩) HE_21.out.lt).trans cHE0, (hbx.cell (p := ⟨Db, 1, none⟩) HE_21.out.lt).trans cHE1, (hbx.cell (p := ⟨Db, 2, none⟩) HE_21.out.lt).trans cHE2⟩
          have hbd := below_drew1 w16
          clear cHD0 cHD1 cHE0 cHE1 cHE2
          have HA_22 := Lib.hid (HA_21.out.below hbd (Nat.le_refl _))
          have HS_22 := Lib.hid (HS_21.out.below hbd (Nat.le_refl _))
          have HBR := Lib.hid hbd
          have hcd := CS _ hbd
          clear hbd
          refine wp_region_late (fun w' => w'.cell? ⟨Da, 0, none⟩ = some (.int .i64 nx) ∧ w'.cell? ⟨Da, 1, none⟩ = some (.slice A N cap) ∧ w'.cell? ⟨Db, 0, none⟩ = some (.string us) ∧ w'.cell? ⟨Db, 1, none⟩ = some (.slice AT NT cT) ∧ w'.cell? ⟨Db, 2, none⟩ = some (.string tx)) 10 (by kernel_rfl) ?_
          revert HA_22 HS_22 HBR hcd
          generalize w16.drew = wd
          intro HA_22 HS_22 HBR hcd
          refine wpLate_take (i := 0) (v := ?v0h) rfl (by kernel_rfl) (by kernel_rfl) (by kernel_rfl) (by kernel_rfl) (by kernel_rfl) (fun _ _ _ h => h) hcd (by rfl) ?hy0h ?r0h
          case hy0h =>
            rintro wz ⟨z0, z1, z2, z3, z4⟩
            go_simp
            try with_reducible rfl
          try simp only [Act.put]
          refine wpLate_take (i := 2) (v := ?v2h) rfl (by kernel_rfl) (by kernel_rfl) (by kernel_rfl) (by kernel_rfl) (by kernel_rfl) (fun _ _ _ h => h) hcd (by rfl) ?hy2h ?r2h
          case hy2h =>
            rintro wz ⟨z0, z1, z2, z3, z4⟩
            go_simp
            try with_reducible rfl
          try simp only [Act.put]
          refine wpLate_two (i := 1) (k := 8) (by kernel_rfl) rfl rfl (fun K hK => ?xh) (fun K hK => ?yh)
          case xh =>
            go_simp
            refine (to_queueA nx A N cap L wd HA_22.out hN hT.out).mono ?_
            rintro e v22q ⟨g1, M1, rfl, hk, ho, hb⟩
            have HA_23 := Lib.hid (HA_22.out.below hb (Nat.le_refl _))
            have HS_23 := Lib.hid (HS_22.out.below hb (Nat.le_refl _))
            have HBR_23 := Lib.hid (HBR.out.trans (hb.mono HBR.out.size))
            clear HBR HS_22 HA_22
            have HK1 := Lib.hid hk
            have HM := Lib.hid ((show Fine (M1.map keyI) by rw [hk]; exact HF0.out).qin ho)
            clear hk ho hb
            refine hK.out _ _ (fun _ => (CS _ HBR_23.out)) ?_
            clear hK K
            try simp only [Act.put]
            refine wpLate_two (i := 3) (k := 8) (by kernel_rfl) rfl rfl (fun K hK => ?xha) (fun K hK => ?yha)
            case xha =>
              go_simp
              refine (to_letter us tx T AT NT cT v22q HS_23.out hNT).mono ?_
              rintro e v23l ⟨g2, rfl, ho, hb⟩
              have HA_24 := Lib.hid (HA_23.out.below hb (Nat.le_refl _))
              have HS_24 := Lib.hid (HS_23.out.below hb (Nat.le_refl _))
              have HBR_24 := Lib.hid (HBR_23.out.trans (hb.mono HBR_23.out.size))
              have HM_24 := Lib.hid (HM.out.below hb (Nat.le_refl _))
              clear HM HBR_23 HS_23 HA_23
              have HL := Lib.hid (SIn.made ho HTL.out HTG.out)
              clear ho hb
              refine hK.out _ _ (fun _ => (CS _ HBR_24.out)) ?_
              clear hK K
              try simp only [Act.put]
              refine wpLate_two (i := 4) (k := 8) (by kernel_rfl) rfl rfl (fun K hK => ?xhaa) (fun K hK => ?yhaa)
              case xhaa =>
                go_simp
                have HCA := impl_queueadd (n := nx) us tx T (some ⟨g2, 0, none⟩) NT NT v23l HM_24.out HL.out HUU.out
                rw [(HQT.out M1 HK1.out).1, (HQT.out M1 HK1.out).2.1, (HQT.out M1 HK1.out).2.2] at HCA
                refine HCA.mono ?_
                rintro e v24a ⟨A8, N8, c8, L8, rfl, ho, hk, hb⟩
                clear HCA
                clear HM_24
                clear HL
                have HA_25 := Lib.hid (HA_24.out.below hb (Nat.le_refl _))
                have HS_25 := Lib.hid (HS_24.out.below hb (Nat.le_refl _))
                have HBR_25 := Lib.hid (HBR_24.out.trans (hb.mono HBR_24.out.size))
                clear HBR_24 HS_24 HA_24
                have HKR := Lib.hid hk
                have HO := Lib.hid (ho)
                clear hk ho hb
                refine hK.out _ _ (fun _ => (CS _ HBR_25.out)) ?_
                clear hK K
                try simp only [Act.put]
                refine wpLate_take (i := 5) (v := ?v5hhaaa) rfl (by kernel_rfl) (by kernel_rfl) (by kernel_rfl) (by kernel_rfl) (by kernel_rfl) (fun _ _ _ h => h) (CS _ HBR_25.out) (by rfl) ?hy5hhaaa ?r5hhaaa
                case hy5hhaaa =>
                  rintro wz ⟨z0, z1, z2, z3, z4⟩
                  go_simp
                  try with_reducible rfl
                try simp only [Act.put]
                refine wpLate_take (i := 6) (v := ?v6hhaaa) rfl (by kernel_rfl) (by kernel_rfl) (by kernel_rfl) (by kernel_rfl) (by kernel_rfl) (fun _ _ _ h => h) (CS _ HBR_25.out) (by rfl) ?hy6hhaaa ?r6hhaaa
                case hy6hhaaa =>
                  rintro wz ⟨z0, z1, z2, z3, z4⟩
                  go_simp
                  try with_reducible rfl
                try simp only [Act.put]
                refine wpLate_take (i := 7) (v := ?v7hhaaa) rfl (by kernel_rfl) (by kernel_rfl) (by kernel_rfl) (by kernel_rfl) (by kernel_rfl) (fun _ _ _ h => h) (CS _ HBR_25.out) (by rfl) ?hy7hhaaa ?r7hhaaa
                case hy7hhaaa =>
                  rintro wz ⟨z0, z1, z2, z3, z4⟩
                  go_simp
                  try with_reducible rfl
                try simp only [Act.put]
                refine wpLate_one (i := 8) (by kernel_rfl) rfl (fun K hK => ?_)
                obtain ⟨F, hF⟩ : ∃ F, v24a.heap.size = F := ⟨_, rfl⟩
                obtain ⟨v25c, hv25c⟩ : ∃ z, v24a.alloc (.cells #[.int .i64 0, .slice none 0 0] 31) = z := ⟨_, rfl⟩
                have HFL : Hid (w16.heap.size ≤ F) := Lib.hid (by rw [← hF]; exact HBR_25.out.size)
                have hbc : Below v24a.heap.size v24a v25c := by rw [← hv25c]; exact below_newq v24a _ _
                have HF' := Lib.hid (show Whole v25c F 31 #[.int .i64 0, .slice none 0 0] by rw [← hv25c, ← hF]; exact Whole.made _ _ _)
                have HA_26 := Lib.hid (HA_25.out.below hbc (Nat.le_refl _))
                have HS_26 := Lib.hid (HS_25.out.below hbc (Nat.le_refl _))
                have HBR_26 := Lib.hid (HBR_25.out.trans (hbc.mono HBR_25.out.size))
                have HO_26 := Lib.hid (HO.out.kept hbc)
                clear HO HBR_25 HS_25 HA_25
                clear hbc
                go_simp
                refine hK.out _ _ (fun _ => (CS _ HBR_26.out)) ?_
                clear hK K
                try simp only [Act.put]
                have HBs := Lib.hid (show Below w16.heap.size w16 ((v25c.setCell ⟨F, 0, none⟩ (.int .i64 n6)).setCell ⟨F, 1, none⟩ (.slice A8 N8 c8)) from ((HBR_26.out.setCell (p := ⟨F, 0, none⟩) HFL.out _).setCell (p := ⟨F, 1, none⟩) HFL.out _))
                have HFs : Hid (Whole ((v25c.setCell ⟨F, 0, none⟩ (.int .i64 n6)).setCell ⟨F, 1, none⟩ (.slice A8 N8 c8)) F 31 #[.int .i64 n6, .slice A8 N8 c8]) := Lib.hid ((HF'.out.store 0 _).store 1 _)
                have HIs : Hid (QIn ((v25c.setCell ⟨F, 0, none⟩ (.int .i64 n6)).setCell ⟨F, 1, none⟩ (.slice A8 N8 c8)) A8 N8 c8 L8) := Lib.hid ((show Fine (L8.map keyI) by rw [HKR.out]; exact HFK.out).qin ((HO_26.out.storeT HF'.out (by decide) (by decide) _).storeT (HF'.out.store 0 _) (by decide) (by decide) _))
                have f0 := HF'.out.cell 0
                have f1 := HF'.out.cell 1
                have j0 := HF'.out.free 0
                have j1 := HF'.out.free 1
                simp only [List.getElem?_toArray, List.getElem?_cons_zero, List.getElem?_cons_succ] at f0 f1
                have hcs := CS _ HBs.out
                refine wpLate_one (i := 9) (by kernel_rfl) rfl (fun K hK => ?_)
                go_simp
                refine hK.out _ _ (fun _ => hcs) ?_
                clear hK K
                try simp only [Act.put]
                refine wpLate_one (i := 10) (by kernel_rfl) rfl (fun K hK => ?_)
                go_simp
                refine hK.out _ _ (fun h => absurd rfl h) ?_
                clear hK K
                try simp only [Act.put]
                refine wpLate_done (by kernel_rfl) ?_ _
                go_wp2_with fail
                go_meet
                case rel => exact ⟨F, A8, N8, c8, L8, rfl, rfl, HBs, HFs, HIs, HKR⟩
              case yhaa =>
                obtain ⟨F, hF⟩ : ∃ F, v23l.heap.size = F := ⟨_, rfl⟩
                obtain ⟨v24c, hv24c⟩ : ∃ z, v23l.alloc (.cells #[.int .i64 0, .slice none 0 0] 31) = z := ⟨_, rfl⟩
                have HFL : Hid (w16.heap.size ≤ F) := Lib.hid (by rw [← hF]; exact HBR_24.out.size)
                have hbc : Below v23l.heap.size v23l v24c := by rw [← hv24c]; exact below_newq v23l _ _
                have HF' := Lib.hid (show Whole v24c F 31 #[.int .i64 0, .slice none 0 0] by rw [← hv24c, ← hF]; exact Whole.made _ _ _)
                have HA_25 := Lib.hid (HA_24.out.below hbc (Nat.le_refl _))
                have HS_25 := Lib.hid (HS_24.out.below hbc (Nat.le_refl _))
                have HBR_25 := Lib.hid (HBR_24.out.trans (hbc.mono HBR_24.out.size))
                have HM_25 := Lib.hid (HM_24.out.below hbc (Nat.le_refl _))
                have HL_25 := Lib.hid (HL.out.below hbc (Nat.le_refl _))
                clear HL HM_24 HBR_24 HS_24 HA_24
                clear hbc
                go_simp
                refine hK.out _ _ (fun _ => (CS _ HBR_25.out)) ?_
                clear hK K
                try simp only [Act.put]
                refine wpLate_one (i := 4) (by kernel_rfl) rfl (fun K hK => ?_)
                go_simp
                have HCA := impl_queueadd (n := nx) us tx T (some ⟨g2, 0, none⟩) NT NT v24c HM_25.out HL_25.out HUU.out
                rw [(HQT.out M1 HK1.out).1, (HQT.out M1 HK1.out).2.1, (HQT.out M1 HK1.out).2.2] at HCA
                refine HCA.mono ?_
                rintro e v25a ⟨A8, N8, c8, L8, rfl, ho, hk, hb⟩
                clear HCA
                clear HM_25
                clear HL_25
                have HA_26 := Lib.hid (HA_25.out.below hb (Nat.le_refl _))
                have HS_26 := Lib.hid (HS_25.out.below hb (Nat.le_refl _))
                have HBR_26 := Lib.hid (HBR_25.out.trans (hb.mono HBR_25.out.size))
                have HF'_26 := Lib.hid (HF'.out.below hb HF'.out.lt)
                clear HF' HBR_25 HS_25 HA_25
                have HKR := Lib.hid hk
                have HO := Lib.hid (ho)
                clear hk ho hb
                refine hK.out _ _ (fun _ => (CS _ HBR_26.out)) ?_
                clear hK K
                try simp only [Act.put]
                refine wpLate_take (i := 5) (v := ?v5hhaabo) rfl (by kernel_rfl) (by kernel_rfl) (by kernel_rfl) (by kernel_rfl) (by kernel_rfl) (fun _ _ _ h => h) (CS _ HBR_26.out) (by rfl) ?hy5hhaabo ?r5hhaabo
                case hy5hhaabo =>
                  rintro wz ⟨z0, z1, z2, z3, z4⟩
                  go_simp
                  try with_reducible rfl
                try simp only [Act.put]
                refine wpLate_take (i := 6) (v := ?v6hhaabo) rfl (by kernel_rfl) (by kernel_rfl) (by kernel_rfl) (by kernel_rfl) (by kernel_rfl) (fun _ _ _ h => h) (CS _ HBR_26.out) (by rfl) ?hy6hhaabo ?r6hhaabo
                case hy6hhaabo =>
                  rintro wz ⟨z0, z1, z2, z3, z4⟩
                  go_simp
                  try with_reducible rfl
                try simp only [Act.put]
                refine wpLate_take (i := 7) (v := ?v7hhaabo) rfl (by kernel_rfl) (by kernel_rfl) (by kernel_rfl) (by kernel_rfl) (by kernel_rfl) (fun _ _ _ h => h) (CS _ HBR_26.out) (by rfl) ?hy7hhaabo ?r7hhaabo
                case hy7hhaabo =>
                  rintro wz ⟨z0, z1, z2, z3, z4⟩
                  go_simp
                  try with_reducible rfl
                try simp only [Act.put]
                have HBs := Lib.hid (show Below w16.heap.size w16 ((v25a.setCell ⟨F, 0, none⟩ (.int .i64 n6)).setCell ⟨F, 1, none⟩ (.slice A8 N8 c8)) from ((HBR_26.out.setCell (p := ⟨F, 0, none⟩) HFL.out _).setCell (p := ⟨F, 1, none⟩) HFL.out _))
                have HFs : Hid (Whole ((v25a.setCell ⟨F, 0, none⟩ (.int .i64 n6)).setCell ⟨F, 1, none⟩ (.slice A8 N8 c8)) F 31 #[.int .i64 n6, .slice A8 N8 c8]) := Lib.hid ((HF'_26.out.store 0 _).store 1 _)
                have HIs : Hid (QIn ((v25a.setCell ⟨F, 0, none⟩ (.int .i64 n6)).setCell ⟨F, 1, none⟩ (.slice A8 N8 c8)) A8 N8 c8 L8) := Lib.hid ((show Fine (L8.map keyI) by rw [HKR.out]; exact HFK.out).qin ((HO.out.storeT HF'_26.out (by decide) (by decide) _).storeT (HF'_26.out.store 0 _) (by decide) (by decide) _))
                have f0 := HF'_26.out.cell 0
                have f1 := HF'_26.out.cell 1
                have j0 := HF'_26.out.free 0
                have j1 := HF'_26.out.free 1
                simp only [List.getElem?_toArray, List.getElem?_cons_zero, List.getElem?_cons_succ] at f0 f1
                have hcs := CS _ HBs.out
                refine wpLate_one (i := 9) (by kernel_rfl) rfl (fun K hK => ?_)
                go_simp
                refine hK.out _ _ (fun _ => hcs) ?_
                clear hK K
                try simp only [Act.put]
                refine wpLate_one (i := 10) (by kernel_rfl) rfl (fun K hK => ?_)
                go_simp
                refine hK.out _ _ (fun h => absurd rfl h) ?_
                clear hK K
                try simp only [Act.put]
                refine wpLate_done (by kernel_rfl) ?_ _
                go_wp2_with fail
                go_meet
                case rel => exact ⟨F, A8, N8, c8, L8, rfl, rfl, HBs, HFs, HIs, HKR⟩
            case yha =>
              obtain ⟨F, hF⟩ : ∃ F, v22q.heap.size = F := ⟨_, rfl⟩
              obtain ⟨v23c, hv23c⟩ : ∃ z, v22q.alloc (.cells #[.int .i64 0, .slice none 0 0] 31) = z := ⟨_, rfl⟩
              have HFL : Hid (w16.heap.size ≤ F) := Lib.hid (by rw [← hF]; exact HBR_23.out.size)
              have hbc : Below v22q.heap.size v22q v23c := by rw [← hv23c]; exact below_newq v22q _ _
              have HF' := Lib.hid (show Whole v23c F 31 #[.int .i64 0, .slice none 0 0] by rw [← hv23c, ← hF]; exact Whole.made _ _ _)
              have HA_24 := Lib.hid (HA_23.out.below hbc (Nat.le_refl _))
              have HS_24 := Lib.hid (HS_23.out.below hbc (Nat.le_refl _))
              have HBR_24 := Lib.hid (HBR_23.out.trans (hbc.mono HBR_23.out.size))
              have HM_24 := Lib.hid (HM.out.below hbc (Nat.le_refl _))
              clear HM HBR_23 HS_23 HA_23
              clear hbc
              go_simp
              refine hK.out _ _ (fun _ => (CS _ HBR_24.out)) ?_
              clear hK K
              try simp only [Act.put]
              refine wpLate_one (i := 3) (by kernel_rfl) rfl (fun K hK => ?_)
              go_simp
              refine (to_letter us tx T AT NT cT v23c HS_24.out hNT).mono ?_
              rintro e v24l ⟨g2, rfl, ho, hb⟩
              have HA_25 := Lib.hid (HA_24.out.below hb (Nat.le_refl _))
              have HS_25 := Lib.hid (HS_24.out.below hb (Nat.le_refl _))
              have HBR_25 := Lib.hid (HBR_24.out.trans (hb.mono HBR_24.out.size))
              have HM_25 := Lib.hid (HM_24.out.below hb (Nat.le_refl _))
              have HF'_25 := Lib.hid (HF'.out.below hb HF'.out.lt)
              clear HF' HM_24 HBR_24 HS_24 HA_24
              have HL := Lib.hid (SIn.made ho HTL.out HTG.out)
              clear ho hb
              refine hK.out _ _ (fun _ => (CS _ HBR_25.out)) ?_
              clear hK K
              try simp only [Act.put]
              refine wpLate_one (i := 4) (by kernel_rfl) rfl (fun K hK => ?_)
              go_simp
              have HCA := impl_queueadd (n := nx) us tx T (some ⟨g2, 0, none⟩) NT NT v24l HM_25.out HL.out HUU.out
              rw [(HQT.out M1 HK1.out).1, (HQT.out M1 HK1.out).2.1, (HQT.out M1 HK1.out).2.2] at HCA
              refine HCA.mono ?_
              rintro e v25a ⟨A8, N8, c8, L8, rfl, ho, hk, hb⟩
              clear HCA
              clear HM_25
              clear HL
              have HA_26 := Lib.hid (HA_25.out.below hb (Nat.le_refl _))
              have HS_26 := Lib.hid (HS_25.out.below hb (Nat.le_refl _))
              have HBR_26 := Lib.hid (HBR_25.out.trans (hb.mono HBR_25.out.size))
              have HF'_26 := Lib.hid (HF'_25.out.below hb HF'_25.out.lt)
              clear HF'_25 HBR_25 HS_25 HA_25
              have HKR := Lib.hid hk
              have HO := Lib.hid (ho)
              clear hk ho hb
              refine hK.out _ _ (fun _ => (CS _ HBR_26.out)) ?_
              clear hK K
              try simp only [Act.put]
              refine wpLate_take (i := 5) (v := ?v5hhaboo) rfl (by kernel_rfl) (by kernel_rfl) (by kernel_rfl) (by kernel_rfl) (by kernel_rfl) (fun _ _ _ h => h) (CS _ HBR_26.out) (by rfl) ?hy5hhaboo ?r5hhaboo
              case hy5hhaboo =>
                rintro wz ⟨z0, z1, z2, z3, z4⟩
                go_simp
                try with_reducible rfl
              try simp only [Act.put]
              refine wpLate_take (i := 6) (v := ?v6hhaboo) rfl (by kernel_rfl) (by kernel_rfl) (by kernel_rfl) (by kernel_rfl) (by kernel_rfl) (fun _ _ _ h => h) (CS _ HBR_26.out) (by rfl) ?hy6hhaboo ?r6hhaboo
              case hy6hhaboo =>
                rintro wz ⟨z0, z1, z2, z3, z4⟩
                go_simp
                try with_reducible rfl
              try simp only [Act.put]
              refine wpLate_take (i := 7) (v := ?v7hhaboo) rfl (by kernel_rfl) (by kernel_rfl) (by kernel_rfl) (by kernel_rfl) (by kernel_rfl) (fun _ _ _ h => h) (CS _ HBR_26.out) (by rfl) ?hy7hhaboo ?r7hhaboo
              case hy7hhaboo =>
                rintro wz ⟨z0, z1, z2, z3, z4⟩
                go_simp
                try with_reducible rfl
              try simp only [Act.put]
              have HBs := Lib.hid (show Below w16.heap.size w16 ((v25a.setCell ⟨F, 0, none⟩ (.int .i64 n6)).setCell ⟨F, 1, none⟩ (.slice A8 N8 c8)) from ((HBR_26.out.setCell (p := ⟨F, 0, none⟩) HFL.out _).setCell (p := ⟨F, 1, none⟩) HFL.out _))
              have HFs : Hid (Whole ((v25a.setCell ⟨F, 0, none⟩ (.int .i64 n6)).setCell ⟨F, 1, none⟩ (.slice A8 N8 c8)) F 31 #[.int .i64 n6, .slice A8 N8 c8]) := Lib.hid ((HF'_26.out.store 0 _).store 1 _)
              have HIs : Hid (QIn ((v25a.setCell ⟨F, 0, none⟩ (.int .i64 n6)).setCell ⟨F, 1, none⟩ (.slice A8 N8 c8)) A8 N8 c8 L8) := Lib.hid ((show Fine (L8.map keyI) by rw [HKR.out]; exact HFK.out).qin ((HO.out.storeT HF'_26.out (by decide) (by decide) _).storeT (HF'_26.out.store 0 _) (by decide) (by decide) _))
              have f0 := HF'_26.out.cell 0
              have f1 := HF'_26.out.cell 1
              have j0 := HF'_26.out.free 0
              have j1 := HF'_26.out.free 1
              simp only [List.getElem?_toArray, List.getElem?_cons_zero, List.getElem?_cons_succ] at f0 f1
              have hcs := CS _ HBs.out
              refine wpLate_one (i := 9) (by kernel_rfl) rfl (fun K hK => ?_)
              go_simp
              refine hK.out _ _ (fun _ => hcs) ?_
              clear hK K
              try simp only [Act.put]
              refine wpLate_one (i := 10) (by kernel_rfl) rfl (fun K hK => ?_)
              go_simp
              refine hK.out _ _ (fun h => absurd rfl h) ?_
              clear hK K
              try simp only [Act.put]
              refine wpLate_done (by kernel_rfl) ?_ _
              go_wp2_with fail
              go_meet
              case rel => exact ⟨F, A8, N8, c8, L8, rfl, rfl, HBs, HFs, HIs, HKR⟩
          case yh =>
            obtain ⟨F, hF⟩ : ∃ F, wd.heap.size = F := ⟨_, rfl⟩
            obtain ⟨v22c, hv22c⟩ : ∃ z, wd.alloc (.cells #[.int .i64 0, .slice none 0 0] 31) = z := ⟨_, rfl⟩
            have HFL : Hid (w16.heap.size ≤ F) := Lib.hid (by rw [← hF]; exact HBR.out.size)
            have hbc : Below wd.heap.size wd v22c := by rw [← hv22c]; exact below_newq wd _ _
            have HF' := Lib.hid (show Whole v22c F 31 #[.int .i64 0, .slice none 0 0] by rw [← hv22c, ← hF]; exact Whole.made _ _ _)
            have HA_23 := Lib.hid (HA_22.out.below hbc (Nat.le_refl _))
            have HS_23 := Lib.hid (HS_22.out.below hbc (Nat.le_refl _))
            have HBR_23 := Lib.hid (HBR.out.trans (hbc.mono HBR.out.size))
            clear HBR HS_22 HA_22
            clear hbc
            go_simp
            refine hK.out _ _ (fun _ => (CS _ HBR_23.out)) ?_
            clear hK K
            try simp only [Act.put]
            refine wpLate_one (i := 1) (by kernel_rfl) rfl (fun K hK => ?_)
            go_simp
            refine (to_queueA nx A N cap L v22c HA_23.out hN hT.out).mono ?_
            rintro e v23q ⟨g1, M1, rfl, hk, ho, hb⟩
            have HA_24 := Lib.hid (HA_23.out.below hb (Nat.le_refl _))
            have HS_24 := Lib.hid (HS_23.out.below hb (Nat.le_refl _))
            have HBR_24 := Lib.hid (HBR_23.out.trans (hb.mono HBR_23.out.size))
            have HF'_24 := Lib.hid (HF'.out.below hb HF'.out.lt)
            clear HF' HBR_23 HS_23 HA_23
            have HK1 := Lib.hid hk
            have HM := Lib.hid ((show Fine (M1.map keyI) by rw [hk]; exact HF0.out).qin ho)
            clear hk ho hb
            refine hK.out _ _ (fun _ => (CS _ HBR_24.out)) ?_
            clear hK K
            try simp only [Act.put]
            refine wpLate_one (i := 3) (by kernel_rfl) rfl (fun K hK => ?_)
            go_simp
            refine (to_letter us tx T AT NT cT v23q HS_24.out hNT).mono ?_
            rintro e v24l ⟨g2, rfl, ho, hb⟩
            have HA_25 := Lib.hid (HA_24.out.below hb (Nat.le_refl _))
            have HS_25 := Lib.hid (HS_24.out.below hb (Nat.le_refl _))
            have HBR_25 := Lib.hid (HBR_24.out.trans (hb.mono HBR_24.out.size))
            have HF'_25 := Lib.hid (HF'_24.out.below hb HF'_24.out.lt)
            have HM_25 := Lib.hid (HM.out.below hb (Nat.le_refl _))
            clear HM HF'_24 HBR_24 HS_24 HA_24
            have HL := Lib.hid (SIn.made ho HTL.out HTG.out)
            clear ho hb
            refine hK.out _ _ (fun _ => (CS _ HBR_25.out)) ?_
            clear hK K
            try simp only [Act.put]
            refine wpLate_one (i := 4) (by kernel_rfl) rfl (fun K hK => ?_)
            go_simp
            have HCA := impl_queueadd (n := nx) us tx T (some ⟨g2, 0, none⟩) NT NT v24l HM_25.out HL.out HUU.out
            rw [(HQT.out M1 HK1.out).1, (HQT.out M1 HK1.out).2.1, (HQT.out M1 HK1.out).2.2] at HCA
            refine HCA.mono ?_
            rintro e v25a ⟨A8, N8, c8, L8, rfl, ho, hk, hb⟩
            clear HCA
            clear HM_25
            clear HL
            have HA_26 := Lib.hid (HA_25.out.below hb (Nat.le_refl _))
            have HS_26 := Lib.hid (HS_25.out.below hb (Nat.le_refl _))
            have HBR_26 := Lib.hid (HBR_25.out.trans (hb.mono HBR_25.out.size))
            have HF'_26 := Lib.hid (HF'_25.out.below hb HF'_25.out.lt)
            clear HF'_25 HBR_25 HS_25 HA_25
            have HKR := Lib.hid hk
            have HO := Lib.hid (ho)
            clear hk ho hb
            refine hK.out _ _ (fun _ => (CS _ HBR_26.out)) ?_
            clear hK K
            try simp only [Act.put]
            refine wpLate_take (i := 5) (v := ?v5hhbooo) rfl (by kernel_rfl) (by kernel_rfl) (by kernel_rfl) (by kernel_rfl) (by kernel_rfl) (fun _ _ _ h => h) (CS _ HBR_26.out) (by rfl) ?hy5hhbooo ?r5hhbooo
            case hy5hhbooo =>
              rintro wz ⟨z0, z1, z2, z3, z4⟩
              go_simp
              try with_reducible rfl
            try simp only [Act.put]
            refine wpLate_take (i := 6) (v := ?v6hhbooo) rfl (by kernel_rfl) (by kernel_rfl) (by kernel_rfl) (by kernel_rfl) (by kernel_rfl) (fun _ _ _ h => h) (CS _ HBR_26.out) (by rfl) ?hy6hhbooo ?r6hhbooo
            case hy6hhbooo =>
              rintro wz ⟨z0, z1, z2, z3, z4⟩
              go_simp
              try with_reducible rfl
            try simp only [Act.put]
            refine wpLate_take (i := 7) (v := ?v7hhbooo) rfl (by kernel_rfl) (by kernel_rfl) (by kernel_rfl) (by kernel_rfl) (by kernel_rfl) (fun _ _ _ h => h) (CS _ HBR_26.out) (by rfl) ?hy7hhbooo ?r7hhbooo
            case hy7hhbooo =>
              rintro wz ⟨z0, z1, z2, z3, z4⟩
              go_simp
              try with_reducible rfl
            try simp only [Act.put]
            have HBs := Lib.hid (show Below w16.heap.size w16 ((v25a.setCell ⟨F, 0, none⟩ (.int .i64 n6)).setCell ⟨F, 1, none⟩ (.slice A8 N8 c8)) from ((HBR_26.out.setCell (p := ⟨F, 0, none⟩) HFL.out _).setCell (p := ⟨F, 1, none⟩) HFL.out _))
            have HFs : Hid (Whole ((v25a.setCell ⟨F, 0, none⟩ (.int .i64 n6)).setCell ⟨F, 1, none⟩ (.slice A8 N8 c8)) F 31 #[.int .i64 n6, .slice A8 N8 c8]) := Lib.hid ((HF'_26.out.store 0 _).store 1 _)
            have HIs : Hid (QIn ((v25a.setCell ⟨F, 0, none⟩ (.int .i64 n6)).setCell ⟨F, 1, none⟩ (.slice A8 N8 c8)) A8 N8 c8 L8) := Lib.hid ((show Fine (L8.map keyI) by rw [HKR.out]; exact HFK.out).qin ((HO.out.storeT HF'_26.out (by decide) (by decide) _).storeT (HF'_26.out.store 0 _) (by decide) (by decide) _))
            have f0 := HF'_26.out.cell 0
            have f1 := HF'_26.out.cell 1
            have j0 := HF'_26.out.free 0
            have j1 := HF'_26.out.free 1
            simp only [List.getElem?_toArray, List.getElem?_cons_zero, List.getElem?_cons_succ] at f0 f1
            have hcs := CS _ HBs.out
            refine wpLate_one (i := 9) (by kernel_rfl) rfl (fun K hK => ?_)
            go_simp
            refine hK.out _ _ (fun _ => hcs) ?_
            clear hK K
            try simp only [Act.put]
            refine wpLate_one (i := 10) (by kernel_rfl) rfl (fun K hK => ?_)
            go_simp
            refine hK.out _ _ (fun h => absurd rfl h) ?_
            clear hK K
            try simp only [Act.put]
            refine wpLate_done (by kernel_rfl) ?_ _
            go_wp2_with fail
            go_meet
            case rel => exact ⟨F, A8, N8, c8, L8, rfl, rfl, HBs, HFs, HIs, HKR⟩
        case rest =>
          obtain ⟨wxh, hwx⟩ : ∃ z, z = wc := ⟨_, rfl⟩
          subst hwx
          obtain ⟨Fh, Ah, Nh, ch, Lh, rfl, rfl, KB, KF, KI, KK⟩ := hcut
          have hb := KB.out
          clear cHD0 cHD1 cHE0 cHE1 cHE2
          have HBA_22 := Lib.hid (HBA_21.out.trans (hb.mono HBA_21.out.size))
          have HB_22 := Lib.hid (HB_21.out.trans (hb.mono HB_21.out.size))
          have HA_22 := Lib.hid (HA_21.out.below hb (Nat.le_refl _))
          have HS_22 := Lib.hid (HS_21.out.below hb (Nat.le_refl _))
          have HD_22 := Lib.hid (HD_21.out.below hb HD_21.out.lt)
          have HE_22 := Lib.hid (HE_21.out.below hb HE_21.out.lt)
          have Hs_22 := Lib.hid (Hs_21.out.below hb Hs_21.out.lt)
          have HIs_22 := Lib.hid (HIs_21.out.below hb (Nat.le_refl _))
          have H10_22 := Lib.hid (H10_21.out.below hb H10_21.out.lt)
          have G0_22 := Lib.hid (G0_21.out.kept hb)
          clear G0_21 H10_21 HIs_21 Hs_21 HE_21 HD_21 HS_21 HA_21 HB_21 HBA_21
          have Hh := Lib.hid (KF.out)
          have HIh := Lib.hid (KI.out)
          have HKh := Lib.hid KK.out
          clear hb KB KF KI KK
          have hNh : Nh = Ng := by have h1 := qin_len HIh.out; have h2 := key_len (HKh.out.trans HKs.out.symm); have h3 := qin_len HIs_22.out; omega
          subst hNh
          have cHh0 := Hh.out.cell 0
          have cHh1 := Hh.out.cell 1
          have cHs0 := Hs_22.out.cell 0
          have cHs1 := Hs_22.out.cell 1
          simp only [List.getElem?_toArray, List.getElem?_cons_zero, List.getElem?_cons_succ] at cHh0 cHh1 cHs0 cHs1
          go_wp2_with fail
          refine (eq_queue n6 Lh Ls Ah As Nh ch cs wxh HIh.out HIs_22.out (HKh.out.trans HKs.out.symm)).mono ?_
          rintro e w17 ⟨rfl, hb⟩
          clear cHh0 cHh1 cHs0 cHs1
          have HBA_23 := Lib.hid (HBA_22.out.trans (hb.mono HBA_22.out.size))
          have HB_23 := Lib.hid (HB_22.out.trans (hb.mono HB_22.out.size))
          have HA_23 := Lib.hid (HA_22.out.below hb (Nat.le_refl _))
          have HS_23 := Lib.hid (HS_22.out.below hb (Nat.le_refl _))
          have HD_23 := Lib.hid (HD_22.out.below hb HD_22.out.lt)
          have HE_23 := Lib.hid (HE_22.out.below hb HE_22.out.lt)
          have Hs_23 := Lib.hid (Hs_22.out.below hb Hs_22.out.lt)
          have HIs_23 := Lib.hid (HIs_22.out.below hb (Nat.le_refl _))
          have H10_23 := Lib.hid (H10_22.out.below hb H10_22.out.lt)
          have G0_23 := Lib.hid (G0_22.out.kept hb)
          have Hh_23 := Lib.hid (Hh.out.below hb Hh.out.lt)
          have HIh_23 := Lib.hid (HIh.out.below hb (Nat.le_refl _))
          clear HIh Hh G0_22 H10_22 HIs_22 Hs_22 HE_22 HD_22 HS_22 HA_22 HB_22 HBA_22
          clear hb
          have cH100 := H10_23.out.cell 0
          have cH101 := H10_23.out.cell 1
          simp only [List.getElem?_toArray, List.getElem?_cons_zero, List.getElem?_cons_succ] at cH100 cH101
          go_wp2_with fail
          refine (held_queue 1 q2 n6 Ag cg Nh w5c.heap.size Lg w17 G0_23.out (by omega) HQ2.out (by omega) hNgb HNN.out).mono ?_
          rintro e w18 ⟨rfl, hb⟩
          clear cH100 cH101
          have HBA_24 := Lib.hid (HBA_23.out.trans (hb.mono HBA_23.out.size))
          have HB_24 := Lib.hid (HB_23.out.trans (hb.mono HB_23.out.size))
          have HA_24 := Lib.hid (HA_23.out.below hb (Nat.le_refl _))
          have HS_24 := Lib.hid (HS_23.out.below hb (Nat.le_refl _))
          have HD_24 := Lib.hid (HD_23.out.below hb HD_23.out.lt)
          have HE_24 := Lib.hid (HE_23.out.below hb HE_23.out.lt)
          have Hs_24 := Lib.hid (Hs_23.out.below hb Hs_23.out.lt)
          have HIs_24 := Lib.hid (HIs_23.out.below hb (Nat.le_refl _))
          have H10_24 := Lib.hid (H10_23.out.below hb H10_23.out.lt)
          have G0_24 := Lib.hid (G0_23.out.kept hb)
          have Hh_24 := Lib.hid (Hh_23.out.below hb Hh_23.out.lt)
          have HIh_24 := Lib.hid (HIh_23.out.below hb (Nat.le_refl _))
          clear HIh_23 Hh_23 G0_23 H10_23 HIs_23 Hs_23 HE_23 HD_23 HS_23 HA_23 HB_23 HBA_23
          clear hb
          go_wp2
          go_ret
          exact ⟨rfl, HB_24.out⟩
end Go.Proofs.Ytinbdibenbplnaa
