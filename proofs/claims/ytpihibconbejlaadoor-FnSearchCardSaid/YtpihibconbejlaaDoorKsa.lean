/-
  The walks of the laws FnSearch. Conditions: the code can be read; the tables hold what the program lays there.
-/
import Derived.Test.YtpihibconbejlaaDoorQj
namespace Go.Proofs.YtpihibconbejlaaDoor
open Go.RowKit
set_option linter.unusedVariables false

set_option maxRecDepth 20000 in
set_option maxHeartbeats 8000000 in
theorem law_FnSearch (A : Option Addr) (len cap : Nat) (w : World) (h : Coded w A len cap) (hSh : Shp w) (hLs : Lst w) (hMx : MxL w) : Calls Tryd.prog 7 #[.slice A len cap] w (Holds1 w) := by
  have HC := Lib.hid h
  have HSh := Lib.hid hSh
  have HLs := Lib.hid hLs
  have HMx := Lib.hid hMx
  clear h hSh hLs hMx
  by_cases hl : len ≤ 1048576
  · have hl' : (len : Int) ≤ 1048576 := by omega
    go_enter Tryd.func7, Tryd.ntmps7
    go_wp2_with fail
    refine (draw_search kd3 A len cap _ HC.out).mono ?_
    rintro e w1 ⟨n, A1, N1, cap1, L, k, ⟨a0, a1, a2, ⟨a3, a4, a5⟩, ⟨a6, a7, a8⟩⟩, rfl, hN14, hn1, hn2, hnt, hni, hM, hk, hb⟩
    obtain ⟨S, hS⟩ : ∃ S, w1.heap.size = S := ⟨_, rfl⟩
    obtain ⟨w2, hw2⟩ : ∃ w2, ((w1.alloc (.cells #[.int .i64 n, .slice A1 N1 cap1] 37)).alloc (.cells #[.int .i64 a0, .int .i64 a1, .string a2, .slice a3 a4 a5, .slice a6 a7 a8] 26)) = w2 := ⟨_, rfl⟩
    have HS2 := Lib.hid (show Sb w n A1 N1 cap1 L k (a0, a1, a2, (a3, a4, a5), (a6, a7, a8)) S w2 by rw [← hw2]; exact Sb.made hS hb hM hk HSh.out HLs.out HMx.out)
    have HNT := Lib.hid hnt
    have HNI := Lib.hid hni
    have hL14 : L.length ≤ 14 := by rw [hM.1]; exact hN14
    obtain ⟨G, hG⟩ : ∃ G, srT n L k = G := ⟨_, rfl⟩
    have HG := Lib.hid hG
    have HGL : Hid (G.length ≤ 14) := Lib.hid (hG ▸ srT_len n L k hL14)
    have HL14 := Lib.hid hL14
    have HW2 := Lib.hid hw2
    have HSS := Lib.hid hS
    clear hM hk hb hnt hni hw2 hS hG hL14
    go_wp2_with fail
    rw [HW2.out, HSS.out]
    refine (HS2.out.search HG.out).mono ?_
    rintro e w3 ⟨AO, NO, capO, rfl, ho, hb⟩
    have HS3 := Lib.hid (HS2.out.below hb)
    have HO3 := Lib.hid (gives_in ho HGL.out)
    clear hb ho
    have x0 : w3.cell? ⟨S, 0, none⟩ = some (.int .i64 n) := HS3.out.box.cell 0
    have x1 : w3.cell? ⟨S, 1, none⟩ = some (.slice A1 N1 cap1) := HS3.out.box.cell 1
    have y0 : w3.cell? ⟨S + 1, 0, none⟩ = some (.int .i64 a0) := HS3.out.key.cell 0
    have y1 : w3.cell? ⟨S + 1, 1, none⟩ = some (.int .i64 a1) := HS3.out.key.cell 1
    have y2 : w3.cell? ⟨S + 1, 2, none⟩ = some (.string a2) := HS3.out.key.cell 2
    have y3 : w3.cell? ⟨S + 1, 3, none⟩ = some (.slice a3 a4 a5) := HS3.out.key.cell 3
    have y4 : w3.cell? ⟨S + 1, 4, none⟩ = some (.slice a6 a7 a8) := HS3.out.key.cell 4
    go_wp2_with fail
    refine (HS3.out.want HG.out HNT.out).mono ?_
    rintro e w4 ⟨AP, NP, capP, rfl, ho, hb⟩
    have HS4 := Lib.hid (HS3.out.below hb)
    have HO4 := Lib.hid (HO3.out.below hb (Nat.le_refl _))
    have HP4 := Lib.hid (gives_in ho HGL.out)
    clear hb ho
    clear x0 x1 y0 y1 y2 y3 y4
    have x0 : w4.cell? ⟨S, 0, none⟩ = some (.int .i64 n) := HS4.out.box.cell 0
    have x1 : w4.cell? ⟨S, 1, none⟩ = some (.slice A1 N1 cap1) := HS4.out.box.cell 1
    have y0 : w4.cell? ⟨S + 1, 0, none⟩ = some (.int .i64 a0) := HS4.out.key.cell 0
    have y1 : w4.cell? ⟨S + 1, 1, none⟩ = some (.int .i64 a1) := HS4.out.key.cell 1
    have y2 : w4.cell? ⟨S + 1, 2, none⟩ = some (.string a2) := HS4.out.key.cell 2
    have y3 : w4.cell? ⟨S + 1, 3, none⟩ = some (.slice a3 a4 a5) := HS4.out.key.cell 3
    have y4 : w4.cell? ⟨S + 1, 4, none⟩ = some (.slice a6 a7 a8) := HS4.out.key.cell 4
    go_wp2_with fail
    refine (same_is _ HO4.out HP4.out).mono ?_
    rintro e w5 ⟨rfl, hb⟩
    have HS5 := Lib.hid (HS4.out.below hb)
    have HO5 := Lib.hid (HO4.out.below hb (Nat.le_refl _))
    have HP5 := Lib.hid (HP4.out.below hb (Nat.le_refl _))
    clear hb
    clear x0 x1 y0 y1 y2 y3 y4
    have x0 : w5.cell? ⟨S, 0, none⟩ = some (.int .i64 n) := HS5.out.box.cell 0
    have x1 : w5.cell? ⟨S, 1, none⟩ = some (.slice A1 N1 cap1) := HS5.out.box.cell 1
    have y0 : w5.cell? ⟨S + 1, 0, none⟩ = some (.int .i64 a0) := HS5.out.key.cell 0
    have y1 : w5.cell? ⟨S + 1, 1, none⟩ = some (.int .i64 a1) := HS5.out.key.cell 1
    have y2 : w5.cell? ⟨S + 1, 2, none⟩ = some (.string a2) := HS5.out.key.cell 2
    have y3 : w5.cell? ⟨S + 1, 3, none⟩ = some (.slice a3 a4 a5) := HS5.out.key.cell 3
    have y4 : w5.cell? ⟨S + 1, 4, none⟩ = some (.slice a6 a7 a8) := HS5.out.key.cell 4
    obtain ⟨z, hz⟩ : ∃ z, bOk n L = z := ⟨_, rfl⟩
    have HZ := Lib.hid hz
    clear hz
    go_wp2_with fail
    refine (HS5.out.valid HZ.out).mono ?_
    rintro e w6 ⟨rfl, hb⟩
    have HS6 := Lib.hid (HS5.out.below hb)
    have HO6 := Lib.hid (HO5.out.below hb (Nat.le_refl _))
    have HP6 := Lib.hid (HP5.out.below hb (Nat.le_refl _))
    clear hb
    clear x0 x1 y0 y1 y2 y3 y4
    have x0 : w6.cell? ⟨S, 0, none⟩ = some (.int .i64 n) := HS6.out.box.cell 0
    have x1 : w6.cell? ⟨S, 1, none⟩ = some (.slice A1 N1 cap1) := HS6.out.box.cell 1
    have y0 : w6.cell? ⟨S + 1, 0, none⟩ = some (.int .i64 a0) := HS6.out.key.cell 0
    have y1 : w6.cell? ⟨S + 1, 1, none⟩ = some (.int .i64 a1) := HS6.out.key.cell 1
    have y2 : w6.cell? ⟨S + 1, 2, none⟩ = some (.string a2) := HS6.out.key.cell 2
    have y3 : w6.cell? ⟨S + 1, 3, none⟩ = some (.slice a3 a4 a5) := HS6.out.key.cell 3
    have y4 : w6.cell? ⟨S + 1, 4, none⟩ = some (.slice a6 a7 a8) := HS6.out.key.cell 4
    cases z with
    | false =>
      go_wp2_with fail
      refine (same_is _ HO6.out HP6.out).mono ?_
      rintro e w7 ⟨rfl, hb⟩
      have HS7 := Lib.hid (HS6.out.below hb)
      have HO7 := Lib.hid (HO6.out.below hb (Nat.le_refl _))
      have HP7 := Lib.hid (HP6.out.below hb (Nat.le_refl _))
      clear hb
      clear x0 x1 y0 y1 y2 y3 y4
      go_wp2
      go_ret
      exact ⟨rfl, HS7.out.bel⟩
    | true =>
      obtain ⟨y, hy⟩ : ∃ y, keyB k = y := ⟨_, rfl⟩
      have HY := Lib.hid hy
      clear hy
      go_wp2_with fail
      refine (HS6.out.fine HY.out HNT.out).mono ?_
      rintro e w7 ⟨rfl, hb⟩
      have HS7 := Lib.hid (HS6.out.below hb)
      have HO7 := Lib.hid (HO6.out.below hb (Nat.le_refl _))
      have HP7 := Lib.hid (HP6.out.below hb (Nat.le_refl _))
      clear hb
      clear x0 x1 y0 y1 y2 y3 y4
      have x0 : w7.cell? ⟨S, 0, none⟩ = some (.int .i64 n) := HS7.out.box.cell 0
      have x1 : w7.cell? ⟨S, 1, none⟩ = some (.slice A1 N1 cap1) := HS7.out.box.cell 1
      have y0 : w7.cell? ⟨S + 1, 0, none⟩ = some (.int .i64 a0) := HS7.out.key.cell 0
      have y1 : w7.cell? ⟨S + 1, 1, none⟩ = some (.int .i64 a1) := HS7.out.key.cell 1
      have y2 : w7.cell? ⟨S + 1, 2, none⟩ = some (.string a2) := HS7.out.key.cell 2
      have y3 : w7.cell? ⟨S + 1, 3, none⟩ = some (.slice a3 a4 a5) := HS7.out.key.cell 3
      have y4 : w7.cell? ⟨S + 1, 4, none⟩ = some (.slice a6 a7 a8) := HS7.out.key.cell 4
      cases y with
      | false =>
        go_wp2_with fail
        refine (same_is _ HO7.out HP7.out).mono ?_
        rintro e w8 ⟨rfl, hb⟩
        have HS8 := Lib.hid (HS7.out.below hb)
        have HO8 := Lib.hid (HO7.out.below hb (Nat.le_refl _))
        have HP8 := Lib.hid (HP7.out.below hb (Nat.le_refl _))
        clear hb
        clear x0 x1 y0 y1 y2 y3 y4
        go_wp2
        go_ret
        exact ⟨rfl, HS8.out.bel⟩
      | true =>
        have HGP : Hid (plT L k L.length = G) := Lib.hid ((srT_yes HY.out HZ.out).symm.trans HG.out)
        have hN10 : N1 ≤ 10 := by rw [← HS2.out.mails.1]; exact (bOk_iff.1 HZ.out).2.2.2.2
        go_wp2
        clear x0 x1 y0 y1 y2 y3 y4
        go_loopw [7] (fun iv wr => ∃ i : Nat, i ≤ NO ∧ iv = .int .i64 (i : Int) ∧ Hid (Below w7.heap.size w7 wr)) (fun iv _ => NO - (intOf iv).toNat)
        case atStart => exact ⟨0, Nat.zero_le _, by go_num, Below.refl _ _⟩
        case round =>
          obtain ⟨i, hi, rfl, HBr⟩ := hrel
          have HSr := Lib.hid (HS7.out.below HBr.out)
          have HOr := Lib.hid (HO7.out.below HBr.out (Nat.le_refl _))
          have x1 : wr.cell? ⟨S, 1, none⟩ = some (.slice A1 N1 cap1) := HSr.out.box.cell 1
          have hNO : NO ≤ 14 := by rw [← HOr.out.1]; exact HGL.out
          by_cases hlt : i < NO
          · have i0 : (0 : Int) ≤ (i : Int) := by omega
            have i5 : (i : Int) < (NO : Int) := by omega
            obtain ⟨x, hx⟩ : ∃ x, G[i]? = some x := ⟨_, List.getElem?_eq_getElem (by rw [HOr.out.1]; exact hlt)⟩
            have hxb := plT_mem L k L.length (x := x) (by rw [HGP.out]; exact List.mem_of_getElem? hx)
            rw [HS2.out.mails.1] at hxb
            obtain ⟨b, o, rfl, hbz, c0⟩ := int_at HOr.out.2.2.1 hx
            have t1 : decide (x < 1) = false := decide_eq_false (by omega)
            have t1' : ¬ x < 1 := by omega
            have t2 : decide ((N1 : Int) < x) = false := decide_eq_false (by omega)
            have t2' : ¬ (N1 : Int) < x := by omega
            by_cases hi0 : i = 0
            · subst hi0
              simp only [Nat.add_zero] at c0
              clear hx hxb
              go_wp2
              go_big_quiet (fail)
              go_wp2
              go_roundw
              case rel => exact ⟨1, by omega, by go_num, below_drewN' HBr.out _⟩
              case measure => simp [intOf]; omega
            · obtain ⟨j, hj⟩ : ∃ j, i - 1 = j := ⟨_, rfl⟩
              obtain ⟨y, hy⟩ : ∃ y, G[j]? = some y := ⟨_, List.getElem?_eq_getElem (by rw [HOr.out.1]; omega)⟩
              obtain ⟨b', o', he, _, d0⟩ := int_at HOr.out.2.2.1 hy
              cases he
              have hyx : y < x := by
                have ha := plT_asc L k L.length
                rw [HGP.out] at ha
                obtain ⟨q1, q2⟩ := List.getElem?_eq_some_iff.1 hy
                obtain ⟨q3, q4⟩ := List.getElem?_eq_some_iff.1 hx
                have := List.pairwise_iff_getElem.1 ha j i q1 q3 (by omega)
                rw [q2, q4] at this
                exact this
              have t3 : decide (x ≤ y) = false := decide_eq_false (by omega)
              have t3' : ¬ x ≤ y := by omega
              have g1 : decide (0 < i) = true := decide_eq_true (by omega)
              have g2 : 0 < i := by omega
              have j1 : (0 : Int) ≤ (j : Int) := by omega
              have j2 : (j : Int) < (NO : Int) := by omega
              have E1 : (i : Int) - 1 = (j : Int) := by omega
              have W1 : IntKind.i64.wrap ((i : Int) - 1) = (j : Int) := (IntWalk.i64_in _ (by omega)).trans E1
              have W2 : IntKind.i64.wrap (j : Int) = (j : Int) := IntWalk.i64_in _ (by omega)
              clear hx hy hxb hyx hj hi0
              go_wp2
              go_big_quiet (fail)
              go_wp2
              go_roundw
              case rel => exact ⟨i + 1, by omega, by go_num, below_drewN' HBr.out _⟩
              case measure => simp [intOf]; omega
          · have i5 : ¬ (i : Int) < (NO : Int) := by omega
            go_wp2
            go_ret
            exact ⟨rfl, HSr.out.bel⟩
  · have hl' : (1048576 : Int) < (len : Int) := by omega
    go_enter Tryd.func7, Tryd.ntmps7
    go_wp2
    go_ret
    exact ⟨rfl, Below.refl _ _⟩
end Go.Proofs.YtpihibconbejlaaDoor
