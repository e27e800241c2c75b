/-
  The walks of the laws FnSearchMorgan. Conditions: the code can be read; the tables hold what the program lays there.
-/
import Derived.Test.YtpihibconbejlaaDoorKjn
import Derived.Deep.RegionHeld3
namespace Go.Proofs.YtpihibconbejlaaDoor
open Go.RowKit
set_option linter.unusedVariables false

theorem all_not {k : KT} (h : allT k = true) : allT (.mk 5 0 ⟨#[]⟩ [] [k]) = true := by
  simp [allT, allL, nodeB, h]
  rfl
theorem all_two {kd : Int} {k k2 : KT} (hkd : kd = 6 ∨ kd = 7) (h : allT k = true) (h2 : allT k2 = true) : allT (.mk kd 0 ⟨#[]⟩ [] [k, k2]) = true := by
  rcases hkd with rfl | rfl
  all_goals
    simp [allT, allL, nodeB, h, h2]
    rfl
abbrev zeroK : KT := .mk 0 0 ⟨#[]⟩ [] []
abbrev morgX (k : KT) : KT := .mk 5 0 ⟨#[]⟩ [] [.mk 6 0 ⟨#[]⟩ [] [k, zeroK]]
abbrev morgY (k : KT) : KT := .mk 7 0 ⟨#[]⟩ [] [.mk 5 0 ⟨#[]⟩ [] [k], .mk 5 0 ⟨#[]⟩ [] [zeroK]]
theorem all_zero : allT zeroK = true := key_all key_all0
theorem nodes_zero : nodesT zeroK = 1 := by simp [nodesT, nodesL]
theorem key_morgY {k : KT} {z : Bool} (h : allT k = true) (hz : decide (nodesT k + 4 ≤ 9) = z) : keyB (morgY k) = z := by
  refine key_two (.inr rfl) (all_not h) (all_not all_zero) ?_
  rw [nodes_one, nodes_one, nodes_zero, ← hz]
theorem key_morgX {k : KT} (h : allT k = true) (hz : decide (nodesT k + 4 ≤ 9) = true) : keyB (morgX k) = true := by
  have hn := of_decide_eq_true hz
  have h6 : keyB (.mk 6 0 ⟨#[]⟩ [] [k, zeroK]) = true := key_two (.inl rfl) h all_zero (by rw [nodes_zero]; exact decide_eq_true (by omega))
  exact key_not h6 (by rw [nodes_two, nodes_zero]; exact decide_eq_true (by omega))
theorem sr_morg {n : Int} {L : List ML} {k : KT} (h : allT k = true) (hz : decide (nodesT k + 4 ≤ 9) = true) : srT n L (morgY k) = srT n L (morgX k) := by
  unfold srT
  rw [key_morgY h hz, key_morgX h hz]
  split
  · refine pl_same L (fun m i => ?_) L.length
    have h0 : findT L m i zeroK = true := find_is.1
    refine (find_or (find_not rfl) (find_not h0)).trans ((?_ : _ = _).trans (find_not (find_and rfl h0)).symm)
    cases findT L m i k <;> rfl
  · rfl
set_option maxRecDepth 20000 in
set_option maxHeartbeats 8000000 in
theorem law_FnSearchMorgan (A : Option Addr) (len cap : Nat) (w : World) (h : Coded w A len cap) (hSh : Shp w) (hLs : Lst w) (hMx : MxL w) : Calls Tryd.prog 12 #[.slice A len cap] w (Holds1 w) := by
  have HC := Lib.hid h
  have HSh := Lib.hid hSh
  have HLs := Lib.hid hLs
  have HMx := Lib.hid hMx
  clear h hSh hLs hMx
  by_cases hl : len ≤ 1048576
  · have hl' : (len : Int) ≤ 1048576 := by omega
    go_enter Tryd.func12, Tryd.ntmps12
    go_wp2_with fail
    refine (draw_search kd3 A len cap _ HC.out).mono ?_
    rintro e w1 ⟨n, A1, N1, cap1, L, k, ⟨a0, a1, a2, ⟨a3, a4, a5⟩, ⟨a6, a7, a8⟩⟩, rfl, hN14, hn1, hn2, hnt, hni, hM, hk, hb⟩
    obtain ⟨S, hS⟩ : ∃ S, w1.heap.size = S := ⟨_, rfl⟩
    obtain ⟨w2, hw2⟩ : ∃ w2, ((w1.alloc (.cells #[.int .i64 n, .slice A1 N1 cap1] 37)).alloc (.cells #[.int .i64 a0, .int .i64 a1, .string a2, .slice a3 a4 a5, .slice a6 a7 a8] 26)) = w2 := ⟨_, rfl⟩
    have HS2 := Lib.hid (show Sb w n A1 N1 cap1 L k (a0, a1, a2, (a3, a4, a5), (a6, a7, a8)) S w2 by rw [← hw2]; exact Sb.made hS hb hM hk HSh.out HLs.out HMx.out)
    have HNT := Lib.hid hnt
    have HNI := Lib.hid hni
    have hL14 : L.length ≤ 14 := by rw [hM.1]; exact hN14
    obtain ⟨G, hG⟩ : ∃ G, srT n L k = G := ⟨_, rfl⟩
    have HG := Lib.hid hG
    have HGL : Hid (G.length ≤ 14) := Lib.hid (hG ▸ srT_len n L k hL14)
    have HL14 := Lib.hid hL14
    have HW2 := Lib.hid hw2
    have HSS := Lib.hid hS
    clear hM hk hb hnt hni hw2 hS hG hL14
    go_wp2_with fail
    rw [HW2.out, HSS.out]
    refine (HS2.out.search HG.out).mono ?_
    rintro e w3 ⟨AO, NO, capO, rfl, ho, hb⟩
    have HS3 := Lib.hid (HS2.out.below hb)
    have HO3 := Lib.hid (gives_in ho HGL.out)
    clear hb ho
    have x0 : w3.cell? ⟨S, 0, none⟩ = some (.int .i64 n) := HS3.out.box.cell 0
    have x1 : w3.cell? ⟨S, 1, none⟩ = some (.slice A1 N1 cap1) := HS3.out.box.cell 1
    have y0 : w3.cell? ⟨S + 1, 0, none⟩ = some (.int .i64 a0) := HS3.out.key.cell 0
    have y1 : w3.cell? ⟨S + 1, 1, none⟩ = some (.int .i64 a1) := HS3.out.key.cell 1
    have y2 : w3.cell? ⟨S + 1, 2, none⟩ = some (.string a2) := HS3.out.key.cell 2
    have y3 : w3.cell? ⟨S + 1, 3, none⟩ = some (.slice a3 a4 a5) := HS3.out.key.cell 3
    have y4 : w3.cell? ⟨S + 1, 4, none⟩ = some (.slice a6 a7 a8) := HS3.out.key.cell 4
    go_wp2_with fail
    refine (HS3.out.want HG.out HNT.out).mono ?_
    rintro e w4 ⟨AP, NP, capP, rfl, ho, hb⟩
    have HS4 := Lib.hid (HS3.out.below hb)
    have HO4 := Lib.hid (HO3.out.below hb (Nat.le_refl _))
    have HP4 := Lib.hid (gives_in ho HGL.out)
    clear hb ho
    clear x0 x1 y0 y1 y2 y3 y4
    have x0 : w4.cell? ⟨S, 0, none⟩ = some (.int .i64 n) := HS4.out.box.cell 0
    have x1 : w4.cell? ⟨S, 1, none⟩ = some (.slice A1 N1 cap1) := HS4.out.box.cell 1
    have y0 : w4.cell? ⟨S + 1, 0, none⟩ = some (.int .i64 a0) := HS4.out.key.cell 0
    have y1 : w4.cell? ⟨S + 1, 1, none⟩ = some (.int .i64 a1) := HS4.out.key.cell 1
    have y2 : w4.cell? ⟨S + 1, 2, none⟩ = some (.string a2) := HS4.out.key.cell 2
    have y3 : w4.cell? ⟨S + 1, 3, none⟩ = some (.slice a3 a4 a5) := HS4.out.key.cell 3
    have y4 : w4.cell? ⟨S + 1, 4, none⟩ = some (.slice a6 a7 a8) := HS4.out.key.cell 4
    go_wp2_with fail
    refine (same_is _ HO4.out HP4.out).mono ?_
    rintro e w5 ⟨rfl, hb⟩
    have HS5 := Lib.hid (HS4.out.below hb)
    have HO5 := Lib.hid (HO4.out.below hb (Nat.le_refl _))
    have HP5 := Lib.hid (HP4.out.below hb (Nat.le_refl _))
    clear hb
    clear x0 x1 y0 y1 y2 y3 y4
    have x0 : w5.cell? ⟨S, 0, none⟩ = some (.int .i64 n) := HS5.out.box.cell 0
    have x1 : w5.cell? ⟨S, 1, none⟩ = some (.slice A1 N1 cap1) := HS5.out.box.cell 1
    have y0 : w5.cell? ⟨S + 1, 0, none⟩ = some (.int .i64 a0) := HS5.out.key.cell 0
    have y1 : w5.cell? ⟨S + 1, 1, none⟩ = some (.int .i64 a1) := HS5.out.key.cell 1
    have y2 : w5.cell? ⟨S + 1, 2, none⟩ = some (.string a2) := HS5.out.key.cell 2
    have y3 : w5.cell? ⟨S + 1, 3, none⟩ = some (.slice a3 a4 a5) := HS5.out.key.cell 3
    have y4 : w5.cell? ⟨S + 1, 4, none⟩ = some (.slice a6 a7 a8) := HS5.out.key.cell 4
    obtain ⟨z, hz⟩ : ∃ z, bOk n L = z := ⟨_, rfl⟩
    have HZ := Lib.hid hz
    clear hz
    go_wp2_with fail
    refine (HS5.out.valid HZ.out).mono ?_
    rintro e w6 ⟨rfl, hb⟩
    have HS6 := Lib.hid (HS5.out.below hb)
    have HO6 := Lib.hid (HO5.out.below hb (Nat.le_refl _))
    have HP6 := Lib.hid (HP5.out.below hb (Nat.le_refl _))
    clear hb
    clear x0 x1 y0 y1 y2 y3 y4
    have x0 : w6.cell? ⟨S, 0, none⟩ = some (.int .i64 n) := HS6.out.box.cell 0
    have x1 : w6.cell? ⟨S, 1, none⟩ = some (.slice A1 N1 cap1) := HS6.out.box.cell 1
    have y0 : w6.cell? ⟨S + 1, 0, none⟩ = some (.int .i64 a0) := HS6.out.key.cell 0
    have y1 : w6.cell? ⟨S + 1, 1, none⟩ = some (.int .i64 a1) := HS6.out.key.cell 1
    have y2 : w6.cell? ⟨S + 1, 2, none⟩ = some (.string a2) := HS6.out.key.cell 2
    have y3 : w6.cell? ⟨S + 1, 3, none⟩ = some (.slice a3 a4 a5) := HS6.out.key.cell 3
    have y4 : w6.cell? ⟨S + 1, 4, none⟩ = some (.slice a6 a7 a8) := HS6.out.key.cell 4
    cases z with
    | false =>
      go_wp2_with fail
      refine (same_is _ HO6.out HP6.out).mono ?_
      rintro e w7 ⟨rfl, hb⟩
      have HS7 := Lib.hid (HS6.out.below hb)
      have HO7 := Lib.hid (HO6.out.below hb (Nat.le_refl _))
      have HP7 := Lib.hid (HP6.out.below hb (Nat.le_refl _))
      clear hb
      clear x0 x1 y0 y1 y2 y3 y4
      go_wp2
      go_ret
      exact ⟨rfl, HS7.out.bel⟩
    | true =>
      obtain ⟨y, hy⟩ : ∃ y, keyB k = y := ⟨_, rfl⟩
      have HY := Lib.hid hy
      clear hy
      go_wp2_with fail
      refine (HS6.out.fine HY.out HNT.out).mono ?_
      rintro e w7 ⟨rfl, hb⟩
      have HS7 := Lib.hid (HS6.out.below hb)
      have HO7 := Lib.hid (HO6.out.below hb (Nat.le_refl _))
      have HP7 := Lib.hid (HP6.out.below hb (Nat.le_refl _))
      clear hb
      clear x0 x1 y0 y1 y2 y3 y4
      have x0 : w7.cell? ⟨S, 0, none⟩ = some (.int .i64 n) := HS7.out.box.cell 0
      have x1 : w7.cell? ⟨S, 1, none⟩ = some (.slice A1 N1 cap1) := HS7.out.box.cell 1
      have y0 : w7.cell? ⟨S + 1, 0, none⟩ = some (.int .i64 a0) := HS7.out.key.cell 0
      have y1 : w7.cell? ⟨S + 1, 1, none⟩ = some (.int .i64 a1) := HS7.out.key.cell 1
      have y2 : w7.cell? ⟨S + 1, 2, none⟩ = some (.string a2) := HS7.out.key.cell 2
      have y3 : w7.cell? ⟨S + 1, 3, none⟩ = some (.slice a3 a4 a5) := HS7.out.key.cell 3
      have y4 : w7.cell? ⟨S + 1, 4, none⟩ = some (.slice a6 a7 a8) := HS7.out.key.cell 4
      cases y with
      | false =>
        go_wp2_with fail
        refine (same_is _ HO7.out HP7.out).mono ?_
        rintro e w8 ⟨rfl, hb⟩
        have HS8 := Lib.hid (HS7.out.below hb)
        have HO8 := Lib.hid (HO7.out.below hb (Nat.le_refl _))
        have HP8 := Lib.hid (HP7.out.below hb (Nat.le_refl _))
        clear hb
        clear x0 x1 y0 y1 y2 y3 y4
        go_wp2
        go_ret
        exact ⟨rfl, HS8.out.bel⟩
      | true =>
        have HGP : Hid (plT L k L.length = G) := Lib.hid ((srT_yes HY.out HZ.out).symm.trans HG.out)
        have hN10 : N1 ≤ 10 := by rw [← HS2.out.mails.1]; exact (bOk_iff.1 HZ.out).2.2.2.2
        go_wp2_with fail
        refine (join_at 6 _ HS7.out.kv (kv_leaf 0 0 (t := ⟨#[]⟩) (by decide))).mono ?_
        rintro e w8 ⟨QJ, rfl, hkj, hb⟩
        have HKJ := Lib.hid hkj
        have HS8 := Lib.hid (HS7.out.below hb)
        clear hb hkj
        clear x0 x1 y0 y1 y2 y3 y4
        obtain ⟨QX, hQX⟩ : ∃ Q, w8.heap.size = Q := ⟨_, rfl⟩
        obtain ⟨w9, hw9⟩ : ∃ wa, ((w8.alloc (.cells #[.int .i64 6, .int .i64 0, .string ⟨#[]⟩, .slice none 0 0, .slice (some ⟨QJ, 0, none⟩) 2 2] 26)).alloc (.cells #[.int .i64 5, .int .i64 0, .string ⟨#[]⟩, .slice none 0 0, .slice (some ⟨w8.heap.size, 0, none⟩) 1 1] 26)) = wa := ⟨_, rfl⟩
        have hb : Below w8.heap.size w8 w9 := by rw [← hw9]; exact ((Below.refl _ _).alloc (Nat.le_refl _) _).alloc (by simp) _
        have HKX := Lib.hid (show KV w9 (morgX k) (kval (5, 0, ⟨#[]⟩, (none, 0, 0), (some ⟨QX, 0, none⟩, 1, 1))) by rw [← hw9]; exact kv_made (rs := [(6, 0, ⟨#[]⟩, (none, 0, 0), (some ⟨QJ, 0, none⟩, 2, 2))]) hQX (krs_one HKJ.out) rfl _)
        have HQX := Lib.hid (show Whole w9 (QX + 1) 26 #[.int .i64 5, .int .i64 0, .string ⟨#[]⟩, .slice none 0 0, .slice (some ⟨QX, 0, none⟩) 1 1] by rw [← hw9, hQX]; exact whole_made1 (by simp [hQX]))
        have HWNX := Lib.hid hw9
        have HQQX := Lib.hid hQX
        have HS9 := Lib.hid (HS8.out.below hb)
        clear hb hw9 hQX
        have rx0 : ((w8.alloc (.cells #[.int .i64 6, .int .i64 0, .string ⟨#[]⟩, .slice none 0 0, .slice (some ⟨QJ, 0, none⟩) 2 2] 26)).alloc (.cells #[.int .i64 5, .int .i64 0, .string ⟨#[]⟩, .slice none 0 0, .slice (some ⟨w8.heap.size, 0, none⟩) 1 1] 26)).cell? ⟨S, 0, none⟩ = some (.int .i64 n) := by rw [HWNX.out]; exact HS9.out.box.cell 0
        have rx1 : ((w8.alloc (.cells #[.int .i64 6, .int .i64 0, .string ⟨#[]⟩, .slice none 0 0, .slice (some ⟨QJ, 0, none⟩) 2 2] 26)).alloc (.cells #[.int .i64 5, .int .i64 0, .string ⟨#[]⟩, .slice none 0 0, .slice (some ⟨w8.heap.size, 0, none⟩) 1 1] 26)).cell? ⟨S, 1, none⟩ = some (.slice A1 N1 cap1) := by rw [HWNX.out]; exact HS9.out.box.cell 1
        have ry0 : ((w8.alloc (.cells #[.int .i64 6, .int .i64 0, .string ⟨#[]⟩, .slice none 0 0, .slice (some ⟨QJ, 0, none⟩) 2 2] 26)).alloc (.cells #[.int .i64 5, .int .i64 0, .string ⟨#[]⟩, .slice none 0 0, .slice (some ⟨w8.heap.size, 0, none⟩) 1 1] 26)).cell? ⟨S + 1, 0, none⟩ = some (.int .i64 a0) := by rw [HWNX.out]; exact HS9.out.key.cell 0
        have ry1 : ((w8.alloc (.cells #[.int .i64 6, .int .i64 0, .string ⟨#[]⟩, .slice none 0 0, .slice (some ⟨QJ, 0, none⟩) 2 2] 26)).alloc (.cells #[.int .i64 5, .int .i64 0, .string ⟨#[]⟩, .slice none 0 0, .slice (some ⟨w8.heap.size, 0, none⟩) 1 1] 26)).cell? ⟨S + 1, 1, none⟩ = some (.int .i64 a1) := by rw [HWNX.out]; exact HS9.out.key.cell 1
        have ry2 : ((w8.alloc (.cells #[.int .i64 6, .int .i64 0, .string ⟨#[]⟩, .slice none 0 0, .slice (some ⟨QJ, 0, none⟩) 2 2] 26)).alloc (.cells #[.int .i64 5, .int .i64 0, .string ⟨#[]⟩, .slice none 0 0, .slice (some ⟨w8.heap.size, 0, none⟩) 1 1] 26)).cell? ⟨S + 1, 2, none⟩ = some (.string a2) := by rw [HWNX.out]; exact HS9.out.key.cell 2
        have ry3 : ((w8.alloc (.cells #[.int .i64 6, .int .i64 0, .string ⟨#[]⟩, .slice none 0 0, .slice (some ⟨QJ, 0, none⟩) 2 2] 26)).alloc (.cells #[.int .i64 5, .int .i64 0, .string ⟨#[]⟩, .slice none 0 0, .slice (some ⟨w8.heap.size, 0, none⟩) 1 1] 26)).cell? ⟨S + 1, 3, none⟩ = some (.slice a3 a4 a5) := by rw [HWNX.out]; exact HS9.out.key.cell 3
        have ry4 : ((w8.alloc (.cells #[.int .i64 6, .int .i64 0, .string ⟨#[]⟩, .slice none 0 0, .slice (some ⟨QJ, 0, none⟩) 2 2] 26)).alloc (.cells #[.int .i64 5, .int .i64 0, .string ⟨#[]⟩, .slice none 0 0, .slice (some ⟨w8.heap.size, 0, none⟩) 1 1] 26)).cell? ⟨S + 1, 4, none⟩ = some (.slice a6 a7 a8) := by rw [HWNX.out]; exact HS9.out.key.cell 4
        have qX0 : ((w8.alloc (.cells #[.int .i64 6, .int .i64 0, .string ⟨#[]⟩, .slice none 0 0, .slice (some ⟨QJ, 0, none⟩) 2 2] 26)).alloc (.cells #[.int .i64 5, .int .i64 0, .string ⟨#[]⟩, .slice none 0 0, .slice (some ⟨w8.heap.size, 0, none⟩) 1 1] 26)).cell? ⟨w8.heap.size + 1, 0, none⟩ = some (.int .i64 5) := by rw [HWNX.out, HQQX.out]; exact HQX.out.cell 0
        have qX1 : ((w8.alloc (.cells #[.int .i64 6, .int .i64 0, .string ⟨#[]⟩, .slice none 0 0, .slice (some ⟨QJ, 0, none⟩) 2 2] 26)).alloc (.cells #[.int .i64 5, .int .i64 0, .string ⟨#[]⟩, .slice none 0 0, .slice (some ⟨w8.heap.size, 0, none⟩) 1 1] 26)).cell? ⟨w8.heap.size + 1, 1, none⟩ = some (.int .i64 0) := by rw [HWNX.out, HQQX.out]; exact HQX.out.cell 1
        have qX2 : ((w8.alloc (.cells #[.int .i64 6, .int .i64 0, .string ⟨#[]⟩, .slice none 0 0, .slice (some ⟨QJ, 0, none⟩) 2 2] 26)).alloc (.cells #[.int .i64 5, .int .i64 0, .string ⟨#[]⟩, .slice none 0 0, .slice (some ⟨w8.heap.size, 0, none⟩) 1 1] 26)).cell? ⟨w8.heap.size + 1, 2, none⟩ = some (.string ⟨#[]⟩) := by rw [HWNX.out, HQQX.out]; exact HQX.out.cell 2
        have qX3 : ((w8.alloc (.cells #[.int .i64 6, .int .i64 0, .string ⟨#[]⟩, .slice none 0 0, .slice (some ⟨QJ, 0, none⟩) 2 2] 26)).alloc (.cells #[.int .i64 5, .int .i64 0, .string ⟨#[]⟩, .slice none 0 0, .slice (some ⟨w8.heap.size, 0, none⟩) 1 1] 26)).cell? ⟨w8.heap.size + 1, 3, none⟩ = some (.slice none 0 0) := by rw [HWNX.out, HQQX.out]; exact HQX.out.cell 3
        have qX4 : ((w8.alloc (.cells #[.int .i64 6, .int .i64 0, .string ⟨#[]⟩, .slice none 0 0, .slice (some ⟨QJ, 0, none⟩) 2 2] 26)).alloc (.cells #[.int .i64 5, .int .i64 0, .string ⟨#[]⟩, .slice none 0 0, .slice (some ⟨w8.heap.size, 0, none⟩) 1 1] 26)).cell? ⟨w8.heap.size + 1, 4, none⟩ = some (.slice (some ⟨w8.heap.size, 0, none⟩) 1 1) := by rw [HWNX.out, HQQX.out]; exact HQX.out.cell 4
        have hsz : w9.heap.size = QX + 1 + 1 := by rw [← HQQX.out, ← HWNX.out]; simp
        obtain ⟨w10, hw10⟩ : ∃ wa, ((w9.alloc (.cells #[.int .i64 a0, .int .i64 a1, .string a2, .slice a3 a4 a5, .slice a6 a7 a8] 26)).alloc (.cells #[.int .i64 0, .int .i64 0, .string ⟨#[]⟩, .slice none 0 0, .slice none 0 0] 26)) = wa := ⟨_, rfl⟩
        have hb : Below w9.heap.size w9 w10 := by rw [← hw10]; exact ((Below.refl _ _).alloc (Nat.le_refl _) _).alloc (by simp) _
        have HNK := Lib.hid (show KV w10 (.mk 5 0 ⟨#[]⟩ [] [k]) (kval (5, 0, ⟨#[]⟩, (none, 0, 0), (some ⟨QX + 1 + 1, 0, none⟩, 1, 1))) by rw [← hw10]; exact kv_made (rs := [(a0, a1, a2, (a3, a4, a5), (a6, a7, a8))]) hsz (krs_one HS9.out.kv) rfl _)
        have HN0 := Lib.hid (show KV w10 (.mk 5 0 ⟨#[]⟩ [] [zeroK]) (kval (5, 0, ⟨#[]⟩, (none, 0, 0), (some ⟨QX + 1 + 1 + 1, 0, none⟩, 1, 1))) by rw [← hw10]; exact kv_node (RAt.made keyR (w9.alloc _) [(0, 0, ⟨#[]⟩, (none, 0, 0), (none, 0, 0))] (QX + 1 + 1 + 1) (by simp [hsz])) (krs_one (kv_leaf 0 0 (by decide))) rfl)
        have HW10 := Lib.hid hw10
        have HS10 := Lib.hid (HS9.out.below hb)
        have HJ10 := Lib.hid (HQX.out.below hb HQX.out.lt)
        have HKX10 := Lib.hid (KV.below hb (Nat.le_refl _) _ _ HKX.out)
        clear hb hw10 hsz
        go_wp2_with fail
        rw [HWNX.out, HQQX.out, HW10.out]
        refine (join_at 7 _ HNK.out HN0.out).mono ?_
        rintro e w11 ⟨QY, rfl, hkj, hb⟩
        have HKJY := Lib.hid hkj
        have HS11 := Lib.hid (HS10.out.below hb)
        have HJ11 := Lib.hid (HJ10.out.below hb HJ10.out.lt)
        have HKX11 := Lib.hid (KV.below hb (Nat.le_refl _) _ _ HKX10.out)
        clear hb hkj
        clear rx0 rx1 ry0 ry1 ry2 ry3 ry4 qX0 qX1 qX2 qX3 qX4
        obtain ⟨Y, hY⟩ : ∃ Y, w11.heap.size = Y := ⟨_, rfl⟩
        obtain ⟨w12, hw12⟩ : ∃ wa, w11.alloc (.cells #[.int .i64 7, .int .i64 0, .string ⟨#[]⟩, .slice none 0 0, .slice (some ⟨QY, 0, none⟩) 2 2] 26) = wa := ⟨_, rfl⟩
        have hb : Below w11.heap.size w11 w12 := by rw [← hw12]; exact below_new w11 _
        have HF := Lib.hid (show Whole w12 Y 26 #[.int .i64 7, .int .i64 0, .string ⟨#[]⟩, .slice none 0 0, .slice (some ⟨QY, 0, none⟩) 2 2] by rw [← hw12]; exact whole_made1 hY)
        have HKY := Lib.hid (KV.below hb (Nat.le_refl _) _ _ HKJY.out)
        have HWY := Lib.hid hw12
        have HYY := Lib.hid hY
        have HS12 := Lib.hid (HS11.out.below hb)
        have HJ12 := Lib.hid (HJ11.out.below hb HJ11.out.lt)
        have HKX12 := Lib.hid (KV.below hb (Nat.le_refl _) _ _ HKX11.out)
        clear hb hw12 hY
        obtain ⟨v, hv⟩ : ∃ v, decide (nodesT k + 4 ≤ 9) = v := ⟨_, rfl⟩
        have HD := Lib.hid hv
        have HV := Lib.hid (key_morgY (key_all HY.out) hv)
        clear hv
        go_wp2_with fail
        rw [HWY.out, HYY.out]
        refine (impl_key HV.out w12 HS12.out.shp HS12.out.lst HKY.out).mono ?_
        rintro e w13 ⟨rfl, hb⟩
        have HS13 := Lib.hid (HS12.out.below hb)
        have HJ13 := Lib.hid (HJ12.out.below hb HJ12.out.lt)
        have HKX13 := Lib.hid (KV.below hb (Nat.le_refl _) _ _ HKX12.out)
        have HF13 := Lib.hid (HF.out.below hb HF.out.lt)
        have HKY13 := Lib.hid (KV.below hb (Nat.le_refl _) _ _ HKY.out)
        clear hb
        have ax0 : w13.cell? ⟨S, 0, none⟩ = some (.int .i64 n) := HS13.out.box.cell 0
        have ax1 : w13.cell? ⟨S, 1, none⟩ = some (.slice A1 N1 cap1) := HS13.out.box.cell 1
        have aj0 : w13.cell? ⟨QX + 1, 0, none⟩ = some (.int .i64 5) := HJ13.out.cell 0
        have aj1 : w13.cell? ⟨QX + 1, 1, none⟩ = some (.int .i64 0) := HJ13.out.cell 1
        have aj2 : w13.cell? ⟨QX + 1, 2, none⟩ = some (.string ⟨#[]⟩) := HJ13.out.cell 2
        have aj3 : w13.cell? ⟨QX + 1, 3, none⟩ = some (.slice none 0 0) := HJ13.out.cell 3
        have aj4 : w13.cell? ⟨QX + 1, 4, none⟩ = some (.slice (some ⟨QX, 0, none⟩) 1 1) := HJ13.out.cell 4
        have af0 : w13.cell? ⟨Y, 0, none⟩ = some (.int .i64 7) := HF13.out.cell 0
        have af1 : w13.cell? ⟨Y, 1, none⟩ = some (.int .i64 0) := HF13.out.cell 1
        have af2 : w13.cell? ⟨Y, 2, none⟩ = some (.string ⟨#[]⟩) := HF13.out.cell 2
        have af3 : w13.cell? ⟨Y, 3, none⟩ = some (.slice none 0 0) := HF13.out.cell 3
        have af4 : w13.cell? ⟨Y, 4, none⟩ = some (.slice (some ⟨QY, 0, none⟩) 2 2) := HF13.out.cell 4
        cases v with
        | false =>
          go_wp2_with fail
          refine (impl_search (r := (7, 0, ⟨#[]⟩, (none, 0, 0), (some ⟨QY, 0, none⟩, 2, 2))) (srT_nokey (n := n) (L := L) HV.out) w13 HS13.out.mails HKY13.out HS13.out.shp HS13.out.lst HS13.out.mx).mono ?_
          rintro e w14 ⟨AT, NT, capT, rfl, ho, hb⟩
          have HT := Lib.hid (gives_in ho (Nat.zero_le 14))
          have HS14 := Lib.hid (HS13.out.below hb)
          clear hb ho
          have hT0 : NT = 0 := HT.out.1.symm
          subst hT0
          go_wp2
          go_ret
          exact ⟨rfl, HS14.out.bel⟩
        | true =>
          obtain ⟨GX, hGX⟩ : ∃ G, srT n L (morgX k) = G := ⟨_, rfl⟩
          have HGX := Lib.hid hGX
          have HGX2 := Lib.hid ((sr_morg (n := n) (L := L) (key_all HY.out) HD.out).trans hGX)
          have HGXL : Hid (GX.length ≤ 14) := Lib.hid (hGX ▸ srT_len n L _ HL14.out)
          clear hGX
          have HSD := Lib.hid (HS13.out.below (below_drew1 w13))
          have HKXD := Lib.hid (KV.below (below_drew1 w13) (Nat.le_refl _) _ _ HKX13.out)
          go_wp2
          go_region_held3 (fun w' => w'.cell? ⟨S, 0, none⟩ = some (.int .i64 n) ∧ w'.cell? ⟨S, 1, none⟩ = some (.slice A1 N1 cap1) ∧ w'.cell? ⟨QX + 1, 0, none⟩ = some (.int .i64 5) ∧ w'.cell? ⟨QX + 1, 1, none⟩ = some (.int .i64 0) ∧ w'.cell? ⟨QX + 1, 2, none⟩ = some (.string ⟨#[]⟩) ∧ w'.cell? ⟨QX + 1, 3, none⟩ = some (.slice none 0 0) ∧ w'.cell? ⟨QX + 1, 4, none⟩ = some (.slice (some ⟨QX, 0, none⟩) 1 1) ∧ w'.cell? ⟨Y, 0, none⟩ = some (.int .i64 7) ∧ w'.cell? ⟨Y, 1, none⟩ = some (.int .i64 0) ∧ w'.cell? ⟨Y, 2, none⟩ = some (.string ⟨#[]⟩) ∧ w'.cell? ⟨Y, 3, none⟩ = some (.slice none 0 0) ∧ w'.cell? ⟨Y, 4, none⟩ = some (.slice (some ⟨QY, 0, none⟩) 2 2)) (go_keep) (first
            | (have hq := HS15
               clear hq
               go_at_call 31
               refine (same_is _ HT15.out HU15.out).mono ?_
               rintro e w16 ⟨rfl, hb⟩
               have HS16 := Lib.hid (HS15.out.below hb)
               have HJ16 := Lib.hid (HJ15.out.below hb HJ15.out.lt)
               have HF16 := Lib.hid (HF15.out.below hb HF15.out.lt)
               have dx0 : w16.cell? ⟨S, 0, none⟩ = some (.int .i64 n) := HS16.out.box.cell 0
               have dx1 : w16.cell? ⟨S, 1, none⟩ = some (.slice A1 N1 cap1) := HS16.out.box.cell 1
               have dj0 : w16.cell? ⟨QX + 1, 0, none⟩ = some (.int .i64 5) := HJ16.out.cell 0
               have dj1 : w16.cell? ⟨QX + 1, 1, none⟩ = some (.int .i64 0) := HJ16.out.cell 1
               have dj2 : w16.cell? ⟨QX + 1, 2, none⟩ = some (.string ⟨#[]⟩) := HJ16.out.cell 2
               have dj3 : w16.cell? ⟨QX + 1, 3, none⟩ = some (.slice none 0 0) := HJ16.out.cell 3
               have dj4 : w16.cell? ⟨QX + 1, 4, none⟩ = some (.slice (some ⟨QX, 0, none⟩) 1 1) := HJ16.out.cell 4
               have df0 : w16.cell? ⟨Y, 0, none⟩ = some (.int .i64 7) := HF16.out.cell 0
               have df1 : w16.cell? ⟨Y, 1, none⟩ = some (.int .i64 0) := HF16.out.cell 1
               have df2 : w16.cell? ⟨Y, 2, none⟩ = some (.string ⟨#[]⟩) := HF16.out.cell 2
               have df3 : w16.cell? ⟨Y, 3, none⟩ = some (.slice none 0 0) := HF16.out.cell 3
               have df4 : w16.cell? ⟨Y, 4, none⟩ = some (.slice (some ⟨QY, 0, none⟩) 2 2) := HF16.out.cell 4
               clear hb)
            | (have hq := HS14
               clear hq
               go_at_call 29
               refine (impl_search (r := (7, 0, ⟨#[]⟩, (none, 0, 0), (some ⟨QY, 0, none⟩, 2, 2))) HGX2.out w14 HS14.out.mails HKY14.out HS14.out.shp HS14.out.lst HS14.out.mx).mono ?_
               rintro e w15 ⟨A6, N6, cap6, rfl, ho, hb⟩
               have HU15 := Lib.hid (gives_in ho HGXL.out)
               have HT15 := Lib.hid (HT14.out.below hb (Nat.le_refl _))
               have HS15 := Lib.hid (HS14.out.below hb)
               have HJ15 := Lib.hid (HJ14.out.below hb HJ14.out.lt)
               have HF15 := Lib.hid (HF14.out.below hb HF14.out.lt)
               have cx0 : w15.cell? ⟨S, 0, none⟩ = some (.int .i64 n) := HS15.out.box.cell 0
               have cx1 : w15.cell? ⟨S, 1, none⟩ = some (.slice A1 N1 cap1) := HS15.out.box.cell 1
               have cj0 : w15.cell? ⟨QX + 1, 0, none⟩ = some (.int .i64 5) := HJ15.out.cell 0
               have cj1 : w15.cell? ⟨QX + 1, 1, none⟩ = some (.int .i64 0) := HJ15.out.cell 1
               have cj2 : w15.cell? ⟨QX + 1, 2, none⟩ = some (.string ⟨#[]⟩) := HJ15.out.cell 2
               have cj3 : w15.cell? ⟨QX + 1, 3, none⟩ = some (.slice none 0 0) := HJ15.out.cell 3
               have cj4 : w15.cell? ⟨QX + 1, 4, none⟩ = some (.slice (some ⟨QX, 0, none⟩) 1 1) := HJ15.out.cell 4
               have cf0 : w15.cell? ⟨Y, 0, none⟩ = some (.int .i64 7) := HF15.out.cell 0
               have cf1 : w15.cell? ⟨Y, 1, none⟩ = some (.int .i64 0) := HF15.out.cell 1
               have cf2 : w15.cell? ⟨Y, 2, none⟩ = some (.string ⟨#[]⟩) := HF15.out.cell 2
               have cf3 : w15.cell? ⟨Y, 3, none⟩ = some (.slice none 0 0) := HF15.out.cell 3
               have cf4 : w15.cell? ⟨Y, 4, none⟩ = some (.slice (some ⟨QY, 0, none⟩) 2 2) := HF15.out.cell 4
               clear hb ho)
            | (go_at_call 29
               refine (impl_search (r := (5, 0, ⟨#[]⟩, (none, 0, 0), (some ⟨QX, 0, none⟩, 1, 1))) HGX.out w13.drew HSD.out.mails HKXD.out HSD.out.shp HSD.out.lst HSD.out.mx).mono ?_
               rintro e w14 ⟨A5, N5, cap5, rfl, ho, hb⟩
               have hb0 : Below w13.heap.size w13 w14 := (below_drew1 w13).trans hb
               have HT14 := Lib.hid (gives_in ho HGXL.out)
               have HS14 := Lib.hid (HS13.out.below hb0)
               have HJ14 := Lib.hid (HJ13.out.below hb0 HJ13.out.lt)
               have HF14 := Lib.hid (HF13.out.below hb0 HF13.out.lt)
               have bx0 : w14.cell? ⟨S, 0, none⟩ = some (.int .i64 n) := HS14.out.box.cell 0
               have bx1 : w14.cell? ⟨S, 1, none⟩ = some (.slice A1 N1 cap1) := HS14.out.box.cell 1
               have bj0 : w14.cell? ⟨QX + 1, 0, none⟩ = some (.int .i64 5) := HJ14.out.cell 0
               have bj1 : w14.cell? ⟨QX + 1, 1, none⟩ = some (.int .i64 0) := HJ14.out.cell 1
               have bj2 : w14.cell? ⟨QX + 1, 2, none⟩ = some (.string ⟨#[]⟩) := HJ14.out.cell 2
               have bj3 : w14.cell? ⟨QX + 1, 3, none⟩ = some (.slice none 0 0) := HJ14.out.cell 3
               have bj4 : w14.cell? ⟨QX + 1, 4, none⟩ = some (.slice (some ⟨QX, 0, none⟩) 1 1) := HJ14.out.cell 4
               have bf0 : w14.cell? ⟨Y, 0, none⟩ = some (.int .i64 7) := HF14.out.cell 0
               have bf1 : w14.cell? ⟨Y, 1, none⟩ = some (.int .i64 0) := HF14.out.cell 1
               have bf2 : w14.cell? ⟨Y, 2, none⟩ = some (.string ⟨#[]⟩) := HF14.out.cell 2
               have bf3 : w14.cell? ⟨Y, 3, none⟩ = some (.slice none 0 0) := HF14.out.cell 3
               have bf4 : w14.cell? ⟨Y, 4, none⟩ = some (.slice (some ⟨QY, 0, none⟩) 2 2) := HF14.out.cell 4
               have HKY14 := Lib.hid (KV.below hb0 (Nat.le_refl _) _ _ HKY13.out)
               clear hb hb0 ho))
          go_wp2
          go_ret
          exact ⟨rfl, HS16.out.bel⟩
  · have hl' : (1048576 : Int) < (len : Int) := by omega
    go_enter Tryd.func12, Tryd.ntmps12
    go_wp2
    go_ret
    exact ⟨rfl, Below.refl _ _⟩
end Go.Proofs.YtpihibconbejlaaDoor
