/-
  The walks of the laws FnSearchNot. Conditions: the code can be read; the tables hold what the program lays there.
-/
import Derived.Test.YtpihibconbejlaaDoorKv2
namespace Go.Proofs.YtpihibconbejlaaDoor
open Go.RowKit
set_option linter.unusedVariables false

set_option maxRecDepth 20000 in
set_option maxHeartbeats 8000000 in
theorem law_FnSearchNot (A : Option Addr) (len cap : Nat) (w : World) (h : Coded w A len cap) (hSh : Shp w) (hLs : Lst w) (hMx : MxL w) : Calls Tryd.prog 8 #[.slice A len cap] w (Holds1 w) := by
  have HC := Lib.hid h
  have HSh := Lib.hid hSh
  have HLs := Lib.hid hLs
  have HMx := Lib.hid hMx
  clear h hSh hLs hMx
  by_cases hl : len ≤ 1048576
  · have hl' : (len : Int) ≤ 1048576 := by omega
    go_enter Tryd.func8, Tryd.ntmps8
    go_wp2_with fail
    refine (draw_search kd3 A len cap _ HC.out).mono ?_
    rintro e w1 ⟨n, A1, N1, cap1, L, k, ⟨a0, a1, a2, ⟨a3, a4, a5⟩, ⟨a6, a7, a8⟩⟩, rfl, hN14, hn1, hn2, hnt, hni, hM, hk, hb⟩
    obtain ⟨S, hS⟩ : ∃ S, w1.heap.size = S := ⟨_, rfl⟩
    obtain ⟨w2, hw2⟩ : ∃ w2, ((w1.alloc (.cells #[.int .i64 n, .slice A1 N1 cap1] 37)).alloc (.cells #[.int .i64 a0, .int .i64 a1, .string a2, .slice a3 a4 a5, .slice a6 a7 a8] 26)) = w2 := ⟨_, rfl⟩
    have HS2 := Lib.hid (show Sb w n A1 N1 cap1 L k (a0, a1, a2, (a3, a4, a5), (a6, a7, a8)) S w2 by rw [← hw2]; exact Sb.made hS hb hM hk HSh.out HLs.out HMx.out)
    have HNT := Lib.hid hnt
    have HNI := Lib.hid hni
    have hL14 : L.length ≤ 14 := by rw [hM.1]; exact hN14
    obtain ⟨G, hG⟩ : ∃ G, srT n L k = G := ⟨_, rfl⟩
    have HG := Lib.hid hG
    have HGL : Hid (G.length ≤ 14) := Lib.hid (hG ▸ srT_len n L k hL14)
    have HL14 := Lib.hid hL14
    have HW2 := Lib.hid hw2
    have HSS := Lib.hid hS
    clear hM hk hb hnt hni hw2 hS hG hL14
    go_wp2_with fail
    rw [HW2.out, HSS.out]
    refine (HS2.out.search HG.out).mono ?_
    rintro e w3 ⟨AO, NO, capO, rfl, ho, hb⟩
    have HS3 := Lib.hid (HS2.out.below hb)
    have HO3 := Lib.hid (gives_in ho HGL.out)
    clear hb ho
    have x0 : w3.cell? ⟨S, 0, none⟩ = some (.int .i64 n) := HS3.out.box.cell 0
    have x1 : w3.cell? ⟨S, 1, none⟩ = some (.slice A1 N1 cap1) := HS3.out.box.cell 1
    have y0 : w3.cell? ⟨S + 1, 0, none⟩ = some (.int .i64 a0) := HS3.out.key.cell 0
    have y1 : w3.cell? ⟨S + 1, 1, none⟩ = some (.int .i64 a1) := HS3.out.key.cell 1
    have y2 : w3.cell? ⟨S + 1, 2, none⟩ = some (.string a2) := HS3.out.key.cell 2
    have y3 : w3.cell? ⟨S + 1, 3, none⟩ = some (.slice a3 a4 a5) := HS3.out.key.cell 3
    have y4 : w3.cell? ⟨S + 1, 4, none⟩ = some (.slice a6 a7 a8) := HS3.out.key.cell 4
    go_wp2_with fail
    refine (HS3.out.want HG.out HNT.out).mono ?_
    rintro e w4 ⟨AP, NP, capP, rfl, ho, hb⟩
    have HS4 := Lib.hid (HS3.out.below hb)
    have HO4 := Lib.hid (HO3.out.below hb (Nat.le_refl _))
    have HP4 := Lib.hid (gives_in ho HGL.out)
    clear hb ho
    clear x0 x1 y0 y1 y2 y3 y4
    have x0 : w4.cell? ⟨S, 0, none⟩ = some (.int .i64 n) := HS4.out.box.cell 0
    have x1 : w4.cell? ⟨S, 1, none⟩ = some (.slice A1 N1 cap1) := HS4.out.box.cell 1
    have y0 : w4.cell? ⟨S + 1, 0, none⟩ = some (.int .i64 a0) := HS4.out.key.cell 0
    have y1 : w4.cell? ⟨S + 1, 1, none⟩ = some (.int .i64 a1) := HS4.out.key.cell 1
    have y2 : w4.cell? ⟨S + 1, 2, none⟩ = some (.string a2) := HS4.out.key.cell 2
    have y3 : w4.cell? ⟨S + 1, 3, none⟩ = some (.slice a3 a4 a5) := HS4.out.key.cell 3
    have y4 : w4.cell? ⟨S + 1, 4, none⟩ = some (.slice a6 a7 a8) := HS4.out.key.cell 4
    go_wp2_with fail
    refine (same_is _ HO4.out HP4.out).mono ?_
    rintro e w5 ⟨rfl, hb⟩
    have HS5 := Lib.hid (HS4.out.below hb)
    have HO5 := Lib.hid (HO4.out.below hb (Nat.le_refl _))
    have HP5 := Lib.hid (HP4.out.below hb (Nat.le_refl _))
    clear hb
    clear x0 x1 y0 y1 y2 y3 y4
    have x0 : w5.cell? ⟨S, 0, none⟩ = some (.int .i64 n) := HS5.out.box.cell 0
    have x1 : w5.cell? ⟨S, 1, none⟩ = some (.slice A1 N1 cap1) := HS5.out.box.cell 1
    have y0 : w5.cell? ⟨S + 1, 0, none⟩ = some (.int .i64 a0) := HS5.out.key.cell 0
    have y1 : w5.cell? ⟨S + 1, 1, none⟩ = some (.int .i64 a1) := HS5.out.key.cell 1
    have y2 : w5.cell? ⟨S + 1, 2, none⟩ = some (.string a2) := HS5.out.key.cell 2
    have y3 : w5.cell? ⟨S + 1, 3, none⟩ = some (.slice a3 a4 a5) := HS5.out.key.cell 3
    have y4 : w5.cell? ⟨S + 1, 4, none⟩ = some (.slice a6 a7 a8) := HS5.out.key.cell 4
    obtain ⟨z, hz⟩ : ∃ z, bOk n L = z := ⟨_, rfl⟩
    have HZ := Lib.hid hz
    clear hz
    go_wp2_with fail
    refine (HS5.out.valid HZ.out).mono ?_
    rintro e w6 ⟨rfl, hb⟩
    have HS6 := Lib.hid (HS5.out.below hb)
    have HO6 := Lib.hid (HO5.out.below hb (Nat.le_refl _))
    have HP6 := Lib.hid (HP5.out.below hb (Nat.le_refl _))
    clear hb
    clear x0 x1 y0 y1 y2 y3 y4
    have x0 : w6.cell? ⟨S, 0, none⟩ = some (.int .i64 n) := HS6.out.box.cell 0
    have x1 : w6.cell? ⟨S, 1, none⟩ = some (.slice A1 N1 cap1) := HS6.out.box.cell 1
    have y0 : w6.cell? ⟨S + 1, 0, none⟩ = some (.int .i64 a0) := HS6.out.key.cell 0
    have y1 : w6.cell? ⟨S + 1, 1, none⟩ = some (.int .i64 a1) := HS6.out.key.cell 1
    have y2 : w6.cell? ⟨S + 1, 2, none⟩ = some (.string a2) := HS6.out.key.cell 2
    have y3 : w6.cell? ⟨S + 1, 3, none⟩ = some (.slice a3 a4 a5) := HS6.out.key.cell 3
    have y4 : w6.cell? ⟨S + 1, 4, none⟩ = some (.slice a6 a7 a8) := HS6.out.key.cell 4
    cases z with
    | false =>
      go_wp2_with fail
      refine (same_is _ HO6.out HP6.out).mono ?_
      rintro e w7 ⟨rfl, hb⟩
      have HS7 := Lib.hid (HS6.out.below hb)
      have HO7 := Lib.hid (HO6.out.below hb (Nat.le_refl _))
      have HP7 := Lib.hid (HP6.out.below hb (Nat.le_refl _))
      clear hb
      clear x0 x1 y0 y1 y2 y3 y4
      go_wp2
      go_ret
      exact ⟨rfl, HS7.out.bel⟩
    | true =>
      obtain ⟨y, hy⟩ : ∃ y, keyB k = y := ⟨_, rfl⟩
      have HY := Lib.hid hy
      clear hy
      go_wp2_with fail
      refine (HS6.out.fine HY.out HNT.out).mono ?_
      rintro e w7 ⟨rfl, hb⟩
      have HS7 := Lib.hid (HS6.out.below hb)
      have HO7 := Lib.hid (HO6.out.below hb (Nat.le_refl _))
      have HP7 := Lib.hid (HP6.out.below hb (Nat.le_refl _))
      clear hb
      clear x0 x1 y0 y1 y2 y3 y4
      have x0 : w7.cell? ⟨S, 0, none⟩ = some (.int .i64 n) := HS7.out.box.cell 0
      have x1 : w7.cell? ⟨S, 1, none⟩ = some (.slice A1 N1 cap1) := HS7.out.box.cell 1
      have y0 : w7.cell? ⟨S + 1, 0, none⟩ = some (.int .i64 a0) := HS7.out.key.cell 0
      have y1 : w7.cell? ⟨S + 1, 1, none⟩ = some (.int .i64 a1) := HS7.out.key.cell 1
      have y2 : w7.cell? ⟨S + 1, 2, none⟩ = some (.string a2) := HS7.out.key.cell 2
      have y3 : w7.cell? ⟨S + 1, 3, none⟩ = some (.slice a3 a4 a5) := HS7.out.key.cell 3
      have y4 : w7.cell? ⟨S + 1, 4, none⟩ = some (.slice a6 a7 a8) := HS7.out.key.cell 4
      cases y with
      | false =>
        go_wp2_with fail
        refine (same_is _ HO7.out HP7.out).mono ?_
        rintro e w8 ⟨rfl, hb⟩
        have HS8 := Lib.hid (HS7.out.below hb)
        have HO8 := Lib.hid (HO7.out.below hb (Nat.le_refl _))
        have HP8 := Lib.hid (HP7.out.below hb (Nat.le_refl _))
        clear hb
        clear x0 x1 y0 y1 y2 y3 y4
        go_wp2
        go_ret
        exact ⟨rfl, HS8.out.bel⟩
      | true =>
        have HGP : Hid (plT L k L.length = G) := Lib.hid ((srT_yes HY.out HZ.out).symm.trans HG.out)
        have hN10 : N1 ≤ 10 := by rw [← HS2.out.mails.1]; exact (bOk_iff.1 HZ.out).2.2.2.2
        obtain ⟨QN, hQN⟩ : ∃ Q, w7.heap.size = Q := ⟨_, rfl⟩
        obtain ⟨w8, hw8⟩ : ∃ wa, ((w7.alloc (.cells #[.int .i64 a0, .int .i64 a1, .string a2, .slice a3 a4 a5, .slice a6 a7 a8] 26)).alloc (.cells #[.int .i64 5, .int .i64 0, .string ⟨#[]⟩, .slice none 0 0, .slice (some ⟨w7.heap.size, 0, none⟩) 1 1] 26)) = wa := ⟨_, rfl⟩
        have hb : Below w7.heap.size w7 w8 := by rw [← hw8]; exact ((Below.refl _ _).alloc (Nat.le_refl _) _).alloc (by simp) _
        have HKN := Lib.hid (show KV w8 (.mk 5 0 ⟨#[]⟩ [] [k]) (kval (5, 0, ⟨#[]⟩, (none, 0, 0), (some ⟨QN, 0, none⟩, 1, 1))) by rw [← hw8]; exact kv_made (rs := [(a0, a1, a2, (a3, a4, a5), (a6, a7, a8))]) hQN (krs_one HS7.out.kv) rfl _)
        have HQN := Lib.hid (show Whole w8 (QN + 1) 26 #[.int .i64 5, .int .i64 0, .string ⟨#[]⟩, .slice none 0 0, .slice (some ⟨QN, 0, none⟩) 1 1] by rw [← hw8, hQN]; exact whole_made1 (by simp [hQN]))
        have HWNN := Lib.hid hw8
        have HQQN := Lib.hid hQN
        have HS8 := Lib.hid (HS7.out.below hb)
        have HO8 := Lib.hid (HO7.out.below hb (Nat.le_refl _))
        have HP8 := Lib.hid (HP7.out.below hb (Nat.le_refl _))
        clear hb hw8 hQN
        have rx0 : ((w7.alloc (.cells #[.int .i64 a0, .int .i64 a1, .string a2, .slice a3 a4 a5, .slice a6 a7 a8] 26)).alloc (.cells #[.int .i64 5, .int .i64 0, .string ⟨#[]⟩, .slice none 0 0, .slice (some ⟨w7.heap.size, 0, none⟩) 1 1] 26)).cell? ⟨S, 0, none⟩ = some (.int .i64 n) := by rw [HWNN.out]; exact HS8.out.box.cell 0
        have rx1 : ((w7.alloc (.cells #[.int .i64 a0, .int .i64 a1, .string a2, .slice a3 a4 a5, .slice a6 a7 a8] 26)).alloc (.cells #[.int .i64 5, .int .i64 0, .string ⟨#[]⟩, .slice none 0 0, .slice (some ⟨w7.heap.size, 0, none⟩) 1 1] 26)).cell? ⟨S, 1, none⟩ = some (.slice A1 N1 cap1) := by rw [HWNN.out]; exact HS8.out.box.cell 1
        have ry0 : ((w7.alloc (.cells #[.int .i64 a0, .int .i64 a1, .string a2, .slice a3 a4 a5, .slice a6 a7 a8] 26)).alloc (.cells #[.int .i64 5, .int .i64 0, .string ⟨#[]⟩, .slice none 0 0, .slice (some ⟨w7.heap.size, 0, none⟩) 1 1] 26)).cell? ⟨S + 1, 0, none⟩ = some (.int .i64 a0) := by rw [HWNN.out]; exact HS8.out.key.cell 0
        have ry1 : ((w7.alloc (.cells #[.int .i64 a0, .int .i64 a1, .string a2, .slice a3 a4 a5, .slice a6 a7 a8] 26)).alloc (.cells #[.int .i64 5, .int .i64 0, .string ⟨#[]⟩, .slice none 0 0, .slice (some ⟨w7.heap.size, 0, none⟩) 1 1] 26)).cell? ⟨S + 1, 1, none⟩ = some (.int .i64 a1) := by rw [HWNN.out]; exact HS8.out.key.cell 1
        have ry2 : ((w7.alloc (.cells #[.int .i64 a0, .int .i64 a1, .string a2, .slice a3 a4 a5, .slice a6 a7 a8] 26)).alloc (.cells #[.int .i64 5, .int .i64 0, .string ⟨#[]⟩, .slice none 0 0, .slice (some ⟨w7.heap.size, 0, none⟩) 1 1] 26)).cell? ⟨S + 1, 2, none⟩ = some (.string a2) := by rw [HWNN.out]; exact HS8.out.key.cell 2
        have ry3 : ((w7.alloc (.cells #[.int .i64 a0, .int .i64 a1, .string a2, .slice a3 a4 a5, .slice a6 a7 a8] 26)).alloc (.cells #[.int .i64 5, .int .i64 0, .string ⟨#[]⟩, .slice none 0 0, .slice (some ⟨w7.heap.size, 0, none⟩) 1 1] 26)).cell? ⟨S + 1, 3, none⟩ = some (.slice a3 a4 a5) := by rw [HWNN.out]; exact HS8.out.key.cell 3
        have ry4 : ((w7.alloc (.cells #[.int .i64 a0, .int .i64 a1, .string a2, .slice a3 a4 a5, .slice a6 a7 a8] 26)).alloc (.cells #[.int .i64 5, .int .i64 0, .string ⟨#[]⟩, .slice none 0 0, .slice (some ⟨w7.heap.size, 0, none⟩) 1 1] 26)).cell? ⟨S + 1, 4, none⟩ = some (.slice a6 a7 a8) := by rw [HWNN.out]; exact HS8.out.key.cell 4
        have qN0 : ((w7.alloc (.cells #[.int .i64 a0, .int .i64 a1, .string a2, .slice a3 a4 a5, .slice a6 a7 a8] 26)).alloc (.cells #[.int .i64 5, .int .i64 0, .string ⟨#[]⟩, .slice none 0 0, .slice (some ⟨w7.heap.size, 0, none⟩) 1 1] 26)).cell? ⟨w7.heap.size + 1, 0, none⟩ = some (.int .i64 5) := by rw [HWNN.out, HQQN.out]; exact HQN.out.cell 0
        have qN1 : ((w7.alloc (.cells #[.int .i64 a0, .int .i64 a1, .string a2, .slice a3 a4 a5, .slice a6 a7 a8] 26)).alloc (.cells #[.int .i64 5, .int .i64 0, .string ⟨#[]⟩, .slice none 0 0, .slice (some ⟨w7.heap.size, 0, none⟩) 1 1] 26)).cell? ⟨w7.heap.size + 1, 1, none⟩ = some (.int .i64 0) := by rw [HWNN.out, HQQN.out]; exact HQN.out.cell 1
        have qN2 : ((w7.alloc (.cells #[.int .i64 a0, .int .i64 a1, .string a2, .slice a3 a4 a5, .slice a6 a7 a8] 26)).alloc (.cells #[.int .i64 5, .int .i64 0, .string ⟨#[]⟩, .slice none 0 0, .slice (some ⟨w7.heap.size, 0, none⟩) 1 1] 26)).cell? ⟨w7.heap.size + 1, 2, none⟩ = some (.string ⟨#[]⟩) := by rw [HWNN.out, HQQN.out]; exact HQN.out.cell 2
        have qN3 : ((w7.alloc (.cells #[.int .i64 a0, .int .i64 a1, .string a2, .slice a3 a4 a5, .slice a6 a7 a8] 26)).alloc (.cells #[.int .i64 5, .int .i64 0, .string ⟨#[]⟩, .slice none 0 0, .slice (some ⟨w7.heap.size, 0, none⟩) 1 1] 26)).cell? ⟨w7.heap.size + 1, 3, none⟩ = some (.slice none 0 0) := by rw [HWNN.out, HQQN.out]; exact HQN.out.cell 3
        have qN4 : ((w7.alloc (.cells #[.int .i64 a0, .int .i64 a1, .string a2, .slice a3 a4 a5, .slice a6 a7 a8] 26)).alloc (.cells #[.int .i64 5, .int .i64 0, .string ⟨#[]⟩, .slice none 0 0, .slice (some ⟨w7.heap.size, 0, none⟩) 1 1] 26)).cell? ⟨w7.heap.size + 1, 4, none⟩ = some (.slice (some ⟨w7.heap.size, 0, none⟩) 1 1) := by rw [HWNN.out, HQQN.out]; exact HQN.out.cell 4
        obtain ⟨GT, hGT⟩ : ∃ G, srT n L (.mk 5 0 ⟨#[]⟩ [] [k]) = G := ⟨_, rfl⟩
        have HGT := Lib.hid hGT
        have HGLT : Hid (GT.length ≤ 14) := Lib.hid (hGT ▸ srT_len n L _ HL14.out)
        clear hGT
        go_wp2_with fail
        rw [HWNN.out, HQQN.out]
        refine (impl_search (r := (5, 0, ⟨#[]⟩, (none, 0, 0), (some ⟨QN, 0, none⟩, 1, 1))) HGT.out w8 HS8.out.mails HKN.out HS8.out.shp HS8.out.lst HS8.out.mx).mono ?_
        rintro e w9 ⟨AT, NT, capT, rfl, ho, hb⟩
        have HS9 := Lib.hid (HS8.out.below hb)
        have HO9 := Lib.hid (HO8.out.below hb (Nat.le_refl _))
        have HP9 := Lib.hid (HP8.out.below hb (Nat.le_refl _))
        have HT9 := Lib.hid (gives_in ho HGLT.out)
        have HKN2 := Lib.hid (KV.below hb (Nat.le_refl _) _ _ HKN.out)
        have HQN2 := Lib.hid (HQN.out.below hb HQN.out.lt)
        clear hb ho
        clear x0 x1 y0 y1 y2 y3 y4 rx0 rx1 ry0 ry1 ry2 ry3 ry4 qN0 qN1 qN2 qN3 qN4
        have x0 : w9.cell? ⟨S, 0, none⟩ = some (.int .i64 n) := HS9.out.box.cell 0
        have x1 : w9.cell? ⟨S, 1, none⟩ = some (.slice A1 N1 cap1) := HS9.out.box.cell 1
        have y0 : w9.cell? ⟨S + 1, 0, none⟩ = some (.int .i64 a0) := HS9.out.key.cell 0
        have y1 : w9.cell? ⟨S + 1, 1, none⟩ = some (.int .i64 a1) := HS9.out.key.cell 1
        have y2 : w9.cell? ⟨S + 1, 2, none⟩ = some (.string a2) := HS9.out.key.cell 2
        have y3 : w9.cell? ⟨S + 1, 3, none⟩ = some (.slice a3 a4 a5) := HS9.out.key.cell 3
        have y4 : w9.cell? ⟨S + 1, 4, none⟩ = some (.slice a6 a7 a8) := HS9.out.key.cell 4
        have q0 : w9.cell? ⟨QN + 1, 0, none⟩ = some (.int .i64 5) := HQN2.out.cell 0
        have q1 : w9.cell? ⟨QN + 1, 1, none⟩ = some (.int .i64 0) := HQN2.out.cell 1
        have q2 : w9.cell? ⟨QN + 1, 2, none⟩ = some (.string ⟨#[]⟩) := HQN2.out.cell 2
        have q3 : w9.cell? ⟨QN + 1, 3, none⟩ = some (.slice none 0 0) := HQN2.out.cell 3
        have q4 : w9.cell? ⟨QN + 1, 4, none⟩ = some (.slice (some ⟨QN, 0, none⟩) 1 1) := HQN2.out.cell 4
        obtain ⟨v, hv⟩ : ∃ v, decide (nodesT k + 1 ≤ 9) = v := ⟨_, rfl⟩
        have HV := Lib.hid (key_not HY.out hv)
        clear hv
        go_wp2_with fail
        refine (impl_key HV.out w9 HS9.out.shp HS9.out.lst HKN2.out).mono ?_
        rintro e w10 ⟨rfl, hb⟩
        have HS10 := Lib.hid (HS9.out.below hb)
        have HO10 := Lib.hid (HO9.out.below hb (Nat.le_refl _))
        have HP10 := Lib.hid (HP9.out.below hb (Nat.le_refl _))
        have HT10 := Lib.hid (HT9.out.below hb (Nat.le_refl _))
        clear hb
        clear x0 x1 y0 y1 y2 y3 y4 q0 q1 q2 q3 q4
        have x0 : w10.cell? ⟨S, 0, none⟩ = some (.int .i64 n) := HS10.out.box.cell 0
        have x1 : w10.cell? ⟨S, 1, none⟩ = some (.slice A1 N1 cap1) := HS10.out.box.cell 1
        have y0 : w10.cell? ⟨S + 1, 0, none⟩ = some (.int .i64 a0) := HS10.out.key.cell 0
        have y1 : w10.cell? ⟨S + 1, 1, none⟩ = some (.int .i64 a1) := HS10.out.key.cell 1
        have y2 : w10.cell? ⟨S + 1, 2, none⟩ = some (.string a2) := HS10.out.key.cell 2
        have y3 : w10.cell? ⟨S + 1, 3, none⟩ = some (.slice a3 a4 a5) := HS10.out.key.cell 3
        have y4 : w10.cell? ⟨S + 1, 4, none⟩ = some (.slice a6 a7 a8) := HS10.out.key.cell 4
        cases v with
        | false =>
          have hT0 : NT = 0 := by have h1 := HT10.out.1; rw [← HGT.out, srT_nokey HV.out] at h1; exact h1.symm
          subst hT0
          go_wp2
          go_ret
          exact ⟨rfl, HS10.out.bel⟩
        | true =>
          have HPT : Hid (plT L (.mk 5 0 ⟨#[]⟩ [] [k]) L.length = GT) := Lib.hid ((srT_yes HV.out HZ.out).symm.trans HGT.out)
          have HSUM : Hid (NT + NO = N1) := Lib.hid (by rw [← HT10.out.1, ← HO10.out.1, ← HPT.out, ← HGP.out, pl_not, HS10.out.mails.1])
          go_wp2
          clear x0 x1 y0 y1 y2 y3 y4
          go_loopw [9] (fun iv wr => ∃ i : Nat, i ≤ N1 ∧ iv = .int .i64 ((i : Int) + 1) ∧ Hid (Below w10.heap.size w10 wr)) (fun iv _ => N1 + 1 - (intOf iv).toNat)
          case atStart => exact ⟨0, Nat.zero_le _, by go_num, Below.refl _ _⟩
          case round =>
            obtain ⟨i, hi, rfl, HBr⟩ := hrel
            have HSr := Lib.hid (HS10.out.below HBr.out)
            have HTr := Lib.hid (HT10.out.below HBr.out (Nat.le_refl _))
            have HOr := Lib.hid (HO10.out.below HBr.out (Nat.le_refl _))
            have x1 : wr.cell? ⟨S, 1, none⟩ = some (.slice A1 N1 cap1) := HSr.out.box.cell 1
            have W1 : IntKind.i64.wrap ((i : Int) + 1 + 1) = (i : Int) + 1 + 1 := IntWalk.i64_in _ (by omega)
            by_cases hlt : i < N1
            · have i5 : (i : Int) + 1 ≤ (N1 : Int) := by omega
              obtain ⟨m, hx⟩ : ∃ x, L[i]? = some x := ⟨_, List.getElem?_eq_getElem (by rw [HSr.out.mails.1]; exact hlt)⟩
              obtain ⟨z, hz⟩ : ∃ z, findT L m i k = z := ⟨_, rfl⟩
              have HH : Hid (hasI GT ((i : Int) + 1) = !z) := Lib.hid (by rw [← HPT.out]; exact pl_has hx (find_not hz))
              have HH2 : Hid (hasI G ((i : Int) + 1) = z) := Lib.hid (by rw [← HGP.out]; exact pl_has hx hz)
              have hzz : ((!z) == z) = false := by cases z <;> rfl
              clear hx hz
              go_wp2_with fail
              refine (hasint_at HH.out wr HTr.out).mono ?_
              rintro e w61 ⟨rfl, hb⟩
              have HB61 := Lib.hid (HBr.out.trans (hb.mono HBr.out.size))
              have HO61 := Lib.hid (HOr.out.below hb (Nat.le_refl _))
              clear hb x1
              go_wp2_with fail
              refine (hasint_at HH2.out w61 HO61.out).mono ?_
              rintro e w62 ⟨rfl, hb⟩
              have HB62 := Lib.hid (HB61.out.trans (hb.mono HB61.out.size))
              clear hb
              go_wp2
              go_roundw
              case rel => exact ⟨i + 1, by omega, by go_num, HB62⟩
              case measure => simp [intOf]; omega
            · have i5 : ¬ (i : Int) + 1 ≤ (N1 : Int) := by omega
              have hs := HSUM.out
              have E1 : (NT : Int) + (NO : Int) = (N1 : Int) := by omega
              have W2 : IntKind.i64.wrap ((NT : Int) + (NO : Int)) = (N1 : Int) := (IntWalk.i64_in _ (by omega)).trans E1
              clear hs
              go_wp2
              go_ret
              exact ⟨rfl, HSr.out.bel⟩
  · have hl' : (1048576 : Int) < (len : Int) := by omega
    go_enter Tryd.func8, Tryd.ntmps8
    go_wp2
    go_ret
    exact ⟨rfl, Below.refl _ _⟩
end Go.Proofs.YtpihibconbejlaaDoor
