/-
  The walks of the laws FnSearchOr. Conditions: the code can be read; the tables hold what the program lays there.
-/
import Derived.Test.YtpihibconbejlaaDoorKjn
import Derived.Deep.RegionHeld3
namespace Go.Proofs.YtpihibconbejlaaDoor
open Go.RowKit
set_option linter.unusedVariables false

set_option maxRecDepth 20000 in
set_option maxHeartbeats 8000000 in
theorem law_FnSearchOr (A : Option Addr) (len cap : Nat) (w : World) (h : Coded w A len cap) (hSh : Shp w) (hLs : Lst w) (hMx : MxL w) : Calls Tryd.prog 10 #[.slice A len cap] w (Holds1 w) := by
  have HC := Lib.hid h
  have HSh := Lib.hid hSh
  have HLs := Lib.hid hLs
  have HMx := Lib.hid hMx
  clear h hSh hLs hMx
  by_cases hl : len ≤ 1048576
  · have hl' : (len : Int) ≤ 1048576 := by omega
    go_enter Tryd.func10, Tryd.ntmps10
    go_wp2_with fail
    refine (draw_search kd3 A len cap _ HC.out).mono ?_
    rintro e w1 ⟨n, A1, N1, cap1, L, k, ⟨a0, a1, a2, ⟨a3, a4, a5⟩, ⟨a6, a7, a8⟩⟩, rfl, hN14, hn1, hn2, hnt, hni, hM, hk, hb⟩
    obtain ⟨S, hS⟩ : ∃ S, w1.heap.size = S := ⟨_, rfl⟩
    obtain ⟨w2, hw2⟩ : ∃ w2, ((w1.alloc (.cells #[.int .i64 n, .slice A1 N1 cap1] 37)).alloc (.cells #[.int .i64 a0, .int .i64 a1, .string a2, .slice a3 a4 a5, .slice a6 a7 a8] 26)) = w2 := ⟨_, rfl⟩
    have HS2 := Lib.hid (show Sb w n A1 N1 cap1 L k (a0, a1, a2, (a3, a4, a5), (a6, a7, a8)) S w2 by rw [← hw2]; exact Sb.made hS hb hM hk HSh.out HLs.out HMx.out)
    have HNT := Lib.hid hnt
    have HNI := Lib.hid hni
    have hL14 : L.length ≤ 14 := by rw [hM.1]; exact hN14
    obtain ⟨G, hG⟩ : ∃ G, srT n L k = G := ⟨_, rfl⟩
    have HG := Lib.hid hG
    have HGL : Hid (G.length ≤ 14) := Lib.hid (hG ▸ srT_len n L k hL14)
    have HL14 := Lib.hid hL14
    have HW2 := Lib.hid hw2
    have HSS := Lib.hid hS
    clear hM hk hb hnt hni hw2 hS hG hL14
    go_wp2_with fail
    rw [HW2.out, HSS.out]
    refine (HS2.out.search HG.out).mono ?_
    rintro e w3 ⟨AO, NO, capO, rfl, ho, hb⟩
    have HS3 := Lib.hid (HS2.out.below hb)
    have HO3 := Lib.hid (gives_in ho HGL.out)
    clear hb ho
    have x0 : w3.cell? ⟨S, 0, none⟩ = some (.int .i64 n) := HS3.out.box.cell 0
    have x1 : w3.cell? ⟨S, 1, none⟩ = some (.slice A1 N1 cap1) := HS3.out.box.cell 1
    have y0 : w3.cell? ⟨S + 1, 0, none⟩ = some (.int .i64 a0) := HS3.out.key.cell 0
    have y1 : w3.cell? ⟨S + 1, 1, none⟩ = some (.int .i64 a1) := HS3.out.key.cell 1
    have y2 : w3.cell? ⟨S + 1, 2, none⟩ = some (.string a2) := HS3.out.key.cell 2
    have y3 : w3.cell? ⟨S + 1, 3, none⟩ = some (.slice a3 a4 a5) := HS3.out.key.cell 3
    have y4 : w3.cell? ⟨S + 1, 4, none⟩ = some (.slice a6 a7 a8) := HS3.out.key.cell 4
    go_wp2_with fail
    refine (HS3.out.want HG.out HNT.out).mono ?_
    rintro e w4 ⟨AP, NP, capP, rfl, ho, hb⟩
    have HS4 := Lib.hid (HS3.out.below hb)
    have HO4 := Lib.hid (HO3.out.below hb (Nat.le_refl _))
    have HP4 := Lib.hid (gives_in ho HGL.out)
    clear hb ho
    clear x0 x1 y0 y1 y2 y3 y4
    have x0 : w4.cell? ⟨S, 0, none⟩ = some (.int .i64 n) := HS4.out.box.cell 0
    have x1 : w4.cell? ⟨S, 1, none⟩ = some (.slice A1 N1 cap1) := HS4.out.box.cell 1
    have y0 : w4.cell? ⟨S + 1, 0, none⟩ = some (.int .i64 a0) := HS4.out.key.cell 0
    have y1 : w4.cell? ⟨S + 1, 1, none⟩ = some (.int .i64 a1) := HS4.out.key.cell 1
    have y2 : w4.cell? ⟨S + 1, 2, none⟩ = some (.string a2) := HS4.out.key.cell 2
    have y3 : w4.cell? ⟨S + 1, 3, none⟩ = some (.slice a3 a4 a5) := HS4.out.key.cell 3
    have y4 : w4.cell? ⟨S + 1, 4, none⟩ = some (.slice a6 a7 a8) := HS4.out.key.cell 4
    go_wp2_with fail
    refine (same_is _ HO4.out HP4.out).mono ?_
    rintro e w5 ⟨rfl, hb⟩
    have HS5 := Lib.hid (HS4.out.below hb)
    have HO5 := Lib.hid (HO4.out.below hb (Nat.le_refl _))
    have HP5 := Lib.hid (HP4.out.below hb (Nat.le_refl _))
    clear hb
    clear x0 x1 y0 y1 y2 y3 y4
    have x0 : w5.cell? ⟨S, 0, none⟩ = some (.int .i64 n) := HS5.out.box.cell 0
    have x1 : w5.cell? ⟨S, 1, none⟩ = some (.slice A1 N1 cap1) := HS5.out.box.cell 1
    have y0 : w5.cell? ⟨S + 1, 0, none⟩ = some (.int .i64 a0) := HS5.out.key.cell 0
    have y1 : w5.cell? ⟨S + 1, 1, none⟩ = some (.int .i64 a1) := HS5.out.key.cell 1
    have y2 : w5.cell? ⟨S + 1, 2, none⟩ = some (.string a2) := HS5.out.key.cell 2
    have y3 : w5.cell? ⟨S + 1, 3, none⟩ = some (.slice a3 a4 a5) := HS5.out.key.cell 3
    have y4 : w5.cell? ⟨S + 1, 4, none⟩ = some (.slice a6 a7 a8) := HS5.out.key.cell 4
    obtain ⟨z, hz⟩ : ∃ z, bOk n L = z := ⟨_, rfl⟩
    have HZ := Lib.hid hz
    clear hz
    go_wp2_with fail
    refine (HS5.out.valid HZ.out).mono ?_
    rintro e w6 ⟨rfl, hb⟩
    have HS6 := Lib.hid (HS5.out.below hb)
    have HO6 := Lib.hid (HO5.out.below hb (Nat.le_refl _))
    have HP6 := Lib.hid (HP5.out.below hb (Nat.le_refl _))
    clear hb
    clear x0 x1 y0 y1 y2 y3 y4
    have x0 : w6.cell? ⟨S, 0, none⟩ = some (.int .i64 n) := HS6.out.box.cell 0
    have x1 : w6.cell? ⟨S, 1, none⟩ = some (.slice A1 N1 cap1) := HS6.out.box.cell 1
    have y0 : w6.cell? ⟨S + 1, 0, none⟩ = some (.int .i64 a0) := HS6.out.key.cell 0
    have y1 : w6.cell? ⟨S + 1, 1, none⟩ = some (.int .i64 a1) := HS6.out.key.cell 1
    have y2 : w6.cell? ⟨S + 1, 2, none⟩ = some (.string a2) := HS6.out.key.cell 2
    have y3 : w6.cell? ⟨S + 1, 3, none⟩ = some (.slice a3 a4 a5) := HS6.out.key.cell 3
    have y4 : w6.cell? ⟨S + 1, 4, none⟩ = some (.slice a6 a7 a8) := HS6.out.key.cell 4
    cases z with
    | false =>
      go_wp2_with fail
      refine (same_is _ HO6.out HP6.out).mono ?_
      rintro e w7 ⟨rfl, hb⟩
      have HS7 := Lib.hid (HS6.out.below hb)
      have HO7 := Lib.hid (HO6.out.below hb (Nat.le_refl _))
      have HP7 := Lib.hid (HP6.out.below hb (Nat.le_refl _))
      clear hb
      clear x0 x1 y0 y1 y2 y3 y4
      go_wp2
      go_ret
      exact ⟨rfl, HS7.out.bel⟩
    | true =>
      obtain ⟨y, hy⟩ : ∃ y, keyB k = y := ⟨_, rfl⟩
      have HY := Lib.hid hy
      clear hy
      go_wp2_with fail
      refine (HS6.out.fine HY.out HNT.out).mono ?_
      rintro e w7 ⟨rfl, hb⟩
      have HS7 := Lib.hid (HS6.out.below hb)
      have HO7 := Lib.hid (HO6.out.below hb (Nat.le_refl _))
      have HP7 := Lib.hid (HP6.out.below hb (Nat.le_refl _))
      clear hb
      clear x0 x1 y0 y1 y2 y3 y4
      have x0 : w7.cell? ⟨S, 0, none⟩ = some (.int .i64 n) := HS7.out.box.cell 0
      have x1 : w7.cell? ⟨S, 1, none⟩ = some (.slice A1 N1 cap1) := HS7.out.box.cell 1
      have y0 : w7.cell? ⟨S + 1, 0, none⟩ = some (.int .i64 a0) := HS7.out.key.cell 0
      have y1 : w7.cell? ⟨S + 1, 1, none⟩ = some (.int .i64 a1) := HS7.out.key.cell 1
      have y2 : w7.cell? ⟨S + 1, 2, none⟩ = some (.string a2) := HS7.out.key.cell 2
      have y3 : w7.cell? ⟨S + 1, 3, none⟩ = some (.slice a3 a4 a5) := HS7.out.key.cell 3
      have y4 : w7.cell? ⟨S + 1, 4, none⟩ = some (.slice a6 a7 a8) := HS7.out.key.cell 4
      cases y with
      | false =>
        go_wp2_with fail
        refine (same_is _ HO7.out HP7.out).mono ?_
        rintro e w8 ⟨rfl, hb⟩
        have HS8 := Lib.hid (HS7.out.below hb)
        have HO8 := Lib.hid (HO7.out.below hb (Nat.le_refl _))
        have HP8 := Lib.hid (HP7.out.below hb (Nat.le_refl _))
        clear hb
        clear x0 x1 y0 y1 y2 y3 y4
        go_wp2
        go_ret
        exact ⟨rfl, HS8.out.bel⟩
      | true =>
        have HGP : Hid (plT L k L.length = G) := Lib.hid ((srT_yes HY.out HZ.out).symm.trans HG.out)
        have hN10 : N1 ≤ 10 := by rw [← HS2.out.mails.1]; exact (bOk_iff.1 HZ.out).2.2.2.2
        obtain ⟨E, hE⟩ : ∃ E, w7.heap.size = E := ⟨_, rfl⟩
        obtain ⟨w8, hw8⟩ : ∃ wa, w7.alloc (.cells #[.int .i64 1, .int .i64 1, .string ⟨#[]⟩, .slice none 0 0, .slice none 0 0] 26) = wa := ⟨_, rfl⟩
        have hb : Below w7.heap.size w7 w8 := by rw [← hw8]; exact below_new w7 _
        have HE8 := Lib.hid (show Whole w8 E 26 #[.int .i64 1, .int .i64 1, .string ⟨#[]⟩, .slice none 0 0, .slice none 0 0] by rw [← hw8]; exact whole_made1 hE)
        have HWE := Lib.hid hw8
        have HEE := Lib.hid hE
        have HS8 := Lib.hid (HS7.out.below hb)
        have HO8 := Lib.hid (HO7.out.below hb (Nat.le_refl _))
        have HP8 := Lib.hid (HP7.out.below hb (Nat.le_refl _))
        clear hb hw8 hE
        clear x0 x1 y0 y1 y2 y3 y4
        have x0 : w8.cell? ⟨S, 0, none⟩ = some (.int .i64 n) := HS8.out.box.cell 0
        have x1 : w8.cell? ⟨S, 1, none⟩ = some (.slice A1 N1 cap1) := HS8.out.box.cell 1
        have y0 : w8.cell? ⟨S + 1, 0, none⟩ = some (.int .i64 a0) := HS8.out.key.cell 0
        have y1 : w8.cell? ⟨S + 1, 1, none⟩ = some (.int .i64 a1) := HS8.out.key.cell 1
        have y2 : w8.cell? ⟨S + 1, 2, none⟩ = some (.string a2) := HS8.out.key.cell 2
        have y3 : w8.cell? ⟨S + 1, 3, none⟩ = some (.slice a3 a4 a5) := HS8.out.key.cell 3
        have y4 : w8.cell? ⟨S + 1, 4, none⟩ = some (.slice a6 a7 a8) := HS8.out.key.cell 4
        have e0 : w8.cell? ⟨E, 0, none⟩ = some (.int .i64 1) := HE8.out.cell 0
        have e1 : w8.cell? ⟨E, 1, none⟩ = some (.int .i64 1) := HE8.out.cell 1
        have e2 : w8.cell? ⟨E, 2, none⟩ = some (.string ⟨#[]⟩) := HE8.out.cell 2
        have e3 : w8.cell? ⟨E, 3, none⟩ = some (.slice none 0 0) := HE8.out.cell 3
        have e4 : w8.cell? ⟨E, 4, none⟩ = some (.slice none 0 0) := HE8.out.cell 4
        obtain ⟨v, hv⟩ : ∃ v, decide (nodesT k + nodesT (.mk 1 1 ⟨#[]⟩ [] []) + 1 ≤ 9) = v := ⟨_, rfl⟩
        have HV := Lib.hid (key_two (kd := 7) (by omega) (key_all HY.out) (key_all (key_flag (f := 1) rfl)) hv)
        have HVN : Hid (decide (nodesT k + 2 ≤ 9) = v) := Lib.hid (by rw [← hv]; simp [nodesT, nodesL])
        clear hv
        obtain ⟨GT, hGT⟩ : ∃ G, srT n L (.mk 7 0 ⟨#[]⟩ [] [k, .mk 1 1 ⟨#[]⟩ [] []]) = G := ⟨_, rfl⟩
        have HGT := Lib.hid hGT
        have HGLT : Hid (GT.length ≤ 14) := Lib.hid (hGT ▸ srT_len n L _ HL14.out)
        clear hGT
        have HKS : Hid (KV w8.drew k (kval (a0, a1, a2, (a3, a4, a5), (a6, a7, a8)))) := Lib.hid (KV.below (below_drew1 w8) (Nat.le_refl _) _ _ HS8.out.kv)
        go_wp2
        rw [HWE.out, HEE.out]
        go_region_held3 (fun w' => w'.cell? ⟨S, 0, none⟩ = some (.int .i64 n) ∧ w'.cell? ⟨S, 1, none⟩ = some (.slice A1 N1 cap1) ∧ w'.cell? ⟨S + 1, 0, none⟩ = some (.int .i64 a0) ∧ w'.cell? ⟨S + 1, 1, none⟩ = some (.int .i64 a1) ∧ w'.cell? ⟨S + 1, 2, none⟩ = some (.string a2) ∧ w'.cell? ⟨S + 1, 3, none⟩ = some (.slice a3 a4 a5) ∧ w'.cell? ⟨S + 1, 4, none⟩ = some (.slice a6 a7 a8) ∧ w'.cell? ⟨E, 0, none⟩ = some (.int .i64 1) ∧ w'.cell? ⟨E, 1, none⟩ = some (.int .i64 1) ∧ w'.cell? ⟨E, 2, none⟩ = some (.string ⟨#[]⟩) ∧ w'.cell? ⟨E, 3, none⟩ = some (.slice none 0 0) ∧ w'.cell? ⟨E, 4, none⟩ = some (.slice none 0 0)) (go_keep) (first
          | (go_at_call 34
             refine (join_at 7 _ HKS.out (kv_leaf 1 1 (by decide))).mono ?_
             rintro e w9 ⟨Q, rfl, hkj, hb⟩
             have hb0 : Below w8.heap.size w8 w9 := (below_drew1 w8).trans hb
             have HKJ := Lib.hid hkj
             have HS9 := Lib.hid (HS8.out.below hb0)
             have HE9 := Lib.hid (HE8.out.below hb0 HE8.out.lt)
             have HO9 := Lib.hid (HO8.out.below hb0 (Nat.le_refl _))
             have HP9 := Lib.hid (HP8.out.below hb0 (Nat.le_refl _))
             have cx0 : w9.cell? ⟨S, 0, none⟩ = some (.int .i64 n) := HS9.out.box.cell 0
             have cx1 : w9.cell? ⟨S, 1, none⟩ = some (.slice A1 N1 cap1) := HS9.out.box.cell 1
             have cy0 : w9.cell? ⟨S + 1, 0, none⟩ = some (.int .i64 a0) := HS9.out.key.cell 0
             have cy1 : w9.cell? ⟨S + 1, 1, none⟩ = some (.int .i64 a1) := HS9.out.key.cell 1
             have cy2 : w9.cell? ⟨S + 1, 2, none⟩ = some (.string a2) := HS9.out.key.cell 2
             have cy3 : w9.cell? ⟨S + 1, 3, none⟩ = some (.slice a3 a4 a5) := HS9.out.key.cell 3
             have cy4 : w9.cell? ⟨S + 1, 4, none⟩ = some (.slice a6 a7 a8) := HS9.out.key.cell 4
             have ce0 : w9.cell? ⟨E, 0, none⟩ = some (.int .i64 1) := HE9.out.cell 0
             have ce1 : w9.cell? ⟨E, 1, none⟩ = some (.int .i64 1) := HE9.out.cell 1
             have ce2 : w9.cell? ⟨E, 2, none⟩ = some (.string ⟨#[]⟩) := HE9.out.cell 2
             have ce3 : w9.cell? ⟨E, 3, none⟩ = some (.slice none 0 0) := HE9.out.cell 3
             have ce4 : w9.cell? ⟨E, 4, none⟩ = some (.slice none 0 0) := HE9.out.cell 4
             clear hb hb0 hkj)
          | (go_at_call 29
             refine (impl_search (r := (7, 0, ⟨#[]⟩, (none, 0, 0), (some ⟨Q, 0, none⟩, 2, 2))) HGT.out w9 HS9.out.mails HKJ.out HS9.out.shp HS9.out.lst HS9.out.mx).mono ?_
             rintro e w10 ⟨AT, NT, capT, rfl, ho, hb⟩
             have HT10 := Lib.hid (gives_in ho HGLT.out)
             have HS10 := Lib.hid (HS9.out.below hb)
             have HE10 := Lib.hid (HE9.out.below hb HE9.out.lt)
             have HO10 := Lib.hid (HO9.out.below hb (Nat.le_refl _))
             have HP10 := Lib.hid (HP9.out.below hb (Nat.le_refl _))
             have dx0 : w10.cell? ⟨S, 0, none⟩ = some (.int .i64 n) := HS10.out.box.cell 0
             have dx1 : w10.cell? ⟨S, 1, none⟩ = some (.slice A1 N1 cap1) := HS10.out.box.cell 1
             have dy0 : w10.cell? ⟨S + 1, 0, none⟩ = some (.int .i64 a0) := HS10.out.key.cell 0
             have dy1 : w10.cell? ⟨S + 1, 1, none⟩ = some (.int .i64 a1) := HS10.out.key.cell 1
             have dy2 : w10.cell? ⟨S + 1, 2, none⟩ = some (.string a2) := HS10.out.key.cell 2
             have dy3 : w10.cell? ⟨S + 1, 3, none⟩ = some (.slice a3 a4 a5) := HS10.out.key.cell 3
             have dy4 : w10.cell? ⟨S + 1, 4, none⟩ = some (.slice a6 a7 a8) := HS10.out.key.cell 4
             have de0 : w10.cell? ⟨E, 0, none⟩ = some (.int .i64 1) := HE10.out.cell 0
             have de1 : w10.cell? ⟨E, 1, none⟩ = some (.int .i64 1) := HE10.out.cell 1
             have de2 : w10.cell? ⟨E, 2, none⟩ = some (.string ⟨#[]⟩) := HE10.out.cell 2
             have de3 : w10.cell? ⟨E, 3, none⟩ = some (.slice none 0 0) := HE10.out.cell 3
             have de4 : w10.cell? ⟨E, 4, none⟩ = some (.slice none 0 0) := HE10.out.cell 4
             clear hb ho))
        clear x0 x1 y0 y1 y2 y3 y4 e0 e1 e2 e3 e4 cx0 cx1 cy0 cy1 cy2 cy3 cy4 ce0 ce1 ce2 ce3 ce4
        obtain ⟨GU, hGU⟩ : ∃ G, srT n L (.mk 1 1 ⟨#[]⟩ [] []) = G := ⟨_, rfl⟩
        have HGU := Lib.hid hGU
        have HGLU : Hid (GU.length ≤ 14) := Lib.hid (hGU ▸ srT_len n L _ HL14.out)
        clear hGU
        go_wp2_with fail
        refine (impl_search (r := (1, 1, ⟨#[]⟩, (none, 0, 0), (none, 0, 0))) HGU.out w10 HS10.out.mails (kv_leaf 1 1 (by decide)) HS10.out.shp HS10.out.lst HS10.out.mx).mono ?_
        rintro e w11 ⟨AU, NU, capU, rfl, ho, hb⟩
        have HS11 := Lib.hid (HS10.out.below hb)
        have HO11 := Lib.hid (HO10.out.below hb (Nat.le_refl _))
        have HP11 := Lib.hid (HP10.out.below hb (Nat.le_refl _))
        have HE11 := Lib.hid (HE10.out.below hb HE10.out.lt)
        have HT11 := Lib.hid (HT10.out.below hb (Nat.le_refl _))
        have HU11 := Lib.hid (gives_in ho HGLU.out)
        clear hb ho
        clear dx0 dx1 dy0 dy1 dy2 dy3 dy4 de0 de1 de2 de3 de4
        have x0 : w11.cell? ⟨S, 0, none⟩ = some (.int .i64 n) := HS11.out.box.cell 0
        have x1 : w11.cell? ⟨S, 1, none⟩ = some (.slice A1 N1 cap1) := HS11.out.box.cell 1
        have y0 : w11.cell? ⟨S + 1, 0, none⟩ = some (.int .i64 a0) := HS11.out.key.cell 0
        have y1 : w11.cell? ⟨S + 1, 1, none⟩ = some (.int .i64 a1) := HS11.out.key.cell 1
        have y2 : w11.cell? ⟨S + 1, 2, none⟩ = some (.string a2) := HS11.out.key.cell 2
        have y3 : w11.cell? ⟨S + 1, 3, none⟩ = some (.slice a3 a4 a5) := HS11.out.key.cell 3
        have y4 : w11.cell? ⟨S + 1, 4, none⟩ = some (.slice a6 a7 a8) := HS11.out.key.cell 4
        have HPU : Hid (plT L (.mk 1 1 ⟨#[]⟩ [] []) L.length = GU) := Lib.hid ((srT_yes (key_flag (f := 1) rfl) HZ.out).symm.trans HGU.out)
        go_wp2
        clear x0 x1 y0 y1 y2 y3 y4
        go_loopw [10] (fun iv wr => ∃ i : Nat, i ≤ N1 ∧ iv = .int .i64 ((i : Int) + 1) ∧ Hid (Below w11.heap.size w11 wr)) (fun iv _ => N1 + 1 - (intOf iv).toNat)
        case atStart => exact ⟨0, Nat.zero_le _, by go_num, Below.refl _ _⟩
        case round =>
          obtain ⟨i, hi, rfl, HBr⟩ := hrel
          have HSr := Lib.hid (HS11.out.below HBr.out)
          have HTr := Lib.hid (HT11.out.below HBr.out (Nat.le_refl _))
          have HOr := Lib.hid (HO11.out.below HBr.out (Nat.le_refl _))
          have HUr := Lib.hid (HU11.out.below HBr.out (Nat.le_refl _))
          have x0 : wr.cell? ⟨S, 0, none⟩ = some (.int .i64 n) := HSr.out.box.cell 0
          have x1 : wr.cell? ⟨S, 1, none⟩ = some (.slice A1 N1 cap1) := HSr.out.box.cell 1
          have y0 : wr.cell? ⟨S + 1, 0, none⟩ = some (.int .i64 a0) := HSr.out.key.cell 0
          have y1 : wr.cell? ⟨S + 1, 1, none⟩ = some (.int .i64 a1) := HSr.out.key.cell 1
          have y2 : wr.cell? ⟨S + 1, 2, none⟩ = some (.string a2) := HSr.out.key.cell 2
          have y3 : wr.cell? ⟨S + 1, 3, none⟩ = some (.slice a3 a4 a5) := HSr.out.key.cell 3
          have y4 : wr.cell? ⟨S + 1, 4, none⟩ = some (.slice a6 a7 a8) := HSr.out.key.cell 4
          have W1 : IntKind.i64.wrap ((i : Int) + 1 + 1) = (i : Int) + 1 + 1 := IntWalk.i64_in _ (by omega)
          by_cases hlt : i < N1
          · have i5 : (i : Int) + 1 ≤ (N1 : Int) := by omega
            obtain ⟨q, hq⟩ : ∃ q, nodesT k = q := ⟨_, rfl⟩
            have HN := Lib.hid (laws_nodes_n 16 k _ wr HNT.out (by omega) HSr.out.kv)
            rw [hq] at HN
            have hq16 : q ≤ 16 := by rw [← hq]; exact HNT.out
            have HQ := Lib.hid hq
            have W2 : IntKind.i64.wrap ((q : Int) + 2) = (q : Int) + 2 := IntWalk.i64_in _ (by omega)
            clear hq
            go_wp2_with fail
            refine HN.out.mono ?_
            rintro e w60 ⟨rfl, hb⟩
            have HB60 := Lib.hid (HBr.out.trans (hb.mono HBr.out.size))
            have HS60 := Lib.hid (HSr.out.below hb)
            have HT60 := Lib.hid (HTr.out.below hb (Nat.le_refl _))
            have HO60 := Lib.hid (HOr.out.below hb (Nat.le_refl _))
            have HU60 := Lib.hid (HUr.out.below hb (Nat.le_refl _))
            clear hb x0 x1 y0 y1 y2 y3 y4
            cases v with
            | false =>
              have hq9 : ¬ (q : Int) + 2 ≤ 9 := by have h := of_decide_eq_false HVN.out; rw [HQ.out] at h; omega
              go_wp2
              go_ret
              exact ⟨rfl, HS60.out.bel⟩
            | true =>
              have hq9 : (q : Int) + 2 ≤ 9 := by have h := of_decide_eq_true HVN.out; rw [HQ.out] at h; omega
              obtain ⟨m, hx⟩ : ∃ x, L[i]? = some x := ⟨_, List.getElem?_eq_getElem (by rw [HSr.out.mails.1]; exact hlt)⟩
              obtain ⟨r, hr⟩ : ∃ z, findT L m i k = z := ⟨_, rfl⟩
              obtain ⟨t, ht⟩ : ∃ z, findT L m i (.mk 1 1 ⟨#[]⟩ [] []) = z := ⟨_, rfl⟩
              have HH : Hid (hasI GT ((i : Int) + 1) = (r || t)) := Lib.hid (by rw [← HGT.out, srT_yes HV.out HZ.out]; exact pl_has hx (find_or hr ht))
              have HH2 : Hid (hasI G ((i : Int) + 1) = r) := Lib.hid (by rw [← HGP.out]; exact pl_has hx hr)
              have HH3 : Hid (hasI GU ((i : Int) + 1) = t) := Lib.hid (by rw [← HPU.out]; exact pl_has hx ht)
              have hss := bool_same t
              clear hx hr ht
              go_wp2_with fail
              refine (hasint_at HH.out w60 HT60.out).mono ?_
              rintro e w61 ⟨rfl, hb⟩
              have HB61 := Lib.hid (HB60.out.trans (hb.mono HB60.out.size))
              have HO61 := Lib.hid (HO60.out.below hb (Nat.le_refl _))
              have HU61 := Lib.hid (HU60.out.below hb (Nat.le_refl _))
              clear hb
              go_wp2_with fail
              refine (hasint_at HH2.out w61 HO61.out).mono ?_
              rintro e w62 ⟨rfl, hb⟩
              have HB62 := Lib.hid (HB61.out.trans (hb.mono HB61.out.size))
              have HU62 := Lib.hid (HU61.out.below hb (Nat.le_refl _))
              clear hb
              cases r with
              | true =>
                go_wp2
                go_roundw
                case rel => exact ⟨i + 1, by omega, by go_num, HB62⟩
                case measure => simp [intOf]; omega
              | false =>
                go_wp2_with fail
                refine (hasint_at HH3.out w62 HU62.out).mono ?_
                rintro e w63 ⟨rfl, hb⟩
                have HB63 := Lib.hid (HB62.out.trans (hb.mono HB62.out.size))
                clear hb
                go_wp2
                go_roundw
                case rel => exact ⟨i + 1, by omega, by go_num, HB63⟩
                case measure => simp [intOf]; omega
          · have i5 : ¬ (i : Int) + 1 ≤ (N1 : Int) := by omega
            go_wp2
            go_ret
            exact ⟨rfl, HSr.out.bel⟩
  · have hl' : (1048576 : Int) < (len : Int) := by omega
    go_enter Tryd.func10, Tryd.ntmps10
    go_wp2
    go_ret
    exact ⟨rfl, Below.refl _ _⟩
end Go.Proofs.YtpihibconbejlaaDoor
