/-
  The walks of the laws FnSearchOrder. Conditions: the code can be read; the tables hold what the program lays there.
-/
import Derived.Test.YtpihibconbejlaaDoorKjn
import Derived.Deep.RegionHeld3
namespace Go.Proofs.YtpihibconbejlaaDoor
open Go.RowKit
set_option linter.unusedVariables false

theorem sr_swap {n : Int} {L : List ML} {kd : Int} {k k2 : KT} (hkd : kd = 6 ∨ kd = 7) (h : allT k = true) (h2 : allT k2 = true) : srT n L (.mk kd 0 ⟨#[]⟩ [] [k2, k]) = srT n L (.mk kd 0 ⟨#[]⟩ [] [k, k2]) := by
  have hb : keyB (.mk kd 0 ⟨#[]⟩ [] [k2, k]) = keyB (.mk kd 0 ⟨#[]⟩ [] [k, k2]) := by
    obtain ⟨z, hz⟩ : ∃ z, decide (nodesT k + nodesT k2 + 1 ≤ 9) = z := ⟨_, rfl⟩
    rw [key_two hkd h h2 hz, key_two (z := z) hkd h2 h (by rw [Nat.add_comm (nodesT k2)]; exact hz)]
  unfold srT
  rw [hb]
  split
  · refine pl_same L (fun m i => ?_) L.length
    rcases hkd with rfl | rfl
    · exact (find_and rfl rfl).trans ((Bool.and_comm _ _).trans (find_and rfl rfl).symm)
    · exact (find_or rfl rfl).trans ((Bool.or_comm _ _).trans (find_or rfl rfl).symm)
  · rfl
set_option maxRecDepth 20000 in
set_option maxHeartbeats 8000000 in
theorem law_FnSearchOrder (A : Option Addr) (len cap : Nat) (w : World) (h : Coded w A len cap) (hSh : Shp w) (hLs : Lst w) (hMx : MxL w) : Calls Tryd.prog 11 #[.slice A len cap] w (Holds1 w) := by
  have HC := Lib.hid h
  have HSh := Lib.hid hSh
  have HLs := Lib.hid hLs
  have HMx := Lib.hid hMx
  clear h hSh hLs hMx
  by_cases hl : len ≤ 1048576
  · have hl' : (len : Int) ≤ 1048576 := by omega
    go_enter Tryd.func11, Tryd.ntmps11
    go_wp2_with fail
    refine (draw_search kd3 A len cap _ HC.out).mono ?_
    rintro e w1 ⟨n, A1, N1, cap1, L, k, ⟨a0, a1, a2, ⟨a3, a4, a5⟩, ⟨a6, a7, a8⟩⟩, rfl, hN14, hn1, hn2, hnt, hni, hM, hk, hb⟩
    obtain ⟨S, hS⟩ : ∃ S, w1.heap.size = S := ⟨_, rfl⟩
    obtain ⟨w2, hw2⟩ : ∃ w2, ((w1.alloc (.cells #[.int .i64 n, .slice A1 N1 cap1] 37)).alloc (.cells #[.int .i64 a0, .int .i64 a1, .string a2, .slice a3 a4 a5, .slice a6 a7 a8] 26)) = w2 := ⟨_, rfl⟩
    have HS2 := Lib.hid (show Sb w n A1 N1 cap1 L k (a0, a1, a2, (a3, a4, a5), (a6, a7, a8)) S w2 by rw [← hw2]; exact Sb.made hS hb hM hk HSh.out HLs.out HMx.out)
    have HNT := Lib.hid hnt
    have HNI := Lib.hid hni
    have hL14 : L.length ≤ 14 := by rw [hM.1]; exact hN14
    obtain ⟨G, hG⟩ : ∃ G, srT n L k = G := ⟨_, rfl⟩
    have HG := Lib.hid hG
    have HGL : Hid (G.length ≤ 14) := Lib.hid (hG ▸ srT_len n L k hL14)
    have HL14 := Lib.hid hL14
    have HW2 := Lib.hid hw2
    have HSS := Lib.hid hS
    clear hM hk hb hnt hni hw2 hS hG hL14
    go_wp2_with fail
    rw [HW2.out, HSS.out]
    refine (HS2.out.search HG.out).mono ?_
    rintro e w3 ⟨AO, NO, capO, rfl, ho, hb⟩
    have HS3 := Lib.hid (HS2.out.below hb)
    have HO3 := Lib.hid (gives_in ho HGL.out)
    clear hb ho
    have x0 : w3.cell? ⟨S, 0, none⟩ = some (.int .i64 n) := HS3.out.box.cell 0
    have x1 : w3.cell? ⟨S, 1, none⟩ = some (.slice A1 N1 cap1) := HS3.out.box.cell 1
    have y0 : w3.cell? ⟨S + 1, 0, none⟩ = some (.int .i64 a0) := HS3.out.key.cell 0
    have y1 : w3.cell? ⟨S + 1, 1, none⟩ = some (.int .i64 a1) := HS3.out.key.cell 1
    have y2 : w3.cell? ⟨S + 1, 2, none⟩ = some (.string a2) := HS3.out.key.cell 2
    have y3 : w3.cell? ⟨S + 1, 3, none⟩ = some (.slice a3 a4 a5) := HS3.out.key.cell 3
    have y4 : w3.cell? ⟨S + 1, 4, none⟩ = some (.slice a6 a7 a8) := HS3.out.key.cell 4
    go_wp2_with fail
    refine (HS3.out.want HG.out HNT.out).mono ?_
    rintro e w4 ⟨AP, NP, capP, rfl, ho, hb⟩
    have HS4 := Lib.hid (HS3.out.below hb)
    have HO4 := Lib.hid (HO3.out.below hb (Nat.le_refl _))
    have HP4 := Lib.hid (gives_in ho HGL.out)
    clear hb ho
    clear x0 x1 y0 y1 y2 y3 y4
    have x0 : w4.cell? ⟨S, 0, none⟩ = some (.int .i64 n) := HS4.out.box.cell 0
    have x1 : w4.cell? ⟨S, 1, none⟩ = some (.slice A1 N1 cap1) := HS4.out.box.cell 1
    have y0 : w4.cell? ⟨S + 1, 0, none⟩ = some (.int .i64 a0) := HS4.out.key.cell 0
    have y1 : w4.cell? ⟨S + 1, 1, none⟩ = some (.int .i64 a1) := HS4.out.key.cell 1
    have y2 : w4.cell? ⟨S + 1, 2, none⟩ = some (.string a2) := HS4.out.key.cell 2
    have y3 : w4.cell? ⟨S + 1, 3, none⟩ = some (.slice a3 a4 a5) := HS4.out.key.cell 3
    have y4 : w4.cell? ⟨S + 1, 4, none⟩ = some (.slice a6 a7 a8) := HS4.out.key.cell 4
    go_wp2_with fail
    refine (same_is _ HO4.out HP4.out).mono ?_
    rintro e w5 ⟨rfl, hb⟩
    have HS5 := Lib.hid (HS4.out.below hb)
    have HO5 := Lib.hid (HO4.out.below hb (Nat.le_refl _))
    have HP5 := Lib.hid (HP4.out.below hb (Nat.le_refl _))
    clear hb
    clear x0 x1 y0 y1 y2 y3 y4
    have x0 : w5.cell? ⟨S, 0, none⟩ = some (.int .i64 n) := HS5.out.box.cell 0
    have x1 : w5.cell? ⟨S, 1, none⟩ = some (.slice A1 N1 cap1) := HS5.out.box.cell 1
    have y0 : w5.cell? ⟨S + 1, 0, none⟩ = some (.int .i64 a0) := HS5.out.key.cell 0
    have y1 : w5.cell? ⟨S + 1, 1, none⟩ = some (.int .i64 a1) := HS5.out.key.cell 1
    have y2 : w5.cell? ⟨S + 1, 2, none⟩ = some (.string a2) := HS5.out.key.cell 2
    have y3 : w5.cell? ⟨S + 1, 3, none⟩ = some (.slice a3 a4 a5) := HS5.out.key.cell 3
    have y4 : w5.cell? ⟨S + 1, 4, none⟩ = some (.slice a6 a7 a8) := HS5.out.key.cell 4
    obtain ⟨z, hz⟩ : ∃ z, bOk n L = z := ⟨_, rfl⟩
    have HZ := Lib.hid hz
    clear hz
    go_wp2_with fail
    refine (HS5.out.valid HZ.out).mono ?_
    rintro e w6 ⟨rfl, hb⟩
    have HS6 := Lib.hid (HS5.out.below hb)
    have HO6 := Lib.hid (HO5.out.below hb (Nat.le_refl _))
    have HP6 := Lib.hid (HP5.out.below hb (Nat.le_refl _))
    clear hb
    clear x0 x1 y0 y1 y2 y3 y4
    have x0 : w6.cell? ⟨S, 0, none⟩ = some (.int .i64 n) := HS6.out.box.cell 0
    have x1 : w6.cell? ⟨S, 1, none⟩ = some (.slice A1 N1 cap1) := HS6.out.box.cell 1
    have y0 : w6.cell? ⟨S + 1, 0, none⟩ = some (.int .i64 a0) := HS6.out.key.cell 0
    have y1 : w6.cell? ⟨S + 1, 1, none⟩ = some (.int .i64 a1) := HS6.out.key.cell 1
    have y2 : w6.cell? ⟨S + 1, 2, none⟩ = some (.string a2) := HS6.out.key.cell 2
    have y3 : w6.cell? ⟨S + 1, 3, none⟩ = some (.slice a3 a4 a5) := HS6.out.key.cell 3
    have y4 : w6.cell? ⟨S + 1, 4, none⟩ = some (.slice a6 a7 a8) := HS6.out.key.cell 4
    cases z with
    | false =>
      go_wp2_with fail
      refine (same_is _ HO6.out HP6.out).mono ?_
      rintro e w7 ⟨rfl, hb⟩
      have HS7 := Lib.hid (HS6.out.below hb)
      have HO7 := Lib.hid (HO6.out.below hb (Nat.le_refl _))
      have HP7 := Lib.hid (HP6.out.below hb (Nat.le_refl _))
      clear hb
      clear x0 x1 y0 y1 y2 y3 y4
      go_wp2
      go_ret
      exact ⟨rfl, HS7.out.bel⟩
    | true =>
      obtain ⟨y, hy⟩ : ∃ y, keyB k = y := ⟨_, rfl⟩
      have HY := Lib.hid hy
      clear hy
      go_wp2_with fail
      refine (HS6.out.fine HY.out HNT.out).mono ?_
      rintro e w7 ⟨rfl, hb⟩
      have HS7 := Lib.hid (HS6.out.below hb)
      have HO7 := Lib.hid (HO6.out.below hb (Nat.le_refl _))
      have HP7 := Lib.hid (HP6.out.below hb (Nat.le_refl _))
      clear hb
      clear x0 x1 y0 y1 y2 y3 y4
      have x0 : w7.cell? ⟨S, 0, none⟩ = some (.int .i64 n) := HS7.out.box.cell 0
      have x1 : w7.cell? ⟨S, 1, none⟩ = some (.slice A1 N1 cap1) := HS7.out.box.cell 1
      have y0 : w7.cell? ⟨S + 1, 0, none⟩ = some (.int .i64 a0) := HS7.out.key.cell 0
      have y1 : w7.cell? ⟨S + 1, 1, none⟩ = some (.int .i64 a1) := HS7.out.key.cell 1
      have y2 : w7.cell? ⟨S + 1, 2, none⟩ = some (.string a2) := HS7.out.key.cell 2
      have y3 : w7.cell? ⟨S + 1, 3, none⟩ = some (.slice a3 a4 a5) := HS7.out.key.cell 3
      have y4 : w7.cell? ⟨S + 1, 4, none⟩ = some (.slice a6 a7 a8) := HS7.out.key.cell 4
      cases y with
      | false =>
        go_wp2_with fail
        refine (same_is _ HO7.out HP7.out).mono ?_
        rintro e w8 ⟨rfl, hb⟩
        have HS8 := Lib.hid (HS7.out.below hb)
        have HO8 := Lib.hid (HO7.out.below hb (Nat.le_refl _))
        have HP8 := Lib.hid (HP7.out.below hb (Nat.le_refl _))
        clear hb
        clear x0 x1 y0 y1 y2 y3 y4
        go_wp2
        go_ret
        exact ⟨rfl, HS8.out.bel⟩
      | true =>
        have HGP : Hid (plT L k L.length = G) := Lib.hid ((srT_yes HY.out HZ.out).symm.trans HG.out)
        have hN10 : N1 ≤ 10 := by rw [← HS2.out.mails.1]; exact (bOk_iff.1 HZ.out).2.2.2.2
        obtain ⟨E, hE⟩ : ∃ E, w7.heap.size = E := ⟨_, rfl⟩
        obtain ⟨w8, hw8⟩ : ∃ wa, w7.alloc (.cells #[.int .i64 2, .int .i64 0, .string ⟨#[111]⟩, .slice none 0 0, .slice none 0 0] 26) = wa := ⟨_, rfl⟩
        have hb : Below w7.heap.size w7 w8 := by rw [← hw8]; exact below_new w7 _
        have HE8 := Lib.hid (show Whole w8 E 26 #[.int .i64 2, .int .i64 0, .string ⟨#[111]⟩, .slice none 0 0, .slice none 0 0] by rw [← hw8]; exact whole_made1 hE)
        have HWE := Lib.hid hw8
        have HEE := Lib.hid hE
        have HS8 := Lib.hid (HS7.out.below hb)
        clear hb hw8 hE
        clear x0 x1 y0 y1 y2 y3 y4
        have x0 : w8.cell? ⟨S, 0, none⟩ = some (.int .i64 n) := HS8.out.box.cell 0
        have x1 : w8.cell? ⟨S, 1, none⟩ = some (.slice A1 N1 cap1) := HS8.out.box.cell 1
        have y0 : w8.cell? ⟨S + 1, 0, none⟩ = some (.int .i64 a0) := HS8.out.key.cell 0
        have y1 : w8.cell? ⟨S + 1, 1, none⟩ = some (.int .i64 a1) := HS8.out.key.cell 1
        have y2 : w8.cell? ⟨S + 1, 2, none⟩ = some (.string a2) := HS8.out.key.cell 2
        have y3 : w8.cell? ⟨S + 1, 3, none⟩ = some (.slice a3 a4 a5) := HS8.out.key.cell 3
        have y4 : w8.cell? ⟨S + 1, 4, none⟩ = some (.slice a6 a7 a8) := HS8.out.key.cell 4
        have e0 : w8.cell? ⟨E, 0, none⟩ = some (.int .i64 2) := HE8.out.cell 0
        have e1 : w8.cell? ⟨E, 1, none⟩ = some (.int .i64 0) := HE8.out.cell 1
        have e2 : w8.cell? ⟨E, 2, none⟩ = some (.string ⟨#[111]⟩) := HE8.out.cell 2
        have e3 : w8.cell? ⟨E, 3, none⟩ = some (.slice none 0 0) := HE8.out.cell 3
        have e4 : w8.cell? ⟨E, 4, none⟩ = some (.slice none 0 0) := HE8.out.cell 4
        have hax : allT (.mk 2 0 ⟨#[111]⟩ [] []) = true := key_all (key_text (by decide))
        obtain ⟨GA, hGA⟩ : ∃ G, srT n L (.mk 6 0 ⟨#[]⟩ [] [k, .mk 2 0 ⟨#[111]⟩ [] []]) = G := ⟨_, rfl⟩
        have HGA := Lib.hid hGA
        have HGA2 := Lib.hid ((sr_swap (n := n) (L := L) (kd := 6) (by omega) (key_all HY.out) hax).trans hGA)
        have HGAL : Hid (GA.length ≤ 14) := Lib.hid (hGA ▸ srT_len n L _ HL14.out)
        clear hGA
        obtain ⟨GB, hGB⟩ : ∃ G, srT n L (.mk 7 0 ⟨#[]⟩ [] [k, .mk 2 0 ⟨#[111]⟩ [] []]) = G := ⟨_, rfl⟩
        have HGB := Lib.hid hGB
        have HGB2 := Lib.hid ((sr_swap (n := n) (L := L) (kd := 7) (by omega) (key_all HY.out) hax).trans hGB)
        have HGBL : Hid (GB.length ≤ 14) := Lib.hid (hGB ▸ srT_len n L _ HL14.out)
        clear hGB
        clear hax
        have HKS : Hid (KV w8.drew k (kval (a0, a1, a2, (a3, a4, a5), (a6, a7, a8)))) := Lib.hid (KV.below (below_drew1 w8) (Nat.le_refl _) _ _ HS8.out.kv)
        go_wp2
        rw [HWE.out, HEE.out]
        go_region_held3 (fun w' => w'.cell? ⟨S, 0, none⟩ = some (.int .i64 n) ∧ w'.cell? ⟨S, 1, none⟩ = some (.slice A1 N1 cap1) ∧ w'.cell? ⟨S + 1, 0, none⟩ = some (.int .i64 a0) ∧ w'.cell? ⟨S + 1, 1, none⟩ = some (.int .i64 a1) ∧ w'.cell? ⟨S + 1, 2, none⟩ = some (.string a2) ∧ w'.cell? ⟨S + 1, 3, none⟩ = some (.slice a3 a4 a5) ∧ w'.cell? ⟨S + 1, 4, none⟩ = some (.slice a6 a7 a8) ∧ w'.cell? ⟨E, 0, none⟩ = some (.int .i64 2) ∧ w'.cell? ⟨E, 1, none⟩ = some (.int .i64 0) ∧ w'.cell? ⟨E, 2, none⟩ = some (.string ⟨#[111]⟩) ∧ w'.cell? ⟨E, 3, none⟩ = some (.slice none 0 0) ∧ w'.cell? ⟨E, 4, none⟩ = some (.slice none 0 0)) (go_keep) (first
          | (have hq := HS17
             clear hq
             go_at_call 31
             refine (same_is _ HA7_17.out HB7_17.out).mono ?_
             rintro e w18 ⟨rfl, hb⟩
             have HS18 := Lib.hid (HS17.out.below hb)
             have HE18 := Lib.hid (HE17.out.below hb HE17.out.lt)
             have x18_0 : w18.cell? ⟨S, 0, none⟩ = some (.int .i64 n) := HS18.out.box.cell 0
             have x18_1 : w18.cell? ⟨S, 1, none⟩ = some (.slice A1 N1 cap1) := HS18.out.box.cell 1
             have y18_0 : w18.cell? ⟨S + 1, 0, none⟩ = some (.int .i64 a0) := HS18.out.key.cell 0
             have y18_1 : w18.cell? ⟨S + 1, 1, none⟩ = some (.int .i64 a1) := HS18.out.key.cell 1
             have y18_2 : w18.cell? ⟨S + 1, 2, none⟩ = some (.string a2) := HS18.out.key.cell 2
             have y18_3 : w18.cell? ⟨S + 1, 3, none⟩ = some (.slice a3 a4 a5) := HS18.out.key.cell 3
             have y18_4 : w18.cell? ⟨S + 1, 4, none⟩ = some (.slice a6 a7 a8) := HS18.out.key.cell 4
             have e18_0 : w18.cell? ⟨E, 0, none⟩ = some (.int .i64 2) := HE18.out.cell 0
             have e18_1 : w18.cell? ⟨E, 1, none⟩ = some (.int .i64 0) := HE18.out.cell 1
             have e18_2 : w18.cell? ⟨E, 2, none⟩ = some (.string ⟨#[111]⟩) := HE18.out.cell 2
             have e18_3 : w18.cell? ⟨E, 3, none⟩ = some (.slice none 0 0) := HE18.out.cell 3
             have e18_4 : w18.cell? ⟨E, 4, none⟩ = some (.slice none 0 0) := HE18.out.cell 4
             clear hb)
          | (have hq := HS16
             clear hq
             go_at_call 29
             refine (impl_search (r := (7, 0, ⟨#[]⟩, (none, 0, 0), (some ⟨Q16, 0, none⟩, 2, 2))) HGB2.out w16 HS16.out.mails HKJ16.out HS16.out.shp HS16.out.lst HS16.out.mx).mono ?_
             rintro e w17 ⟨AT17, NT17, capT17, rfl, ho, hb⟩
             have HB7_17 := Lib.hid (gives_in ho HGBL.out)
             have HS17 := Lib.hid (HS16.out.below hb)
             have HE17 := Lib.hid (HE16.out.below hb HE16.out.lt)
             have HA7_17 := Lib.hid (HA7_16.out.below hb (Nat.le_refl _))
             have x17_0 : w17.cell? ⟨S, 0, none⟩ = some (.int .i64 n) := HS17.out.box.cell 0
             have x17_1 : w17.cell? ⟨S, 1, none⟩ = some (.slice A1 N1 cap1) := HS17.out.box.cell 1
             have y17_0 : w17.cell? ⟨S + 1, 0, none⟩ = some (.int .i64 a0) := HS17.out.key.cell 0
             have y17_1 : w17.cell? ⟨S + 1, 1, none⟩ = some (.int .i64 a1) := HS17.out.key.cell 1
             have y17_2 : w17.cell? ⟨S + 1, 2, none⟩ = some (.string a2) := HS17.out.key.cell 2
             have y17_3 : w17.cell? ⟨S + 1, 3, none⟩ = some (.slice a3 a4 a5) := HS17.out.key.cell 3
             have y17_4 : w17.cell? ⟨S + 1, 4, none⟩ = some (.slice a6 a7 a8) := HS17.out.key.cell 4
             have e17_0 : w17.cell? ⟨E, 0, none⟩ = some (.int .i64 2) := HE17.out.cell 0
             have e17_1 : w17.cell? ⟨E, 1, none⟩ = some (.int .i64 0) := HE17.out.cell 1
             have e17_2 : w17.cell? ⟨E, 2, none⟩ = some (.string ⟨#[111]⟩) := HE17.out.cell 2
             have e17_3 : w17.cell? ⟨E, 3, none⟩ = some (.slice none 0 0) := HE17.out.cell 3
             have e17_4 : w17.cell? ⟨E, 4, none⟩ = some (.slice none 0 0) := HE17.out.cell 4
             clear hb ho)
          | (have hq := HS15
             clear hq
             go_at_call 34
             refine (join_at 7 _ (kv_leaf 2 0 (t := ⟨#[111]⟩) (by decide)) HS15.out.kv).mono ?_
             rintro e w16 ⟨Q16, rfl, hkj, hb⟩
             have HKJ16 := Lib.hid hkj
             have HS16 := Lib.hid (HS15.out.below hb)
             have HE16 := Lib.hid (HE15.out.below hb HE15.out.lt)
             have HA7_16 := Lib.hid (HA7_15.out.below hb (Nat.le_refl _))
             have x16_0 : w16.cell? ⟨S, 0, none⟩ = some (.int .i64 n) := HS16.out.box.cell 0
             have x16_1 : w16.cell? ⟨S, 1, none⟩ = some (.slice A1 N1 cap1) := HS16.out.box.cell 1
             have y16_0 : w16.cell? ⟨S + 1, 0, none⟩ = some (.int .i64 a0) := HS16.out.key.cell 0
             have y16_1 : w16.cell? ⟨S + 1, 1, none⟩ = some (.int .i64 a1) := HS16.out.key.cell 1
             have y16_2 : w16.cell? ⟨S + 1, 2, none⟩ = some (.string a2) := HS16.out.key.cell 2
             have y16_3 : w16.cell? ⟨S + 1, 3, none⟩ = some (.slice a3 a4 a5) := HS16.out.key.cell 3
             have y16_4 : w16.cell? ⟨S + 1, 4, none⟩ = some (.slice a6 a7 a8) := HS16.out.key.cell 4
             have e16_0 : w16.cell? ⟨E, 0, none⟩ = some (.int .i64 2) := HE16.out.cell 0
             have e16_1 : w16.cell? ⟨E, 1, none⟩ = some (.int .i64 0) := HE16.out.cell 1
             have e16_2 : w16.cell? ⟨E, 2, none⟩ = some (.string ⟨#[111]⟩) := HE16.out.cell 2
             have e16_3 : w16.cell? ⟨E, 3, none⟩ = some (.slice none 0 0) := HE16.out.cell 3
             have e16_4 : w16.cell? ⟨E, 4, none⟩ = some (.slice none 0 0) := HE16.out.cell 4
             clear hb hkj)
          | (have hq := HS14
             clear hq
             go_at_call 29
             refine (impl_search (r := (7, 0, ⟨#[]⟩, (none, 0, 0), (some ⟨Q14, 0, none⟩, 2, 2))) HGB.out w14 HS14.out.mails HKJ14.out HS14.out.shp HS14.out.lst HS14.out.mx).mono ?_
             rintro e w15 ⟨AT15, NT15, capT15, rfl, ho, hb⟩
             have HA7_15 := Lib.hid (gives_in ho HGBL.out)
             have HS15 := Lib.hid (HS14.out.below hb)
             have HE15 := Lib.hid (HE14.out.below hb HE14.out.lt)
             have x15_0 : w15.cell? ⟨S, 0, none⟩ = some (.int .i64 n) := HS15.out.box.cell 0
             have x15_1 : w15.cell? ⟨S, 1, none⟩ = some (.slice A1 N1 cap1) := HS15.out.box.cell 1
             have y15_0 : w15.cell? ⟨S + 1, 0, none⟩ = some (.int .i64 a0) := HS15.out.key.cell 0
             have y15_1 : w15.cell? ⟨S + 1, 1, none⟩ = some (.int .i64 a1) := HS15.out.key.cell 1
             have y15_2 : w15.cell? ⟨S + 1, 2, none⟩ = some (.string a2) := HS15.out.key.cell 2
             have y15_3 : w15.cell? ⟨S + 1, 3, none⟩ = some (.slice a3 a4 a5) := HS15.out.key.cell 3
             have y15_4 : w15.cell? ⟨S + 1, 4, none⟩ = some (.slice a6 a7 a8) := HS15.out.key.cell 4
             have e15_0 : w15.cell? ⟨E, 0, none⟩ = some (.int .i64 2) := HE15.out.cell 0
             have e15_1 : w15.cell? ⟨E, 1, none⟩ = some (.int .i64 0) := HE15.out.cell 1
             have e15_2 : w15.cell? ⟨E, 2, none⟩ = some (.string ⟨#[111]⟩) := HE15.out.cell 2
             have e15_3 : w15.cell? ⟨E, 3, none⟩ = some (.slice none 0 0) := HE15.out.cell 3
             have e15_4 : w15.cell? ⟨E, 4, none⟩ = some (.slice none 0 0) := HE15.out.cell 4
             clear hb ho)
          | (have hq := HS13
             clear hq
             go_at_call 34
             refine (join_at 7 _ HS13.out.kv (kv_leaf 2 0 (t := ⟨#[111]⟩) (by decide))).mono ?_
             rintro e w14 ⟨Q14, rfl, hkj, hb⟩
             have HKJ14 := Lib.hid hkj
             have HS14 := Lib.hid (HS13.out.below hb)
             have HE14 := Lib.hid (HE13.out.below hb HE13.out.lt)
             have x14_0 : w14.cell? ⟨S, 0, none⟩ = some (.int .i64 n) := HS14.out.box.cell 0
             have x14_1 : w14.cell? ⟨S, 1, none⟩ = some (.slice A1 N1 cap1) := HS14.out.box.cell 1
             have y14_0 : w14.cell? ⟨S + 1, 0, none⟩ = some (.int .i64 a0) := HS14.out.key.cell 0
             have y14_1 : w14.cell? ⟨S + 1, 1, none⟩ = some (.int .i64 a1) := HS14.out.key.cell 1
             have y14_2 : w14.cell? ⟨S + 1, 2, none⟩ = some (.string a2) := HS14.out.key.cell 2
             have y14_3 : w14.cell? ⟨S + 1, 3, none⟩ = some (.slice a3 a4 a5) := HS14.out.key.cell 3
             have y14_4 : w14.cell? ⟨S + 1, 4, none⟩ = some (.slice a6 a7 a8) := HS14.out.key.cell 4
             have e14_0 : w14.cell? ⟨E, 0, none⟩ = some (.int .i64 2) := HE14.out.cell 0
             have e14_1 : w14.cell? ⟨E, 1, none⟩ = some (.int .i64 0) := HE14.out.cell 1
             have e14_2 : w14.cell? ⟨E, 2, none⟩ = some (.string ⟨#[111]⟩) := HE14.out.cell 2
             have e14_3 : w14.cell? ⟨E, 3, none⟩ = some (.slice none 0 0) := HE14.out.cell 3
             have e14_4 : w14.cell? ⟨E, 4, none⟩ = some (.slice none 0 0) := HE14.out.cell 4
             clear hb hkj)
          | (have hq := HS12
             clear hq
             go_at_call 31
             refine (same_is _ HA6_12.out HB6_12.out).mono ?_
             rintro e w13 ⟨rfl, hb⟩
             have HS13 := Lib.hid (HS12.out.below hb)
             have HE13 := Lib.hid (HE12.out.below hb HE12.out.lt)
             have x13_0 : w13.cell? ⟨S, 0, none⟩ = some (.int .i64 n) := HS13.out.box.cell 0
             have x13_1 : w13.cell? ⟨S, 1, none⟩ = some (.slice A1 N1 cap1) := HS13.out.box.cell 1
             have y13_0 : w13.cell? ⟨S + 1, 0, none⟩ = some (.int .i64 a0) := HS13.out.key.cell 0
             have y13_1 : w13.cell? ⟨S + 1, 1, none⟩ = some (.int .i64 a1) := HS13.out.key.cell 1
             have y13_2 : w13.cell? ⟨S + 1, 2, none⟩ = some (.string a2) := HS13.out.key.cell 2
             have y13_3 : w13.cell? ⟨S + 1, 3, none⟩ = some (.slice a3 a4 a5) := HS13.out.key.cell 3
             have y13_4 : w13.cell? ⟨S + 1, 4, none⟩ = some (.slice a6 a7 a8) := HS13.out.key.cell 4
             have e13_0 : w13.cell? ⟨E, 0, none⟩ = some (.int .i64 2) := HE13.out.cell 0
             have e13_1 : w13.cell? ⟨E, 1, none⟩ = some (.int .i64 0) := HE13.out.cell 1
             have e13_2 : w13.cell? ⟨E, 2, none⟩ = some (.string ⟨#[111]⟩) := HE13.out.cell 2
             have e13_3 : w13.cell? ⟨E, 3, none⟩ = some (.slice none 0 0) := HE13.out.cell 3
             have e13_4 : w13.cell? ⟨E, 4, none⟩ = some (.slice none 0 0) := HE13.out.cell 4
             clear hb)
          | (have hq := HS11
             clear hq
             go_at_call 29
             refine (impl_search (r := (6, 0, ⟨#[]⟩, (none, 0, 0), (some ⟨Q11, 0, none⟩, 2, 2))) HGA2.out w11 HS11.out.mails HKJ11.out HS11.out.shp HS11.out.lst HS11.out.mx).mono ?_
             rintro e w12 ⟨AT12, NT12, capT12, rfl, ho, hb⟩
             have HB6_12 := Lib.hid (gives_in ho HGAL.out)
             have HS12 := Lib.hid (HS11.out.below hb)
             have HE12 := Lib.hid (HE11.out.below hb HE11.out.lt)
             have HA6_12 := Lib.hid (HA6_11.out.below hb (Nat.le_refl _))
             have x12_0 : w12.cell? ⟨S, 0, none⟩ = some (.int .i64 n) := HS12.out.box.cell 0
             have x12_1 : w12.cell? ⟨S, 1, none⟩ = some (.slice A1 N1 cap1) := HS12.out.box.cell 1
             have y12_0 : w12.cell? ⟨S + 1, 0, none⟩ = some (.int .i64 a0) := HS12.out.key.cell 0
             have y12_1 : w12.cell? ⟨S + 1, 1, none⟩ = some (.int .i64 a1) := HS12.out.key.cell 1
             have y12_2 : w12.cell? ⟨S + 1, 2, none⟩ = some (.string a2) := HS12.out.key.cell 2
             have y12_3 : w12.cell? ⟨S + 1, 3, none⟩ = some (.slice a3 a4 a5) := HS12.out.key.cell 3
             have y12_4 : w12.cell? ⟨S + 1, 4, none⟩ = some (.slice a6 a7 a8) := HS12.out.key.cell 4
             have e12_0 : w12.cell? ⟨E, 0, none⟩ = some (.int .i64 2) := HE12.out.cell 0
             have e12_1 : w12.cell? ⟨E, 1, none⟩ = some (.int .i64 0) := HE12.out.cell 1
             have e12_2 : w12.cell? ⟨E, 2, none⟩ = some (.string ⟨#[111]⟩) := HE12.out.cell 2
             have e12_3 : w12.cell? ⟨E, 3, none⟩ = some (.slice none 0 0) := HE12.out.cell 3
             have e12_4 : w12.cell? ⟨E, 4, none⟩ = some (.slice none 0 0) := HE12.out.cell 4
             clear hb ho)
          | (have hq := HS10
             clear hq
             go_at_call 34
             refine (join_at 6 _ (kv_leaf 2 0 (t := ⟨#[111]⟩) (by decide)) HS10.out.kv).mono ?_
             rintro e w11 ⟨Q11, rfl, hkj, hb⟩
             have HKJ11 := Lib.hid hkj
             have HS11 := Lib.hid (HS10.out.below hb)
             have HE11 := Lib.hid (HE10.out.below hb HE10.out.lt)
             have HA6_11 := Lib.hid (HA6_10.out.below hb (Nat.le_refl _))
             have x11_0 : w11.cell? ⟨S, 0, none⟩ = some (.int .i64 n) := HS11.out.box.cell 0
             have x11_1 : w11.cell? ⟨S, 1, none⟩ = some (.slice A1 N1 cap1) := HS11.out.box.cell 1
             have y11_0 : w11.cell? ⟨S + 1, 0, none⟩ = some (.int .i64 a0) := HS11.out.key.cell 0
             have y11_1 : w11.cell? ⟨S + 1, 1, none⟩ = some (.int .i64 a1) := HS11.out.key.cell 1
             have y11_2 : w11.cell? ⟨S + 1, 2, none⟩ = some (.string a2) := HS11.out.key.cell 2
             have y11_3 : w11.cell? ⟨S + 1, 3, none⟩ = some (.slice a3 a4 a5) := HS11.out.key.cell 3
             have y11_4 : w11.cell? ⟨S + 1, 4, none⟩ = some (.slice a6 a7 a8) := HS11.out.key.cell 4
             have e11_0 : w11.cell? ⟨E, 0, none⟩ = some (.int .i64 2) := HE11.out.cell 0
             have e11_1 : w11.cell? ⟨E, 1, none⟩ = some (.int .i64 0) := HE11.out.cell 1
             have e11_2 : w11.cell? ⟨E, 2, none⟩ = some (.string ⟨#[111]⟩) := HE11.out.cell 2
             have e11_3 : w11.cell? ⟨E, 3, none⟩ = some (.slice none 0 0) := HE11.out.cell 3
             have e11_4 : w11.cell? ⟨E, 4, none⟩ = some (.slice none 0 0) := HE11.out.cell 4
             clear hb hkj)
          | (have hq := HS9
             clear hq
             go_at_call 29
             refine (impl_search (r := (6, 0, ⟨#[]⟩, (none, 0, 0), (some ⟨Q9, 0, none⟩, 2, 2))) HGA.out w9 HS9.out.mails HKJ9.out HS9.out.shp HS9.out.lst HS9.out.mx).mono ?_
             rintro e w10 ⟨AT10, NT10, capT10, rfl, ho, hb⟩
             have HA6_10 := Lib.hid (gives_in ho HGAL.out)
             have HS10 := Lib.hid (HS9.out.below hb)
             have HE10 := Lib.hid (HE9.out.below hb HE9.out.lt)
             have x10_0 : w10.cell? ⟨S, 0, none⟩ = some (.int .i64 n) := HS10.out.box.cell 0
             have x10_1 : w10.cell? ⟨S, 1, none⟩ = some (.slice A1 N1 cap1) := HS10.out.box.cell 1
             have y10_0 : w10.cell? ⟨S + 1, 0, none⟩ = some (.int .i64 a0) := HS10.out.key.cell 0
             have y10_1 : w10.cell? ⟨S + 1, 1, none⟩ = some (.int .i64 a1) := HS10.out.key.cell 1
             have y10_2 : w10.cell? ⟨S + 1, 2, none⟩ = some (.string a2) := HS10.out.key.cell 2
             have y10_3 : w10.cell? ⟨S + 1, 3, none⟩ = some (.slice a3 a4 a5) := HS10.out.key.cell 3
             have y10_4 : w10.cell? ⟨S + 1, 4, none⟩ = some (.slice a6 a7 a8) := HS10.out.key.cell 4
             have e10_0 : w10.cell? ⟨E, 0, none⟩ = some (.int .i64 2) := HE10.out.cell 0
             have e10_1 : w10.cell? ⟨E, 1, none⟩ = some (.int .i64 0) := HE10.out.cell 1
             have e10_2 : w10.cell? ⟨E, 2, none⟩ = some (.string ⟨#[111]⟩) := HE10.out.cell 2
             have e10_3 : w10.cell? ⟨E, 3, none⟩ = some (.slice none 0 0) := HE10.out.cell 3
             have e10_4 : w10.cell? ⟨E, 4, none⟩ = some (.slice none 0 0) := HE10.out.cell 4
             clear hb ho)
          | (have hq := HS8
             clear hq
             go_at_call 34
             refine (join_at 6 _ HKS.out (kv_leaf 2 0 (t := ⟨#[111]⟩) (by decide))).mono ?_
             rintro e w9 ⟨Q9, rfl, hkj, hb⟩
             have hb0 : Below w8.heap.size w8 w9 := (below_drew1 w8).trans hb
             have HKJ9 := Lib.hid hkj
             have HS9 := Lib.hid (HS8.out.below hb0)
             have HE9 := Lib.hid (HE8.out.below hb0 HE8.out.lt)
             have x9_0 : w9.cell? ⟨S, 0, none⟩ = some (.int .i64 n) := HS9.out.box.cell 0
             have x9_1 : w9.cell? ⟨S, 1, none⟩ = some (.slice A1 N1 cap1) := HS9.out.box.cell 1
             have y9_0 : w9.cell? ⟨S + 1, 0, none⟩ = some (.int .i64 a0) := HS9.out.key.cell 0
             have y9_1 : w9.cell? ⟨S + 1, 1, none⟩ = some (.int .i64 a1) := HS9.out.key.cell 1
             have y9_2 : w9.cell? ⟨S + 1, 2, none⟩ = some (.string a2) := HS9.out.key.cell 2
             have y9_3 : w9.cell? ⟨S + 1, 3, none⟩ = some (.slice a3 a4 a5) := HS9.out.key.cell 3
             have y9_4 : w9.cell? ⟨S + 1, 4, none⟩ = some (.slice a6 a7 a8) := HS9.out.key.cell 4
             have e9_0 : w9.cell? ⟨E, 0, none⟩ = some (.int .i64 2) := HE9.out.cell 0
             have e9_1 : w9.cell? ⟨E, 1, none⟩ = some (.int .i64 0) := HE9.out.cell 1
             have e9_2 : w9.cell? ⟨E, 2, none⟩ = some (.string ⟨#[111]⟩) := HE9.out.cell 2
             have e9_3 : w9.cell? ⟨E, 3, none⟩ = some (.slice none 0 0) := HE9.out.cell 3
             have e9_4 : w9.cell? ⟨E, 4, none⟩ = some (.slice none 0 0) := HE9.out.cell 4
             clear hb hkj hb0))
        go_wp2
        go_ret
        exact ⟨rfl, HS18.out.bel⟩
  · have hl' : (1048576 : Int) < (len : Int) := by omega
    go_enter Tryd.func11, Tryd.ntmps11
    go_wp2
    go_ret
    exact ⟨rfl, Below.refl _ _⟩
end Go.Proofs.YtpihibconbejlaaDoor
