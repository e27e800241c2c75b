/-
  The walks of the laws FnSearchPlace. Conditions: the code can be read; the tables hold what the program lays there.
-/
import Derived.Test.YtpihibconbejlaaDoorKst
namespace Go.Proofs.YtpihibconbejlaaDoor
open Go.RowKit
set_option linter.unusedVariables false

set_option maxRecDepth 20000 in
set_option maxHeartbeats 8000000 in
theorem law_FnSearchPlace (A : Option Addr) (len cap : Nat) (A0 : Option Addr) (len0 cap0 : Nat) (w : World) (h : Coded w A len cap) (h0 : Coded w A0 len0 cap0) (hSh : Shp w) (hLs : Lst w) (hMx : MxL w) : Calls Tryd.prog 14 #[.slice A len cap, .slice A0 len0 cap0] w (Holds1 w) := by
  have HC := Lib.hid h
  have HSh := Lib.hid hSh
  have HLs := Lib.hid hLs
  have HMx := Lib.hid hMx
  have HC0 := Lib.hid h0
  clear h h0 hSh hLs hMx
  by_cases hl : len ≤ 1048576
  · have hl' : (len : Int) ≤ 1048576 := by omega
    by_cases hl0 : len0 ≤ 1048576
    · have hl0' : (len0 : Int) ≤ 1048576 := by omega
      go_enter Tryd.func14, Tryd.ntmps14
      go_wp2_with fail
      refine (draw_search kd3 A len cap _ HC.out).mono ?_
      rintro e w1 ⟨n, A1, N1, cap1, L, k, ⟨a0, a1, a2, ⟨a3, a4, a5⟩, ⟨a6, a7, a8⟩⟩, rfl, hN14, hn1, hn2, hnt, hni, hM, hk, hb⟩
      obtain ⟨S, hS⟩ : ∃ S, w1.heap.size = S := ⟨_, rfl⟩
      obtain ⟨w2, hw2⟩ : ∃ w2, ((w1.alloc (.cells #[.int .i64 n, .slice A1 N1 cap1] 37)).alloc (.cells #[.int .i64 a0, .int .i64 a1, .string a2, .slice a3 a4 a5, .slice a6 a7 a8] 26)) = w2 := ⟨_, rfl⟩
      have HS2 := Lib.hid (show Sb w n A1 N1 cap1 L k (a0, a1, a2, (a3, a4, a5), (a6, a7, a8)) S w2 by rw [← hw2]; exact Sb.made hS hb hM hk HSh.out HLs.out HMx.out)
      have HNT := Lib.hid hnt
      have HNI := Lib.hid hni
      have hL14 : L.length ≤ 14 := by rw [hM.1]; exact hN14
      obtain ⟨G, hG⟩ : ∃ G, srT n L k = G := ⟨_, rfl⟩
      have HG := Lib.hid hG
      have HGL : Hid (G.length ≤ 14) := Lib.hid (hG ▸ srT_len n L k hL14)
      have HL14 := Lib.hid hL14
      have HW2 := Lib.hid hw2
      have HSS := Lib.hid hS
      clear hM hk hb hnt hni hw2 hS hG hL14
      go_wp2_with fail
      rw [HW2.out, HSS.out]
      refine (draw_tk A0 len0 cap0 w2 (HC0.out.below HS2.out.bel (Nat.le_refl _))).mono ?_
      rintro e w3 ⟨A3, N3, c3, T, hN3, hN8, rfl, hsp, hb⟩
      have HS3 := Lib.hid (HS2.out.below hb)
      have HT3 := Lib.hid hsp
      have HN3 := Lib.hid hN3
      clear hb hsp hN3
      obtain ⟨E, hE⟩ : ∃ E, w3.heap.size = E := ⟨_, rfl⟩
      obtain ⟨w4, hw4⟩ : ∃ wa, w3.alloc (.cells #[.int .i64 3, .int .i64 0, .string ⟨#[]⟩, .slice A3 N3 c3, .slice none 0 0] 26) = wa := ⟨_, rfl⟩
      have hb : Below w3.heap.size w3 w4 := by rw [← hw4]; exact below_new w3 _
      have HE4 := Lib.hid (show Whole w4 E 26 #[.int .i64 3, .int .i64 0, .string ⟨#[]⟩, .slice A3 N3 c3, .slice none 0 0] by rw [← hw4]; exact whole_made1 hE)
      have HWE := Lib.hid hw4
      have HEE := Lib.hid hE
      have HS4 := Lib.hid (HS3.out.below hb)
      have HT4 := Lib.hid (HT3.out.below hb (Nat.le_refl _))
      have HKV4 := Lib.hid (show KV w4 (.mk 3 0 ⟨#[]⟩ T []) (kval (3, 0, ⟨#[]⟩, (A3, N3, c3), (none, 0, 0))) from kv_set 3 HN3.out (by omega) HT4.out)
      clear hb hw4 hE
      have rx0 : (w3.alloc (.cells #[.int .i64 3, .int .i64 0, .string ⟨#[]⟩, .slice A3 N3 c3, .slice none 0 0] 26)).cell? ⟨S, 0, none⟩ = some (.int .i64 n) := by rw [HWE.out]; exact HS4.out.box.cell 0
      have rx1 : (w3.alloc (.cells #[.int .i64 3, .int .i64 0, .string ⟨#[]⟩, .slice A3 N3 c3, .slice none 0 0] 26)).cell? ⟨S, 1, none⟩ = some (.slice A1 N1 cap1) := by rw [HWE.out]; exact HS4.out.box.cell 1
      obtain ⟨GP, hGP⟩ : ∃ G, srT n L (.mk 3 0 ⟨#[]⟩ T []) = G := ⟨_, rfl⟩
      have HGP := Lib.hid hGP
      have HGPL : Hid (GP.length ≤ 14) := Lib.hid (hGP ▸ srT_len n L _ HL14.out)
      clear hGP
      go_wp2_with fail
      rw [HWE.out, HEE.out]
      refine (impl_search (r := (3, 0, ⟨#[]⟩, (A3, N3, c3), (none, 0, 0))) HGP.out w4 HS4.out.mails HKV4.out HS4.out.shp HS4.out.lst HS4.out.mx).mono ?_
      rintro e w5 ⟨AO, NO, capO, rfl, ho, hb⟩
      have HS5 := Lib.hid (HS4.out.below hb)
      have HT5 := Lib.hid (HT4.out.below hb (Nat.le_refl _))
      have HE5 := Lib.hid (HE4.out.below hb HE4.out.lt)
      have HKV5 := Lib.hid (KV.below hb (Nat.le_refl _) _ _ HKV4.out)
      have HO5 := Lib.hid (gives_in ho HGPL.out)
      clear hb ho
      clear rx0 rx1
      have x0 : w5.cell? ⟨S, 0, none⟩ = some (.int .i64 n) := HS5.out.box.cell 0
      have x1 : w5.cell? ⟨S, 1, none⟩ = some (.slice A1 N1 cap1) := HS5.out.box.cell 1
      have e0 : w5.cell? ⟨E, 0, none⟩ = some (.int .i64 3) := HE5.out.cell 0
      have e1 : w5.cell? ⟨E, 1, none⟩ = some (.int .i64 0) := HE5.out.cell 1
      have e2 : w5.cell? ⟨E, 2, none⟩ = some (.string ⟨#[]⟩) := HE5.out.cell 2
      have e3 : w5.cell? ⟨E, 3, none⟩ = some (.slice A3 N3 c3) := HE5.out.cell 3
      have e4 : w5.cell? ⟨E, 4, none⟩ = some (.slice none 0 0) := HE5.out.cell 4
      go_wp2_with fail
      refine (spec_search (r := (3, 0, ⟨#[]⟩, (A3, N3, c3), (none, 0, 0))) HGP.out w5 HS5.out.mails HKV5.out (nodes_set _ _)).mono ?_
      rintro e w6 ⟨AP, NP, capP, rfl, ho, hb⟩
      have HS6 := Lib.hid (HS5.out.below hb)
      have HT6 := Lib.hid (HT5.out.below hb (Nat.le_refl _))
      have HE6 := Lib.hid (HE5.out.below hb HE5.out.lt)
      have HKV6 := Lib.hid (KV.below hb (Nat.le_refl _) _ _ HKV5.out)
      have HO6 := Lib.hid (HO5.out.below hb (Nat.le_refl _))
      have HP6 := Lib.hid (gives_in ho HGPL.out)
      clear hb ho
      clear x0 x1 e0 e1 e2 e3 e4
      have x0 : w6.cell? ⟨S, 0, none⟩ = some (.int .i64 n) := HS6.out.box.cell 0
      have x1 : w6.cell? ⟨S, 1, none⟩ = some (.slice A1 N1 cap1) := HS6.out.box.cell 1
      have e0 : w6.cell? ⟨E, 0, none⟩ = some (.int .i64 3) := HE6.out.cell 0
      have e1 : w6.cell? ⟨E, 1, none⟩ = some (.int .i64 0) := HE6.out.cell 1
      have e2 : w6.cell? ⟨E, 2, none⟩ = some (.string ⟨#[]⟩) := HE6.out.cell 2
      have e3 : w6.cell? ⟨E, 3, none⟩ = some (.slice A3 N3 c3) := HE6.out.cell 3
      have e4 : w6.cell? ⟨E, 4, none⟩ = some (.slice none 0 0) := HE6.out.cell 4
      go_wp2_with fail
      refine (same_is _ HO6.out HP6.out).mono ?_
      rintro e w7 ⟨rfl, hb⟩
      have HS7 := Lib.hid (HS6.out.below hb)
      have HT7 := Lib.hid (HT6.out.below hb (Nat.le_refl _))
      have HE7 := Lib.hid (HE6.out.below hb HE6.out.lt)
      have HKV7 := Lib.hid (KV.below hb (Nat.le_refl _) _ _ HKV6.out)
      have HO7 := Lib.hid (HO6.out.below hb (Nat.le_refl _))
      have HP7 := Lib.hid (HP6.out.below hb (Nat.le_refl _))
      clear hb
      clear x0 x1 e0 e1 e2 e3 e4
      have x0 : w7.cell? ⟨S, 0, none⟩ = some (.int .i64 n) := HS7.out.box.cell 0
      have x1 : w7.cell? ⟨S, 1, none⟩ = some (.slice A1 N1 cap1) := HS7.out.box.cell 1
      have e0 : w7.cell? ⟨E, 0, none⟩ = some (.int .i64 3) := HE7.out.cell 0
      have e1 : w7.cell? ⟨E, 1, none⟩ = some (.int .i64 0) := HE7.out.cell 1
      have e2 : w7.cell? ⟨E, 2, none⟩ = some (.string ⟨#[]⟩) := HE7.out.cell 2
      have e3 : w7.cell? ⟨E, 3, none⟩ = some (.slice A3 N3 c3) := HE7.out.cell 3
      have e4 : w7.cell? ⟨E, 4, none⟩ = some (.slice none 0 0) := HE7.out.cell 4
      obtain ⟨z, hz⟩ : ∃ z, bOk n L = z := ⟨_, rfl⟩
      have HZ := Lib.hid hz
      clear hz
      go_wp2_with fail
      refine (HS7.out.valid HZ.out).mono ?_
      rintro e w8 ⟨rfl, hb⟩
      have HS8 := Lib.hid (HS7.out.below hb)
      have HT8 := Lib.hid (HT7.out.below hb (Nat.le_refl _))
      have HE8 := Lib.hid (HE7.out.below hb HE7.out.lt)
      have HKV8 := Lib.hid (KV.below hb (Nat.le_refl _) _ _ HKV7.out)
      have HO8 := Lib.hid (HO7.out.below hb (Nat.le_refl _))
      have HP8 := Lib.hid (HP7.out.below hb (Nat.le_refl _))
      clear hb
      clear x0 x1 e0 e1 e2 e3 e4
      have x0 : w8.cell? ⟨S, 0, none⟩ = some (.int .i64 n) := HS8.out.box.cell 0
      have x1 : w8.cell? ⟨S, 1, none⟩ = some (.slice A1 N1 cap1) := HS8.out.box.cell 1
      have e0 : w8.cell? ⟨E, 0, none⟩ = some (.int .i64 3) := HE8.out.cell 0
      have e1 : w8.cell? ⟨E, 1, none⟩ = some (.int .i64 0) := HE8.out.cell 1
      have e2 : w8.cell? ⟨E, 2, none⟩ = some (.string ⟨#[]⟩) := HE8.out.cell 2
      have e3 : w8.cell? ⟨E, 3, none⟩ = some (.slice A3 N3 c3) := HE8.out.cell 3
      have e4 : w8.cell? ⟨E, 4, none⟩ = some (.slice none 0 0) := HE8.out.cell 4
      cases z with
      | false =>
        go_wp2_with fail
        refine (same_is _ HO8.out HP8.out).mono ?_
        rintro e w9 ⟨rfl, hb⟩
        have HS9 := Lib.hid (HS8.out.below hb)
        have HT9 := Lib.hid (HT8.out.below hb (Nat.le_refl _))
        have HE9 := Lib.hid (HE8.out.below hb HE8.out.lt)
        have HKV9 := Lib.hid (KV.below hb (Nat.le_refl _) _ _ HKV8.out)
        have HO9 := Lib.hid (HO8.out.below hb (Nat.le_refl _))
        have HP9 := Lib.hid (HP8.out.below hb (Nat.le_refl _))
        clear hb
        clear x0 x1 e0 e1 e2 e3 e4
        go_wp2
        go_ret
        exact ⟨rfl, HS9.out.bel⟩
      | true =>
        obtain ⟨y, hy⟩ : ∃ y, setB T = y := ⟨_, rfl⟩
        have HY := Lib.hid hy
        have HV := Lib.hid (key_set (kd := 3) (by omega) hy)
        clear hy
        go_wp2_with fail
        refine (spec_key HKV8.out (Nat.le_trans (nodes_set 3 T) (by omega)) HV.out).mono ?_
        rintro e w9 ⟨rfl, hb⟩
        have HS9 := Lib.hid (HS8.out.below hb)
        have HT9 := Lib.hid (HT8.out.below hb (Nat.le_refl _))
        have HE9 := Lib.hid (HE8.out.below hb HE8.out.lt)
        have HKV9 := Lib.hid (KV.below hb (Nat.le_refl _) _ _ HKV8.out)
        have HO9 := Lib.hid (HO8.out.below hb (Nat.le_refl _))
        have HP9 := Lib.hid (HP8.out.below hb (Nat.le_refl _))
        clear hb
        clear x0 x1 e0 e1 e2 e3 e4
        have x0 : w9.cell? ⟨S, 0, none⟩ = some (.int .i64 n) := HS9.out.box.cell 0
        have x1 : w9.cell? ⟨S, 1, none⟩ = some (.slice A1 N1 cap1) := HS9.out.box.cell 1
        have e0 : w9.cell? ⟨E, 0, none⟩ = some (.int .i64 3) := HE9.out.cell 0
        have e1 : w9.cell? ⟨E, 1, none⟩ = some (.int .i64 0) := HE9.out.cell 1
        have e2 : w9.cell? ⟨E, 2, none⟩ = some (.string ⟨#[]⟩) := HE9.out.cell 2
        have e3 : w9.cell? ⟨E, 3, none⟩ = some (.slice A3 N3 c3) := HE9.out.cell 3
        have e4 : w9.cell? ⟨E, 4, none⟩ = some (.slice none 0 0) := HE9.out.cell 4
        cases y with
        | false =>
          go_wp2_with fail
          refine (same_is _ HO9.out HP9.out).mono ?_
          rintro e w10 ⟨rfl, hb⟩
          have HS10 := Lib.hid (HS9.out.below hb)
          have HT10 := Lib.hid (HT9.out.below hb (Nat.le_refl _))
          have HE10 := Lib.hid (HE9.out.below hb HE9.out.lt)
          have HKV10 := Lib.hid (KV.below hb (Nat.le_refl _) _ _ HKV9.out)
          have HO10 := Lib.hid (HO9.out.below hb (Nat.le_refl _))
          have HP10 := Lib.hid (HP9.out.below hb (Nat.le_refl _))
          clear hb
          clear x0 x1 e0 e1 e2 e3 e4
          go_wp2
          go_ret
          exact ⟨rfl, HS10.out.bel⟩
        | true =>
          have HPL : Hid (plT L (.mk 3 0 ⟨#[]⟩ T []) L.length = GP) := Lib.hid ((srT_yes HV.out HZ.out).symm.trans HGP.out)
          have hN10 : N1 ≤ 10 := by rw [← HS2.out.mails.1]; exact (bOk_iff.1 HZ.out).2.2.2.2
          have HGN : Hid (((numsB T (N1 : Int)).map fun (n : Nat) => (n : Int)) = GP) := Lib.hid (by rw [← HPL.out, pl_place HY.out (by rw [HS2.out.mails.1]; omega), HS2.out.mails.1])
          go_wp2_with fail
          refine (setnums_in HN3.out (by omega) HGN.out w9 HT9.out).mono ?_
          rintro e w10 ⟨A7, N7, c7, rfl, hi, hb⟩
          have HS10 := Lib.hid (HS9.out.below hb)
          have HT10 := Lib.hid (HT9.out.below hb (Nat.le_refl _))
          have HE10 := Lib.hid (HE9.out.below hb HE9.out.lt)
          have HKV10 := Lib.hid (KV.below hb (Nat.le_refl _) _ _ HKV9.out)
          have HO10 := Lib.hid (HO9.out.below hb (Nat.le_refl _))
          have HP10 := Lib.hid (HP9.out.below hb (Nat.le_refl _))
          have HI10 := Lib.hid hi
          clear hb hi
          clear x0 x1 e0 e1 e2 e3 e4
          go_wp2_with fail
          refine (same_is _ HO10.out HI10.out).mono ?_
          rintro e w11 ⟨rfl, hb⟩
          have HS11 := Lib.hid (HS10.out.below hb)
          have HT11 := Lib.hid (HT10.out.below hb (Nat.le_refl _))
          have HE11 := Lib.hid (HE10.out.below hb HE10.out.lt)
          have HKV11 := Lib.hid (KV.below hb (Nat.le_refl _) _ _ HKV10.out)
          have HO11 := Lib.hid (HO10.out.below hb (Nat.le_refl _))
          have HP11 := Lib.hid (HP10.out.below hb (Nat.le_refl _))
          have HI11 := Lib.hid (HI10.out.below hb (Nat.le_refl _))
          clear hb
          go_wp2
          go_ret
          exact ⟨rfl, HS11.out.bel⟩
    · have hl0' : (1048576 : Int) < (len0 : Int) := by omega
      go_enter Tryd.func14, Tryd.ntmps14
      go_wp2
      go_ret
      exact ⟨rfl, Below.refl _ _⟩
  · have hl' : (1048576 : Int) < (len : Int) := by omega
    go_enter Tryd.func14, Tryd.ntmps14
    go_wp2
    go_ret
    exact ⟨rfl, Below.refl _ _⟩
end Go.Proofs.YtpihibconbejlaaDoor
