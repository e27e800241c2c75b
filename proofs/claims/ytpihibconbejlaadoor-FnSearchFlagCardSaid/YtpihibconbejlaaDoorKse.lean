/-
  The walks of the laws FnSearchFlag. Conditions: the code can be read; the tables hold what the program lays there.
-/
import Derived.Test.YtpihibconbejlaaDoorKv2
namespace Go.Proofs.YtpihibconbejlaaDoor
open Go.RowKit
set_option linter.unusedVariables false

theorem have_at {f o : Int} {z : Bool} (hz : hvI f o = z) (w : World) : Calls Tryd.prog 35 #[.int .i64 f, .int .i64 o] w fun e w' => e = .returned (.bool z) ∧ ∃ k, w' = w.drewN k := by
  subst hz
  exact impl_have f o w
set_option maxRecDepth 20000 in
set_option maxHeartbeats 8000000 in
theorem law_FnSearchFlag (A : Option Addr) (len cap : Nat) (w : World) (h : Coded w A len cap) (hSh : Shp w) (hLs : Lst w) (hMx : MxL w) : Calls Tryd.prog 13 #[.slice A len cap] w (Holds1 w) := by
  have HC := Lib.hid h
  have HSh := Lib.hid hSh
  have HLs := Lib.hid hLs
  have HMx := Lib.hid hMx
  clear h hSh hLs hMx
  by_cases hl : len ≤ 1048576
  · have hl' : (len : Int) ≤ 1048576 := by omega
    go_enter Tryd.func13, Tryd.ntmps13
    go_wp2_with fail
    refine (draw_search kd3 A len cap _ HC.out).mono ?_
    rintro e w1 ⟨n, A1, N1, cap1, L, k, ⟨a0, a1, a2, ⟨a3, a4, a5⟩, ⟨a6, a7, a8⟩⟩, rfl, hN14, hn1, hn2, hnt, hni, hM, hk, hb⟩
    obtain ⟨S, hS⟩ : ∃ S, w1.heap.size = S := ⟨_, rfl⟩
    obtain ⟨w2, hw2⟩ : ∃ w2, ((w1.alloc (.cells #[.int .i64 n, .slice A1 N1 cap1] 37)).alloc (.cells #[.int .i64 a0, .int .i64 a1, .string a2, .slice a3 a4 a5, .slice a6 a7 a8] 26)) = w2 := ⟨_, rfl⟩
    have HS2 := Lib.hid (show Sb w n A1 N1 cap1 L k (a0, a1, a2, (a3, a4, a5), (a6, a7, a8)) S w2 by rw [← hw2]; exact Sb.made hS hb hM hk HSh.out HLs.out HMx.out)
    have HNT := Lib.hid hnt
    have HNI := Lib.hid hni
    have hL14 : L.length ≤ 14 := by rw [hM.1]; exact hN14
    obtain ⟨G, hG⟩ : ∃ G, srT n L k = G := ⟨_, rfl⟩
    have HG := Lib.hid hG
    have HGL : Hid (G.length ≤ 14) := Lib.hid (hG ▸ srT_len n L k hL14)
    have HL14 := Lib.hid hL14
    have HW2 := Lib.hid hw2
    have HSS := Lib.hid hS
    clear hM hk hb hnt hni hw2 hS hG hL14
    go_wp2_with fail
    rw [HW2.out, HSS.out]
    refine (HS2.out.search HG.out).mono ?_
    rintro e w3 ⟨AO, NO, capO, rfl, ho, hb⟩
    have HS3 := Lib.hid (HS2.out.below hb)
    have HO3 := Lib.hid (gives_in ho HGL.out)
    clear hb ho
    have x0 : w3.cell? ⟨S, 0, none⟩ = some (.int .i64 n) := HS3.out.box.cell 0
    have x1 : w3.cell? ⟨S, 1, none⟩ = some (.slice A1 N1 cap1) := HS3.out.box.cell 1
    have y0 : w3.cell? ⟨S + 1, 0, none⟩ = some (.int .i64 a0) := HS3.out.key.cell 0
    have y1 : w3.cell? ⟨S + 1, 1, none⟩ = some (.int .i64 a1) := HS3.out.key.cell 1
    have y2 : w3.cell? ⟨S + 1, 2, none⟩ = some (.string a2) := HS3.out.key.cell 2
    have y3 : w3.cell? ⟨S + 1, 3, none⟩ = some (.slice a3 a4 a5) := HS3.out.key.cell 3
    have y4 : w3.cell? ⟨S + 1, 4, none⟩ = some (.slice a6 a7 a8) := HS3.out.key.cell 4
    go_wp2_with fail
    refine (HS3.out.want HG.out HNT.out).mono ?_
    rintro e w4 ⟨AP, NP, capP, rfl, ho, hb⟩
    have HS4 := Lib.hid (HS3.out.below hb)
    have HO4 := Lib.hid (HO3.out.below hb (Nat.le_refl _))
    have HP4 := Lib.hid (gives_in ho HGL.out)
    clear hb ho
    clear x0 x1 y0 y1 y2 y3 y4
    have x0 : w4.cell? ⟨S, 0, none⟩ = some (.int .i64 n) := HS4.out.box.cell 0
    have x1 : w4.cell? ⟨S, 1, none⟩ = some (.slice A1 N1 cap1) := HS4.out.box.cell 1
    have y0 : w4.cell? ⟨S + 1, 0, none⟩ = some (.int .i64 a0) := HS4.out.key.cell 0
    have y1 : w4.cell? ⟨S + 1, 1, none⟩ = some (.int .i64 a1) := HS4.out.key.cell 1
    have y2 : w4.cell? ⟨S + 1, 2, none⟩ = some (.string a2) := HS4.out.key.cell 2
    have y3 : w4.cell? ⟨S + 1, 3, none⟩ = some (.slice a3 a4 a5) := HS4.out.key.cell 3
    have y4 : w4.cell? ⟨S + 1, 4, none⟩ = some (.slice a6 a7 a8) := HS4.out.key.cell 4
    go_wp2_with fail
    refine (same_is _ HO4.out HP4.out).mono ?_
    rintro e w5 ⟨rfl, hb⟩
    have HS5 := Lib.hid (HS4.out.below hb)
    have HO5 := Lib.hid (HO4.out.below hb (Nat.le_refl _))
    have HP5 := Lib.hid (HP4.out.below hb (Nat.le_refl _))
    clear hb
    clear x0 x1 y0 y1 y2 y3 y4
    have x0 : w5.cell? ⟨S, 0, none⟩ = some (.int .i64 n) := HS5.out.box.cell 0
    have x1 : w5.cell? ⟨S, 1, none⟩ = some (.slice A1 N1 cap1) := HS5.out.box.cell 1
    have y0 : w5.cell? ⟨S + 1, 0, none⟩ = some (.int .i64 a0) := HS5.out.key.cell 0
    have y1 : w5.cell? ⟨S + 1, 1, none⟩ = some (.int .i64 a1) := HS5.out.key.cell 1
    have y2 : w5.cell? ⟨S + 1, 2, none⟩ = some (.string a2) := HS5.out.key.cell 2
    have y3 : w5.cell? ⟨S + 1, 3, none⟩ = some (.slice a3 a4 a5) := HS5.out.key.cell 3
    have y4 : w5.cell? ⟨S + 1, 4, none⟩ = some (.slice a6 a7 a8) := HS5.out.key.cell 4
    obtain ⟨z, hz⟩ : ∃ z, bOk n L = z := ⟨_, rfl⟩
    have HZ := Lib.hid hz
    clear hz
    go_wp2_with fail
    refine (HS5.out.valid HZ.out).mono ?_
    rintro e w6 ⟨rfl, hb⟩
    have HS6 := Lib.hid (HS5.out.below hb)
    have HO6 := Lib.hid (HO5.out.below hb (Nat.le_refl _))
    have HP6 := Lib.hid (HP5.out.below hb (Nat.le_refl _))
    clear hb
    clear x0 x1 y0 y1 y2 y3 y4
    have x0 : w6.cell? ⟨S, 0, none⟩ = some (.int .i64 n) := HS6.out.box.cell 0
    have x1 : w6.cell? ⟨S, 1, none⟩ = some (.slice A1 N1 cap1) := HS6.out.box.cell 1
    have y0 : w6.cell? ⟨S + 1, 0, none⟩ = some (.int .i64 a0) := HS6.out.key.cell 0
    have y1 : w6.cell? ⟨S + 1, 1, none⟩ = some (.int .i64 a1) := HS6.out.key.cell 1
    have y2 : w6.cell? ⟨S + 1, 2, none⟩ = some (.string a2) := HS6.out.key.cell 2
    have y3 : w6.cell? ⟨S + 1, 3, none⟩ = some (.slice a3 a4 a5) := HS6.out.key.cell 3
    have y4 : w6.cell? ⟨S + 1, 4, none⟩ = some (.slice a6 a7 a8) := HS6.out.key.cell 4
    cases z with
    | false =>
      go_wp2_with fail
      refine (same_is _ HO6.out HP6.out).mono ?_
      rintro e w7 ⟨rfl, hb⟩
      have HS7 := Lib.hid (HS6.out.below hb)
      have HO7 := Lib.hid (HO6.out.below hb (Nat.le_refl _))
      have HP7 := Lib.hid (HP6.out.below hb (Nat.le_refl _))
      clear hb
      clear x0 x1 y0 y1 y2 y3 y4
      go_wp2
      go_ret
      exact ⟨rfl, HS7.out.bel⟩
    | true =>
      obtain ⟨y, hy⟩ : ∃ y, keyB k = y := ⟨_, rfl⟩
      have HY := Lib.hid hy
      clear hy
      go_wp2_with fail
      refine (HS6.out.fine HY.out HNT.out).mono ?_
      rintro e w7 ⟨rfl, hb⟩
      have HS7 := Lib.hid (HS6.out.below hb)
      have HO7 := Lib.hid (HO6.out.below hb (Nat.le_refl _))
      have HP7 := Lib.hid (HP6.out.below hb (Nat.le_refl _))
      clear hb
      clear x0 x1 y0 y1 y2 y3 y4
      have x0 : w7.cell? ⟨S, 0, none⟩ = some (.int .i64 n) := HS7.out.box.cell 0
      have x1 : w7.cell? ⟨S, 1, none⟩ = some (.slice A1 N1 cap1) := HS7.out.box.cell 1
      have y0 : w7.cell? ⟨S + 1, 0, none⟩ = some (.int .i64 a0) := HS7.out.key.cell 0
      have y1 : w7.cell? ⟨S + 1, 1, none⟩ = some (.int .i64 a1) := HS7.out.key.cell 1
      have y2 : w7.cell? ⟨S + 1, 2, none⟩ = some (.string a2) := HS7.out.key.cell 2
      have y3 : w7.cell? ⟨S + 1, 3, none⟩ = some (.slice a3 a4 a5) := HS7.out.key.cell 3
      have y4 : w7.cell? ⟨S + 1, 4, none⟩ = some (.slice a6 a7 a8) := HS7.out.key.cell 4
      cases y with
      | false =>
        go_wp2_with fail
        refine (same_is _ HO7.out HP7.out).mono ?_
        rintro e w8 ⟨rfl, hb⟩
        have HS8 := Lib.hid (HS7.out.below hb)
        have HO8 := Lib.hid (HO7.out.below hb (Nat.le_refl _))
        have HP8 := Lib.hid (HP7.out.below hb (Nat.le_refl _))
        clear hb
        clear x0 x1 y0 y1 y2 y3 y4
        go_wp2
        go_ret
        exact ⟨rfl, HS8.out.bel⟩
      | true =>
        have HGP : Hid (plT L k L.length = G) := Lib.hid ((srT_yes HY.out HZ.out).symm.trans HG.out)
        have hN10 : N1 ≤ 10 := by rw [← HS2.out.mails.1]; exact (bOk_iff.1 HZ.out).2.2.2.2
        go_wp2
        clear x0 x1 y0 y1 y2 y3 y4
        go_loopw [7] (fun nv wr => ∃ f : Nat, (f = 1 ∨ f = 2 ∨ f = 4 ∨ f = 8 ∨ f = 16 ∨ f = 32) ∧ nv = .int .i64 (f : Int) ∧ Hid (Below w7.heap.size w7 wr)) (fun nv _ => 64 - (intOf nv).toNat)
        case atStart => exact ⟨1, .inl rfl, rfl, Below.refl _ _⟩
        case round =>
          obtain ⟨f, hf, rfl, HBo⟩ := hrel
          obtain ⟨w8, rfl⟩ : ∃ wo : World, wo = wr := ⟨_, rfl⟩
          have HS8 := Lib.hid (HS7.out.below HBo.out)
          have x0 : w8.cell? ⟨S, 0, none⟩ = some (.int .i64 n) := HS8.out.box.cell 0
          have x1 : w8.cell? ⟨S, 1, none⟩ = some (.slice A1 N1 cap1) := HS8.out.box.cell 1
          have y0 : w8.cell? ⟨S + 1, 0, none⟩ = some (.int .i64 a0) := HS8.out.key.cell 0
          have y1 : w8.cell? ⟨S + 1, 1, none⟩ = some (.int .i64 a1) := HS8.out.key.cell 1
          have y2 : w8.cell? ⟨S + 1, 2, none⟩ = some (.string a2) := HS8.out.key.cell 2
          have y3 : w8.cell? ⟨S + 1, 3, none⟩ = some (.slice a3 a4 a5) := HS8.out.key.cell 3
          have y4 : w8.cell? ⟨S + 1, 4, none⟩ = some (.slice a6 a7 a8) := HS8.out.key.cell 4
          by_cases hf16 : f = 32
          ·
            subst hf16
            go_wp2
            go_ret
            exact ⟨rfl, HS8.out.bel⟩
          ·
            have hle : (f : Int) ≤ 16 := by omega
            have hfl : flag1 (f : Int) = true := by rcases hf with rfl | rfl | rfl | rfl | rfl | rfl <;> first | rfl | exact absurd rfl hf16
            have HFL := Lib.hid hfl
            have HF := Lib.hid hf
            obtain ⟨f2, hf2⟩ : ∃ f2, 2 * f = f2 := ⟨_, rfl⟩
            have HF2 : Hid (f2 = 1 ∨ f2 = 2 ∨ f2 = 4 ∨ f2 = 8 ∨ f2 = 16 ∨ f2 = 32) := Lib.hid (by omega)
            have hfp : 1 ≤ f := by omega
            have E2 : (2 : Int) * (f : Int) = (f2 : Int) := by omega
            have W2 : IntKind.i64.wrap (2 * (f : Int)) = (f2 : Int) := (IntWalk.i64_in _ (by omega)).trans E2
            have hlt2 : f < f2 := by omega
            have hle2 : f2 ≤ 32 := by omega
            clear hfl hf hf2 hf16
            obtain ⟨GT, hGT⟩ : ∃ G, srT n L (.mk 1 (f : Int) ⟨#[]⟩ [] []) = G := ⟨_, rfl⟩
            have HGT := Lib.hid hGT
            have HGLT : Hid (GT.length ≤ 14) := Lib.hid (hGT ▸ srT_len n L _ HL14.out)
            clear hGT
            go_wp2_with fail
            refine (impl_search (r := (1, (f : Int), ⟨#[]⟩, (none, 0, 0), (none, 0, 0))) HGT.out w8 HS8.out.mails (kv_leaf 1 (f : Int) (by decide)) HS8.out.shp HS8.out.lst HS8.out.mx).mono ?_
            rintro e w9 ⟨AT, NT, capT, rfl, ho, hb⟩
            have HS9 := Lib.hid (HS8.out.below hb)
            have HBo9 := Lib.hid (HBo.out.trans (hb.mono HBo.out.size))
            have HT9 := Lib.hid (gives_in ho HGLT.out)
            clear hb ho
            clear x0 x1 y0 y1 y2 y3 y4
            have x0 : w9.cell? ⟨S, 0, none⟩ = some (.int .i64 n) := HS9.out.box.cell 0
            have x1 : w9.cell? ⟨S, 1, none⟩ = some (.slice A1 N1 cap1) := HS9.out.box.cell 1
            have y0 : w9.cell? ⟨S + 1, 0, none⟩ = some (.int .i64 a0) := HS9.out.key.cell 0
            have y1 : w9.cell? ⟨S + 1, 1, none⟩ = some (.int .i64 a1) := HS9.out.key.cell 1
            have y2 : w9.cell? ⟨S + 1, 2, none⟩ = some (.string a2) := HS9.out.key.cell 2
            have y3 : w9.cell? ⟨S + 1, 3, none⟩ = some (.slice a3 a4 a5) := HS9.out.key.cell 3
            have y4 : w9.cell? ⟨S + 1, 4, none⟩ = some (.slice a6 a7 a8) := HS9.out.key.cell 4
            have HPT : Hid (plT L (.mk 1 (f : Int) ⟨#[]⟩ [] []) L.length = GT) := Lib.hid ((srT_yes (key_flag HFL.out) HZ.out).symm.trans HGT.out)
            go_wp2
            clear x0 x1 y0 y1 y2 y3 y4
            go_loopw [9] (fun iv wr => ∃ i : Nat, i ≤ N1 ∧ iv = .int .i64 (i : Int) ∧ Hid (Below w9.heap.size w9 wr)) (fun iv _ => N1 - (intOf iv).toNat)
            case atStart => exact ⟨0, Nat.zero_le _, by go_num, Below.refl _ _⟩
            case round =>
              obtain ⟨i, hi, rfl, HBr⟩ := hrel
              have HSr := Lib.hid (HS9.out.below HBr.out)
              have HTr := Lib.hid (HT9.out.below HBr.out (Nat.le_refl _))
              have HBor := Lib.hid (HBo9.out.trans (HBr.out.mono HBo9.out.size))
              have x1 : wr.cell? ⟨S, 1, none⟩ = some (.slice A1 N1 cap1) := HSr.out.box.cell 1
              by_cases hlt : i < N1
              · have i0 : (0 : Int) ≤ (i : Int) := by omega
                have i5 : (i : Int) < (N1 : Int) := by omega
                obtain ⟨⟨u, fl, tx⟩, hx⟩ : ∃ x, L[i]? = some x := ⟨_, List.getElem?_eq_getElem (by rw [HSr.out.mails.1]; exact hlt)⟩
                obtain ⟨b, o, rfl, hbz, c0, c1, c2⟩ := mail_at HSr.out.mails.2.2.1 hx
                obtain ⟨z, hz⟩ : ∃ z, hvI fl (f : Int) = z := ⟨_, rfl⟩
                have HVZ := Lib.hid hz
                have HH : Hid (hasI GT ((i : Int) + 1) = z) := Lib.hid (by
                  rw [← HPT.out]
                  exact pl_has hx ((find_is (t := ⟨#[]⟩) (f := (f : Int)) (S := []) (ks := [])).2.1.trans hz))
                have W1 : IntKind.i64.wrap ((i : Int) + 1) = (i : Int) + 1 := IntWalk.i64_in _ (by omega)
                have hzz := bool_same z
                have l0 : ∀ x : Later wr.heap.size wr, x.v.cell? ⟨S, 1, none⟩ = some (.slice (some ⟨b, o, none⟩) N1 cap1) := fun x => x.cell HSr.out.box.lt x1
                have l1 : ∀ x : Later wr.heap.size wr, x.v.cell? ⟨b, o + i * 3 + 1, none⟩ = some (.int .i64 fl) := fun x => x.cell hbz c1
                clear hx hz
                go_wp2
                refine wp_region_later wr.heap.size wr (by kernel_rfl) (by kernel_rfl) ?_
                repeat (go_big_quiet_step (first
                  | (go_at_call 33; refine (hasint_later HH.out HTr.out (Nat.le_refl _) _).mono ?_; rintro e w2 ⟨rfl, hb2⟩; exact ⟨rfl, Later.call _ hb2 (Nat.le_refl _)⟩)
                  | (go_at_call 35; refine (have_at HVZ.out _).mono ?_; rintro e w2 ⟨rfl, j, rfl⟩; exact ⟨rfl, ⟨⟨_, below_drewN' (Later.h _) j⟩, rfl⟩⟩)))
                refine wpQuiet_nil ?_
                intro _ hw'
                obtain ⟨⟨w9, hb9⟩, rfl⟩ := hw'
                have HB9 := Lib.hid (HBr.out.trans (hb9.mono HBr.out.size))
                clear hb9
                go_wp2
                go_roundw
                case rel => exact ⟨i + 1, by omega, by go_num, HB9⟩
                case measure => simp [intOf]; omega
              · have i5 : ¬ (i : Int) < (N1 : Int) := by omega
                go_wp2
                go_roundw
                case rel => exact ⟨f2, HF2.out, rfl, HBor⟩
                case measure => simp [intOf]; omega
  · have hl' : (1048576 : Int) < (len : Int) := by omega
    go_enter Tryd.func13, Tryd.ntmps13
    go_wp2
    go_ret
    exact ⟨rfl, Below.refl _ _⟩
end Go.Proofs.YtpihibconbejlaaDoor
