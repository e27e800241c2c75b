/-
  The walks of the laws FnCopy. Condition: the code can be read.
-/
import Derived.Test.YtiidlkbfjhgbaaaLu
import Derived.BigQuiet
import Derived.Deep.RegionHeld3
import Derived.Outline
namespace Go.Proofs.Ytiidlkbfjhgbaaa
open Go.RowKit
set_option linter.unusedVariables false

theorem copy_get {L : List ML} {P : List Int} {k : Nat} (hp : plc L.length 0 P = true) (hk : k < P.length) : ∃ (g0 : Nat) (x : ML), P[k]? = some ((g0 + 1 : Nat) : Int) ∧ g0 < L.length ∧ L[g0]? = some x ∧ (atM L P)[k]? = some x := by
  obtain ⟨h1, _⟩ := plc_iff.1 hp
  have hm : P[k] ∈ P := List.getElem_mem hk
  obtain ⟨h2, h3⟩ := h1 _ hm
  obtain ⟨g0, hg⟩ : ∃ g0 : Nat, P[k] = ((g0 + 1 : Nat) : Int) := ⟨(P[k] - 1).toNat, by omega⟩
  have hgl : g0 < L.length := by omega
  refine ⟨g0, L[g0], by rw [List.getElem?_eq_getElem hk, hg], hgl, List.getElem?_eq_getElem hgl, ?_⟩
  unfold atM
  rw [List.getElem?_map, List.getElem?_eq_getElem hk, hg]
  show some (L.getD (((g0 + 1 : Nat) : Int).toNat - 1) (0, 0, [])) = _
  rw [show ((g0 + 1 : Nat) : Int).toNat - 1 = g0 by omega, List.getD_eq_getElem?_getD, List.getElem?_eq_getElem hgl]
  rfl
theorem copy_out {L M L2 : List ML} {P : List Int} {m : Int} {k : Nat} {u f : Int} {t : List UInt8} (he : L2 = M ++ nbM m (atM L P)) (hx : (atM L P)[k]? = some (u, f, t)) : L2[M.length + k]? = some (m + (k : Int), f, t) := by
  rw [he, List.getElem?_append_right (Nat.le_add_right _ _), Nat.add_sub_cancel_left, nbM_get m k _ _ hx]

set_option maxRecDepth 20000 in
set_option maxHeartbeats 3000000 in
theorem law_FnCopy (A : Option Addr) (len cap : Nat) (w : World) (h : Coded w A len cap) : Calls Try.prog 17 #[.slice A len cap] w (Holds1 w) := by
  have HC := Lib.hid h
  clear h
  by_cases hl : len ≤ 1048576
  · have hl' : (len : Int) ≤ 1048576 := by omega
    go_enter Try.func17, Try.ntmps17
    go_wp2_with fail
    refine (draw_bcopy A len cap _ HC.out).mono ?_
    rintro e w1 ⟨n, A1, N1, cap1, L, AP, NP, capP, P, m, A9, N9, cap9, M, rfl, hN1, hNP, hN9, hn1, hn2, hm1, hm2, hown, hownI, hownM, hb⟩
    obtain ⟨⟨n2, L2, ok⟩, hr⟩ : ∃ r, bxCp n L P m M = r := ⟨_, rfl⟩
    have hL2 : L2.length ≤ 29 := by have h1 := bxCp_len hr; have h2 := hownM.len.1; have h3 := hownI.len.1; omega
    have HR := Lib.hid hr
    have HNL := Lib.hid hown.len.1
    have HNP := Lib.hid hownI.len.1
    have HNM := Lib.hid hownM.len.1
    clear hr
    obtain ⟨D1, hD1⟩ : ∃ D, w1.heap.size = D := ⟨_, rfl⟩
    have K1 := Lib.hid ((((((((kp_start w).move hb).and (MIn.of hown (by omega)).keep).and (IIn.of hownI (by omega)).keep).and (MIn.of hownM (by omega)).keep).alloc (.cells #[.int .i64 n, .slice A1 N1 cap1] 25)).alloc (.cells #[.int .i64 m, .slice A9 N9 cap9] 25)).and (kp_two w1 25 25 #[.int .i64 n, .slice A1 N1 cap1] #[.int .i64 m, .slice A9 N9 cap9] hD1))
    clear hb hown hownI hownM
    have zt0 := K1.out.here.2.2.1.cell 0
    simp at zt0
    have zt1 := K1.out.here.2.2.1.cell 1
    simp at zt1
    have zu0 := K1.out.here.2.2.2.1.cell 0
    simp at zu0
    have zu1 := K1.out.here.2.2.2.1.cell 1
    simp at zu1
    go_wp2_with fail
    refine (impl_copy_at HR.out A1 N1 cap1 AP NP capP A9 N9 cap9 _ K1.out.here.1.1.1.2 K1.out.here.1.1.2 K1.out.here.1.2).mono ?_
    rintro e w2 ⟨A2, N2, cap2, rfl, hown, hb⟩
    have hN2 : N2 ≤ 29 := by have := hown.len.1; omega
    have HNL2 := Lib.hid hown.len.1
    have HCAP2 := Lib.hid hown.len.2.1
    obtain ⟨D2, hD2⟩ : ∃ D, w2.heap.size = D := ⟨_, rfl⟩
    have K2 := Lib.hid ((((K1.out.move hb).and (MIn.of hown (by omega)).keep).alloc (.cells #[.int .i64 n2, .slice A2 N2 cap2] 25)).and (kp_one w2 25 #[.int .i64 n2, .slice A2 N2 cap2] hD2))
    clear hb hown
    clear zt0 zt1 zu0 zu1
    have zD20 := K2.out.here.2.2.1.cell 0
    have zD21 := K2.out.here.2.2.1.cell 1
    simp at zD20 zD21
    have zt0 := K2.out.here.1.1.2.2.1.cell 0
    simp at zt0
    have zt1 := K2.out.here.1.1.2.2.1.cell 1
    simp at zt1
    have zu0 := K2.out.here.1.1.2.2.2.1.cell 0
    simp at zu0
    have zu1 := K2.out.here.1.1.2.2.2.1.cell 1
    simp at zu1
    go_wp2_with fail
    refine (spec_copy_at HR.out A1 N1 cap1 AP NP capP A9 N9 cap9 _ K2.out.here.1.1.1.1.1.2 K2.out.here.1.1.1.1.2 K2.out.here.1.1.1.2).mono ?_
    rintro e w3 ⟨A3, N3, cap3, rfl, hown, hb⟩
    have hN3 : N3 ≤ 29 := by have := hown.len.1; omega
    obtain ⟨D3, hD3⟩ : ∃ D, w3.heap.size = D := ⟨_, rfl⟩
    have K3 := Lib.hid ((((K2.out.move hb).and (MIn.of hown (by omega)).keep).alloc (.cells #[.int .i64 n2, .slice A3 N3 cap3] 25)).and (kp_one w3 25 #[.int .i64 n2, .slice A3 N3 cap3] hD3))
    clear hb hown
    clear zD20 zD21 zt0 zt1 zu0 zu1
    have zD20 := K3.out.here.1.1.2.2.1.cell 0
    have zD21 := K3.out.here.1.1.2.2.1.cell 1
    have zD30 := K3.out.here.2.2.1.cell 0
    have zD31 := K3.out.here.2.2.1.cell 1
    simp at zD20 zD21 zD30 zD31
    have zt0 := K3.out.here.1.1.1.1.2.2.1.cell 0
    simp at zt0
    have zt1 := K3.out.here.1.1.1.1.2.2.1.cell 1
    simp at zt1
    have zu0 := K3.out.here.1.1.1.1.2.2.2.1.cell 0
    simp at zu0
    have zu1 := K3.out.here.1.1.1.1.2.2.2.1.cell 1
    simp at zu1
    cases ok with
    | false =>
      go_wp2_with fail
      refine (same_box_at (o := true) n2 n2 _ K3.out.here.1.1.1.2 K3.out.here.1.2 (by simp)).mono ?_
      rintro e w4 ⟨rfl, hb⟩
      have K4 := Lib.hid (K3.out.move hb)
      clear hb
      clear zD20 zD21 zD30 zD31 zt0 zt1 zu0 zu1
      have zD20 := K4.out.here.1.1.2.2.1.cell 0
      have zD21 := K4.out.here.1.1.2.2.1.cell 1
      have zD30 := K4.out.here.2.2.1.cell 0
      have zD31 := K4.out.here.2.2.1.cell 1
      simp at zD20 zD21 zD30 zD31
      have zt0 := K4.out.here.1.1.1.1.2.2.1.cell 0
      simp at zt0
      have zt1 := K4.out.here.1.1.1.1.2.2.1.cell 1
      simp at zt1
      have zu0 := K4.out.here.1.1.1.1.2.2.2.1.cell 0
      simp at zu0
      have zu1 := K4.out.here.1.1.1.1.2.2.2.1.cell 1
      simp at zu1
      go_wp2_with fail
      refine (same_box_at (o := true) n2 n2 _ K4.out.here.1.1.1.2 K4.out.here.1.2 (by simp)).mono ?_
      rintro e w5 ⟨rfl, hb⟩
      have K5 := Lib.hid (K4.out.move hb)
      clear hb
      clear zD20 zD21 zD30 zD31 zt0 zt1 zu0 zu1
      have zD20 := K5.out.here.1.1.2.2.1.cell 0
      have zD21 := K5.out.here.1.1.2.2.1.cell 1
      have zD30 := K5.out.here.2.2.1.cell 0
      have zD31 := K5.out.here.2.2.1.cell 1
      simp at zD20 zD21 zD30 zD31
      have zt0 := K5.out.here.1.1.1.1.2.2.1.cell 0
      simp at zt0
      have zt1 := K5.out.here.1.1.1.1.2.2.1.cell 1
      simp at zt1
      have zu0 := K5.out.here.1.1.1.1.2.2.2.1.cell 0
      simp at zu0
      have zu1 := K5.out.here.1.1.1.1.2.2.2.1.cell 1
      simp at zu1
      go_wp2
      go_ret
      exact ⟨rfl, K5.out.here.1.1.1.1.1.1.1.1⟩
    | true =>
      go_wp2_with fail
      refine (same_box_at (o := true) n2 n2 _ K3.out.here.1.1.1.2 K3.out.here.1.2 (by simp)).mono ?_
      rintro e w4 ⟨rfl, hb⟩
      have K4 := Lib.hid (K3.out.move hb)
      clear hb
      clear zD20 zD21 zD30 zD31 zt0 zt1 zu0 zu1
      have zD20 := K4.out.here.1.1.2.2.1.cell 0
      have zD21 := K4.out.here.1.1.2.2.1.cell 1
      have zD30 := K4.out.here.2.2.1.cell 0
      have zD31 := K4.out.here.2.2.1.cell 1
      simp at zD20 zD21 zD30 zD31
      have zt0 := K4.out.here.1.1.1.1.2.2.1.cell 0
      simp at zt0
      have zt1 := K4.out.here.1.1.1.1.2.2.1.cell 1
      simp at zt1
      have zu0 := K4.out.here.1.1.1.1.2.2.2.1.cell 0
      simp at zu0
      have zu1 := K4.out.here.1.1.1.1.2.2.2.1.cell 1
      simp at zu1
      obtain ⟨hb1, hb2, hb3, hb4, hb5⟩ := bxCp_out HR.out
      have HPL := Lib.hid hb3
      have HE2 := Lib.hid hb5
      have hn2e : n2 = m + (NP : Int) := by rw [hb4, HNP.out]
      have HN2E := Lib.hid hn2e
      have hN2s : N9 + NP = N2 := by rw [HNL2.out, hb5, List.length_append, nbM_len, atM_len, HNM.out, HNP.out]
      have hTK : L2.take N9 = M := by rw [hb5, HNM.out]; exact List.take_left
      have HTK := Lib.hid hTK
      have hle9 : N9 ≤ N2 := by omega
      have hcap2 := HCAP2.out
      have E1 : (N9 : Int) + (NP : Int) = (N2 : Int) := by omega
      have W1 : IntKind.i64.wrap ((N9 : Int) + (NP : Int)) = (N2 : Int) := (IntWalk.i64_in _ (by omega)).trans E1
      have W4 : IntKind.i64.wrap (N2 : Int) = (N2 : Int) := IntWalk.i64_in _ (by omega)
      have i0 : (0 : Int) ≤ (N9 : Int) := by omega
      have i1 : (N9 : Int) ≤ (N2 : Int) := by omega
      have i2 : (N9 : Int) ≤ (cap2 : Int) := by omega
      have q1 : ((N2 : Int) != (N2 : Int)) = false := by simp
      have HS := Lib.hid hN2s
      clear hb1 hb2 hb3 hb4 hb5 hn2e hTK hN2s
      go_wp2
      have K5 := Lib.hid K4.out.drew
      go_region_held3 (fun w' => w'.cell? ⟨D1 + 1, 1, none⟩ = some (.slice A9 N9 cap9) ∧ w'.cell? ⟨D2, 1, none⟩ = some (.slice A2 N2 cap2)) (first | exact ⟨K9.out.here.1.1.1.1.2.2.2.1.cell 1, K9.out.here.1.1.2.2.1.cell 1⟩ | exact ⟨K5.out.here.1.1.1.1.2.2.2.1.cell 1, K5.out.here.1.1.2.2.1.cell 1⟩ | go_keep) (first | (go_at_call 36; refine (same_mail_at (o := true) w4.drew (K5.out.here.1.1.1.2.take hle9) K5.out.here.1.1.1.1.1.2 (decide_eq_true HTK.out)).mono ?_; rintro e w5 ⟨rfl, hb⟩; have K9 := Lib.hid (K5.out.move hb); clear hb))
      all_goals
        clear q1 W1 W4 i0 i1 i2 E1 hcap2 hle9
        have hHS := HS.out
        obtain ⟨S, hS⟩ : ∃ S, w5.heap.size = S := ⟨_, rfl⟩
        have HBS := Lib.hid (Below.refl S w5)
        have hzS : S ≤ w5.heap.size := by omega
        clear hHS
        go_wp2
        clear zD20 zD21 zD30 zD31 zt0 zt1 zu0 zu1
        go_loopw [11] (fun i wr => ∃ k : Nat, k ≤ NP ∧ i = .int .i64 (k : Int) ∧ S ≤ wr.heap.size ∧ Hid (Below S w5 wr)) (fun i _ => NP - (intOf i).toNat)
        case atStart => exact ⟨0, Nat.zero_le _, by go_num, hzS, HBS⟩
        case round =>
          obtain ⟨k, hk, rfl, hzr, HB⟩ := hrel
          have K61 := Lib.hid (K9.out.move (hS ▸ HB.out))
          have zD20 := K61.out.here.1.1.2.2.1.cell 0
          have zD21 := K61.out.here.1.1.2.2.1.cell 1
          have zD30 := K61.out.here.2.2.1.cell 0
          have zD31 := K61.out.here.2.2.1.cell 1
          simp at zD20 zD21 zD30 zD31
          have zt0 := K61.out.here.1.1.1.1.2.2.1.cell 0
          simp at zt0
          have zt1 := K61.out.here.1.1.1.1.2.2.1.cell 1
          simp at zt1
          have zu0 := K61.out.here.1.1.1.1.2.2.2.1.cell 0
          simp at zu0
          have zu1 := K61.out.here.1.1.1.1.2.2.2.1.cell 1
          simp at zu1
          by_cases hlt : k < NP
          · have h0 : (0 : Int) ≤ (k : Int) := by omega
            have h5 : (k : Int) < (NP : Int) := by omega
            obtain ⟨g0, ⟨u, f, t⟩, hp, hg0, hx, hax⟩ := copy_get HPL.out (by rw [← HNP.out]; exact hlt)
            obtain ⟨p1, hp1⟩ : ∃ q, g0 + 1 = q := ⟨_, rfl⟩
            rw [hp1] at hp
            have hg1 : g0 < N1 := by rw [HNL.out]; exact hg0
            have E2 : (p1 : Int) - 1 = (g0 : Int) := by omega
            have W2 : IntKind.i64.wrap ((p1 : Int) - 1) = (g0 : Int) := (IntWalk.i64_in _ (by omega)).trans E2
            have W3 : IntKind.i64.wrap (g0 : Int) = (g0 : Int) := IntWalk.i64_in _ (by omega)
            have j0 : (0 : Int) ≤ (g0 : Int) := by omega
            have j1 : (g0 : Int) < (N1 : Int) := by omega
            obtain ⟨bP, oP, hAP, hbP, c0⟩ := int_at K61.out.here.1.1.1.1.1.1.2.2.2.1 hp
            obtain ⟨b, o, hAe, hbb, d0, d1, d2⟩ := mail_at K61.out.here.1.1.1.1.1.1.1.2.2.2.1 hx
            obtain ⟨vt, hvt⟩ : ∃ v, sB t = v := ⟨_, rfl⟩
            rw [hvt] at d2
            have HVT := Lib.hid hvt
            have hco := copy_out HE2.out hax
            rw [← HNM.out] at hco
            obtain ⟨y, hy⟩ : ∃ y, m + (k : Int) = y := ⟨_, rfl⟩
            obtain ⟨g2, hg2⟩ : ∃ q, N9 + k = q := ⟨_, rfl⟩
            rw [hy, hg2] at hco
            have HCO := Lib.hid hco
            have hg2N : g2 < N2 := by rw [HNL2.out]; exact (List.getElem?_eq_some_iff.1 hco).1
            clear hp hx hax hvt hco hp1 hg0
            subst hAP
            subst hAe
            have HC0 := Lib.hid c0
            have HD0 := Lib.hid d0
            have HD1 := Lib.hid d1
            have HD2 := Lib.hid d2
            obtain ⟨E, hE⟩ : ∃ E, wr.heap.size = E := ⟨_, rfl⟩
            have hSE : S ≤ E := by omega
            have hbP' : bP < wr.drew.heap.size := hbP
            have hbb' : b < wr.drew.heap.size := hbb
            have HBD : Hid (Below S w5 wr.drew) := ⟨HB.out.os, HB.out.tape, HB.out.output, HB.out.size, HB.out.block⟩
            go_wp2
            have KD := Lib.hid K61.out.drew
            have KZ := Lib.hid (KD.out.alloc (.cells #[.int .i64 0, .int .i64 0, .string ⟨#[]⟩] 32))
            have KM := Lib.hid (KD.out.alloc (.cells #[.int .i64 u, .int .i64 f, .string vt] 32))
            have BZ := Lib.hid (below_new wr.drew (.cells #[.int .i64 0, .int .i64 0, .string ⟨#[]⟩] 32))
            have BM := Lib.hid (below_new wr.drew (.cells #[.int .i64 u, .int .i64 f, .string vt] 32))
            have HHP := Lib.hid hbP'
            have HHB := Lib.hid hbb'
            clear c0 d0 d1 d2 hbP' hbb' hbP hbb
            go_region_held3 (fun w' => w'.cell? ⟨D1, 1, none⟩ = some (.slice (some ⟨b, o, none⟩) N1 cap1) ∧ w'.cell? ⟨bP, oP + k, none⟩ = some (.int .i64 (p1 : Int)) ∧ w'.cell? ⟨b, o + g0 * 3, none⟩ = some (.int .i64 u) ∧ w'.cell? ⟨b, o + g0 * 3 + 1, none⟩ = some (.int .i64 f) ∧ w'.cell? ⟨b, o + g0 * 3 + 2, none⟩ = some (.string vt)) (first | exact ⟨KD.out.here.1.1.1.1.2.2.1.cell 1, HC0.out, HD0.out, HD1.out, HD2.out⟩ | exact ⟨KZ.out.here.1.1.1.1.2.2.1.cell 1, (BZ.out.cell HHP.out).trans HC0.out, (BZ.out.cell HHB.out).trans HD0.out, (BZ.out.cell HHB.out).trans HD1.out, (BZ.out.cell HHB.out).trans HD2.out⟩ | exact ⟨KM.out.here.1.1.1.1.2.2.1.cell 1, (BM.out.cell HHP.out).trans HC0.out, (BM.out.cell HHB.out).trans HD0.out, (BM.out.cell HHB.out).trans HD1.out, (BM.out.cell HHB.out).trans HD2.out⟩) (fail)
            all_goals
              have HB2 : Hid (Below S w5 (wr.alloc (.cells #[.int .i64 u, .int .i64 f, .string vt] 32)).drew) := by
                have h := HB.out.alloc hzr (.cells #[.int .i64 u, .int .i64 f, .string vt] 32)
                exact ⟨h.os, h.tape, h.output, h.size, h.block⟩
              have HWM : Hid (Whole (wr.alloc (.cells #[.int .i64 u, .int .i64 f, .string vt] 32)).drew E 32 #[.int .i64 u, .int .i64 f, .string vt]) := hE ▸ (Whole.made wr 32 #[.int .i64 u, .int .i64 f, .string vt]).drew
              have hzm : E + 1 ≤ (wr.alloc (.cells #[.int .i64 u, .int .i64 f, .string vt] 32)).drew.heap.size := by show E + 1 ≤ (wr.alloc (.cells #[.int .i64 u, .int .i64 f, .string vt] 32)).heap.size; simp [hE]
              clear KD KZ KM BZ BM HC0 HD0 HD1 HD2 HBD HHP HHB
              obtain ⟨wm, hwm⟩ : ∃ wm, (wr.alloc (.cells #[.int .i64 u, .int .i64 f, .string vt] 32)).drew = wm := ⟨_, rfl⟩
              rw [hwm] at HB2 HWM hzm ⊢
              clear hwm
              clear zD20 zD21 zD30 zD31 zt0 zt1 zu0 zu1
              have K71 := Lib.hid (K9.out.move (hS ▸ HB2.out))
              have zD20 := K71.out.here.1.1.2.2.1.cell 0
              have zD21 := K71.out.here.1.1.2.2.1.cell 1
              have zD30 := K71.out.here.2.2.1.cell 0
              have zD31 := K71.out.here.2.2.1.cell 1
              simp at zD20 zD21 zD30 zD31
              have zt0 := K71.out.here.1.1.1.1.2.2.1.cell 0
              simp at zt0
              have zt1 := K71.out.here.1.1.1.1.2.2.1.cell 1
              simp at zt1
              have zu0 := K71.out.here.1.1.1.1.2.2.2.1.cell 0
              simp at zu0
              have zu1 := K71.out.here.1.1.1.1.2.2.2.1.cell 1
              simp at zu1
              have m0 := HWM.out.cell 0
              have m1 := HWM.out.cell 1
              have m2 := HWM.out.cell 2
              simp at m0 m1 m2
              have mf := HWM.out.free 0
              have W5 : IntKind.i64.wrap (m + (k : Int)) = y := (IntWalk.i64_in _ (by omega)).trans hy
              have W6 : IntKind.i64.wrap y = y := IntWalk.i64_in _ (by omega)
              have HB3 := Lib.hid (HB2.out.setCell (p := ⟨E, 0, none⟩) hSE (.int .i64 y))
              have HWG := Lib.hid (HWM.out.store 0 (.int .i64 y))
              have hz3 : E + 1 ≤ (wm.setCell ⟨E, 0, none⟩ (.int .i64 y)).heap.size := by simpa using hzm
              go_wp2
              obtain ⟨wz, hwz⟩ : ∃ wz, wm.setCell ⟨E, 0, none⟩ (.int .i64 y) = wz := ⟨_, rfl⟩
              rw [hwz] at HB3 HWG hz3 ⊢
              clear hwz mf m0 m1 m2 W5 W6
              have m0 := HWG.out.cell 0
              have m1 := HWG.out.cell 1
              have m2 := HWG.out.cell 2
              simp at m0 m1 m2
              have K72 := Lib.hid (K9.out.move (hS ▸ HB3.out))
              clear zD20 zD21 zD30 zD31 zt0 zt1 zu0 zu1
              have zD20 := K72.out.here.1.1.2.2.1.cell 0
              have zD21 := K72.out.here.1.1.2.2.1.cell 1
              have zD30 := K72.out.here.2.2.1.cell 0
              have zD31 := K72.out.here.2.2.1.cell 1
              simp at zD20 zD21 zD30 zD31
              have zt0 := K72.out.here.1.1.1.1.2.2.1.cell 0
              simp at zt0
              have zt1 := K72.out.here.1.1.1.1.2.2.1.cell 1
              simp at zt1
              have zu0 := K72.out.here.1.1.1.1.2.2.2.1.cell 0
              simp at zu0
              have zu1 := K72.out.here.1.1.1.1.2.2.2.1.cell 1
              simp at zu1
              obtain ⟨b', o', hA2, hbb2, d0, d1, d2⟩ := mail_at K72.out.here.1.1.1.2.2.2.1 HCO.out
              rw [HVT.out] at d2
              subst hA2
              have E5 : (N9 : Int) + (k : Int) = (g2 : Int) := by omega
              have W5 : IntKind.i64.wrap ((N9 : Int) + (k : Int)) = (g2 : Int) := (IntWalk.i64_in _ (by omega)).trans E5
              have W6 : IntKind.i64.wrap (g2 : Int) = (g2 : Int) := IntWalk.i64_in _ (by omega)
              have g20 : (0 : Int) ≤ (g2 : Int) := by omega
              have g21 : (g2 : Int) < (N2 : Int) := by omega
              clear hg2 hy
              go_quiet (fail)
              go_wp2
              go_roundw
              case rel => exact ⟨k + 1, by omega, by go_num, (by show S ≤ wz.heap.size; omega), Lib.hid (below_drewN' HB3.out _)⟩
              case measure => simp [intOf]; omega
          · have h5 : ¬ (k : Int) < (NP : Int) := by omega
            have E1 : m + (NP : Int) = n2 := HN2E.out.symm
            have W1 : IntKind.i64.wrap (m + (NP : Int)) = n2 := (IntWalk.i64_in _ (by omega)).trans E1
            have W4 : IntKind.i64.wrap n2 = n2 := IntWalk.i64_in _ (by omega)
            have q1 : (n2 == n2) = true := by simp
            go_wp2
            go_ret
            exact ⟨rfl, K61.out.here.1.1.1.1.1.1.1.1⟩
  · have hl' : (1048576 : Int) < (len : Int) := by omega
    go_enter Try.func17, Try.ntmps17
    go_wp2
    go_ret
    exact ⟨rfl, Below.refl _ _⟩
end Go.Proofs.Ytiidlkbfjhgbaaa
