/-
  The walks of the laws FnExpunge. Condition: the code can be read.
-/
import Derived.Test.YtiidlkbfjhgbaaaLu
import Derived.Outline
namespace Go.Proofs.Ytiidlkbfjhgbaaa
open Go.RowKit
set_option linter.unusedVariables false

set_option maxRecDepth 20000 in
set_option maxHeartbeats 16000000 in
theorem law_FnExpunge (A : Option Addr) (len cap : Nat) (w : World) (h : Coded w A len cap) : Calls Try.prog 12 #[.slice A len cap] w (Holds1 w) := by
  have HC := Lib.hid h
  clear h
  by_cases hl : len ≤ 1048576
  · have hl' : (len : Int) ≤ 1048576 := by omega
    go_enter Try.func12, Try.ntmps12
    go_wp2_with fail
    refine (draw_bexpunge A len cap _ HC.out).mono ?_
    rintro e w1 ⟨n, A1, N1, cap1, L, rfl, hN1, hn1, hn2, hown, hb⟩
    obtain ⟨⟨n2, L2, G⟩, hr⟩ : ∃ r, bxEI n L = r := ⟨_, rfl⟩
    have hL2 : L2.length ≤ 14 ∧ G.length ≤ 14 := by have h1 := bxEI_len hr; have h2 := hown.len.1; omega
    have HR := Lib.hid hr
    have HNL := Lib.hid hown.len.1
    clear hr
    obtain ⟨D1, hD1⟩ : ∃ D, w1.heap.size = D := ⟨_, rfl⟩
    have K1 := Lib.hid (((((kp_start w).move hb).and (MIn.of hown (by omega)).keep).alloc (.cells #[.int .i64 n, .slice A1 N1 cap1] 25)).and (kp_one w1 25 #[.int .i64 n, .slice A1 N1 cap1] hD1))
    clear hb hown
    have zD10 := K1.out.here.2.2.1.cell 0
    have zD11 := K1.out.here.2.2.1.cell 1
    simp at zD10 zD11
    go_wp2_with fail
    refine (impl_expunge_at HR.out A1 N1 cap1 _ K1.out.here.1.2).mono ?_
    rintro e w2 ⟨A2, N2, cap2, AG, NG, capG, rfl, hown, hownI, hb⟩
    have hN2 : N2 ≤ 14 := by have := hown.len.1; omega
    have hNG : NG ≤ 14 := by have := hownI.len.1; omega
    have HNL2 := Lib.hid hown.len.1
    have HNG := Lib.hid hownI.len.1
    obtain ⟨D2, hD2⟩ : ∃ D, w2.heap.size = D := ⟨_, rfl⟩
    have K2 := Lib.hid (((((K1.out.move hb).and (MIn.of hown (by omega)).keep).and (IIn.of hownI (by omega)).keep).alloc (.cells #[.int .i64 n2, .slice A2 N2 cap2] 25)).and (kp_one w2 25 #[.int .i64 n2, .slice A2 N2 cap2] hD2))
    clear hb hown hownI
    clear zD10 zD11
    have zD10 := K2.out.here.1.1.1.2.2.1.cell 0
    have zD11 := K2.out.here.1.1.1.2.2.1.cell 1
    have zD20 := K2.out.here.2.2.1.cell 0
    have zD21 := K2.out.here.2.2.1.cell 1
    simp at zD10 zD11 zD20 zD21
    go_wp2_with fail
    refine (spec_expunge_at HR.out A1 N1 cap1 _ K2.out.here.1.1.1.1.2).mono ?_
    rintro e w3 ⟨A3, N3, cap3, AH, NH, capH, rfl, hown, hownI, hb⟩
    have hN3 : N3 ≤ 14 := by have := hown.len.1; omega
    have hNH : NH ≤ 14 := by have := hownI.len.1; omega
    obtain ⟨D3, hD3⟩ : ∃ D, w3.heap.size = D := ⟨_, rfl⟩
    have K3 := Lib.hid (((((K2.out.move hb).and (MIn.of hown (by omega)).keep).and (IIn.of hownI (by omega)).keep).alloc (.cells #[.int .i64 n2, .slice A3 N3 cap3] 25)).and (kp_one w3 25 #[.int .i64 n2, .slice A3 N3 cap3] hD3))
    clear hb hown hownI
    clear zD10 zD11 zD20 zD21
    have zD10 := K3.out.here.1.1.1.1.1.1.2.2.1.cell 0
    have zD11 := K3.out.here.1.1.1.1.1.1.2.2.1.cell 1
    have zD20 := K3.out.here.1.1.1.2.2.1.cell 0
    have zD21 := K3.out.here.1.1.1.2.2.1.cell 1
    have zD30 := K3.out.here.2.2.1.cell 0
    have zD31 := K3.out.here.2.2.1.cell 1
    simp at zD10 zD11 zD20 zD21 zD30 zD31
    go_wp2_with fail
    refine (same_box_at (o := true) n2 n2 _ K3.out.here.1.1.1.1.1.2 K3.out.here.1.1.2 (by simp)).mono ?_
    rintro e w4 ⟨rfl, hb⟩
    have K4 := Lib.hid (K3.out.move hb)
    clear hb
    clear zD10 zD11 zD20 zD21 zD30 zD31
    have zD10 := K4.out.here.1.1.1.1.1.1.2.2.1.cell 0
    have zD11 := K4.out.here.1.1.1.1.1.1.2.2.1.cell 1
    have zD20 := K4.out.here.1.1.1.2.2.1.cell 0
    have zD21 := K4.out.here.1.1.1.2.2.1.cell 1
    have zD30 := K4.out.here.2.2.1.cell 0
    have zD31 := K4.out.here.2.2.1.cell 1
    simp at zD10 zD11 zD20 zD21 zD30 zD31
    go_wp2_with fail
    refine (same_nums_at (o := true) _ K4.out.here.1.1.1.1.2 K4.out.here.1.2 (by simp)).mono ?_
    rintro e w5 ⟨rfl, hb⟩
    have K5 := Lib.hid (K4.out.move hb)
    clear hb
    clear zD10 zD11 zD20 zD21 zD30 zD31
    have zD10 := K5.out.here.1.1.1.1.1.1.2.2.1.cell 0
    have zD11 := K5.out.here.1.1.1.1.1.1.2.2.1.cell 1
    have zD20 := K5.out.here.1.1.1.2.2.1.cell 0
    have zD21 := K5.out.here.1.1.1.2.2.1.cell 1
    have zD30 := K5.out.here.2.2.1.cell 0
    have zD31 := K5.out.here.2.2.1.cell 1
    simp at zD10 zD11 zD20 zD21 zD30 zD31
    obtain ⟨bv, hbv⟩ : ∃ b, bOk n L = b := ⟨_, rfl⟩
    go_wp2_with fail
    refine (boxvalid_at hbv A1 N1 cap1 _ K5.out.here.1.1.1.1.1.1.1.2).mono ?_
    rintro e w6 ⟨rfl, hb⟩
    have K6 := Lib.hid (K5.out.move hb)
    clear hb
    clear zD10 zD11 zD20 zD21 zD30 zD31
    have zD10 := K6.out.here.1.1.1.1.1.1.2.2.1.cell 0
    have zD11 := K6.out.here.1.1.1.1.1.1.2.2.1.cell 1
    have zD20 := K6.out.here.1.1.1.2.2.1.cell 0
    have zD21 := K6.out.here.1.1.1.2.2.1.cell 1
    have zD30 := K6.out.here.2.2.1.cell 0
    have zD31 := K6.out.here.2.2.1.cell 1
    simp at zD10 zD11 zD20 zD21 zD30 zD31
    have HBV := Lib.hid hbv
    clear hbv
    cases bv with
    | false =>
      go_wp2_with fail
      refine (same_box_at (o := true) n2 n2 _ K6.out.here.1.1.1.1.1.2 K6.out.here.1.1.2 (by simp)).mono ?_
      rintro e w7 ⟨rfl, hb⟩
      have K7 := Lib.hid (K6.out.move hb)
      clear hb
      clear zD10 zD11 zD20 zD21 zD30 zD31
      have zD10 := K7.out.here.1.1.1.1.1.1.2.2.1.cell 0
      have zD11 := K7.out.here.1.1.1.1.1.1.2.2.1.cell 1
      have zD20 := K7.out.here.1.1.1.2.2.1.cell 0
      have zD21 := K7.out.here.1.1.1.2.2.1.cell 1
      have zD30 := K7.out.here.2.2.1.cell 0
      have zD31 := K7.out.here.2.2.1.cell 1
      simp at zD10 zD11 zD20 zD21 zD30 zD31
      go_wp2_with fail
      refine (same_nums_at (o := true) _ K7.out.here.1.1.1.1.2 K7.out.here.1.2 (by simp)).mono ?_
      rintro e w8 ⟨rfl, hb⟩
      have K8 := Lib.hid (K7.out.move hb)
      clear hb
      clear zD10 zD11 zD20 zD21 zD30 zD31
      have zD10 := K8.out.here.1.1.1.1.1.1.2.2.1.cell 0
      have zD11 := K8.out.here.1.1.1.1.1.1.2.2.1.cell 1
      have zD20 := K8.out.here.1.1.1.2.2.1.cell 0
      have zD21 := K8.out.here.1.1.1.2.2.1.cell 1
      have zD30 := K8.out.here.2.2.1.cell 0
      have zD31 := K8.out.here.2.2.1.cell 1
      simp at zD10 zD11 zD20 zD21 zD30 zD31
      go_wp2
      go_ret
      exact ⟨rfl, K8.out.here.1.1.1.1.1.1.1.1⟩
    | true =>
      obtain ⟨j0, hj, hp0, hp1, hp2⟩ := info_parts Try.infoMail
      have hre : n2 = n ∧ L2 = kpM L ∧ G = gnI L := by have h := HR.out; rw [bxEI_of HBV.out] at h; cases h; exact ⟨rfl, rfl, rfl⟩
      have HE1 := Lib.hid hre.1
      have HE2 := Lib.hid hre.2.1
      have HE3 := Lib.hid hre.2.2
      clear hre
      obtain ⟨S, hS⟩ : ∃ S, w6.heap.size = S := ⟨_, rfl⟩
      have HO0 := Lib.hid (ROwn.lit (R := mailR) (B := S) w6 S (by omega) hS)
      have HB0 := Lib.hid (hS ▸ below_new w6 (.cells #[] 32) : Below S w6 (w6.alloc (.cells #[] 32)))
      have hz0 : S ≤ (w6.alloc (.cells #[] 32)).heap.size := by simp; omega
      have KA := Lib.hid (K6.out.alloc (.cells #[] 32))
      have yaD10 := KA.out.here.1.1.1.1.1.1.2.2.1.cell 0
      simp at yaD10
      have yaD11 := KA.out.here.1.1.1.1.1.1.2.2.1.cell 1
      simp at yaD11
      have yaD20 := KA.out.here.1.1.1.2.2.1.cell 0
      simp at yaD20
      have yaD21 := KA.out.here.1.1.1.2.2.1.cell 1
      simp at yaD21
      have yaD30 := KA.out.here.2.2.1.cell 0
      simp at yaD30
      have yaD31 := KA.out.here.2.2.1.cell 1
      simp at yaD31
      go_wp2
      go_loopw [8, 9] (fun v i wr => ∃ (k : Nat) (A5 : Option Addr) (N5 cap5 : Nat), k ≤ N1 ∧ v = .slice A5 N5 cap5 ∧ i = .int .i64 (k : Int) ∧ N5 ≤ k ∧ S ≤ wr.heap.size ∧ Hid (ROwn mailR wr S (.slice A5 N5 cap5) (kpM (L.take k))) ∧ Hid (Below S w6 wr)) (fun _ i _ => N1 - (intOf i).toNat)
      case atStart => exact ⟨0, _, _, _, Nat.zero_le _, rfl, by go_num, Nat.le_refl _, hz0, HO0, HB0⟩
      case round =>
        obtain ⟨k, A5, N5, cap5, hk, rfl, rfl, hN5, hzr, HO, HB⟩ := hrel
        clear zD10 zD11 zD20 zD21 zD30 zD31 yaD10 yaD11 yaD20 yaD21 yaD30 yaD31
        have K7 := Lib.hid (K6.out.move (hS ▸ HB.out))
        have zD10 := K7.out.here.1.1.1.1.1.1.2.2.1.cell 0
        have zD11 := K7.out.here.1.1.1.1.1.1.2.2.1.cell 1
        have zD20 := K7.out.here.1.1.1.2.2.1.cell 0
        have zD21 := K7.out.here.1.1.1.2.2.1.cell 1
        have zD30 := K7.out.here.2.2.1.cell 0
        have zD31 := K7.out.here.2.2.1.cell 1
        simp at zD10 zD11 zD20 zD21 zD30 zD31
        by_cases hlt : k < N1
        · have h0 : (0 : Int) ≤ (k : Int) := by omega
          have h5 : (k : Int) < (N1 : Int) := by omega
          obtain ⟨⟨u, f, t⟩, hx⟩ : ∃ x, L[k]? = some x := ⟨_, List.getElem?_eq_getElem (by rw [← HNL.out]; exact hlt)⟩
          obtain ⟨b, o, hAe, hbb, d0, d1, d2⟩ := mail_at K7.out.here.1.1.1.1.1.1.1.2.2.2.1 hx
          have HX := Lib.hid hx
          obtain ⟨vt, hvt⟩ : ∃ v, sB t = v := ⟨_, rfl⟩
          rw [hvt] at d2
          have HVT := Lib.hid hvt
          have HDL := Lib.hid (dl_have (bOk_get HBV.out hx).1)
          clear hx hvt
          subst hAe
          cases hd : dlM (u, f, t) with
          | true =>
            have HD := Lib.hid hd
            clear hd
            go_wp2_with fail
            refine (impl_have f 8 _).mono ?_
            rintro e w15 ⟨rfl, g, rfl⟩
            rw [HDL.out, HD.out]
            go_wp2
            go_roundw
            case rel => exact ⟨k + 1, A5, N5, cap5, by omega, rfl, by go_num, by omega, hzr, (by show ROwn _ _ _ _ _; rw [(kp_dl HX.out HD.out).1]; exact HO.out.drewN g), Lib.hid (below_drewN' HB.out g)⟩
            case measure => simp [intOf]; omega
          | false =>
            have HD := Lib.hid hd
            clear hd
            go_wp2_with fail
            refine (impl_have f 8 _).mono ?_
            rintro e w15 ⟨rfl, g, rfl⟩
            rw [HDL.out, HD.out]
            obtain ⟨w5, hw5⟩ : ∃ w5, wr.drewN g = w5 := ⟨_, rfl⟩
            have HO5 := Lib.hid (HO.out.drewN g)
            have HB5 := Lib.hid (below_drewN' HB.out g)
            have hz5 : S ≤ (wr.drewN g).heap.size := hzr
            rw [hw5] at HO5 HB5 hz5
            have K90 := Lib.hid (K7.out.drewN g)
            rw [hw5] at K90 ⊢
            clear zD10 zD11 zD20 zD21 zD30 zD31
            have zD10 := K90.out.here.1.1.1.1.1.1.2.2.1.cell 0
            have zD11 := K90.out.here.1.1.1.1.1.1.2.2.1.cell 1
            have zD20 := K90.out.here.1.1.1.2.2.1.cell 0
            have zD21 := K90.out.here.1.1.1.2.2.1.cell 1
            have zD30 := K90.out.here.2.2.1.cell 0
            have zD31 := K90.out.here.2.2.1.cell 1
            simp at zD10 zD11 zD20 zD21 zD30 zD31
            obtain ⟨b', o', hA2, hbb2, e0, e1, e2⟩ := mail_at K90.out.here.1.1.1.1.1.1.1.2.2.2.1 HX.out
            obtain ⟨rfl, rfl⟩ : b' = b ∧ o' = o := by cases hA2; exact ⟨rfl, rfl⟩
            clear hA2
            rw [HVT.out] at e2
            clear hw5
            have hnew : RAt mailR (w5.alloc (.cells #[.int .i64 u, .int .i64 f, .string vt] 32)) (some ⟨w5.heap.size, 0, none⟩) [(u, f, t)] := by rw [← HVT.out]; exact RAt.made mailR w5 [(u, f, t)] _ rfl
            have hown := HO5.out.alloc (.cells #[.int .i64 u, .int .i64 f, .string vt] 32)
            have hml : N5 + 1 ≤ maxLen := by unfold maxLen; omega
            have hby : (N5 + 1) * 32 ≤ 140737488355328 := by omega
            have HLN := Lib.hid HO5.out.len.1.symm
            go_wp2_with (at_builtin; refine wpList_append_rows rfl (.tmp 64) (.tmp 70) 23 rfl mailR S j0 _ 32 Try.underlying23 hj hp0 hp1 hp2 rfl (by decide) _ (kpM (L.take k)) [(u, f, t)] N5 HLN.out rfl hown _ 1 1 rfl rfl hnew (fun e => by cases e) (fun q e => by cases e; rfl) hml hby (by simp; omega) ?_)
            intro v' w16 hown6 hgrow hnn
            obtain ⟨A16, N16, cap16, rfl⟩ := hown6.val
            have HO6 := Lib.hid hown6
            have HB6 := Lib.hid ((HB5.out.alloc hz5 (.cells #[.int .i64 u, .int .i64 f, .string vt] 32)).grown hgrow (by simp; omega) (fun z hz => (World.ownsRow.lt hown z hz).1))
            have hz6 : S ≤ w16.heap.size := by have := hgrow.size; simp at this; omega
            have hn6 : N16 = N5 + 1 := by
              have h1 := HO6.out.len.1
              have h2 := HLN.out
              rw [List.length_append, List.length_singleton] at h1
              omega
            clear hown6 hgrow hown hnew hnn hml hby HLN
            subst hn6
            go_wp2
            go_roundw
            case rel => exact ⟨k + 1, A16, N5 + 1, cap16, by omega, rfl, by go_num, by omega, hz6, (by show ROwn _ _ _ _ _; rw [(kp_no HX.out HD.out).1]; exact HO6.out), HB6⟩
            case measure => simp [intOf]; omega
        · have h5 : ¬ (k : Int) < (N1 : Int) := by omega
          have HO5 : Hid (ROwn mailR wr S (.slice A5 N5 cap5) (kpM L)) := by have h := HO.out; rw [show k = N1 by omega, HNL.out, List.take_length] at h; exact h
          have hq1 : (n2 == n) = true := by rw [HE1.out]; simp
          have hsum : N5 + NG = N1 := by
            have h1 := HO5.out.len.1
            have h2 := HNG.out
            have h3 := gnM_len 0 L
            have h4 := HNL.out
            rw [HE3.out] at h2
            unfold gnI at h2
            rw [List.length_map] at h2
            omega
          have E1 : (N5 : Int) + (NG : Int) = (N1 : Int) := by omega
          have W1 : IntKind.i64.wrap ((N5 : Int) + (NG : Int)) = (N1 : Int) := (IntWalk.i64_in _ (by omega)).trans E1
          have W2 : IntKind.i64.wrap (N1 : Int) = (N1 : Int) := IntWalk.i64_in _ (by omega)
          have q2 : ((N1 : Int) == (N1 : Int)) = true := by simp
          have HM5 := Lib.hid (MIn.of HO5.out (by omega))
          clear hsum
          go_wp2_with fail
          refine (same_mail_at (o := true) _ K7.out.here.1.1.1.1.1.2 HM5.out (decide_eq_true HE2.out)).mono ?_
          rintro e w17 ⟨rfl, hb⟩
          have K8 := Lib.hid (K7.out.move hb)
          clear hb
          clear zD10 zD11 zD20 zD21 zD30 zD31
          have zD10 := K8.out.here.1.1.1.1.1.1.2.2.1.cell 0
          have zD11 := K8.out.here.1.1.1.1.1.1.2.2.1.cell 1
          have zD20 := K8.out.here.1.1.1.2.2.1.cell 0
          have zD21 := K8.out.here.1.1.1.2.2.1.cell 1
          have zD30 := K8.out.here.2.2.1.cell 0
          have zD31 := K8.out.here.2.2.1.cell 1
          simp at zD10 zD11 zD20 zD21 zD30 zD31
          go_wp2
          go_ret
          exact ⟨rfl, K8.out.here.1.1.1.1.1.1.1.1⟩
  · have hl' : (1048576 : Int) < (len : Int) := by omega
    go_enter Try.func12, Try.ntmps12
    go_wp2
    go_ret
    exact ⟨rfl, Below.refl _ _⟩
end Go.Proofs.Ytiidlkbfjhgbaaa
