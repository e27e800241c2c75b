/-
  The walks of the laws FnUidsAll. Condition: the code can be read.
-/
import Derived.Test.YtiidlkbfjhgbaaaLu
import Derived.Deep.RegionWith
import Derived.Outline
namespace Go.Proofs.Ytiidlkbfjhgbaaa
open Go.RowKit
set_option linter.unusedVariables false

set_option maxRecDepth 20000 in
set_option maxHeartbeats 16000000 in
theorem law_FnUidsAll (A : Option Addr) (len cap : Nat) (w : World) (h : Coded w A len cap) : Calls Try.prog 21 #[.slice A len cap] w (Holds1 w) := by
  have HC := Lib.hid h
  clear h
  by_cases hl : len ≤ 1048576
  · have hl' : (len : Int) ≤ 1048576 := by omega
    go_enter Try.func21, Try.ntmps21
    go_wp2_with fail
    refine (draw_buids A len cap _ HC.out).mono ?_
    rintro e w1 ⟨n, A1, N1, cap1, L, AU, NU, capU, U, rfl, hN1, hNU, hn1, hn2, hown, hownI, hb⟩
    obtain ⟨G, hG⟩ : ∃ r, bxUI n L U = r := ⟨_, rfl⟩
    have hGl : G.length ≤ 14 := by have h1 := bxUI_le hG; have h2 := hown.len.1; omega
    have HG := Lib.hid hG
    have HNL := Lib.hid hown.len.1
    clear hG
    obtain ⟨D1, hD1⟩ : ∃ D, w1.heap.size = D := ⟨_, rfl⟩
    have K1 := Lib.hid ((((((kp_start w).move hb).and (MIn.of hown (by omega)).keep).and (IIn.of hownI (by omega)).keep).alloc (.cells #[.int .i64 n, .slice A1 N1 cap1] 25)).and (kp_one w1 25 #[.int .i64 n, .slice A1 N1 cap1] hD1))
    clear hb hown hownI
    have zD10 := K1.out.here.2.2.1.cell 0
    have zD11 := K1.out.here.2.2.1.cell 1
    simp at zD10 zD11
    go_wp2_with fail
    refine (impl_uids_at HG.out A1 N1 cap1 AU NU capU _ K1.out.here.1.1.2 K1.out.here.1.2).mono ?_
    rintro e w2 ⟨A2, N2, cap2, rfl, hownI, hb⟩
    have hN2 : N2 ≤ 14 := by have := hownI.len.1; omega
    have HN2 := Lib.hid hownI.len.1
    have K2 := Lib.hid ((K1.out.move hb).and (IIn.of hownI (by omega)).keep)
    clear hb hownI
    clear zD10 zD11
    have zD10 := K2.out.here.1.2.2.1.cell 0
    have zD11 := K2.out.here.1.2.2.1.cell 1
    simp at zD10 zD11
    go_wp2_with fail
    refine (spec_uids_at HG.out A1 N1 cap1 AU NU capU _ K2.out.here.1.1.1.2 K2.out.here.1.1.2).mono ?_
    rintro e w3 ⟨A3, N3, cap3, rfl, hownI, hb⟩
    have hN3 : N3 ≤ 14 := by have := hownI.len.1; omega
    have K3 := Lib.hid ((K2.out.move hb).and (IIn.of hownI (by omega)).keep)
    clear hb hownI
    clear zD10 zD11
    have zD10 := K3.out.here.1.1.2.2.1.cell 0
    have zD11 := K3.out.here.1.1.2.2.1.cell 1
    simp at zD10 zD11
    go_wp2_with fail
    refine (same_nums_at (o := true) _ K3.out.here.1.2 K3.out.here.2 (by simp)).mono ?_
    rintro e w4 ⟨rfl, hb⟩
    have K4 := Lib.hid (K3.out.move hb)
    clear hb
    clear zD10 zD11
    have zD10 := K4.out.here.1.1.2.2.1.cell 0
    have zD11 := K4.out.here.1.1.2.2.1.cell 1
    simp at zD10 zD11
    obtain ⟨bv, hbv⟩ : ∃ b, bOk n L = b := ⟨_, rfl⟩
    go_wp2_with fail
    refine (boxvalid_at hbv A1 N1 cap1 _ K4.out.here.1.1.1.1.2).mono ?_
    rintro e w6 ⟨rfl, hb⟩
    have K5 := Lib.hid (K4.out.move hb)
    clear hb
    clear zD10 zD11
    have zD10 := K5.out.here.1.1.2.2.1.cell 0
    have zD11 := K5.out.here.1.1.2.2.1.cell 1
    simp at zD10 zD11
    have HBV := Lib.hid hbv
    clear hbv
    cases bv with
    | false =>
      go_wp2_with fail
      refine (same_nums_at (o := true) _ K5.out.here.1.2 K5.out.here.2 (by simp)).mono ?_
      rintro e w7 ⟨rfl, hb⟩
      have K6 := Lib.hid (K5.out.move hb)
      clear hb
      clear zD10 zD11
      have zD10 := K6.out.here.1.1.2.2.1.cell 0
      have zD11 := K6.out.here.1.1.2.2.1.cell 1
      simp at zD10 zD11
      go_wp2
      go_ret
      exact ⟨rfl, K6.out.here.1.1.1.1.1⟩
    | true =>
      obtain ⟨j0, hj, hp0, hp1, hp2⟩ := info_parts Try.infoNum
      obtain ⟨z0, hz0e⟩ : ∃ z, (N1 : Int) - 1 = z := ⟨_, rfl⟩
      have W1 : IntKind.i64.wrap ((N1 : Int) - 1) = z0 := (IntWalk.i64_in _ (by omega)).trans hz0e
      have W2 : IntKind.i64.wrap z0 = z0 := IntWalk.i64_in _ (by omega)
      have hz0f : z0 = (N1 : Int) - 1 := hz0e.symm
      have HZ0 := Lib.hid hz0f
      clear hz0f
      obtain ⟨S, hS⟩ : ∃ S, w6.heap.size = S := ⟨_, rfl⟩
      have HO0 := Lib.hid (ROwn.lit (R := intR) (B := S) w6 S (by omega) hS)
      have HB0 := Lib.hid (hS ▸ below_new w6 (.cells #[] 3) : Below S w6 (w6.alloc (.cells #[] 3)))
      have hz0 : S ≤ (w6.alloc (.cells #[] 3)).heap.size := by simp; omega
      have KA := Lib.hid (K5.out.alloc (.cells #[] 3))
      have yaD10 := KA.out.here.1.1.2.2.1.cell 0
      simp at yaD10
      have yaD11 := KA.out.here.1.1.2.2.1.cell 1
      simp at yaD11
      go_wp2
      clear W1 W2 hz0e
      go_loopw [7, 8] (fun v i wr => ∃ (q : Nat) (z : Int) (A5 : Option Addr) (N5 cap5 : Nat), q ≤ N1 ∧ z = (q : Int) - 1 ∧ v = .slice A5 N5 cap5 ∧ i = .int .i64 z ∧ N5 + q = N1 ∧ S ≤ wr.heap.size ∧ Hid (ROwn intR wr S (.slice A5 N5 cap5) (rvL L q)) ∧ Hid (Below S w6 wr)) (fun _ i _ => (intOf i + 1).toNat)
      case atStart => exact ⟨N1, z0, _, _, _, Nat.le_refl _, HZ0.out, rfl, rfl, by omega, hz0, (by show ROwn _ _ _ _ _; rw [HNL.out, rvL_top]; exact HO0.out), HB0⟩
      case round =>
        obtain ⟨q, z, A5, N5, cap5, hq, hz, rfl, rfl, hN5, hzr, HO, HB⟩ := hrel
        clear zD10 zD11 yaD10 yaD11
        have K6 := Lib.hid (K5.out.move (hS ▸ HB.out))
        have zD10 := K6.out.here.1.1.2.2.1.cell 0
        have zD11 := K6.out.here.1.1.2.2.1.cell 1
        simp at zD10 zD11
        by_cases hq0 : 0 < q
        · obtain ⟨k, rfl⟩ : ∃ k, q = k + 1 := ⟨q - 1, by omega⟩
          obtain rfl : z = (k : Int) := by omega
          have h0 : (0 : Int) ≤ (k : Int) := by omega
          have h5 : (k : Int) < (N1 : Int) := by omega
          obtain ⟨⟨u, f, t⟩, hx⟩ : ∃ x, L[k]? = some x := ⟨_, List.getElem?_eq_getElem (by rw [← HNL.out]; omega)⟩
          obtain ⟨b, o, hAe, hbb, d0, -, -⟩ := mail_at K6.out.here.1.1.1.1.2.2.2.1 hx
          have HX := Lib.hid hx
          clear hx hz
          subst hAe
          have dz := (K6.out.here.1.1.1.1.2.keep.alloc (.cells #[.int .i64 u] 3))
          clear dz
          obtain ⟨z1, hz1e⟩ : ∃ z, (k : Int) - 1 = z := ⟨_, rfl⟩
          have hz1f : z1 = (k : Int) - 1 := hz1e.symm
          have HZ1 := Lib.hid hz1f
          have W1 : IntKind.i64.wrap ((k : Int) - 1) = z1 := (IntWalk.i64_in _ (by omega)).trans hz1e
          have W2 : IntKind.i64.wrap z1 = z1 := IntWalk.i64_in _ (by omega)
          have hm1 : (z1 + 1).toNat < k + 1 := by omega
          clear hz1f
          have hnew : RAt intR (wr.alloc (.cells #[.int .i64 u] 3)) (some ⟨wr.heap.size, 0, none⟩) [u] := RAt.made intR wr [u] _ rfl
          have hown := HO.out.alloc (.cells #[.int .i64 u] 3)
          have hml : N5 + 1 ≤ maxLen := by unfold maxLen; omega
          have hby : (N5 + 1) * 8 ≤ 140737488355328 := by omega
          have HLN := Lib.hid HO.out.len.1.symm
          go_wp2_with (at_builtin; refine wpList_append_rows rfl (.tmp 44) (.tmp 51) 39 rfl intR S j0 _ 8 Try.underlying39 hj hp0 hp1 hp2 rfl (by decide) _ (rvL L (k + 1)) [u] N5 HLN.out rfl hown _ 1 1 rfl rfl hnew (fun e => by cases e) (fun q e => by cases e; rfl) hml hby (by simp; omega) ?_)
          intro v' w16 hown6 hgrow hnn
          obtain ⟨A16, N16, cap16, rfl⟩ := hown6.val
          have HO6 := Lib.hid hown6
          have HB6 := Lib.hid ((HB.out.alloc hzr (.cells #[.int .i64 u] 3)).grown hgrow (by simp; omega) (fun z hz => (World.ownsRow.lt hown z hz).1))
          have hz6 : S ≤ w16.heap.size := by have := hgrow.size; simp at this; omega
          have hn6 : N16 = N5 + 1 := by
            have h1 := HO6.out.len.1
            have h2 := HLN.out
            rw [List.length_append, List.length_singleton] at h1
            omega
          clear hown6 hgrow hown hnew hnn hml hby HLN
          subst hn6
          go_wp2
          go_roundw
          case rel => exact ⟨k, z1, A16, N5 + 1, cap16, by omega, HZ1.out, rfl, rfl, by omega, hz6, (by show ROwn _ _ _ _ _; rw [rvL_step HX.out]; exact HO6.out), HB6⟩
          case measure => simp [intOf]; omega
        · obtain rfl : q = 0 := by omega
          have hzn : ¬ (0 : Int) ≤ z := by omega
          obtain ⟨G2, hG2⟩ : ∃ G, upL N1 = G := ⟨_, rfl⟩
          have hG2l : G2.length = N1 := by rw [← hG2, upL_len]
          have hN100 : N1 ≤ 100 := by omega
          have HUP := Lib.hid hG2
          have HUA : Hid (bxUI n L (rvL L 0) = G2) := by
            show _ = _
            rw [rvL_all, bxUI_all HBV.out, ← hG2, HNL.out]
          have HGL := Lib.hid hG2l
          have HV5 := Lib.hid (IIn.of HO.out (by omega))
          clear hG2 hG2l
          have K7 := Lib.hid (K6.out.and HV5.out.keep)
          go_wp2_with fail
          have K8 := Lib.hid K7.out.drew
          go_region_with (first
            | (go_at_call 55
               refine (impl_uids_at HUA.out A1 N1 cap1 A5 N5 cap5 _ (by first | exact K8.out.here.1.1.1.1.1.2 | exact KB.out.here.1.1.1.1.1.1.2) (by first | exact K8.out.here.2 | exact KB.out.here.1.2)).mono ?_
               rintro e w27 ⟨A7, N7, cap7, rfl, hownI, hb⟩
               have hN7 : N7 ≤ 14 := by {have h1 := hownI.len.1; have h2 := HGL.out; omega}
               first
                 | (have KC := Lib.hid ((KB.out.move hb).and (IIn.of hownI (by omega)).keep))
                 | (have KB := Lib.hid ((K8.out.move hb).and (IIn.of hownI (by omega)).keep); have y0 := KB.out.here.1.1.1.1.2.2.1.cell 0; have y1 := KB.out.here.1.1.1.1.2.2.1.cell 1; simp at y0 y1)
               clear hb hownI)
            | (go_at_call 50
               refine (up_to_at HUP.out _ hN100).mono ?_
               rintro e w28 ⟨A8, N8, cap8, rfl, hownI, hb⟩
               have hN8 : N8 ≤ 14 := by {have h1 := hownI.len.1; have h2 := HGL.out; omega}
               first
                 | (have KC := Lib.hid ((KB.out.move hb).and (IIn.of hownI (by omega)).keep))
                 | (have KB := Lib.hid ((K8.out.move hb).and (IIn.of hownI (by omega)).keep); have y0 := KB.out.here.1.1.1.1.2.2.1.cell 0; have y1 := KB.out.here.1.1.1.1.2.2.1.cell 1; simp at y0 y1)
               clear hb hownI)
            | (go_at_call 48
               refine (same_nums_at (o := true) _ (by first | exact KC.out.here.1.2 | exact KC.out.here.2) (by first | exact KC.out.here.2 | exact KC.out.here.1.2) (decide_eq_true rfl)).mono ?_
               rintro e w29 ⟨rfl, hb⟩
               have KD := Lib.hid (KC.out.move hb)
               clear hb))
          all_goals
            go_wp2
            go_ret
            exact ⟨rfl, KD.out.here.1.1.1.1.1.1.1.1⟩
  · have hl' : (1048576 : Int) < (len : Int) := by omega
    go_enter Try.func21, Try.ntmps21
    go_wp2
    go_ret
    exact ⟨rfl, Below.refl _ _⟩
end Go.Proofs.Ytiidlkbfjhgbaaa
