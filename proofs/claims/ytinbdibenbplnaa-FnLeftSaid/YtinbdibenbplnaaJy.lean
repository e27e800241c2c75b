/-
  The walks of the laws FnLeft. Condition: the code can be read.
-/
import Derived.Test.YtinbdibenbplnaaQi
namespace Go.Proofs.Ytinbdibenbplnaa
open Go.RowKit
set_option linter.unusedVariables false

set_option maxRecDepth 20000 in
set_option maxHeartbeats 8000000 in
theorem law_FnLeft (A0 : Option Addr) (len cap0 : Nat) (w : World) (h : Coded w A0 len cap0) : Calls Try.prog 13 #[.slice A0 len cap0] w (Holds1 w) := by
  have HC := Lib.hid h
  clear h
  by_cases hlen : len ≤ 1048576
  · have hlenI : (len : Int) ≤ 1048576 := by omega
    have hlenJ : ¬ (1048576 : Int) < (len : Int) := by omega
    go_enter Try.func13, Try.ntmps13
    go_wp2_with fail
    refine (draw_qleft A0 len cap0 w HC.out).mono ?_
    rintro e w1 ⟨n, A, N, cap, L, u, rfl, ho, hs, hl, hu, hb⟩
    have HNL := Lib.hid ho.1.len.1
    have hN8 : N ≤ 8 := by have := HNL.out; omega
    obtain ⟨D, hD⟩ : ∃ D, w1.heap.size = D := ⟨_, rfl⟩
    obtain ⟨w2, hw2⟩ : ∃ w2, w1.alloc (.cells #[.int .i64 n, .slice A N cap] 31) = w2 := ⟨_, rfl⟩
    have hb2 : Below w1.heap.size w1 w2 := by rw [← hw2]; exact below_new _ _
    have HB := Lib.hid (hb.trans (hb2.mono hb.size))
    have HQ := Lib.hid (show Whole w2 D 31 #[.int .i64 n, .slice A N cap] by rw [← hw2, ← hD]; exact Whole.made _ _ _)
    have HI := Lib.hid ((ho.qinS hs (by omega)).below hb2 (Nat.le_refl _))
    clear ho hs hl hb hb2
    obtain ⟨v, hv⟩ : ∃ v, leftQ u n L = v := ⟨_, rfl⟩
    have HV := Lib.hid hv
    have hvv : (v != v) = false := by simp
    clear hv
    have cHQ0 := HQ.out.cell 0
    have cHQ1 := HQ.out.cell 1
    simp only [List.getElem?_toArray, List.getElem?_cons_zero, List.getElem?_cons_succ] at cHQ0 cHQ1
    go_wp2_with fail
    refine (iql_at HV.out _ HI.out).mono ?_
    rintro e iw ⟨rfl, hb⟩
    clear cHQ0 cHQ1
    have HB_1 := Lib.hid (HB.out.trans (hb.mono HB.out.size))
    have HQ_1 := Lib.hid (HQ.out.below hb HQ.out.lt)
    have HI_1 := Lib.hid (HI.out.below hb (Nat.le_refl _))
    clear HI HQ HB
    clear hb
    have cHQ0 := HQ_1.out.cell 0
    have cHQ1 := HQ_1.out.cell 1
    simp only [List.getElem?_toArray, List.getElem?_cons_zero, List.getElem?_cons_succ] at cHQ0 cHQ1
    go_wp2_with fail
    refine (sql_at HV.out _ HI_1.out).mono ?_
    rintro e sw ⟨rfl, hb⟩
    clear cHQ0 cHQ1
    have HB_2 := Lib.hid (HB_1.out.trans (hb.mono HB_1.out.size))
    have HQ_2 := Lib.hid (HQ_1.out.below hb HQ_1.out.lt)
    have HI_2 := Lib.hid (HI_1.out.below hb (Nat.le_refl _))
    clear HI_1 HQ_1 HB_1
    clear hb
    have cHQ0 := HQ_2.out.cell 0
    have cHQ1 := HQ_2.out.cell 1
    simp only [List.getElem?_toArray, List.getElem?_cons_zero, List.getElem?_cons_succ] at cHQ0 cHQ1
    cases hq : vQ n L with
    | false =>
      have HVV := Lib.hid hq
      have hv1 : v = -1 := by rw [← HV.out]; unfold leftQ; rw [hq]; rfl
      subst hv1
      clear hq
      go_wp2_with fail
      refine (iqv_at HVV.out _ HI_2.out).mono ?_
      rintro e wv ⟨rfl, hb⟩
      clear cHQ0 cHQ1
      have HB_3 := Lib.hid (HB_2.out.trans (hb.mono HB_2.out.size))
      have HQ_3 := Lib.hid (HQ_2.out.below hb HQ_2.out.lt)
      have HI_3 := Lib.hid (HI_2.out.below hb (Nat.le_refl _))
      clear HI_2 HQ_2 HB_2
      clear hb
      go_wp2
      go_ret
      exact ⟨rfl, HB_3.out⟩
    | true =>
      have HVV := Lib.hid hq
      have hv1 : v = (cntQ u L : Int) := by rw [← HV.out]; unfold leftQ; rw [hq]; rfl
      subst hv1
      clear hq
      go_wp2_with fail
      refine (iqv_at HVV.out _ HI_2.out).mono ?_
      rintro e wv ⟨rfl, hb⟩
      clear cHQ0 cHQ1
      have HB_3 := Lib.hid (HB_2.out.trans (hb.mono HB_2.out.size))
      have HQ_3 := Lib.hid (HQ_2.out.below hb HQ_2.out.lt)
      have HI_3 := Lib.hid (HI_2.out.below hb (Nat.le_refl _))
      clear HI_2 HQ_2 HB_2
      clear hb
      go_wp2
      go_loopw [7, 8] (fun cv iv wr => ∃ k : Nat, k ≤ N ∧ cv = .int .i64 (cntQ u (L.take k) : Int) ∧ iv = .int .i64 (k : Int) ∧ Hid (Below wv.heap.size wv wr)) (fun _ iv _ => N - (intOf iv).toNat)
      case atStart => exact ⟨0, Nat.zero_le _, by go_num, by go_num, Below.refl _ _⟩
      case round =>
        obtain ⟨k, hk, rfl, rfl, KB⟩ := hrel
        have hbr := KB.out
        have HB_4 := Lib.hid (HB_3.out.trans (hbr.mono HB_3.out.size))
        have HQ_4 := Lib.hid (HQ_3.out.below hbr HQ_3.out.lt)
        have HI_4 := Lib.hid (HI_3.out.below hbr (Nat.le_refl _))
        clear hbr
        have cHQ0 := HQ_4.out.cell 0
        have cHQ1 := HQ_4.out.cell 1
        simp only [List.getElem?_toArray, List.getElem?_cons_zero, List.getElem?_cons_succ] at cHQ0 cHQ1
        by_cases hlt : k < N
        · have h0 : (0 : Int) ≤ (k : Int) := by omega
          have h5 : (k : Int) < (N : Int) := by omega
          obtain ⟨g, hx⟩ : ∃ x, L[k]? = some x := ⟨_, List.getElem?_eq_getElem (by rw [HI_4.out.1]; exact hlt)⟩
          obtain ⟨b, o, rfl, hgb, x0, x1, x2, x3⟩ := qi_at HI_4.out.2.2.1 hx
          have HG := Lib.hid (HI_4.out.2.2.2.2.2 _ (List.mem_of_getElem? hx)).2
          have HX := Lib.hid hx
          have hc8 : cntQ u (L.take k) ≤ 8 := Nat.le_trans (cntQ_le u _) (by rw [List.length_take]; omega)
          have W1 : IntKind.i64.wrap ((cntQ u (L.take k) : Int) + 1) = (cntQ u (L.take k) : Int) + 1 := IntWalk.i64_in _ (by omega)
          cases hm : decide (u ∈ g.T) with
          | false =>
            have HM := Lib.hid hm
            have HE : Hid (cntQ u (L.take (k + 1)) = cntQ u (L.take k)) := Lib.hid (cntQ_take hx hm)
            clear hx hm
            go_wp2_with fail
            have HCA := has_name g.A g.N g.cap g.T u _ HG.out
            rw [HM.out] at HCA
            refine HCA.mono ?_
            rintro e wh ⟨rfl, hbh⟩
            have KB2 := Lib.hid (KB.out.trans (hbh.mono KB.out.size))
            clear hbh HCA
            go_wp2
            go_roundw
            case rel => exact ⟨k + 1, by omega, by rw [HE.out], by go_num, KB2⟩
            case measure => simp [intOf]; omega
          | true =>
            have HM := Lib.hid hm
            have HE : Hid (cntQ u (L.take (k + 1)) = cntQ u (L.take k) + 1) := Lib.hid (cntQ_take hx hm)
            clear hx hm
            go_wp2_with fail
            have HCA := has_name g.A g.N g.cap g.T u _ HG.out
            rw [HM.out] at HCA
            refine HCA.mono ?_
            rintro e wh ⟨rfl, hbh⟩
            have KB2 := Lib.hid (KB.out.trans (hbh.mono KB.out.size))
            clear hbh HCA
            go_wp2
            go_roundw
            case rel => exact ⟨k + 1, by omega, by rw [HE.out]; rfl, by go_num, KB2⟩
            case measure => simp [intOf]; omega
        · have h5 : ¬ (k : Int) < (N : Int) := by omega
          have hkN : L.take k = L := List.take_of_length_le (by rw [HI_4.out.1]; omega)
          rw [hkN]
          clear hkN
          go_wp2
          go_ret
          exact ⟨rfl, HB_4.out⟩
  · have hlenI : (1048576 : Int) < (len : Int) := by omega
    go_enter Try.func13, Try.ntmps13
    go_wp2
    go_ret
    exact ⟨rfl, Below.refl _ _⟩
end Go.Proofs.Ytinbdibenbplnaa
