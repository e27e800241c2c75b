/-
  The contract of the code's (*keyBudget).query, by induction on a key's nodes. Condition: the key lies in memory; the tables hold what the program lays there.
-/
import Derived.Test.YtnfigpknejmkmaaGreatDoorKx
namespace Go.Proofs.YtnfigpknejmkmaaGreatDoor
open Go.RowKit
set_option linter.unusedVariables false

theorem kv_five {w : World} {v0 v1 v2 v3 v4 : Value} : ∀ {k : KT}, KV w k (.agg #[v0, v1, v2, v3, v4]) → ∃ (a b : Int) (t : ByteArray) (A : Option Addr) (n c : Nat) (A' : Option Addr) (n' c' : Nat), v0 = .int .i64 a ∧ v1 = .int .i64 b ∧ v2 = .string t ∧ v3 = .slice A n c ∧ v4 = .slice A' n' c'
  | .mk kd f t S ks, h => by
    obtain ⟨AS, nS, cS, AK, nK, cK, he, -⟩ := h.open
    simp at he
    obtain ⟨rfl, rfl, rfl, rfl, rfl⟩ := he
    exact ⟨_, _, _, _, _, _, _, _, _, rfl, rfl, rfl, rfl, rfl⟩
theorem gr_rowq {a w w' : World} {b : Nat} {row : Option Nat} (h : a.grownBy w (some b)) (hg : w.grownBy w' row) (hr : ∀ g, row = some g → a.heap.size ≤ g) : a.grownBy w' (some b) :=
  ⟨hg.os.trans h.os, hg.tape.trans h.tape, hg.output.trans h.output, Nat.le_trans h.size hg.size, fun i hi hn => (hg.block i (Nat.lt_of_lt_of_le hi h.size) (fun e => by have := hr i e.symm; omega)).trans (h.block i hi hn)⟩
theorem len_two {α : Type} : ∀ {l : List α}, l.length = 2 → ∃ x y, l = [x, y]
  | [x, y], _ => ⟨x, y, rfl⟩
set_option maxRecDepth 20000 in
set_option maxHeartbeats 16000000 in
theorem impl_query_n (w0 : World) (g : Nat) (hSh : Shp w0) (hLs : Lst w0) (hg : w0.heap.size ≤ g) : ∀ (n : Nat) (k : KT) (v : Value) (w : World) (m : Nat), nodesT k ≤ n → KV w0 k v → Below w0.heap.size w0 w → Whole w g 65 #[.int .i64 (m : Int)] → m ≤ 9 →
    Calls Tryz.prog 69 #[.pointer (some ⟨g, 0, none⟩), v] w (QEnd w0 w g m k)
  | 0, k, v, w, m, hn, _, _, _, _ => by have := nodesT_pos k; omega
  | n + 1, .mk kd f t S ks, v, w, m, hn, h, hb, hW, hm => by
    have ih := fun (k' : KT) (v' : Value) (w1 : World) (m' : Nat) (h1 : nodesT k' ≤ n) (h2 : KV w0 k' v') (h3 : Below w0.heap.size w0 w1) (h4 : Whole w1 g 65 #[.int .i64 (m' : Int)]) (h5 : m' ≤ 9) => impl_query_n w0 g hSh hLs hg n k' v' w1 m' h1 h2 h3 h4 h5
    have HIH := Lib.hid ih
    obtain ⟨AS, nS, cS, AK, nK, cK, rfl, h2, h3, h4, h5, h6, h7⟩ := h.open
    have HSS := Lib.hid h2
    have HS3 := Lib.hid h3
    have HT4 := Lib.hid h4
    have HSP := Lib.hid h5
    have HKK := Lib.hid h6
    have HKS := Lib.hid h7
    have HSH := Lib.hid hSh
    have HLS := Lib.hid hLs
    have HGG := Lib.hid hg
    have HB := Lib.hid hb
    have hgB := hW.lt
    have hnn : nodesL ks + 1 ≤ n + 1 := by rw [nodesT] at hn; exact hn
    have HNN := Lib.hid hnn
    obtain ⟨B, hB⟩ : ∃ B, w.heap.size = B := ⟨_, rfl⟩
    have HBB := Lib.hid hB
    have hgB2 : g < B := by omega
    obtain ⟨i0, hi, hq0, hq1, hq2⟩ := info_parts Tryz.infoQuery
    obtain ⟨wa, hwa⟩ : ∃ wa, w.alloc (.cells #[.int .i64 kd, .int .i64 f, .string t, .slice AS nS cS, .slice AK nK cK] 27) = wa := ⟨_, rfl⟩
    have HWA := Lib.hid hwa
    have HKa : Hid (Whole wa B 27 #[.int .i64 kd, .int .i64 f, .string t, .slice AS nS cS, .slice AK nK cK]) := Lib.hid (by rw [← hwa, ← hB]; exact Whole.made w _ _)
    have HGa : Hid (w.grownBy wa (some g)) := Lib.hid (by rw [← hwa]; exact gr_alloc (gr_refl _ _) _)
    have HBa : Hid (Whole wa g 65 #[.int .i64 (m : Int)]) := Lib.hid (by rw [← hwa]; exact hW.alloc _)
    have hneB : some B ≠ some g := fun e => by cases e; omega
    clear ih h h2 h3 h4 h5 h6 h7 hSh hLs hg hb hn hnn hW hgB hwa hB
    rcases Nat.eq_zero_or_pos m with hz | hp
    · subst hz
      have HN0 := Lib.hid (no_zero (.mk kd f t S ks))
      go_enter Tryz.func69, Tryz.ntmps69
      go_wp2_with fail
      rw [HWA.out, HBB.out]
      refine (spend_no g wa HBa.out).mono ?_
      rintro e wb ⟨rfl, hWb, hGb⟩
      have HWb := Lib.hid hWb
      have HGb := Lib.hid (gr_trans HGa.out hGb)
      clear hWb hGb
      go_wp2
      go_ret2
      exact qend_no HN0.out (Nat.le_refl _) HWb.out HGb.out
    · obtain ⟨p, hpm⟩ : ∃ p, p + 1 = m := ⟨m - 1, by omega⟩
      have hp9 : p ≤ 9 := by omega
      have hpm' : p ≤ m := by omega
      have HPM := Lib.hid hpm
      have HS := Lib.hid (spend_yes hpm wa HBa.out hm)
      clear hpm hp
      obtain ⟨o, ho⟩ : ∃ o, shapeB kd f t nS nK = o := ⟨_, rfl⟩
      have HO := Lib.hid ho
      clear ho
      go_enter Tryz.func69, Tryz.ntmps69
      go_wp2_with fail
      rw [HWA.out, HBB.out]
      refine HS.out.mono ?_
      rintro e wb ⟨rfl, hWb, hGb⟩
      have HWb := Lib.hid hWb
      have HKb := Lib.hid (HKa.out.grown hGb hneB)
      have HGb := Lib.hid (gr_trans HGa.out hGb)
      clear hWb hGb
      have z0 := HKb.out.cell 0
      have z1 := HKb.out.cell 1
      have z2 := HKb.out.cell 2
      have z3 := HKb.out.cell 3
      have z4 := HKb.out.cell 4
      simp at z0 z1 z2 z3 z4
      have HBb := Lib.hid (below_gr HB.out HGb.out HB.out.size HGG.out)
      have HC := Lib.hid (impl_shape HO.out AS cS AK cK wb (HSH.out.below HBb.out (Nat.le_refl _)))
      cases o with
      | false =>
        go_wp2_with fail
        refine HC.out.mono ?_
        rintro e wc ⟨rfl, hbc⟩
        have HNO := Lib.hid (no_shape (m := m) HSS.out HKK.out HO.out)
        have HWc := Lib.hid (HWb.out.below hbc HWb.out.lt)
        have HGc := Lib.hid (gr_trans HGb.out (gr_below hbc (some g)))
        clear hbc
        go_wp2
        go_ret2
        exact qend_no HNO.out hpm' HWc.out HGc.out
      | true =>
        go_wp2_with fail
        refine HC.out.mono ?_
        rintro e wc ⟨rfl, hbc⟩
        have HWc := Lib.hid (HWb.out.below hbc HWb.out.lt)
        have HGc := Lib.hid (gr_trans HGb.out (gr_below hbc (some g)))
        have HKc := Lib.hid (HKb.out.below hbc HKb.out.lt)
        clear hbc z0 z1 z2 z3 z4
        have z4 := HKc.out.cell 4
        simp at z4
        have hBc : B + 1 ≤ wc.heap.size := HKc.out.lt
        have hn2 : nK ≤ 2 := by have := shape_yes HO.out; omega
        have HM0 : Hid (p + nodesL (ks.take 0) + 1 = m) := Lib.hid (by rw [List.take_zero, nodesL]; exact HPM.out)
        have HA0 : Hid (allL (ks.take 0) = true) := Lib.hid (by rw [List.take_zero, allL])
        go_wp2
        clear z4
        go_loopw [6, 22] (fun pv iv wr => ∃ (i : Nat) (A : Option Addr) (cap m1 : Nat) (qs : List QT), i ≤ nK ∧ pv = .slice A i cap ∧ iv = .int .i64 (i : Int) ∧ m1 ≤ 9 ∧ B + 1 ≤ wr.heap.size ∧ Hid (allL (ks.take i) = true) ∧ Hid (m1 + nodesL (ks.take i) + 1 = m) ∧ Hid (w.grownBy wr (some g)) ∧ Hid (Whole wr g 65 #[.int .i64 (m1 : Int)]) ∧ Hid (Whole wr B 27 #[.int .i64 kd, .int .i64 f, .string t, .slice AS nS cS, .slice AK nK cK]) ∧ Hid (ROwn qR wr (B + 1) (.slice A i cap) qs) ∧ Hid (QVs w0 (ks.take i) (qs.map qv))) (fun _ iv _ => nK - (intOf iv).toNat)
        case atStart => exact ⟨0, none, 0, p, [], Nat.zero_le _, by go_num, by go_num, hp9, hBc, HA0, HM0, HGc, HWc, HKc, ROwn.nil _ _, by rw [List.take_zero, List.map_nil, QVs]; rfl⟩
        case round =>
          obtain ⟨i, A, cap, m1, qs, hi2, rfl, rfl, hm1, hBr, HAr, HMr, HGr, HWr, HKr, HOr, HQr⟩ := hrel
          have HBr := Lib.hid (below_gr HB.out HGr.out HB.out.size HGG.out)
          by_cases hlt : i < nK
          · skip
            have h0 : (0 : Int) ≤ (i : Int) := by omega
            have h5 : (i : Int) < (nK : Int) := by omega
            obtain ⟨k, hk⟩ : ∃ k, ks[i]? = some k := ⟨_, List.getElem?_eq_getElem (by rw [HKK.out]; exact hlt)⟩
            obtain ⟨b, ob, v0, v1, v2, v3, v4, rfl, hbz, c0, c1, c2, c3, c4, hkv⟩ := HKS.out.get hk
            rw [Nat.zero_add] at c0 c1 c2 c3 c4
            replace c0 := (HBr.out.cell (p := ⟨b, ob + i * 5, none⟩) hbz).trans c0
            replace c1 := (HBr.out.cell (p := ⟨b, ob + i * 5 + 1, none⟩) hbz).trans c1
            replace c2 := (HBr.out.cell (p := ⟨b, ob + i * 5 + 2, none⟩) hbz).trans c2
            replace c3 := (HBr.out.cell (p := ⟨b, ob + i * 5 + 3, none⟩) hbz).trans c3
            replace c4 := (HBr.out.cell (p := ⟨b, ob + i * 5 + 4, none⟩) hbz).trans c4
            obtain ⟨a0, a1, a2, a3, a4, a5, a6, a7, a8, rfl, rfl, rfl, rfl, rfl⟩ := kv_five hkv
            have HKY := Lib.hid hk
            have hnk : nodesT k ≤ n := by have := nodesL_lt hk; have := HNN.out; omega
            have hmm1 : m1 ≤ m := by have := HMr.out; omega
            obtain ⟨wo, hwo⟩ : ∃ wo, wr.alloc (.cells #[.int .i64 a0, .int .i64 a1, .string a2, .slice a3 a4 a5, .slice a6 a7 a8] 27) = wo := ⟨_, rfl⟩
            obtain ⟨R, hR⟩ : ∃ R, wr.heap.size = R := ⟨_, rfl⟩
            have HRR := Lib.hid hR
            have HWO := Lib.hid hwo
            have HXo : Hid (Whole wo R 27 #[.int .i64 a0, .int .i64 a1, .string a2, .slice a3 a4 a5, .slice a6 a7 a8]) := Lib.hid (by rw [← hwo, ← hR]; exact Whole.made wr _ _)
            have HGo : Hid (w.grownBy wo (some g)) := Lib.hid (by rw [← hwo]; exact gr_alloc HGr.out _)
            have HWo : Hid (Whole wo g 65 #[.int .i64 (m1 : Int)]) := Lib.hid (by rw [← hwo]; exact HWr.out.alloc _)
            have HKo : Hid (Whole wo B 27 #[.int .i64 kd, .int .i64 f, .string t, .slice AS nS cS, .slice (some ⟨b, ob, none⟩) nK cK]) := Lib.hid (by rw [← hwo]; exact HKr.out.alloc _)
            have HOo : Hid (ROwn qR wo (B + 1) (.slice A i cap) qs) := Lib.hid (by rw [← hwo]; exact HOr.out.alloc _)
            have HBo := Lib.hid (below_gr HB.out HGo.out HB.out.size HGG.out)
            have HCC := Lib.hid (HIH.out k (.agg #[.int .i64 a0, .int .i64 a1, .string a2, .slice a3 a4 a5, .slice a6 a7 a8]) wo m1 hnk hkv HBo.out HWo.out hm1)
            have g0 := HXo.out.cell 0
            have g1 := HXo.out.cell 1
            have g2 := HXo.out.cell 2
            have g3 := HXo.out.cell 3
            have g4 := HXo.out.cell 4
            simp at g0 g1 g2 g3 g4
            clear hk hkv hwo hnk
            go_wp2_with fail
            rw [HWO.out]
            refine HCC.out.mono ?_
            rintro e w2 ⟨q, o2, m2, rfl, hO2, hm2, hW2, hG2, hY2⟩
            have HO2 := Lib.hid hO2
            have HY2 := Lib.hid hY2
            have HW2 := Lib.hid hW2
            have HK2 := Lib.hid (HKo.out.grown hG2 hneB)
            have HOw2 := Lib.hid (HOo.out.grown hG2 (by omega))
            have HG2 := Lib.hid (gr_trans HGo.out hG2)
            have hB2 : B + 1 ≤ w2.heap.size := HK2.out.lt
            clear hO2 hY2 hW2 hG2 c0 c1 c2 c3 c4 g0 g1 g2 g3 g4 hR
            cases o2 with
            | false =>
              have HNP := Lib.hid (no_part (kd := kd) (f := f) (t := t) (S := S) HKY.out HMr.out HO2.out)
              go_wp2
              go_ret2
              exact qend_no HNP.out (by omega) HW2.out HG2.out
            | true =>
              obtain ⟨hy1, hy2⟩ := HY2.out rfl
              have hta : allT k = true := by have := HO2.out; rw [Bool.and_eq_true] at this; exact this.1
              have HA3 : Hid (allL (ks.take (i + 1)) = true) := Lib.hid (by rw [allL_take HKY.out, HAr.out, hta]; rfl)
              have HM3 : Hid (m2 + nodesL (ks.take (i + 1)) + 1 = m) := Lib.hid (by rw [nodesL_take HKY.out]; have := HMr.out; omega)
              obtain ⟨tq, aq, rfl⟩ := hy2.one
              have HQ3 : Hid (QVs w0 (ks.take (i + 1)) ((qs ++ [(tq, aq)]).map qv)) := Lib.hid (by rw [List.take_add_one, HKY.out, List.map_append]; exact HQr.out.push hy2)
              have hml : i + 1 ≤ maxLen := by unfold maxLen; omega
              have hby : (i + 1) * 16 ≤ 140737488355328 := by omega
              have hown6 := HOw2.out.alloc (.cells #[.iface tq (.agg aq)] 75)
              have hnew6 := RAt.made qR w2 [(tq, aq)] w2.heap.size rfl
              have HLK : Hid (qs.length = i) := Lib.hid HOw2.out.len.1.symm
              have hsz6 : B + 1 ≤ (w2.alloc (.cells #[.iface tq (.agg aq)] 75)).heap.size := by simp; omega
              have HSZ6 := Lib.hid hsz6
              clear hy1 hy2 hta hsz6
              go_wp2_with (at_builtin; refine wpList_append_rows rfl (.tmp 34) (.tmp 36) 148 rfl qR (B + 1) i0 _ 16 Tryz.underlying148 hi hq0 hq1 hq2 rfl (by decide) _ qs [(tq, aq)] i HLK.out rfl hown6 (some ⟨w2.heap.size, 0, none⟩) 1 1 rfl rfl hnew6 (fun e => by cases e) (fun q e => by cases e; rfl) hml hby HSZ6.out ?_)
              intro v' w7 hown hgrow hnn
              obtain ⟨A7, N7, cap7, rfl⟩ := hown.val
              have hN7 : N7 = i + 1 := by
                have := hown.len.1
                rw [List.length_append, HLK.out] at this
                exact this
              subst hN7
              have hrow : ∀ j, Value.ownBlock (.slice A i cap) = some j → B + 1 ≤ j := fun j hj => (World.ownsRow.lt HOw2.out j hj).1
              have HO7 := Lib.hid hown
              have HG7 : Hid (w.grownBy w7 (some g)) := Lib.hid (gr_rowq (gr_alloc HG2.out _) hgrow (fun j hj => by have := hrow j hj; have := HBB.out; omega))
              have HW7 := Lib.hid ((HW2.out.alloc (.cells #[.iface tq (.agg aq)] 75)).grown hgrow (fun e => by have := hrow g e.symm; omega))
              have HK7 := Lib.hid ((HK2.out.alloc (.cells #[.iface tq (.agg aq)] 75)).grown hgrow (fun e => by have := hrow B e.symm; omega))
              have hS7 : B + 1 ≤ w7.heap.size := Nat.le_trans HSZ6.out hgrow.size
              have hm29 : m2 ≤ 9 := by omega
              clear hown hgrow hnn hown6 hnew6 hrow
              go_wp2
              go_roundw
              case rel => exact ⟨i + 1, A7, cap7, m2, qs ++ [(tq, aq)], by omega, rfl, by go_num, hm29, hS7, HA3, HM3, HG7, HW7, HK7, HO7, HQ3⟩
              case measure => simp [intOf]; omega
          · have h5 : ¬ (i : Int) < (nK : Int) := by omega
            obtain rfl : i = nK := by omega
            have hk : ks.take i = ks := List.take_of_length_le (by rw [HKK.out]; exact Nat.le_refl _)
            rw [hk] at HAr HMr HQr
            have z0 := HKr.out.cell 0
            have z1 := HKr.out.cell 1
            have z2 := HKr.out.cell 2
            have z3 := HKr.out.cell 3
            simp at z0 z1 z2 z3
            have HF := HO.out
            clear hk h5
            obtain ⟨R, hR⟩ : ∃ R, wr.heap.size = R := ⟨_, rfl⟩
            have HRR := Lib.hid hR
            have HWL : Hid (g < R) := Lib.hid (by have := HWr.out.lt; omega)
            have HRL : Hid (wr.heap.size ≤ R) := Lib.hid (Nat.le_of_eq hR)
            have HWR : Hid (w0.heap.size ≤ R) := Lib.hid (by have := HBr.out.size; omega)
            have hBR : B < R := by omega
            have HRG : Hid (R ≤ wr.heap.size) := Lib.hid (Nat.le_of_eq HRR.out.symm)
            have HSPr : Hid (SpA wr AS S) := Lib.hid (HSP.out.below HBr.out (Nat.le_refl _))
            have HLSr : Hid (Lst wr) := Lib.hid (HLS.out.below HBr.out (Nat.le_refl _))
            have l1 : ∀ x : Later R wr, x.v.cell? ⟨B, 1, none⟩ = some (.int .i64 f) := fun x => x.cell hBR z1
            have l2 : ∀ x : Later R wr, x.v.cell? ⟨B, 2, none⟩ = some (.string t) := fun x => x.cell hBR z2
            have l3 : ∀ x : Later R wr, x.v.cell? ⟨B, 3, none⟩ = some (.slice AS nS cS) := fun x => x.cell hBR z3
            clear hR hBR z1 z2 z3
            rcases shape_yes HF with ⟨hkd, hnK⟩ | ⟨hkd, hnK⟩ | ⟨hkd, hnK⟩
            · subst hnK
              rcases hkd with rfl | rfl | rfl | rfl | rfl
              · go_wp2
                go_ret2
                refine qend ?_ (by unfold leafB; simp) HSS.out HKK.out HO.out HAr.out HMr.out HWr.out HGr.out
                rw [QV]; exact .inl ⟨rfl, rfl⟩
              · obtain ⟨b, hb⟩ : ∃ b, flag1 f = b := ⟨_, rfl⟩
                obtain ⟨z, hz⟩ : ∃ z, wB (fwL f) = z := ⟨_, rfl⟩
                have e1 : z.toList.isEmpty = !b := hz ▸ wB_empty hb
                have HZ := Lib.hid hz
                have HFB := Lib.hid hb
                clear hz hb
                cases b <;> simp at e1
                all_goals (
                  go_wp2
                  refine wp_region_later R wr (by kernel_rfl) (by kernel_rfl) ?_
                  repeat (go_big_quiet_step ((go_at_call 86; refine (flagword_later HZ.out HLSr.out HRL.out _).mono ?_; rintro e w2 ⟨rfl, hb2⟩; exact ⟨rfl, Later.call _ hb2 HRG.out⟩)))
                  refine wpQuiet_nil ?_
                  intro _ hw'
                  obtain ⟨⟨w2, hb2⟩, rfl⟩ := hw'
                  have HW2 := Lib.hid (HWr.out.below hb2 HWL.out)
                  have HG2 := Lib.hid (gr_trans HGr.out (gr_below (hb2.mono HRL.out) (some g)))
                  clear hb2
                  go_wp2
                  go_ret2
                  refine qend ?_ (by unfold leafB; simp [HFB.out, e1]) HSS.out HKK.out HO.out HAr.out HMr.out HW2.out HG2.out
                  rw [QV]; exact .inr (.inl ⟨rfl, rfl⟩))
              · obtain ⟨b, hb⟩ : ∃ b, nameB t.data.toList = b := ⟨_, rfl⟩
                have HFB := Lib.hid hb
                clear hb
                go_wp2
                refine wp_region_later R wr (by kernel_rfl) (by kernel_rfl) ?_
                repeat (go_big_quiet_step ((go_at_call 95; refine (name_later HFB.out HT4.out _).mono ?_; rintro e w2 ⟨rfl, hb2⟩; exact ⟨rfl, Later.call _ hb2 HRG.out⟩)))
                refine wpQuiet_nil ?_
                intro _ hw'
                obtain ⟨⟨w2, hb2⟩, rfl⟩ := hw'
                have HW2 := Lib.hid (HWr.out.below hb2 HWL.out)
                have HG2 := Lib.hid (gr_trans HGr.out (gr_below (hb2.mono HRL.out) (some g)))
                clear hb2
                go_wp2
                go_ret2
                refine qend ?_ (by unfold leafB; simp [HFB.out]) HSS.out HKK.out HO.out HAr.out HMr.out HW2.out HG2.out
                rw [QV]; exact .inr (.inr (.inl ⟨rfl, rfl⟩))
              · obtain ⟨b, hb⟩ : ∃ b, setB S = b := ⟨_, rfl⟩
                have HFB := Lib.hid hb
                clear hb
                go_wp2
                refine wp_region_later R wr (by kernel_rfl) (by kernel_rfl) ?_
                repeat (go_big_quiet_step ((go_at_call 96; refine (set_later HSS.out HFB.out HS3.out HSPr.out HRL.out _).mono ?_; rintro e w2 ⟨rfl, hb2⟩; exact ⟨rfl, Later.call _ hb2 HRG.out⟩)))
                refine wpQuiet_nil ?_
                intro _ hw'
                obtain ⟨⟨w2, hb2⟩, rfl⟩ := hw'
                have HW2 := Lib.hid (HWr.out.below hb2 HWL.out)
                have HG2 := Lib.hid (gr_trans HGr.out (gr_below (hb2.mono HRL.out) (some g)))
                clear hb2
                go_wp2
                go_ret2
                refine qend ?_ (by unfold leafB; simp [HFB.out]) HSS.out HKK.out HO.out HAr.out HMr.out HW2.out HG2.out
                rw [QV]; exact .inr (.inr (.inr (.inl ⟨rfl, AS, cS, by rw [HSS.out]; rfl, HSP.out⟩)))
              · obtain ⟨b, hb⟩ : ∃ b, setB S = b := ⟨_, rfl⟩
                have HFB := Lib.hid hb
                clear hb
                go_wp2
                refine wp_region_later R wr (by kernel_rfl) (by kernel_rfl) ?_
                repeat (go_big_quiet_step ((go_at_call 96; refine (set_later HSS.out HFB.out HS3.out HSPr.out HRL.out _).mono ?_; rintro e w2 ⟨rfl, hb2⟩; exact ⟨rfl, Later.call _ hb2 HRG.out⟩)))
                refine wpQuiet_nil ?_
                intro _ hw'
                obtain ⟨⟨w2, hb2⟩, rfl⟩ := hw'
                have HW2 := Lib.hid (HWr.out.below hb2 HWL.out)
                have HG2 := Lib.hid (gr_trans HGr.out (gr_below (hb2.mono HRL.out) (some g)))
                clear hb2
                go_wp2
                go_ret2
                refine qend ?_ (by unfold leafB; simp [HFB.out]) HSS.out HKK.out HO.out HAr.out HMr.out HW2.out HG2.out
                rw [QV]; exact .inr (.inr (.inr (.inr (.inl ⟨rfl, AS, cS, by rw [HSS.out]; rfl, HSP.out⟩))))
            · subst hnK hkd
              obtain ⟨⟨t1, a1⟩, rfl⟩ : ∃ x, qs = [x] := List.length_eq_one_iff.1 HOr.out.len.1.symm
              obtain ⟨A2, c2, he, _, _, hat, hbk, hne⟩ := HOr.out.form
              obtain ⟨gg, rfl⟩ : ∃ gg, A = some ⟨gg, 0, none⟩ := by
                obtain ⟨gg, hgg⟩ := hne (by simp)
                simp at he
                exact ⟨gg, he.1.trans hgg⟩
              clear hat hbk hne he
              have y0 : wr.cell? ⟨gg, 0, none⟩ = some (.iface t1 (.agg a1)) := HOr.out.cell (k := 0) (j := 0) rfl rfl
              go_wp2
              go_ret2
              refine qend ?_ (by unfold leafB; simp) HSS.out HKK.out HO.out HAr.out HMr.out HWr.out HGr.out
              rw [QV]; exact .inr (.inr (.inr (.inr (.inr (.inl ⟨rfl, _, rfl, HQr.out⟩)))))
            · subst hnK
              rcases hkd with rfl | rfl
              · obtain ⟨⟨t1, a1⟩, ⟨t2, a2⟩, rfl⟩ : ∃ x y, qs = [x, y] := len_two HOr.out.len.1.symm
                obtain ⟨A2, c2, he, _, _, hat, hbk, hne⟩ := HOr.out.form
                obtain ⟨gg, rfl⟩ : ∃ gg, A = some ⟨gg, 0, none⟩ := by
                  obtain ⟨gg, hgg⟩ := hne (by simp)
                  simp at he
                  exact ⟨gg, he.1.trans hgg⟩
                clear hat hbk hne he
                have y0 : wr.cell? ⟨gg, 0, none⟩ = some (.iface t1 (.agg a1)) := HOr.out.cell (k := 0) (j := 0) rfl rfl
                have y1 : wr.cell? ⟨gg, 1, none⟩ = some (.iface t2 (.agg a2)) := HOr.out.cell (k := 1) (j := 0) rfl rfl
                have hgr : gg < R := by have := (World.ownsRow.lt HOr.out gg rfl).2; have := HRR.out; omega
                have l4 : ∀ x : Later R wr, x.v.cell? ⟨gg, 0, none⟩ = some (.iface t1 (.agg a1)) := fun x => x.cell hgr y0
                have l5 : ∀ x : Later R wr, x.v.cell? ⟨gg, 1, none⟩ = some (.iface t2 (.agg a2)) := fun x => x.cell hgr y1
                clear y0 y1 hgr
                go_wp2
                refine wp_region_later R wr (by kernel_rfl) (by kernel_rfl) ?_
                repeat (go_big_quiet_step (fail))
                refine wpQuiet_nil ?_
                intro _ hw'
                obtain ⟨⟨w2, hb2⟩, rfl⟩ := hw'
                have HW2 := Lib.hid (HWr.out.below hb2 HWL.out)
                have HG2 := Lib.hid (gr_trans HGr.out (gr_below (hb2.mono HRL.out) (some g)))
                clear hb2
                go_wp2
                go_ret2
                refine qend ?_ (by unfold leafB; simp) HSS.out HKK.out HO.out HAr.out HMr.out HW2.out HG2.out
                rw [QV]; exact .inr (.inr (.inr (.inr (.inr (.inr (.inl ⟨rfl, _, _, rfl, HQr.out⟩))))))
              · obtain ⟨⟨t1, a1⟩, ⟨t2, a2⟩, rfl⟩ : ∃ x y, qs = [x, y] := len_two HOr.out.len.1.symm
                obtain ⟨A2, c2, he, _, _, hat, hbk, hne⟩ := HOr.out.form
                obtain ⟨gg, rfl⟩ : ∃ gg, A = some ⟨gg, 0, none⟩ := by
                  obtain ⟨gg, hgg⟩ := hne (by simp)
                  simp at he
                  exact ⟨gg, he.1.trans hgg⟩
                clear hat hbk hne he
                have y0 : wr.cell? ⟨gg, 0, none⟩ = some (.iface t1 (.agg a1)) := HOr.out.cell (k := 0) (j := 0) rfl rfl
                have y1 : wr.cell? ⟨gg, 1, none⟩ = some (.iface t2 (.agg a2)) := HOr.out.cell (k := 1) (j := 0) rfl rfl
                have hgr : gg < R := by have := (World.ownsRow.lt HOr.out gg rfl).2; have := HRR.out; omega
                have l4 : ∀ x : Later R wr, x.v.cell? ⟨gg, 0, none⟩ = some (.iface t1 (.agg a1)) := fun x => x.cell hgr y0
                have l5 : ∀ x : Later R wr, x.v.cell? ⟨gg, 1, none⟩ = some (.iface t2 (.agg a2)) := fun x => x.cell hgr y1
                clear y0 y1 hgr
                go_wp2
                refine wp_region_later R wr (by kernel_rfl) (by kernel_rfl) ?_
                repeat (go_big_quiet_step (fail))
                refine wpQuiet_nil ?_
                intro _ hw'
                obtain ⟨⟨w2, hb2⟩, rfl⟩ := hw'
                have HW2 := Lib.hid (HWr.out.below hb2 HWL.out)
                have HG2 := Lib.hid (gr_trans HGr.out (gr_below (hb2.mono HRL.out) (some g)))
                clear hb2
                go_wp2
                go_ret2
                refine qend ?_ (by unfold leafB; simp) HSS.out HKK.out HO.out HAr.out HMr.out HW2.out HG2.out
                rw [QV]; exact .inr (.inr (.inr (.inr (.inr (.inr (.inr ⟨rfl, _, _, rfl, HQr.out⟩))))))
end Go.Proofs.YtnfigpknejmkmaaGreatDoor
