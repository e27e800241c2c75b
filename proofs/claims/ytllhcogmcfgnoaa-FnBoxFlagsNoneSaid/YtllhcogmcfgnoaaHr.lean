/-
  The contract of the code's BoxFlags. Condition: the messages and the places can be read, and are not too many.
  The contract of the code's BoxCopy. Condition: the messages and the places can be read, and are not too many.
  The contract of the code's BoxCopy, where all arguments are valid. Condition: the messages and the places can be read, and are not too many.
  The contract of the code's (*chain).expunge. Condition: the chain can be read, is not too long, and its messages are valid.
  The contract of the code's BoxExpunge. Condition: the messages can be read, and are not too many.
  The contract of the model's BoxUids. Condition: the lists can be read, and are not too long.
  The contract of the model's BoxFlags. Condition: the messages and the places can be read, and are not too many.
  The contract of the model's BoxCopy. Condition: the messages and the places can be read, and are not too many.
-/
import Derived.Test.YtllhcogmcfgnoaaHq
import Derived.Deep.RegionWith
import Derived.Outline
import Derived.Test.YtllhcogmcfgnoaaFimp
import Derived.Deep.LoopGhost
import Derived.Deep.RegionLaw
import Derived.BigRegion
namespace Go.Proofs.Ytllhcogmcfgnoaa
open Go.RowKit
set_option linter.unusedVariables false

theorem fst_set {X Y : NX} {k g : Nat} {m m' : ML} (h : Y.map (·.1) = X.map (·.1)) (hk : Y[k]? = some (g, m)) : (Y.set k (g, m')).map (·.1) = X.map (·.1) := by
  rw [← h, List.map_set]
  refine List.ext_getElem? fun j => ?_
  by_cases e : k = j
  · subst e
    have := (List.getElem?_eq_some_iff.1 hk).1
    rw [List.getElem?_set_self (by simpa using this), List.getElem?_map, hk]
    rfl
  · rw [List.getElem?_set_ne e]
theorem fst_at {X Y : NX} {k g : Nat} {m m' : ML} (h : Y.map (·.1) = X.map (·.1)) (hx : X[k]? = some (g, m)) (hy : (Y.map (·.2))[k]? = some m') : Y[k]? = some (g, m') := by
  have h1 := congrArg (fun l => l[k]?) h
  simp only [List.getElem?_map, hx] at h1
  rw [List.getElem?_map] at hy
  cases hk : Y[k]? with
  | none => rw [hk] at hy; cases hy
  | some z =>
    rw [hk] at hy h1
    simp at hy h1
    rw [← hy, ← h1]
theorem plc_place {len : Nat} {P : List Int} (h : plc len 0 P = true) {i : Nat} {x : Int} (hx : P[i]? = some x) : ∃ k : Nat, x = ((k + 1 : Nat) : Int) ∧ k < len := by
  have := plc_get h hx
  exact ⟨x.toNat - 1, by omega, by omega⟩
/-- No mailbox is handed back. -/
theorem no_box {w w' : World} {B : Nat} {u u2 : Value} {r : Int × List ML × Bool} (hB : w.heap.size = B) (hr : r = (0, [], false)) (hb : Below B w w') :
    GivesBB w r.1 r.2.1 r.2.2 (.returned (.tuple #[.agg #[.int .i64 0, .slice none 0 0], .bool false])) ((w'.setCell ⟨B + 1, 0, none⟩ u).setCell ⟨B + 1, 1, none⟩ u2) := by
  subst hr
  exact give_two hB (ROwn.nil _ _) hb

/-- Some change is given. -/
def GivesSome (w : World) (e : Ending) (w' : World) : Prop := ∃ k : Nat, e = .returned (.tuple #[.func (.func k) #[] #[.pointer (some ⟨w.heap.size, 0, none⟩)], .bool true]) ∧ Below w.heap.size w w'
theorem change_some (h o : Int) (w : World) (ho : isF o = true) (hh : howB h = true) : Calls Try.prog 14 #[.int .i64 h, .int .i64 o] w (GivesSome w) := by
  rcases how_of hh with rfl | rfl | rfl
  · exact (change_set o w ho).mono fun e w' h => ⟨_, h.1, h.2.2⟩
  · exact (change_remove o w ho).mono fun e w' h => ⟨_, h.1, h.2.2⟩
  · exact (change_put o w ho).mono fun e w' h => ⟨_, h.1, h.2.2⟩

set_option maxRecDepth 20000 in
set_option maxHeartbeats 8000000 in
theorem impl_flags_no (n : Int) (A : Option Addr) (N cap : Nat) (L : List ML) (A2 : Option Addr) (N2 cap2 : Nat) (P : List Int) (h f : Int) (w : World) (hM : MIn w A N cap L) (hI : IIn w A2 N2 cap2 P)
    (hno : (bOk n L && plc L.length 0 P && howB h && isF f) = false) :
    Calls Try.prog 5 #[.agg #[.int .i64 n, .slice A N cap], .slice A2 N2 cap2, .int .i64 h, .int .i64 f] w (GivesBB w (bxFl n L P h f).1 (bxFl n L P h f).2.1 (bxFl n L P h f).2.2) := by
  obtain ⟨B, hB⟩ : ∃ B, w.heap.size = B := ⟨_, rfl⟩
  have K0 := Lib.hid (((kp_two w 25 25 #[.int .i64 n, .slice A N cap] #[.int .i64 0, .slice none 0 0] hB).and ((hM.keep.alloc (.cells #[.int .i64 n, .slice A N cap] 25)).alloc (.cells #[.int .i64 0, .slice none 0 0] 25))).and ((hI.keep.alloc (.cells #[.int .i64 n, .slice A N cap] 25)).alloc (.cells #[.int .i64 0, .slice none 0 0] 25)))
  have b0 := K0.out.here.1.1.2.1.cell 0
  have b1 := K0.out.here.1.1.2.1.cell 1
  simp at b0 b1
  have HR := Lib.hid (bxFl_no hno)
  have HNO := Lib.hid hno
  clear hM hI hno
  cases hbv : bOk n L with
  | false =>
    have HBV := Lib.hid hbv
    clear hbv
    go_enter Try.func5, Try.ntmps5
    go_wp2_with fail
    refine (link_no n A N cap L _ K0.out.here.1.2 HBV.out).mono ?_
    rintro e w2 ⟨rfl, hb⟩
    have K2 := Lib.hid (K0.out.move hb)
    clear hb
    have r0 := K2.out.here.1.1.2.2.1.cell 0
    have r1 := K2.out.here.1.1.2.2.1.cell 1
    simp at r0 r1
    have g0 := K2.out.here.1.1.2.2.1.free 0
    have g1 := K2.out.here.1.1.2.2.1.free 1
    go_wp2
    refine bodyPost_ret (v := .tuple #[.agg #[.int .i64 0, .slice none 0 0], .bool false]) (by simp [results, Try.results5, go_sem, r0, r1]) rfl ?_
    exact no_box hB HR.out K2.out.here.1.1.1
  | true =>
    have HBV := Lib.hid hbv
    obtain ⟨hl10, hn1⟩ := bxAp_size hbv
    clear hbv
    cases hch : isF f && howB h with
    | false =>
      have HCH := Lib.hid hch
      clear hch
      go_enter Try.func5, Try.ntmps5
      go_wp2_with fail
      refine (link_yes n A N cap L _ K0.out.here.1.2 HBV.out).mono ?_
      rintro e w2 ⟨c, X, rfl, hc1, hc2, hchn, hX, hb⟩
      have K2 := Lib.hid (K0.out.move hb)
      clear hb hchn hX
      go_wp2_with fail
      refine (change_no h f _ HCH.out).mono ?_
      rintro e w3 ⟨rfl, hb⟩
      have K3 := Lib.hid (K2.out.move hb)
      clear hb
      have r0 := K3.out.here.1.1.2.2.1.cell 0
      have r1 := K3.out.here.1.1.2.2.1.cell 1
      simp at r0 r1
      have g0 := K3.out.here.1.1.2.2.1.free 0
      have g1 := K3.out.here.1.1.2.2.1.free 1
      go_wp2
      refine bodyPost_ret (v := .tuple #[.agg #[.int .i64 0, .slice none 0 0], .bool false]) (by simp [results, Try.results5, go_sem, r0, r1]) rfl ?_
      exact no_box hB HR.out K3.out.here.1.1.1
    | true =>
      obtain ⟨hf, hh⟩ := Bool.and_eq_true_iff.1 hch
      have HF := Lib.hid hf
      have HP : Hid (plc L.length 0 P = false) := by
        show _ = _
        have h1 := HNO.out
        rw [HBV.out, hf, hh] at h1
        simpa using h1
      have HH := Lib.hid hh
      clear hch hf hh
      go_enter Try.func5, Try.ntmps5
      go_wp2_with fail
      refine (link_yes n A N cap L _ K0.out.here.1.2 HBV.out).mono ?_
      rintro e w2 ⟨c, X, rfl, hc1, hc2, hchn, hX, hb⟩
      have K2 := Lib.hid ((K0.out.move hb).and hchn.keep)
      have HXE : Hid (X.length = L.length) := by
        show _ = _
        have := congrArg List.length hX
        rw [List.length_map] at this
        exact this
      clear hb hchn hX
      go_wp2_with fail
      refine (change_some h f _ HF.out HH.out).mono ?_
      rintro e w3 ⟨kf, rfl, hb⟩
      have K3 := Lib.hid (K2.out.move hb)
      clear hb
      go_wp2_with fail
      refine (impl_pick c n X A2 N2 cap2 P false _ K3.out.here.2 (by rw [HXE.out]; omega) K3.out.here.1.2 (by rw [HXE.out]; exact HP.out)).mono ?_
      rintro e w4 ⟨rfl, hb⟩
      have K4 := Lib.hid (K3.out.move hb)
      clear hb
      have r0 := K4.out.here.1.1.1.2.2.1.cell 0
      have r1 := K4.out.here.1.1.1.2.2.1.cell 1
      simp at r0 r1
      have g0 := K4.out.here.1.1.1.2.2.1.free 0
      have g1 := K4.out.here.1.1.1.2.2.1.free 1
      go_wp2
      refine bodyPost_ret (v := .tuple #[.agg #[.int .i64 0, .slice none 0 0], .bool false]) (by simp [results, Try.results5, go_sem, r0, r1]) rfl ?_
      exact no_box hB HR.out K4.out.here.1.1.1.1

set_option maxRecDepth 20000 in
set_option maxHeartbeats 8000000 in
theorem impl_flags_set (n : Int) (A : Option Addr) (N cap : Nat) (L : List ML) (A2 : Option Addr) (N2 cap2 : Nat) (P : List Int) (f : Int) (w : World) (hM : MIn w A N cap L) (hI : IIn w A2 N2 cap2 P)
    (hbv : bOk n L = true) (hplc : plc L.length 0 P = true) (hf : isF f = true) :
    Calls Try.prog 5 #[.agg #[.int .i64 n, .slice A N cap], .slice A2 N2 cap2, .int .i64 1, .int .i64 f] w (GivesBB w n (flM P 1 f 1 L) true) := by
  obtain ⟨B, hB⟩ : ∃ B, w.heap.size = B := ⟨_, rfl⟩
  have K0 := Lib.hid (((kp_two w 25 25 #[.int .i64 n, .slice A N cap] #[.int .i64 0, .slice none 0 0] hB).and ((hM.keep.alloc (.cells #[.int .i64 n, .slice A N cap] 25)).alloc (.cells #[.int .i64 0, .slice none 0 0] 25))).and ((hI.keep.alloc (.cells #[.int .i64 n, .slice A N cap] 25)).alloc (.cells #[.int .i64 0, .slice none 0 0] 25)))
  have HSZ : Hid (((w.alloc (.cells #[.int .i64 n, .slice A N cap] 25)).alloc (.cells #[.int .i64 0, .slice none 0 0] 25)).heap.size = B + 1 + 1) := by show _ = _; simp [hB]
  have b0 := K0.out.here.1.1.2.1.cell 0
  have b1 := K0.out.here.1.1.2.1.cell 1
  simp at b0 b1
  have HBV := Lib.hid hbv
  have HPL := Lib.hid hplc
  obtain ⟨hl10, hn1⟩ := bxAp_size hbv
  obtain ⟨o, ho, rfl⟩ := isF_nat hf
  have HF := Lib.hid hf
  clear hM hI hbv hplc hf
  go_enter Try.func5, Try.ntmps5
  go_wp2_with fail
  refine (link_yes n A N cap L _ K0.out.here.1.2 HBV.out).mono ?_
  rintro e w2 ⟨c, X, rfl, hc1, hc2, hchn, hX, hb⟩
  rw [HSZ.out] at hc1
  have K2 := Lib.hid ((K0.out.move hb).and hchn.keep)
  have HX := Lib.hid hX
  have HXE : Hid (X.length = L.length) := by
    show _ = _
    have := congrArg List.length hX
    rw [List.length_map] at this
    exact this
  have HXB := Lib.hid (fun (i g : Nat) (m : ML) (hx : X[i]? = some (g, m)) => hchn.nds.size hx)
  clear hb hchn hX
  go_wp2_with fail
  refine (change_set (o : Int) _ HF.out).mono ?_
  rintro e w3 ⟨rfl, hcell, hb⟩
  have hlt3 : w2.heap.size < w3.heap.size := by simpa using block_lt_of_cell hcell
  have K3 := Lib.hid ((K2.out.move hb).and (F := fun w' => _) (G := fun w' => w'.cell? ⟨w2.heap.size, 0, none⟩ = some (.int .i64 (o : Int)) ∧ w3.heap.size ≤ w'.heap.size) (fun w4 h4 => ⟨(h4.cell (p := ⟨w2.heap.size, 0, none⟩) hlt3).trans hcell, h4.size⟩))
  clear hb hcell
  go_wp2_with fail
  refine (impl_pick c n X A2 N2 cap2 P true _ K3.out.here.1.2 (by rw [HXE.out]; omega) K3.out.here.1.1.2 (by rw [HXE.out]; exact HPL.out)).mono ?_
  rintro e w4 ⟨A4, cap4, rfl, hown, hb⟩
  have K4 := Lib.hid (K3.out.move hb)
  have HO := Lib.hid (hown.from (Nat.le_of_lt hlt3))
  clear hb hown
  obtain ⟨C2, hC2⟩ : ∃ C2, w2.heap.size = C2 := ⟨_, rfl⟩
  have HC2 := Lib.hid hC2
  rw [hC2] at HO hc2 hlt3 K4
  rw [hC2] at HXB ⊢
  obtain ⟨Q, hQ⟩ : ∃ Q, P.length = Q := ⟨_, rfl⟩
  have HQ := Lib.hid hQ
  have hQ10 : Q ≤ 10 := by rw [← hQ]; exact Nat.le_trans (plc_len HPL.out) hl10
  rw [hQ] at HO ⊢
  clear hQ hC2
  go_wp2
  go_loopw [44] (fun i wr => ∃ (j : Nat) (Y : NX), j ≤ Q ∧ i = .int .i64 (j : Int) ∧ Hid (Chn wr c n Y) ∧ Hid (Y.map (·.1) = X.map (·.1)) ∧ Hid (Y.map (·.2) = flM (P.take j) 1 (o : Int) 1 L) ∧ Hid (ROwn ptrR wr C2 (.slice A4 Q cap4) (atN X P)) ∧
      Hid (wr.cell? ⟨C2, 0, none⟩ = some (.int .i64 (o : Int))) ∧ Hid (Below (B + 1 + 1) w4 wr)) (fun i _ => Q - (intOf i).toNat)
  case atStart => exact ⟨0, X, Nat.zero_le _, by go_num, K4.out.here.1.2, rfl, by show _ = _; rw [HX.out, List.take_zero, flM_nil], HO, K4.out.here.2.1, Below.refl _ _⟩
  case round =>
    obtain ⟨j, Y, hj, rfl, HC, HY1, HY2, HO, HCE, HB⟩ := hrel
    by_cases hlt : j < Q
    · have h0 : (0 : Int) ≤ (j : Int) := by omega
      have h5 : (j : Int) < (Q : Int) := by omega
      obtain ⟨x, hx⟩ : ∃ x, P[j]? = some x := ⟨_, List.getElem?_eq_getElem (by rw [HQ.out]; exact hlt)⟩
      obtain ⟨k, rfl, hk⟩ := plc_place HPL.out hx
      obtain ⟨m, hm⟩ : ∃ m, L[k]? = some m := ⟨_, List.getElem?_eq_getElem hk⟩
      obtain ⟨⟨g, m0⟩, hg⟩ : ∃ y, X[k]? = some y := ⟨_, List.getElem?_eq_getElem (by rw [HXE.out]; exact hk)⟩
      obtain ⟨s1, s2⟩ := flM_step (h := 1) (f := (o : Int)) HPL.out hx hm
      have hy := fst_at HY1.out hg (by rw [HY2.out]; exact s1)
      have hgat := atN_get hx (X := X) (g := g) (m := m0) (by rw [show (((k + 1 : Nat) : Int)).toNat - 1 = k by omega]; exact hg)
      obtain ⟨pb, po, hAe, hpb, p0⟩ := ptr_at HO.out.at hgat
      obtain ⟨u, fl, t⟩ := m
      obtain ⟨-, d1, -, -⟩ := HC.out.nds.cells hy
      have d1f := HC.out.nds.free hy 1
      have hgC := HXB.out k g m0 hg
      have hgc := (HC.out.nds.node k g _ hy).1
      have hmok := ((bOk_iff.1 HBV.out).1 _ (List.mem_of_getElem? hm)).1
      obtain ⟨a, ha, hae⟩ := isF_nat (mOk_iff.1 hmok).2.1
      simp only at hae d1
      subst hae
      obtain ⟨z, hz⟩ : ∃ z, chN a 1 o = z := ⟨_, rfl⟩
      have hfl := HC.out.flag hy (z : Int)
      have hchm : chM 1 (o : Int) (u, (a : Int), t) = (u, (z : Int), t) := by rw [← hz]; rfl
      rw [hchm] at s2
      have HFL := Lib.hid hfl
      have HS2 := Lib.hid s2
      have HZ := Lib.hid hz
      have HYG := Lib.hid hy
      have hgC' : ¬ g = C2 := by omega
      have hce := HCE.out
      clear s1 s2 hy hgat hx hg hm hmok hfl hchm hz
      subst hAe
      go_wp2_with fail
      refine (clo_set a o C2 _ ha ho hce).mono ?_
      rintro e w5 ⟨rfl, kk, rfl⟩
      rw [HZ.out]
      go_wp2
      go_roundw
      case rel =>
        refine ⟨j + 1, Y.set k (g, (u, (z : Int), t)), by omega, by go_num, HFL.out.drewN kk, ?_, ?_, ?_, ?_, ?_⟩
        · show _ = _
          rw [fst_set HY1.out HYG.out]
        · show _ = _
          rw [← HS2.out, List.map_set, HY2.out]
        · exact (HO.out.store (p := ⟨g, 1, none⟩) (HO.out.base g (by omega)) _).drewN kk
        · exact (World.cell?_setCell_other wr _ _ _ (by intro e; injection e with e1; exact hgC' e1)).trans HCE.out
        · exact below_drewN' (HB.out.setCell (p := ⟨g, 1, none⟩) (by simp; omega) _) kk
      case measure => simp [intOf]; omega
    · have h5 : ¬ (j : Int) < (Q : Int) := by omega
      have hjQ : j = Q := by omega
      have HYE : Hid (Y.map (·.2) = flM P 1 (o : Int) 1 L) := by
        show _ = _
        rw [HY2.out, List.take_of_length_le (by rw [HQ.out]; omega)]
      have hYl : Y.length ≤ 20 := by
        have h1 := congrArg List.length HYE.out
        rw [List.length_map, flM_len] at h1
        omega
      have W5 := Lib.hid (K4.out.here.1.1.1.1.2.2.1.below HB.out (by omega))
      have B5 := Lib.hid (K4.out.here.1.1.1.1.1.trans (HB.out.mono (by omega)))
      have hz5 := Nat.le_trans K4.out.here.1.1.1.1.2.2.2 HB.out.size
      clear hjQ
      go_wp2_with fail
      refine (impl_box c n Y _ HC.out hYl).mono ?_
      rintro e w6 ⟨A6, N6, cap6, rfl, hown, hb⟩
      have W6 := Lib.hid (W5.out.below hb (by omega))
      have B6 := Lib.hid (B5.out.trans (hb.mono (by omega)))
      have HO6 := Lib.hid (hown.from hz5)
      clear hb hown
      have r0 := W6.out.cell 0
      have r1 := W6.out.cell 1
      simp at r0 r1
      have g0 := W6.out.free 0
      have g1 := W6.out.free 1
      go_wp2
      refine bodyPost_ret (v := .tuple #[.agg #[.int .i64 n, .slice A6 N6 cap6], .bool true]) (by simp [results, Try.results5, go_sem, r0, r1]) rfl ?_
      exact give_two hB (by rw [← HYE.out]; exact HO6.out) B6.out

set_option maxRecDepth 20000 in
set_option maxHeartbeats 8000000 in
theorem impl_flags_remove (n : Int) (A : Option Addr) (N cap : Nat) (L : List ML) (A2 : Option Addr) (N2 cap2 : Nat) (P : List Int) (f : Int) (w : World) (hM : MIn w A N cap L) (hI : IIn w A2 N2 cap2 P)
    (hbv : bOk n L = true) (hplc : plc L.length 0 P = true) (hf : isF f = true) :
    Calls Try.prog 5 #[.agg #[.int .i64 n, .slice A N cap], .slice A2 N2 cap2, .int .i64 (-1), .int .i64 f] w (GivesBB w n (flM P (-1) f 1 L) true) := by
  obtain ⟨B, hB⟩ : ∃ B, w.heap.size = B := ⟨_, rfl⟩
  have K0 := Lib.hid (((kp_two w 25 25 #[.int .i64 n, .slice A N cap] #[.int .i64 0, .slice none 0 0] hB).and ((hM.keep.alloc (.cells #[.int .i64 n, .slice A N cap] 25)).alloc (.cells #[.int .i64 0, .slice none 0 0] 25))).and ((hI.keep.alloc (.cells #[.int .i64 n, .slice A N cap] 25)).alloc (.cells #[.int .i64 0, .slice none 0 0] 25)))
  have HSZ : Hid (((w.alloc (.cells #[.int .i64 n, .slice A N cap] 25)).alloc (.cells #[.int .i64 0, .slice none 0 0] 25)).heap.size = B + 1 + 1) := by show _ = _; simp [hB]
  have b0 := K0.out.here.1.1.2.1.cell 0
  have b1 := K0.out.here.1.1.2.1.cell 1
  simp at b0 b1
  have HBV := Lib.hid hbv
  have HPL := Lib.hid hplc
  obtain ⟨hl10, hn1⟩ := bxAp_size hbv
  obtain ⟨o, ho, rfl⟩ := isF_nat hf
  have HF := Lib.hid hf
  clear hM hI hbv hplc hf
  go_enter Try.func5, Try.ntmps5
  go_wp2_with fail
  refine (link_yes n A N cap L _ K0.out.here.1.2 HBV.out).mono ?_
  rintro e w2 ⟨c, X, rfl, hc1, hc2, hchn, hX, hb⟩
  rw [HSZ.out] at hc1
  have K2 := Lib.hid ((K0.out.move hb).and hchn.keep)
  have HX := Lib.hid hX
  have HXE : Hid (X.length = L.length) := by
    show _ = _
    have := congrArg List.length hX
    rw [List.length_map] at this
    exact this
  have HXB := Lib.hid (fun (i g : Nat) (m : ML) (hx : X[i]? = some (g, m)) => hchn.nds.size hx)
  clear hb hchn hX
  go_wp2_with fail
  refine (change_remove (o : Int) _ HF.out).mono ?_
  rintro e w3 ⟨rfl, hcell, hb⟩
  have hlt3 : w2.heap.size < w3.heap.size := by simpa using block_lt_of_cell hcell
  have K3 := Lib.hid ((K2.out.move hb).and (F := fun w' => _) (G := fun w' => w'.cell? ⟨w2.heap.size, 0, none⟩ = some (.int .i64 (o : Int)) ∧ w3.heap.size ≤ w'.heap.size) (fun w4 h4 => ⟨(h4.cell (p := ⟨w2.heap.size, 0, none⟩) hlt3).trans hcell, h4.size⟩))
  clear hb hcell
  go_wp2_with fail
  refine (impl_pick c n X A2 N2 cap2 P true _ K3.out.here.1.2 (by rw [HXE.out]; omega) K3.out.here.1.1.2 (by rw [HXE.out]; exact HPL.out)).mono ?_
  rintro e w4 ⟨A4, cap4, rfl, hown, hb⟩
  have K4 := Lib.hid (K3.out.move hb)
  have HO := Lib.hid (hown.from (Nat.le_of_lt hlt3))
  clear hb hown
  obtain ⟨C2, hC2⟩ : ∃ C2, w2.heap.size = C2 := ⟨_, rfl⟩
  have HC2 := Lib.hid hC2
  rw [hC2] at HO hc2 hlt3 K4
  rw [hC2] at HXB ⊢
  obtain ⟨Q, hQ⟩ : ∃ Q, P.length = Q := ⟨_, rfl⟩
  have HQ := Lib.hid hQ
  have hQ10 : Q ≤ 10 := by rw [← hQ]; exact Nat.le_trans (plc_len HPL.out) hl10
  rw [hQ] at HO ⊢
  clear hQ hC2
  go_wp2
  go_loopw [44] (fun i wr => ∃ (j : Nat) (Y : NX), j ≤ Q ∧ i = .int .i64 (j : Int) ∧ Hid (Chn wr c n Y) ∧ Hid (Y.map (·.1) = X.map (·.1)) ∧ Hid (Y.map (·.2) = flM (P.take j) (-1) (o : Int) 1 L) ∧ Hid (ROwn ptrR wr C2 (.slice A4 Q cap4) (atN X P)) ∧
      Hid (wr.cell? ⟨C2, 0, none⟩ = some (.int .i64 (o : Int))) ∧ Hid (Below (B + 1 + 1) w4 wr)) (fun i _ => Q - (intOf i).toNat)
  case atStart => exact ⟨0, X, Nat.zero_le _, by go_num, K4.out.here.1.2, rfl, by show _ = _; rw [HX.out, List.take_zero, flM_nil], HO, K4.out.here.2.1, Below.refl _ _⟩
  case round =>
    obtain ⟨j, Y, hj, rfl, HC, HY1, HY2, HO, HCE, HB⟩ := hrel
    by_cases hlt : j < Q
    · have h0 : (0 : Int) ≤ (j : Int) := by omega
      have h5 : (j : Int) < (Q : Int) := by omega
      obtain ⟨x, hx⟩ : ∃ x, P[j]? = some x := ⟨_, List.getElem?_eq_getElem (by rw [HQ.out]; exact hlt)⟩
      obtain ⟨k, rfl, hk⟩ := plc_place HPL.out hx
      obtain ⟨m, hm⟩ : ∃ m, L[k]? = some m := ⟨_, List.getElem?_eq_getElem hk⟩
      obtain ⟨⟨g, m0⟩, hg⟩ : ∃ y, X[k]? = some y := ⟨_, List.getElem?_eq_getElem (by rw [HXE.out]; exact hk)⟩
      obtain ⟨s1, s2⟩ := flM_step (h := (-1)) (f := (o : Int)) HPL.out hx hm
      have hy := fst_at HY1.out hg (by rw [HY2.out]; exact s1)
      have hgat := atN_get hx (X := X) (g := g) (m := m0) (by rw [show (((k + 1 : Nat) : Int)).toNat - 1 = k by omega]; exact hg)
      obtain ⟨pb, po, hAe, hpb, p0⟩ := ptr_at HO.out.at hgat
      obtain ⟨u, fl, t⟩ := m
      obtain ⟨-, d1, -, -⟩ := HC.out.nds.cells hy
      have d1f := HC.out.nds.free hy 1
      have hgC := HXB.out k g m0 hg
      have hgc := (HC.out.nds.node k g _ hy).1
      have hmok := ((bOk_iff.1 HBV.out).1 _ (List.mem_of_getElem? hm)).1
      obtain ⟨a, ha, hae⟩ := isF_nat (mOk_iff.1 hmok).2.1
      simp only at hae d1
      subst hae
      obtain ⟨z, hz⟩ : ∃ z, chN a (-1) o = z := ⟨_, rfl⟩
      have hfl := HC.out.flag hy (z : Int)
      have hchm : chM (-1) (o : Int) (u, (a : Int), t) = (u, (z : Int), t) := by rw [← hz]; rfl
      rw [hchm] at s2
      have HFL := Lib.hid hfl
      have HS2 := Lib.hid s2
      have HZ := Lib.hid hz
      have HYG := Lib.hid hy
      have hgC' : ¬ g = C2 := by omega
      have hce := HCE.out
      clear s1 s2 hy hgat hx hg hm hmok hfl hchm hz
      subst hAe
      go_wp2_with fail
      refine (clo_remove a o C2 _ ha ho hce).mono ?_
      rintro e w5 ⟨rfl, kk, rfl⟩
      rw [HZ.out]
      go_wp2
      go_roundw
      case rel =>
        refine ⟨j + 1, Y.set k (g, (u, (z : Int), t)), by omega, by go_num, HFL.out.drewN kk, ?_, ?_, ?_, ?_, ?_⟩
        · show _ = _
          rw [fst_set HY1.out HYG.out]
        · show _ = _
          rw [← HS2.out, List.map_set, HY2.out]
        · exact (HO.out.store (p := ⟨g, 1, none⟩) (HO.out.base g (by omega)) _).drewN kk
        · exact (World.cell?_setCell_other wr _ _ _ (by intro e; injection e with e1; exact hgC' e1)).trans HCE.out
        · exact below_drewN' (HB.out.setCell (p := ⟨g, 1, none⟩) (by simp; omega) _) kk
      case measure => simp [intOf]; omega
    · have h5 : ¬ (j : Int) < (Q : Int) := by omega
      have hjQ : j = Q := by omega
      have HYE : Hid (Y.map (·.2) = flM P (-1) (o : Int) 1 L) := by
        show _ = _
        rw [HY2.out, List.take_of_length_le (by rw [HQ.out]; omega)]
      have hYl : Y.length ≤ 20 := by
        have h1 := congrArg List.length HYE.out
        rw [List.length_map, flM_len] at h1
        omega
      have W5 := Lib.hid (K4.out.here.1.1.1.1.2.2.1.below HB.out (by omega))
      have B5 := Lib.hid (K4.out.here.1.1.1.1.1.trans (HB.out.mono (by omega)))
      have hz5 := Nat.le_trans K4.out.here.1.1.1.1.2.2.2 HB.out.size
      clear hjQ
      go_wp2_with fail
      refine (impl_box c n Y _ HC.out hYl).mono ?_
      rintro e w6 ⟨A6, N6, cap6, rfl, hown, hb⟩
      have W6 := Lib.hid (W5.out.below hb (by omega))
      have B6 := Lib.hid (B5.out.trans (hb.mono (by omega)))
      have HO6 := Lib.hid (hown.from hz5)
      clear hb hown
      have r0 := W6.out.cell 0
      have r1 := W6.out.cell 1
      simp at r0 r1
      have g0 := W6.out.free 0
      have g1 := W6.out.free 1
      go_wp2
      refine bodyPost_ret (v := .tuple #[.agg #[.int .i64 n, .slice A6 N6 cap6], .bool true]) (by simp [results, Try.results5, go_sem, r0, r1]) rfl ?_
      exact give_two hB (by rw [← HYE.out]; exact HO6.out) B6.out

set_option maxRecDepth 20000 in
set_option maxHeartbeats 8000000 in
theorem impl_flags_put (n : Int) (A : Option Addr) (N cap : Nat) (L : List ML) (A2 : Option Addr) (N2 cap2 : Nat) (P : List Int) (f : Int) (w : World) (hM : MIn w A N cap L) (hI : IIn w A2 N2 cap2 P)
    (hbv : bOk n L = true) (hplc : plc L.length 0 P = true) (hf : isF f = true) :
    Calls Try.prog 5 #[.agg #[.int .i64 n, .slice A N cap], .slice A2 N2 cap2, .int .i64 0, .int .i64 f] w (GivesBB w n (flM P 0 f 1 L) true) := by
  obtain ⟨B, hB⟩ : ∃ B, w.heap.size = B := ⟨_, rfl⟩
  have K0 := Lib.hid (((kp_two w 25 25 #[.int .i64 n, .slice A N cap] #[.int .i64 0, .slice none 0 0] hB).and ((hM.keep.alloc (.cells #[.int .i64 n, .slice A N cap] 25)).alloc (.cells #[.int .i64 0, .slice none 0 0] 25))).and ((hI.keep.alloc (.cells #[.int .i64 n, .slice A N cap] 25)).alloc (.cells #[.int .i64 0, .slice none 0 0] 25)))
  have HSZ : Hid (((w.alloc (.cells #[.int .i64 n, .slice A N cap] 25)).alloc (.cells #[.int .i64 0, .slice none 0 0] 25)).heap.size = B + 1 + 1) := by show _ = _; simp [hB]
  have b0 := K0.out.here.1.1.2.1.cell 0
  have b1 := K0.out.here.1.1.2.1.cell 1
  simp at b0 b1
  have HBV := Lib.hid hbv
  have HPL := Lib.hid hplc
  obtain ⟨hl10, hn1⟩ := bxAp_size hbv
  obtain ⟨o, ho, rfl⟩ := isF_nat hf
  have HF := Lib.hid hf
  clear hM hI hbv hplc hf
  go_enter Try.func5, Try.ntmps5
  go_wp2_with fail
  refine (link_yes n A N cap L _ K0.out.here.1.2 HBV.out).mono ?_
  rintro e w2 ⟨c, X, rfl, hc1, hc2, hchn, hX, hb⟩
  rw [HSZ.out] at hc1
  have K2 := Lib.hid ((K0.out.move hb).and hchn.keep)
  have HX := Lib.hid hX
  have HXE : Hid (X.length = L.length) := by
    show _ = _
    have := congrArg List.length hX
    rw [List.length_map] at this
    exact this
  have HXB := Lib.hid (fun (i g : Nat) (m : ML) (hx : X[i]? = some (g, m)) => hchn.nds.size hx)
  clear hb hchn hX
  go_wp2_with fail
  refine (change_put (o : Int) _ HF.out).mono ?_
  rintro e w3 ⟨rfl, hcell, hb⟩
  have hlt3 : w2.heap.size < w3.heap.size := by simpa using block_lt_of_cell hcell
  have K3 := Lib.hid ((K2.out.move hb).and (F := fun w' => _) (G := fun w' => w'.cell? ⟨w2.heap.size, 0, none⟩ = some (.int .i64 (o : Int)) ∧ w3.heap.size ≤ w'.heap.size) (fun w4 h4 => ⟨(h4.cell (p := ⟨w2.heap.size, 0, none⟩) hlt3).trans hcell, h4.size⟩))
  clear hb hcell
  go_wp2_with fail
  refine (impl_pick c n X A2 N2 cap2 P true _ K3.out.here.1.2 (by rw [HXE.out]; omega) K3.out.here.1.1.2 (by rw [HXE.out]; exact HPL.out)).mono ?_
  rintro e w4 ⟨A4, cap4, rfl, hown, hb⟩
  have K4 := Lib.hid (K3.out.move hb)
  have HO := Lib.hid (hown.from (Nat.le_of_lt hlt3))
  clear hb hown
  obtain ⟨C2, hC2⟩ : ∃ C2, w2.heap.size = C2 := ⟨_, rfl⟩
  have HC2 := Lib.hid hC2
  rw [hC2] at HO hc2 hlt3 K4
  rw [hC2] at HXB ⊢
  obtain ⟨Q, hQ⟩ : ∃ Q, P.length = Q := ⟨_, rfl⟩
  have HQ := Lib.hid hQ
  have hQ10 : Q ≤ 10 := by rw [← hQ]; exact Nat.le_trans (plc_len HPL.out) hl10
  rw [hQ] at HO ⊢
  clear hQ hC2
  go_wp2
  go_loopw [44] (fun i wr => ∃ (j : Nat) (Y : NX), j ≤ Q ∧ i = .int .i64 (j : Int) ∧ Hid (Chn wr c n Y) ∧ Hid (Y.map (·.1) = X.map (·.1)) ∧ Hid (Y.map (·.2) = flM (P.take j) 0 (o : Int) 1 L) ∧ Hid (ROwn ptrR wr C2 (.slice A4 Q cap4) (atN X P)) ∧
      Hid (wr.cell? ⟨C2, 0, none⟩ = some (.int .i64 (o : Int))) ∧ Hid (Below (B + 1 + 1) w4 wr)) (fun i _ => Q - (intOf i).toNat)
  case atStart => exact ⟨0, X, Nat.zero_le _, by go_num, K4.out.here.1.2, rfl, by show _ = _; rw [HX.out, List.take_zero, flM_nil], HO, K4.out.here.2.1, Below.refl _ _⟩
  case round =>
    obtain ⟨j, Y, hj, rfl, HC, HY1, HY2, HO, HCE, HB⟩ := hrel
    by_cases hlt : j < Q
    · have h0 : (0 : Int) ≤ (j : Int) := by omega
      have h5 : (j : Int) < (Q : Int) := by omega
      obtain ⟨x, hx⟩ : ∃ x, P[j]? = some x := ⟨_, List.getElem?_eq_getElem (by rw [HQ.out]; exact hlt)⟩
      obtain ⟨k, rfl, hk⟩ := plc_place HPL.out hx
      obtain ⟨m, hm⟩ : ∃ m, L[k]? = some m := ⟨_, List.getElem?_eq_getElem hk⟩
      obtain ⟨⟨g, m0⟩, hg⟩ : ∃ y, X[k]? = some y := ⟨_, List.getElem?_eq_getElem (by rw [HXE.out]; exact hk)⟩
      obtain ⟨s1, s2⟩ := flM_step (h := 0) (f := (o : Int)) HPL.out hx hm
      have hy := fst_at HY1.out hg (by rw [HY2.out]; exact s1)
      have hgat := atN_get hx (X := X) (g := g) (m := m0) (by rw [show (((k + 1 : Nat) : Int)).toNat - 1 = k by omega]; exact hg)
      obtain ⟨pb, po, hAe, hpb, p0⟩ := ptr_at HO.out.at hgat
      obtain ⟨u, fl, t⟩ := m
      obtain ⟨-, d1, -, -⟩ := HC.out.nds.cells hy
      have d1f := HC.out.nds.free hy 1
      have hgC := HXB.out k g m0 hg
      have hgc := (HC.out.nds.node k g _ hy).1
      have hmok := ((bOk_iff.1 HBV.out).1 _ (List.mem_of_getElem? hm)).1
      obtain ⟨a, ha, hae⟩ := isF_nat (mOk_iff.1 hmok).2.1
      simp only at hae d1
      subst hae
      obtain ⟨z, hz⟩ : ∃ z, chN a 0 o = z := ⟨_, rfl⟩
      have hfl := HC.out.flag hy (z : Int)
      have hchm : chM 0 (o : Int) (u, (a : Int), t) = (u, (z : Int), t) := by rw [← hz]; rfl
      rw [hchm] at s2
      have HFL := Lib.hid hfl
      have HS2 := Lib.hid s2
      have HZ := Lib.hid hz
      have HYG := Lib.hid hy
      have hgC' : ¬ g = C2 := by omega
      have hce := HCE.out
      clear s1 s2 hy hgat hx hg hm hmok hfl hchm hz
      subst hAe
      go_wp2_with fail
      refine (clo_put a o C2 _ ha ho hce).mono ?_
      rintro e w5 ⟨rfl, kk, rfl⟩
      rw [HZ.out]
      go_wp2
      go_roundw
      case rel =>
        refine ⟨j + 1, Y.set k (g, (u, (z : Int), t)), by omega, by go_num, HFL.out.drewN kk, ?_, ?_, ?_, ?_, ?_⟩
        · show _ = _
          rw [fst_set HY1.out HYG.out]
        · show _ = _
          rw [← HS2.out, List.map_set, HY2.out]
        · exact (HO.out.store (p := ⟨g, 1, none⟩) (HO.out.base g (by omega)) _).drewN kk
        · exact (World.cell?_setCell_other wr _ _ _ (by intro e; injection e with e1; exact hgC' e1)).trans HCE.out
        · exact below_drewN' (HB.out.setCell (p := ⟨g, 1, none⟩) (by simp; omega) _) kk
      case measure => simp [intOf]; omega
    · have h5 : ¬ (j : Int) < (Q : Int) := by omega
      have hjQ : j = Q := by omega
      have HYE : Hid (Y.map (·.2) = flM P 0 (o : Int) 1 L) := by
        show _ = _
        rw [HY2.out, List.take_of_length_le (by rw [HQ.out]; omega)]
      have hYl : Y.length ≤ 20 := by
        have h1 := congrArg List.length HYE.out
        rw [List.length_map, flM_len] at h1
        omega
      have W5 := Lib.hid (K4.out.here.1.1.1.1.2.2.1.below HB.out (by omega))
      have B5 := Lib.hid (K4.out.here.1.1.1.1.1.trans (HB.out.mono (by omega)))
      have hz5 := Nat.le_trans K4.out.here.1.1.1.1.2.2.2 HB.out.size
      clear hjQ
      go_wp2_with fail
      refine (impl_box c n Y _ HC.out hYl).mono ?_
      rintro e w6 ⟨A6, N6, cap6, rfl, hown, hb⟩
      have W6 := Lib.hid (W5.out.below hb (by omega))
      have B6 := Lib.hid (B5.out.trans (hb.mono (by omega)))
      have HO6 := Lib.hid (hown.from hz5)
      clear hb hown
      have r0 := W6.out.cell 0
      have r1 := W6.out.cell 1
      simp at r0 r1
      have g0 := W6.out.free 0
      have g1 := W6.out.free 1
      go_wp2
      refine bodyPost_ret (v := .tuple #[.agg #[.int .i64 n, .slice A6 N6 cap6], .bool true]) (by simp [results, Try.results5, go_sem, r0, r1]) rfl ?_
      exact give_two hB (by rw [← HYE.out]; exact HO6.out) B6.out

theorem impl_flags (n : Int) (A : Option Addr) (N cap : Nat) (L : List ML) (A2 : Option Addr) (N2 cap2 : Nat) (P : List Int) (h f : Int) (w : World) (hM : MIn w A N cap L) (hI : IIn w A2 N2 cap2 P) :
    Calls Try.prog 5 #[.agg #[.int .i64 n, .slice A N cap], .slice A2 N2 cap2, .int .i64 h, .int .i64 f] w (GivesBB w (bxFl n L P h f).1 (bxFl n L P h f).2.1 (bxFl n L P h f).2.2) := by
  cases hno : bOk n L && plc L.length 0 P && howB h && isF f with
  | false => exact impl_flags_no n A N cap L A2 N2 cap2 P h f w hM hI hno
  | true =>
    obtain ⟨h123, h4⟩ := Bool.and_eq_true_iff.1 hno
    obtain ⟨h12, h3⟩ := Bool.and_eq_true_iff.1 h123
    obtain ⟨h1, h2⟩ := Bool.and_eq_true_iff.1 h12
    rw [bxFl_yes h1 h2 h3 h4]
    rcases how_of h3 with rfl | rfl | rfl
    · exact impl_flags_set n A N cap L A2 N2 cap2 P f w hM hI h1 h2 h4
    · exact impl_flags_remove n A N cap L A2 N2 cap2 P f w hM hI h1 h2 h4
    · exact impl_flags_put n A N cap L A2 N2 cap2 P f w hM hI h1 h2 h4
end Go.Proofs.Ytllhcogmcfgnoaa

namespace Go.Proofs.Ytllhcogmcfgnoaa
open Go.RowKit
set_option linter.unusedVariables false

/-- Three new blocks, one after the other. -/
theorem kp_three (w : World) (t1 t2 t3 : TypeId) (c1 c2 c3 : Array Value) {B : Nat} (hB : w.heap.size = B) :
    Kp (((w.alloc (.cells c1 t1)).alloc (.cells c2 t2)).alloc (.cells c3 t3)) fun w' => (Below B w w' ∧ B + 1 + 1 + 1 ≤ w'.heap.size) ∧ Whole w' B t1 c1 ∧ Whole w' (B + 1) t2 c2 ∧ Whole w' (B + 1 + 1) t3 c3 := fun w2 h2 => by
  have h12 := kp_two w t1 t2 c1 c2 hB
  have e : ((w.alloc (.cells c1 t1)).alloc (.cells c2 t2)).heap.size = B + 1 + 1 := by simp [hB]
  have h3 := kp_one ((w.alloc (.cells c1 t1)).alloc (.cells c2 t2)) t3 c3 e
  obtain ⟨a1, a2, a3⟩ := h3 w2 h2
  obtain ⟨b1, b2, b3, b4⟩ := h12 w2 (e ▸ a1)
  exact ⟨⟨b1, a3⟩, b2, b3, a2⟩
theorem give_at {w w' : World} {B r N cap : Nat} {A : Option Addr} {n : Int} {L : List ML} {b : Bool} {u u2 : Value} (hB : w.heap.size = B) (hr : B ≤ r) (ho : ROwn mailR w' (r + 1) (.slice A N cap) L) (hb : Below B w w') :
    GivesBB w n L b (.returned (.tuple #[.agg #[.int .i64 n, .slice A N cap], .bool b])) ((w'.setCell ⟨r, 0, none⟩ u).setCell ⟨r, 1, none⟩ u2) := by
  refine ⟨A, N, cap, rfl, ?_, ?_⟩
  · rw [hB]
    exact ((ho.store (p := ⟨r, 0, none⟩) (ho.base r (by omega)) _).store (p := ⟨r, 1, none⟩) (ho.base r (by omega)) _).from (by omega)
  · rw [hB]
    exact (hb.setCell (p := ⟨r, 0, none⟩) hr _).setCell (p := ⟨r, 1, none⟩) hr _
theorem no_box_at {w w' : World} {B q : Nat} {u u2 : Value} {r : Int × List ML × Bool} (hB : w.heap.size = B) (hq : B ≤ q) (hr : r = (0, [], false)) (hb : Below B w w') :
    GivesBB w r.1 r.2.1 r.2.2 (.returned (.tuple #[.agg #[.int .i64 0, .slice none 0 0], .bool false])) ((w'.setCell ⟨q, 0, none⟩ u).setCell ⟨q, 1, none⟩ u2) := by
  subst hr
  exact give_at hB hq (ROwn.nil _ _) hb

end Go.Proofs.Ytllhcogmcfgnoaa

namespace Go.Proofs.Ytllhcogmcfgnoaa
open Go.RowKit
set_option linter.unusedVariables false

end Go.Proofs.Ytllhcogmcfgnoaa

namespace Go.Proofs.Ytllhcogmcfgnoaa
open Go.RowKit
set_option linter.unusedVariables false

theorem lnk_app (c : Nat) {K R : NX} {i : Nat} (h : i ≤ K.length) : lnk c (K ++ R) i = lnk c K i := by
  cases i with
  | zero => rfl
  | succ j =>
    show (⟨((K ++ R).getD j (0, (0, 0, []))).1, 3, none⟩ : Addr) = ⟨(K.getD j (0, (0, 0, []))).1, 3, none⟩
    rw [List.getD_eq_getElem?_getD, List.getD_eq_getElem?_getD, List.getElem?_append_left (by omega)]
theorem mid_at {K R : NX} {y : Nat × ML} : (K ++ y :: R)[K.length]? = some y := by rw [List.getElem?_append_right (Nat.le_refl _), Nat.sub_self]; rfl
theorem mid_next {K R : NX} {y : Nat × ML} : nxt (K ++ y :: R) (K.length + 1) = nxt R 0 := by rw [nxt_app_r (by omega), show K.length + 1 - K.length = 1 by omega]; rfl
/-- A slice of the call's own of another type lies off the links. -/
theorem Chn.off {α : Type} {R : RowT α} {w : World} {B c i : Nat} {n : Int} {X : NX} {v : Value} {M : List α} (h : Chn w c n X) (ho : ROwn R w B v M) (h1 : 67 ≠ R.t) (h2 : 51 ≠ R.t) (hi : i ≤ X.length) : v.ownBlock ≠ some (lnk c X i).block := by
  cases i with
  | zero => exact ho.whole h.head h1
  | succ j =>
    obtain ⟨⟨g, m⟩, hx⟩ : ∃ y, X[j]? = some y := ⟨_, List.getElem?_eq_getElem (by omega)⟩
    rw [lnk_succ hx]
    exact ho.whole (h.nds.node j g m hx).2 h2
/-- The places of what was removed. -/
def GivesX (w : World) (c : Nat) (n : Int) (L : List ML) (e : Ending) (w' : World) : Prop :=
  ∃ A N cap Y, e = .returned (.slice A N cap) ∧ ROwn intR w' w.heap.size (.slice A N cap) (gnI L) ∧ Chn w' c n Y ∧ Y.map (·.2) = kpM L ∧ Below c w w'

end Go.Proofs.Ytllhcogmcfgnoaa

namespace Go.Proofs.Ytllhcogmcfgnoaa
open Go.RowKit
set_option linter.unusedVariables false

end Go.Proofs.Ytllhcogmcfgnoaa

namespace Go.Proofs.Ytllhcogmcfgnoaa
open Go.RowKit
set_option linter.unusedVariables false

theorem boxvalid_at {n : Int} {L : List ML} {b : Bool} (hb : bOk n L = b) (A : Option Addr) (N cap : Nat) (w : World) (h : MIn w A N cap L) :
    Calls Try.prog 17 #[.agg #[.int .i64 n, .slice A N cap]] w (SaysB w b) := by subst hb; exact spec_boxvalid n A N cap L w h.1 h.2.2.1 h.2.1
end Go.Proofs.Ytllhcogmcfgnoaa

namespace Go.Proofs.Ytllhcogmcfgnoaa
open Go.RowKit
set_option linter.unusedVariables false

theorem numbers_at {A A2 : Option Addr} {N N2 cap cap2 : Nat} {P : List Int} {b : Bool} (hb : plc N 0 P = b) (n : Int) (w : World) (hN : N ≤ 33554432) (h : IIn w A2 N2 cap2 P) :
    Calls Try.prog 18 #[.agg #[.int .i64 n, .slice A N cap], .slice A2 N2 cap2] w (SaysB w b) := by subst hb; exact spec_numbers n w hN h
set_option maxRecDepth 20000 in
set_option maxHeartbeats 8000000 in
theorem spec_flags_no (n : Int) (A : Option Addr) (N cap : Nat) (L : List ML) (A2 : Option Addr) (N2 cap2 : Nat) (P : List Int) (h f : Int) (w : World) (hM : MIn w A N cap L) (hI : IIn w A2 N2 cap2 P)
    (hno : (bOk n L && plc L.length 0 P && howB h && isF f) = false) :
    Calls Try.prog 6 #[.agg #[.int .i64 n, .slice A N cap], .slice A2 N2 cap2, .int .i64 h, .int .i64 f] w (GivesBB w (bxFl n L P h f).1 (bxFl n L P h f).2.1 (bxFl n L P h f).2.2) := by
  obtain ⟨B, hB⟩ : ∃ B, w.heap.size = B := ⟨_, rfl⟩
  have K0 := Lib.hid (((kp_two w 25 25 #[.int .i64 n, .slice A N cap] #[.int .i64 0, .slice none 0 0] hB).and ((hM.keep.alloc (.cells #[.int .i64 n, .slice A N cap] 25)).alloc (.cells #[.int .i64 0, .slice none 0 0] 25))).and ((hI.keep.alloc (.cells #[.int .i64 n, .slice A N cap] 25)).alloc (.cells #[.int .i64 0, .slice none 0 0] 25)))
  have b0 := K0.out.here.1.1.2.1.cell 0
  have b1 := K0.out.here.1.1.2.1.cell 1
  simp at b0 b1
  have HR := Lib.hid (bxFl_no hno)
  have HNO := Lib.hid hno
  have HN := Lib.hid hM.1
  have hN25 := hM.2.1
  clear hM hI hno
  obtain ⟨bv, hbv⟩ : ∃ bv, bOk n L = bv := ⟨_, rfl⟩
  obtain ⟨pv, hpv⟩ : ∃ pv, plc N 0 P = pv := ⟨_, rfl⟩
  obtain ⟨hv, hhv⟩ : ∃ hv, howB h = hv := ⟨_, rfl⟩
  obtain ⟨fv, hfv⟩ : ∃ fv, isF f = fv := ⟨_, rfl⟩
  have HBV := Lib.hid hbv
  have HPV := Lib.hid hpv
  have HHV : Hid ((decide (-1 ≤ h) && decide (h ≤ 1)) = hv) := hhv
  have HFV := Lib.hid hfv
  have HALL : Hid ((bv && pv && hv && fv) = false) := by
    show _ = _
    have h1 := HNO.out
    rw [HN.out, hbv, hpv, hhv, hfv] at h1
    exact h1
  clear hbv hpv hhv hfv
  go_enter Try.func6, Try.ntmps6
  go_wp2_with fail
  refine (boxvalid_at HBV.out A N cap _ K0.out.here.1.2).mono ?_
  rintro e w2 ⟨rfl, hb⟩
  have K2 := Lib.hid (K0.out.move hb)
  clear hb b0 b1
  have b0 := K2.out.here.1.1.2.1.cell 0
  have b1 := K2.out.here.1.1.2.1.cell 1
  have r0 := K2.out.here.1.1.2.2.1.cell 0
  have r1 := K2.out.here.1.1.2.2.1.cell 1
  simp at b0 b1 r0 r1
  have g0 := K2.out.here.1.1.2.2.1.free 0
  have g1 := K2.out.here.1.1.2.2.1.free 1
  cases bv with
  | false =>
    go_wp2
    refine bodyPost_ret (v := .tuple #[.agg #[.int .i64 0, .slice none 0 0], .bool false]) (by simp [results, Try.results6, go_sem, r0, r1]) rfl ?_
    exact no_box hB HR.out K2.out.here.1.1.1
  | true =>
    go_wp2_with fail
    refine (numbers_at HPV.out n _ hN25 K2.out.here.2).mono ?_
    rintro e w3 ⟨rfl, hb⟩
    have K3 := Lib.hid (K2.out.move hb)
    clear hb b0 b1 r0 r1 g0 g1
    have r0 := K3.out.here.1.1.2.2.1.cell 0
    have r1 := K3.out.here.1.1.2.2.1.cell 1
    simp at r0 r1
    have g0 := K3.out.here.1.1.2.2.1.free 0
    have g1 := K3.out.here.1.1.2.2.1.free 1
    cases pv with
    | false =>
      go_wp2
      refine bodyPost_ret (v := .tuple #[.agg #[.int .i64 0, .slice none 0 0], .bool false]) (by simp [results, Try.results6, go_sem, r0, r1]) rfl ?_
      exact no_box hB HR.out K3.out.here.1.1.1
    | true =>
      go_wp2_with fail
      refine (in_at h (-1) 1 hv HHV.out _).mono ?_
      rintro e w4 ⟨rfl, hw4⟩
      subst w4
      cases hv with
      | false =>
        go_wp2
        refine bodyPost_ret (v := .tuple #[.agg #[.int .i64 0, .slice none 0 0], .bool false]) (by simp [results, Try.results6, go_sem, r0, r1]) rfl ?_
        exact no_box hB HR.out K3.out.here.1.1.1
      | true =>
        have HF : Hid (fv = false) := by
          show _ = _
          have h1 := HALL.out
          simpa using h1
        go_wp2_with fail
        refine (spec_isflags f _).mono ?_
        rintro e w4 ⟨rfl, hw4⟩
        subst w4
        rw [HFV.out, HF.out]
        go_wp2
        refine bodyPost_ret (v := .tuple #[.agg #[.int .i64 0, .slice none 0 0], .bool false]) (by simp [results, Try.results6, go_sem, r0, r1]) rfl ?_
        exact no_box hB HR.out K3.out.here.1.1.1

set_option maxRecDepth 20000 in
set_option maxHeartbeats 8000000 in
theorem spec_flags_yes (n : Int) (A : Option Addr) (N cap : Nat) (L : List ML) (A2 : Option Addr) (N2 cap2 : Nat) (P : List Int) (h : Int) (o : Nat) (w : World) (hM : MIn w A N cap L) (hI : IIn w A2 N2 cap2 P)
    (h1 : bOk n L = true) (h2 : plc L.length 0 P = true) (h3 : howB h = true) (ho : o < 32) :
    Calls Try.prog 6 #[.agg #[.int .i64 n, .slice A N cap], .slice A2 N2 cap2, .int .i64 h, .int .i64 (o : Int)] w (GivesBB w n (flM P h (o : Int) 1 L) true) := by
  obtain ⟨B, hB⟩ : ∃ B, w.heap.size = B := ⟨_, rfl⟩
  have K0 := Lib.hid (((kp_two w 25 25 #[.int .i64 n, .slice A N cap] #[.int .i64 0, .slice none 0 0] hB).and ((hM.keep.alloc (.cells #[.int .i64 n, .slice A N cap] 25)).alloc (.cells #[.int .i64 0, .slice none 0 0] 25))).and ((hI.keep.alloc (.cells #[.int .i64 n, .slice A N cap] 25)).alloc (.cells #[.int .i64 0, .slice none 0 0] 25)))
  have b0 := K0.out.here.1.1.2.1.cell 0
  have b1 := K0.out.here.1.1.2.1.cell 1
  simp at b0 b1
  have HN := Lib.hid hM.1
  have hN25 := hM.2.1
  have hN2 := hI.2.1
  have HNP := Lib.hid hI.1
  have HBV := Lib.hid h1
  have HPV := Lib.hid h2
  have HPN : Hid (plc N 0 P = true) := by rw [← hM.1]; exact h2
  have HHV : Hid ((decide (-1 ≤ h) && decide (h ≤ 1)) = true) := h3
  have HHW := Lib.hid h3
  have HFV := Lib.hid (isF_of ho)
  have HM := Lib.hid hM
  have HI := Lib.hid hI
  clear hM hI h1 h2 h3
  go_enter Try.func6, Try.ntmps6
  go_wp2_with fail
  refine (boxvalid_at HBV.out A N cap _ K0.out.here.1.2).mono ?_
  rintro e w2 ⟨rfl, hb⟩
  have K2 := Lib.hid (K0.out.move hb)
  clear hb b0 b1
  have b0 := K2.out.here.1.1.2.1.cell 0
  have b1 := K2.out.here.1.1.2.1.cell 1
  simp at b0 b1
  go_wp2_with fail
  refine (numbers_at HPN.out n _ hN25 K2.out.here.2).mono ?_
  rintro e w3 ⟨rfl, hb⟩
  have K3 := Lib.hid (K2.out.move hb)
  clear hb b0 b1
  have b0 := K3.out.here.1.1.2.1.cell 0
  have b1 := K3.out.here.1.1.2.1.cell 1
  simp at b0 b1
  go_wp2_with fail
  refine (in_at h (-1) 1 true HHV.out _).mono ?_
  rintro e w4 ⟨rfl, hw4⟩
  subst w4
  go_wp2_with fail
  refine (spec_isflags (o : Int) _).mono ?_
  rintro e w4 ⟨rfl, hw4⟩
  subst w4
  rw [HFV.out]
  go_wp2_with fail
  refine (spec_copy n A N cap L _ K3.out.here.1.2).mono ?_
  rintro e w4 ⟨A4, N4, cap4, rfl, hown, hb⟩
  have hz3 := K3.out.here.1.1.2.2.2
  obtain ⟨D, hD⟩ : ∃ D, w4.heap.size = D := ⟨_, rfl⟩
  have K4 := Lib.hid ((K3.out.move hb).alloc (.cells #[.int .i64 n, .slice A4 N4 cap4] 25))
  have HO4 := Lib.hid ((hown.from hz3).alloc (.cells #[.int .i64 n, .slice A4 N4 cap4] 25))
  have hdz := hb.size
  rw [hD] at hdz
  have HW4 := Lib.hid (hD ▸ Whole.made w4 25 #[.int .i64 n, .slice A4 N4 cap4] : Whole (w4.alloc (.cells #[.int .i64 n, .slice A4 N4 cap4] 25)) D 25 #[.int .i64 n, .slice A4 N4 cap4])
  have hN4 : N4 = N := by rw [hown.len.1, HN.out]
  have HD := Lib.hid hD
  clear hb hown b0 b1 hD
  subst hN4
  go_wp2
  obtain ⟨w5, hw5⟩ : ∃ w5, w4.alloc (.cells #[.int .i64 n, .slice A4 N4 cap4] 25) = w5 := ⟨_, rfl⟩
  rw [hw5] at K4 HO4 HW4 ⊢
  rw [HD.out]
  clear hw5
  have hDw := HW4.out.lt
  go_loopw [11] (fun i wr => ∃ j : Nat, j ≤ N2 ∧ i = .int .i64 (j : Int) ∧ D < wr.heap.size ∧ Hid (Whole wr D 25 #[.int .i64 n, .slice A4 N4 cap4]) ∧ Hid (ROwn mailR wr (B + 1 + 1) (.slice A4 N4 cap4) (flM (P.take j) h (o : Int) 1 L)) ∧ Hid (Below (B + 1 + 1) w5 wr)) (fun i _ => N2 - (intOf i).toNat)
  case atStart => exact ⟨0, Nat.zero_le _, by go_num, hDw, HW4, by rw [List.take_zero, flM_nil]; exact HO4, Below.refl _ _⟩
  case round =>
    obtain ⟨j, hj, rfl, hDr, HX, HO, HB⟩ := hrel
    have hW1 := K4.out.here.1.1.2.1.below HB.out (by omega)
    have hW2 := K4.out.here.1.1.2.2.1.below HB.out (by omega)
    have HB2 := Lib.hid (K4.out.here.1.1.1.trans (HB.out.mono (by omega)))
    have hM := HM.out.below HB2.out (Nat.le_of_eq hB)
    have hI := HI.out.below HB2.out (Nat.le_of_eq hB)
    have b0 := hW1.cell 0
    have b1 := hW1.cell 1
    have x0 := HX.out.cell 0
    have x1 := HX.out.cell 1
    simp at b0 b1 x0 x1
    by_cases hlt : j < N2
    · have h0 : (0 : Int) ≤ (j : Int) := by omega
      have h5 : (j : Int) < (N2 : Int) := by omega
      obtain ⟨x, hx⟩ : ∃ x, P[j]? = some x := ⟨_, List.getElem?_eq_getElem (by rw [HNP.out]; exact hlt)⟩
      obtain ⟨k, rfl, hk⟩ := plc_place HPV.out hx
      obtain ⟨m, hm⟩ : ∃ m, L[k]? = some m := ⟨_, List.getElem?_eq_getElem hk⟩
      obtain ⟨s1, s2⟩ := flM_step (h := h) (f := (o : Int)) HPV.out hx hm
      obtain ⟨pb, po, hAe, hpb, p0⟩ := int_at hI.2.2.1 hx
      obtain ⟨u, fl, t⟩ := m
      have hmok := ((bOk_iff.1 HBV.out).1 _ (List.mem_of_getElem? hm)).1
      obtain ⟨a, ha, hae⟩ := isF_nat (mOk_iff.1 hmok).2.1
      simp only at hae
      subst hae
      obtain ⟨mb, mo, hMe, hmb, -, d1, -⟩ := mail_at hM.2.2.1 hm
      obtain ⟨g, hg⟩ : ∃ g, A4 = some ⟨g, 0, none⟩ := by
        obtain ⟨A', c', he, -, -, -, -, hne⟩ := HO.out.form
        cases he
        exact hne (fun e => by rw [e] at s1; simp at s1)
      subst hg
      obtain ⟨z, hz⟩ : ∃ z, chN a h o = z := ⟨_, rfl⟩
      have hchm : chM h (o : Int) (u, (a : Int), t) = (u, (z : Int), t) := by rw [← hz]; rfl
      rw [hchm] at s2
      have kN : k < N4 := by rw [← HN.out]; exact hk
      have k0 : (0 : Int) ≤ (k : Int) := by omega
      have k5 : (k : Int) < (N4 : Int) := by omega
      have W1 : IntKind.i64.wrap (((k + 1 : Nat) : Int) - 1) = (k : Int) := (IntWalk.i64_in _ (by omega)).trans (by omega)
      have E1 : ((k + 1 : Nat) : Int) - 1 = (k : Int) := by omega
      obtain ⟨q, hq⟩ : ∃ q, k + 1 = q := ⟨_, rfl⟩
      rw [hq] at p0 W1 E1
      have HS1 := Lib.hid s1
      have HS2 := Lib.hid s2
      have HZ := Lib.hid hz
      have HWW1 := Lib.hid hW1
      clear s1 s2 hx hm hmok hchm hz hq hM hI hW1 hW2
      subst hAe
      subst hMe
      have HOD := Lib.hid (show ROwn mailR wr.drew (B + 1 + 1) (.slice (some ⟨g, 0, none⟩) N4 cap4) _ from HO.out)
      have HXD := Lib.hid HX.out.drew
      have HBD := Lib.hid (fbelow_drew HB.out)
      go_wp2
      go_region_with ((go_at_call 22; refine (spec_l4change a o h wr.drew ha ho HHW.out).mono ?_; rw [HZ.out]; rintro e w7 ⟨rfl, hb7⟩; have HO7 := Lib.hid (HOD.out.kept hb7); have HX7 := Lib.hid (HXD.out.below hb7 HXD.out.lt); have HB7 := Lib.hid (HBD.out.trans (hb7.mono (by show B + 1 + 1 ≤ wr.heap.size; omega))); have hz7 : D < w7.heap.size := Nat.lt_of_lt_of_le hDr hb7.size; clear hb7; have y1 := HX7.out.cell 1; simp at y1; have e1 := HO7.out.cell HS1.out (j := 1) rfl; have e2 := HO7.out.free (k * 3 + 1); have e3 : mailR.sz = 3 := rfl; rw [e3] at e1; clear e3))
      all_goals
        go_wp2
        go_roundw
        case rel =>
          have h3 := HO7.out.stored HS1.out (j := 1) (u := .int .i64 (z : Int)) (y := (u, (z : Int), t)) (by decide) rfl
          refine ⟨j + 1, by omega, by go_num, by simpa using hz7, HX7.out.apart (by show D ≠ g; intro e; exact HO7.out.whole HX7.out (by decide) (by rw [e]; rfl)) _, ?_, HB7.out.setCell (by show B + 1 + 1 ≤ g; exact (World.ownsRow.lt HO7.out g rfl).1) _⟩
          rw [← HS2.out]
          exact h3.1
        case measure => simp [intOf]; omega
    · have h5 : ¬ (j : Int) < (N2 : Int) := by omega
      have HPT : Hid (P.take j = P) := List.take_of_length_le (by rw [HNP.out]; omega)
      have r0 := hW2.cell 0
      have r1 := hW2.cell 1
      simp at r0 r1
      have g0 := hW2.free 0
      have g1 := hW2.free 1
      go_wp2
      refine bodyPost_ret (v := .tuple #[.agg #[.int .i64 n, .slice A4 N4 cap4], .bool true]) (by simp [results, Try.results6, go_sem, r0, r1]) rfl ?_
      refine give_two hB ?_ HB2.out
      have h1 := HO.out
      rw [HPT.out] at h1
      exact h1
theorem spec_flags (n : Int) (A : Option Addr) (N cap : Nat) (L : List ML) (A2 : Option Addr) (N2 cap2 : Nat) (P : List Int) (h f : Int) (w : World) (hM : MIn w A N cap L) (hI : IIn w A2 N2 cap2 P) :
    Calls Try.prog 6 #[.agg #[.int .i64 n, .slice A N cap], .slice A2 N2 cap2, .int .i64 h, .int .i64 f] w (GivesBB w (bxFl n L P h f).1 (bxFl n L P h f).2.1 (bxFl n L P h f).2.2) := by
  cases hno : bOk n L && plc L.length 0 P && howB h && isF f with
  | false => exact spec_flags_no n A N cap L A2 N2 cap2 P h f w hM hI hno
  | true =>
    obtain ⟨h123, h4⟩ := Bool.and_eq_true_iff.1 hno
    obtain ⟨h12, h3⟩ := Bool.and_eq_true_iff.1 h123
    obtain ⟨h1, h2⟩ := Bool.and_eq_true_iff.1 h12
    rw [bxFl_yes h1 h2 h3 h4]
    obtain ⟨o, ho, rfl⟩ := isF_nat h4
    exact spec_flags_yes n A N cap L A2 N2 cap2 P h o w hM hI h1 h2 h3 ho
end Go.Proofs.Ytllhcogmcfgnoaa

namespace Go.Proofs.Ytllhcogmcfgnoaa
open Go.RowKit
set_option linter.unusedVariables false

theorem add_full {n : Int} {L : List ML} {f : Int} {t : List UInt8} (h : 10 ≤ L.length ∨ 99 < n) : bxAdd n L f t = (n, L, false) := by unfold bxAdd; rw [if_pos h]
theorem add_more {n : Int} {L : List ML} {f : Int} {t : List UInt8} (h : ¬ (10 ≤ L.length ∨ 99 < n)) : bxAdd n L f t = (n + 1, L ++ [(n, f, t)], true) := by unfold bxAdd; rw [if_neg h]
theorem add_at {n n2 : Int} {L L2 : List ML} {f : Int} {t : List UInt8} {v : ByteArray} {b : Bool} (hv : sB t = v) (hb : bxAdd n L f t = (n2, L2, b)) (A : Option Addr) (N cap : Nat) (w : World) (h : MIn w A N cap L) (hn : -1000 ≤ n) :
    Calls Try.prog 34 #[.agg #[.int .i64 n, .slice A N cap], .int .i64 f, .string v] w (GivesBB w n2 L2 b) := by
  subst hv
  have := spec_add n A N cap L f t w h hn
  rw [hb] at this
  exact this
end Go.Proofs.Ytllhcogmcfgnoaa
