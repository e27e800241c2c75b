/-
  The contract of the code's BoxFlags. Condition: the messages and the places can be read, and are not too many.
  The contract of the code's BoxCopy. Condition: the messages and the places can be read, and are not too many.
  The contract of the code's BoxCopy, where all arguments are valid. Condition: the messages and the places can be read, and are not too many.
  The contract of the code's (*chain).expunge. Condition: the chain can be read, is not too long, and its messages are valid.
  The contract of the code's BoxExpunge. Condition: the messages can be read, and are not too many.
  The contract of the model's BoxUids. Condition: the lists can be read, and are not too long.
  The contract of the model's BoxFlags. Condition: the messages and the places can be read, and are not too many.
  The contract of the model's BoxCopy. Condition: the messages and the places can be read, and are not too many.
-/
import Derived.Test.YtmljdbbbfpmbcaaHq
import Derived.Deep.RegionWith
import Derived.Outline
import Derived.Test.YtmljdbbbfpmbcaaFimp
import Derived.Deep.LoopGhost
import Derived.Deep.RegionLaw
import Derived.BigRegion
namespace Go.Proofs.Ytmljdbbbfpmbcaa
open Go.RowKit
set_option linter.unusedVariables false

theorem fst_set {X Y : NX} {k g : Nat} {m m' : ML} (h : Y.map (·.1) = X.map (·.1)) (hk : Y[k]? = some (g, m)) : (Y.set k (g, m')).map (·.1) = X.map (·.1) := by
  rw [← h, List.map_set]
  refine List.ext_getElem? fun j => ?_
  by_cases e : k = j
  · subst e
    have := (List.getElem?_eq_some_iff.1 hk).1
    rw [List.getElem?_set_self (by simpa using this), List.getElem?_map, hk]
    rfl
  · rw [List.getElem?_set_ne e]
theorem fst_at {X Y : NX} {k g : Nat} {m m' : ML} (h : Y.map (·.1) = X.map (·.1)) (hx : X[k]? = some (g, m)) (hy : (Y.map (·.2))[k]? = some m') : Y[k]? = some (g, m') := by
  have h1 := congrArg (fun l => l[k]?) h
  simp only [List.getElem?_map, hx] at h1
  rw [List.getElem?_map] at hy
  cases hk : Y[k]? with
  | none => rw [hk] at hy; cases hy
  | some z =>
    rw [hk] at hy h1
    simp at hy h1
    rw [← hy, ← h1]
theorem plc_place {len : Nat} {P : List Int} (h : plc len 0 P = true) {i : Nat} {x : Int} (hx : P[i]? = some x) : ∃ k : Nat, x = ((k + 1 : Nat) : Int) ∧ k < len := by
  have := plc_get h hx
  exact ⟨x.toNat - 1, by omega, by omega⟩
/-- No mailbox is handed back. -/
theorem no_box {w w' : World} {B : Nat} {u u2 : Value} {r : Int × List ML × Bool} (hB : w.heap.size = B) (hr : r = (0, [], false)) (hb : Below B w w') :
    GivesBB w r.1 r.2.1 r.2.2 (.returned (.tuple #[.agg #[.int .i64 0, .slice none 0 0], .bool false])) ((w'.setCell ⟨B + 1, 0, none⟩ u).setCell ⟨B + 1, 1, none⟩ u2) := by
  subst hr
  exact give_two hB (ROwn.nil _ _) hb

/-- Some change is given. -/
def GivesSome (w : World) (e : Ending) (w' : World) : Prop := ∃ k : Nat, e = .returned (.tuple #[.func (.func k) #[] #[.pointer (some ⟨w.heap.size, 0, none⟩)], .bool true]) ∧ Below w.heap.size w w'
theorem change_some (h o : Int) (w : World) (ho : isF o = true) (hh : howB h = true) : Calls Try.prog 54 #[.int .i64 h, .int .i64 o] w (GivesSome w) := by
  rcases how_of hh with rfl | rfl | rfl
  · exact (change_set o w ho).mono fun e w' h => ⟨_, h.1, h.2.2⟩
  · exact (change_remove o w ho).mono fun e w' h => ⟨_, h.1, h.2.2⟩
  · exact (change_put o w ho).mono fun e w' h => ⟨_, h.1, h.2.2⟩

set_option maxRecDepth 20000 in
set_option maxHeartbeats 8000000 in
theorem impl_flags_no (n : Int) (A : Option Addr) (N cap : Nat) (L : List ML) (A2 : Option Addr) (N2 cap2 : Nat) (P : List Int) (h f : Int) (w : World) (hM : MIn w A N cap L) (hI : IIn w A2 N2 cap2 P)
    (hno : (bOk n L && plc L.length 0 P && howB h && isF f) = false) :
    Calls Try.prog 19 #[.agg #[.int .i64 n, .slice A N cap], .slice A2 N2 cap2, .int .i64 h, .int .i64 f] w (GivesBB w (bxFl n L P h f).1 (bxFl n L P h f).2.1 (bxFl n L P h f).2.2) := by
  obtain ⟨B, hB⟩ : ∃ B, w.heap.size = B := ⟨_, rfl⟩
  have K0 := Lib.hid (((kp_two w 25 25 #[.int .i64 n, .slice A N cap] #[.int .i64 0, .slice none 0 0] hB).and ((hM.keep.alloc (.cells #[.int .i64 n, .slice A N cap] 25)).alloc (.cells #[.int .i64 0, .slice none 0 0] 25))).and ((hI.keep.alloc (.cells #[.int .i64 n, .slice A N cap] 25)).alloc (.cells #[.int .i64 0, .slice none 0 0] 25)))
  have b0 := K0.out.here.1.1.2.1.cell 0
  have b1 := K0.out.here.1.1.2.1.cell 1
  simp at b0 b1
  have HR := Lib.hid (bxFl_no hno)
  have HNO := Lib.hid hno
  clear hM hI hno
  cases hbv : bOk n L with
  | false =>
    have HBV := Lib.hid hbv
    clear hbv
    go_enter Try.func19, Try.ntmps19
    go_wp2_with fail
    refine (link_no n A N cap L _ K0.out.here.1.2 HBV.out).mono ?_
    rintro e w2 ⟨rfl, hb⟩
    have K2 := Lib.hid (K0.out.move hb)
    clear hb
    have r0 := K2.out.here.1.1.2.2.1.cell 0
    have r1 := K2.out.here.1.1.2.2.1.cell 1
    simp at r0 r1
    have g0 := K2.out.here.1.1.2.2.1.free 0
    have g1 := K2.out.here.1.1.2.2.1.free 1
    go_wp2
    refine bodyPost_ret (v := .tuple #[.agg #[.int .i64 0, .slice none 0 0], .bool false]) (by simp [results, Try.results19, go_sem, r0, r1]) rfl ?_
    exact no_box hB HR.out K2.out.here.1.1.1
  | true =>
    have HBV := Lib.hid hbv
    obtain ⟨hl10, hn1⟩ := bxAp_size hbv
    clear hbv
    cases hch : isF f && howB h with
    | false =>
      have HCH := Lib.hid hch
      clear hch
      go_enter Try.func19, Try.ntmps19
      go_wp2_with fail
      refine (link_yes n A N cap L _ K0.out.here.1.2 HBV.out).mono ?_
      rintro e w2 ⟨c, X, rfl, hc1, hc2, hchn, hX, hb⟩
      have K2 := Lib.hid (K0.out.move hb)
      clear hb hchn hX
      go_wp2_with fail
      refine (change_no h f _ HCH.out).mono ?_
      rintro e w3 ⟨rfl, hb⟩
      have K3 := Lib.hid (K2.out.move hb)
      clear hb
      have r0 := K3.out.here.1.1.2.2.1.cell 0
      have r1 := K3.out.here.1.1.2.2.1.cell 1
      simp at r0 r1
      have g0 := K3.out.here.1.1.2.2.1.free 0
      have g1 := K3.out.here.1.1.2.2.1.free 1
      go_wp2
      refine bodyPost_ret (v := .tuple #[.agg #[.int .i64 0, .slice none 0 0], .bool false]) (by simp [results, Try.results19, go_sem, r0, r1]) rfl ?_
      exact no_box hB HR.out K3.out.here.1.1.1
    | true =>
      obtain ⟨hf, hh⟩ := Bool.and_eq_true_iff.1 hch
      have HF := Lib.hid hf
      have HP : Hid (plc L.length 0 P = false) := by
        show _ = _
        have h1 := HNO.out
        rw [HBV.out, hf, hh] at h1
        simpa using h1
      have HH := Lib.hid hh
      clear hch hf hh
      go_enter Try.func19, Try.ntmps19
      go_wp2_with fail
      refine (link_yes n A N cap L _ K0.out.here.1.2 HBV.out).mono ?_
      rintro e w2 ⟨c, X, rfl, hc1, hc2, hchn, hX, hb⟩
      have K2 := Lib.hid ((K0.out.move hb).and hchn.keep)
      have HXE : Hid (X.length = L.length) := by
        show _ = _
        have := congrArg List.length hX
        rw [List.length_map] at this
        exact this
      clear hb hchn hX
      go_wp2_with fail
      refine (change_some h f _ HF.out HH.out).mono ?_
      rintro e w3 ⟨kf, rfl, hb⟩
      have K3 := Lib.hid (K2.out.move hb)
      clear hb
      go_wp2_with fail
      refine (impl_pick c n X A2 N2 cap2 P false _ K3.out.here.2 (by rw [HXE.out]; omega) K3.out.here.1.2 (by rw [HXE.out]; exact HP.out)).mono ?_
      rintro e w4 ⟨rfl, hb⟩
      have K4 := Lib.hid (K3.out.move hb)
      clear hb
      have r0 := K4.out.here.1.1.1.2.2.1.cell 0
      have r1 := K4.out.here.1.1.1.2.2.1.cell 1
      simp at r0 r1
      have g0 := K4.out.here.1.1.1.2.2.1.free 0
      have g1 := K4.out.here.1.1.1.2.2.1.free 1
      go_wp2
      refine bodyPost_ret (v := .tuple #[.agg #[.int .i64 0, .slice none 0 0], .bool false]) (by simp [results, Try.results19, go_sem, r0, r1]) rfl ?_
      exact no_box hB HR.out K4.out.here.1.1.1.1

set_option maxRecDepth 20000 in
set_option maxHeartbeats 8000000 in
theorem impl_flags_set (n : Int) (A : Option Addr) (N cap : Nat) (L : List ML) (A2 : Option Addr) (N2 cap2 : Nat) (P : List Int) (f : Int) (w : World) (hM : MIn w A N cap L) (hI : IIn w A2 N2 cap2 P)
    (hbv : bOk n L = true) (hplc : plc L.length 0 P = true) (hf : isF f = true) :
    Calls Try.prog 19 #[.agg #[.int .i64 n, .slice A N cap], .slice A2 N2 cap2, .int .i64 1, .int .i64 f] w (GivesBB w n (flM P 1 f 1 L) true) := by
  obtain ⟨B, hB⟩ : ∃ B, w.heap.size = B := ⟨_, rfl⟩
  have K0 := Lib.hid (((kp_two w 25 25 #[.int .i64 n, .slice A N cap] #[.int .i64 0, .slice none 0 0] hB).and ((hM.keep.alloc (.cells #[.int .i64 n, .slice A N cap] 25)).alloc (.cells #[.int .i64 0, .slice none 0 0] 25))).and ((hI.keep.alloc (.cells #[.int .i64 n, .slice A N cap] 25)).alloc (.cells #[.int .i64 0, .slice none 0 0] 25)))
  have HSZ : Hid (((w.alloc (.cells #[.int .i64 n, .slice A N cap] 25)).alloc (.cells #[.int .i64 0, .slice none 0 0] 25)).heap.size = B + 1 + 1) := by show _ = _; simp [hB]
  have b0 := K0.out.here.1.1.2.1.cell 0
  have b1 := K0.out.here.1.1.2.1.cell 1
  simp at b0 b1
  have HBV := Lib.hid hbv
  have HPL := Lib.hid hplc
  obtain ⟨hl10, hn1⟩ := bxAp_size hbv
  obtain ⟨o, ho, rfl⟩ := isF_nat hf
  have HF := Lib.hid hf
  clear hM hI hbv hplc hf
  go_enter Try.func19, Try.ntmps19
  go_wp2_with fail
  refine (link_yes n A N cap L _ K0.out.here.1.2 HBV.out).mono ?_
  rintro e w2 ⟨c, X, rfl, hc1, hc2, hchn, hX, hb⟩
  rw [HSZ.out] at hc1
  have K2 := Lib.hid ((K0.out.move hb).and hchn.keep)
  have HX := Lib.hid hX
  have HXE : Hid (X.length = L.length) := by
    show _ = _
    have := congrArg List.length hX
    rw [List.length_map] at this
    exact this
  have HXB := Lib.hid (fun (i g : Nat) (m : ML) (hx : X[i]? = some (g, m)) => hchn.nds.size hx)
  clear hb hchn hX
  go_wp2_with fail
  refine (change_set (o : Int) _ HF.out).mono ?_
  rintro e w3 ⟨rfl, hcell, hb⟩
  have hlt3 : w2.heap.size < w3.heap.size := by simpa using block_lt_of_cell hcell
  have K3 := Lib.hid ((K2.out.move hb).and (F := fun w' => _) (G := fun w' => w'.cell? ⟨w2.heap.size, 0, none⟩ = some (.int .i64 (o : Int)) ∧ w3.heap.size ≤ w'.heap.size) (fun w4 h4 => ⟨(h4.cell (p := ⟨w2.heap.size, 0, none⟩) hlt3).trans hcell, h4.size⟩))
  clear hb hcell
  go_wp2_with fail
  refine (impl_pick c n X A2 N2 cap2 P true _ K3.out.here.1.2 (by rw [HXE.out]; omega) K3.out.here.1.1.2 (by rw [HXE.out]; exact HPL.out)).mono ?_
  rintro e w4 ⟨A4, cap4, rfl, hown, hb⟩
  have K4 := Lib.hid (K3.out.move hb)
  have HO := Lib.hid (hown.from (Nat.le_of_lt hlt3))
  clear hb hown
  obtain ⟨C2, hC2⟩ : ∃ C2, w2.heap.size = C2 := ⟨_, rfl⟩
  have HC2 := Lib.hid hC2
  rw [hC2] at HO hc2 hlt3 K4
  rw [hC2] at HXB ⊢
  obtain ⟨Q, hQ⟩ : ∃ Q, P.length = Q := ⟨_, rfl⟩
  have HQ := Lib.hid hQ
  have hQ10 : Q ≤ 10 := by rw [← hQ]; exact Nat.le_trans (plc_len HPL.out) hl10
  rw [hQ] at HO ⊢
  clear hQ hC2
  go_wp2
  go_loopw [44] (fun i wr => ∃ (j : Nat) (Y : NX), j ≤ Q ∧ i = .int .i64 (j : Int) ∧ Hid (Chn wr c n Y) ∧ Hid (Y.map (·.1) = X.map (·.1)) ∧ Hid (Y.map (·.2) = flM (P.take j) 1 (o : Int) 1 L) ∧ Hid (ROwn ptrR wr C2 (.slice A4 Q cap4) (atN X P)) ∧
      Hid (wr.cell? ⟨C2, 0, none⟩ = some (.int .i64 (o : Int))) ∧ Hid (Below (B + 1 + 1) w4 wr)) (fun i _ => Q - (intOf i).toNat)
  case atStart => exact ⟨0, X, Nat.zero_le _, by go_num, K4.out.here.1.2, rfl, by show _ = _; rw [HX.out, List.take_zero, flM_nil], HO, K4.out.here.2.1, Below.refl _ _⟩
  case round =>
    obtain ⟨j, Y, hj, rfl, HC, HY1, HY2, HO, HCE, HB⟩ := hrel
    by_cases hlt : j < Q
    · have h0 : (0 : Int) ≤ (j : Int) := by omega
      have h5 : (j : Int) < (Q : Int) := by omega
      obtain ⟨x, hx⟩ : ∃ x, P[j]? = some x := ⟨_, List.getElem?_eq_getElem (by rw [HQ.out]; exact hlt)⟩
      obtain ⟨k, rfl, hk⟩ := plc_place HPL.out hx
      obtain ⟨m, hm⟩ : ∃ m, L[k]? = some m := ⟨_, List.getElem?_eq_getElem hk⟩
      obtain ⟨⟨g, m0⟩, hg⟩ : ∃ y, X[k]? = some y := ⟨_, List.getElem?_eq_getElem (by rw [HXE.out]; exact hk)⟩
      obtain ⟨s1, s2⟩ := flM_step (h := 1) (f := (o : Int)) HPL.out hx hm
      have hy := fst_at HY1.out hg (by rw [HY2.out]; exact s1)
      have hgat := atN_get hx (X := X) (g := g) (m := m0) (by rw [show (((k + 1 : Nat) : Int)).toNat - 1 = k by omega]; exact hg)
      obtain ⟨pb, po, hAe, hpb, p0⟩ := ptr_at HO.out.at hgat
      obtain ⟨u, fl, t⟩ := m
      obtain ⟨-, d1, -, -⟩ := HC.out.nds.cells hy
      have d1f := HC.out.nds.free hy 1
      have hgC := HXB.out k g m0 hg
      have hgc := (HC.out.nds.node k g _ hy).1
      have hmok := ((bOk_iff.1 HBV.out).1 _ (List.mem_of_getElem? hm)).1
      obtain ⟨a, ha, hae⟩ := isF_nat (mOk_iff.1 hmok).2.1
      simp only at hae d1
      subst hae
      obtain ⟨z, hz⟩ : ∃ z, chN a 1 o = z := ⟨_, rfl⟩
      have hfl := HC.out.flag hy (z : Int)
      have hchm : chM 1 (o : Int) (u, (a : Int), t) = (u, (z : Int), t) := by rw [← hz]; rfl
      rw [hchm] at s2
      have HFL := Lib.hid hfl
      have HS2 := Lib.hid s2
      have HZ := Lib.hid hz
      have HYG := Lib.hid hy
      have hgC' : ¬ g = C2 := by omega
      have hce := HCE.out
      clear s1 s2 hy hgat hx hg hm hmok hfl hchm hz
      subst hAe
      go_wp2_with fail
      refine (clo_set a o C2 _ ha ho hce).mono ?_
      rintro e w5 ⟨rfl, kk, rfl⟩
      rw [HZ.out]
      go_wp2
      go_roundw
      case rel =>
        refine ⟨j + 1, Y.set k (g, (u, (z : Int), t)), by omega, by go_num, HFL.out.drewN kk, ?_, ?_, ?_, ?_, ?_⟩
        · show _ = _
          rw [fst_set HY1.out HYG.out]
        · show _ = _
          rw [← HS2.out, List.map_set, HY2.out]
        · exact (HO.out.store (p := ⟨g, 1, none⟩) (HO.out.base g (by omega)) _).drewN kk
        · exact (World.cell?_setCell_other wr _ _ _ (by intro e; injection e with e1; exact hgC' e1)).trans HCE.out
        · exact below_drewN' (HB.out.setCell (p := ⟨g, 1, none⟩) (by simp; omega) _) kk
      case measure => simp [intOf]; omega
    · have h5 : ¬ (j : Int) < (Q : Int) := by omega
      have hjQ : j = Q := by omega
      have HYE : Hid (Y.map (·.2) = flM P 1 (o : Int) 1 L) := by
        show _ = _
        rw [HY2.out, List.take_of_length_le (by rw [HQ.out]; omega)]
      have hYl : Y.length ≤ 20 := by
        have h1 := congrArg List.length HYE.out
        rw [List.length_map, flM_len] at h1
        omega
      have W5 := Lib.hid (K4.out.here.1.1.1.1.2.2.1.below HB.out (by omega))
      have B5 := Lib.hid (K4.out.here.1.1.1.1.1.trans (HB.out.mono (by omega)))
      have hz5 := Nat.le_trans K4.out.here.1.1.1.1.2.2.2 HB.out.size
      clear hjQ
      go_wp2_with fail
      refine (impl_box c n Y _ HC.out hYl).mono ?_
      rintro e w6 ⟨A6, N6, cap6, rfl, hown, hb⟩
      have W6 := Lib.hid (W5.out.below hb (by omega))
      have B6 := Lib.hid (B5.out.trans (hb.mono (by omega)))
      have HO6 := Lib.hid (hown.from hz5)
      clear hb hown
      have r0 := W6.out.cell 0
      have r1 := W6.out.cell 1
      simp at r0 r1
      have g0 := W6.out.free 0
      have g1 := W6.out.free 1
      go_wp2
      refine bodyPost_ret (v := .tuple #[.agg #[.int .i64 n, .slice A6 N6 cap6], .bool true]) (by simp [results, Try.results19, go_sem, r0, r1]) rfl ?_
      exact give_two hB (by rw [← HYE.out]; exact HO6.out) B6.out

set_option maxRecDepth 20000 in
set_option maxHeartbeats 8000000 in
theorem impl_flags_remove (n : Int) (A : Option Addr) (N cap : Nat) (L : List ML) (A2 : Option Addr) (N2 cap2 : Nat) (P : List Int) (f : Int) (w : World) (hM : MIn w A N cap L) (hI : IIn w A2 N2 cap2 P)
    (hbv : bOk n L = true) (hplc : plc L.length 0 P = true) (hf : isF f = true) :
    Calls Try.prog 19 #[.agg #[.int .i64 n, .slice A N cap], .slice A2 N2 cap2, .int .i64 (-1), .int .i64 f] w (GivesBB w n (flM P (-1) f 1 L) true) := by
  obtain ⟨B, hB⟩ : ∃ B, w.heap.size = B := ⟨_, rfl⟩
  have K0 := Lib.hid (((kp_two w 25 25 #[.int .i64 n, .slice A N cap] #[.int .i64 0, .slice none 0 0] hB).and ((hM.keep.alloc (.cells #[.int .i64 n, .slice A N cap] 25)).alloc (.cells #[.int .i64 0, .slice none 0 0] 25))).and ((hI.keep.alloc (.cells #[.int .i64 n, .slice A N cap] 25)).alloc (.cells #[.int .i64 0, .slice none 0 0] 25)))
  have HSZ : Hid (((w.alloc (.cells #[.int .i64 n, .slice A N cap] 25)).alloc (.cells #[.int .i64 0, .slice none 0 0] 25)).heap.size = B + 1 + 1) := by show _ = _; simp [hB]
  have b0 := K0.out.here.1.1.2.1.cell 0
  have b1 := K0.out.here.1.1.2.1.cell 1
  simp at b0 b1
  have HBV := Lib.hid hbv
  have HPL := Lib.hid hplc
  obtain ⟨hl10, hn1⟩ := bxAp_size hbv
  obtain ⟨o, ho, rfl⟩ := isF_nat hf
  have HF := Lib.hid hf
  clear hM hI hbv hplc hf
  go_enter Try.func19, Try.ntmps19
  go_wp2_with fail
  refine (link_yes n A N cap L _ K0.out.here.1.2 HBV.out).mono ?_
  rintro e w2 ⟨c, X, rfl, hc1, hc2, hchn, hX, hb⟩
  rw [HSZ.out] at hc1
  have K2 := Lib.hid ((K0.out.move hb).and hchn.keep)
  have HX := Lib.hid hX
  have HXE : Hid (X.length = L.length) := by
    show _ = _
    have := congrArg List.length hX
    rw [List.length_map] at this
    exact this
  have HXB := Lib.hid (fun (i g : Nat) (m : ML) (hx : X[i]? = some (g, m)) => hchn.nds.size hx)
  clear hb hchn hX
  go_wp2_with fail
  refine (change_remove (o : Int) _ HF.out).mono ?_
  rintro e w3 ⟨rfl, hcell, hb⟩
  have hlt3 : w2.heap.size < w3.heap.size := by simpa using block_lt_of_cell hcell
  have K3 := Lib.hid ((K2.out.move hb).and (F := fun w' => _) (G := fun w' => w'.cell? ⟨w2.heap.size, 0, none⟩ = some (.int .i64 (o : Int)) ∧ w3.heap.size ≤ w'.heap.size) (fun w4 h4 => ⟨(h4.cell (p := ⟨w2.heap.size, 0, none⟩) hlt3).trans hcell, h4.size⟩))
  clear hb hcell
  go_wp2_with fail
  refine (impl_pick c n X A2 N2 cap2 P true _ K3.out.here.1.2 (by rw [HXE.out]; omega) K3.out.here.1.1.2 (by rw [HXE.out]; exact HPL.out)).mono ?_
  rintro e w4 ⟨A4, cap4, rfl, hown, hb⟩
  have K4 := Lib.hid (K3.out.move hb)
  have HO := Lib.hid (hown.from (Nat.le_of_lt hlt3))
  clear hb hown
  obtain ⟨C2, hC2⟩ : ∃ C2, w2.heap.size = C2 := ⟨_, rfl⟩
  have HC2 := Lib.hid hC2
  rw [hC2] at HO hc2 hlt3 K4
  rw [hC2] at HXB ⊢
  obtain ⟨Q, hQ⟩ : ∃ Q, P.length = Q := ⟨_, rfl⟩
  have HQ := Lib.hid hQ
  have hQ10 : Q ≤ 10 := by rw [← hQ]; exact Nat.le_trans (plc_len HPL.out) hl10
  rw [hQ] at HO ⊢
  clear hQ hC2
  go_wp2
  go_loopw [44] (fun i wr => ∃ (j : Nat) (Y : NX), j ≤ Q ∧ i = .int .i64 (j : Int) ∧ Hid (Chn wr c n Y) ∧ Hid (Y.map (·.1) = X.map (·.1)) ∧ Hid (Y.map (·.2) = flM (P.take j) (-1) (o : Int) 1 L) ∧ Hid (ROwn ptrR wr C2 (.slice A4 Q cap4) (atN X P)) ∧
      Hid (wr.cell? ⟨C2, 0, none⟩ = some (.int .i64 (o : Int))) ∧ Hid (Below (B + 1 + 1) w4 wr)) (fun i _ => Q - (intOf i).toNat)
  case atStart => exact ⟨0, X, Nat.zero_le _, by go_num, K4.out.here.1.2, rfl, by show _ = _; rw [HX.out, List.take_zero, flM_nil], HO, K4.out.here.2.1, Below.refl _ _⟩
  case round =>
    obtain ⟨j, Y, hj, rfl, HC, HY1, HY2, HO, HCE, HB⟩ := hrel
    by_cases hlt : j < Q
    · have h0 : (0 : Int) ≤ (j : Int) := by omega
      have h5 : (j : Int) < (Q : Int) := by omega
      obtain ⟨x, hx⟩ : ∃ x, P[j]? = some x := ⟨_, List.getElem?_eq_getElem (by rw [HQ.out]; exact hlt)⟩
      obtain ⟨k, rfl, hk⟩ := plc_place HPL.out hx
      obtain ⟨m, hm⟩ : ∃ m, L[k]? = some m := ⟨_, List.getElem?_eq_getElem hk⟩
      obtain ⟨⟨g, m0⟩, hg⟩ : ∃ y, X[k]? = some y := ⟨_, List.getElem?_eq_getElem (by rw [HXE.out]; exact hk)⟩
      obtain ⟨s1, s2⟩ := flM_step (h := (-1)) (f := (o : Int)) HPL.out hx hm
      have hy := fst_at HY1.out hg (by rw [HY2.out]; exact s1)
      have hgat := atN_get hx (X := X) (g := g) (m := m0) (by rw [show (((k + 1 : Nat) : Int)).toNat - 1 = k by omega]; exact hg)
      obtain ⟨pb, po, hAe, hpb, p0⟩ := ptr_at HO.out.at hgat
      obtain ⟨u, fl, t⟩ := m
      obtain ⟨-, d1, -, -⟩ := HC.out.nds.cells hy
      have d1f := HC.out.nds.free hy 1
      have hgC := HXB.out k g m0 hg
      have hgc := (HC.out.nds.node k g _ hy).1
      have hmok := ((bOk_iff.1 HBV.out).1 _ (List.mem_of_getElem? hm)).1
      obtain ⟨a, ha, hae⟩ := isF_nat (mOk_iff.1 hmok).2.1
      simp only at hae d1
      subst hae
      obtain ⟨z, hz⟩ : ∃ z, chN a (-1) o = z := ⟨_, rfl⟩
      have hfl := HC.out.flag hy (z : Int)
      have hchm : chM (-1) (o : Int) (u, (a : Int), t) = (u, (z : Int), t) := by rw [← hz]; rfl
      rw [hchm] at s2
      have HFL := Lib.hid hfl
      have HS2 := Lib.hid s2
      have HZ := Lib.hid hz
      have HYG := Lib.hid hy
      have hgC' : ¬ g = C2 := by omega
      have hce := HCE.out
      clear s1 s2 hy hgat hx hg hm hmok hfl hchm hz
      subst hAe
      go_wp2_with fail
      refine (clo_remove a o C2 _ ha ho hce).mono ?_
      rintro e w5 ⟨rfl, kk, rfl⟩
      rw [HZ.out]
      go_wp2
      go_roundw
      case rel =>
        refine ⟨j + 1, Y.set k (g, (u, (z : Int), t)), by omega, by go_num, HFL.out.drewN kk, ?_, ?_, ?_, ?_, ?_⟩
        · show _ = _
          rw [fst_set HY1.out HYG.out]
        · show _ = _
          rw [← HS2.out, List.map_set, HY2.out]
        · exact (HO.out.store (p := ⟨g, 1, none⟩) (HO.out.base g (by omega)) _).drewN kk
        · exact (World.cell?_setCell_other wr _ _ _ (by intro e; injection e with e1; exact hgC' e1)).trans HCE.out
        · exact below_drewN' (HB.out.setCell (p := ⟨g, 1, none⟩) (by simp; omega) _) kk
      case measure => simp [intOf]; omega
    · have h5 : ¬ (j : Int) < (Q : Int) := by omega
      have hjQ : j = Q := by omega
      have HYE : Hid (Y.map (·.2) = flM P (-1) (o : Int) 1 L) := by
        show _ = _
        rw [HY2.out, List.take_of_length_le (by rw [HQ.out]; omega)]
      have hYl : Y.length ≤ 20 := by
        have h1 := congrArg List.length HYE.out
        rw [List.length_map, flM_len] at h1
        omega
      have W5 := Lib.hid (K4.out.here.1.1.1.1.2.2.1.below HB.out (by omega))
      have B5 := Lib.hid (K4.out.here.1.1.1.1.1.trans (HB.out.mono (by omega)))
      have hz5 := Nat.le_trans K4.out.here.1.1.1.1.2.2.2 HB.out.size
      clear hjQ
      go_wp2_with fail
      refine (impl_box c n Y _ HC.out hYl).mono ?_
      rintro e w6 ⟨A6, N6, cap6, rfl, hown, hb⟩
      have W6 := Lib.hid (W5.out.below hb (by omega))
      have B6 := Lib.hid (B5.out.trans (hb.mono (by omega)))
      have HO6 := Lib.hid (hown.from hz5)
      clear hb hown
      have r0 := W6.out.cell 0
      have r1 := W6.out.cell 1
      simp at r0 r1
      have g0 := W6.out.free 0
      have g1 := W6.out.free 1
      go_wp2
      refine bodyPost_ret (v := .tuple #[.agg #[.int .i64 n, .slice A6 N6 cap6], .bool true]) (by simp [results, Try.results19, go_sem, r0, r1]) rfl ?_
      exact give_two hB (by rw [← HYE.out]; exact HO6.out) B6.out

set_option maxRecDepth 20000 in
set_option maxHeartbeats 8000000 in
theorem impl_flags_put (n : Int) (A : Option Addr) (N cap : Nat) (L : List ML) (A2 : Option Addr) (N2 cap2 : Nat) (P : List Int) (f : Int) (w : World) (hM : MIn w A N cap L) (hI : IIn w A2 N2 cap2 P)
    (hbv : bOk n L = true) (hplc : plc L.length 0 P = true) (hf : isF f = true) :
    Calls Try.prog 19 #[.agg #[.int .i64 n, .slice A N cap], .slice A2 N2 cap2, .int .i64 0, .int .i64 f] w (GivesBB w n (flM P 0 f 1 L) true) := by
  obtain ⟨B, hB⟩ : ∃ B, w.heap.size = B := ⟨_, rfl⟩
  have K0 := Lib.hid (((kp_two w 25 25 #[.int .i64 n, .slice A N cap] #[.int .i64 0, .slice none 0 0] hB).and ((hM.keep.alloc (.cells #[.int .i64 n, .slice A N cap] 25)).alloc (.cells #[.int .i64 0, .slice none 0 0] 25))).and ((hI.keep.alloc (.cells #[.int .i64 n, .slice A N cap] 25)).alloc (.cells #[.int .i64 0, .slice none 0 0] 25)))
  have HSZ : Hid (((w.alloc (.cells #[.int .i64 n, .slice A N cap] 25)).alloc (.cells #[.int .i64 0, .slice none 0 0] 25)).heap.size = B + 1 + 1) := by show _ = _; simp [hB]
  have b0 := K0.out.here.1.1.2.1.cell 0
  have b1 := K0.out.here.1.1.2.1.cell 1
  simp at b0 b1
  have HBV := Lib.hid hbv
  have HPL := Lib.hid hplc
  obtain ⟨hl10, hn1⟩ := bxAp_size hbv
  obtain ⟨o, ho, rfl⟩ := isF_nat hf
  have HF := Lib.hid hf
  clear hM hI hbv hplc hf
  go_enter Try.func19, Try.ntmps19
  go_wp2_with fail
  refine (link_yes n A N cap L _ K0.out.here.1.2 HBV.out).mono ?_
  rintro e w2 ⟨c, X, rfl, hc1, hc2, hchn, hX, hb⟩
  rw [HSZ.out] at hc1
  have K2 := Lib.hid ((K0.out.move hb).and hchn.keep)
  have HX := Lib.hid hX
  have HXE : Hid (X.length = L.length) := by
    show _ = _
    have := congrArg List.length hX
    rw [List.length_map] at this
    exact this
  have HXB := Lib.hid (fun (i g : Nat) (m : ML) (hx : X[i]? = some (g, m)) => hchn.nds.size hx)
  clear hb hchn hX
  go_wp2_with fail
  refine (change_put (o : Int) _ HF.out).mono ?_
  rintro e w3 ⟨rfl, hcell, hb⟩
  have hlt3 : w2.heap.size < w3.heap.size := by simpa using block_lt_of_cell hcell
  have K3 := Lib.hid ((K2.out.move hb).and (F := fun w' => _) (G := fun w' => w'.cell? ⟨w2.heap.size, 0, none⟩ = some (.int .i64 (o : Int)) ∧ w3.heap.size ≤ w'.heap.size) (fun w4 h4 => ⟨(h4.cell (p := ⟨w2.heap.size, 0, none⟩) hlt3).trans hcell, h4.size⟩))
  clear hb hcell
  go_wp2_with fail
  refine (impl_pick c n X A2 N2 cap2 P true _ K3.out.here.1.2 (by rw [HXE.out]; omega) K3.out.here.1.1.2 (by rw [HXE.out]; exact HPL.out)).mono ?_
  rintro e w4 ⟨A4, cap4, rfl, hown, hb⟩
  have K4 := Lib.hid (K3.out.move hb)
  have HO := Lib.hid (hown.from (Nat.le_of_lt hlt3))
  clear hb hown
  obtain ⟨C2, hC2⟩ : ∃ C2, w2.heap.size = C2 := ⟨_, rfl⟩
  have HC2 := Lib.hid hC2
  rw [hC2] at HO hc2 hlt3 K4
  rw [hC2] at HXB ⊢
  obtain ⟨Q, hQ⟩ : ∃ Q, P.length = Q := ⟨_, rfl⟩
  have HQ := Lib.hid hQ
  have hQ10 : Q ≤ 10 := by rw [← hQ]; exact Nat.le_trans (plc_len HPL.out) hl10
  rw [hQ] at HO ⊢
  clear hQ hC2
  go_wp2
  go_loopw [44] (fun i wr => ∃ (j : Nat) (Y : NX), j ≤ Q ∧ i = .int .i64 (j : Int) ∧ Hid (Chn wr c n Y) ∧ Hid (Y.map (·.1) = X.map (·.1)) ∧ Hid (Y.map (·.2) = flM (P.take j) 0 (o : Int) 1 L) ∧ Hid (ROwn ptrR wr C2 (.slice A4 Q cap4) (atN X P)) ∧
      Hid (wr.cell? ⟨C2, 0, none⟩ = some (.int .i64 (o : Int))) ∧ Hid (Below (B + 1 + 1) w4 wr)) (fun i _ => Q - (intOf i).toNat)
  case atStart => exact ⟨0, X, Nat.zero_le _, by go_num, K4.out.here.1.2, rfl, by show _ = _; rw [HX.out, List.take_zero, flM_nil], HO, K4.out.here.2.1, Below.refl _ _⟩
  case round =>
    obtain ⟨j, Y, hj, rfl, HC, HY1, HY2, HO, HCE, HB⟩ := hrel
    by_cases hlt : j < Q
    · have h0 : (0 : Int) ≤ (j : Int) := by omega
      have h5 : (j : Int) < (Q : Int) := by omega
      obtain ⟨x, hx⟩ : ∃ x, P[j]? = some x := ⟨_, List.getElem?_eq_getElem (by rw [HQ.out]; exact hlt)⟩
      obtain ⟨k, rfl, hk⟩ := plc_place HPL.out hx
      obtain ⟨m, hm⟩ : ∃ m, L[k]? = some m := ⟨_, List.getElem?_eq_getElem hk⟩
      obtain ⟨⟨g, m0⟩, hg⟩ : ∃ y, X[k]? = some y := ⟨_, List.getElem?_eq_getElem (by rw [HXE.out]; exact hk)⟩
      obtain ⟨s1, s2⟩ := flM_step (h := 0) (f := (o : Int)) HPL.out hx hm
      have hy := fst_at HY1.out hg (by rw [HY2.out]; exact s1)
      have hgat := atN_get hx (X := X) (g := g) (m := m0) (by rw [show (((k + 1 : Nat) : Int)).toNat - 1 = k by omega]; exact hg)
      obtain ⟨pb, po, hAe, hpb, p0⟩ := ptr_at HO.out.at hgat
      obtain ⟨u, fl, t⟩ := m
      obtain ⟨-, d1, -, -⟩ := HC.out.nds.cells hy
      have d1f := HC.out.nds.free hy 1
      have hgC := HXB.out k g m0 hg
      have hgc := (HC.out.nds.node k g _ hy).1
      have hmok := ((bOk_iff.1 HBV.out).1 _ (List.mem_of_getElem? hm)).1
      obtain ⟨a, ha, hae⟩ := isF_nat (mOk_iff.1 hmok).2.1
      simp only at hae d1
      subst hae
      obtain ⟨z, hz⟩ : ∃ z, chN a 0 o = z := ⟨_, rfl⟩
      have hfl := HC.out.flag hy (z : Int)
      have hchm : chM 0 (o : Int) (u, (a : Int), t) = (u, (z : Int), t) := by rw [← hz]; rfl
      rw [hchm] at s2
      have HFL := Lib.hid hfl
      have HS2 := Lib.hid s2
      have HZ := Lib.hid hz
      have HYG := Lib.hid hy
      have hgC' : ¬ g = C2 := by omega
      have hce := HCE.out
      clear s1 s2 hy hgat hx hg hm hmok hfl hchm hz
      subst hAe
      go_wp2_with fail
      refine (clo_put a o C2 _ ha ho hce).mono ?_
      rintro e w5 ⟨rfl, kk, rfl⟩
      rw [HZ.out]
      go_wp2
      go_roundw
      case rel =>
        refine ⟨j + 1, Y.set k (g, (u, (z : Int), t)), by omega, by go_num, HFL.out.drewN kk, ?_, ?_, ?_, ?_, ?_⟩
        · show _ = _
          rw [fst_set HY1.out HYG.out]
        · show _ = _
          rw [← HS2.out, List.map_set, HY2.out]
        · exact (HO.out.store (p := ⟨g, 1, none⟩) (HO.out.base g (by omega)) _).drewN kk
        · exact (World.cell?_setCell_other wr _ _ _ (by intro e; injection e with e1; exact hgC' e1)).trans HCE.out
        · exact below_drewN' (HB.out.setCell (p := ⟨g, 1, none⟩) (by simp; omega) _) kk
      case measure => simp [intOf]; omega
    · have h5 : ¬ (j : Int) < (Q : Int) := by omega
      have hjQ : j = Q := by omega
      have HYE : Hid (Y.map (·.2) = flM P 0 (o : Int) 1 L) := by
        show _ = _
        rw [HY2.out, List.take_of_length_le (by rw [HQ.out]; omega)]
      have hYl : Y.length ≤ 20 := by
        have h1 := congrArg List.length HYE.out
        rw [List.length_map, flM_len] at h1
        omega
      have W5 := Lib.hid (K4.out.here.1.1.1.1.2.2.1.below HB.out (by omega))
      have B5 := Lib.hid (K4.out.here.1.1.1.1.1.trans (HB.out.mono (by omega)))
      have hz5 := Nat.le_trans K4.out.here.1.1.1.1.2.2.2 HB.out.size
      clear hjQ
      go_wp2_with fail
      refine (impl_box c n Y _ HC.out hYl).mono ?_
      rintro e w6 ⟨A6, N6, cap6, rfl, hown, hb⟩
      have W6 := Lib.hid (W5.out.below hb (by omega))
      have B6 := Lib.hid (B5.out.trans (hb.mono (by omega)))
      have HO6 := Lib.hid (hown.from hz5)
      clear hb hown
      have r0 := W6.out.cell 0
      have r1 := W6.out.cell 1
      simp at r0 r1
      have g0 := W6.out.free 0
      have g1 := W6.out.free 1
      go_wp2
      refine bodyPost_ret (v := .tuple #[.agg #[.int .i64 n, .slice A6 N6 cap6], .bool true]) (by simp [results, Try.results19, go_sem, r0, r1]) rfl ?_
      exact give_two hB (by rw [← HYE.out]; exact HO6.out) B6.out

theorem impl_flags (n : Int) (A : Option Addr) (N cap : Nat) (L : List ML) (A2 : Option Addr) (N2 cap2 : Nat) (P : List Int) (h f : Int) (w : World) (hM : MIn w A N cap L) (hI : IIn w A2 N2 cap2 P) :
    Calls Try.prog 19 #[.agg #[.int .i64 n, .slice A N cap], .slice A2 N2 cap2, .int .i64 h, .int .i64 f] w (GivesBB w (bxFl n L P h f).1 (bxFl n L P h f).2.1 (bxFl n L P h f).2.2) := by
  cases hno : bOk n L && plc L.length 0 P && howB h && isF f with
  | false => exact impl_flags_no n A N cap L A2 N2 cap2 P h f w hM hI hno
  | true =>
    obtain ⟨h123, h4⟩ := Bool.and_eq_true_iff.1 hno
    obtain ⟨h12, h3⟩ := Bool.and_eq_true_iff.1 h123
    obtain ⟨h1, h2⟩ := Bool.and_eq_true_iff.1 h12
    rw [bxFl_yes h1 h2 h3 h4]
    rcases how_of h3 with rfl | rfl | rfl
    · exact impl_flags_set n A N cap L A2 N2 cap2 P f w hM hI h1 h2 h4
    · exact impl_flags_remove n A N cap L A2 N2 cap2 P f w hM hI h1 h2 h4
    · exact impl_flags_put n A N cap L A2 N2 cap2 P f w hM hI h1 h2 h4
end Go.Proofs.Ytmljdbbbfpmbcaa

namespace Go.Proofs.Ytmljdbbbfpmbcaa
open Go.RowKit
set_option linter.unusedVariables false

/-- Three new blocks, one after the other. -/
theorem kp_three (w : World) (t1 t2 t3 : TypeId) (c1 c2 c3 : Array Value) {B : Nat} (hB : w.heap.size = B) :
    Kp (((w.alloc (.cells c1 t1)).alloc (.cells c2 t2)).alloc (.cells c3 t3)) fun w' => (Below B w w' ∧ B + 1 + 1 + 1 ≤ w'.heap.size) ∧ Whole w' B t1 c1 ∧ Whole w' (B + 1) t2 c2 ∧ Whole w' (B + 1 + 1) t3 c3 := fun w2 h2 => by
  have h12 := kp_two w t1 t2 c1 c2 hB
  have e : ((w.alloc (.cells c1 t1)).alloc (.cells c2 t2)).heap.size = B + 1 + 1 := by simp [hB]
  have h3 := kp_one ((w.alloc (.cells c1 t1)).alloc (.cells c2 t2)) t3 c3 e
  obtain ⟨a1, a2, a3⟩ := h3 w2 h2
  obtain ⟨b1, b2, b3, b4⟩ := h12 w2 (e ▸ a1)
  exact ⟨⟨b1, a3⟩, b2, b3, a2⟩
theorem give_at {w w' : World} {B r N cap : Nat} {A : Option Addr} {n : Int} {L : List ML} {b : Bool} {u u2 : Value} (hB : w.heap.size = B) (hr : B ≤ r) (ho : ROwn mailR w' (r + 1) (.slice A N cap) L) (hb : Below B w w') :
    GivesBB w n L b (.returned (.tuple #[.agg #[.int .i64 n, .slice A N cap], .bool b])) ((w'.setCell ⟨r, 0, none⟩ u).setCell ⟨r, 1, none⟩ u2) := by
  refine ⟨A, N, cap, rfl, ?_, ?_⟩
  · rw [hB]
    exact ((ho.store (p := ⟨r, 0, none⟩) (ho.base r (by omega)) _).store (p := ⟨r, 1, none⟩) (ho.base r (by omega)) _).from (by omega)
  · rw [hB]
    exact (hb.setCell (p := ⟨r, 0, none⟩) hr _).setCell (p := ⟨r, 1, none⟩) hr _
theorem no_box_at {w w' : World} {B q : Nat} {u u2 : Value} {r : Int × List ML × Bool} (hB : w.heap.size = B) (hq : B ≤ q) (hr : r = (0, [], false)) (hb : Below B w w') :
    GivesBB w r.1 r.2.1 r.2.2 (.returned (.tuple #[.agg #[.int .i64 0, .slice none 0 0], .bool false])) ((w'.setCell ⟨q, 0, none⟩ u).setCell ⟨q, 1, none⟩ u2) := by
  subst hr
  exact give_at hB hq (ROwn.nil _ _) hb

set_option maxRecDepth 20000 in
set_option maxHeartbeats 8000000 in
theorem impl_copy_no (n : Int) (A : Option Addr) (N cap : Nat) (L : List ML) (A2 : Option Addr) (N2 cap2 : Nat) (P : List Int) (m : Int) (A3 : Option Addr) (N3 cap3 : Nat) (M : List ML) (w : World) (hM : MIn w A N cap L) (hI : IIn w A2 N2 cap2 P) (hM2 : MIn w A3 N3 cap3 M)
    (hno : (bOk n L && bOk m M && plc L.length 0 P) = false) :
    Calls Try.prog 42 #[.agg #[.int .i64 n, .slice A N cap], .slice A2 N2 cap2, .agg #[.int .i64 m, .slice A3 N3 cap3]] w (GivesBB w (bxCp n L P m M).1 (bxCp n L P m M).2.1 (bxCp n L P m M).2.2) := by
  obtain ⟨B, hB⟩ : ∃ B, w.heap.size = B := ⟨_, rfl⟩
  have hk := fun {F : World → Prop} (h : Kp w F) => ((h.alloc (.cells #[.int .i64 n, .slice A N cap] 25)).alloc (.cells #[.int .i64 m, .slice A3 N3 cap3] 25)).alloc (.cells #[.int .i64 0, .slice none 0 0] 25)
  have K0 := Lib.hid ((kp_three w 25 25 25 #[.int .i64 n, .slice A N cap] #[.int .i64 m, .slice A3 N3 cap3] #[.int .i64 0, .slice none 0 0] hB).and (hk (hM.keep.and (hI.keep.and hM2.keep))))
  have b0 := K0.out.here.1.2.1.cell 0
  have b1 := K0.out.here.1.2.1.cell 1
  simp at b0 b1
  have HR := Lib.hid (bxCp_no hno)
  have HNO := Lib.hid hno
  clear hM hI hM2 hno hk
  cases hbv : bOk n L with
  | false =>
    have HBV := Lib.hid hbv
    clear hbv
    go_enter Try.func42, Try.ntmps42
    go_wp2_with fail
    refine (link_no n A N cap L _ K0.out.here.2.1 HBV.out).mono ?_
    rintro e w2 ⟨rfl, hb⟩
    have K2 := Lib.hid (K0.out.move hb)
    clear hb
    have r0 := K2.out.here.1.2.2.2.cell 0
    have r1 := K2.out.here.1.2.2.2.cell 1
    simp at r0 r1
    have g0 := K2.out.here.1.2.2.2.free 0
    have g1 := K2.out.here.1.2.2.2.free 1
    go_wp2
    refine bodyPost_ret (v := .tuple #[.agg #[.int .i64 0, .slice none 0 0], .bool false]) (by simp [results, Try.results42, go_sem, r0, r1]) rfl ?_
    exact no_box_at hB (by omega) HR.out K2.out.here.1.1.1
  | true =>
    have HBV := Lib.hid hbv
    obtain ⟨hl10, hn1⟩ := bxAp_size hbv
    clear hbv
    obtain ⟨pv, hpv⟩ : ∃ pv, plc L.length 0 P = pv := ⟨_, rfl⟩
    have HPV := Lib.hid hpv
    clear hpv
    go_enter Try.func42, Try.ntmps42
    go_wp2_with fail
    refine (link_yes n A N cap L _ K0.out.here.2.1 HBV.out).mono ?_
    rintro e w2 ⟨c, X, rfl, hc1, hc2, hchn, hX, hb⟩
    have K2 := Lib.hid ((K0.out.move hb).and hchn.keep)
    have HXE : Hid (X.length = L.length) := by
      show _ = _
      have := congrArg List.length hX
      rw [List.length_map] at this
      exact this
    clear hb hchn hX hc1 hc2
    go_wp2_with fail
    refine (impl_pick c n X A2 N2 cap2 P pv _ K2.out.here.2 (by rw [HXE.out]; omega) K2.out.here.1.2.2.1 (by rw [HXE.out]; exact HPV.out)).mono ?_
    cases pv with
    | false =>
      rintro e w4 ⟨rfl, hb⟩
      have K4 := Lib.hid (K2.out.move hb)
      clear hb
      have r0 := K4.out.here.1.1.2.2.2.cell 0
      have r1 := K4.out.here.1.1.2.2.2.cell 1
      simp at r0 r1
      have g0 := K4.out.here.1.1.2.2.2.free 0
      have g1 := K4.out.here.1.1.2.2.2.free 1
      go_wp2
      refine bodyPost_ret (v := .tuple #[.agg #[.int .i64 0, .slice none 0 0], .bool false]) (by simp [results, Try.results42, go_sem, r0, r1]) rfl ?_
      exact no_box_at hB (by omega) HR.out K4.out.here.1.1.1.1
    | true =>
      rintro e w4 ⟨A4, cap4, rfl, hown, hb⟩
      have K4 := Lib.hid (K2.out.move hb)
      have HMV : Hid (bOk m M = false) := by
        show _ = _
        have h1 := HNO.out
        rw [HBV.out, HPV.out] at h1
        simpa using h1
      clear hb hown
      have b0 := K4.out.here.1.1.2.2.1.cell 0
      have b1 := K4.out.here.1.1.2.2.1.cell 1
      simp at b0 b1
      go_wp2_with fail
      refine (link_no m A3 N3 cap3 M _ K4.out.here.1.2.2.2 HMV.out).mono ?_
      rintro e w5 ⟨rfl, hb⟩
      have K5 := Lib.hid (K4.out.move hb)
      clear hb
      have r0 := K5.out.here.1.1.2.2.2.cell 0
      have r1 := K5.out.here.1.1.2.2.2.cell 1
      simp at r0 r1
      have g0 := K5.out.here.1.1.2.2.2.free 0
      have g1 := K5.out.here.1.1.2.2.2.free 1
      go_wp2
      refine bodyPost_ret (v := .tuple #[.agg #[.int .i64 0, .slice none 0 0], .bool false]) (by simp [results, Try.results42, go_sem, r0, r1]) rfl ?_
      exact no_box_at hB (by omega) HR.out K5.out.here.1.1.1.1
end Go.Proofs.Ytmljdbbbfpmbcaa

namespace Go.Proofs.Ytmljdbbbfpmbcaa
open Go.RowKit
set_option linter.unusedVariables false

theorem put_no_at {t : List UInt8} {v : ByteArray} (hv : sB t = v) (c : Nat) (n f : Int) (X : NX) (w : World) (h : Chn w c n X) (hl : X.length ≤ 10) (hno : X.length = 10 ∨ 99 < n) :
    Calls Try.prog 67 #[.pointer (some ⟨c, 0, none⟩), .int .i64 f, .string v] w (fun e w' => e = .returned (.bool false) ∧ w = w') := by subst hv; exact put_no c n f X t w h hl hno
theorem put_yes_at {t : List UInt8} {v : ByteArray} (hv : sB t = v) (c : Nat) (n f : Int) (X : NX) (w : World) (h : Chn w c n X) (hl : X.length < 10) (hn : n ≤ 99) (hn0 : -1000 ≤ n) :
    Calls Try.prog 67 #[.pointer (some ⟨c, 0, none⟩), .int .i64 f, .string v] w (PutYes w c n X (n, f, t)) := by subst hv; exact put_yes c n f X t w h hl hn hn0

set_option maxRecDepth 20000 in
set_option maxHeartbeats 8000000 in
theorem impl_copy_yes (n : Int) (A : Option Addr) (N cap : Nat) (L : List ML) (A2 : Option Addr) (N2 cap2 : Nat) (P : List Int) (m : Int) (A3 : Option Addr) (N3 cap3 : Nat) (M : List ML) (w : World) (hM : MIn w A N cap L) (hI : IIn w A2 N2 cap2 P) (hM2 : MIn w A3 N3 cap3 M)
    (h1 : bOk n L = true) (h2 : bOk m M = true) (h3 : plc L.length 0 P = true) :
    Calls Try.prog 42 #[.agg #[.int .i64 n, .slice A N cap], .slice A2 N2 cap2, .agg #[.int .i64 m, .slice A3 N3 cap3]] w (GivesBB w (bxCp n L P m M).1 (bxCp n L P m M).2.1 (bxCp n L P m M).2.2) := by
  obtain ⟨B, hB⟩ : ∃ B, w.heap.size = B := ⟨_, rfl⟩
  have hk := fun {F : World → Prop} (h : Kp w F) => ((h.alloc (.cells #[.int .i64 n, .slice A N cap] 25)).alloc (.cells #[.int .i64 m, .slice A3 N3 cap3] 25)).alloc (.cells #[.int .i64 0, .slice none 0 0] 25)
  have K0 := Lib.hid ((kp_three w 25 25 25 #[.int .i64 n, .slice A N cap] #[.int .i64 m, .slice A3 N3 cap3] #[.int .i64 0, .slice none 0 0] hB).and (hk (hM.keep.and (hI.keep.and hM2.keep))))
  have HBV := Lib.hid h1
  have HMV := Lib.hid h2
  have HPV := Lib.hid h3
  obtain ⟨hl10, hn1⟩ := bxAp_size h1
  obtain ⟨hm10, hm1⟩ := bxAp_size h2
  have hm100 := (bOk_iff.1 h2).2.2.2.1
  have HSOME := Lib.hid (fun (n2 : Int) (M2 : List ML) (hc : cpA m M (atM L P) = some (n2, M2)) => bxCp_all h1 h2 h3 hc)
  have HNONE := Lib.hid (fun (hc : cpA m M (atM L P) = none) => bxCp_none h1 h2 h3 hc)
  have b0 := K0.out.here.1.2.1.cell 0
  have b1 := K0.out.here.1.2.1.cell 1
  simp at b0 b1
  clear hM hI hM2 hk h1 h2 h3
  go_enter Try.func42, Try.ntmps42
  go_wp2_with fail
  refine (link_yes n A N cap L _ K0.out.here.2.1 HBV.out).mono ?_
  rintro e w2 ⟨c, X, rfl, hc1, hc2, hchn, hX, hb⟩
  have K2 := Lib.hid ((K0.out.move hb).and hchn.keep)
  have HX := Lib.hid hX
  have HXE : Hid (X.length = L.length) := by
    show _ = _
    have := congrArg List.length hX
    rw [List.length_map] at this
    exact this
  clear hb hchn hX hc1 hc2
  go_wp2_with fail
  refine (impl_pick c n X A2 N2 cap2 P true _ K2.out.here.2 (by rw [HXE.out]; omega) K2.out.here.1.2.2.1 (by rw [HXE.out]; exact HPV.out)).mono ?_
  rintro e w4 ⟨A4, cap4, rfl, hown, hb⟩
  have K4 := Lib.hid ((K2.out.move hb).and hown.keep)
  have hz4 := K4.out.here.1.1.1.1.2
  clear hb hown b0 b1
  have b0 := K4.out.here.1.1.1.2.2.1.cell 0
  have b1 := K4.out.here.1.1.1.2.2.1.cell 1
  simp at b0 b1
  obtain ⟨S, hS⟩ : ∃ S, w4.heap.size = S := ⟨_, rfl⟩
  have HS := Lib.hid hS
  rw [hS] at hz4
  go_wp2_with fail
  refine (link_yes m A3 N3 cap3 M _ K4.out.here.1.1.2.2.2 HMV.out).mono ?_
  rintro e w5 ⟨d, Y0, rfl, hd1, hd2, hchn, hY, hb⟩
  rw [hS] at hd1 hb
  have HCH := Lib.hid hchn
  have HY := Lib.hid hY
  have HB5 := Lib.hid hb
  have hz5 := hb.size
  obtain ⟨Q, hQ⟩ : ∃ Q, P.length = Q := ⟨_, rfl⟩
  have HQ := Lib.hid hQ
  have hQ10 : Q ≤ 10 := by rw [← hQ]; exact Nat.le_trans (plc_len HPV.out) hl10
  rw [hQ] at K4 ⊢
  rw [hS] at hz5
  clear hchn hY hb hQ hS
  go_wp2
  go_loopw [41] (fun i wr => ∃ (j : Nat) (Y : NX) (m' : Int) (M' : List ML), j ≤ Q ∧ i = .int .i64 (j : Int) ∧ 1 ≤ m' ∧ m' ≤ 100 ∧ S ≤ wr.heap.size ∧ Hid (Chn wr d m' Y) ∧ Hid (Y.map (·.2) = M') ∧ Hid (M'.length ≤ 10) ∧ Hid (cpA m M (atM L P) = cpA m' M' ((atM L P).drop j)) ∧ Hid (Below S w4 wr)) (fun i _ => Q - (intOf i).toNat)
  case atStart => exact ⟨0, Y0, m, M, Nat.zero_le _, by go_num, hm1, hm100, hz5, HCH, HY, hm10, rfl, HB5⟩
  case round =>
    obtain ⟨j, Y, m', M', hj, rfl, hm1', hm100', hzr, HC, HY, HM10, HR, HB⟩ := hrel
    have K5 := Lib.hid (K4.out.move (w' := wr) (by rw [HS.out]; exact HB.out))
    have HYl : Hid (Y.length = M'.length) := by
      show _ = _
      have := congrArg List.length HY.out
      rw [List.length_map] at this
      exact this
    by_cases hlt : j < Q
    · have h0 : (0 : Int) ≤ (j : Int) := by omega
      have h5 : (j : Int) < (Q : Int) := by omega
      obtain ⟨x, hx⟩ : ∃ x, P[j]? = some x := ⟨_, List.getElem?_eq_getElem (by rw [HQ.out]; exact hlt)⟩
      obtain ⟨k, rfl, hk⟩ := plc_place HPV.out hx
      obtain ⟨mm, hm⟩ : ∃ m, L[k]? = some m := ⟨_, List.getElem?_eq_getElem hk⟩
      obtain ⟨⟨g, m0⟩, hg⟩ : ∃ y, X[k]? = some y := ⟨_, List.getElem?_eq_getElem (by rw [HXE.out]; exact hk)⟩
      have hm0 : m0 = mm := by
        have h1 := hm
        rw [← HX.out, List.getElem?_map, hg] at h1
        exact Option.some.inj h1
      subst hm0
      obtain ⟨u, f, t⟩ := m0
      have hgat := atN_get hx (X := X) (g := g) (m := (u, f, t)) (by rw [show (((k + 1 : Nat) : Int)).toNat - 1 = k by omega]; exact hg)
      obtain ⟨pb, po, hAe, hpb, p0⟩ := ptr_at K5.out.here.2.at hgat
      obtain ⟨-, d1, d2, -⟩ := K5.out.here.1.2.nds.cells hg
      have HDR := Lib.hid (atM_drop hx hm)
      obtain ⟨v, hv⟩ : ∃ v, sB t = v := ⟨_, rfl⟩
      have HV := Lib.hid hv
      simp only at d1 d2
      rw [hv] at d2
      clear hx hm hgat hg hv
      subst hAe
      by_cases hfull : 10 ≤ M'.length ∨ 99 < m'
      · have HNR : Hid (bxCp n L P m M = (m, M, false)) := HNONE.out (by rw [HR.out, HDR.out, cpA_full hfull])
        have HFU : Hid (Y.length = 10 ∨ 99 < m') := by
          have h1 := HM10.out
          have h2 := HYl.out
          rcases hfull with h | h
          · exact .inl (by omega)
          · exact .inr h
        clear hfull
        have hyl : Y.length ≤ 10 := by rw [HYl.out]; exact HM10.out
        go_wp2
        go_quiet ((go_at_call 67; exact Calls.quiet_of_same ((put_no_at HV.out d m' f Y _ (HC.out.drewN _) hyl HFU.out).mono fun e w' h => ⟨h.1, h.2.symm⟩)))
        rename_i nq
        have k6 := K5.out.drewN nq
        obtain ⟨wb, hwb⟩ : ∃ wb, wr.drewN nq = wb := ⟨_, rfl⟩
        rw [hwb] at k6 ⊢
        have K6 := Lib.hid k6.drew
        have b0 := k6.here.1.1.1.2.2.1.cell 0
        have b1 := k6.here.1.1.1.2.2.1.cell 1
        simp at b0 b1
        have r0 := k6.drew.here.1.1.1.2.2.2.free 0
        have hzb := k6.drew.here.1.1.1.1.2
        clear k6 hwb
        go_wp2
        go_region_with ((go_at_call 70; refine (lib_clone wb.drew K6.out.here.1.1.2.2.2).mono ?_; rintro e w7 ⟨A7, N7, cap7, rfl, hown, hb⟩; have K7 := Lib.hid (K6.out.move hb); have HO7 := Lib.hid (hown.from hzb); clear hb hown; have q0 := K7.out.here.1.1.1.2.2.1.cell 0; have s0 := K7.out.here.1.1.1.2.2.2.cell 0; have s1 := K7.out.here.1.1.1.2.2.2.cell 1; simp at q0 s0 s1; have f0 := K7.out.here.1.1.1.2.2.2.free 0; have f1 := K7.out.here.1.1.1.2.2.2.free 1))
        all_goals
          go_wp2
          refine bodyPost_ret (v := .tuple #[.agg #[.int .i64 m, .slice A7 N7 cap7], .bool false]) (by simp [results, Try.results42, go_sem, s0, s1]) rfl ?_
          rw [HNR.out]
          exact give_at hB (by omega) HO7.out K7.out.here.1.1.1.1.1
      · have h10 : Y.length < 10 := by have h1 := HYl.out; omega
        have h99 : m' ≤ 99 := by omega
        have HCR : Hid (cpA m M (atM L P) = cpA (m' + 1) (M' ++ [(m', f, t)]) ((atM L P).drop (j + 1))) := by
          show _ = _
          rw [HR.out, HDR.out, cpA_next hfull]
        have HM9 : Hid (M'.length < 10) := by show _ < _; omega
        have HCD := Lib.hid HC.out.drew
        have HBD := Lib.hid (fbelow_drew HB.out)
        have hd1' : S ≤ d := hd1
        clear hfull
        go_wp2
        go_region_with ((go_at_call 67; refine (put_yes_at HV.out d m' f Y wr.drew HCD.out h10 h99 (by omega)).mono ?_; rintro e w6 ⟨N6, rfl, hch, hb⟩; have HC6 := Lib.hid hch; have HB6 := Lib.hid (HBD.out.trans (hb.mono hd1')); have hz6 := Nat.le_trans hzr hb.size; clear hch hb))
        all_goals
          go_wp2
          go_roundw
          case rel =>
            refine ⟨j + 1, _, m' + 1, M' ++ [(m', f, t)], by omega, by go_num, by omega, by omega, hz6, HC6, ?_, ?_, HCR, HB6⟩
            · show _ = _
              rw [List.map_append, HY.out]
              rfl
            · show _ ≤ _
              rw [List.length_append, List.length_singleton]
              exact HM9.out
          case measure => simp [intOf]; omega
    · have h5 : ¬ (j : Int) < (Q : Int) := by omega
      have HDN : Hid ((atM L P).drop j = []) := List.drop_eq_nil_of_le (by rw [atM_len, HQ.out]; omega)
      have HSR : Hid (bxCp n L P m M = (m', M', true)) := HSOME.out m' M' (by rw [HR.out, HDN.out]; rfl)
      have hyl : Y.length ≤ 20 := by have h1 := HYl.out; have h2 := HM10.out; omega
      have hz5 := K5.out.here.1.1.1.1.2
      go_wp2_with fail
      refine (impl_box d m' Y _ HC.out hyl).mono ?_
      rintro e w6 ⟨A6, N6, cap6, rfl, hown, hb⟩
      have K6 := Lib.hid (K5.out.move hb)
      have HO6 := Lib.hid (hown.from hz5)
      clear hb hown
      have r0 := K6.out.here.1.1.1.2.2.2.cell 0
      have r1 := K6.out.here.1.1.1.2.2.2.cell 1
      simp at r0 r1
      have g0 := K6.out.here.1.1.1.2.2.2.free 0
      have g1 := K6.out.here.1.1.1.2.2.2.free 1
      go_wp2
      refine bodyPost_ret (v := .tuple #[.agg #[.int .i64 m', .slice A6 N6 cap6], .bool true]) (by simp [results, Try.results42, go_sem, r0, r1]) rfl ?_
      rw [HSR.out]
      exact give_at hB (by omega) (by rw [← HY.out]; exact HO6.out) K6.out.here.1.1.1.1.1
theorem impl_copy (n : Int) (A : Option Addr) (N cap : Nat) (L : List ML) (A2 : Option Addr) (N2 cap2 : Nat) (P : List Int) (m : Int) (A3 : Option Addr) (N3 cap3 : Nat) (M : List ML) (w : World) (hM : MIn w A N cap L) (hI : IIn w A2 N2 cap2 P) (hM2 : MIn w A3 N3 cap3 M) :
    Calls Try.prog 42 #[.agg #[.int .i64 n, .slice A N cap], .slice A2 N2 cap2, .agg #[.int .i64 m, .slice A3 N3 cap3]] w (GivesBB w (bxCp n L P m M).1 (bxCp n L P m M).2.1 (bxCp n L P m M).2.2) := by
  cases hno : bOk n L && bOk m M && plc L.length 0 P with
  | false => exact impl_copy_no n A N cap L A2 N2 cap2 P m A3 N3 cap3 M w hM hI hM2 hno
  | true =>
    obtain ⟨h12, h3⟩ := Bool.and_eq_true_iff.1 hno
    obtain ⟨h1, h2⟩ := Bool.and_eq_true_iff.1 h12
    exact impl_copy_yes n A N cap L A2 N2 cap2 P m A3 N3 cap3 M w hM hI hM2 h1 h2 h3
end Go.Proofs.Ytmljdbbbfpmbcaa

namespace Go.Proofs.Ytmljdbbbfpmbcaa
open Go.RowKit
set_option linter.unusedVariables false

theorem lnk_app (c : Nat) {K R : NX} {i : Nat} (h : i ≤ K.length) : lnk c (K ++ R) i = lnk c K i := by
  cases i with
  | zero => rfl
  | succ j =>
    show (⟨((K ++ R).getD j (0, (0, 0, []))).1, 3, none⟩ : Addr) = ⟨(K.getD j (0, (0, 0, []))).1, 3, none⟩
    rw [List.getD_eq_getElem?_getD, List.getD_eq_getElem?_getD, List.getElem?_append_left (by omega)]
theorem mid_at {K R : NX} {y : Nat × ML} : (K ++ y :: R)[K.length]? = some y := by rw [List.getElem?_append_right (Nat.le_refl _), Nat.sub_self]; rfl
theorem mid_next {K R : NX} {y : Nat × ML} : nxt (K ++ y :: R) (K.length + 1) = nxt R 0 := by rw [nxt_app_r (by omega), show K.length + 1 - K.length = 1 by omega]; rfl
/-- A slice of the call's own of another type lies off the links. -/
theorem Chn.off {α : Type} {R : RowT α} {w : World} {B c i : Nat} {n : Int} {X : NX} {v : Value} {M : List α} (h : Chn w c n X) (ho : ROwn R w B v M) (h1 : 94 ≠ R.t) (h2 : 78 ≠ R.t) (hi : i ≤ X.length) : v.ownBlock ≠ some (lnk c X i).block := by
  cases i with
  | zero => exact ho.whole h.head h1
  | succ j =>
    obtain ⟨⟨g, m⟩, hx⟩ : ∃ y, X[j]? = some y := ⟨_, List.getElem?_eq_getElem (by omega)⟩
    rw [lnk_succ hx]
    exact ho.whole (h.nds.node j g m hx).2 h2
/-- The places of what was removed. -/
def GivesX (w : World) (c : Nat) (n : Int) (L : List ML) (e : Ending) (w' : World) : Prop :=
  ∃ A N cap Y, e = .returned (.slice A N cap) ∧ ROwn intR w' w.heap.size (.slice A N cap) (gnI L) ∧ Chn w' c n Y ∧ Y.map (·.2) = kpM L ∧ Below c w w'

set_option maxRecDepth 20000 in
set_option maxHeartbeats 8000000 in
theorem impl_chexp (c : Nat) (n : Int) (X : NX) (L : List ML) (w : World) (h : Chn w c n X) (hL : X.map (·.2) = L) (hl : L.length ≤ 20) (hok : ∀ m ∈ L, mOk m = true) :
    Calls Try.prog 61 #[.pointer (some ⟨c, 0, none⟩)] w (GivesX w c n L) := by
  obtain ⟨j0, hj, hp0, hp1, hp2⟩ := info_parts Try.infoNum
  obtain ⟨B, hB⟩ : ∃ B, w.heap.size = B := ⟨_, rfl⟩
  obtain ⟨Z, hZ⟩ : ∃ Z, L.length = Z := ⟨_, rfl⟩
  rw [hZ] at hl
  have HZ := Lib.hid hZ
  have HBB := Lib.hid hB
  have HOK := Lib.hid hok
  have H := Lib.hid h
  have HL := Lib.hid hL
  have hcB := h.head.lt
  rw [hB] at hcB
  clear h hL hZ hok
  go_enter Try.func61, Try.ntmps61
  go_wp2
  go_loopg [3, 4, 5] Z (fun gk v p a wr => ∃ (k q : Nat) (K R : NX) (A3 : Option Addr) (N3 cap3 : Nat), k + gk = Z ∧ v = .slice A3 N3 cap3 ∧ p = .int .i64 (q : Int) ∧ a = .pointer (some (lnk c (K ++ R) K.length)) ∧ B ≤ wr.heap.size ∧ N3 ≤ k ∧ q ≤ k + 1 ∧
      Hid (R.length = gk) ∧ Hid (q = K.length + 1) ∧ Hid (Chn wr c n (K ++ R)) ∧ Hid (ROwn intR wr B (.slice A3 N3 cap3) (gnI (L.take k))) ∧ Hid (K.map (·.2) = kpM (L.take k)) ∧ Hid (R.map (·.2) = L.drop k) ∧ Hid (Below c w wr))
  case atStart => exact ⟨0, 1, [], X, none, 0, 0, by omega, rfl, by go_num, rfl, by omega, by omega, by omega, by show _ = _; rw [← HZ.out, ← HL.out, List.length_map], rfl, H, ROwn.nil _ _, rfl, HL, Below.refl _ _⟩
  case round =>
    obtain ⟨k, q, K, R, A3, N3, cap3, hk, rfl, rfl, rfl, hBr, hN3, hqk, HRL, HQ, HC, HO, HK, HR, HB⟩ := hrel
    obtain ⟨pb, po, hp⟩ := lnk_spot c (K ++ R) K.length
    have HP := Lib.hid hp
    obtain ⟨l0, l1, l2, l3⟩ := HC.out.link (i := K.length) (by rw [List.length_append]; omega)
    rw [hp] at l0 l1 l2 l3 ⊢
    simp only at l2 l3
    clear hp
    by_cases hlt : k < Z
    · obtain ⟨m, hm⟩ : ∃ m, L[k]? = some m := ⟨_, List.getElem?_eq_getElem (by rw [HZ.out]; exact hlt)⟩
      obtain ⟨u, f, t⟩ := m
      have hmok := HOK.out _ (List.mem_of_getElem? hm)
      cases R with
      | nil =>
        have := HRL.out
        simp at this
        omega
      | cons y R =>
        obtain ⟨g, m'⟩ := y
        have hR := HR.out
        rw [drop_at hm, List.map_cons] at hR
        obtain ⟨hm', hR'⟩ := List.cons.inj hR
        simp only at hm'
        subst hm'
        have HR' := Lib.hid hR'
        have HM := Lib.hid hm
        have hmid : (K ++ (g, (u, f, t)) :: R)[K.length]? = some (g, (u, f, t)) := mid_at
        obtain ⟨d0, d1, d2, d3⟩ := HC.out.nds.cells hmid
        rw [mid_next] at d3
        rw [nxt_some hmid] at l0
        have hdl := dl_have hmok
        obtain ⟨P2, hP2⟩ : ∃ P2, nxt R 0 = P2 := ⟨_, rfl⟩
        have HP2 := Lib.hid hP2
        rw [hP2] at d3
        have HMID := Lib.hid hmid
        clear hR hR' hm hmid d0 d2 d3 hmok hP2
        simp only at d1
        have HDL0 := Lib.hid hdl
        clear hdl
        go_wp2_with fail
        refine (impl_have f 8 _).mono ?_
        rintro e w2 ⟨rfl, kk, rfl⟩
        have hC2 := HC.out.drewN kk
        have hO2 := HO.out.drewN kk
        have hB2 := below_drewN' HB.out kk
        have hBr2 : B ≤ (wr.drewN kk).heap.size := hBr
        obtain ⟨wa, hwa⟩ : ∃ wa, wr.drewN kk = wa := ⟨_, rfl⟩
        rw [hwa] at hC2 hO2 hB2 hBr2 ⊢
        obtain ⟨l0, l1, l2, l3⟩ := hC2.link (i := K.length) (by rw [List.length_append]; omega)
        obtain ⟨-, -, -, d3⟩ := hC2.nds.cells HMID.out
        rw [nxt_some HMID.out] at l0
        rw [mid_next, HP2.out] at d3
        have hoff := hC2.off hO2 (by decide) (by decide) (i := K.length) (by rw [List.length_append]; omega)
        rw [HP.out] at l0 l1 l2 l3 hoff
        simp only at l2 l3 hoff
        have HC2 := Lib.hid hC2
        have HO2 := Lib.hid hO2
        have HB2 := Lib.hid hB2
        have HOFF := Lib.hid hoff
        clear hC2 hO2 hB2 hoff hwa
        cases hd : dlM (u, f, t) with
        | true =>
          rw [hd] at HDL0
          have HKD := Lib.hid (kp_dl HM.out hd)
          clear hd
          rw [HDL0.out]
          have hdrop := HC2.out.drop
          rw [HP.out, HP2.out] at hdrop
          have HDR := Lib.hid hdrop
          have HO3 := Lib.hid (HO2.out.store (p := ⟨pb, po, none⟩) HOFF.out (.pointer P2))
          have HB3 := Lib.hid (HB2.out.setCell (p := ⟨pb, po, none⟩) l2 (.pointer P2))
          have hz3 : B ≤ (wa.setCell ⟨pb, po, none⟩ (.pointer P2)).heap.size := by simpa using hBr2
          have hnew : RAt intR ((wa.setCell ⟨pb, po, none⟩ (.pointer P2)).alloc (.cells #[.int .i64 (q : Int)] 3)) (some ⟨(wa.setCell ⟨pb, po, none⟩ (.pointer P2)).heap.size, 0, none⟩) [(q : Int)] := RAt.made intR _ [(q : Int)] _ rfl
          have hown := HO3.out.alloc (.cells #[.int .i64 (q : Int)] 3)
          have hws : (wa.setCell ⟨pb, po, none⟩ (.pointer P2)).heap.size = wa.heap.size := by simp
          rw [hws] at hnew
          have HN3 := Lib.hid HO3.out.len.1.symm
          have hml : N3 + 1 ≤ maxLen := by unfold maxLen; omega
          have hby : (N3 + 1) * 8 ≤ 140737488355328 := by omega
          have hba : B ≤ ((wa.setCell ⟨pb, po, none⟩ (.pointer P2)).alloc (.cells #[.int .i64 (q : Int)] 3)).heap.size := by simp; omega
          clear hdrop hws
          go_wp2_with (at_builtin; refine wpList_append_rows rfl (.tmp 29) (.tmp 31) 32 rfl intR B j0 _ 8 Try.underlying32 hj hp0 hp1 hp2 rfl (by decide) _ (gnI (L.take k)) [(q : Int)] N3 HN3.out rfl hown _ 1 1 rfl rfl hnew (fun e => by cases e) (fun q e => by cases e; rfl) hml hby hba ?_)
          intro v' w5 hown5 hgrow hnn
          obtain ⟨A5, N5, cap5, rfl⟩ := hown5.val
          have HC5 := Lib.hid ((HDR.out.alloc (.cells #[.int .i64 (q : Int)] 3)).aside hown (by decide) (by decide) hgrow)
          have HB5 := Lib.hid ((HB3.out.alloc (by omega) (.cells #[.int .i64 (q : Int)] 3)).grown hgrow (by simp; omega) (fun z hz => by have := (World.ownsRow.lt hown z hz).1; omega))
          have HO5 := Lib.hid hown5
          have hz5 : B ≤ w5.heap.size := by have := hgrow.size; simp at this; omega
          have hn5 : N5 = N3 + 1 := by
            have h1 := HO5.out.len.1
            have h2 := HN3.out
            rw [List.length_append, List.length_singleton] at h1
            omega
          clear hown5 hgrow hown hnew hnn d3 hml hby hba l0 l1
          subst hn5
          go_wp2
          go_roundg (gk - 1)
          case measure => omega
          case rel =>
            refine ⟨k + 1, q, K, R, A5, N3 + 1, cap5, by omega, rfl, rfl, ?_, hz5, by omega, by omega, ?_, HQ, HC5, ?_, ?_, HR', HB5⟩
            · rw [lnk_app c (Nat.le_refl _), ← HP.out, lnk_app c (Nat.le_refl _)]
            · have := HRL.out
              show _ = _
              rw [List.length_cons] at this
              omega
            · rw [HKD.out.2]
              have e : (((kpM (L.take k)).length + 1 : Nat) : Int) = (q : Int) := by
                have := HQ.out
                rw [← HK.out, List.length_map]
                omega
              rw [e]
              exact HO5
            · rw [HKD.out.1]
              exact HK
        | false =>
          rw [hd] at HDL0
          have HKD := Lib.hid (kp_no HM.out hd)
          clear hd
          rw [HDL0.out]
          go_wp2
          go_roundg (gk - 1)
          case measure => omega
          case rel =>
            have e : (K ++ [(g, (u, f, t))]) ++ R = K ++ (g, (u, f, t)) :: R := by rw [List.append_assoc]; rfl
            refine ⟨k + 1, q + 1, K ++ [(g, (u, f, t))], R, A3, N3, cap3, by omega, rfl, by go_num, ?_, hBr2, by omega, by omega, ?_, ?_, ?_, ?_, ?_, HR', HB2⟩
            · rw [e, show (K ++ [(g, (u, f, t))]).length = K.length + 1 by simp, lnk_succ HMID.out]
            · have := HRL.out
              show _ = _
              rw [List.length_cons] at this
              omega
            · show _ = _
              rw [HQ.out]
              simp
            · rw [e]; exact HC2
            · rw [HKD.out.2]; exact HO2
            · show _ = _
              rw [HKD.out.1, List.map_append, HK.out]
              rfl
    · have hkZ : k = Z := by omega
      have HLK : Hid (L.take k = L) := List.take_of_length_le (by rw [HZ.out]; omega)
      cases R with
      | cons y R =>
        have := HRL.out
        simp at this
        omega
      | nil =>
        rw [List.append_nil] at l0 HC
        rw [nxt_end (Nat.le_refl _)] at l0
        clear hkZ
        go_wp2
        go_ret
        refine ⟨A3, N3, cap3, K, rfl, ?_, HC.out, ?_, HB.out⟩
        · rw [HBB.out]
          have := HO.out
          rw [HLK.out] at this
          exact this
        · rw [HK.out, HLK.out]
end Go.Proofs.Ytmljdbbbfpmbcaa

namespace Go.Proofs.Ytmljdbbbfpmbcaa
open Go.RowKit
set_option linter.unusedVariables false

set_option maxRecDepth 20000 in
set_option maxHeartbeats 8000000 in
theorem impl_expunge_no (n : Int) (A : Option Addr) (N cap : Nat) (L : List ML) (w : World) (h : MIn w A N cap L) (hv : bOk n L = false) :
    Calls Try.prog 23 #[.agg #[.int .i64 n, .slice A N cap]] w (GivesE w 0 [] []) := by
  obtain ⟨B, hB⟩ : ∃ B, w.heap.size = B := ⟨_, rfl⟩
  have K0 := Lib.hid ((kp_two w 25 25 #[.int .i64 n, .slice A N cap] #[.int .i64 0, .slice none 0 0] hB).and ((h.keep.alloc (.cells #[.int .i64 n, .slice A N cap] 25)).alloc (.cells #[.int .i64 0, .slice none 0 0] 25)))
  have b0 := K0.out.here.1.2.1.cell 0
  have b1 := K0.out.here.1.2.1.cell 1
  simp at b0 b1
  have HBV := Lib.hid hv
  clear h hv
  go_enter Try.func23, Try.ntmps23
  go_wp2_with fail
  refine (link_no n A N cap L _ K0.out.here.2 HBV.out).mono ?_
  rintro e w2 ⟨rfl, hb⟩
  have K2 := Lib.hid (K0.out.move hb)
  clear hb
  have r0 := K2.out.here.1.2.2.1.cell 0
  have r1 := K2.out.here.1.2.2.1.cell 1
  simp at r0 r1
  have g0 := K2.out.here.1.2.2.1.free 0
  have g1 := K2.out.here.1.2.2.1.free 1
  go_wp2
  refine bodyPost_ret (v := .tuple #[.agg #[.int .i64 0, .slice none 0 0], .slice none 0 0]) (by simp [results, Try.results23, go_sem, r0, r1]) rfl ?_
  exact give_exp hB (ROwn.nil _ _) (ROwn.nil _ _) K2.out.here.1.1

set_option maxRecDepth 20000 in
set_option maxHeartbeats 8000000 in
theorem impl_expunge_yes (n : Int) (A : Option Addr) (N cap : Nat) (L : List ML) (w : World) (h : MIn w A N cap L) (hv : bOk n L = true) :
    Calls Try.prog 23 #[.agg #[.int .i64 n, .slice A N cap]] w (GivesE w n (kpM L) (gnI L)) := by
  obtain ⟨B, hB⟩ : ∃ B, w.heap.size = B := ⟨_, rfl⟩
  have K0 := Lib.hid ((kp_two w 25 25 #[.int .i64 n, .slice A N cap] #[.int .i64 0, .slice none 0 0] hB).and ((h.keep.alloc (.cells #[.int .i64 n, .slice A N cap] 25)).alloc (.cells #[.int .i64 0, .slice none 0 0] 25)))
  have HSZ : Hid (((w.alloc (.cells #[.int .i64 n, .slice A N cap] 25)).alloc (.cells #[.int .i64 0, .slice none 0 0] 25)).heap.size = B + 1 + 1) := by show _ = _; simp [hB]
  have b0 := K0.out.here.1.2.1.cell 0
  have b1 := K0.out.here.1.2.1.cell 1
  simp at b0 b1
  have HBV := Lib.hid hv
  obtain ⟨hl10, hn1⟩ := bxAp_size hv
  clear h hv
  go_enter Try.func23, Try.ntmps23
  go_wp2_with fail
  refine (link_yes n A N cap L _ K0.out.here.2 HBV.out).mono ?_
  rintro e w2 ⟨c, X, rfl, hc1, hc2, hch, hX, hb⟩
  rw [HSZ.out] at hc1
  have K2 := Lib.hid ((K0.out.move hb).and hch.keep)
  have HX := Lib.hid hX
  clear hb hch hX
  go_wp2_with fail
  refine (impl_chexp c n X L _ K2.out.here.2 HX.out (by omega) (fun m hm => ((bOk_iff.1 HBV.out).1 m hm).1)).mono ?_
  rintro e w3 ⟨A3, N3, cap3, Y, rfl, hown, hch, hY, hb⟩
  have hz2 := K2.out.here.1.1.2.2.2
  have HCH := Lib.hid hch
  have HY := Lib.hid hY
  have HO3 := Lib.hid hown
  have W3 := Lib.hid (K2.out.here.1.1.2.2.1.below hb (by omega))
  have B3 := Lib.hid (K2.out.here.1.1.1.trans (hb.mono (by omega)))
  have hz3 := Nat.le_trans hz2 hb.size
  have hYl : Y.length ≤ 20 := by
    have h1 := congrArg List.length hY
    have h2 := kpM_le L
    rw [List.length_map] at h1
    omega
  clear hb hown hch hY
  go_wp2_with fail
  refine (impl_box c n Y _ HCH.out hYl).mono ?_
  rintro e w5 ⟨A5, N5, cap5, rfl, hown, hb⟩
  have W5 := Lib.hid (W3.out.below hb (by omega))
  have B5 := Lib.hid (B3.out.trans (hb.mono (by omega)))
  have HO5 := Lib.hid (hown.from hz3)
  have HG5 := Lib.hid ((HO3.out.kept hb).from hz2)
  clear hb hown
  have r0 := W5.out.cell 0
  have r1 := W5.out.cell 1
  simp at r0 r1
  have g0 := W5.out.free 0
  have g1 := W5.out.free 1
  go_wp2
  refine bodyPost_ret (v := .tuple #[.agg #[.int .i64 n, .slice A5 N5 cap5], .slice A3 N3 cap3]) (by simp [results, Try.results23, go_sem, r0, r1]) rfl ?_
  exact give_exp hB (by rw [← HY.out]; exact HO5.out) HG5.out B5.out
end Go.Proofs.Ytmljdbbbfpmbcaa

namespace Go.Proofs.Ytmljdbbbfpmbcaa
open Go.RowKit
set_option linter.unusedVariables false

theorem boxvalid_at {n : Int} {L : List ML} {b : Bool} (hb : bOk n L = b) (A : Option Addr) (N cap : Nat) (w : World) (h : MIn w A N cap L) :
    Calls Try.prog 17 #[.agg #[.int .i64 n, .slice A N cap]] w (SaysB w b) := by subst hb; exact spec_boxvalid n A N cap L w h.1 h.2.2.1 h.2.1
theorem l11has_at {A : Option Addr} {N cap : Nat} {P : List Int} {x : Int} {b : Bool} (hb : hasI P x = b) (w : World) (h : IIn w A N cap P) :
    Calls Try.prog 71 #[.slice A N cap, .int .i64 x] w (SaysB w b) := by subst hb; exact spec_has x w h
set_option maxRecDepth 20000 in
set_option maxHeartbeats 4000000 in
theorem spec_uids (n : Int) (A : Option Addr) (N cap : Nat) (L : List ML) (A2 : Option Addr) (N2 cap2 : Nat) (U : List Int) (w : World) (hM : MIn w A N cap L) (hI : IIn w A2 N2 cap2 U) :
    Calls Try.prog 43 #[.agg #[.int .i64 n, .slice A N cap], .slice A2 N2 cap2] w (GivesN w (bxUI n L U)) := by
  obtain ⟨j0, hj, hp0, hp1, hp2⟩ := info_parts Try.infoNum
  obtain ⟨B, hB⟩ : ∃ B, w.heap.size = B := ⟨_, rfl⟩
  have hsz : (w.alloc (.cells #[.int .i64 n, .slice A N cap] 25)).heap.size = B + 1 := by simp [hB]
  have K0 := Lib.hid ((((kp_one w 25 #[.int .i64 n, .slice A N cap] hB).and (hM.keep.alloc (.cells #[.int .i64 n, .slice A N cap] 25))).and (hI.keep.alloc (.cells #[.int .i64 n, .slice A N cap] 25))))
  have HO0 := Lib.hid (ROwn.lit (R := intR) (B := B + 1) (w.alloc (.cells #[.int .i64 n, .slice A N cap] 25)) (B + 1) (by omega) hsz)
  have HB0 := Lib.hid (hsz ▸ below_new (w.alloc (.cells #[.int .i64 n, .slice A N cap] 25)) (.cells #[] 3) : Below (B + 1) (w.alloc (.cells #[.int .i64 n, .slice A N cap] 25)) ((w.alloc (.cells #[.int .i64 n, .slice A N cap] 25)).alloc (.cells #[] 3)))
  have HSZ := Lib.hid hsz
  have HN := Lib.hid hM.1
  have hN25 := hM.2.1
  obtain ⟨bv, hbv⟩ : ∃ bv, bOk n L = bv := ⟨_, rfl⟩
  have HBV := Lib.hid hbv
  clear hM hI hbv hsz
  go_enter Try.func43, Try.ntmps43
  go_wp2
  obtain ⟨w1, hw1⟩ : ∃ w1, w.alloc (.cells #[.int .i64 n, .slice A N cap] 25) = w1 := ⟨_, rfl⟩
  rw [hw1] at K0 HO0 HB0 HSZ ⊢
  clear hw1
  have hz1 := HB0.out.size
  rw [HSZ.out] at hz1
  go_loopw [5, 6] (fun v i wr => ∃ (k : Nat) (A3 : Option Addr) (N3 cap3 : Nat), k ≤ N ∧ v = .slice A3 N3 cap3 ∧ i = .int .i64 (k : Int) ∧ N3 ≤ k ∧ B + 1 ≤ wr.heap.size ∧ Hid (ROwn intR wr (B + 1) (.slice A3 N3 cap3) (udI U (L.take k))) ∧ Hid (bv = false → k = 0) ∧ Hid (Below (B + 1) w1 wr)) (fun _ i _ => N - (intOf i).toNat)
  case atStart => exact ⟨0, _, _, _, Nat.zero_le _, rfl, by go_num, Nat.le_refl _, hz1, HO0, fun _ => rfl, HB0⟩
  case round =>
    obtain ⟨k, A3, N3, cap3, hk, rfl, rfl, hN3, hzr, HO, HZ, HB⟩ := hrel
    have K1 := Lib.hid (K0.out.move (w' := wr) (by rw [HSZ.out]; exact HB.out))
    have b0 := K1.out.here.1.1.2.1.cell 0
    have b1 := K1.out.here.1.1.2.1.cell 1
    simp at b0 b1
    by_cases hlt : k < N
    · have h0 : (0 : Int) ≤ (k : Int) := by omega
      have h5 : (k : Int) < (N : Int) := by omega
      go_wp2_with fail
      refine (boxvalid_at HBV.out A N cap _ K1.out.here.1.2).mono ?_
      rintro e w4 ⟨rfl, hb4⟩
      have K4 := Lib.hid (K1.out.move hb4)
      have HO4 := Lib.hid (HO.out.kept hb4)
      have HB4 := Lib.hid (HB.out.trans (hb4.mono (by omega)))
      have hz4 := Nat.le_trans hzr hb4.size
      clear hb4 b0 b1
      have b0 := K4.out.here.1.1.2.1.cell 0
      have b1 := K4.out.here.1.1.2.1.cell 1
      simp at b0 b1
      cases bv with
      | false =>
        have HK0 := Lib.hid (HZ.out rfl)
        have HR := Lib.hid (bxUI_no (U := U) HBV.out)
        go_wp2
        go_ret
        refine ⟨A3, N3, cap3, rfl, ?_, ?_⟩
        · rw [HR.out, hB]
          have h1 := HO4.out
          rw [HK0.out, List.take_zero] at h1
          exact h1.from (by omega)
        · rw [hB]
          exact K4.out.here.1.1.1
      | true =>
        obtain ⟨⟨u, f, t⟩, hx⟩ : ∃ x, L[k]? = some x := ⟨_, List.getElem?_eq_getElem (by rw [HN.out]; exact hlt)⟩
        obtain ⟨b, o, hAe, hb, c0, -, -⟩ := mail_at K4.out.here.1.2.2.2.1 hx
        have HX := Lib.hid hx
        clear hx
        subst hAe
        cases hh : hasI U u with
        | false =>
          have HH := Lib.hid hh
          clear hh
          go_wp2_with fail
          refine (l11has_at HH.out _ K4.out.here.2).mono ?_
          rintro e w5 ⟨rfl, hb5⟩
          have HO5 := Lib.hid (HO4.out.kept hb5)
          have HB5 := Lib.hid (HB4.out.trans (hb5.mono (by omega)))
          have hz5 := Nat.le_trans hz4 hb5.size
          clear hb5
          go_wp2
          go_roundw
          case rel => exact ⟨k + 1, A3, N3, cap3, by omega, rfl, by go_num, by omega, hz5, by show ROwn _ _ _ _ _; rw [udI_no HX.out HH.out]; exact HO5.out, (fun e => by cases e), HB5.out⟩
          case measure => simp [intOf]; omega
        | true =>
          have HH := Lib.hid hh
          clear hh
          go_wp2_with fail
          refine (l11has_at HH.out _ K4.out.here.2).mono ?_
          rintro e w5 ⟨rfl, hb5⟩
          have HO5 := Lib.hid (HO4.out.kept hb5)
          have HB5 := Lib.hid (HB4.out.trans (hb5.mono (by omega)))
          have hz5 := Nat.le_trans hz4 hb5.size
          clear hb5
          have hnew : RAt intR (w5.alloc (.cells #[.int .i64 ((k : Int) + 1)] 3)) (some ⟨w5.heap.size, 0, none⟩) [(k : Int) + 1] := RAt.made intR w5 [(k : Int) + 1] _ rfl
          have hown := HO5.out.alloc (.cells #[.int .i64 ((k : Int) + 1)] 3)
          have HN3 := Lib.hid HO5.out.len.1.symm
          have hml : N3 + 1 ≤ maxLen := by unfold maxLen; omega
          have hby : (N3 + 1) * 8 ≤ 140737488355328 := by omega
          go_wp2_with (at_builtin; refine wpList_append_rows rfl (.tmp 27) (.tmp 30) 32 rfl intR (B + 1) j0 _ 8 Try.underlying32 hj hp0 hp1 hp2 rfl (by decide) _ (udI U (L.take k)) [(k : Int) + 1] N3 HN3.out rfl hown _ 1 1 rfl rfl hnew (fun e => by cases e) (fun q e => by cases e; rfl) hml hby (by simp; omega) ?_)
          intro v' w6 hown6 hgrow hnn
          obtain ⟨A6, N6, cap6, rfl⟩ := hown6.val
          have HO6 := Lib.hid hown6
          have HB6 := Lib.hid ((HB5.out.alloc hz5 (.cells #[.int .i64 ((k : Int) + 1)] 3)).grown hgrow (by simp; omega) (fun z hz => (World.ownsRow.lt hown z hz).1))
          have hz6 : B + 1 ≤ w6.heap.size := by have := hgrow.size; simp at this; omega
          have hn6 : N6 = N3 + 1 := by
            have h1 := HO6.out.len.1
            have h2 := HN3.out
            rw [List.length_append, List.length_singleton] at h1
            omega
          clear hown6 hgrow hown hnew hnn hml hby
          subst hn6
          go_wp2
          go_roundw
          case rel => exact ⟨k + 1, A6, N3 + 1, cap6, by omega, rfl, by go_num, by omega, hz6, by show ROwn _ _ _ _ _; rw [udI_yes HX.out HH.out]; exact HO6.out, (fun e => by cases e), HB6.out⟩
          case measure => simp [intOf]; omega
    · have h5 : ¬ (k : Int) < (N : Int) := by omega
      have HLK : Hid (L.take k = L) := List.take_of_length_le (by rw [HN.out]; omega)
      have HR : Hid (bxUI n L U = udI U (L.take k)) := by
        show _ = _
        cases bv with
        | true => rw [bxUI_yes HBV.out, HLK.out]
        | false => rw [bxUI_no HBV.out, HZ.out rfl, List.take_zero]; rfl
      go_wp2
      go_ret
      refine ⟨A3, N3, cap3, rfl, ?_, ?_⟩
      · rw [HR.out, hB]
        exact HO.out.from (by omega)
      · rw [hB]
        exact K1.out.here.1.1.1
end Go.Proofs.Ytmljdbbbfpmbcaa

namespace Go.Proofs.Ytmljdbbbfpmbcaa
open Go.RowKit
set_option linter.unusedVariables false

theorem numbers_at {A A2 : Option Addr} {N N2 cap cap2 : Nat} {P : List Int} {b : Bool} (hb : plc N 0 P = b) (n : Int) (w : World) (hN : N ≤ 33554432) (h : IIn w A2 N2 cap2 P) :
    Calls Try.prog 57 #[.agg #[.int .i64 n, .slice A N cap], .slice A2 N2 cap2] w (SaysB w b) := by subst hb; exact spec_numbers n w hN h
set_option maxRecDepth 20000 in
set_option maxHeartbeats 8000000 in
theorem spec_flags_no (n : Int) (A : Option Addr) (N cap : Nat) (L : List ML) (A2 : Option Addr) (N2 cap2 : Nat) (P : List Int) (h f : Int) (w : World) (hM : MIn w A N cap L) (hI : IIn w A2 N2 cap2 P)
    (hno : (bOk n L && plc L.length 0 P && howB h && isF f) = false) :
    Calls Try.prog 20 #[.agg #[.int .i64 n, .slice A N cap], .slice A2 N2 cap2, .int .i64 h, .int .i64 f] w (GivesBB w (bxFl n L P h f).1 (bxFl n L P h f).2.1 (bxFl n L P h f).2.2) := by
  obtain ⟨B, hB⟩ : ∃ B, w.heap.size = B := ⟨_, rfl⟩
  have K0 := Lib.hid (((kp_two w 25 25 #[.int .i64 n, .slice A N cap] #[.int .i64 0, .slice none 0 0] hB).and ((hM.keep.alloc (.cells #[.int .i64 n, .slice A N cap] 25)).alloc (.cells #[.int .i64 0, .slice none 0 0] 25))).and ((hI.keep.alloc (.cells #[.int .i64 n, .slice A N cap] 25)).alloc (.cells #[.int .i64 0, .slice none 0 0] 25)))
  have b0 := K0.out.here.1.1.2.1.cell 0
  have b1 := K0.out.here.1.1.2.1.cell 1
  simp at b0 b1
  have HR := Lib.hid (bxFl_no hno)
  have HNO := Lib.hid hno
  have HN := Lib.hid hM.1
  have hN25 := hM.2.1
  clear hM hI hno
  obtain ⟨bv, hbv⟩ : ∃ bv, bOk n L = bv := ⟨_, rfl⟩
  obtain ⟨pv, hpv⟩ : ∃ pv, plc N 0 P = pv := ⟨_, rfl⟩
  obtain ⟨hv, hhv⟩ : ∃ hv, howB h = hv := ⟨_, rfl⟩
  obtain ⟨fv, hfv⟩ : ∃ fv, isF f = fv := ⟨_, rfl⟩
  have HBV := Lib.hid hbv
  have HPV := Lib.hid hpv
  have HHV : Hid ((decide (-1 ≤ h) && decide (h ≤ 1)) = hv) := hhv
  have HFV := Lib.hid hfv
  have HALL : Hid ((bv && pv && hv && fv) = false) := by
    show _ = _
    have h1 := HNO.out
    rw [HN.out, hbv, hpv, hhv, hfv] at h1
    exact h1
  clear hbv hpv hhv hfv
  go_enter Try.func20, Try.ntmps20
  go_wp2_with fail
  refine (boxvalid_at HBV.out A N cap _ K0.out.here.1.2).mono ?_
  rintro e w2 ⟨rfl, hb⟩
  have K2 := Lib.hid (K0.out.move hb)
  clear hb b0 b1
  have b0 := K2.out.here.1.1.2.1.cell 0
  have b1 := K2.out.here.1.1.2.1.cell 1
  have r0 := K2.out.here.1.1.2.2.1.cell 0
  have r1 := K2.out.here.1.1.2.2.1.cell 1
  simp at b0 b1 r0 r1
  have g0 := K2.out.here.1.1.2.2.1.free 0
  have g1 := K2.out.here.1.1.2.2.1.free 1
  cases bv with
  | false =>
    go_wp2
    refine bodyPost_ret (v := .tuple #[.agg #[.int .i64 0, .slice none 0 0], .bool false]) (by simp [results, Try.results20, go_sem, r0, r1]) rfl ?_
    exact no_box hB HR.out K2.out.here.1.1.1
  | true =>
    go_wp2_with fail
    refine (numbers_at HPV.out n _ hN25 K2.out.here.2).mono ?_
    rintro e w3 ⟨rfl, hb⟩
    have K3 := Lib.hid (K2.out.move hb)
    clear hb b0 b1 r0 r1 g0 g1
    have r0 := K3.out.here.1.1.2.2.1.cell 0
    have r1 := K3.out.here.1.1.2.2.1.cell 1
    simp at r0 r1
    have g0 := K3.out.here.1.1.2.2.1.free 0
    have g1 := K3.out.here.1.1.2.2.1.free 1
    cases pv with
    | false =>
      go_wp2
      refine bodyPost_ret (v := .tuple #[.agg #[.int .i64 0, .slice none 0 0], .bool false]) (by simp [results, Try.results20, go_sem, r0, r1]) rfl ?_
      exact no_box hB HR.out K3.out.here.1.1.1
    | true =>
      go_wp2_with fail
      refine (in_at h (-1) 1 hv HHV.out _).mono ?_
      rintro e w4 ⟨rfl, hw4⟩
      subst w4
      cases hv with
      | false =>
        go_wp2
        refine bodyPost_ret (v := .tuple #[.agg #[.int .i64 0, .slice none 0 0], .bool false]) (by simp [results, Try.results20, go_sem, r0, r1]) rfl ?_
        exact no_box hB HR.out K3.out.here.1.1.1
      | true =>
        have HF : Hid (fv = false) := by
          show _ = _
          have h1 := HALL.out
          simpa using h1
        go_wp2_with fail
        refine (spec_isflags f _).mono ?_
        rintro e w4 ⟨rfl, hw4⟩
        subst w4
        rw [HFV.out, HF.out]
        go_wp2
        refine bodyPost_ret (v := .tuple #[.agg #[.int .i64 0, .slice none 0 0], .bool false]) (by simp [results, Try.results20, go_sem, r0, r1]) rfl ?_
        exact no_box hB HR.out K3.out.here.1.1.1

set_option maxRecDepth 20000 in
set_option maxHeartbeats 8000000 in
theorem spec_flags_yes (n : Int) (A : Option Addr) (N cap : Nat) (L : List ML) (A2 : Option Addr) (N2 cap2 : Nat) (P : List Int) (h : Int) (o : Nat) (w : World) (hM : MIn w A N cap L) (hI : IIn w A2 N2 cap2 P)
    (h1 : bOk n L = true) (h2 : plc L.length 0 P = true) (h3 : howB h = true) (ho : o < 32) :
    Calls Try.prog 20 #[.agg #[.int .i64 n, .slice A N cap], .slice A2 N2 cap2, .int .i64 h, .int .i64 (o : Int)] w (GivesBB w n (flM P h (o : Int) 1 L) true) := by
  obtain ⟨B, hB⟩ : ∃ B, w.heap.size = B := ⟨_, rfl⟩
  have K0 := Lib.hid (((kp_two w 25 25 #[.int .i64 n, .slice A N cap] #[.int .i64 0, .slice none 0 0] hB).and ((hM.keep.alloc (.cells #[.int .i64 n, .slice A N cap] 25)).alloc (.cells #[.int .i64 0, .slice none 0 0] 25))).and ((hI.keep.alloc (.cells #[.int .i64 n, .slice A N cap] 25)).alloc (.cells #[.int .i64 0, .slice none 0 0] 25)))
  have b0 := K0.out.here.1.1.2.1.cell 0
  have b1 := K0.out.here.1.1.2.1.cell 1
  simp at b0 b1
  have HN := Lib.hid hM.1
  have hN25 := hM.2.1
  have hN2 := hI.2.1
  have HNP := Lib.hid hI.1
  have HBV := Lib.hid h1
  have HPV := Lib.hid h2
  have HPN : Hid (plc N 0 P = true) := by rw [← hM.1]; exact h2
  have HHV : Hid ((decide (-1 ≤ h) && decide (h ≤ 1)) = true) := h3
  have HHW := Lib.hid h3
  have HFV := Lib.hid (isF_of ho)
  have HM := Lib.hid hM
  have HI := Lib.hid hI
  clear hM hI h1 h2 h3
  go_enter Try.func20, Try.ntmps20
  go_wp2_with fail
  refine (boxvalid_at HBV.out A N cap _ K0.out.here.1.2).mono ?_
  rintro e w2 ⟨rfl, hb⟩
  have K2 := Lib.hid (K0.out.move hb)
  clear hb b0 b1
  have b0 := K2.out.here.1.1.2.1.cell 0
  have b1 := K2.out.here.1.1.2.1.cell 1
  simp at b0 b1
  go_wp2_with fail
  refine (numbers_at HPN.out n _ hN25 K2.out.here.2).mono ?_
  rintro e w3 ⟨rfl, hb⟩
  have K3 := Lib.hid (K2.out.move hb)
  clear hb b0 b1
  have b0 := K3.out.here.1.1.2.1.cell 0
  have b1 := K3.out.here.1.1.2.1.cell 1
  simp at b0 b1
  go_wp2_with fail
  refine (in_at h (-1) 1 true HHV.out _).mono ?_
  rintro e w4 ⟨rfl, hw4⟩
  subst w4
  go_wp2_with fail
  refine (spec_isflags (o : Int) _).mono ?_
  rintro e w4 ⟨rfl, hw4⟩
  subst w4
  rw [HFV.out]
  go_wp2_with fail
  refine (spec_copy n A N cap L _ K3.out.here.1.2).mono ?_
  rintro e w4 ⟨A4, N4, cap4, rfl, hown, hb⟩
  have hz3 := K3.out.here.1.1.2.2.2
  obtain ⟨D, hD⟩ : ∃ D, w4.heap.size = D := ⟨_, rfl⟩
  have K4 := Lib.hid ((K3.out.move hb).alloc (.cells #[.int .i64 n, .slice A4 N4 cap4] 25))
  have HO4 := Lib.hid ((hown.from hz3).alloc (.cells #[.int .i64 n, .slice A4 N4 cap4] 25))
  have hdz := hb.size
  rw [hD] at hdz
  have HW4 := Lib.hid (hD ▸ Whole.made w4 25 #[.int .i64 n, .slice A4 N4 cap4] : Whole (w4.alloc (.cells #[.int .i64 n, .slice A4 N4 cap4] 25)) D 25 #[.int .i64 n, .slice A4 N4 cap4])
  have hN4 : N4 = N := by rw [hown.len.1, HN.out]
  have HD := Lib.hid hD
  clear hb hown b0 b1 hD
  subst hN4
  go_wp2
  obtain ⟨w5, hw5⟩ : ∃ w5, w4.alloc (.cells #[.int .i64 n, .slice A4 N4 cap4] 25) = w5 := ⟨_, rfl⟩
  rw [hw5] at K4 HO4 HW4 ⊢
  rw [HD.out]
  clear hw5
  have hDw := HW4.out.lt
  go_loopw [11] (fun i wr => ∃ j : Nat, j ≤ N2 ∧ i = .int .i64 (j : Int) ∧ D < wr.heap.size ∧ Hid (Whole wr D 25 #[.int .i64 n, .slice A4 N4 cap4]) ∧ Hid (ROwn mailR wr (B + 1 + 1) (.slice A4 N4 cap4) (flM (P.take j) h (o : Int) 1 L)) ∧ Hid (Below (B + 1 + 1) w5 wr)) (fun i _ => N2 - (intOf i).toNat)
  case atStart => exact ⟨0, Nat.zero_le _, by go_num, hDw, HW4, by rw [List.take_zero, flM_nil]; exact HO4, Below.refl _ _⟩
  case round =>
    obtain ⟨j, hj, rfl, hDr, HX, HO, HB⟩ := hrel
    have hW1 := K4.out.here.1.1.2.1.below HB.out (by omega)
    have hW2 := K4.out.here.1.1.2.2.1.below HB.out (by omega)
    have HB2 := Lib.hid (K4.out.here.1.1.1.trans (HB.out.mono (by omega)))
    have hM := HM.out.below HB2.out (Nat.le_of_eq hB)
    have hI := HI.out.below HB2.out (Nat.le_of_eq hB)
    have b0 := hW1.cell 0
    have b1 := hW1.cell 1
    have x0 := HX.out.cell 0
    have x1 := HX.out.cell 1
    simp at b0 b1 x0 x1
    by_cases hlt : j < N2
    · have h0 : (0 : Int) ≤ (j : Int) := by omega
      have h5 : (j : Int) < (N2 : Int) := by omega
      obtain ⟨x, hx⟩ : ∃ x, P[j]? = some x := ⟨_, List.getElem?_eq_getElem (by rw [HNP.out]; exact hlt)⟩
      obtain ⟨k, rfl, hk⟩ := plc_place HPV.out hx
      obtain ⟨m, hm⟩ : ∃ m, L[k]? = some m := ⟨_, List.getElem?_eq_getElem hk⟩
      obtain ⟨s1, s2⟩ := flM_step (h := h) (f := (o : Int)) HPV.out hx hm
      obtain ⟨pb, po, hAe, hpb, p0⟩ := int_at hI.2.2.1 hx
      obtain ⟨u, fl, t⟩ := m
      have hmok := ((bOk_iff.1 HBV.out).1 _ (List.mem_of_getElem? hm)).1
      obtain ⟨a, ha, hae⟩ := isF_nat (mOk_iff.1 hmok).2.1
      simp only at hae
      subst hae
      obtain ⟨mb, mo, hMe, hmb, -, d1, -⟩ := mail_at hM.2.2.1 hm
      obtain ⟨g, hg⟩ : ∃ g, A4 = some ⟨g, 0, none⟩ := by
        obtain ⟨A', c', he, -, -, -, -, hne⟩ := HO.out.form
        cases he
        exact hne (fun e => by rw [e] at s1; simp at s1)
      subst hg
      obtain ⟨z, hz⟩ : ∃ z, chN a h o = z := ⟨_, rfl⟩
      have hchm : chM h (o : Int) (u, (a : Int), t) = (u, (z : Int), t) := by rw [← hz]; rfl
      rw [hchm] at s2
      have kN : k < N4 := by rw [← HN.out]; exact hk
      have k0 : (0 : Int) ≤ (k : Int) := by omega
      have k5 : (k : Int) < (N4 : Int) := by omega
      have W1 : IntKind.i64.wrap (((k + 1 : Nat) : Int) - 1) = (k : Int) := (IntWalk.i64_in _ (by omega)).trans (by omega)
      have E1 : ((k + 1 : Nat) : Int) - 1 = (k : Int) := by omega
      obtain ⟨q, hq⟩ : ∃ q, k + 1 = q := ⟨_, rfl⟩
      rw [hq] at p0 W1 E1
      have HS1 := Lib.hid s1
      have HS2 := Lib.hid s2
      have HZ := Lib.hid hz
      have HWW1 := Lib.hid hW1
      clear s1 s2 hx hm hmok hchm hz hq hM hI hW1 hW2
      subst hAe
      subst hMe
      have HOD := Lib.hid (show ROwn mailR wr.drew (B + 1 + 1) (.slice (some ⟨g, 0, none⟩) N4 cap4) _ from HO.out)
      have HXD := Lib.hid HX.out.drew
      have HBD := Lib.hid (fbelow_drew HB.out)
      go_wp2
      go_region_with ((go_at_call 60; refine (spec_l4change a o h wr.drew ha ho HHW.out).mono ?_; rw [HZ.out]; rintro e w7 ⟨rfl, hb7⟩; have HO7 := Lib.hid (HOD.out.kept hb7); have HX7 := Lib.hid (HXD.out.below hb7 HXD.out.lt); have HB7 := Lib.hid (HBD.out.trans (hb7.mono (by show B + 1 + 1 ≤ wr.heap.size; omega))); have hz7 : D < w7.heap.size := Nat.lt_of_lt_of_le hDr hb7.size; clear hb7; have y1 := HX7.out.cell 1; simp at y1; have e1 := HO7.out.cell HS1.out (j := 1) rfl; have e2 := HO7.out.free (k * 3 + 1); have e3 : mailR.sz = 3 := rfl; rw [e3] at e1; clear e3))
      all_goals
        go_wp2
        go_roundw
        case rel =>
          have h3 := HO7.out.stored HS1.out (j := 1) (u := .int .i64 (z : Int)) (y := (u, (z : Int), t)) (by decide) rfl
          refine ⟨j + 1, by omega, by go_num, by simpa using hz7, HX7.out.apart (by show D ≠ g; intro e; exact HO7.out.whole HX7.out (by decide) (by rw [e]; rfl)) _, ?_, HB7.out.setCell (by show B + 1 + 1 ≤ g; exact (World.ownsRow.lt HO7.out g rfl).1) _⟩
          rw [← HS2.out]
          exact h3.1
        case measure => simp [intOf]; omega
    · have h5 : ¬ (j : Int) < (N2 : Int) := by omega
      have HPT : Hid (P.take j = P) := List.take_of_length_le (by rw [HNP.out]; omega)
      have r0 := hW2.cell 0
      have r1 := hW2.cell 1
      simp at r0 r1
      have g0 := hW2.free 0
      have g1 := hW2.free 1
      go_wp2
      refine bodyPost_ret (v := .tuple #[.agg #[.int .i64 n, .slice A4 N4 cap4], .bool true]) (by simp [results, Try.results20, go_sem, r0, r1]) rfl ?_
      refine give_two hB ?_ HB2.out
      have h1 := HO.out
      rw [HPT.out] at h1
      exact h1
theorem spec_flags (n : Int) (A : Option Addr) (N cap : Nat) (L : List ML) (A2 : Option Addr) (N2 cap2 : Nat) (P : List Int) (h f : Int) (w : World) (hM : MIn w A N cap L) (hI : IIn w A2 N2 cap2 P) :
    Calls Try.prog 20 #[.agg #[.int .i64 n, .slice A N cap], .slice A2 N2 cap2, .int .i64 h, .int .i64 f] w (GivesBB w (bxFl n L P h f).1 (bxFl n L P h f).2.1 (bxFl n L P h f).2.2) := by
  cases hno : bOk n L && plc L.length 0 P && howB h && isF f with
  | false => exact spec_flags_no n A N cap L A2 N2 cap2 P h f w hM hI hno
  | true =>
    obtain ⟨h123, h4⟩ := Bool.and_eq_true_iff.1 hno
    obtain ⟨h12, h3⟩ := Bool.and_eq_true_iff.1 h123
    obtain ⟨h1, h2⟩ := Bool.and_eq_true_iff.1 h12
    rw [bxFl_yes h1 h2 h3 h4]
    obtain ⟨o, ho, rfl⟩ := isF_nat h4
    exact spec_flags_yes n A N cap L A2 N2 cap2 P h o w hM hI h1 h2 h3 ho
end Go.Proofs.Ytmljdbbbfpmbcaa

namespace Go.Proofs.Ytmljdbbbfpmbcaa
open Go.RowKit
set_option linter.unusedVariables false

set_option maxRecDepth 20000 in
set_option maxHeartbeats 8000000 in
theorem spec_bcopy_no (n : Int) (A : Option Addr) (N cap : Nat) (L : List ML) (A2 : Option Addr) (N2 cap2 : Nat) (P : List Int) (m : Int) (A3 : Option Addr) (N3 cap3 : Nat) (M : List ML) (w : World) (hM : MIn w A N cap L) (hI : IIn w A2 N2 cap2 P) (hM2 : MIn w A3 N3 cap3 M)
    (hno : (bOk n L && bOk m M && plc L.length 0 P) = false) :
    Calls Try.prog 41 #[.agg #[.int .i64 n, .slice A N cap], .slice A2 N2 cap2, .agg #[.int .i64 m, .slice A3 N3 cap3]] w (GivesBB w (bxCp n L P m M).1 (bxCp n L P m M).2.1 (bxCp n L P m M).2.2) := by
  obtain ⟨B, hB⟩ : ∃ B, w.heap.size = B := ⟨_, rfl⟩
  have hk := fun {F : World → Prop} (h : Kp w F) => ((h.alloc (.cells #[.int .i64 n, .slice A N cap] 25)).alloc (.cells #[.int .i64 m, .slice A3 N3 cap3] 25)).alloc (.cells #[.int .i64 0, .slice none 0 0] 25)
  have K0 := Lib.hid ((kp_three w 25 25 25 #[.int .i64 n, .slice A N cap] #[.int .i64 m, .slice A3 N3 cap3] #[.int .i64 0, .slice none 0 0] hB).and (hk (hM.keep.and (hI.keep.and hM2.keep))))
  have b0 := K0.out.here.1.2.1.cell 0
  have b1 := K0.out.here.1.2.1.cell 1
  simp at b0 b1
  have HR := Lib.hid (bxCp_no hno)
  have HNO := Lib.hid hno
  have HN := Lib.hid hM.1
  have hN25 := hM.2.1
  clear hM hI hM2 hno hk
  obtain ⟨bv, hbv⟩ : ∃ bv, bOk n L = bv := ⟨_, rfl⟩
  obtain ⟨mv, hmv⟩ : ∃ mv, bOk m M = mv := ⟨_, rfl⟩
  obtain ⟨pv, hpv⟩ : ∃ pv, plc N 0 P = pv := ⟨_, rfl⟩
  have HBV := Lib.hid hbv
  have HMV := Lib.hid hmv
  have HPV := Lib.hid hpv
  have HALL : Hid ((bv && mv && pv) = false) := by
    show _ = _
    have h1 := HNO.out
    rw [HN.out, hbv, hmv, hpv] at h1
    exact h1
  clear hbv hmv hpv
  go_enter Try.func41, Try.ntmps41
  go_wp2_with fail
  refine (boxvalid_at HBV.out A N cap _ K0.out.here.2.1).mono ?_
  rintro e w2 ⟨rfl, hb⟩
  have K2 := Lib.hid (K0.out.move hb)
  clear hb b0 b1
  cases bv with
  | false =>
    have r0 := K2.out.here.1.2.2.2.cell 0
    have r1 := K2.out.here.1.2.2.2.cell 1
    simp at r0 r1
    have g0 := K2.out.here.1.2.2.2.free 0
    have g1 := K2.out.here.1.2.2.2.free 1
    go_wp2
    refine bodyPost_ret (v := .tuple #[.agg #[.int .i64 0, .slice none 0 0], .bool false]) (by simp [results, Try.results41, go_sem, r0, r1]) rfl ?_
    exact no_box_at hB (by omega) HR.out K2.out.here.1.1.1
  | true =>
    have b0 := K2.out.here.1.2.2.1.cell 0
    have b1 := K2.out.here.1.2.2.1.cell 1
    simp at b0 b1
    go_wp2_with fail
    refine (boxvalid_at HMV.out A3 N3 cap3 _ K2.out.here.2.2.2).mono ?_
    rintro e w3 ⟨rfl, hb⟩
    have K3 := Lib.hid (K2.out.move hb)
    clear hb b0 b1
    have r0 := K3.out.here.1.2.2.2.cell 0
    have r1 := K3.out.here.1.2.2.2.cell 1
    simp at r0 r1
    have g0 := K3.out.here.1.2.2.2.free 0
    have g1 := K3.out.here.1.2.2.2.free 1
    cases mv with
    | false =>
      go_wp2
      refine bodyPost_ret (v := .tuple #[.agg #[.int .i64 0, .slice none 0 0], .bool false]) (by simp [results, Try.results41, go_sem, r0, r1]) rfl ?_
      exact no_box_at hB (by omega) HR.out K3.out.here.1.1.1
    | true =>
      have b0 := K3.out.here.1.2.1.cell 0
      have b1 := K3.out.here.1.2.1.cell 1
      simp at b0 b1
      have HPF : Hid (plc N 0 P = false) := by
        show _ = _
        have h1 := HALL.out
        rw [HPV.out]
        simpa using h1
      go_wp2_with fail
      refine (numbers_at HPF.out n _ hN25 K3.out.here.2.2.1).mono ?_
      rintro e w4 ⟨rfl, hb⟩
      have K4 := Lib.hid (K3.out.move hb)
      clear hb b0 b1 r0 r1 g0 g1
      have r0 := K4.out.here.1.2.2.2.cell 0
      have r1 := K4.out.here.1.2.2.2.cell 1
      simp at r0 r1
      have g0 := K4.out.here.1.2.2.2.free 0
      have g1 := K4.out.here.1.2.2.2.free 1
      go_wp2
      refine bodyPost_ret (v := .tuple #[.agg #[.int .i64 0, .slice none 0 0], .bool false]) (by simp [results, Try.results41, go_sem, r0, r1]) rfl ?_
      exact no_box_at hB (by omega) HR.out K4.out.here.1.1.1

theorem add_full {n : Int} {L : List ML} {f : Int} {t : List UInt8} (h : 10 ≤ L.length ∨ 99 < n) : bxAdd n L f t = (n, L, false) := by unfold bxAdd; rw [if_pos h]
theorem add_more {n : Int} {L : List ML} {f : Int} {t : List UInt8} (h : ¬ (10 ≤ L.length ∨ 99 < n)) : bxAdd n L f t = (n + 1, L ++ [(n, f, t)], true) := by unfold bxAdd; rw [if_neg h]
theorem add_at {n n2 : Int} {L L2 : List ML} {f : Int} {t : List UInt8} {v : ByteArray} {b : Bool} (hv : sB t = v) (hb : bxAdd n L f t = (n2, L2, b)) (A : Option Addr) (N cap : Nat) (w : World) (h : MIn w A N cap L) (hn : -1000 ≤ n) :
    Calls Try.prog 66 #[.agg #[.int .i64 n, .slice A N cap], .int .i64 f, .string v] w (GivesBB w n2 L2 b) := by
  subst hv
  have := spec_add n A N cap L f t w h hn
  rw [hb] at this
  exact this
set_option maxRecDepth 20000 in
set_option maxHeartbeats 8000000 in
theorem spec_bcopy_yes (n : Int) (A : Option Addr) (N cap : Nat) (L : List ML) (A2 : Option Addr) (N2 cap2 : Nat) (P : List Int) (m : Int) (A3 : Option Addr) (N3 cap3 : Nat) (M : List ML) (w : World) (hM : MIn w A N cap L) (hI : IIn w A2 N2 cap2 P) (hM2 : MIn w A3 N3 cap3 M)
    (h1 : bOk n L = true) (h2 : bOk m M = true) (h3 : plc L.length 0 P = true) :
    Calls Try.prog 41 #[.agg #[.int .i64 n, .slice A N cap], .slice A2 N2 cap2, .agg #[.int .i64 m, .slice A3 N3 cap3]] w (GivesBB w (bxCp n L P m M).1 (bxCp n L P m M).2.1 (bxCp n L P m M).2.2) := by
  obtain ⟨B, hB⟩ : ∃ B, w.heap.size = B := ⟨_, rfl⟩
  have hk := fun {F : World → Prop} (h : Kp w F) => ((h.alloc (.cells #[.int .i64 n, .slice A N cap] 25)).alloc (.cells #[.int .i64 m, .slice A3 N3 cap3] 25)).alloc (.cells #[.int .i64 0, .slice none 0 0] 25)
  have K0 := Lib.hid ((kp_three w 25 25 25 #[.int .i64 n, .slice A N cap] #[.int .i64 m, .slice A3 N3 cap3] #[.int .i64 0, .slice none 0 0] hB).and (hk (hM.keep.and (hI.keep.and hM2.keep))))
  have HBV := Lib.hid h1
  have HMV := Lib.hid h2
  have HPV := Lib.hid h3
  have HPN : Hid (plc N 0 P = true) := by rw [← hM.1]; exact h3
  obtain ⟨hm10, hm1⟩ := bxAp_size h2
  have hm100 := (bOk_iff.1 h2).2.2.2.1
  have HSOME := Lib.hid (fun (n2 : Int) (M2 : List ML) (hc : cpA m M (atM L P) = some (n2, M2)) => bxCp_all h1 h2 h3 hc)
  have HNONE := Lib.hid (fun (hc : cpA m M (atM L P) = none) => bxCp_none h1 h2 h3 hc)
  have HN := Lib.hid hM.1
  have hN25 := hM.2.1
  have hN225 := hI.2.1
  have HNP := Lib.hid hI.1
  have HM := Lib.hid hM
  have HI := Lib.hid hI
  have HM2 := Lib.hid hM2
  have b0 := K0.out.here.1.2.1.cell 0
  have b1 := K0.out.here.1.2.1.cell 1
  simp at b0 b1
  clear hM hI hM2 hk h1 h2 h3
  go_enter Try.func41, Try.ntmps41
  go_wp2_with fail
  refine (boxvalid_at HBV.out A N cap _ K0.out.here.2.1).mono ?_
  rintro e w2 ⟨rfl, hb⟩
  have K2 := Lib.hid (K0.out.move hb)
  clear hb b0 b1
  have b0 := K2.out.here.1.2.2.1.cell 0
  have b1 := K2.out.here.1.2.2.1.cell 1
  simp at b0 b1
  go_wp2_with fail
  refine (boxvalid_at HMV.out A3 N3 cap3 _ K2.out.here.2.2.2).mono ?_
  rintro e w3 ⟨rfl, hb⟩
  have K3 := Lib.hid (K2.out.move hb)
  clear hb b0 b1
  have b0 := K3.out.here.1.2.1.cell 0
  have b1 := K3.out.here.1.2.1.cell 1
  simp at b0 b1
  go_wp2_with fail
  refine (numbers_at HPN.out n _ hN25 K3.out.here.2.2.1).mono ?_
  rintro e w4 ⟨rfl, hb⟩
  have K4 := Lib.hid (K3.out.move hb)
  clear hb b0 b1
  have b0 := K4.out.here.1.2.2.1.cell 0
  have b1 := K4.out.here.1.2.2.1.cell 1
  simp at b0 b1
  go_wp2_with fail
  refine (spec_copy m A3 N3 cap3 M _ K4.out.here.2.2.2).mono ?_
  rintro e w5 ⟨A4, N4, cap4, rfl, hown, hb⟩
  have hz4 := K4.out.here.1.1.2
  obtain ⟨D, hD⟩ : ∃ D, w5.heap.size = D := ⟨_, rfl⟩
  have K5 := Lib.hid ((K4.out.move hb).alloc (.cells #[.int .i64 m, .slice A4 N4 cap4] 25))
  have HO5 := Lib.hid ((hown.from hz4).alloc (.cells #[.int .i64 m, .slice A4 N4 cap4] 25))
  have hdz := hb.size
  rw [hD] at hdz
  have HW5 := Lib.hid (hD ▸ Whole.made w5 25 #[.int .i64 m, .slice A4 N4 cap4] : Whole (w5.alloc (.cells #[.int .i64 m, .slice A4 N4 cap4] 25)) D 25 #[.int .i64 m, .slice A4 N4 cap4])
  have HD := Lib.hid hD
  clear hb hown b0 b1 hD
  go_wp2
  obtain ⟨w6, hw6⟩ : ∃ w6, w5.alloc (.cells #[.int .i64 m, .slice A4 N4 cap4] 25) = w6 := ⟨_, rfl⟩
  rw [hw6] at K5 HO5 HW5 ⊢
  rw [HD.out]
  clear hw6
  have hDw := HW5.out.lt
  go_loopw [9] (fun i wr => ∃ (j : Nat) (m' : Int) (M' : List ML) (A5 : Option Addr) (N5 cap5 : Nat), j ≤ N2 ∧ i = .int .i64 (j : Int) ∧ 1 ≤ m' ∧ m' ≤ 100 ∧ D < wr.heap.size ∧ Hid (Whole wr D 25 #[.int .i64 m', .slice A5 N5 cap5]) ∧ Hid (ROwn mailR wr (B + 1 + 1 + 1) (.slice A5 N5 cap5) M') ∧
      Hid (M'.length ≤ 10) ∧ Hid (cpA m M (atM L P) = cpA m' M' ((atM L P).drop j)) ∧ Hid (Below (B + 1 + 1 + 1) w6 wr)) (fun i _ => N2 - (intOf i).toNat)
  case atStart => exact ⟨0, m, M, A4, N4, cap4, Nat.zero_le _, by go_num, hm1, hm100, hDw, HW5, HO5, hm10, rfl, Below.refl _ _⟩
  case round =>
    obtain ⟨j, m', M', A5, N5, cap5, hj, rfl, hm1', hm100', hDr, HX, HO, HM10, HR, HB⟩ := hrel
    have hW1 := K5.out.here.1.2.1.below HB.out (by omega)
    have HW2 := Lib.hid (K5.out.here.1.2.2.1.below HB.out (by omega))
    have HW3 := Lib.hid (K5.out.here.1.2.2.2.below HB.out (by omega))
    have HB2 := Lib.hid (K5.out.here.1.1.1.trans (HB.out.mono (by omega)))
    have hM := HM.out.below HB2.out (Nat.le_of_eq hB)
    have hI := HI.out.below HB2.out (Nat.le_of_eq hB)
    have b0 := hW1.cell 0
    have b1 := hW1.cell 1
    have x0 := HX.out.cell 0
    have x1 := HX.out.cell 1
    simp at b0 b1 x0 x1
    by_cases hlt : j < N2
    · have h0 : (0 : Int) ≤ (j : Int) := by omega
      have h5 : (j : Int) < (N2 : Int) := by omega
      obtain ⟨x, hx⟩ : ∃ x, P[j]? = some x := ⟨_, List.getElem?_eq_getElem (by rw [HNP.out]; exact hlt)⟩
      obtain ⟨k, rfl, hk⟩ := plc_place HPV.out hx
      obtain ⟨mm, hm⟩ : ∃ m, L[k]? = some m := ⟨_, List.getElem?_eq_getElem hk⟩
      have HDR := Lib.hid (atM_drop hx hm)
      obtain ⟨pb, po, hAe, hpb, p0⟩ := int_at hI.2.2.1 hx
      obtain ⟨u, f, t⟩ := mm
      obtain ⟨mb, mo, hMe, hmb, d0, d1, d2⟩ := mail_at hM.2.2.1 hm
      obtain ⟨v, hv⟩ : ∃ v, sB t = v := ⟨_, rfl⟩
      have HV := Lib.hid hv
      rw [hv] at d2
      have kN : k < N := by rw [← HN.out]; exact hk
      have k0 : (0 : Int) ≤ (k : Int) := by omega
      have k5 : (k : Int) < (N : Int) := by omega
      have W1 : IntKind.i64.wrap (((k + 1 : Nat) : Int) - 1) = (k : Int) := (IntWalk.i64_in _ (by omega)).trans (by omega)
      have E1 : ((k + 1 : Nat) : Int) - 1 = (k : Int) := by omega
      obtain ⟨q, hq⟩ : ∃ q, k + 1 = q := ⟨_, rfl⟩
      rw [hq] at p0 W1 E1
      have hBz : B < wr.heap.size := hW1.lt
      have b0z := (World.cell?_alloc_lt wr (.cells #[.int .i64 0, .int .i64 0, .string ⟨#[]⟩] 30) ⟨B, 0, none⟩ hBz).trans b0
      have b1z := (World.cell?_alloc_lt wr (.cells #[.int .i64 0, .int .i64 0, .string ⟨#[]⟩] 30) ⟨B, 1, none⟩ hBz).trans b1
      have p0z := (World.cell?_alloc_lt wr (.cells #[.int .i64 0, .int .i64 0, .string ⟨#[]⟩] 30) ⟨pb, po + j, none⟩ hpb).trans p0
      have d0z := (World.cell?_alloc_lt wr (.cells #[.int .i64 0, .int .i64 0, .string ⟨#[]⟩] 30) ⟨mb, mo + k * 3, none⟩ hmb).trans d0
      have d1z := (World.cell?_alloc_lt wr (.cells #[.int .i64 0, .int .i64 0, .string ⟨#[]⟩] 30) ⟨mb, mo + k * 3 + 1, none⟩ hmb).trans d1
      have d2z := (World.cell?_alloc_lt wr (.cells #[.int .i64 0, .int .i64 0, .string ⟨#[]⟩] 30) ⟨mb, mo + k * 3 + 2, none⟩ hmb).trans d2
      clear hx hm hv hq hM hI hW1
      subst hAe
      subst hMe
      go_wp2
      go_region
      have hE := Whole.made wr 30 #[.int .i64 u, .int .i64 f, .string v]
      have e1 : (wr.alloc (.cells #[.int .i64 u, .int .i64 f, .string v] 30)).drew.cell? ⟨wr.heap.size, 1, none⟩ = some (.int .i64 f) := hE.cell 1
      have e2 : (wr.alloc (.cells #[.int .i64 u, .int .i64 f, .string v] 30)).drew.cell? ⟨wr.heap.size, 2, none⟩ = some (.string v) := hE.cell 2
      have hXa := (HX.out.alloc (.cells #[.int .i64 u, .int .i64 f, .string v] 30)).drew
      have hOa : ROwn mailR (wr.alloc (.cells #[.int .i64 u, .int .i64 f, .string v] 30)).drew (B + 1 + 1 + 1) (.slice A5 N5 cap5) M' := HO.out.alloc (.cells #[.int .i64 u, .int .i64 f, .string v] 30)
      have hW2a := (HW2.out.alloc (.cells #[.int .i64 u, .int .i64 f, .string v] 30)).drew
      have hW3a := (HW3.out.alloc (.cells #[.int .i64 u, .int .i64 f, .string v] 30)).drew
      have hBa := fbelow_drew (HB.out.alloc (by omega) (.cells #[.int .i64 u, .int .i64 f, .string v] 30))
      have hza : D < (wr.alloc (.cells #[.int .i64 u, .int .i64 f, .string v] 30)).drew.heap.size := hXa.lt
      obtain ⟨wa, hwa⟩ : ∃ wa, (wr.alloc (.cells #[.int .i64 u, .int .i64 f, .string v] 30)).drew = wa := ⟨_, rfl⟩
      rw [hwa] at e1 e2 hXa hOa hW2a hW3a hBa hza ⊢
      have HXA := Lib.hid hXa
      have HOA := Lib.hid hOa
      have HW2A := Lib.hid hW2a
      have HW3A := Lib.hid hW3a
      have HBA := Lib.hid hBa
      have a0 := hXa.cell 0
      have a1 := hXa.cell 1
      simp at a0 a1
      clear hE hXa hOa hW2a hW3a hBa hwa b0z b1z p0z d0z d1z d2z b0 b1 p0 d0 d1 d2 x0 x1
      have hN5 : N5 ≤ 33554432 := by have h1 := HOA.out.len.1; have h2 := HM10.out; omega
      by_cases hfull : 10 ≤ M'.length ∨ 99 < m'
      · have HNR : Hid (bxCp n L P m M = (m, M, false)) := HNONE.out (by rw [HR.out, HDR.out, cpA_full hfull])
        have HAD := Lib.hid (add_full (f := f) (t := t) hfull)
        clear hfull
        go_wp2_with fail
        refine (add_at HV.out HAD.out A5 N5 cap5 _ (MIn.of HOA.out hN5) (by omega)).mono ?_
        rintro e w7 ⟨A7, N7, cap7, rfl, hown, hb⟩
        have HB7 := Lib.hid (HBA.out.trans (hb.mono (by omega)))
        have hW2b := (HW2A.out.below hb HW2A.out.lt).alloc (.cells #[.int .i64 m', .slice A7 N7 cap7] 25)
        have hB2b := HB2.out
        have HBW := Lib.hid (HB7.out.alloc (by have := HB7.out.size; have := hb.size; omega) (.cells #[.int .i64 m', .slice A7 N7 cap7] 25))
        clear hb hown
        have b0 := hW2b.cell 0
        have b1 := hW2b.cell 1
        simp at b0 b1
        have HB28 := Lib.hid (K5.out.here.1.1.1.trans (HBW.out.mono (by omega)))
        have HM28 := Lib.hid (HM2.out.below HB28.out (Nat.le_of_eq hB))
        have HW38 := Lib.hid (K5.out.here.1.2.2.2.below HBW.out (by omega))
        have hz8 : B + 1 + 1 + 1 ≤ (w7.alloc (.cells #[.int .i64 m', .slice A7 N7 cap7] 25)).heap.size := by
          have := HW38.out.lt
          omega
        clear hW2b hB2b
        go_wp2_with fail
        refine (spec_copy m A3 N3 cap3 M _ HM28.out).mono ?_
        rintro e w9 ⟨A9, N9, cap9, rfl, hown, hb⟩
        have HW39 := Lib.hid (HW38.out.below hb HW38.out.lt)
        have HB9 := Lib.hid (HB28.out.trans (hb.mono (by omega)))
        have HO9 := Lib.hid (hown.from hz8)
        clear hb hown
        have r0 := HW39.out.cell 0
        have r1 := HW39.out.cell 1
        simp at r0 r1
        have g0 := HW39.out.free 0
        have g1 := HW39.out.free 1
        go_wp2
        refine bodyPost_ret (v := .tuple #[.agg #[.int .i64 m, .slice A9 N9 cap9], .bool false]) (by simp [results, Try.results41, go_sem, r0, r1]) rfl ?_
        rw [HNR.out]
        exact give_at hB (by omega) HO9.out HB9.out
      · have HAD := Lib.hid (add_more (f := f) (t := t) hfull)
        have HCR : Hid (cpA m M (atM L P) = cpA (m' + 1) (M' ++ [(m', f, t)]) ((atM L P).drop (j + 1))) := by
          show _ = _
          rw [HR.out, HDR.out, cpA_next hfull]
        have HM9 : Hid (M'.length < 10) := by show _ < _; omega
        have h99 : m' ≤ 99 := by omega
        clear hfull
        go_wp2_with fail
        refine (add_at HV.out HAD.out A5 N5 cap5 _ (MIn.of HOA.out hN5) (by omega)).mono ?_
        rintro e w7 ⟨A7, N7, cap7, rfl, hown, hb⟩
        have HB7 := Lib.hid (HBA.out.trans (hb.mono (by omega)))
        have HX7 := Lib.hid (HXA.out.below hb hza)
        have hz7 := Nat.lt_of_lt_of_le hza hb.size
        have HO7 := Lib.hid (hown.from (show D + 1 ≤ wa.heap.size from hza))
        clear hb hown a0 a1
        have a0 := HX7.out.cell 0
        have a1 := HX7.out.cell 1
        simp at a0 a1
        have q0 := HX7.out.free 0
        have q1 := HX7.out.free 1
        go_wp2
        go_roundw
        case rel =>
          refine ⟨j + 1, m' + 1, M' ++ [(m', f, t)], A7, N7, cap7, by omega, by go_num, by omega, by omega, by simp; omega, ((HX7.out.store 0 _).store 1 _).alloc _, ?_, ?_, HCR, ((HB7.out.setCell (by show B + 1 + 1 + 1 ≤ D; omega) _).setCell (by show B + 1 + 1 + 1 ≤ D; omega) _).alloc (by simp; omega) _⟩
          · exact ROwn.alloc (((HO7.out.store (p := ⟨D, 0, none⟩) (HO7.out.base D (by omega)) _).store (p := ⟨D, 1, none⟩) (HO7.out.base D (by omega)) _).from (by omega)) _
          · show _ ≤ _
            rw [List.length_append, List.length_singleton]
            exact HM9.out
        case measure => simp [intOf]; omega
    · have h5 : ¬ (j : Int) < (N2 : Int) := by omega
      have HDN : Hid ((atM L P).drop j = []) := List.drop_eq_nil_of_le (by rw [atM_len, HNP.out]; omega)
      have HSR : Hid (bxCp n L P m M = (m', M', true)) := HSOME.out m' M' (by rw [HR.out, HDN.out]; rfl)
      have r0 := HW3.out.cell 0
      have r1 := HW3.out.cell 1
      simp at r0 r1
      have g0 := HW3.out.free 0
      have g1 := HW3.out.free 1
      clear hW1 hM hI
      go_wp2
      refine bodyPost_ret (v := .tuple #[.agg #[.int .i64 m', .slice A5 N5 cap5], .bool true]) (by simp [results, Try.results41, go_sem, r0, r1]) rfl ?_
      rw [HSR.out]
      exact give_at hB (by omega) HO.out HB2.out
theorem spec_bcopy (n : Int) (A : Option Addr) (N cap : Nat) (L : List ML) (A2 : Option Addr) (N2 cap2 : Nat) (P : List Int) (m : Int) (A3 : Option Addr) (N3 cap3 : Nat) (M : List ML) (w : World) (hM : MIn w A N cap L) (hI : IIn w A2 N2 cap2 P) (hM2 : MIn w A3 N3 cap3 M) :
    Calls Try.prog 41 #[.agg #[.int .i64 n, .slice A N cap], .slice A2 N2 cap2, .agg #[.int .i64 m, .slice A3 N3 cap3]] w (GivesBB w (bxCp n L P m M).1 (bxCp n L P m M).2.1 (bxCp n L P m M).2.2) := by
  cases hno : bOk n L && bOk m M && plc L.length 0 P with
  | false => exact spec_bcopy_no n A N cap L A2 N2 cap2 P m A3 N3 cap3 M w hM hI hM2 hno
  | true =>
    obtain ⟨h12, h3⟩ := Bool.and_eq_true_iff.1 hno
    obtain ⟨h1, h2⟩ := Bool.and_eq_true_iff.1 h12
    exact spec_bcopy_yes n A N cap L A2 N2 cap2 P m A3 N3 cap3 M w hM hI hM2 h1 h2 h3
end Go.Proofs.Ytmljdbbbfpmbcaa
