/-
  The walk of the law FnKeyParts. Conditions: the code can be read; the tables hold what the program lays there.
-/
import Derived.Test.YtpihibconbejlaaDoorKb
import Derived.Test.YtpihibconbejlaaDoorKo
namespace Go.Proofs.YtpihibconbejlaaDoor
open Go.RowKit
set_option linter.unusedVariables false

def Holds1 (w : World) (e : Ending) (w' : World) : Prop := e = .returned (.bool true) ∧ Below w.heap.size w w'
theorem kd3 : KD3 := fun b p w h hp => key_draw 3 b p w (Nat.le_refl _) h (by show p + 900 ≤ 500000; omega)
theorem keyB_part {kd f : Int} {t : ByteArray} {S : List (Int × Int)} {ks : List KT} {i : Nat} {k : KT} (h : keyB (.mk kd f t S ks) = true) (hk : ks[i]? = some k) : keyB k = true := by
  unfold keyB at h ⊢
  rw [Bool.and_eq_true, decide_eq_true_eq, allT, nodesT, Bool.and_eq_true] at h
  have h1 := nodesL_lt hk
  have h2 : allT k = true := by
    cases ha : allT k with
    | true => rfl
    | false =>
      have := allL_no hk ha
      rw [this] at h
      exact absurd h.1.1 (by simp)
  rw [h2, Bool.true_and]
  exact decide_eq_true (by omega)
set_option maxRecDepth 20000 in
set_option maxHeartbeats 8000000 in
theorem law_FnKeyParts (A : Option Addr) (len cap : Nat) (w : World) (h : Coded w A len cap) (hSh : Shp w) (hLs : Lst w) : Calls Tryd.prog 6 #[.slice A len cap] w (Holds1 w) := by
  have HC := Lib.hid h
  have HSH := Lib.hid hSh
  have HLS := Lib.hid hLs
  clear h hSh hLs
  by_cases hl : len ≤ 1048576
  · have hl' : (len : Int) ≤ 1048576 := by omega
    go_enter Tryd.func6, Tryd.ntmps6
    go_wp2_with fail
    refine (draw_key kd3 A len cap w HC.out).mono ?_
    rintro e w1 ⟨k, ⟨a0, a1, a2, ⟨a3, a4, a5⟩, ⟨a6, a7, a8⟩⟩, rfl, hk, hni, hn, hb0⟩
    obtain ⟨kd, f, t, S, ks⟩ := k
    have HN := Lib.hid hn
    have HK1 := Lib.hid hk
    have HB1 := Lib.hid hb0
    obtain ⟨D, hD⟩ : ∃ D, w1.heap.size = D := ⟨_, rfl⟩
    have HDD := Lib.hid hD
    obtain ⟨w2, hw2⟩ : ∃ w2, w1.alloc (.cells #[.int .i64 a0, .int .i64 a1, .string a2, .slice a3 a4 a5, .slice a6 a7 a8] 26) = w2 := ⟨_, rfl⟩
    have HW2 := Lib.hid hw2
    have hbk : Below w1.heap.size w1 w2 := by rw [← hw2]; exact below_newK w1 _
    have HX2 : Hid (Whole w2 D 26 #[.int .i64 a0, .int .i64 a1, .string a2, .slice a3 a4 a5, .slice a6 a7 a8]) := Lib.hid (by rw [← hw2, ← hD]; exact Whole.made w1 _ _)
    have HB2 := Lib.hid (HB1.out.trans (hbk.mono HB1.out.size))
    have HK2 := Lib.hid (KV.below hbk (Nat.le_refl _) _ _ hk)
    clear hk hni hn hb0 hD hw2 hbk
    have z0 := HX2.out.cell 0
    have z1 := HX2.out.cell 1
    have z2 := HX2.out.cell 2
    have z3 := HX2.out.cell 3
    have z4 := HX2.out.cell 4
    simp at z0 z1 z2 z3 z4
    obtain ⟨o, ho⟩ : ∃ o, keyB (.mk kd f t S ks) = o := ⟨_, rfl⟩
    have HO := Lib.hid ho
    clear ho
    have HC2 := Lib.hid (impl_key HO.out w2 (HSH.out.below HB2.out (Nat.le_refl _)) (HLS.out.below HB2.out (Nat.le_refl _)) HK2.out)
    go_wp2_with fail
    rw [HW2.out, HDD.out]
    refine HC2.out.mono ?_
    rintro e w3 ⟨rfl, hb⟩
    have HX3 := Lib.hid (HX2.out.below hb HX2.out.lt)
    have HB3 := Lib.hid (HB2.out.trans (hb.mono HB2.out.size))
    have HK3 := Lib.hid (KV.below hb (Nat.le_refl _) _ _ HK2.out)
    clear hb z0 z1 z2 z3 z4
    have z0 := HX3.out.cell 0
    have z1 := HX3.out.cell 1
    have z2 := HX3.out.cell 2
    have z3 := HX3.out.cell 3
    have z4 := HX3.out.cell 4
    simp at z0 z1 z2 z3 z4
    have HC3 := Lib.hid (spec_key HK3.out (by have := HN.out; omega) HO.out)
    go_wp2_with fail
    refine HC3.out.mono ?_
    rintro e w4 ⟨rfl, hb⟩
    have HX4 := Lib.hid (HX3.out.below hb HX3.out.lt)
    have HB4 := Lib.hid (HB3.out.trans (hb.mono HB3.out.size))
    have HK4 := Lib.hid (KV.below hb (Nat.le_refl _) _ _ HK3.out)
    clear hb z0 z1 z2 z3 z4
    cases o with
    | false =>
      go_wp2
      go_ret
      exact ⟨rfl, HB4.out⟩
    | true =>
      have z0 := HX4.out.cell 0
      have z1 := HX4.out.cell 1
      have z2 := HX4.out.cell 2
      have z3 := HX4.out.cell 3
      have z4 := HX4.out.cell 4
      simp at z0 z1 z2 z3 z4
      have hp := HK4.out
      obtain ⟨AS, nS, cS, AK, nK, cK, he, -, -, -, -, h6, h7⟩ := hp.open
      simp at he
      obtain ⟨rfl, rfl, rfl, -, rfl, rfl, rfl⟩ := he
      have HKK := Lib.hid h6
      have HKS := Lib.hid h7
      have hz4 : w.heap.size ≤ w4.heap.size := HB4.out.size
      have ha7 : a7 ≤ 16 := by
        have h1 := nodesL_len ks
        have h2 := HN.out
        rw [nodesT] at h2
        have h3 := HKK.out
        omega
      clear hp h6 h7
      go_wp2
      go_loopw [6] (fun iv wr => ∃ i : Nat, i ≤ a7 ∧ iv = .int .i64 (i : Int) ∧ Hid (Below w4.heap.size w4 wr)) (fun iv _ => a7 - (intOf iv).toNat)
      case atStart => exact ⟨0, Nat.zero_le _, by go_num, Below.refl _ _⟩
      case round =>
        obtain ⟨i, hi, rfl, HB⟩ := hrel
        have HX := Lib.hid (HX4.out.below HB.out HX4.out.lt)
        clear z0 z1 z2 z3 z4
        have z0 := HX.out.cell 0
        have z1 := HX.out.cell 1
        have z2 := HX.out.cell 2
        have z3 := HX.out.cell 3
        have z4 := HX.out.cell 4
        simp at z0 z1 z2 z3 z4
        have HBw := Lib.hid (HB4.out.trans (HB.out.mono hz4))
        by_cases hlt : i < a7
        · have h0 : (0 : Int) ≤ (i : Int) := by omega
          have h5 : (i : Int) < (a7 : Int) := by omega
          obtain ⟨k, hk⟩ : ∃ k, ks[i]? = some k := ⟨_, List.getElem?_eq_getElem (by rw [HKK.out]; exact hlt)⟩
          obtain ⟨b, ob, v0, v1, v2, v3, v4, rfl, hbz, c0, c1, c2, c3, c4, hkv⟩ := (KVs.below HB.out (Nat.le_refl _) _ 0 ks HKS.out).get hk
          rw [Nat.zero_add] at c0 c1 c2 c3 c4
          have HCK := Lib.hid (impl_key (keyB_part HO.out hk) wr (HSH.out.below HBw.out (Nat.le_refl _)) (HLS.out.below HBw.out (Nat.le_refl _)) hkv)
          clear hk hkv z0 z1 z2 z3
          go_wp2_with fail
          refine HCK.out.mono ?_
          rintro e w5 ⟨rfl, hb⟩
          have HB5 := Lib.hid (HB.out.trans (hb.mono HB.out.size))
          clear hb
          go_wp2
          go_roundw
          case rel => exact ⟨i + 1, by omega, by go_num, HB5⟩
          case measure => simp [intOf]; omega
        · have h5 : ¬ (i : Int) < (a7 : Int) := by omega
          have HKR := Lib.hid (KV.below HB.out (Nat.le_refl _) _ _ HK4.out)
          obtain ⟨m, hm⟩ : ∃ m, nodesT (.mk a0 a1 a2 S ks) = m := ⟨_, rfl⟩
          have hm9 : m ≤ 9 := by
            have := HO.out
            unfold keyB at this
            rw [Bool.and_eq_true, decide_eq_true_eq, hm] at this
            exact this.2
          have hm9' : (m : Int) ≤ 9 := by omega
          have HCN := Lib.hid (laws_nodes_n 9 _ _ wr (by rw [hm]; exact hm9) (by omega) HKR.out)
          rw [hm] at HCN
          go_wp2_with fail
          refine HCN.out.mono ?_
          rintro e w5 ⟨rfl, hb⟩
          have HB5 := Lib.hid (HBw.out.trans (hb.mono HBw.out.size))
          clear hb
          go_wp2
          go_ret
          exact ⟨rfl, HB5.out⟩
  · have hl' : ¬ (len : Int) ≤ 1048576 := by omega
    go_enter Tryd.func6, Tryd.ntmps6
    go_wp2
    go_ret
    exact ⟨rfl, Below.refl _ _⟩
end Go.Proofs.YtpihibconbejlaaDoor
