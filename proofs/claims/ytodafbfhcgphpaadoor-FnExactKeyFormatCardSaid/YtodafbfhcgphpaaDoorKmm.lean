/-
  Kfm, Kfi, Kfj, Kfx in one text. Conditions: each contract's own.
-/
import Derived.Test.YtodafbfhcgphpaaDoorKz
import Derived.Test.YtodafbfhcgphpaaDoorKc
import Derived.Test.YtodafbfhcgphpaaDoorStxi
import Derived.Test.YtodafbfhcgphpaaDoorTim
import Derived.Test.YtodafbfhcgphpaaDoorKeep
import Derived.Deep.Cut
import Derived.BigQuiet
import Derived.Test.YtodafbfhcgphpaaDoorKml
import Derived.Test.YtodafbfhcgphpaaDoorLawa
namespace Go.Proofs.YtodafbfhcgphpaaDoor
open Go.RowKit
set_option linter.unusedVariables false

theorem textB_le {L : List (Int × Int)} : (textB L).length ≤ 36 := by
  by_cases h : setB L = true
  · rw [textB_yes h]
    have h1 := joinW_len (dn L)
    have h2 := (setB_iff.1 h).2.2
    rw [dn_len] at h1
    omega
  · rw [textB_no (Bool.eq_false_iff.2 h)]
    simp
set_option maxRecDepth 20000 in

/-- The first words of a node. -/
def headW (kd f : Int) (t : ByteArray) (S : List (Int × Int)) : List UInt8 :=
  if kd = 0 then [97, 108, 108] else if kd = 1 then fwL f else if kd = 2 then [116, 101, 120, 116, 32] ++ t.data.toList else if kd = 3 then [97, 116, 32] ++ textB S
  else if kd = 4 then [117, 105, 100, 32] ++ textB S else if kd = 5 then [110, 111, 116] else if kd = 6 then [97, 110, 100] else [111, 114]
mutual
/-- The text of a key. -/
def fmtT : KT → List UInt8
  | .mk kd f t S ks => headW kd f t S ++ fmtL ks
def fmtL : List KT → List UInt8
  | [] => []
  | k :: r => 32 :: (fmtT k ++ fmtL r)
end
theorem fwL_len (f : Int) : (fwL f).length ≤ 8 := by
  unfold fwL
  split
  · decide
  · split
    · decide
    · split
      · decide
      · split
        · decide
        · split <;> decide
theorem node2 {f : Int} {t : ByteArray} {S : List (Int × Int)} {n : Nat} (h : nodeB 2 f t S n = true) : nameB t.data.toList = true := by
  unfold nodeB at h
  rw [if_neg (by decide), if_neg (by decide), if_pos rfl] at h
  simp only [Bool.and_eq_true] at h
  exact h.1.1.2
theorem node1 {f : Int} {t : ByteArray} {S : List (Int × Int)} {n : Nat} (h : nodeB 1 f t S n = true) : flag1 f = true := by
  unfold nodeB at h
  rw [if_neg (by decide), if_pos rfl] at h
  simp only [Bool.and_eq_true] at h
  exact h.1.1.1
theorem headW_len {kd f : Int} {t : ByteArray} {S : List (Int × Int)} {n : Nat} (h : nodeB kd f t S n = true) : (headW kd f t S).length ≤ 40 := by
  have h1 := fwL_len f
  have h2 := textB_le (L := S)
  have h3 : kd = 2 → t.data.toList.length ≤ 8 := fun e => by
    subst e
    have h4 := node2 h
    unfold nameB at h4
    simp only [Bool.and_eq_true, decide_eq_true_eq] at h4
    exact h4.2
  unfold headW
  split
  · decide
  · split
    · omega
    · split
      · rename_i e
        have := h3 e
        rw [List.length_append]
        show 5 + _ ≤ 40
        omega
      · split
        · rw [List.length_append]; show 3 + _ ≤ 40; omega
        · split
          · rw [List.length_append]; show 4 + _ ≤ 40; omega
          · split
            · decide
            · split <;> decide
mutual
theorem fmtT_len : ∀ k : KT, allT k = true → (fmtT k).length + 1 ≤ 42 * nodesT k
  | .mk kd f t S ks, h => by
    rw [allT, Bool.and_eq_true] at h
    have h1 := headW_len h.2
    have h2 := fmtL_len ks h.1
    rw [fmtT, nodesT, List.length_append]
    omega
theorem fmtL_len : ∀ ks : List KT, allL ks = true → (fmtL ks).length ≤ 42 * nodesL ks
  | [], _ => by rw [fmtL]; exact Nat.zero_le _
  | k :: r, h => by
    rw [allL, Bool.and_eq_true] at h
    have h1 := fmtT_len k h.1
    have h2 := fmtL_len r h.2
    rw [fmtL, nodesL, List.length_cons, List.length_append]
    omega
end
theorem fmtL_app : ∀ (a b : List KT), fmtL (a ++ b) = fmtL a ++ fmtL b
  | [], b => by rw [fmtL]; rfl
  | k :: a, b => by rw [List.cons_append, fmtL, fmtL, fmtL_app a b, List.cons_append, List.append_assoc]
theorem fmtL_take {ks : List KT} {i : Nat} {k : KT} (h : ks[i]? = some k) : fmtL (ks.take (i + 1)) = fmtL (ks.take i) ++ ([32] ++ fmtT k) := by
  rw [List.take_add_one, h, fmtL_app]
  show _ ++ fmtL [k] = _
  rw [fmtL, fmtL, List.append_nil]
  rfl
theorem fmtL_take_len {ks : List KT} (i : Nat) (h : allL ks = true) : (fmtL (ks.take i)).length ≤ 42 * nodesL ks := by
  have h1 : allL (ks.take i) = true := by
    have := allL_app (ks.take i) (ks.drop i)
    rw [List.take_append_drop, h] at this
    have h2 := this.symm
    rw [Bool.and_eq_true] at h2
    exact h2.1
  have h2 := fmtL_len _ h1
  have h3 := nodesL_le (ks := ks) i
  omega
theorem allL_get {ks : List KT} {i : Nat} {k : KT} (h : allL ks = true) (hk : ks[i]? = some k) : allT k = true := by
  cases ha : allT k with
  | true => rfl
  | false => rw [allL_no hk ha] at h; cases h
theorem cat_txt (a b : ByteArray) : (a ++ b).data.toList = a.data.toList ++ b.data.toList := by simp
theorem size_txt (a : ByteArray) : a.size = a.data.toList.length := by show a.data.size = _; rw [Array.length_toList]
theorem flag1_pow {f : Int} (h : flag1 f = true) : ∃ j : Nat, j < 5 ∧ f = ((2 ^ j : Nat) : Int) := by
  unfold flag1 at h
  simp only [Bool.or_eq_true, beq_iff_eq] at h
  rcases h with (((h | h) | h) | h) | h
  · exact ⟨0, by omega, h⟩
  · exact ⟨1, by omega, h⟩
  · exact ⟨2, by omega, h⟩
  · exact ⟨3, by omega, h⟩
  · exact ⟨4, by omega, h⟩
theorem pow_ne {i j : Nat} (hi : i < 5) (hj : j < 5) (h : i ≠ j) : (((2 ^ i : Nat) : Int) == ((2 ^ j : Nat) : Int)) = false := by
  have h1 : ∀ a b : Fin 5, a ≠ b → (((2 ^ a.1 : Nat) : Int) == ((2 ^ b.1 : Nat) : Int)) = false := by decide
  exact h1 ⟨i, hi⟩ ⟨j, hj⟩ (fun e => h (congrArg Fin.val e))
set_option maxHeartbeats 400000 in
theorem spec_bitk (k : Nat) (w : World) (hk : k < 5) : Calls Tryd.prog 33 #[.int .i64 (k : Int)] w fun e w' => e = .returned (.int .i64 ((2 ^ k : Nat) : Int)) ∧ Below w.heap.size w w' := by
  obtain ⟨q, hq⟩ : ∃ q, 2 ^ k = q := ⟨_, rfl⟩
  have hb := kbit_at hk hq
  rw [hq]
  have hc : (w.alloc (.cells #[.int .i64 1, .int .i64 2, .int .i64 4, .int .i64 8, .int .i64 16] 3)).cell? ⟨w.heap.size, k, none⟩ = some (.int .i64 (q : Int)) := (Whole.made w 3 #[.int .i64 1, .int .i64 2, .int .i64 4, .int .i64 8, .int .i64 16]).cell k |>.trans hb
  have HB := Lib.hid ((Below.refl w.heap.size w).alloc (Nat.le_refl _) (.cells #[.int .i64 1, .int .i64 2, .int .i64 4, .int .i64 8, .int .i64 16] 3))
  have h0 : (0 : Int) ≤ (k : Int) := by omega
  have h5 : (k : Int) < 5 := by omega
  clear hb hq
  go_enter Tryd.func33, Tryd.ntmps33
  go_wp2_with fail
  go_ret
  exact ⟨rfl, HB.out⟩
def nmA : Array Value := #[.string ⟨#[115, 101, 101, 110]⟩, .string ⟨#[97, 110, 115, 119, 101, 114, 101, 100]⟩, .string ⟨#[102, 108, 97, 103, 103, 101, 100]⟩, .string ⟨#[100, 101, 108, 101, 116, 101, 100]⟩, .string ⟨#[100, 114, 97, 102, 116]⟩]
theorem nmA_at {j : Nat} (h : j < 5) : nmA[j]? = some (.string (wB (fwL ((2 ^ j : Nat) : Int)))) := by
  match j, h with
  | 0, _ | 1, _ | 2, _ | 3, _ | 4, _ => rfl
/-- A key's text is told. -/
def Fm (w : World) (k : KT) (e : Ending) (w' : World) : Prop := ∃ v : ByteArray, v.data.toList = fmtT k ∧ e = .returned (.string v) ∧ Below w.heap.size w w'
/-- The first words of a node, as they stand behind the switch. -/
def Hd (kd f : Int) (t : ByteArray) (S : List (Int × Int)) (v : ByteArray) : Prop := v.data.toList = headW kd f t S
set_option maxRecDepth 20000 in
set_option maxHeartbeats 8000000 in
theorem spec_fmt_step {n : Nat} (ih : ∀ (k : KT) (v : Value) (w1 : World), nodesT k ≤ n → allT k = true → KV w1 k v → Calls Tryd.prog 19 #[v] w1 (Fm w1 k))
    {kd f : Int} {t : ByteArray} {S : List (Int × Int)} {ks : List KT} {v : Value} (hks : ∀ k ∈ ks, nodesT k ≤ n) (hn : nodesT (.mk kd f t S ks) ≤ 1000000) (ha : allT (.mk kd f t S ks) = true) (w : World) (h : KV w (.mk kd f t S ks) v) :
    Calls Tryd.prog 19 #[v] w (Fm w (.mk kd f t S ks)) := by
  obtain ⟨AS, nS, cS, AK, nK, cK, rfl, h2, h3, h4, h5, h6, h7⟩ := h.open
  rw [allT, Bool.and_eq_true] at ha
  rw [nodesT] at hn
  have hln := nodesL_len ks
  have hnK : nK ≤ 1000000 := by omega
  have hND := ha.2
  have HIH := Lib.hid ih
  have HMK := Lib.hid hks
  have HAL := Lib.hid ha.1
  have HL := Lib.hid h2
  have HLK := Lib.hid h6
  have HTS := Lib.hid h4
  have HS3 : Hid (S.length ≤ 33554432) := Lib.hid (by rw [h2]; exact h3)
  have HNL : Hid (nodesL ks ≤ 1000000) := Lib.hid (by omega)
  obtain ⟨B, hB⟩ : ∃ B, w.heap.size = B := ⟨_, rfl⟩
  have HBB := Lib.hid hB
  obtain ⟨wq, hwq⟩ : ∃ z, w.alloc (.cells #[.int .i64 kd, .int .i64 f, .string t, .slice AS nS cS, .slice AK nK cK] 26) = z := ⟨_, rfl⟩
  have HBA : Hid (Below w.heap.size w wq) := Lib.hid (by rw [← hwq]; exact below_new _ _)
  have HW0 : Hid (Whole wq B 26 #[.int .i64 kd, .int .i64 f, .string t, .slice AS nS cS, .slice AK nK cK]) := Lib.hid (by rw [← hwq, ← hB]; exact Whole.made w _ _)
  have HA := Lib.hid (h5.below HBA.out (Nat.le_refl _))
  have HQ := Lib.hid (KVs.below HBA.out (Nat.le_refl _) _ _ _ h7)
  have HND := Lib.hid hND
  have HWQ := Lib.hid hwq
  clear h h2 h4 h5 h6 h7 hks ih ha hn hln hB hwq
  have c0 := HW0.out.cell 0
  have c1 := HW0.out.cell 1
  have c2 := HW0.out.cell 2
  have c3 := HW0.out.cell 3
  have c4 := HW0.out.cell 4
  simp only [List.getElem?_toArray, List.getElem?_cons_zero, List.getElem?_cons_succ] at c0 c1 c2 c3 c4
  -- what the kind tells
  have hkd : 0 ≤ kd ∧ kd ≤ 7 := by
    unfold nodeB at hND
    split at hND
    · omega
    · split at hND
      · omega
      · split at hND
        · omega
        · split at hND
          · omega
          · split at hND
            · omega
            · split at hND
              · omega
              · cases hND
  clear hND
  have hk8 : kd = 0 ∨ kd = 1 ∨ kd = 2 ∨ kd = 3 ∨ kd = 4 ∨ kd = 5 ∨ kd = 6 ∨ kd = 7 := by omega
  clear hkd
  rcases hk8 with rfl | rfl | rfl | rfl | rfl | rfl | rfl | rfl
  ·
    go_enter Tryd.func19, Tryd.ntmps19
    go_wp2_with fail
    try rw [HBB.out, HWQ.out]
    clear c1 c2 c3
    go_wp2
    go_loopw [3, 6] (fun ov iv wr => ∃ (i : Nat) (X : ByteArray), i ≤ nK ∧ iv = .int .i64 (i : Int) ∧ ov = .string X ∧ X.size ≤ 42000100 ∧ Hid (X.data.toList = headW (0 : Int) f t S ++ fmtL (ks.take i)) ∧ Hid (Below wq.heap.size wq wr)) (fun _ iv _ => nK - (intOf iv).toNat)
    case atStart => exact ⟨0, (⟨#[97, 108, 108]⟩ : ByteArray), Nat.zero_le _, by go_num, rfl, (by decide), Lib.hid (by rw [List.take_zero, fmtL, List.append_nil]; exact rfl), Below.refl _ _⟩
    case round =>
      obtain ⟨i, X, hi, rfl, rfl, hX, HX, KB⟩ := hrel
      have HVr := Lib.hid (HW0.out.below KB.out HW0.out.lt)
      have z4 := HVr.out.cell 4
      simp only [List.getElem?_toArray, List.getElem?_cons_zero, List.getElem?_cons_succ] at z4
      by_cases hlt : i < nK
      · have i0 : (0 : Int) ≤ (i : Int) := by omega
        have i5 : (i : Int) < (nK : Int) := by omega
        obtain ⟨k, hk⟩ : ∃ x, ks[i]? = some x := ⟨_, List.getElem?_eq_getElem (by rw [HLK.out]; exact hlt)⟩
        obtain ⟨b, o, v0, v1, v2, v3, v4, rfl, hbz, d0, d1, d2, d3, d4, hkv⟩ := (KVs.below KB.out (Nat.le_refl _) _ _ _ HQ.out).get hk
        rw [Nat.zero_add] at d0 d1 d2 d3 d4
        have HAT := Lib.hid (allL_get HAL.out hk)
        have HC := Lib.hid (HIH.out k _ wr (HMK.out k (List.mem_of_getElem? hk)) HAT.out hkv)
        have HTK := Lib.hid (fmtL_take hk)
        have HLE := Lib.hid (fmtL_take_len (ks := ks) (i + 1) HAL.out)
        have HKL : Hid ((fmtT k).length ≤ 42000000) := Lib.hid (by
          have h1 := fmtT_len k HAT.out
          have h2 := nodesL_lt hk
          have h3 := HNL.out
          omega)
        clear hk hkv hbz
        go_wp2_with fail
        refine HC.out.mono ?_
        rintro e w2 ⟨y, hy, rfl, hb⟩
        have KB2 := Lib.hid (KB.out.trans (hb.mono KB.out.size))
        have hys : y.size ≤ 42000000 := by rw [size_txt, hy]; exact HKL.out
        have HN2 : Hid ((X ++ (⟨#[32]⟩ : ByteArray) ++ y).data.toList = headW (0 : Int) f t S ++ fmtL (ks.take (i + 1))) := Lib.hid (by
          rw [cat_txt, cat_txt, HX.out, hy, HTK.out, List.append_assoc, List.append_assoc])
        have HS2 : Hid ((X ++ (⟨#[32]⟩ : ByteArray) ++ y).size ≤ 42000100) := Lib.hid (by
          rw [size_txt, HN2.out, List.length_append]
          have h1 := headW_len HND.out
          have h2 := HLE.out
          have h3 := HNL.out
          omega)
        clear hb hy d0 d1 d2 d3 d4 z4
        go_wp2
        go_roundw
        case rel => exact ⟨i + 1, _, by omega, by go_num, rfl, HS2.out, HN2, KB2⟩
        case measure => simp [intOf]; omega
      · have i5 : ¬ (i : Int) < (nK : Int) := by omega
        have hin : i = nK := by omega
        have HF : Hid (X.data.toList = fmtT (.mk (0 : Int) f t S ks)) := Lib.hid (by
          have h1 := HX.out
          rw [List.take_of_length_le (by rw [HLK.out]; omega)] at h1
          rw [fmtT]
          exact h1)
        have KB2 := Lib.hid (HBA.out.trans (KB.out.mono HBA.out.size))
        clear hin
        go_wp2
        go_ret
        exact ⟨X, HF.out, rfl, KB2.out⟩
  ·
    obtain ⟨j, hj, hfj⟩ : ∃ j : Nat, j < 5 ∧ f = ((2 ^ j : Nat) : Int) := flag1_pow (node1 (n := ks.length) (show nodeB 1 f t S ks.length = true from HND.out))
    obtain ⟨wn, hwn⟩ : ∃ z, wq.alloc (.cells nmA 9) = z := ⟨_, rfl⟩
    obtain ⟨G, hGe⟩ : ∃ z, B + 1 = z := ⟨_, rfl⟩
    have hG : wq.heap.size = G := by rw [← HWQ.out, ← hGe, ← HBB.out]; simp
    have hbn : Below wq.heap.size wq wn := by rw [← hwn]; exact below_new _ _
    have HBN := Lib.hid (HBA.out.trans (hbn.mono HBA.out.size))
    have HVN := Lib.hid (HW0.out.below hbn HW0.out.lt)
    have HQN := Lib.hid (KVs.below hbn (Nat.le_refl _) _ _ _ HQ.out)
    have HGN := Lib.hid (show Whole wn G 9 nmA by rw [← hwn, ← hG]; exact Whole.made _ _ _)
    have HF := Lib.hid hfj
    clear hfj
    have hB2 := HBB.out
    have HWN := Lib.hid hwn
    rw [← HWQ.out] at HWN
    clear hbn c2 c3 hwn hG
    unfold nmA at HWN
    go_enter Tryd.func19, Tryd.ntmps19
    go_wp2_with fail
    rw [HWN.out]
    try rw [hGe]
    clear hB2 hGe
    clear c0 c1 c4
    go_loopw [3, 5] (fun ov iv wr => ∃ (i : Nat) (X : ByteArray), i ≤ 5 ∧ iv = .int .i64 (i : Int) ∧ ov = .string X ∧ X.size ≤ 8 ∧ Hid (j < i → X.data.toList = fwL f) ∧ Hid (Below wn.heap.size wn wr)) (fun _ iv _ => 5 - (intOf iv).toNat)
    case atStart => exact ⟨0, ⟨#[]⟩, Nat.zero_le _, by go_num, rfl, by decide, Lib.hid (fun h => absurd h (Nat.not_lt_zero _)), Below.refl _ _⟩
    case round =>
      obtain ⟨i, X, hi, rfl, rfl, hX, HX, KB⟩ := hrel
      by_cases hlt : i < 5
      · have i0 : (0 : Int) ≤ (i : Int) := by omega
        have i5 : (i : Int) < 5 := by omega
        have hgx : wn.cell? ⟨G, i, none⟩ = some (.string (wB (fwL ((2 ^ i : Nat) : Int)))) := (HGN.out.cell i).trans (nmA_at hlt)
        obtain ⟨fw, hfw⟩ : ∃ z, wB (fwL ((2 ^ i : Nat) : Int)) = z := ⟨_, rfl⟩
        rw [hfw] at hgx
        have HFW : Hid (fw.data.toList = fwL ((2 ^ i : Nat) : Int)) := Lib.hid (by rw [← hfw]; rfl)
        have hfs : fw.size ≤ 8 := by rw [size_txt, HFW.out]; exact fwL_len _
        obtain ⟨wz, hwz⟩ : ∃ z, wr.drew = z := ⟨_, rfl⟩
        have hbz : Below wr.heap.size wr wz := by rw [← hwz]; exact below_drew1 _
        have KBz := Lib.hid (KB.out.trans (hbz.mono KB.out.size))
        have HVz := Lib.hid (HVN.out.below KBz.out HVN.out.lt)
        have e1 := HVz.out.cell 1
        simp only [List.getElem?_toArray, List.getElem?_cons_zero, List.getElem?_cons_succ] at e1
        obtain ⟨pi, hpi⟩ : ∃ z : Int, ((2 ^ i : Nat) : Int) = z := ⟨_, rfl⟩
        have HPI := Lib.hid hpi
        have HWZ := Lib.hid hwz
        clear hfw hwz hbz
        go_upto_region 10 with fail
        refine wp_region_late (fun w' => w'.cell? ⟨B, 1, none⟩ = some (.int .i64 f)) 4 (by kernel_rfl) ?_
        rw [HWZ.out]
        refine wpLate_take (i := 0) (v := ?v0) rfl (by kernel_rfl) (by kernel_rfl) (by kernel_rfl) (by kernel_rfl) (by kernel_rfl) (fun _ _ _ h => h) e1 (by rfl) ?hy0 ?r0
        case hy0 =>
          rintro wz z0
          go_simp
          try with_reducible rfl
        try simp only [Act.put]
        refine wpLate_take (i := 2) (v := ?v2) rfl (by kernel_rfl) (by kernel_rfl) (by kernel_rfl) (by kernel_rfl) (by kernel_rfl) (fun _ _ _ h => h) e1 (by rfl) ?hy2 ?r2
        case hy2 =>
          rintro wz z0
          go_simp
          try with_reducible rfl
        try simp only [Act.put]
        refine wpLate_take (i := 3) (v := ?v3) rfl (by kernel_rfl) (by kernel_rfl) (by kernel_rfl) (by kernel_rfl) (by kernel_rfl) (fun _ _ _ h => h) e1 (by rfl) ?hy3 ?r3
        case hy3 =>
          rintro wz z0
          go_simp
          try with_reducible rfl
        try simp only [Act.put]
        refine wpLate_one (i := 1) (by kernel_rfl) rfl (fun K hK => ?_)
        go_simp
        refine (spec_bitk i wz hlt).mono ?_
        rintro e w9 ⟨rfl, hb⟩
        have KB9 := Lib.hid (KBz.out.trans (hb.mono KBz.out.size))
        have e9 := (HVz.out.below hb HVz.out.lt).cell 1
        simp only [List.getElem?_toArray, List.getElem?_cons_zero, List.getElem?_cons_succ] at e9
        rw [HPI.out]
        refine hK.out _ _ (fun _ => e9) ?_
        clear hK K hb
        try simp only [Act.put]
        refine wpLate_one (i := 4) (by kernel_rfl) rfl (fun K hK => ?_)
        go_simp
        refine hK.out _ _ (fun h => absurd rfl h) ?_
        clear hK K
        try simp only [Act.put]
        refine wpLate_done (by kernel_rfl) ?_ _
        by_cases hij : i = j
        · have hpe : (pi == f) = true := by rw [← hpi, HF.out, hij]; simp
          have HX2 : Hid (j < i + 1 → fw.data.toList = fwL f) := Lib.hid (fun _ => by rw [HFW.out, HF.out, hij])
          have hgy : w9.cell? ⟨G, i, none⟩ = some (.string fw) := (KB9.out.cell (p := ⟨G, i, none⟩) HGN.out.lt).trans hgx
          clear hpi hij hgx
          go_wp2
          go_roundw
          case rel => exact ⟨i + 1, fw, by omega, by go_num, rfl, hfs, HX2, KB9⟩
          case measure => simp [intOf]; omega
        · have hpe : (pi == f) = false := by rw [← hpi, HF.out]; exact pow_ne hlt hj hij
          have HX2 : Hid (j < i + 1 → X.data.toList = fwL f) := Lib.hid (fun h => HX.out (by omega))
          clear hpi hij hgx
          go_wp2
          go_roundw
          case rel => exact ⟨i + 1, X, by omega, by go_num, rfl, hX, HX2, KB9⟩
          case measure => simp [intOf]; omega
      · have i5 : ¬ (i : Int) < 5 := by omega
        have HTX : Hid (X.data.toList = headW 1 f t S) := Lib.hid ((HX.out (by omega)).trans rfl)
        have HVN2 := Lib.hid (HVN.out.below KB.out HVN.out.lt)
        have HQN2 := Lib.hid (KVs.below KB.out (Nat.le_refl _) _ _ _ HQN.out)
        have HBN2 := Lib.hid (HBN.out.trans (KB.out.mono HBN.out.size))
        have c4 := HVN2.out.cell 4
        simp only [List.getElem?_toArray, List.getElem?_cons_zero, List.getElem?_cons_succ] at c4
        obtain ⟨wv, hwv⟩ : ∃ z, wr = z := ⟨_, rfl⟩
        subst hwv
        go_wp2
        go_loopw [3, 6] (fun ov iv wr2 => ∃ (i : Nat) (X : ByteArray), i ≤ nK ∧ iv = .int .i64 (i : Int) ∧ ov = .string X ∧ X.size ≤ 42000100 ∧ Hid (X.data.toList = headW (1 : Int) f t S ++ fmtL (ks.take i)) ∧ Hid (Below wr.heap.size wr wr2)) (fun _ iv _ => nK - (intOf iv).toNat)
        case atStart => exact ⟨0, X, Nat.zero_le _, by go_num, rfl, (by omega), Lib.hid (by rw [List.take_zero, fmtL, List.append_nil]; exact HTX.out), Below.refl _ _⟩
        case round =>
          obtain ⟨i, X, hi, rfl, rfl, hX, HX, KB⟩ := hrel
          have HVr := Lib.hid (HVN2.out.below KB.out HVN2.out.lt)
          have z4 := HVr.out.cell 4
          simp only [List.getElem?_toArray, List.getElem?_cons_zero, List.getElem?_cons_succ] at z4
          by_cases hlt : i < nK
          · have i0 : (0 : Int) ≤ (i : Int) := by omega
            have i5 : (i : Int) < (nK : Int) := by omega
            obtain ⟨k, hk⟩ : ∃ x, ks[i]? = some x := ⟨_, List.getElem?_eq_getElem (by rw [HLK.out]; exact hlt)⟩
            obtain ⟨b, o, v0, v1, v2, v3, v4, rfl, hbz, d0, d1, d2, d3, d4, hkv⟩ := (KVs.below KB.out (Nat.le_refl _) _ _ _ HQN2.out).get hk
            rw [Nat.zero_add] at d0 d1 d2 d3 d4
            have HAT := Lib.hid (allL_get HAL.out hk)
            have HC := Lib.hid (HIH.out k _ wr (HMK.out k (List.mem_of_getElem? hk)) HAT.out hkv)
            have HTK := Lib.hid (fmtL_take hk)
            have HLE := Lib.hid (fmtL_take_len (ks := ks) (i + 1) HAL.out)
            have HKL : Hid ((fmtT k).length ≤ 42000000) := Lib.hid (by
              have h1 := fmtT_len k HAT.out
              have h2 := nodesL_lt hk
              have h3 := HNL.out
              omega)
            clear hk hkv hbz
            go_wp2_with fail
            refine HC.out.mono ?_
            rintro e w2 ⟨y, hy, rfl, hb⟩
            have KB2 := Lib.hid (KB.out.trans (hb.mono KB.out.size))
            have hys : y.size ≤ 42000000 := by rw [size_txt, hy]; exact HKL.out
            have HN2 : Hid ((X ++ (⟨#[32]⟩ : ByteArray) ++ y).data.toList = headW (1 : Int) f t S ++ fmtL (ks.take (i + 1))) := Lib.hid (by
              rw [cat_txt, cat_txt, HX.out, hy, HTK.out, List.append_assoc, List.append_assoc])
            have HS2 : Hid ((X ++ (⟨#[32]⟩ : ByteArray) ++ y).size ≤ 42000100) := Lib.hid (by
              rw [size_txt, HN2.out, List.length_append]
              have h1 := headW_len HND.out
              have h2 := HLE.out
              have h3 := HNL.out
              omega)
            clear hb hy d0 d1 d2 d3 d4 z4
            go_wp2
            go_roundw
            case rel => exact ⟨i + 1, _, by omega, by go_num, rfl, HS2.out, HN2, KB2⟩
            case measure => simp [intOf]; omega
          · have i5 : ¬ (i : Int) < (nK : Int) := by omega
            have hin : i = nK := by omega
            have HF : Hid (X.data.toList = fmtT (.mk (1 : Int) f t S ks)) := Lib.hid (by
              have h1 := HX.out
              rw [List.take_of_length_le (by rw [HLK.out]; omega)] at h1
              rw [fmtT]
              exact h1)
            have KB2 := Lib.hid (HBN2.out.trans (KB.out.mono HBN2.out.size))
            clear hin
            go_wp2
            go_ret
            exact ⟨X, HF.out, rfl, KB2.out⟩
  ·
    have ht8 : t.size ≤ 8 := by
      have h4 := node2 (n := ks.length) (show nodeB 2 f t S ks.length = true from HND.out)
      unfold nameB at h4
      simp only [Bool.and_eq_true, decide_eq_true_eq] at h4
      rw [size_txt]
      exact h4.2
    go_enter Tryd.func19, Tryd.ntmps19
    go_wp2_with fail
    try rw [HBB.out, HWQ.out]
    have HTX : Hid ((⟨#[116, 101, 120, 116, 32]⟩ ++ t : ByteArray).data.toList = headW 2 f t S) := Lib.hid (by rw [cat_txt]; rfl)
    have HTZ : Hid ((⟨#[116, 101, 120, 116, 32]⟩ ++ t : ByteArray).size ≤ 42000100) := Lib.hid (by rw [size_txt, cat_txt, List.length_append, ← size_txt t]; show 5 + _ ≤ _; omega)
    clear c1 c3
    go_wp2
    go_loopw [3, 6] (fun ov iv wr => ∃ (i : Nat) (X : ByteArray), i ≤ nK ∧ iv = .int .i64 (i : Int) ∧ ov = .string X ∧ X.size ≤ 42000100 ∧ Hid (X.data.toList = headW (2 : Int) f t S ++ fmtL (ks.take i)) ∧ Hid (Below wq.heap.size wq wr)) (fun _ iv _ => nK - (intOf iv).toNat)
    case atStart => exact ⟨0, (⟨#[116, 101, 120, 116, 32]⟩ ++ t), Nat.zero_le _, by go_num, rfl, HTZ.out, Lib.hid (by rw [List.take_zero, fmtL, List.append_nil]; exact HTX.out), Below.refl _ _⟩
    case round =>
      obtain ⟨i, X, hi, rfl, rfl, hX, HX, KB⟩ := hrel
      have HVr := Lib.hid (HW0.out.below KB.out HW0.out.lt)
      have z4 := HVr.out.cell 4
      simp only [List.getElem?_toArray, List.getElem?_cons_zero, List.getElem?_cons_succ] at z4
      by_cases hlt : i < nK
      · have i0 : (0 : Int) ≤ (i : Int) := by omega
        have i5 : (i : Int) < (nK : Int) := by omega
        obtain ⟨k, hk⟩ : ∃ x, ks[i]? = some x := ⟨_, List.getElem?_eq_getElem (by rw [HLK.out]; exact hlt)⟩
        obtain ⟨b, o, v0, v1, v2, v3, v4, rfl, hbz, d0, d1, d2, d3, d4, hkv⟩ := (KVs.below KB.out (Nat.le_refl _) _ _ _ HQ.out).get hk
        rw [Nat.zero_add] at d0 d1 d2 d3 d4
        have HAT := Lib.hid (allL_get HAL.out hk)
        have HC := Lib.hid (HIH.out k _ wr (HMK.out k (List.mem_of_getElem? hk)) HAT.out hkv)
        have HTK := Lib.hid (fmtL_take hk)
        have HLE := Lib.hid (fmtL_take_len (ks := ks) (i + 1) HAL.out)
        have HKL : Hid ((fmtT k).length ≤ 42000000) := Lib.hid (by
          have h1 := fmtT_len k HAT.out
          have h2 := nodesL_lt hk
          have h3 := HNL.out
          omega)
        clear hk hkv hbz
        go_wp2_with fail
        refine HC.out.mono ?_
        rintro e w2 ⟨y, hy, rfl, hb⟩
        have KB2 := Lib.hid (KB.out.trans (hb.mono KB.out.size))
        have hys : y.size ≤ 42000000 := by rw [size_txt, hy]; exact HKL.out
        have HN2 : Hid ((X ++ (⟨#[32]⟩ : ByteArray) ++ y).data.toList = headW (2 : Int) f t S ++ fmtL (ks.take (i + 1))) := Lib.hid (by
          rw [cat_txt, cat_txt, HX.out, hy, HTK.out, List.append_assoc, List.append_assoc])
        have HS2 : Hid ((X ++ (⟨#[32]⟩ : ByteArray) ++ y).size ≤ 42000100) := Lib.hid (by
          rw [size_txt, HN2.out, List.length_append]
          have h1 := headW_len HND.out
          have h2 := HLE.out
          have h3 := HNL.out
          omega)
        clear hb hy d0 d1 d2 d3 d4 z4
        go_wp2
        go_roundw
        case rel => exact ⟨i + 1, _, by omega, by go_num, rfl, HS2.out, HN2, KB2⟩
        case measure => simp [intOf]; omega
      · have i5 : ¬ (i : Int) < (nK : Int) := by omega
        have hin : i = nK := by omega
        have HF : Hid (X.data.toList = fmtT (.mk (2 : Int) f t S ks)) := Lib.hid (by
          have h1 := HX.out
          rw [List.take_of_length_le (by rw [HLK.out]; omega)] at h1
          rw [fmtT]
          exact h1)
        have KB2 := Lib.hid (HBA.out.trans (KB.out.mono HBA.out.size))
        clear hin
        go_wp2
        go_ret
        exact ⟨X, HF.out, rfl, KB2.out⟩
  ·
    go_enter Tryd.func19, Tryd.ntmps19
    go_wp2_with fail
    try rw [HBB.out, HWQ.out]
    have HCS := spec_settext AS cS S wq HA.out HS3.out
    rw [HL.out] at HCS
    go_wp2_with fail
    refine HCS.mono ?_
    rintro e w1 ⟨y, hy, rfl, hb⟩
    have hys : y.size ≤ 36 := by rw [size_txt, hy]; exact textB_le
    have HB1 := Lib.hid (HBA.out.trans (hb.mono HBA.out.size))
    have HV1 := Lib.hid (HW0.out.below hb HW0.out.lt)
    have HQ1 := Lib.hid (KVs.below hb (Nat.le_refl _) _ _ _ HQ.out)
    have HTX : Hid ((⟨#[97, 116, 32]⟩ ++ y : ByteArray).data.toList = headW 3 f t S) := Lib.hid (by rw [cat_txt, hy]; rfl)
    have HTZ : Hid ((⟨#[97, 116, 32]⟩ ++ y : ByteArray).size ≤ 42000100) := Lib.hid (by rw [size_txt, cat_txt, List.length_append, ← size_txt y]; show 3 + _ ≤ _; omega)
    have c4 := HV1.out.cell 4
    simp only [List.getElem?_toArray, List.getElem?_cons_zero, List.getElem?_cons_succ] at c4
    clear hb hy c0 c1 c2 c3 HCS
    go_wp2
    go_loopw [3, 6] (fun ov iv wr => ∃ (i : Nat) (X : ByteArray), i ≤ nK ∧ iv = .int .i64 (i : Int) ∧ ov = .string X ∧ X.size ≤ 42000100 ∧ Hid (X.data.toList = headW (3 : Int) f t S ++ fmtL (ks.take i)) ∧ Hid (Below w1.heap.size w1 wr)) (fun _ iv _ => nK - (intOf iv).toNat)
    case atStart => exact ⟨0, (⟨#[97, 116, 32]⟩ ++ y), Nat.zero_le _, by go_num, rfl, HTZ.out, Lib.hid (by rw [List.take_zero, fmtL, List.append_nil]; exact HTX.out), Below.refl _ _⟩
    case round =>
      obtain ⟨i, X, hi, rfl, rfl, hX, HX, KB⟩ := hrel
      have HVr := Lib.hid (HV1.out.below KB.out HV1.out.lt)
      have z4 := HVr.out.cell 4
      simp only [List.getElem?_toArray, List.getElem?_cons_zero, List.getElem?_cons_succ] at z4
      by_cases hlt : i < nK
      · have i0 : (0 : Int) ≤ (i : Int) := by omega
        have i5 : (i : Int) < (nK : Int) := by omega
        obtain ⟨k, hk⟩ : ∃ x, ks[i]? = some x := ⟨_, List.getElem?_eq_getElem (by rw [HLK.out]; exact hlt)⟩
        obtain ⟨b, o, v0, v1, v2, v3, v4, rfl, hbz, d0, d1, d2, d3, d4, hkv⟩ := (KVs.below KB.out (Nat.le_refl _) _ _ _ HQ1.out).get hk
        rw [Nat.zero_add] at d0 d1 d2 d3 d4
        have HAT := Lib.hid (allL_get HAL.out hk)
        have HC := Lib.hid (HIH.out k _ wr (HMK.out k (List.mem_of_getElem? hk)) HAT.out hkv)
        have HTK := Lib.hid (fmtL_take hk)
        have HLE := Lib.hid (fmtL_take_len (ks := ks) (i + 1) HAL.out)
        have HKL : Hid ((fmtT k).length ≤ 42000000) := Lib.hid (by
          have h1 := fmtT_len k HAT.out
          have h2 := nodesL_lt hk
          have h3 := HNL.out
          omega)
        clear hk hkv hbz
        go_wp2_with fail
        refine HC.out.mono ?_
        rintro e w2 ⟨y, hy, rfl, hb⟩
        have KB2 := Lib.hid (KB.out.trans (hb.mono KB.out.size))
        have hys : y.size ≤ 42000000 := by rw [size_txt, hy]; exact HKL.out
        have HN2 : Hid ((X ++ (⟨#[32]⟩ : ByteArray) ++ y).data.toList = headW (3 : Int) f t S ++ fmtL (ks.take (i + 1))) := Lib.hid (by
          rw [cat_txt, cat_txt, HX.out, hy, HTK.out, List.append_assoc, List.append_assoc])
        have HS2 : Hid ((X ++ (⟨#[32]⟩ : ByteArray) ++ y).size ≤ 42000100) := Lib.hid (by
          rw [size_txt, HN2.out, List.length_append]
          have h1 := headW_len HND.out
          have h2 := HLE.out
          have h3 := HNL.out
          omega)
        clear hb hy d0 d1 d2 d3 d4 z4
        go_wp2
        go_roundw
        case rel => exact ⟨i + 1, _, by omega, by go_num, rfl, HS2.out, HN2, KB2⟩
        case measure => simp [intOf]; omega
      · have i5 : ¬ (i : Int) < (nK : Int) := by omega
        have hin : i = nK := by omega
        have HF : Hid (X.data.toList = fmtT (.mk (3 : Int) f t S ks)) := Lib.hid (by
          have h1 := HX.out
          rw [List.take_of_length_le (by rw [HLK.out]; omega)] at h1
          rw [fmtT]
          exact h1)
        have KB2 := Lib.hid (HB1.out.trans (KB.out.mono HB1.out.size))
        clear hin
        go_wp2
        go_ret
        exact ⟨X, HF.out, rfl, KB2.out⟩
  ·
    go_enter Tryd.func19, Tryd.ntmps19
    go_wp2_with fail
    try rw [HBB.out, HWQ.out]
    have HCS := spec_settext AS cS S wq HA.out HS3.out
    rw [HL.out] at HCS
    go_wp2_with fail
    refine HCS.mono ?_
    rintro e w1 ⟨y, hy, rfl, hb⟩
    have hys : y.size ≤ 36 := by rw [size_txt, hy]; exact textB_le
    have HB1 := Lib.hid (HBA.out.trans (hb.mono HBA.out.size))
    have HV1 := Lib.hid (HW0.out.below hb HW0.out.lt)
    have HQ1 := Lib.hid (KVs.below hb (Nat.le_refl _) _ _ _ HQ.out)
    have HTX : Hid ((⟨#[117, 105, 100, 32]⟩ ++ y : ByteArray).data.toList = headW 4 f t S) := Lib.hid (by rw [cat_txt, hy]; rfl)
    have HTZ : Hid ((⟨#[117, 105, 100, 32]⟩ ++ y : ByteArray).size ≤ 42000100) := Lib.hid (by rw [size_txt, cat_txt, List.length_append, ← size_txt y]; show 4 + _ ≤ _; omega)
    have c4 := HV1.out.cell 4
    simp only [List.getElem?_toArray, List.getElem?_cons_zero, List.getElem?_cons_succ] at c4
    clear hb hy c0 c1 c2 c3 HCS
    go_wp2
    go_loopw [3, 6] (fun ov iv wr => ∃ (i : Nat) (X : ByteArray), i ≤ nK ∧ iv = .int .i64 (i : Int) ∧ ov = .string X ∧ X.size ≤ 42000100 ∧ Hid (X.data.toList = headW (4 : Int) f t S ++ fmtL (ks.take i)) ∧ Hid (Below w1.heap.size w1 wr)) (fun _ iv _ => nK - (intOf iv).toNat)
    case atStart => exact ⟨0, (⟨#[117, 105, 100, 32]⟩ ++ y), Nat.zero_le _, by go_num, rfl, HTZ.out, Lib.hid (by rw [List.take_zero, fmtL, List.append_nil]; exact HTX.out), Below.refl _ _⟩
    case round =>
      obtain ⟨i, X, hi, rfl, rfl, hX, HX, KB⟩ := hrel
      have HVr := Lib.hid (HV1.out.below KB.out HV1.out.lt)
      have z4 := HVr.out.cell 4
      simp only [List.getElem?_toArray, List.getElem?_cons_zero, List.getElem?_cons_succ] at z4
      by_cases hlt : i < nK
      · have i0 : (0 : Int) ≤ (i : Int) := by omega
        have i5 : (i : Int) < (nK : Int) := by omega
        obtain ⟨k, hk⟩ : ∃ x, ks[i]? = some x := ⟨_, List.getElem?_eq_getElem (by rw [HLK.out]; exact hlt)⟩
        obtain ⟨b, o, v0, v1, v2, v3, v4, rfl, hbz, d0, d1, d2, d3, d4, hkv⟩ := (KVs.below KB.out (Nat.le_refl _) _ _ _ HQ1.out).get hk
        rw [Nat.zero_add] at d0 d1 d2 d3 d4
        have HAT := Lib.hid (allL_get HAL.out hk)
        have HC := Lib.hid (HIH.out k _ wr (HMK.out k (List.mem_of_getElem? hk)) HAT.out hkv)
        have HTK := Lib.hid (fmtL_take hk)
        have HLE := Lib.hid (fmtL_take_len (ks := ks) (i + 1) HAL.out)
        have HKL : Hid ((fmtT k).length ≤ 42000000) := Lib.hid (by
          have h1 := fmtT_len k HAT.out
          have h2 := nodesL_lt hk
          have h3 := HNL.out
          omega)
        clear hk hkv hbz
        go_wp2_with fail
        refine HC.out.mono ?_
        rintro e w2 ⟨y, hy, rfl, hb⟩
        have KB2 := Lib.hid (KB.out.trans (hb.mono KB.out.size))
        have hys : y.size ≤ 42000000 := by rw [size_txt, hy]; exact HKL.out
        have HN2 : Hid ((X ++ (⟨#[32]⟩ : ByteArray) ++ y).data.toList = headW (4 : Int) f t S ++ fmtL (ks.take (i + 1))) := Lib.hid (by
          rw [cat_txt, cat_txt, HX.out, hy, HTK.out, List.append_assoc, List.append_assoc])
        have HS2 : Hid ((X ++ (⟨#[32]⟩ : ByteArray) ++ y).size ≤ 42000100) := Lib.hid (by
          rw [size_txt, HN2.out, List.length_append]
          have h1 := headW_len HND.out
          have h2 := HLE.out
          have h3 := HNL.out
          omega)
        clear hb hy d0 d1 d2 d3 d4 z4
        go_wp2
        go_roundw
        case rel => exact ⟨i + 1, _, by omega, by go_num, rfl, HS2.out, HN2, KB2⟩
        case measure => simp [intOf]; omega
      · have i5 : ¬ (i : Int) < (nK : Int) := by omega
        have hin : i = nK := by omega
        have HF : Hid (X.data.toList = fmtT (.mk (4 : Int) f t S ks)) := Lib.hid (by
          have h1 := HX.out
          rw [List.take_of_length_le (by rw [HLK.out]; omega)] at h1
          rw [fmtT]
          exact h1)
        have KB2 := Lib.hid (HB1.out.trans (KB.out.mono HB1.out.size))
        clear hin
        go_wp2
        go_ret
        exact ⟨X, HF.out, rfl, KB2.out⟩
  ·
    go_enter Tryd.func19, Tryd.ntmps19
    go_wp2_with fail
    try rw [HBB.out, HWQ.out]
    clear c1 c2 c3
    go_wp2
    go_loopw [3, 6] (fun ov iv wr => ∃ (i : Nat) (X : ByteArray), i ≤ nK ∧ iv = .int .i64 (i : Int) ∧ ov = .string X ∧ X.size ≤ 42000100 ∧ Hid (X.data.toList = headW (5 : Int) f t S ++ fmtL (ks.take i)) ∧ Hid (Below wq.heap.size wq wr)) (fun _ iv _ => nK - (intOf iv).toNat)
    case atStart => exact ⟨0, (⟨#[110, 111, 116]⟩ : ByteArray), Nat.zero_le _, by go_num, rfl, (by decide), Lib.hid (by rw [List.take_zero, fmtL, List.append_nil]; exact rfl), Below.refl _ _⟩
    case round =>
      obtain ⟨i, X, hi, rfl, rfl, hX, HX, KB⟩ := hrel
      have HVr := Lib.hid (HW0.out.below KB.out HW0.out.lt)
      have z4 := HVr.out.cell 4
      simp only [List.getElem?_toArray, List.getElem?_cons_zero, List.getElem?_cons_succ] at z4
      by_cases hlt : i < nK
      · have i0 : (0 : Int) ≤ (i : Int) := by omega
        have i5 : (i : Int) < (nK : Int) := by omega
        obtain ⟨k, hk⟩ : ∃ x, ks[i]? = some x := ⟨_, List.getElem?_eq_getElem (by rw [HLK.out]; exact hlt)⟩
        obtain ⟨b, o, v0, v1, v2, v3, v4, rfl, hbz, d0, d1, d2, d3, d4, hkv⟩ := (KVs.below KB.out (Nat.le_refl _) _ _ _ HQ.out).get hk
        rw [Nat.zero_add] at d0 d1 d2 d3 d4
        have HAT := Lib.hid (allL_get HAL.out hk)
        have HC := Lib.hid (HIH.out k _ wr (HMK.out k (List.mem_of_getElem? hk)) HAT.out hkv)
        have HTK := Lib.hid (fmtL_take hk)
        have HLE := Lib.hid (fmtL_take_len (ks := ks) (i + 1) HAL.out)
        have HKL : Hid ((fmtT k).length ≤ 42000000) := Lib.hid (by
          have h1 := fmtT_len k HAT.out
          have h2 := nodesL_lt hk
          have h3 := HNL.out
          omega)
        clear hk hkv hbz
        go_wp2_with fail
        refine HC.out.mono ?_
        rintro e w2 ⟨y, hy, rfl, hb⟩
        have KB2 := Lib.hid (KB.out.trans (hb.mono KB.out.size))
        have hys : y.size ≤ 42000000 := by rw [size_txt, hy]; exact HKL.out
        have HN2 : Hid ((X ++ (⟨#[32]⟩ : ByteArray) ++ y).data.toList = headW (5 : Int) f t S ++ fmtL (ks.take (i + 1))) := Lib.hid (by
          rw [cat_txt, cat_txt, HX.out, hy, HTK.out, List.append_assoc, List.append_assoc])
        have HS2 : Hid ((X ++ (⟨#[32]⟩ : ByteArray) ++ y).size ≤ 42000100) := Lib.hid (by
          rw [size_txt, HN2.out, List.length_append]
          have h1 := headW_len HND.out
          have h2 := HLE.out
          have h3 := HNL.out
          omega)
        clear hb hy d0 d1 d2 d3 d4 z4
        go_wp2
        go_roundw
        case rel => exact ⟨i + 1, _, by omega, by go_num, rfl, HS2.out, HN2, KB2⟩
        case measure => simp [intOf]; omega
      · have i5 : ¬ (i : Int) < (nK : Int) := by omega
        have hin : i = nK := by omega
        have HF : Hid (X.data.toList = fmtT (.mk (5 : Int) f t S ks)) := Lib.hid (by
          have h1 := HX.out
          rw [List.take_of_length_le (by rw [HLK.out]; omega)] at h1
          rw [fmtT]
          exact h1)
        have KB2 := Lib.hid (HBA.out.trans (KB.out.mono HBA.out.size))
        clear hin
        go_wp2
        go_ret
        exact ⟨X, HF.out, rfl, KB2.out⟩
  ·
    go_enter Tryd.func19, Tryd.ntmps19
    go_wp2_with fail
    try rw [HBB.out, HWQ.out]
    clear c1 c2 c3
    go_wp2
    go_loopw [3, 6] (fun ov iv wr => ∃ (i : Nat) (X : ByteArray), i ≤ nK ∧ iv = .int .i64 (i : Int) ∧ ov = .string X ∧ X.size ≤ 42000100 ∧ Hid (X.data.toList = headW (6 : Int) f t S ++ fmtL (ks.take i)) ∧ Hid (Below wq.heap.size wq wr)) (fun _ iv _ => nK - (intOf iv).toNat)
    case atStart => exact ⟨0, (⟨#[97, 110, 100]⟩ : ByteArray), Nat.zero_le _, by go_num, rfl, (by decide), Lib.hid (by rw [List.take_zero, fmtL, List.append_nil]; exact rfl), Below.refl _ _⟩
    case round =>
      obtain ⟨i, X, hi, rfl, rfl, hX, HX, KB⟩ := hrel
      have HVr := Lib.hid (HW0.out.below KB.out HW0.out.lt)
      have z4 := HVr.out.cell 4
      simp only [List.getElem?_toArray, List.getElem?_cons_zero, List.getElem?_cons_succ] at z4
      by_cases hlt : i < nK
      · have i0 : (0 : Int) ≤ (i : Int) := by omega
        have i5 : (i : Int) < (nK : Int) := by omega
        obtain ⟨k, hk⟩ : ∃ x, ks[i]? = some x := ⟨_, List.getElem?_eq_getElem (by rw [HLK.out]; exact hlt)⟩
        obtain ⟨b, o, v0, v1, v2, v3, v4, rfl, hbz, d0, d1, d2, d3, d4, hkv⟩ := (KVs.below KB.out (Nat.le_refl _) _ _ _ HQ.out).get hk
        rw [Nat.zero_add] at d0 d1 d2 d3 d4
        have HAT := Lib.hid (allL_get HAL.out hk)
        have HC := Lib.hid (HIH.out k _ wr (HMK.out k (List.mem_of_getElem? hk)) HAT.out hkv)
        have HTK := Lib.hid (fmtL_take hk)
        have HLE := Lib.hid (fmtL_take_len (ks := ks) (i + 1) HAL.out)
        have HKL : Hid ((fmtT k).length ≤ 42000000) := Lib.hid (by
          have h1 := fmtT_len k HAT.out
          have h2 := nodesL_lt hk
          have h3 := HNL.out
          omega)
        clear hk hkv hbz
        go_wp2_with fail
        refine HC.out.mono ?_
        rintro e w2 ⟨y, hy, rfl, hb⟩
        have KB2 := Lib.hid (KB.out.trans (hb.mono KB.out.size))
        have hys : y.size ≤ 42000000 := by rw [size_txt, hy]; exact HKL.out
        have HN2 : Hid ((X ++ (⟨#[32]⟩ : ByteArray) ++ y).data.toList = headW (6 : Int) f t S ++ fmtL (ks.take (i + 1))) := Lib.hid (by
          rw [cat_txt, cat_txt, HX.out, hy, HTK.out, List.append_assoc, List.append_assoc])
        have HS2 : Hid ((X ++ (⟨#[32]⟩ : ByteArray) ++ y).size ≤ 42000100) := Lib.hid (by
          rw [size_txt, HN2.out, List.length_append]
          have h1 := headW_len HND.out
          have h2 := HLE.out
          have h3 := HNL.out
          omega)
        clear hb hy d0 d1 d2 d3 d4 z4
        go_wp2
        go_roundw
        case rel => exact ⟨i + 1, _, by omega, by go_num, rfl, HS2.out, HN2, KB2⟩
        case measure => simp [intOf]; omega
      · have i5 : ¬ (i : Int) < (nK : Int) := by omega
        have hin : i = nK := by omega
        have HF : Hid (X.data.toList = fmtT (.mk (6 : Int) f t S ks)) := Lib.hid (by
          have h1 := HX.out
          rw [List.take_of_length_le (by rw [HLK.out]; omega)] at h1
          rw [fmtT]
          exact h1)
        have KB2 := Lib.hid (HBA.out.trans (KB.out.mono HBA.out.size))
        clear hin
        go_wp2
        go_ret
        exact ⟨X, HF.out, rfl, KB2.out⟩
  ·
    go_enter Tryd.func19, Tryd.ntmps19
    go_wp2_with fail
    try rw [HBB.out, HWQ.out]
    clear c1 c2 c3
    go_wp2
    go_loopw [3, 6] (fun ov iv wr => ∃ (i : Nat) (X : ByteArray), i ≤ nK ∧ iv = .int .i64 (i : Int) ∧ ov = .string X ∧ X.size ≤ 42000100 ∧ Hid (X.data.toList = headW (7 : Int) f t S ++ fmtL (ks.take i)) ∧ Hid (Below wq.heap.size wq wr)) (fun _ iv _ => nK - (intOf iv).toNat)
    case atStart => exact ⟨0, (⟨#[111, 114]⟩ : ByteArray), Nat.zero_le _, by go_num, rfl, (by decide), Lib.hid (by rw [List.take_zero, fmtL, List.append_nil]; exact rfl), Below.refl _ _⟩
    case round =>
      obtain ⟨i, X, hi, rfl, rfl, hX, HX, KB⟩ := hrel
      have HVr := Lib.hid (HW0.out.below KB.out HW0.out.lt)
      have z4 := HVr.out.cell 4
      simp only [List.getElem?_toArray, List.getElem?_cons_zero, List.getElem?_cons_succ] at z4
      by_cases hlt : i < nK
      · have i0 : (0 : Int) ≤ (i : Int) := by omega
        have i5 : (i : Int) < (nK : Int) := by omega
        obtain ⟨k, hk⟩ : ∃ x, ks[i]? = some x := ⟨_, List.getElem?_eq_getElem (by rw [HLK.out]; exact hlt)⟩
        obtain ⟨b, o, v0, v1, v2, v3, v4, rfl, hbz, d0, d1, d2, d3, d4, hkv⟩ := (KVs.below KB.out (Nat.le_refl _) _ _ _ HQ.out).get hk
        rw [Nat.zero_add] at d0 d1 d2 d3 d4
        have HAT := Lib.hid (allL_get HAL.out hk)
        have HC := Lib.hid (HIH.out k _ wr (HMK.out k (List.mem_of_getElem? hk)) HAT.out hkv)
        have HTK := Lib.hid (fmtL_take hk)
        have HLE := Lib.hid (fmtL_take_len (ks := ks) (i + 1) HAL.out)
        have HKL : Hid ((fmtT k).length ≤ 42000000) := Lib.hid (by
          have h1 := fmtT_len k HAT.out
          have h2 := nodesL_lt hk
          have h3 := HNL.out
          omega)
        clear hk hkv hbz
        go_wp2_with fail
        refine HC.out.mono ?_
        rintro e w2 ⟨y, hy, rfl, hb⟩
        have KB2 := Lib.hid (KB.out.trans (hb.mono KB.out.size))
        have hys : y.size ≤ 42000000 := by rw [size_txt, hy]; exact HKL.out
        have HN2 : Hid ((X ++ (⟨#[32]⟩ : ByteArray) ++ y).data.toList = headW (7 : Int) f t S ++ fmtL (ks.take (i + 1))) := Lib.hid (by
          rw [cat_txt, cat_txt, HX.out, hy, HTK.out, List.append_assoc, List.append_assoc])
        have HS2 : Hid ((X ++ (⟨#[32]⟩ : ByteArray) ++ y).size ≤ 42000100) := Lib.hid (by
          rw [size_txt, HN2.out, List.length_append]
          have h1 := headW_len HND.out
          have h2 := HLE.out
          have h3 := HNL.out
          omega)
        clear hb hy d0 d1 d2 d3 d4 z4
        go_wp2
        go_roundw
        case rel => exact ⟨i + 1, _, by omega, by go_num, rfl, HS2.out, HN2, KB2⟩
        case measure => simp [intOf]; omega
      · have i5 : ¬ (i : Int) < (nK : Int) := by omega
        have hin : i = nK := by omega
        have HF : Hid (X.data.toList = fmtT (.mk (7 : Int) f t S ks)) := Lib.hid (by
          have h1 := HX.out
          rw [List.take_of_length_le (by rw [HLK.out]; omega)] at h1
          rw [fmtT]
          exact h1)
        have KB2 := Lib.hid (HBA.out.trans (KB.out.mono HBA.out.size))
        clear hin
        go_wp2
        go_ret
        exact ⟨X, HF.out, rfl, KB2.out⟩
theorem spec_fmt : ∀ (n : Nat) (k : KT) (v : Value) (w : World), nodesT k ≤ n → n ≤ 1000000 → allT k = true → KV w k v → Calls Tryd.prog 19 #[v] w (Fm w k)
  | 0, k, v, w, hn, _, _, _ => by have := nodesT_pos k; omega
  | n + 1, .mk kd f t S ks, v, w, hn, hm, ha, h => by
    have hn2 := hn
    rw [nodesT] at hn
    exact spec_fmt_step (n := n) (fun k' v' w1 h1 h2 h3 => spec_fmt n k' v' w1 h1 (by omega) h2 h3) (fun k hk => by
      obtain ⟨i, hi⟩ := List.mem_iff_getElem?.1 hk
      have := nodesL_lt hi
      omega) (by omega) ha w h
end Go.Proofs.YtodafbfhcgphpaaDoor
namespace Go.Proofs.YtodafbfhcgphpaaDoor
open Go.RowKit
set_option linter.unusedVariables false

/-- A query tells the text of its key. -/
def TXT (w : World) (k : KT) (q : Value) : Prop := ∃ T a fn, q = .iface T (.agg a) ∧ (∀ w1 : World, (method 282 T (.agg a) "loop.example/mailhost/impl.text").run Tryd.prog w1 = .ok (fn, .agg a) w1) ∧ (∀ w1 : World, (callFunc fn #[.agg a]).run Tryd.prog w1 = .ok (.enter fn #[.agg a]) w1) ∧ Calls Tryd.prog fn #[.agg a] w (Fm w k)
theorem fm_of {w w' : World} {k : KT} {v : ByteArray} (h1 : v.data.toList = fmtT k) (hb : Below w.heap.size w w') : Fm w k (.returned (.string v)) w' := ⟨v, h1, rfl, hb⟩
theorem ct_all  (w : World) : (callFunc 127 #[.agg #[]]).run Tryd.prog w = .ok (.enter 127 #[.agg #[]]) w := by kernel_rfl
theorem mt_all  (w : World) : (method 282 102 (.agg #[]) "loop.example/mailhost/impl.text").run Tryd.prog w = .ok (127, .agg #[]) w := by kernel_rfl
theorem ct_flag (f : Int) (w : World) : (callFunc 102 #[.agg #[.int .i64 f]]).run Tryd.prog w = .ok (.enter 102 #[.agg #[.int .i64 f]]) w := by kernel_rfl
theorem mt_flag (f : Int) (w : World) : (method 282 87 (.agg #[.int .i64 f]) "loop.example/mailhost/impl.text").run Tryd.prog w = .ok (102, .agg #[.int .i64 f]) w := by kernel_rfl
theorem ct_text (t : ByteArray) (w : World) : (callFunc 103 #[.agg #[.string t]]).run Tryd.prog w = .ok (.enter 103 #[.agg #[.string t]]) w := by kernel_rfl
theorem mt_text (t : ByteArray) (w : World) : (method 282 90 (.agg #[.string t]) "loop.example/mailhost/impl.text").run Tryd.prog w = .ok (103, .agg #[.string t]) w := by kernel_rfl
theorem ct_place (A : Option Addr) (n c : Nat) (w : World) : (callFunc 104 #[.agg #[.slice A n c]]).run Tryd.prog w = .ok (.enter 104 #[.agg #[.slice A n c]]) w := by kernel_rfl
theorem mt_place (A : Option Addr) (n c : Nat) (w : World) : (method 282 93 (.agg #[.slice A n c]) "loop.example/mailhost/impl.text").run Tryd.prog w = .ok (104, .agg #[.slice A n c]) w := by kernel_rfl
theorem ct_uid (A : Option Addr) (n c : Nat) (w : World) : (callFunc 123 #[.agg #[.slice A n c]]).run Tryd.prog w = .ok (.enter 123 #[.agg #[.slice A n c]]) w := by kernel_rfl
theorem mt_uid (A : Option Addr) (n c : Nat) (w : World) : (method 282 95 (.agg #[.slice A n c]) "loop.example/mailhost/impl.text").run Tryd.prog w = .ok (123, .agg #[.slice A n c]) w := by kernel_rfl
theorem ct_not (q : Value) (w : World) : (callFunc 124 #[.agg #[q]]).run Tryd.prog w = .ok (.enter 124 #[.agg #[q]]) w := by kernel_rfl
theorem mt_not (q : Value) (w : World) : (method 282 97 (.agg #[q]) "loop.example/mailhost/impl.text").run Tryd.prog w = .ok (124, .agg #[q]) w := by kernel_rfl
theorem ct_and (q r : Value) (w : World) : (callFunc 125 #[.agg #[q, r]]).run Tryd.prog w = .ok (.enter 125 #[.agg #[q, r]]) w := by kernel_rfl
theorem mt_and (q r : Value) (w : World) : (method 282 99 (.agg #[q, r]) "loop.example/mailhost/impl.text").run Tryd.prog w = .ok (125, .agg #[q, r]) w := by kernel_rfl
theorem ct_or (q r : Value) (w : World) : (callFunc 126 #[.agg #[q, r]]).run Tryd.prog w = .ok (.enter 126 #[.agg #[q, r]]) w := by kernel_rfl
theorem mt_or (q r : Value) (w : World) : (method 282 100 (.agg #[q, r]) "loop.example/mailhost/impl.text").run Tryd.prog w = .ok (126, .agg #[q, r]) w := by kernel_rfl
set_option maxRecDepth 20000 in
set_option maxHeartbeats 4000000 in
theorem text_all (f : Int) (t : ByteArray) (S : List (Int × Int)) (w : World) : Calls Tryd.prog 127 #[.agg #[]] w (Fm w (.mk 0 f t S [])) := by
  go_enter Tryd.func127, Tryd.ntmps127
  go_wp2
  go_ret
  exact fm_of (by rw [fmtT, fmtL, List.append_nil]; rfl) (below_new _ _)
set_option maxRecDepth 20000 in
set_option maxHeartbeats 4000000 in
theorem text_flag {f : Int} (t : ByteArray) (S : List (Int × Int)) (w : World) (hL : Lst w) : Calls Tryd.prog 102 #[.agg #[.int .i64 f]] w (Fm w (.mk 1 f t S [])) := by
  obtain ⟨B, hB⟩ : ∃ B, w.heap.size = B := ⟨_, rfl⟩
  have HBB := Lib.hid hB
  obtain ⟨wa, hwa⟩ : ∃ wa, w.alloc (.cells #[.int .i64 f] 87) = wa := ⟨_, rfl⟩
  have HWA := Lib.hid hwa
  have HBA : Hid (Below w.heap.size w wa) := Lib.hid (by rw [← hwa]; exact below_new _ _)
  have HKA : Hid (Whole wa B 87 #[.int .i64 f]) := Lib.hid (by rw [← hwa, ← hB]; exact Whole.made w _ _)
  have HC := impl_flagword f wa (hL.below HBA.out (Nat.le_refl _))
  have z0 := HKA.out.cell 0
  simp only [List.getElem?_toArray, List.getElem?_cons_zero] at z0
  clear hB hwa hL
  go_enter Tryd.func102, Tryd.ntmps102
  go_wp2_with fail
  try rw [HBB.out, HWA.out]
  refine HC.mono ?_
  rintro e w2 ⟨rfl, hb⟩
  have HB2 := Lib.hid (HBA.out.trans (hb.mono HBA.out.size))
  clear hb HC
  go_wp2
  go_ret
  exact fm_of (by rw [fmtT, fmtL, List.append_nil]; rfl) HB2.out
set_option maxRecDepth 20000 in
set_option maxHeartbeats 4000000 in
theorem text_text (f : Int) {t : ByteArray} (S : List (Int × Int)) (w : World) (ht : t.size ≤ 8) : Calls Tryd.prog 103 #[.agg #[.string t]] w (Fm w (.mk 2 f t S [])) := by
  obtain ⟨B, hB⟩ : ∃ B, w.heap.size = B := ⟨_, rfl⟩
  have HBB := Lib.hid hB
  obtain ⟨wa, hwa⟩ : ∃ wa, w.alloc (.cells #[.string t] 90) = wa := ⟨_, rfl⟩
  have HWA := Lib.hid hwa
  have HBA : Hid (Below w.heap.size w wa) := Lib.hid (by rw [← hwa]; exact below_new _ _)
  have HKA : Hid (Whole wa B 90 #[.string t]) := Lib.hid (by rw [← hwa, ← hB]; exact Whole.made w _ _)
  have z0 := HKA.out.cell 0
  simp only [List.getElem?_toArray, List.getElem?_cons_zero] at z0
  clear hB hwa
  go_enter Tryd.func103, Tryd.ntmps103
  go_wp2_with fail
  try rw [HBB.out, HWA.out]
  go_wp2
  go_ret
  exact fm_of (by rw [cat_txt, fmtT, fmtL, List.append_nil]; rfl) HBA.out
set_option maxRecDepth 20000 in
set_option maxHeartbeats 4000000 in
theorem text_place (f : Int) (t : ByteArray) (AS : Option Addr) (cS : Nat) {S : List (Int × Int)} (w : World) (h : SpA w AS S) (hl : S.length ≤ 33554432) : Calls Tryd.prog 104 #[.agg #[.slice AS S.length cS]] w (Fm w (.mk 3 f t S [])) := by
  obtain ⟨nS, hn⟩ : ∃ n, S.length = n := ⟨_, rfl⟩
  obtain ⟨B, hB⟩ : ∃ B, w.heap.size = B := ⟨_, rfl⟩
  have HBB := Lib.hid hB
  obtain ⟨wa, hwa⟩ : ∃ wa, w.alloc (.cells #[.slice AS nS cS] 93) = wa := ⟨_, rfl⟩
  have HWA := Lib.hid hwa
  have HBA : Hid (Below w.heap.size w wa) := Lib.hid (by rw [← hwa]; exact below_new _ _)
  have HKA : Hid (Whole wa B 93 #[.slice AS nS cS]) := Lib.hid (by rw [← hwa, ← hB]; exact Whole.made w _ _)
  have HC := impl_settext AS cS S wa (h.below HBA.out (Nat.le_refl _)) hl
  have z0 := HKA.out.cell 0
  simp only [List.getElem?_toArray, List.getElem?_cons_zero] at z0
  rw [hn] at HC ⊢
  clear hB hwa h hl hn
  go_enter Tryd.func104, Tryd.ntmps104
  go_wp2_with fail
  try rw [HBB.out, HWA.out]
  refine HC.mono ?_
  rintro e w2 ⟨y, hy, rfl, hb⟩
  have HB2 := Lib.hid (HBA.out.trans (hb.mono HBA.out.size))
  have HY := Lib.hid hy
  have hys : y.size ≤ 36 := by rw [size_txt, hy]; exact textB_le
  clear hb HC hy
  go_wp2
  go_ret
  exact fm_of (by rw [cat_txt, HY.out, fmtT, fmtL, List.append_nil]; rfl) HB2.out
set_option maxRecDepth 20000 in
set_option maxHeartbeats 4000000 in
theorem text_uid (f : Int) (t : ByteArray) (AS : Option Addr) (cS : Nat) {S : List (Int × Int)} (w : World) (h : SpA w AS S) (hl : S.length ≤ 33554432) : Calls Tryd.prog 123 #[.agg #[.slice AS S.length cS]] w (Fm w (.mk 4 f t S [])) := by
  obtain ⟨nS, hn⟩ : ∃ n, S.length = n := ⟨_, rfl⟩
  obtain ⟨B, hB⟩ : ∃ B, w.heap.size = B := ⟨_, rfl⟩
  have HBB := Lib.hid hB
  obtain ⟨wa, hwa⟩ : ∃ wa, w.alloc (.cells #[.slice AS nS cS] 95) = wa := ⟨_, rfl⟩
  have HWA := Lib.hid hwa
  have HBA : Hid (Below w.heap.size w wa) := Lib.hid (by rw [← hwa]; exact below_new _ _)
  have HKA : Hid (Whole wa B 95 #[.slice AS nS cS]) := Lib.hid (by rw [← hwa, ← hB]; exact Whole.made w _ _)
  have HC := impl_settext AS cS S wa (h.below HBA.out (Nat.le_refl _)) hl
  have z0 := HKA.out.cell 0
  simp only [List.getElem?_toArray, List.getElem?_cons_zero] at z0
  rw [hn] at HC ⊢
  clear hB hwa h hl hn
  go_enter Tryd.func123, Tryd.ntmps123
  go_wp2_with fail
  try rw [HBB.out, HWA.out]
  refine HC.mono ?_
  rintro e w2 ⟨y, hy, rfl, hb⟩
  have HB2 := Lib.hid (HBA.out.trans (hb.mono HBA.out.size))
  have HY := Lib.hid hy
  have hys : y.size ≤ 36 := by rw [size_txt, hy]; exact textB_le
  clear hb HC hy
  go_wp2
  go_ret
  exact fm_of (by rw [cat_txt, HY.out, fmtT, fmtL, List.append_nil]; rfl) HB2.out
set_option maxRecDepth 20000 in
set_option maxHeartbeats 4000000 in
theorem text_not (f : Int) (t : ByteArray) (S : List (Int × Int)) {k : KT} {q : Value} (w : World) (h : ∀ w1, Below w.heap.size w w1 → TXT w1 k q) (hk : (fmtT k).length ≤ 1000000) : Calls Tryd.prog 124 #[.agg #[q]] w (Fm w (.mk 5 f t S [k])) := by
  obtain ⟨B, hB⟩ : ∃ B, w.heap.size = B := ⟨_, rfl⟩
  have HBB := Lib.hid hB
  obtain ⟨wa, hwa⟩ : ∃ wa, w.alloc (.cells #[q] 97) = wa := ⟨_, rfl⟩
  have HWA := Lib.hid hwa
  have HBA : Hid (Below w.heap.size w wa) := Lib.hid (by rw [← hwa]; exact below_new _ _)
  have HKA : Hid (Whole wa B 97 #[q]) := Lib.hid (by rw [← hwa, ← hB]; exact Whole.made w _ _)
  obtain ⟨T, a, fn, rfl, m, cm, HC⟩ := h wa HBA.out
  have z0 := HKA.out.cell 0
  simp only [List.getElem?_toArray, List.getElem?_cons_zero] at z0
  have m0 := m wa
  have m1 := cm wa
  clear hB hwa h m cm
  go_enter Tryd.func124, Tryd.ntmps124
  go_wp2_with fail
  try rw [HBB.out, HWA.out]
  rw [m0]
  go_simp
  refine HC.mono ?_
  rintro e w2 ⟨y, hy, rfl, hb⟩
  have HB2 := Lib.hid (HBA.out.trans (hb.mono HBA.out.size))
  have HY := Lib.hid hy
  have hys : y.size ≤ 1000000 := by rw [size_txt, hy]; exact hk
  clear hb HC hy
  go_wp2
  go_ret
  exact fm_of (by rw [cat_txt, HY.out, fmtT, fmtL, fmtL, List.append_nil]; rfl) HB2.out
set_option maxRecDepth 20000 in
set_option maxHeartbeats 4000000 in
theorem text_and (f : Int) (t : ByteArray) (S : List (Int × Int)) {k l : KT} {q r : Value} (w : World) (h : ∀ w1, Below w.heap.size w w1 → TXT w1 k q) (h2 : ∀ w1, Below w.heap.size w w1 → TXT w1 l r) (hk : (fmtT k).length ≤ 1000000) (hk2 : (fmtT l).length ≤ 1000000) : Calls Tryd.prog 125 #[.agg #[q, r]] w (Fm w (.mk 6 f t S [k, l])) := by
  obtain ⟨U, b, -, rfl, -, -, -⟩ := h2 w (Below.refl _ _)
  obtain ⟨B, hB⟩ : ∃ B, w.heap.size = B := ⟨_, rfl⟩
  have HBB := Lib.hid hB
  obtain ⟨wa, hwa⟩ : ∃ wa, w.alloc (.cells #[q, .iface U (.agg b)] 99) = wa := ⟨_, rfl⟩
  have HWA := Lib.hid hwa
  have HBA : Hid (Below w.heap.size w wa) := Lib.hid (by rw [← hwa]; exact below_new _ _)
  have HKA : Hid (Whole wa B 99 #[q, .iface U (.agg b)]) := Lib.hid (by rw [← hwa, ← hB]; exact Whole.made w _ _)
  obtain ⟨wd, hwd⟩ : ∃ wd, wa.drew = wd := ⟨_, rfl⟩
  have HWD := Lib.hid hwd
  have HBD : Hid (Below w.heap.size w wd) := Lib.hid (by rw [← hwd]; exact HBA.out.trans ((below_drew1 wa).mono HBA.out.size))
  obtain ⟨T, a, fn, rfl, m, cm, HC⟩ := h wd HBD.out
  have HKD : Hid (Whole wd B 99 #[.iface T (.agg a), .iface U (.agg b)]) := Lib.hid (by rw [← hwd]; exact HKA.out.below (below_drew1 wa) HKA.out.lt)
  have CS : Hid (∀ wx, Below wd.heap.size wd wx → wx.cell? ⟨B, 0, none⟩ = some (.iface T (.agg a)) ∧ wx.cell? ⟨B, 1, none⟩ = some (.iface U (.agg b))) := Lib.hid (fun wx hbx => by
    have g := HKD.out.below hbx HKD.out.lt
    have g0 := g.cell 0
    have g1 := g.cell 1
    simp only [List.getElem?_toArray, List.getElem?_cons_zero, List.getElem?_cons_succ] at g0 g1
    exact ⟨g0, g1⟩)
  have hcd := CS.out wd (Below.refl _ _)
  have HH := Lib.hid h2
  have z0 := HKA.out.cell 0
  have z1 := HKA.out.cell 1
  simp only [List.getElem?_toArray, List.getElem?_cons_zero, List.getElem?_cons_succ] at z0 z1
  have m0 := m wd
  have m0c := cm wd
  clear hB hwa h h2 m cm hwd
  go_enter Tryd.func125, Tryd.ntmps125
  go_upto_region 1 with fail
  try rw [HBB.out, HWA.out]
  refine wp_region_late (fun w' => w'.cell? ⟨B, 0, none⟩ = some (.iface T (.agg a)) ∧ w'.cell? ⟨B, 1, none⟩ = some (.iface U (.agg b))) 9 (by kernel_rfl) ?_
  try rw [HWD.out]
  refine wpLate_take (i := 0) (v := ?v0) rfl (by kernel_rfl) (by kernel_rfl) (by kernel_rfl) (by kernel_rfl) (by kernel_rfl) (fun _ _ _ h => h) hcd (by rfl) ?hy0 ?r0
  case hy0 =>
    rintro wz ⟨z0, z1⟩
    go_simp
    try rw [if_neg (by omega)]
    try with_reducible rfl
  try simp only [Act.put]
  refine wpLate_take (i := 1) (v := ?v1) rfl (by kernel_rfl) (by kernel_rfl) (by kernel_rfl) (by kernel_rfl) (by kernel_rfl) (fun _ _ _ h => h) hcd (by rfl) ?hy1 ?r1
  case hy1 =>
    rintro wz ⟨z0, z1⟩
    go_simp
    try rw [if_neg (by omega)]
    try with_reducible rfl
  try simp only [Act.put]
  refine wpLate_take (i := 5) (v := ?v5) rfl (by kernel_rfl) (by kernel_rfl) (by kernel_rfl) (by kernel_rfl) (by kernel_rfl) (fun _ _ _ h => h) hcd (by rfl) ?hy5 ?r5
  case hy5 =>
    rintro wz ⟨z0, z1⟩
    go_simp
    try rw [if_neg (by omega)]
    try with_reducible rfl
  try simp only [Act.put]
  refine wpLate_take (i := 6) (v := ?v6) rfl (by kernel_rfl) (by kernel_rfl) (by kernel_rfl) (by kernel_rfl) (by kernel_rfl) (fun _ _ _ h => h) hcd (by rfl) ?hy6 ?r6
  case hy6 =>
    rintro wz ⟨z0, z1⟩
    go_simp
    try rw [if_neg (by omega)]
    try with_reducible rfl
  try simp only [Act.put]
  refine wpLate_one (i := 2) (by kernel_rfl) rfl (fun K hK => ?_)
  go_simp
  refine HC.mono ?_
  rintro e w2 ⟨y, hy, rfl, hb⟩
  have HB2 := Lib.hid (HBD.out.trans (hb.mono HBD.out.size))
  have HY := Lib.hid hy
  have hys : y.size ≤ 1000000 := by rw [size_txt, hy]; exact hk
  have hyt : ((⟨#[97, 110, 100, 32]⟩ : ByteArray) ++ y).size ≤ 1000004 := by rw [size_txt, cat_txt, List.length_append, ← size_txt y]; show 4 + _ ≤ _; omega
  obtain ⟨ya, hya⟩ : ∃ z, (⟨#[97, 110, 100, 32]⟩ : ByteArray) ++ y = z := ⟨_, rfl⟩
  rw [hya] at hyt
  have HYA := Lib.hid hya
  have hyu : (ya ++ (⟨#[32]⟩ : ByteArray)).size ≤ 1000005 := by rw [size_txt, cat_txt, List.length_append, ← size_txt ya]; show _ + 1 ≤ _; omega
  obtain ⟨yb, hyb⟩ : ∃ z, ya ++ (⟨#[32]⟩ : ByteArray) = z := ⟨_, rfl⟩
  rw [hyb] at hyu
  have HYB := Lib.hid hyb
  obtain ⟨U', b', gn, hU, m', cm', HC2⟩ := HH.out w2 HB2.out
  cases hU
  have m1 := m' w2
  have m1c := cm' w2
  have HD2 : Hid (Below wd.heap.size wd w2) := Lib.hid (hb.mono (Nat.le_refl _))
  have hcd2 := CS.out w2 HD2.out
  clear hy HC hya hyb m' cm'
  refine hK.out _ _ (fun _ => hcd2) ?_
  clear hK K hb
  try simp only [Act.put]
  refine wpLate_take (i := 3) (v := ?v3b) rfl (by kernel_rfl) (by kernel_rfl) (by kernel_rfl) (by kernel_rfl) (by kernel_rfl) (fun _ _ _ h => h) hcd2 (by rfl) ?hy3b ?r3b
  case hy3b =>
    rintro wz ⟨z0, z1⟩
    go_simp
    try rw [if_neg (by omega)]
    try with_reducible rfl
  try simp only [Act.put]
  try rw [HYA.out]
  refine wpLate_take (i := 4) (v := ?v4b) rfl (by kernel_rfl) (by kernel_rfl) (by kernel_rfl) (by kernel_rfl) (by kernel_rfl) (fun _ _ _ h => h) hcd2 (by rfl) ?hy4b ?r4b
  case hy4b =>
    rintro wz ⟨z0, z1⟩
    go_simp
    try rw [if_neg (by omega)]
    try with_reducible rfl
  try simp only [Act.put]
  try rw [HYB.out]
  refine wpLate_one (i := 7) (by kernel_rfl) rfl (fun K hK => ?_)
  go_simp
  refine HC2.mono ?_
  rintro e w3 ⟨u, hu, rfl, hb⟩
  have HB3 := Lib.hid (HB2.out.trans (hb.mono HB2.out.size))
  have HU := Lib.hid hu
  have hus : u.size ≤ 1000000 := by rw [size_txt, hu]; exact hk2
  have hcd3 := CS.out w3 (HD2.out.trans (hb.mono HD2.out.size))
  clear hu HC2
  refine hK.out _ _ (fun _ => hcd3) ?_
  clear hK K hb
  try simp only [Act.put]
  refine wpLate_take (i := 8) (v := ?v8c) rfl (by kernel_rfl) (by kernel_rfl) (by kernel_rfl) (by kernel_rfl) (by kernel_rfl) (fun _ _ _ h => h) hcd3 (by rfl) ?hy8c ?r8c
  case hy8c =>
    rintro wz ⟨z0, z1⟩
    go_simp
    try rw [if_neg (by omega)]
    try with_reducible rfl
  try simp only [Act.put]
  refine wpLate_one (i := 9) (by kernel_rfl) rfl (fun K hK => ?_)
  go_simp
  refine hK.out _ _ (fun h => absurd rfl h) ?_
  clear hK K
  try simp only [Act.put]
  refine wpLate_done (by kernel_rfl) ?_ _
  go_wp2
  go_ret
  exact fm_of (by rw [cat_txt, ← HYB.out, cat_txt, ← HYA.out, cat_txt, HY.out, HU.out, fmtT, fmtL, fmtL, fmtL, List.append_nil]; simp [headW]) HB3.out
set_option maxRecDepth 20000 in
set_option maxHeartbeats 4000000 in
theorem text_or (f : Int) (t : ByteArray) (S : List (Int × Int)) {k l : KT} {q r : Value} (w : World) (h : ∀ w1, Below w.heap.size w w1 → TXT w1 k q) (h2 : ∀ w1, Below w.heap.size w w1 → TXT w1 l r) (hk : (fmtT k).length ≤ 1000000) (hk2 : (fmtT l).length ≤ 1000000) : Calls Tryd.prog 126 #[.agg #[q, r]] w (Fm w (.mk 7 f t S [k, l])) := by
  obtain ⟨U, b, -, rfl, -, -, -⟩ := h2 w (Below.refl _ _)
  obtain ⟨B, hB⟩ : ∃ B, w.heap.size = B := ⟨_, rfl⟩
  have HBB := Lib.hid hB
  obtain ⟨wa, hwa⟩ : ∃ wa, w.alloc (.cells #[q, .iface U (.agg b)] 100) = wa := ⟨_, rfl⟩
  have HWA := Lib.hid hwa
  have HBA : Hid (Below w.heap.size w wa) := Lib.hid (by rw [← hwa]; exact below_new _ _)
  have HKA : Hid (Whole wa B 100 #[q, .iface U (.agg b)]) := Lib.hid (by rw [← hwa, ← hB]; exact Whole.made w _ _)
  obtain ⟨wd, hwd⟩ : ∃ wd, wa.drew = wd := ⟨_, rfl⟩
  have HWD := Lib.hid hwd
  have HBD : Hid (Below w.heap.size w wd) := Lib.hid (by rw [← hwd]; exact HBA.out.trans ((below_drew1 wa).mono HBA.out.size))
  obtain ⟨T, a, fn, rfl, m, cm, HC⟩ := h wd HBD.out
  have HKD : Hid (Whole wd B 100 #[.iface T (.agg a), .iface U (.agg b)]) := Lib.hid (by rw [← hwd]; exact HKA.out.below (below_drew1 wa) HKA.out.lt)
  have CS : Hid (∀ wx, Below wd.heap.size wd wx → wx.cell? ⟨B, 0, none⟩ = some (.iface T (.agg a)) ∧ wx.cell? ⟨B, 1, none⟩ = some (.iface U (.agg b))) := Lib.hid (fun wx hbx => by
    have g := HKD.out.below hbx HKD.out.lt
    have g0 := g.cell 0
    have g1 := g.cell 1
    simp only [List.getElem?_toArray, List.getElem?_cons_zero, List.getElem?_cons_succ] at g0 g1
    exact ⟨g0, g1⟩)
  have hcd := CS.out wd (Below.refl _ _)
  have HH := Lib.hid h2
  have z0 := HKA.out.cell 0
  have z1 := HKA.out.cell 1
  simp only [List.getElem?_toArray, List.getElem?_cons_zero, List.getElem?_cons_succ] at z0 z1
  have m0 := m wd
  have m0c := cm wd
  clear hB hwa h h2 m cm hwd
  go_enter Tryd.func126, Tryd.ntmps126
  go_upto_region 1 with fail
  try rw [HBB.out, HWA.out]
  refine wp_region_late (fun w' => w'.cell? ⟨B, 0, none⟩ = some (.iface T (.agg a)) ∧ w'.cell? ⟨B, 1, none⟩ = some (.iface U (.agg b))) 9 (by kernel_rfl) ?_
  try rw [HWD.out]
  refine wpLate_take (i := 0) (v := ?v0) rfl (by kernel_rfl) (by kernel_rfl) (by kernel_rfl) (by kernel_rfl) (by kernel_rfl) (fun _ _ _ h => h) hcd (by rfl) ?hy0 ?r0
  case hy0 =>
    rintro wz ⟨z0, z1⟩
    go_simp
    try rw [if_neg (by omega)]
    try with_reducible rfl
  try simp only [Act.put]
  refine wpLate_take (i := 1) (v := ?v1) rfl (by kernel_rfl) (by kernel_rfl) (by kernel_rfl) (by kernel_rfl) (by kernel_rfl) (fun _ _ _ h => h) hcd (by rfl) ?hy1 ?r1
  case hy1 =>
    rintro wz ⟨z0, z1⟩
    go_simp
    try rw [if_neg (by omega)]
    try with_reducible rfl
  try simp only [Act.put]
  refine wpLate_take (i := 5) (v := ?v5) rfl (by kernel_rfl) (by kernel_rfl) (by kernel_rfl) (by kernel_rfl) (by kernel_rfl) (fun _ _ _ h => h) hcd (by rfl) ?hy5 ?r5
  case hy5 =>
    rintro wz ⟨z0, z1⟩
    go_simp
    try rw [if_neg (by omega)]
    try with_reducible rfl
  try simp only [Act.put]
  refine wpLate_take (i := 6) (v := ?v6) rfl (by kernel_rfl) (by kernel_rfl) (by kernel_rfl) (by kernel_rfl) (by kernel_rfl) (fun _ _ _ h => h) hcd (by rfl) ?hy6 ?r6
  case hy6 =>
    rintro wz ⟨z0, z1⟩
    go_simp
    try rw [if_neg (by omega)]
    try with_reducible rfl
  try simp only [Act.put]
  refine wpLate_one (i := 2) (by kernel_rfl) rfl (fun K hK => ?_)
  go_simp
  refine HC.mono ?_
  rintro e w2 ⟨y, hy, rfl, hb⟩
  have HB2 := Lib.hid (HBD.out.trans (hb.mono HBD.out.size))
  have HY := Lib.hid hy
  have hys : y.size ≤ 1000000 := by rw [size_txt, hy]; exact hk
  have hyt : ((⟨#[111, 114, 32]⟩ : ByteArray) ++ y).size ≤ 1000004 := by rw [size_txt, cat_txt, List.length_append, ← size_txt y]; show 3 + _ ≤ _; omega
  obtain ⟨ya, hya⟩ : ∃ z, (⟨#[111, 114, 32]⟩ : ByteArray) ++ y = z := ⟨_, rfl⟩
  rw [hya] at hyt
  have HYA := Lib.hid hya
  have hyu : (ya ++ (⟨#[32]⟩ : ByteArray)).size ≤ 1000005 := by rw [size_txt, cat_txt, List.length_append, ← size_txt ya]; show _ + 1 ≤ _; omega
  obtain ⟨yb, hyb⟩ : ∃ z, ya ++ (⟨#[32]⟩ : ByteArray) = z := ⟨_, rfl⟩
  rw [hyb] at hyu
  have HYB := Lib.hid hyb
  obtain ⟨U', b', gn, hU, m', cm', HC2⟩ := HH.out w2 HB2.out
  cases hU
  have m1 := m' w2
  have m1c := cm' w2
  have HD2 : Hid (Below wd.heap.size wd w2) := Lib.hid (hb.mono (Nat.le_refl _))
  have hcd2 := CS.out w2 HD2.out
  clear hy HC hya hyb m' cm'
  refine hK.out _ _ (fun _ => hcd2) ?_
  clear hK K hb
  try simp only [Act.put]
  refine wpLate_take (i := 3) (v := ?v3b) rfl (by kernel_rfl) (by kernel_rfl) (by kernel_rfl) (by kernel_rfl) (by kernel_rfl) (fun _ _ _ h => h) hcd2 (by rfl) ?hy3b ?r3b
  case hy3b =>
    rintro wz ⟨z0, z1⟩
    go_simp
    try rw [if_neg (by omega)]
    try with_reducible rfl
  try simp only [Act.put]
  try rw [HYA.out]
  refine wpLate_take (i := 4) (v := ?v4b) rfl (by kernel_rfl) (by kernel_rfl) (by kernel_rfl) (by kernel_rfl) (by kernel_rfl) (fun _ _ _ h => h) hcd2 (by rfl) ?hy4b ?r4b
  case hy4b =>
    rintro wz ⟨z0, z1⟩
    go_simp
    try rw [if_neg (by omega)]
    try with_reducible rfl
  try simp only [Act.put]
  try rw [HYB.out]
  refine wpLate_one (i := 7) (by kernel_rfl) rfl (fun K hK => ?_)
  go_simp
  refine HC2.mono ?_
  rintro e w3 ⟨u, hu, rfl, hb⟩
  have HB3 := Lib.hid (HB2.out.trans (hb.mono HB2.out.size))
  have HU := Lib.hid hu
  have hus : u.size ≤ 1000000 := by rw [size_txt, hu]; exact hk2
  have hcd3 := CS.out w3 (HD2.out.trans (hb.mono HD2.out.size))
  clear hu HC2
  refine hK.out _ _ (fun _ => hcd3) ?_
  clear hK K hb
  try simp only [Act.put]
  refine wpLate_take (i := 8) (v := ?v8c) rfl (by kernel_rfl) (by kernel_rfl) (by kernel_rfl) (by kernel_rfl) (by kernel_rfl) (fun _ _ _ h => h) hcd3 (by rfl) ?hy8c ?r8c
  case hy8c =>
    rintro wz ⟨z0, z1⟩
    go_simp
    try rw [if_neg (by omega)]
    try with_reducible rfl
  try simp only [Act.put]
  refine wpLate_one (i := 9) (by kernel_rfl) rfl (fun K hK => ?_)
  go_simp
  refine hK.out _ _ (fun h => absurd rfl h) ?_
  clear hK K
  try simp only [Act.put]
  refine wpLate_done (by kernel_rfl) ?_ _
  go_wp2
  go_ret
  exact fm_of (by rw [cat_txt, ← HYB.out, cat_txt, ← HYA.out, cat_txt, HY.out, HU.out, fmtT, fmtL, fmtL, fmtL, List.append_nil]; simp [headW]) HB3.out
end Go.Proofs.YtodafbfhcgphpaaDoor
namespace Go.Proofs.YtodafbfhcgphpaaDoor
open Go.RowKit
set_option linter.unusedVariables false

theorem node_len {kd f : Int} {t : ByteArray} {S : List (Int × Int)} {n : Nat} (h : nodeB kd f t S n = true) : (kd = 0 ∨ kd = 1 ∨ kd = 2 ∨ kd = 3 ∨ kd = 4 → n = 0) ∧ (kd = 3 ∨ kd = 4 → setB S = true) ∧ (kd = 5 → n = 1) ∧ (kd = 6 ∨ kd = 7 → n = 2) := by
  unfold nodeB at h
  split at h
  · simp only [Bool.and_eq_true, beq_iff_eq] at h; omega
  · split at h
    · simp only [Bool.and_eq_true, beq_iff_eq] at h; omega
    · split at h
      · simp only [Bool.and_eq_true, beq_iff_eq] at h; omega
      · split at h
        · simp only [Bool.and_eq_true, beq_iff_eq] at h
          exact ⟨fun _ => h.2, fun _ => h.1.2, by omega, by omega⟩
        · split at h
          · simp only [Bool.and_eq_true, beq_iff_eq] at h; omega
          · split at h
            · simp only [Bool.and_eq_true, beq_iff_eq] at h; omega
            · cases h
theorem qvs_one {w : World} {ks : List KT} {q : Value} (h : QVs w ks [q]) : ∃ k, ks = [k] ∧ QV w k q := by
  match ks, h with
  | [], h => rw [QVs] at h; cases h
  | k :: r, h =>
    rw [QVs] at h
    obtain ⟨q', s, he, h1, h2⟩ := h
    cases he
    match r, h2 with
    | [], _ => exact ⟨k, rfl, h1⟩
    | _ :: _, h2 => rw [QVs] at h2; obtain ⟨_, _, he, _⟩ := h2; cases he
theorem qvs_two {w : World} {ks : List KT} {q r : Value} (h : QVs w ks [q, r]) : ∃ k l, ks = [k, l] ∧ QV w k q ∧ QV w l r := by
  match ks, h with
  | [], h => rw [QVs] at h; cases h
  | k :: ks', h =>
    rw [QVs] at h
    obtain ⟨q', s, he, h1, h2⟩ := h
    cases he
    obtain ⟨l, rfl, h3⟩ := qvs_one h2
    exact ⟨k, l, rfl, h1, h3⟩
theorem fmt_le {k : KT} {n : Nat} (h : allT k = true) (hn : nodesT k ≤ n) (hm : n ≤ 20000) : (fmtT k).length ≤ 1000000 := by
  have := fmtT_len k h
  omega
theorem text_of : ∀ (n : Nat) (k : KT) (q : Value) (w : World), nodesT k ≤ n → n ≤ 20000 → allT k = true → Lst w → QV w k q → TXT w k q
  | 0, k, q, w, hn, _, _, _, _ => by have := nodesT_pos k; omega
  | n + 1, .mk kd f t S ks, q, w, hn, hm, ha, hL, h => by
    rw [allT, Bool.and_eq_true] at ha
    obtain ⟨hal, hnd⟩ := ha
    rw [nodesT] at hn
    have hl := node_len hnd
    rw [QV] at h
    rcases h with ⟨rfl, rfl⟩ | ⟨rfl, rfl⟩ | ⟨rfl, rfl⟩ | ⟨rfl, AS, cS, rfl, h2⟩ | ⟨rfl, AS, cS, rfl, h2⟩ | ⟨rfl, q1, rfl, h2⟩ | ⟨rfl, q1, q2, rfl, h2⟩ | ⟨rfl, q1, q2, rfl, h2⟩
    · obtain rfl : ks = [] := List.length_eq_zero_iff.1 (hl.1 (by decide))
      exact ⟨_, _, _, rfl, mt_all, ct_all, text_all f t S w⟩
    · obtain rfl : ks = [] := List.length_eq_zero_iff.1 (hl.1 (by decide))
      exact ⟨_, _, _, rfl, mt_flag f, ct_flag f, text_flag t S w hL⟩
    · obtain rfl : ks = [] := List.length_eq_zero_iff.1 (hl.1 (by decide))
      have h4 := node2 hnd
      unfold nameB at h4
      simp only [Bool.and_eq_true, decide_eq_true_eq] at h4
      exact ⟨_, _, _, rfl, mt_text t, ct_text t, text_text f S w (by rw [size_txt]; exact h4.2)⟩
    · obtain rfl : ks = [] := List.length_eq_zero_iff.1 (hl.1 (by decide))
      have h5 := (setB_iff.1 (hl.2.1 (by decide))).2.2
      exact ⟨_, _, _, rfl, mt_place AS S.length cS, ct_place AS S.length cS, text_place f t AS cS w h2 (by omega)⟩
    · obtain rfl : ks = [] := List.length_eq_zero_iff.1 (hl.1 (by decide))
      have h5 := (setB_iff.1 (hl.2.1 (by decide))).2.2
      exact ⟨_, _, _, rfl, mt_uid AS S.length cS, ct_uid AS S.length cS, text_uid f t AS cS w h2 (by omega)⟩
    · obtain ⟨k, rfl, h3⟩ := qvs_one h2
      rw [nodesL, nodesL] at hn
      rw [allL, Bool.and_eq_true] at hal
      exact ⟨_, _, _, rfl, mt_not q1, ct_not q1, text_not f t S w (fun w1 hb => text_of n k q1 w1 (by omega) (by omega) hal.1 (hL.below hb (Nat.le_refl _)) (QV.below hb (Nat.le_refl _) _ _ h3)) (fmt_le hal.1 (n := n) (by omega) (by omega))⟩
    · obtain ⟨k, l, rfl, h3, h4⟩ := qvs_two h2
      rw [nodesL, nodesL, nodesL] at hn
      rw [allL, allL, Bool.and_eq_true, Bool.and_eq_true] at hal
      exact ⟨_, _, _, rfl, mt_and q1 q2, ct_and q1 q2, text_and f t S w (fun w1 hb => text_of n k q1 w1 (by omega) (by omega) hal.1 (hL.below hb (Nat.le_refl _)) (QV.below hb (Nat.le_refl _) _ _ h3)) (fun w1 hb => text_of n l q2 w1 (by omega) (by omega) hal.2.1 (hL.below hb (Nat.le_refl _)) (QV.below hb (Nat.le_refl _) _ _ h4)) (fmt_le hal.1 (n := n) (by omega) (by omega)) (fmt_le hal.2.1 (n := n) (by omega) (by omega))⟩
    · obtain ⟨k, l, rfl, h3, h4⟩ := qvs_two h2
      rw [nodesL, nodesL, nodesL] at hn
      rw [allL, allL, Bool.and_eq_true, Bool.and_eq_true] at hal
      exact ⟨_, _, _, rfl, mt_or q1 q2, ct_or q1 q2, text_or f t S w (fun w1 hb => text_of n k q1 w1 (by omega) (by omega) hal.1 (hL.below hb (Nat.le_refl _)) (QV.below hb (Nat.le_refl _) _ _ h3)) (fun w1 hb => text_of n l q2 w1 (by omega) (by omega) hal.2.1 (hL.below hb (Nat.le_refl _)) (QV.below hb (Nat.le_refl _) _ _ h4)) (fmt_le hal.1 (n := n) (by omega) (by omega)) (fmt_le hal.2.1 (n := n) (by omega) (by omega))⟩
def fmtY (k : KT) : ByteArray := if keyB k = true then wB (fmtT k) else ⟨#[]⟩
theorem txt_is {v : ByteArray} {l : List UInt8} (h : v.data.toList = l) : v = wB l := by
  subst h
  rfl
set_option maxRecDepth 20000 in
set_option maxHeartbeats 4000000 in
theorem impl_keyformat {k : KT} {v : Value} {Y : ByteArray} (hY : fmtY k = Y) (w : World) (hSh : Shp w) (hLs : Lst w) (h : KV w k v) : Calls Tryd.prog 7 #[v] w fun e w' => e = .returned (.string Y) ∧ Below w.heap.size w w' := by
  obtain ⟨kd, f, t, S, ks⟩ := k
  obtain ⟨AS, nS, cS, AK, nK, cK, rfl, -⟩ := h.open
  have HY := Lib.hid hY
  have HLS := Lib.hid hLs
  obtain ⟨B, hB⟩ : ∃ B, w.heap.size = B := ⟨_, rfl⟩
  have HBB := Lib.hid hB
  obtain ⟨wa, hwa⟩ : ∃ wa, w.alloc (.cells #[.int .i64 kd, .int .i64 f, .string t, .slice AS nS cS, .slice AK nK cK] 26) = wa := ⟨_, rfl⟩
  have HWA := Lib.hid hwa
  have HBa : Hid (Below w.heap.size w wa) := Lib.hid (by rw [← hwa]; exact (Below.refl _ _).alloc (Nat.le_refl _) _)
  have HKa : Hid (Whole wa B 26 #[.int .i64 kd, .int .i64 f, .string t, .slice AS nS cS, .slice AK nK cK]) := Lib.hid (by rw [← hwa, ← hB]; exact Whole.made w _ _)
  have HC := Lib.hid (impl_keyquery wa (hSh.below HBa.out (Nat.le_refl _)) (hLs.below HBa.out (Nat.le_refl _)) (KV.below HBa.out (Nat.le_refl _) _ _ h))
  have z0 := HKa.out.cell 0
  have z1 := HKa.out.cell 1
  have z2 := HKa.out.cell 2
  have z3 := HKa.out.cell 3
  have z4 := HKa.out.cell 4
  simp only [List.getElem?_toArray, List.getElem?_cons_zero, List.getElem?_cons_succ] at z0 z1 z2 z3 z4
  clear h hwa hSh hLs hB hY
  go_enter Tryd.func7, Tryd.ntmps7
  go_wp2_with fail
  rw [HBB.out, HWA.out]
  refine HC.out.mono ?_
  rintro e w2 ⟨q, o, rfl, ho, hq, hb2⟩
  have HB2 := Lib.hid (HBa.out.trans (hb2.mono HBa.out.size))
  have HO := Lib.hid ho
  cases o with
  | false =>
    clear hb2 ho hq
    go_wp2
    go_ret
    exact ⟨congrArg (fun z : ByteArray => Ending.returned (.string z)) (show (⟨#[]⟩ : ByteArray) = Y by rw [← HY.out, fmtY, if_neg (by rw [HO.out]; decide)]), HB2.out⟩
  | true =>
    have ho2 := ho
    unfold keyB at ho2
    rw [Bool.and_eq_true, decide_eq_true_eq] at ho2
    obtain ⟨T, a, fn, rfl, m, cm, HC2⟩ := text_of 9 _ q w2 ho2.2 (by omega) ho2.1 (HLS.out.below HB2.out (Nat.le_refl _)) (QV.below hb2 (Nat.le_refl _) _ _ (hq rfl))
    have m0 := m w2
    have m1 := cm w2
    clear hb2 ho hq ho2 m cm
    go_wp2_with fail
    try rw [m0]
    try go_simp
    refine HC2.mono ?_
    rintro e w3 ⟨y, hy, rfl, hb⟩
    have HB3 := Lib.hid (HB2.out.trans (hb.mono HB2.out.size))
    have HYY := Lib.hid (txt_is hy)
    clear hb hy HC2
    go_wp2
    go_ret
    exact ⟨congrArg (fun z : ByteArray => Ending.returned (.string z)) (show y = Y by rw [← HY.out, fmtY, if_pos HO.out, HYY.out]), HB3.out⟩
set_option maxRecDepth 20000 in
set_option maxHeartbeats 4000000 in
theorem spec_keyformat {k : KT} {v : Value} {Y : ByteArray} (hY : fmtY k = Y) (w : World) (hn : nodesT k ≤ 4000000) (h : KV w k v) : Calls Tryd.prog 8 #[v] w fun e w' => e = .returned (.string Y) ∧ Below w.heap.size w w' := by
  obtain ⟨o, ho⟩ : ∃ o, keyB k = o := ⟨_, rfl⟩
  obtain ⟨kd, f, t, S, ks⟩ := k
  have h0 := h
  obtain ⟨AS, nS, cS, AK, nK, cK, rfl, -⟩ := h.open
  have HY := Lib.hid hY
  obtain ⟨B, hB⟩ : ∃ B, w.heap.size = B := ⟨_, rfl⟩
  have HBB := Lib.hid hB
  obtain ⟨wa, hwa⟩ : ∃ wa, w.alloc (.cells #[.int .i64 kd, .int .i64 f, .string t, .slice AS nS cS, .slice AK nK cK] 26) = wa := ⟨_, rfl⟩
  have HWA := Lib.hid hwa
  have HBa : Hid (Below w.heap.size w wa) := Lib.hid (by rw [← hwa]; exact (Below.refl _ _).alloc (Nat.le_refl _) _)
  have HKa : Hid (Whole wa B 26 #[.int .i64 kd, .int .i64 f, .string t, .slice AS nS cS, .slice AK nK cK]) := Lib.hid (by rw [← hwa, ← hB]; exact Whole.made w _ _)
  have HV := Lib.hid (KV.below HBa.out (Nat.le_refl _) _ _ h)
  have HC := Lib.hid (spec_key HV.out hn ho)
  have HO := Lib.hid ho
  have z0 := HKa.out.cell 0
  have z1 := HKa.out.cell 1
  have z2 := HKa.out.cell 2
  have z3 := HKa.out.cell 3
  have z4 := HKa.out.cell 4
  simp only [List.getElem?_toArray, List.getElem?_cons_zero, List.getElem?_cons_succ] at z0 z1 z2 z3 z4
  clear h h0 hwa hB hY ho
  go_enter Tryd.func8, Tryd.ntmps8
  go_wp2_with fail
  rw [HBB.out, HWA.out]
  refine HC.out.mono ?_
  rintro e w2 ⟨rfl, hb2⟩
  have HB2 := Lib.hid (HBa.out.trans (hb2.mono HBa.out.size))
  have HV2 := Lib.hid (KV.below hb2 (Nat.le_refl _) _ _ HV.out)
  have HK2 := Lib.hid (HKa.out.below hb2 HKa.out.lt)
  clear hb2 z0 z1 z2 z3 z4
  cases o with
  | false =>
    go_wp2
    go_ret
    exact ⟨congrArg (fun z : ByteArray => Ending.returned (.string z)) (show (⟨#[]⟩ : ByteArray) = Y by rw [← HY.out, fmtY, if_neg (by rw [HO.out]; decide)]), HB2.out⟩
  | true =>
    have ho2 := HO.out
    unfold keyB at ho2
    rw [Bool.and_eq_true, decide_eq_true_eq] at ho2
    have HC2 := Lib.hid (spec_fmt 9 _ _ w2 ho2.2 (by omega) ho2.1 HV2.out)
    have z0 := HK2.out.cell 0
    have z1 := HK2.out.cell 1
    have z2 := HK2.out.cell 2
    have z3 := HK2.out.cell 3
    have z4 := HK2.out.cell 4
    simp only [List.getElem?_toArray, List.getElem?_cons_zero, List.getElem?_cons_succ] at z0 z1 z2 z3 z4
    clear ho2
    go_wp2_with fail
    refine HC2.out.mono ?_
    rintro e w3 ⟨y, hy, rfl, hb⟩
    have HB3 := Lib.hid (HB2.out.trans (hb.mono HB2.out.size))
    have HYY := Lib.hid (txt_is hy)
    clear hb hy
    go_wp2
    go_ret
    exact ⟨congrArg (fun z : ByteArray => Ending.returned (.string z)) (show y = Y by rw [← HY.out, fmtY, if_pos HO.out, HYY.out]), HB3.out⟩
end Go.Proofs.YtodafbfhcgphpaaDoor
namespace Go.Proofs.YtodafbfhcgphpaaDoor
open Go.RowKit
set_option linter.unusedVariables false

set_option maxRecDepth 20000 in
set_option maxHeartbeats 8000000 in
theorem law_FnExactKeyFormat (v : Value) (w : World) (h : ∃ k, KZ w k v) (hSh : Shp w) (hLs : Lst w) : Calls Tryd.prog 5 #[v] w (Holds1 w) := by
  obtain ⟨k, hk⟩ := h
  have hk0 := hk
  obtain ⟨kd, f, t, S, ks⟩ := k
  rw [KZ] at hk0
  obtain ⟨AS, nS, cS, AK, nK, cK, rfl, -⟩ := hk0
  have HSH := Lib.hid hSh
  have HLS := Lib.hid hLs
  obtain ⟨q, hq⟩ : ∃ q : KT, .mk kd f t S ks = q := ⟨_, rfl⟩
  rw [hq] at hk
  obtain ⟨m, hm⟩ : ∃ m, nodesT q = m := ⟨_, rfl⟩
  obtain ⟨r, hr⟩ : ∃ r : Int, lft (1048576 - (szT q : Int)) = r := ⟨_, rfl⟩
  have HM := Lib.hid (Nat.le_of_eq hm)
  have HR := Lib.hid hr
  obtain ⟨Da, hDa⟩ : ∃ D, w.heap.size = D := ⟨_, rfl⟩
  obtain ⟨w0, hw0⟩ : ∃ z, w.alloc (.cells #[.int .i64 kd, .int .i64 f, .string t, .slice AS nS cS, .slice AK nK cK] 36) = z := ⟨_, rfl⟩
  have hb0 : Below w.heap.size w w0 := by rw [← hw0]; exact below_newK w _
  have HB := Lib.hid hb0
  have HZ := Lib.hid (KZ.below hb0 (Nat.le_refl _) _ _ hk)
  have HD := Lib.hid (show Whole w0 Da 36 #[.int .i64 kd, .int .i64 f, .string t, .slice AS nS cS, .slice AK nK cK] by rw [← hw0, ← hDa]; exact Whole.made w _ _)
  clear hk hb0 hSh hLs
  by_cases hr0 : r < 0
  · clear hr hm hq
    have cHD0 := HD.out.cell 0
    have cHD1 := HD.out.cell 1
    have cHD2 := HD.out.cell 2
    have cHD3 := HD.out.cell 3
    have cHD4 := HD.out.cell 4
    simp only [List.getElem?_toArray, List.getElem?_cons_zero, List.getElem?_cons_succ] at cHD0 cHD1 cHD2 cHD3 cHD4
    go_enter Tryd.func5, Tryd.ntmps5
    go_wp2_with fail
    have HCA := sz_key m q (.agg #[.int .i64 kd, .int .i64 f, .string t, .slice AS nS cS, .slice AK nK cK]) w0 1048576 HM.out (by omega) (by omega) HZ.out
    unfold SzK at HCA
    rw [HR.out] at HCA
    refine HCA.mono ?_
    rintro e w1 ⟨rfl, hb⟩
    clear HCA
    clear cHD0 cHD1 cHD2 cHD3 cHD4
    have HB_1 := Lib.hid (HB.out.trans (hb.mono HB.out.size))
    have HZ_1 := Lib.hid (KZ.below hb (Nat.le_refl _) _ _ HZ.out)
    have HD_1 := Lib.hid (HD.out.below hb HD.out.lt)
    clear HD HZ HB
    clear hb
    go_wp2
    go_ret
    exact ⟨rfl, HB_1.out⟩
  · have hz : szT q ≤ 1048576 := by
      rcases Nat.lt_or_ge 1048576 (szT q) with h | h
      · rw [lft_no (by omega)] at hr; omega
      · exact h
    have hm2 : m ≤ 1048577 := by have := nodes_sz q; omega
    have HZT := Lib.hid hz
    obtain ⟨Y, ho⟩ : ∃ Y, fmtY q = Y := ⟨_, rfl⟩
    have HO := Lib.hid ho
    have hoo : (Y.toList == Y.toList) = true := by simp
    clear hr hm hz ho hq
    have cHD0 := HD.out.cell 0
    have cHD1 := HD.out.cell 1
    have cHD2 := HD.out.cell 2
    have cHD3 := HD.out.cell 3
    have cHD4 := HD.out.cell 4
    simp only [List.getElem?_toArray, List.getElem?_cons_zero, List.getElem?_cons_succ] at cHD0 cHD1 cHD2 cHD3 cHD4
    go_enter Tryd.func5, Tryd.ntmps5
    go_wp2_with fail
    have HCA := sz_key m q (.agg #[.int .i64 kd, .int .i64 f, .string t, .slice AS nS cS, .slice AK nK cK]) w0 1048576 HM.out (by omega) (by omega) HZ.out
    unfold SzK at HCA
    rw [HR.out] at HCA
    refine HCA.mono ?_
    rintro e w1 ⟨rfl, hb⟩
    clear HCA
    clear cHD0 cHD1 cHD2 cHD3 cHD4
    have HB_1 := Lib.hid (HB.out.trans (hb.mono HB.out.size))
    have HZ_1 := Lib.hid (KZ.below hb (Nat.le_refl _) _ _ HZ.out)
    have HD_1 := Lib.hid (HD.out.below hb HD.out.lt)
    clear HD HZ HB
    clear hb
    have HV := Lib.hid (kv_of q (.agg #[.int .i64 kd, .int .i64 f, .string t, .slice AS nS cS, .slice AK nK cK]) HZ_1.out HZT.out)
    clear HZ_1
    have cHD0 := HD_1.out.cell 0
    have cHD1 := HD_1.out.cell 1
    have cHD2 := HD_1.out.cell 2
    have cHD3 := HD_1.out.cell 3
    have cHD4 := HD_1.out.cell 4
    simp only [List.getElem?_toArray, List.getElem?_cons_zero, List.getElem?_cons_succ] at cHD0 cHD1 cHD2 cHD3 cHD4
    go_wp2_with fail
    refine (to_key m q (.agg #[.int .i64 kd, .int .i64 f, .string t, .slice AS nS cS, .slice AK nK cK]) w1 HM.out HZT.out HV.out).mono ?_
    rintro e w2 ⟨⟨a0, a1, a2, ⟨a3, a4, a5⟩, ⟨a6, a7, a8⟩⟩, rfl, hka, hb⟩
    clear cHD0 cHD1 cHD2 cHD3 cHD4
    have HB_2 := Lib.hid (HB_1.out.trans (hb.mono HB_1.out.size))
    have HD_2 := Lib.hid (HD_1.out.below hb HD_1.out.lt)
    have HV_2 := Lib.hid (KV.below hb (Nat.le_refl _) _ _ HV.out)
    clear HV HD_1 HB_1
    have HKa := Lib.hid (hka.kv)
    clear hka hb
    go_wp2_with fail
    refine (spec_keyformat HO.out w2 (Nat.le_trans HM.out (by omega)) HKa.out).mono ?_
    rintro e w3 ⟨rfl, hb⟩
    clear HKa
    have HB_3 := Lib.hid (HB_2.out.trans (hb.mono HB_2.out.size))
    have HD_3 := Lib.hid (HD_2.out.below hb HD_2.out.lt)
    have HV_3 := Lib.hid (KV.below hb (Nat.le_refl _) _ _ HV_2.out)
    clear HV_2 HD_2 HB_2
    clear hb
    have cHD0 := HD_3.out.cell 0
    have cHD1 := HD_3.out.cell 1
    have cHD2 := HD_3.out.cell 2
    have cHD3 := HD_3.out.cell 3
    have cHD4 := HD_3.out.cell 4
    simp only [List.getElem?_toArray, List.getElem?_cons_zero, List.getElem?_cons_succ] at cHD0 cHD1 cHD2 cHD3 cHD4
    go_wp2_with fail
    refine (to_key m q (.agg #[.int .i64 kd, .int .i64 f, .string t, .slice AS nS cS, .slice AK nK cK]) w3 HM.out HZT.out HV_3.out).mono ?_
    rintro e w4 ⟨⟨b0, b1, b2, ⟨b3, b4, b5⟩, ⟨b6, b7, b8⟩⟩, rfl, hka, hb⟩
    clear cHD0 cHD1 cHD2 cHD3 cHD4
    have HB_4 := Lib.hid (HB_3.out.trans (hb.mono HB_3.out.size))
    have HD_4 := Lib.hid (HD_3.out.below hb HD_3.out.lt)
    have HV_4 := Lib.hid (KV.below hb (Nat.le_refl _) _ _ HV_3.out)
    clear HV_3 HD_3 HB_3
    have HKb := Lib.hid (hka.kv)
    clear hka hb
    obtain ⟨D5, hD5⟩ : ∃ D, w4.heap.size = D := ⟨_, rfl⟩
    obtain ⟨w5, hw5⟩ : ∃ z, w4.alloc (.cells #[.int .i64 b0, .int .i64 b1, .string b2, .slice b3 b4 b5, .slice b6 b7 b8] 26) = z := ⟨_, rfl⟩
    have hbn : Below w4.heap.size w4 w5 := by rw [← hw5]; exact below_new _ _
    have HB_5 := Lib.hid (HB_4.out.trans (hbn.mono HB_4.out.size))
    have HD_5 := Lib.hid (HD_4.out.below hbn HD_4.out.lt)
    have HV_5 := Lib.hid (KV.below hbn (Nat.le_refl _) _ _ HV_4.out)
    have HKb_5 := Lib.hid (KV.below hbn (Nat.le_refl _) _ _ HKb.out)
    clear HKb HV_4 HD_4 HB_4
    have H5 := Lib.hid (show Whole w5 D5 26 #[.int .i64 b0, .int .i64 b1, .string b2, .slice b3 b4 b5, .slice b6 b7 b8] by rw [← hw5, ← hD5]; exact Whole.made _ _ _)
    have HD5 := Lib.hid hD5
    clear hbn
    have cH50 := H5.out.cell 0
    have cH51 := H5.out.cell 1
    have cH52 := H5.out.cell 2
    have cH53 := H5.out.cell 3
    have cH54 := H5.out.cell 4
    simp only [List.getElem?_toArray, List.getElem?_cons_zero, List.getElem?_cons_succ] at cH50 cH51 cH52 cH53 cH54
    go_wp2_with fail
    refine (impl_keyformat HO.out w5 (HSH.out.below HB_5.out (Nat.le_refl _)) (HLS.out.below HB_5.out (Nat.le_refl _)) HKb_5.out).mono ?_
    rintro e w6 ⟨rfl, hb⟩
    clear cH50 cH51 cH52 cH53 cH54
    have HB_6 := Lib.hid (HB_5.out.trans (hb.mono HB_5.out.size))
    have HD_6 := Lib.hid (HD_5.out.below hb HD_5.out.lt)
    have HV_6 := Lib.hid (KV.below hb (Nat.le_refl _) _ _ HV_5.out)
    have HKb_6 := Lib.hid (KV.below hb (Nat.le_refl _) _ _ HKb_5.out)
    have H5_6 := Lib.hid (H5.out.below hb H5.out.lt)
    clear H5 HKb_5 HV_5 HD_5 HB_5
    clear hb
    obtain ⟨wz, hwz⟩ : ∃ z, w6.drew = z := ⟨_, rfl⟩
    have hbd : Below w6.heap.size w6 wz := by rw [← hwz]; exact below_drew1 _
    have HWZ := Lib.hid hwz
    clear hwz
    have HB_7 := Lib.hid (HB_6.out.trans (hbd.mono HB_6.out.size))
    have HD_7 := Lib.hid (HD_6.out.below hbd HD_6.out.lt)
    have HV_7 := Lib.hid (KV.below hbd (Nat.le_refl _) _ _ HV_6.out)
    have HKb_7 := Lib.hid (KV.below hbd (Nat.le_refl _) _ _ HKb_6.out)
    have H5_7 := Lib.hid (H5_6.out.below hbd H5_6.out.lt)
    clear H5_6 HKb_6 HV_6 HD_6 HB_6
    clear hbd
    have cHD0 := HD_7.out.cell 0
    have cHD1 := HD_7.out.cell 1
    have cHD2 := HD_7.out.cell 2
    have cHD3 := HD_7.out.cell 3
    have cHD4 := HD_7.out.cell 4
    have cH50 := H5_7.out.cell 0
    have cH51 := H5_7.out.cell 1
    have cH52 := H5_7.out.cell 2
    have cH53 := H5_7.out.cell 3
    have cH54 := H5_7.out.cell 4
    simp only [List.getElem?_toArray, List.getElem?_cons_zero, List.getElem?_cons_succ] at cHD0 cHD1 cHD2 cHD3 cHD4 cH50 cH51 cH52 cH53 cH54
    go_upto_region 10 with fail
    refine wp_region_late (fun w' => w'.cell? ⟨Da, 0, none⟩ = some (.int .i64 kd) ∧ w'.cell? ⟨Da, 1, none⟩ = some (.int .i64 f) ∧ w'.cell? ⟨Da, 2, none⟩ = some (.string t) ∧ w'.cell? ⟨Da, 3, none⟩ = some (.slice AS nS cS) ∧ w'.cell? ⟨Da, 4, none⟩ = some (.slice AK nK cK) ∧ w'.cell? ⟨D5, 0, none⟩ = some (.int .i64 b0) ∧ w'.cell? ⟨D5, 1, none⟩ = some (.int .i64 b1) ∧ w'.cell? ⟨D5, 2, none⟩ = some (.string b2) ∧ w'.cell? ⟨D5, 3, none⟩ = some (.slice b3 b4 b5) ∧ w'.cell? ⟨D5, 4, none⟩ = some (.slice b6 b7 b8)) 4 (by kernel_rfl) ?_
    rw [HWZ.out]
    refine wpLate_take (i := 0) (v := ?v0r) rfl (by kernel_rfl) (by kernel_rfl) (by kernel_rfl) (by kernel_rfl) (by kernel_rfl) (fun _ _ _ h => h) ⟨cHD0, cHD1, cHD2, cHD3, cHD4, cH50, cH51, cH52, cH53, cH54⟩ (by rfl) ?hy0r ?r0r
    case hy0r =>
      rintro wz ⟨z0, z1, z2, z3, z4, z5, z6, z7, z8, z9⟩
      go_simp
      try with_reducible rfl
    try simp only [Act.put]
    refine wpLate_take (i := 1) (v := ?v1r) rfl (by kernel_rfl) (by kernel_rfl) (by kernel_rfl) (by kernel_rfl) (by kernel_rfl) (fun _ _ _ h => h) ⟨cHD0, cHD1, cHD2, cHD3, cHD4, cH50, cH51, cH52, cH53, cH54⟩ (by rfl) ?hy1r ?r1r
    case hy1r =>
      rintro wz ⟨z0, z1, z2, z3, z4, z5, z6, z7, z8, z9⟩
      go_simp
      try with_reducible rfl
    try simp only [Act.put]
    refine wpLate_one (i := 2) (by kernel_rfl) rfl (fun K hK => ?_)
    go_simp
    refine (to_key m q (.agg #[.int .i64 kd, .int .i64 f, .string t, .slice AS nS cS, .slice AK nK cK]) wz HM.out HZT.out HV_7.out).mono ?_
    rintro e w7 ⟨⟨d0, d1, d2, ⟨d3, d4, d5⟩, ⟨d6, d7, d8⟩⟩, rfl, hka, hb⟩
    clear cHD0 cHD1 cHD2 cHD3 cHD4 cH50 cH51 cH52 cH53 cH54
    have HB_8 := Lib.hid (HB_7.out.trans (hb.mono HB_7.out.size))
    have HD_8 := Lib.hid (HD_7.out.below hb HD_7.out.lt)
    have HV_8 := Lib.hid (KV.below hb (Nat.le_refl _) _ _ HV_7.out)
    have HKb_8 := Lib.hid (KV.below hb (Nat.le_refl _) _ _ HKb_7.out)
    have H5_8 := Lib.hid (H5_7.out.below hb H5_7.out.lt)
    clear H5_7 HKb_7 HV_7 HD_7 HB_7
    have HKd := Lib.hid (hka.kv)
    clear hka hb
    have cHD0 := HD_8.out.cell 0
    have cHD1 := HD_8.out.cell 1
    have cHD2 := HD_8.out.cell 2
    have cHD3 := HD_8.out.cell 3
    have cHD4 := HD_8.out.cell 4
    have cH50 := H5_8.out.cell 0
    have cH51 := H5_8.out.cell 1
    have cH52 := H5_8.out.cell 2
    have cH53 := H5_8.out.cell 3
    have cH54 := H5_8.out.cell 4
    simp only [List.getElem?_toArray, List.getElem?_cons_zero, List.getElem?_cons_succ] at cHD0 cHD1 cHD2 cHD3 cHD4 cH50 cH51 cH52 cH53 cH54
    refine hK.out _ _ (fun _ => ⟨cHD0, cHD1, cHD2, cHD3, cHD4, cH50, cH51, cH52, cH53, cH54⟩) ?_
    clear hK K
    try simp only [Act.put]
    refine wpLate_one (i := 3) (by kernel_rfl) rfl (fun K hK => ?_)
    go_simp
    refine (eq_key m q _ _ w7 HM.out (by omega) HKb_8.out HKd.out).mono ?_
    rintro e w8 ⟨rfl, hb⟩
    clear cHD0 cHD1 cHD2 cHD3 cHD4 cH50 cH51 cH52 cH53 cH54
    have HB_9 := Lib.hid (HB_8.out.trans (hb.mono HB_8.out.size))
    have HD_9 := Lib.hid (HD_8.out.below hb HD_8.out.lt)
    have HV_9 := Lib.hid (KV.below hb (Nat.le_refl _) _ _ HV_8.out)
    have HKb_9 := Lib.hid (KV.below hb (Nat.le_refl _) _ _ HKb_8.out)
    have H5_9 := Lib.hid (H5_8.out.below hb H5_8.out.lt)
    have HKd_9 := Lib.hid (KV.below hb (Nat.le_refl _) _ _ HKd.out)
    clear HKd H5_8 HKb_8 HV_8 HD_8 HB_8
    clear hb
    have cHD0 := HD_9.out.cell 0
    have cHD1 := HD_9.out.cell 1
    have cHD2 := HD_9.out.cell 2
    have cHD3 := HD_9.out.cell 3
    have cHD4 := HD_9.out.cell 4
    have cH50 := H5_9.out.cell 0
    have cH51 := H5_9.out.cell 1
    have cH52 := H5_9.out.cell 2
    have cH53 := H5_9.out.cell 3
    have cH54 := H5_9.out.cell 4
    simp only [List.getElem?_toArray, List.getElem?_cons_zero, List.getElem?_cons_succ] at cHD0 cHD1 cHD2 cHD3 cHD4 cH50 cH51 cH52 cH53 cH54
    refine hK.out _ _ (fun _ => ⟨cHD0, cHD1, cHD2, cHD3, cHD4, cH50, cH51, cH52, cH53, cH54⟩) ?_
    clear hK K
    try simp only [Act.put]
    refine wpLate_one (i := 4) (by kernel_rfl) rfl (fun K hK => ?_)
    go_simp
    refine hK.out _ _ (fun h => absurd rfl h) ?_
    clear hK K
    try simp only [Act.put]
    refine wpLate_done (by kernel_rfl) ?_ _
    go_wp2
    go_ret
    exact ⟨rfl, HB_9.out⟩
end Go.Proofs.YtodafbfhcgphpaaDoor
