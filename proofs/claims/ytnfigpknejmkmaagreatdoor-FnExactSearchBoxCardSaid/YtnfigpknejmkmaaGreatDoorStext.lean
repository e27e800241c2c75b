/-
  The contracts of the model's l6Dec (numbers up to 99), l3Word and SetText. Condition: the spans can be read.
-/
import Derived.Test.YtnfigpknejmkmaaGreatDoorSnum
import Derived.Test.YtnfigpknejmkmaaGreatDoorLawh
namespace Go.Proofs.YtnfigpknejmkmaaGreatDoor
open Go.RowKit
set_option linter.unusedVariables false

theorem conv_one (W : World) (N : Nat) (c : UInt8) (z : Int) (hz : (c.toNat : Int) = z) (h : W.cell? ⟨N, 0, none⟩ = some (.int .u8 z)) :
    (convert 22 9 (.slice (some ⟨N, 0, none⟩) 1 1)).run Tryz.prog W = .ok (.string ⟨#[c]⟩) W := by
  have := run_convert_bytes_back (P := Tryz.prog) W 22 9 5 ⟨N, 0, none⟩ 1 [c] Tryz.underlying22 Tryz.underlying5 Tryz.underlying9 (fun j hj => by
    have : j = 0 := by simpa using hj
    subst this
    rw [add_none, Nat.zero_add, h, ← hz]
    rfl)
  exact this
theorem dig_nat {d : Nat} (h : d ≤ 9) : ((UInt8.ofNat (48 + d)).toNat : Int) = 48 + (d : Int) := by
  have : (UInt8.ofNat (48 + d)).toNat = 48 + d := by
    rw [UInt8.toNat_ofNat']
    exact Nat.mod_eq_of_lt (by omega)
  omega
set_option maxHeartbeats 1000000 in
theorem dec_small (n : Nat) (c : UInt8) (w : World) (hn : n ≤ 9) (hc : (c.toNat : Int) = 48 + (n : Int)) :
    Calls Tryz.prog 107 #[.int .i64 (n : Int)] w fun e w' => e = .returned (.string ⟨#[c]⟩) ∧ Below w.heap.size w w' := by
  have hcv := fun (W : World) (N : Nat) h => conv_one W N c _ hc h
  have h1 : ¬ (n : Int) < -9223372036854775807 := by omega
  have h2 : ¬ (n : Int) < 0 := by omega
  have h3 : (n : Int) < 10 := by omega
  have h4 : (48 : Int) + (n : Int) ≤ 255 := by omega
  have h5 : (0 : Int) ≤ (n : Int) := by omega
  clear hc
  go_enter Tryz.func107, Tryz.ntmps107
  go_wp2_with fail
  go_ret
  exact ⟨rfl, (Below.refl _ _).alloc (Nat.le_refl _) _⟩
theorem dec_b1 {w w' : World} (h : Below w.drew.heap.size w.drew w') : Below w.heap.size w w' := ⟨h.os, h.tape, h.output, h.size, h.block⟩
theorem dec_b2 {w w' : World} {o : Obj} (h : Below (w.alloc o).drew.heap.size (w.alloc o).drew w') : Below w.heap.size w w' := by
  have h1 : Below (w.alloc o).heap.size (w.alloc o) w' := ⟨h.os, h.tape, h.output, h.size, h.block⟩
  exact ((Below.refl w.heap.size w).alloc (Nat.le_refl _) o).trans (h1.mono (by simp))
theorem dec_c2 {w w' : World} {v : Value} (h : Below (w.alloc (.cells #[v] 5)).drew.heap.size (w.alloc (.cells #[v] 5)).drew w') : w'.cell? ⟨w.heap.size, 0, none⟩ = some v := by
  have h1 := h.cell (p := ⟨w.heap.size, 0, none⟩) (by show w.heap.size < (w.alloc (.cells #[v] 5)).heap.size; simp)
  exact h1.trans (Whole.cell (Whole.made w 5 #[v]) 0)
set_option maxHeartbeats 2000000 in
theorem dec_two (n a d : Nat) (ca cd : UInt8) (w : World) (hn : n = 10 * a + d) (ha : 1 ≤ a) (ha9 : a ≤ 9) (hd : d ≤ 9) (hca : (ca.toNat : Int) = 48 + (a : Int)) (hcd : (cd.toNat : Int) = 48 + (d : Int)) :
    Calls Tryz.prog 107 #[.int .i64 (n : Int)] w fun e w' => e = .returned (.string (⟨#[ca]⟩ ++ ⟨#[cd]⟩)) ∧ Below w.heap.size w w' := by
  have hcv := fun (W : World) (N : Nat) h => conv_one W N cd _ hcd h
  have HCA := Lib.hid hca
  have h1 : ¬ (n : Int) < -9223372036854775807 := by omega
  have h2 : ¬ (n : Int) < 0 := by omega
  have h3 : ¬ (n : Int) < 10 := by omega
  have h4 : (48 : Int) + (d : Int) ≤ 255 := by omega
  have h5 : (0 : Int) ≤ (n : Int) := by omega
  have h6 : (0 : Int) ≤ (d : Int) := by omega
  have E1 : (n : Int).tdiv 10 = (a : Int) := by rw [Int.tdiv_eq_ediv_of_nonneg (by omega)]; omega
  have E2 : (n : Int).tmod 10 = (d : Int) := by rw [Int.tmod_eq_emod_of_nonneg (by omega)]; omega
  have E3 : (n : Int) / 10 = (a : Int) := by omega
  have E4 : (n : Int) % 10 = (d : Int) := by omega
  have W1 : IntKind.i64.wrap (a : Int) = (a : Int) := IntWalk.i64_in _ (by omega)
  have W2 : IntKind.i64.wrap (d : Int) = (d : Int) := IntWalk.i64_in _ (by omega)
  have W3 : IntKind.i64.wrap (48 + (d : Int)) = 48 + (d : Int) := IntWalk.i64_in _ (by omega)
  have W4 : IntKind.u8.wrap (48 + (d : Int)) = 48 + (d : Int) := by rw [IntKind.wrap_u8]; omega
  clear hca hcd hn
  go_enter Tryz.func107, Tryz.ntmps107
  go_wp2_with fail
  go_region_with (first
    | (go_at_call 107; refine (dec_small a ca w.drew ha9 HCA.out).mono ?_; rintro e w2 ⟨rfl, hb2⟩; have HBW := Lib.hid (dec_b1 hb2); clear hb2)
    | (go_at_call 107; refine (dec_small a ca (w.alloc (.cells #[.int .u8 (48 + (d : Int))] 5)).drew ha9 HCA.out).mono ?_; rintro e w2 ⟨rfl, hb2⟩; have hc2 := dec_c2 hb2; have HBW := Lib.hid (dec_b2 hb2); clear hb2))
  all_goals
    go_wp2
    go_ret
    first
      | exact ⟨rfl, HBW.out.alloc HBW.out.size _⟩
      | exact ⟨rfl, HBW.out⟩
/-- The word of a number, as a text. -/
def wordB (n : Nat) : ByteArray := ⟨(wordN n).toArray⟩
theorem wordB_list (n : Nat) : (wordB n).data.toList = wordN n := rfl
theorem wordB_size (n : Nat) : (wordB n).size ≤ 2 := word_len n
theorem wordB_one {n : Nat} (h1 : 1 ≤ n) (h2 : n ≤ 9) : wordB n = ⟨#[UInt8.ofNat (48 + n)]⟩ := by
  unfold wordB wordN
  rw [if_neg (by omega), if_pos (by omega)]
theorem wordB_two {n a d : Nat} (hn : n = 10 * a + d) (ha : 1 ≤ a) (hd : d ≤ 9) : wordB n = ⟨#[UInt8.ofNat (48 + a)]⟩ ++ ⟨#[UInt8.ofNat (48 + d)]⟩ := by
  unfold wordB wordN
  rw [if_neg (by omega), if_neg (by omega), show n / 10 = a by omega, show n % 10 = d by omega]
  rfl
theorem dec_word (n : Nat) (w : World) (h1 : 1 ≤ n) (h2 : n ≤ 99) :
    Calls Tryz.prog 107 #[.int .i64 (n : Int)] w fun e w' => e = .returned (.string (wordB n)) ∧ Below w.heap.size w w' := by
  by_cases h : n ≤ 9
  · rw [wordB_one h1 h]
    exact dec_small n _ w h (dig_nat h)
  · rw [wordB_two (a := n / 10) (d := n % 10) (by omega) (by omega) (by omega)]
    exact dec_two n (n / 10) (n % 10) _ _ w (by omega) (by omega) (by omega) (by omega) (dig_nat (by omega)) (dig_nat (by omega))
set_option maxHeartbeats 1000000 in
theorem spec_word (n : Nat) (w : World) (h2 : n ≤ 99) :
    Calls Tryz.prog 93 #[.int .i64 (n : Int)] w fun e w' => e = .returned (.string (wordB n)) ∧ Below w.heap.size w w' := by
  by_cases h : n = 0
  · subst h
    go_enter Tryz.func93, Tryz.ntmps93
    go_wp2_with fail
    go_ret
    exact ⟨rfl, Below.refl _ _⟩
  · have h0 : ((n : Int) == 0) = false := beq_eq_false_iff_ne.2 (by omega)
    have hp : 1 ≤ n := by omega
    clear h
    go_enter Tryz.func93, Tryz.ntmps93
    go_wp2_with fail
    refine (dec_word n _ hp h2).mono ?_
    rintro e w1 ⟨rfl, hb⟩
    have HB := Lib.hid hb
    clear hb
    go_wp2_with fail
    go_ret
    exact ⟨rfl, HB.out⟩

/-- Numbers as they are written. -/
def dn (L : List (Int × Int)) : List (Nat × Nat) := L.map fun x => (x.1.toNat, x.2.toNat)
/-- The text of spans, as the model writes it. -/
def textB (L : List (Int × Int)) : List UInt8 := if setB L = true then joinW (dn L) else []
theorem textB_yes {L : List (Int × Int)} (h : setB L = true) : textB L = joinW (dn L) := by unfold textB; rw [if_pos h]
theorem textB_no {L : List (Int × Int)} (h : setB L = false) : textB L = [] := by unfold textB; rw [if_neg (by rw [h]; decide)]
theorem joinW_snoc (s : Nat × Nat) : ∀ l : List (Nat × Nat), l ≠ [] → joinW (l ++ [s]) = joinW l ++ 44 :: spanW s
  | [], h => absurd rfl h
  | [r], _ => rfl
  | r :: q :: t, _ => by
    have ih := joinW_snoc s (q :: t) (by simp)
    have e : r :: q :: t ++ [s] = r :: q :: (t ++ [s]) := rfl
    have e2 : q :: (t ++ [s]) = q :: t ++ [s] := rfl
    rw [e, joinW_cons, e2, ih, joinW_cons, List.append_assoc]
    rfl
/-- What is written for the k-th span. -/
def stepW (k : Nat) (s : Nat × Nat) : List UInt8 := (if k = 0 then [] else [44]) ++ spanW s
theorem dn_len (L : List (Int × Int)) : (dn L).length = L.length := by unfold dn; rw [List.length_map]
theorem join_take {L : List (Int × Int)} {k a b : Nat} (hx : L[k]? = some ((a : Int), (b : Int))) : joinW (dn (L.take (k + 1))) = joinW (dn (L.take k)) ++ stepW k (a, b) := by
  have hk : k < L.length := (List.getElem?_eq_some_iff.1 hx).1
  have e : dn (L.take (k + 1)) = dn (L.take k) ++ [(a, b)] := by
    unfold dn
    rw [List.take_add_one, hx, List.map_append]
    rfl
  rw [e]
  unfold stepW
  by_cases h : k = 0
  · subst h
    rfl
  · rw [if_neg h, joinW_snoc]
    · rfl
    · intro he
      have h9 := congrArg List.length he
      rw [dn_len, List.length_take, List.length_nil] at h9
      omega
theorem bne_yes {a b : Nat} (h : a ≠ b) : ((b : Int) != (a : Int)) = true := by simp; omega
theorem bne_no {a b : Nat} (h : a = b) : ((b : Int) != (a : Int)) = false := by subst h; simp
theorem one_list (c : UInt8) : (⟨#[c]⟩ : ByteArray).data.toList = [c] := rfl
/-- A text that is told. -/
def Tells (w : World) (l : List UInt8) (e : Ending) (w' : World) : Prop := ∃ v : ByteArray, v.data.toList = l ∧ e = .returned (.string v) ∧ Below w.heap.size w w'
set_option maxRecDepth 20000 in
set_option maxHeartbeats 4000000 in
theorem spec_settext (A : Option Addr) (cap : Nat) (L : List (Int × Int)) (w : World) (h : SpA w A L) (hl : L.length ≤ 33554432) :
    Calls Tryz.prog 68 #[.slice A L.length cap] w (Tells w (textB L)) := by
  have H := Lib.hid h
  have HLL := Lib.hid hl
  clear h hl
  by_cases hs : setB L = true
  · have HS := Lib.hid hs
    have hm6 : L.length ≤ 6 := (setB_iff.1 hs).2.2
    clear hs
    go_enter Tryz.func68, Tryz.ntmps68
    go_wp2
    go_loopw [3, 4] (fun v i wr => ∃ (k : Nat) (T : ByteArray), k ≤ L.length ∧ i = .int .i64 (k : Int) ∧ v = .string T ∧ T.size ≤ 6 * k ∧ Hid (T.data.toList = joinW (dn (L.take k))) ∧ Hid (Below w.heap.size w wr)) (fun _ i _ => L.length - (intOf i).toNat)
    case atStart => exact ⟨0, ⟨#[]⟩, Nat.zero_le _, by go_num, rfl, Nat.zero_le _, rfl, Below.refl _ _⟩
    case round =>
      obtain ⟨k, T, hk, rfl, rfl, hT, HT, HB⟩ := hrel
      by_cases hlt : k < L.length
      · have h0 : (0 : Int) ≤ (k : Int) := by omega
        have h5 : (k : Int) < (L.length : Int) := by omega
        obtain ⟨⟨x1, x2⟩, hx⟩ : ∃ x, L[k]? = some x := ⟨_, List.getElem?_eq_getElem hlt⟩
        obtain ⟨⟨b1, b2⟩, b3, b4⟩ := spanB_iff.1 ((setB_iff.1 HS.out).1 _ (List.mem_of_getElem? hx))
        obtain ⟨a, rfl⟩ : ∃ a : Nat, x1 = (a : Int) := ⟨x1.toNat, by simp only at b1; omega⟩
        obtain ⟨z, rfl⟩ : ∃ z : Nat, x2 = (z : Int) := ⟨x2.toNat, by simp only at b3; omega⟩
        have ha : a ≤ 99 := by simp only at b2; omega
        have hz : z ≤ 99 := by simp only at b4; omega
        have HX := Lib.hid hx
        have hwa := wordB_size a
        have hwz := wordB_size z
        clear hx b1 b2 b3 b4
        have HSP := Lib.hid (H.out.below HB.out (Nat.le_refl _))
        obtain ⟨bb, o, rfl, hb, c1, c2⟩ := HSP.out k _ HX.out
        by_cases hk0 : k = 0 <;> by_cases hq : a = z
        · have q0 : ¬ (0 : Int) < (k : Int) := by omega
          have q1 := bne_no hq
          have HQ := Lib.hid hq
          have HK0 := Lib.hid hk0
          clear hq hk0
          go_wp2_with fail
          refine (spec_setvalid_at HS.out _ HSP.out HLL.out).mono ?_
          rintro e w1 ⟨rfl, rfl⟩
          go_wp2_with fail
          refine (spec_word a _ ha).mono ?_
          rintro e w2 ⟨rfl, hb2⟩
          have HB2 := Lib.hid (HB.out.trans (hb2.mono HB.out.size))
          have hbl2 : bb < w2.heap.size := Nat.lt_of_lt_of_le hb hb2.size
          have c3 : w2.cell? ⟨bb, o + k * 2, none⟩ = some (.int .i64 (a : Int)) := (hb2.cell (p := ⟨bb, o + k * 2, none⟩) hb).trans c1
          have c4 : w2.cell? ⟨bb, o + k * 2 + 1, none⟩ = some (.int .i64 (z : Int)) := (hb2.cell (p := ⟨bb, o + k * 2 + 1, none⟩) hb).trans c2
          clear hb2 c1 c2
          go_wp2_with fail
          go_quiet (fail)
          go_wp2_with fail
          go_roundw
          case rel =>
            refine ⟨k + 1, T ++ wordB a, by omega, by go_num, rfl, ?_, ?_, below_drewN' HB2.out _⟩
            · rw [ByteArray.size_append]; omega
            · show _ = _
              rw [join_take HX.out, ← HT.out, cat_list, wordB_list]
              unfold stepW spanW
              rw [if_pos HK0.out, if_pos HQ.out]
              simp
          case measure => simp [intOf]; omega
        · have q0 : ¬ (0 : Int) < (k : Int) := by omega
          have q1 := bne_yes hq
          have HQ := Lib.hid hq
          have HK0 := Lib.hid hk0
          clear hq hk0
          go_wp2_with fail
          refine (spec_setvalid_at HS.out _ HSP.out HLL.out).mono ?_
          rintro e w1 ⟨rfl, rfl⟩
          go_wp2_with fail
          refine (spec_word a _ ha).mono ?_
          rintro e w2 ⟨rfl, hb2⟩
          have HB2 := Lib.hid (HB.out.trans (hb2.mono HB.out.size))
          have hbl2 : bb < w2.heap.size := Nat.lt_of_lt_of_le hb hb2.size
          have c3 : w2.cell? ⟨bb, o + k * 2, none⟩ = some (.int .i64 (a : Int)) := (hb2.cell (p := ⟨bb, o + k * 2, none⟩) hb).trans c1
          have c4 : w2.cell? ⟨bb, o + k * 2 + 1, none⟩ = some (.int .i64 (z : Int)) := (hb2.cell (p := ⟨bb, o + k * 2 + 1, none⟩) hb).trans c2
          clear hb2 c1 c2
          go_wp2_with fail
          go_quiet (fail)
          go_wp2_with fail
          refine (spec_word z _ hz).mono ?_
          rintro e w3 ⟨rfl, hb3⟩
          have HB3 := Lib.hid ((below_drewN' HB2.out _).trans (hb3.mono (below_drewN' HB2.out _).size))
          clear hb3
          go_wp2_with fail
          go_roundw
          case rel =>
            refine ⟨k + 1, T ++ wordB a ++ ⟨#[58]⟩ ++ wordB z, by omega, by go_num, rfl, ?_, ?_, HB3.out⟩
            · simp only [ByteArray.size_append, one_size]; omega
            · show _ = _
              rw [join_take HX.out, ← HT.out, cat_list, cat_list, cat_list, wordB_list, wordB_list, one_list]
              unfold stepW spanW
              rw [if_pos HK0.out, if_neg HQ.out]
              simp
          case measure => simp [intOf]; omega
        · have q0 : (0 : Int) < (k : Int) := by omega
          have q1 := bne_no hq
          have HQ := Lib.hid hq
          have HK0 := Lib.hid hk0
          clear hq hk0
          go_wp2_with fail
          refine (spec_setvalid_at HS.out _ HSP.out HLL.out).mono ?_
          rintro e w1 ⟨rfl, rfl⟩
          go_wp2_with fail
          refine (spec_word a _ ha).mono ?_
          rintro e w2 ⟨rfl, hb2⟩
          have HB2 := Lib.hid (HB.out.trans (hb2.mono HB.out.size))
          have hbl2 : bb < w2.heap.size := Nat.lt_of_lt_of_le hb hb2.size
          have c3 : w2.cell? ⟨bb, o + k * 2, none⟩ = some (.int .i64 (a : Int)) := (hb2.cell (p := ⟨bb, o + k * 2, none⟩) hb).trans c1
          have c4 : w2.cell? ⟨bb, o + k * 2 + 1, none⟩ = some (.int .i64 (z : Int)) := (hb2.cell (p := ⟨bb, o + k * 2 + 1, none⟩) hb).trans c2
          clear hb2 c1 c2
          go_wp2_with fail
          go_quiet (fail)
          go_wp2_with fail
          go_roundw
          case rel =>
            refine ⟨k + 1, T ++ ⟨#[44]⟩ ++ wordB a, by omega, by go_num, rfl, ?_, ?_, below_drewN' HB2.out _⟩
            · simp only [ByteArray.size_append, one_size]; omega
            · show _ = _
              rw [join_take HX.out, ← HT.out, cat_list, cat_list, one_list, wordB_list]
              unfold stepW spanW
              rw [if_neg HK0.out, if_pos HQ.out]
              simp
          case measure => simp [intOf]; omega
        · have q0 : (0 : Int) < (k : Int) := by omega
          have q1 := bne_yes hq
          have HQ := Lib.hid hq
          have HK0 := Lib.hid hk0
          clear hq hk0
          go_wp2_with fail
          refine (spec_setvalid_at HS.out _ HSP.out HLL.out).mono ?_
          rintro e w1 ⟨rfl, rfl⟩
          go_wp2_with fail
          refine (spec_word a _ ha).mono ?_
          rintro e w2 ⟨rfl, hb2⟩
          have HB2 := Lib.hid (HB.out.trans (hb2.mono HB.out.size))
          have hbl2 : bb < w2.heap.size := Nat.lt_of_lt_of_le hb hb2.size
          have c3 : w2.cell? ⟨bb, o + k * 2, none⟩ = some (.int .i64 (a : Int)) := (hb2.cell (p := ⟨bb, o + k * 2, none⟩) hb).trans c1
          have c4 : w2.cell? ⟨bb, o + k * 2 + 1, none⟩ = some (.int .i64 (z : Int)) := (hb2.cell (p := ⟨bb, o + k * 2 + 1, none⟩) hb).trans c2
          clear hb2 c1 c2
          go_wp2_with fail
          go_quiet (fail)
          go_wp2_with fail
          refine (spec_word z _ hz).mono ?_
          rintro e w3 ⟨rfl, hb3⟩
          have HB3 := Lib.hid ((below_drewN' HB2.out _).trans (hb3.mono (below_drewN' HB2.out _).size))
          clear hb3
          go_wp2_with fail
          go_roundw
          case rel =>
            refine ⟨k + 1, T ++ ⟨#[44]⟩ ++ wordB a ++ ⟨#[58]⟩ ++ wordB z, by omega, by go_num, rfl, ?_, ?_, HB3.out⟩
            · simp only [ByteArray.size_append, one_size]; omega
            · show _ = _
              rw [join_take HX.out, ← HT.out, cat_list, cat_list, cat_list, cat_list, wordB_list, wordB_list, one_list, one_list]
              unfold stepW spanW
              rw [if_neg HK0.out, if_neg HQ.out]
              simp
          case measure => simp [intOf]; omega
      · have hall : T.data.toList = textB L := by
          rw [textB_yes HS.out, HT.out, List.take_of_length_le (by omega)]
        have HALL := Lib.hid hall
        have h5 : ¬ (k : Int) < (L.length : Int) := by omega
        clear hall
        go_wp2_with fail
        go_ret
        exact ⟨T, HALL.out, rfl, HB.out⟩
  · have HS := Lib.hid (Bool.eq_false_iff.2 hs)
    have HN := Lib.hid (textB_no HS.out)
    clear hs
    by_cases h0 : L.length = 0
    · have h0' : ¬ (0 : Int) < (L.length : Int) := by omega
      have h0'' : ¬ 0 < L.length := by omega
      go_enter Tryz.func68, Tryz.ntmps68
      go_wp2
      go_loopw [3, 4] (fun v i wr => i = .int .i64 0 ∧ v = .string ⟨#[]⟩ ∧ Hid (Below w.heap.size w wr)) (fun _ i _ => 0)
      case atStart => exact ⟨by go_num, rfl, Below.refl _ _⟩
      case round =>
        obtain ⟨rfl, rfl, HB⟩ := hrel
        go_wp2_with fail
        go_ret
        exact ⟨⟨#[]⟩, HN.out.symm, rfl, HB.out⟩
    · have h0' : (0 : Int) < (L.length : Int) := by omega
      have h0'' : 0 < L.length := by omega
      clear h0
      go_enter Tryz.func68, Tryz.ntmps68
      go_wp2
      go_loopw [3, 4] (fun v i wr => i = .int .i64 0 ∧ v = .string ⟨#[]⟩ ∧ Hid (Below w.heap.size w wr)) (fun _ i _ => 0)
      case atStart => exact ⟨by go_num, rfl, Below.refl _ _⟩
      case round =>
        obtain ⟨rfl, rfl, HB⟩ := hrel
        go_wp2_with fail
        refine (spec_setvalid_at HS.out _ (H.out.below HB.out (Nat.le_refl _)) HLL.out).mono ?_
        rintro e w1 ⟨rfl, rfl⟩
        go_wp2_with fail
        go_ret
        exact ⟨⟨#[]⟩, HN.out.symm, rfl, HB.out⟩
end Go.Proofs.YtnfigpknejmkmaaGreatDoor
