/-
  The contract of the code's FlagsParse. Condition: the text is not too long; the table holds the five names.
-/
import Derived.Test.YtbcooiifpfdiaaaDoorFflag
import Derived.Test.YtbcooiifpfdiaaaDoorDomain
import Derived.Test.YtbcooiifpfdiaaaDoorImpl
namespace Go.Proofs.YtbcooiifpfdiaaaDoor
open Go.RowKit
set_option linter.unusedVariables false

/-- What a parser of flags leaves. -/
def FPar (w : World) (o : Option Nat) (e : Ending) (w' : World) : Prop := e = .returned (.tuple #[.int .i64 ((o.getD 0 : Nat) : Int), .bool o.isSome]) ∧ Below w.heap.size w w'
theorem fpar_none {w w' : World} {o : Option Nat} (h : o = none) (hb : Below w.heap.size w w') : FPar w o (.returned (.tuple #[.int .i64 0, .bool false])) w' := by
  subst h
  exact ⟨rfl, hb⟩
theorem fpar_some {w w' : World} {o : Option Nat} {f : Nat} (h : o = some f) (hb : Below w.heap.size w w') : FPar w o (.returned (.tuple #[.int .i64 (f : Int), .bool true])) w' := by
  subst h
  exact ⟨rfl, hb⟩
theorem fnext_drop {L : List UInt8} {k : Nat} {c : UInt8} (h : nextIs L k c = true) : L.drop k = c :: L.drop (k + 1) := by
  have hk := nextIs_lt h
  rw [List.drop_eq_getElem_cons hk]
  unfold nextIs at h
  rw [List.getElem?_eq_getElem hk] at h
  have : L[k] = c := by simpa using h
  rw [this]
theorem fnext_ne {L : List UInt8} {k : Nat} {c : UInt8} (h : nextIs L k c = false) (t : List UInt8) : L.drop k ≠ c :: t := by
  intro e
  have h1 := (next_cons (c := c) e).1
  rw [h] at h1
  simp at h1
/-- What is still to be read. -/
def RestF (L : List UInt8) (f k : Nat) : Bool → Prop
  | true => parF L = modF (L.drop k) f
  | false => parF L = if L.drop k = [41] then some f else none
theorem restF_begin {L : List UInt8} (h : nextIs L 0 40 = true) (h2 : L ≠ [40, 41]) : RestF L 0 1 true := by
  have e := fnext_drop h
  rw [List.drop_zero] at e
  show parF L = modF (L.drop 1) 0
  have hr : L.drop 1 ≠ [41] := fun e2 => h2 (by rw [e, e2])
  conv => lhs; rw [e]
  exact parF_mod hr
theorem restF_name {s : ByteArray} {k i : Nat} (h : isNext s k (fnm i) = true) : s.data.toList.drop k = fnm i ++ s.data.toList.drop (k + (fnm i).length) := by
  obtain ⟨t, ht⟩ := List.isPrefixOf_iff_prefix.1 h
  rw [← List.drop_drop, ← ht, List.drop_left]
theorem name_fits {s : ByteArray} {k i : Nat} (h : isNext s k (fnm i) = true) (hk : k ≤ s.size) : k + (fnm i).length ≤ s.size := by
  have e := congrArg List.length (restF_name h)
  rw [List.length_append, List.length_drop] at e
  have : s.data.toList.length = s.size := by simp
  omega
theorem name_alone {s : ByteArray} {k i j : Nat} (hi : i < 5) (hj : j < 5) (h : isNext s k (fnm i) = true) (hne : j ≠ i) : isNext s k (fnm j) = false := by
  cases hx : isNext s k (fnm j) with
  | false => rfl
  | true =>
    exfalso
    have p1 := List.isPrefixOf_iff_prefix.1 h
    have p2 := List.isPrefixOf_iff_prefix.1 hx
    rcases List.prefix_or_prefix_of_prefix p1 p2 with ⟨t, ht⟩ | ⟨t, ht⟩
    · exact hne (fnm_free hj hi ht.symm).2
    · exact hne (fnm_free hi hj ht.symm).2.symm
theorem restF_dup {s : ByteArray} {f k i : Nat} (hi : i < 5) (h : RestF s.data.toList f k true) (hn : isNext s k (fnm i) = true) (ht : tb f i = true) : parF s.data.toList = none := by
  have h1 : parF s.data.toList = modF (s.data.toList.drop k) f := h
  rw [h1, restF_name hn, modF_name hi, ht]
  rfl
theorem restF_blank {s : ByteArray} {f k i q : Nat} (hi : i < 5) (hq : 2 ^ i = q) (h : RestF s.data.toList f k true) (hn : isNext s k (fnm i) = true) (ht : tb f i = false) (hx : nextIs s.data.toList (k + (fnm i).length) 32 = true) : RestF s.data.toList (f + q) (k + (fnm i).length + 1) true := by
  have h1 : parF s.data.toList = modF (s.data.toList.drop k) f := h
  show parF s.data.toList = _
  rw [h1, restF_name hn, modF_name hi, ht, fnext_drop hx, hq]
  rfl
theorem restF_last {s : ByteArray} {f k i q : Nat} (hi : i < 5) (hq : 2 ^ i = q) (h : RestF s.data.toList f k true) (hn : isNext s k (fnm i) = true) (ht : tb f i = false) (hx : nextIs s.data.toList (k + (fnm i).length) 32 = false) : RestF s.data.toList (f + q) (k + (fnm i).length) false := by
  have h1 : parF s.data.toList = modF (s.data.toList.drop k) f := h
  show parF s.data.toList = if _ then _ else _
  rw [h1, restF_name hn, modF_name hi, ht, hq, if_neg (by simp)]
  have hne := fnext_ne hx
  generalize s.data.toList.drop (k + (fnm i).length) = r at hne ⊢
  split
  · exact absurd rfl (hne _)
  · rw [if_pos rfl]
  · rename_i h3
    rw [if_neg h3]
theorem restF_end {L : List UInt8} {f k n : Nat} (hl : L.length = n) (h : RestF L f k false) (hx : nextIs L k 41 = true) (hk : k + 1 = n) : parF L = some f := by
  have h1 : parF L = if _ then _ else _ := h
  rw [h1, fnext_drop hx, List.drop_eq_nil_of_le (by omega), if_pos rfl]
theorem restF_more {L : List UInt8} {f k n : Nat} (hl : L.length = n) (h : RestF L f k false) (hx : nextIs L k 41 = true) (hk : k + 1 < n) : parF L = none := by
  have h1 : parF L = if _ then _ else _ := h
  rw [h1, if_neg]
  rw [fnext_drop hx]
  intro e
  have := congrArg List.length e
  simp at this
  omega
theorem restF_none {L : List UInt8} {f k : Nat} (h : RestF L f k false) (hx : nextIs L k 41 = false) : parF L = none := by
  have h1 : parF L = if _ then _ else _ := h
  rw [h1, if_neg (fnext_ne hx _)]
theorem restF_bad {s : ByteArray} {f k : Nat} (h : RestF s.data.toList f k true) (hn : ∀ j, j < 5 → isNext s k (fnm j) = false) : parF s.data.toList = none := by
  have h1 : parF s.data.toList = modF (s.data.toList.drop k) f := h
  rw [h1]
  exact modF_none hn f
theorem head_no {L : List UInt8} (h : nextIs L 0 40 = false) : parF L = none := by
  refine parF_head ?_
  rw [List.head?_eq_getElem?]
  unfold nextIs at h
  exact beq_eq_false_iff_ne.1 h
theorem two_is {s : ByteArray} (h : s.data.toList = [40, 41]) : (s.toList == [40, 41]) = true := by rw [ByteArray.toList_eq, h]; rfl
theorem two_not {s : ByteArray} (h : s.data.toList ≠ [40, 41]) : (s.toList == [40, 41]) = false := by rw [ByteArray.toList_eq]; exact beq_eq_false_iff_ne.2 h
theorem ftwo_is {s : ByteArray} (h : s.data.toList = [40, 41]) : s.toList = [40, 41] := by rw [ByteArray.toList_eq, h]
theorem ftwo_not {s : ByteArray} (h : s.data.toList ≠ [40, 41]) : ¬ s.toList = [40, 41] := by rw [ByteArray.toList_eq]; exact h

set_option maxRecDepth 20000 in
set_option maxHeartbeats 4000000 in
theorem impl_fparse (s : ByteArray) (w : World) (hs : s.size ≤ 16777216) (hL : Lst w) :
    Calls Tryd.prog 15 #[.string s] w (FPar w (parF s.data.toList)) := by
  by_cases h2 : s.data.toList = [40, 41]
  · have hE := two_is h2
    have hE' := ftwo_is h2
    have HP := Lib.hid (show parF s.data.toList = some 0 by rw [h2]; exact parF_two)
    clear h2
    go_enter Tryd.func15, Tryd.ntmps15
    go_wp2
    go_ret2
    exact fpar_some (f := 0) HP.out (Below.refl _ _)
  · have hE := two_not h2
    have hE' := ftwo_not h2
    have hl : s.data.toList.length = s.size := by simp
    have HL := Lib.hid hl
    have HL2 := Lib.hid hL
    have hsz : (w.alloc (.cells #[.string s, .int .i64 0] 46)).heap.size = w.heap.size + 1 := by simp
    have HCN := Lib.hid (cur_new w s)
    have HBN := Lib.hid ((Below.refl w.heap.size w).alloc (Nat.le_refl _) (.cells #[.string s, .int .i64 0] 46))
    by_cases hx : nextIs s.data.toList 0 40 = true
    · have HX := Lib.hid hx
      have HRB := Lib.hid (restF_begin hx h2)
      have h1s : 1 ≤ s.size := by have := nextIs_lt hx; omega
      clear hx h2 hl
      go_enter Tryd.func15, Tryd.ntmps15
      go_wp2_with fail
      refine (take_at_yes 40 40 rfl w.heap.size 0 s _ HCN.out hs (Nat.zero_le _) HX.out).mono ?_
      rintro e w1 ⟨rfl, hc, hg⟩
      have HC1 := Lib.hid hc
      have HB1 := Lib.hid (below_gr HBN.out hg (by omega) (Nat.le_refl _))
      have hz1 : w.heap.size < w1.heap.size := Whole.lt hc
      clear hc hg
      go_wp2
      go_loopg [5, 6] (s.size + 1) (fun g v m wr => ∃ (k f : Nat) (o : Bool), k ≤ s.size ∧ f < 32 ∧ g = (if o then s.size + 2 - k else 0) ∧ v = .int .i64 (f : Int) ∧ m = .bool o ∧ w.heap.size < wr.heap.size ∧ Hid (Cur wr w.heap.size s k) ∧ Hid (Below w.heap.size w wr) ∧ Hid (RestF s.data.toList f k o))
      case atStart => exact ⟨1, 0, true, h1s, by omega, by simp, rfl, rfl, hz1, HC1.out, HB1.out, HRB.out⟩
      case round =>
        obtain ⟨k, f, o, hk, hf, hg, rfl, rfl, hwz, HC, HB, HR⟩ := hrel
        have HG := Lib.hid hg
        clear hg
        cases o with
        | false =>
          by_cases hx : nextIs s.data.toList k 41 = true
          · have HX1 := Lib.hid hx
            have hkl : k + 1 ≤ s.size := by have := nextIs_lt hx; have := HL.out; omega
            clear hx
            go_wp2_with fail
            refine (take_at_yes 41 41 rfl w.heap.size k s _ HC.out hs hk HX1.out).mono ?_
            rintro e w2 ⟨rfl, hc, hg⟩
            have HC2 := Lib.hid hc
            have HB2 := Lib.hid (below_gr HB.out hg (by omega) (Nat.le_refl _))
            clear hc hg
            by_cases hz : k + 1 = s.size
            · have HZ := Lib.hid hz
              clear hz
              go_wp2_with fail
              refine (done_yes w.heap.size (k + 1) s _ HC2.out HZ.out).mono ?_
              rintro e w3 ⟨rfl, n, hw⟩
              subst w3
              go_wp2
              go_ret2
              exact fpar_some (restF_end HL.out HR.out HX1.out HZ.out) (below_drewN' HB2.out _)
            · have HZ : Hid (k + 1 < s.size) := by show _ < _; omega
              clear hz
              go_wp2_with fail
              refine (done_no w.heap.size (k + 1) s _ HC2.out HZ.out).mono ?_
              rintro e w3 ⟨rfl, n, hw⟩
              subst w3
              go_wp2
              go_ret2
              exact fpar_none (restF_more HL.out HR.out HX1.out HZ.out) (below_drewN' HB2.out _)
          · have HX1 := Lib.hid (Bool.eq_false_iff.2 hx)
            clear hx
            go_wp2_with fail
            refine (take_at_no 41 41 rfl w.heap.size k s _ HC.out hs hk HX1.out).mono ?_
            rintro e w2 ⟨rfl, hc, hg⟩
            have HB2 := Lib.hid (below_gr HB.out hg (by omega) (Nat.le_refl _))
            clear hc hg
            go_wp2
            go_ret2
            exact fpar_none (restF_none HR.out HX1.out) HB2.out
        | true =>
          by_cases hex : ∃ i, i < 5 ∧ isNext s k (fnm i) = true
          · obtain ⟨i, hi, hy⟩ := hex
            obtain ⟨q, hq⟩ : ∃ q, 2 ^ i = q := ⟨_, rfl⟩
            obtain ⟨q1, q2⟩ := pow_five hi hq
            have HY := Lib.hid hy
            have HQ := Lib.hid hq
            have HNA := Lib.hid (fun (j : Nat) (hj : j < i) => name_alone (j := j) hi (by omega) hy (by omega))
            have HV := Lib.hid (have_flag hf hi hq)
            have hkf := name_fits hy hk
            have hn1 := fnm_pos i
            obtain ⟨k1, hk1⟩ : ∃ k1, k + (fnm i).length = k1 := ⟨_, rfl⟩
            have HK1 := Lib.hid hk1
            rw [hk1] at hkf
            have hkk : k < k1 := by omega
            clear hy hq hk1 hn1
            go_wp2_with fail
            refine (flag_some w.heap.size k i q s _ HC.out (HL2.out.below HB.out (Nat.le_refl _)) hs hk hi HQ.out HY.out HNA.out).mono ?_
            rw [HK1.out]
            rintro e w2 ⟨rfl, hc, hg⟩
            have HC2 := Lib.hid hc
            have HB2 := Lib.hid (below_gr HB.out hg (by omega) (Nat.le_refl _))
            have hz2 : w.heap.size < w2.heap.size := Whole.lt hc
            clear hc hg
            go_wp2_with fail
            refine (impl_have (f : Int) (q : Int) _).mono ?_
            rintro e w3 ⟨rfl, n3, hw⟩
            subst w3
            rw [HV.out]
            cases ht : tb f i with
            | true =>
              have HT := Lib.hid ht
              clear ht
              go_wp2
              go_ret2
              exact fpar_none (restF_dup hi HR.out HY.out HT.out) (below_drewN' HB2.out _)
            | false =>
              have HT := Lib.hid ht
              have hsum := (tb_add hf hi ht).1
              have W1 : IntKind.i64.wrap ((f : Int) + (q : Int)) = ((f + q : Nat) : Int) := (IntWalk.i64_in _ (by omega)).trans (by omega)
              obtain ⟨f1, hf1⟩ : ∃ f1, f + q = f1 := ⟨_, rfl⟩
              have HF1 := Lib.hid hf1
              rw [hf1] at W1
              have hf1l : f1 < 32 := by rw [← hf1, ← HQ.out]; exact hsum
              clear ht hsum hf1
              by_cases hx : nextIs s.data.toList k1 32 = true
              · have HX1 := Lib.hid hx
                have hkl : k1 + 1 ≤ s.size := by have := nextIs_lt hx; have := HL.out; omega
                clear hx
                go_wp2_with fail
                refine (take_at_yes 32 32 rfl w.heap.size k1 s _ (HC2.out.drewN n3) hs hkf HX1.out).mono ?_
                rintro e w4 ⟨rfl, hc, hg⟩
                have HC4 := Lib.hid hc
                have HB4 := Lib.hid (below_gr (below_drewN' HB2.out n3) hg (by simp; omega) (Nat.le_refl _))
                have hz4 : w.heap.size < w4.heap.size := Whole.lt hc
                clear hc hg
                go_wp2
                go_roundg (s.size + 2 - (k1 + 1))
                case measure => have := HG.out; simp at this; omega
                case rel => exact ⟨k1 + 1, f1, true, hkl, hf1l, by simp, by first | rfl | go_num, rfl, hz4, HC4.out, HB4.out, by rw [← HF1.out, ← HK1.out]; exact restF_blank hi HQ.out HR.out HY.out HT.out (by rw [HK1.out]; exact HX1.out)⟩
              · have HX1 := Lib.hid (Bool.eq_false_iff.2 hx)
                clear hx
                go_wp2_with fail
                refine (take_at_no 32 32 rfl w.heap.size k1 s _ (HC2.out.drewN n3) hs hkf HX1.out).mono ?_
                rintro e w4 ⟨rfl, hc, hg⟩
                have HC4 := Lib.hid hc
                have HB4 := Lib.hid (below_gr (below_drewN' HB2.out n3) hg (by simp; omega) (Nat.le_refl _))
                have hz4 : w.heap.size < w4.heap.size := Whole.lt hc
                clear hc hg
                go_wp2
                go_roundg 0
                case measure => have := HG.out; simp at this; omega
                case rel => exact ⟨k1, f1, false, hkf, hf1l, by simp, by first | rfl | go_num, rfl, hz4, HC4.out, HB4.out, by rw [← HF1.out, ← HK1.out]; exact restF_last hi HQ.out HR.out HY.out HT.out (by rw [HK1.out]; exact HX1.out)⟩
          · have HNN : Hid (∀ j, j < 5 → isNext s k (fnm j) = false) := fun j hj => Bool.eq_false_iff.2 fun h => hex ⟨j, hj, h⟩
            clear hex
            go_wp2_with fail
            refine (flag_none w.heap.size k s _ HC.out (HL2.out.below HB.out (Nat.le_refl _)) hs hk HNN.out).mono ?_
            rintro e w2 ⟨rfl, hc, hg⟩
            have HB2 := Lib.hid (below_gr HB.out hg (by omega) (Nat.le_refl _))
            clear hc hg
            go_wp2
            go_ret2
            exact fpar_none (restF_bad HR.out HNN.out) HB2.out
    · have HX := Lib.hid (Bool.eq_false_iff.2 hx)
      clear hx h2 hl
      go_enter Tryd.func15, Tryd.ntmps15
      go_wp2_with fail
      refine (take_at_no 40 40 rfl w.heap.size 0 s _ HCN.out hs (Nat.zero_le _) HX.out).mono ?_
      rintro e w1 ⟨rfl, hc, hg⟩
      have HB1 := Lib.hid (below_gr HBN.out hg (by omega) (Nat.le_refl _))
      clear hc hg
      go_wp2
      go_ret2
      exact fpar_none (head_no HX.out) HB1.out
end Go.Proofs.YtbcooiifpfdiaaaDoor
