/-
  The contract of spec.l1Cut: the parts of a text at a byte. No condition beyond a bound on the text's length.
-/
import Derived.Test.YtkhfflbgnojcfaaSpec
import Derived.Maps.AppendAt
import Derived.Deep.AppendLies
namespace Go.Proofs.Ytkhfflbgnojcfaa
open Go.RowKit
set_option linter.unusedVariables false

/-- A string value. -/
def str (l : List UInt8) : Value := .string ⟨l.toArray⟩
theorem str_of (s : ByteArray) : Value.string s = str s.data.toList := by
  unfold str
  cases s
  simp
/-- The parts of a text at a byte, the first one begun with 'cur'. -/
def cutGo (c : UInt8) : List UInt8 → List UInt8 → List (List UInt8)
  | cur, [] => [cur]
  | cur, x :: t => if x = c then cur :: cutGo c [] t else cutGo c (cur ++ [x]) t
/-- The parts of a text at a byte. -/
def cut (c : UInt8) (L : List UInt8) : List (List UInt8) := cutGo c [] L

theorem cutGo_len (c : UInt8) (l : List UInt8) : ∀ cur, 1 ≤ (cutGo c cur l).length ∧ (cutGo c cur l).length ≤ l.length + 1 := by
  induction l with
  | nil => intro cur; simp [cutGo]
  | cons x t ih =>
    intro cur
    unfold cutGo
    split
    · have := ih []; simp; omega
    · have := ih (cur ++ [x]); simp; omega
theorem cut_len (c : UInt8) (L : List UInt8) : 1 ≤ (cut c L).length ∧ (cut c L).length ≤ L.length + 1 := cutGo_len c L []

/-- What the loop has found: the parts 'P', and where the next one begins. -/
def CutAt (c : UInt8) (L : List UInt8) (P : List (List UInt8)) (f i : Nat) : Prop := cut c L = P ++ cutGo c ((L.drop f).take (i - f)) (L.drop i)

theorem CutAt.begin (c : UInt8) (L : List UInt8) : CutAt c L [] 0 0 := by unfold CutAt cut; simp
theorem CutAt.hit {c : UInt8} {L : List UInt8} {P : List (List UInt8)} {f i : Nat} (h : CutAt c L P f i) (hi : i < L.length) (hc : L[i] = c) : CutAt c L (P ++ [(L.drop f).take (i - f)]) (i + 1) (i + 1) := by
  unfold CutAt at h ⊢
  rw [h, List.drop_eq_getElem_cons hi]
  conv => lhs; rw [cutGo, if_pos hc]
  simp
theorem CutAt.miss {c : UInt8} {L : List UInt8} {P : List (List UInt8)} {f i : Nat} (h : CutAt c L P f i) (hf : f ≤ i) (hi : i < L.length) (hc : L[i] ≠ c) : CutAt c L P f (i + 1) := by
  unfold CutAt at h ⊢
  rw [h, List.drop_eq_getElem_cons hi]
  conv => lhs; rw [cutGo, if_neg hc]
  congr 2
  have e : i + 1 - f = (i - f) + 1 := by omega
  rw [e, List.take_succ_eq_append_getElem (by rw [List.length_drop]; omega), List.getElem_drop]
  congr 2
  congr 1
  omega
theorem CutAt.finish {c : UInt8} {L : List UInt8} {P : List (List UInt8)} {f : Nat} (h : CutAt c L P f L.length) : cut c L = P ++ [L.drop f] := by
  unfold CutAt at h
  rw [h, List.drop_length]
  unfold cutGo
  congr 2
  rw [List.take_of_length_le (by rw [List.length_drop]; omega)]
theorem CutAt.len {c : UInt8} {L : List UInt8} {P : List (List UInt8)} {f i : Nat} (h : CutAt c L P f i) : P.length ≤ L.length := by
  have h1 := cut_len c L
  unfold CutAt at h
  rw [h, List.length_append] at h1
  have h2 := cutGo_len c (L.drop i) ((L.drop f).take (i - f))
  omega

theorem Try.infoString : (Try.prog.info? 9).map (fun i => (i.zero, i.size, i.bytes)) = some (some (.string ⟨#[]⟩), 1, 16) := by kernel_rfl

/-- What 'l1Cut' leaves: a slice that holds the parts. -/
def Cuts (w : World) (ps : List (List UInt8)) (e : Ending) (w' : World) : Prop :=
  ∃ (g cap : Nat), e = .returned (.slice (some ⟨g, 0, none⟩) ps.length cap) ∧ w.heap.size ≤ g ∧ g < w'.heap.size ∧ (∀ j, j < ps.length → w'.cell? ⟨g, j, none⟩ = some (str (ps.getD j []))) ∧ Below w.heap.size w w'

set_option maxHeartbeats 2000000 in
theorem cut_any (s : ByteArray) (c : UInt8) (w : World) (hs : s.size ≤ 16777216) :
    Calls Try.prog 48 #[.string s, .int .u8 (c.toNat : Int)] w (Cuts w (cut c s.data.toList)) := by
  have hl : s.data.toList.length = s.size := by simp
  have HL := Lib.hid hl
  clear hl
  obtain ⟨i0, hi, hz0, hz1, hz2⟩ := info_parts Try.infoString
  go_enter Try.func48, Try.ntmps48
  go_wp2
  go_loopw [5, 6, 7] (fun v fr i wr => ∃ (k f : Nat) (P : List (List UInt8)), k ≤ s.size ∧ f ≤ k ∧ fr = .int .i64 (f : Int) ∧ i = .int .i64 (k : Int) ∧ wr.ownsRow w.heap.size 9 1 v P.length (P.map str) ∧ Below w.heap.size w wr ∧ CutAt c s.data.toList P f k)
    (fun _ _ i _ => s.size - (intOf i).toNat)
  case atStart =>
    exact ⟨0, 0, [], Nat.zero_le _, Nat.le_refl _, by go_num, by go_num, World.ownsRow_lit w #[] 0 (Nat.le_refl _) (by unfold maxLen; omega) rfl, (Below.refl _ _).alloc (Nat.le_refl _) _, CutAt.begin _ _⟩
  case round =>
    obtain ⟨k, f, P, hk, hf, rfl, rfl, hown, hbel, hcut⟩ := hrel
    have hP : P.length ≤ s.size := by have := hcut.len; have := HL.out; omega
    have hz := hbel.size
    have HC := Lib.hid hcut
    have HB := Lib.hid hbel
    clear hcut hbel
    have h0 : (0 : Int) ≤ (f : Int) := by omega
    have h1 : (f : Int) ≤ (k : Int) := by omega
    have h2 : (k : Int) ≤ (s.size : Int) := by omega
    have h2' : (f : Int) ≤ (s.size : Int) := by omega
    by_cases hlt : k < s.size
    · have h3 : (k : Int) < (s.size : Int) := by omega
      by_cases hc : s[k] = c
      · have hcb : ((s[k].toNat : Int) == (c.toNat : Int)) = true := by rw [hc]; simp
        have HE := Lib.hid hc
        clear hc
        go_wp2_with (at_builtin; refine wpList_append_own _ rfl _ _ 64 rfl w.heap.size 9 i0 (.string ⟨#[]⟩) 1 16 Try.underlying64 hi hz0 hz1 hz2 rfl (by decide) _ _ _ rfl (hown.alloc _) ⟨wr.heap.size, 0, none⟩ 1 1 [.string (s.extract f k)] rfl rfl ?c1 ?c2 ?c3 ?c4 ?c5 ?_)
        case c1 =>
          intro j u hj
          match j, hj with
          | 0, hj => simp at hj; subst hj; simp [Addr.add]
        case c2 => intro u hu; simp at hu; subst hu; rfl
        case c3 => unfold maxLen; omega
        case c4 => omega
        case c5 => simp; omega
        intro v' w1 hown1 hgrow _
        have hbl := (HB.out.alloc hz (.cells #[.string (s.extract f k)] 9)).grown hgrow (by simp; omega) (fun q hq => (hown.lt q hq).1)
        have HO := Lib.hid hown1
        have HBL := Lib.hid hbl
        clear hown1 hgrow hbl hown
        go_wp2
        go_roundw
        case rel =>
          refine ⟨k + 1, k + 1, P ++ [(s.data.toList.drop f).take (k - f)], by omega, Nat.le_refl _, by go_num, by go_num, ?_, HBL.out, HC.out.hit (by rw [HL.out]; exact hlt) HE.out⟩
          have := HO.out
          rw [str_of, extract_list] at this
          simpa using this
        case measure => simp [intOf]; omega
      · have hcb : ((s[k].toNat : Int) == (c.toNat : Int)) = false := by
          have : s[k].toNat ≠ c.toNat := fun e => hc (UInt8.toNat_inj.1 e)
          simp; omega
        have HE := Lib.hid hc
        clear hc
        go_wp2
        go_roundw
        case rel => exact ⟨k + 1, f, P, by omega, by omega, rfl, by go_num, hown, HB.out, HC.out.miss hf (by rw [HL.out]; exact hlt) HE.out⟩
        case measure => simp [intOf]; omega
    · have hkk : k = s.size := by omega
      have HK := Lib.hid hkk
      clear hkk
      go_wp2_with (at_builtin; refine wpList_append_own _ rfl _ _ 64 rfl w.heap.size 9 i0 (.string ⟨#[]⟩) 1 16 Try.underlying64 hi hz0 hz1 hz2 rfl (by decide) _ _ _ rfl (hown.alloc _) ⟨wr.heap.size, 0, none⟩ 1 1 [.string (s.extract f s.size)] rfl rfl ?c1 ?c2 ?c3 ?c4 ?c5 ?_)
      case c1 =>
        intro j u hj
        match j, hj with
        | 0, hj => simp at hj; subst hj; simp [Addr.add]
      case c2 => intro u hu; simp at hu; subst hu; rfl
      case c3 => unfold maxLen; omega
      case c4 => omega
      case c5 => simp; omega
      intro v' w1 hown1 hgrow _
      have hbl := (HB.out.alloc hz (.cells #[.string (s.extract f s.size)] 9)).grown hgrow (by simp; omega) (fun q hq => (hown.lt q hq).1)
      have HO := Lib.hid hown1
      have HBL := Lib.hid hbl
      clear hown1 hgrow hbl hown
      go_wp2
      go_ret
      have e1 : cut c s.data.toList = P ++ [s.data.toList.drop f] := by
        have h := HC.out
        rw [HK.out, ← HL.out] at h
        exact h.finish
      have hn : (cut c s.data.toList).length = P.length + 1 := by rw [e1]; simp
      have hown2 : w1.ownsRow w.heap.size 9 1 v' (cut c s.data.toList).length ((cut c s.data.toList).map str) := by
        have := HO.out
        rw [str_of, extract_list] at this
        rw [hn, e1]
        have e2 : (s.data.toList.drop f).take (s.size - f) = s.data.toList.drop f := List.take_of_length_le (by rw [List.length_drop, HL.out]; omega)
        rw [e2] at this
        simpa using this
      obtain ⟨g, cap, rfl, hg1, hg2⟩ := hown2.form (by omega)
      refine ⟨g, cap, rfl, hg1, hg2, fun j hj => ?_, HBL.out⟩
      rw [hown2.cellAt j (by omega)]
      rw [List.getElem?_map, List.getElem?_eq_getElem hj, List.getD_eq_getElem?_getD, List.getElem?_eq_getElem hj]
      rfl
end Go.Proofs.Ytkhfflbgnojcfaa
