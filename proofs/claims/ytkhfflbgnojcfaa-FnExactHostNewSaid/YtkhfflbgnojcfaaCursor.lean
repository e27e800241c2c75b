/-
  The contracts of the cursor's methods. No condition beyond a cursor that lies in a block of its own and whose place is in the text.
-/
import Derived.Test.YtkhfflbgnojcfaaProg
import Derived.Test.YtkhfflbgnojcfaaBase
import Derived.Test.YtkhfflbgnojcfaaMath
import Derived.WalkKit
import Derived.Deep.QuietTactic
import Derived.Deep.LoopGhost
import Derived.BigQuiet
import Derived.Lib.Hide
import Derived.Outline
namespace Go.Proofs.Ytkhfflbgnojcfaa
open Go.RowKit
set_option linter.unusedVariables false

set_option maxHeartbeats 400000 in
theorem sign_any (c : UInt8) (w : World) : Calls Try.prog 66 #[.int .u8 (c.toNat : Int)] w fun e w' => e = .returned (.bool (sgn c)) ∧ w' = w := by
  by_cases h1 : (97 : Int) ≤ (c.toNat : Int) <;> by_cases h2 : (c.toNat : Int) ≤ 122 <;> by_cases h3 : (48 : Int) ≤ (c.toNat : Int) <;> by_cases h4 : (c.toNat : Int) ≤ 57
  all_goals first
    | (exfalso; omega)
    | (go_enter Try.func66, Try.ntmps66
       go_wp2
       go_ret
       refine ⟨ret_bool ?_, rfl⟩
       unfold sgn
       first
         | exact (decide_eq_true (by omega)).symm
         | exact (decide_eq_false (by omega)).symm)
theorem sign_yes (c : UInt8) (w : World) (h : sgn c = true) : Calls Try.prog 66 #[.int .u8 (c.toNat : Int)] w fun e w' => e = .returned (.bool true) ∧ w' = w := h ▸ sign_any c w
theorem sign_no (c : UInt8) (w : World) (h : sgn c = false) : Calls Try.prog 66 #[.int .u8 (c.toNat : Int)] w fun e w' => e = .returned (.bool false) ∧ w' = w := h ▸ sign_any c w

/-- The cursor's block: the text and the place. -/
def Cur (w : World) (b : Nat) (s : ByteArray) (k : Nat) : Prop := Whole w b 70 #[.string s, .int .i64 (k : Int)]

section
variable {w w' : World} {b k : Nat} {s : ByteArray}
theorem Cur.text (h : Cur w b s k) : w.cell? ⟨b, 0, none⟩ = some (.string s) := Whole.cell h 0
theorem Cur.place (h : Cur w b s k) : w.cell? ⟨b, 1, none⟩ = some (.int .i64 (k : Int)) := Whole.cell h 1
theorem Cur.free (h : Cur w b s k) (i : Nat) : w.frozen? ⟨b, i, none⟩ = false := Whole.free h i
theorem Cur.drewN (h : Cur w b s k) (n : Nat) : Cur (w.drewN n) b s k := h
theorem Cur.go (h : Cur w b s k) : Cur (w.setCell ⟨b, 1, none⟩ (.int .i64 ((k + 1 : Nat) : Int))) b s (k + 1) := Whole.store h 1 _
end

set_option maxHeartbeats 400000 in
theorem done_yes (b k : Nat) (s : ByteArray) (w : World) (h : Cur w b s k) (hk : k = s.size) :
    Calls Try.prog 38 #[.pointer (some ⟨b, 0, none⟩)] w fun e w' => e = .returned (.bool true) ∧ ∃ n, w' = w.drewN n := by
  have ht := h.text
  have hp := h.place
  clear h
  have hd : ((k : Int) == (s.size : Int)) = true := by rw [int_beq]; simpa using hk
  clear hk
  go_enter Try.func38, Try.ntmps38
  go_wp2
  go_quiet (fail)
  go_wp2
  go_ret
  exact ⟨rfl, _, rfl⟩
set_option maxHeartbeats 400000 in
theorem done_no (b k : Nat) (s : ByteArray) (w : World) (h : Cur w b s k) (hk : k < s.size) :
    Calls Try.prog 38 #[.pointer (some ⟨b, 0, none⟩)] w fun e w' => e = .returned (.bool false) ∧ ∃ n, w' = w.drewN n := by
  have ht := h.text
  have hp := h.place
  clear h
  have hd : ((k : Int) == (s.size : Int)) = false := by rw [int_beq]; simp; omega
  clear hk
  go_enter Try.func38, Try.ntmps38
  go_wp2
  go_quiet (fail)
  go_wp2
  go_ret
  exact ⟨rfl, _, rfl⟩

/-- 'take' where the next byte is asked for. -/
def Took (w : World) (b : Nat) (s : ByteArray) (k : Nat) (r : Bool) (e : Ending) (w' : World) : Prop := e = .returned (.bool r) ∧ Cur w' b s k ∧ w.grownBy w' (some b)
set_option maxHeartbeats 400000 in
theorem take_yes (b k : Nat) (s : ByteArray) (c : UInt8) (w : World) (h : Cur w b s k) (hs : s.size ≤ 16777216) (hk : k < s.size) (hc : s[k] = c) :
    Calls Try.prog 57 #[.pointer (some ⟨b, 0, none⟩), .int .u8 (c.toNat : Int)] w (Took w b s (k + 1) true) := by
  have ht := h.text
  have hp := h.place
  have hf := h.free 1
  have H := Lib.hid h
  clear h
  subst hc
  have hne : ((s[k].toNat : Int) != (s[k].toNat : Int)) = false := by simp
  have h0 : (0 : Int) ≤ (k : Int) := by omega
  have h1 : (k : Int) < (s.size : Int) := by omega
  go_enter Try.func57, Try.ntmps57
  go_wp2
  go_quiet ((go_at_call 38; exact Calls.quiet_of (done_no b k s _ (H.out.drewN _) hk)))
  go_wp2
  go_ret
  exact ⟨rfl, H.out.go.drewN _, gr_drewN (gr_store (gr_refl _ _) (.inl rfl) _) _⟩
set_option maxHeartbeats 400000 in
theorem take_end (b k : Nat) (s : ByteArray) (c : UInt8) (w : World) (h : Cur w b s k) (hk : k = s.size) :
    Calls Try.prog 57 #[.pointer (some ⟨b, 0, none⟩), .int .u8 (c.toNat : Int)] w (Took w b s k false) := by
  have ht := h.text
  have hp := h.place
  have H := Lib.hid h
  have K := Lib.hid hk
  clear h hk
  go_enter Try.func57, Try.ntmps57
  go_wp2
  go_quiet ((go_at_call 38; exact Calls.quiet_of (done_yes b k s _ (H.out.drewN _) K.out)))
  go_wp2
  go_ret
  exact ⟨rfl, H.out.drewN _, gr_drewN (gr_refl _ _) _⟩
set_option maxHeartbeats 400000 in
theorem take_other (b k : Nat) (s : ByteArray) (c : UInt8) (w : World) (h : Cur w b s k) (hs : s.size ≤ 16777216) (hk : k < s.size) (hc : s[k] ≠ c) :
    Calls Try.prog 57 #[.pointer (some ⟨b, 0, none⟩), .int .u8 (c.toNat : Int)] w (Took w b s k false) := by
  have ht := h.text
  have hp := h.place
  have H := Lib.hid h
  clear h
  have hne : ((s[k].toNat : Int) != (c.toNat : Int)) = true := by
    have : s[k].toNat ≠ c.toNat := fun e => hc (UInt8.toNat_inj.1 e)
    simp; omega
  clear hc
  have h0 : (0 : Int) ≤ (k : Int) := by omega
  have h1 : (k : Int) < (s.size : Int) := by omega
  go_enter Try.func57, Try.ntmps57
  go_wp2
  go_quiet ((go_at_call 38; exact Calls.quiet_of (done_no b k s _ (H.out.drewN _) hk)))
  go_wp2
  go_ret
  exact ⟨rfl, H.out.drewN _, gr_drewN (gr_refl _ _) _⟩

theorem take_any (b k : Nat) (s : ByteArray) (c : UInt8) (w : World) (h : Cur w b s k) (hs : s.size ≤ 16777216) (hk : k ≤ s.size) :
    Calls Try.prog 57 #[.pointer (some ⟨b, 0, none⟩), .int .u8 (c.toNat : Int)] w (Took w b s (if nextIs s.data.toList k c then k + 1 else k) (nextIs s.data.toList k c)) := by
  have hl : s.data.toList.length = s.size := by simp
  by_cases h1 : k < s.size
  · have e : s.data.toList[k]? = some s[k] := List.getElem?_eq_getElem (by omega)
    by_cases h2 : s[k] = c
    · have : nextIs s.data.toList k c = true := by unfold nextIs; rw [e, h2]; simp
      rw [this]
      exact take_yes b k s c w h hs h1 h2
    · have : nextIs s.data.toList k c = false := by unfold nextIs; rw [e]; simpa using h2
      rw [this]
      exact take_other b k s c w h hs h1 h2
  · have : nextIs s.data.toList k c = false := by unfold nextIs; rw [List.getElem?_eq_none (by omega)]; rfl
    rw [this]
    exact take_end b k s c w h (by omega)

/-- What 'name' leaves: the text of the signs, if there are not too few or too many, and the place behind them. -/
def Named (w : World) (b : Nat) (s : ByteArray) (k : Nat) (e : Ending) (w' : World) : Prop :=
  ∃ v : ByteArray, e = .returned (.tuple #[.string v, .bool (okLen (nmLen s.data.toList k))]) ∧ v.data.toList = (if okLen (nmLen s.data.toList k) then (s.data.toList.drop k).take (nmLen s.data.toList k) else []) ∧
    Cur w' b s (k + nmLen s.data.toList k) ∧ w.grownBy w' (some b)

theorem ret_two {a b : Value} {c d : Bool} (h1 : a = b) (h2 : c = d) : Ending.returned (.tuple #[a, .bool c]) = .returned (.tuple #[b, .bool d]) := by rw [h1, h2]
theorem named_no {b k j : Nat} {s : ByteArray} {w wr : World} (n : Nat) (hgr : w.grownBy wr (some b)) (hc : Cur wr b s j) (hk : nmLen s.data.toList k = j - k) (hn : j - k = 0 ∨ 8 < j - k) (h3 : (k : Int) ≤ (j : Int)) :
    Named w b s k (.returned (.tuple #[.string ⟨#[]⟩, .bool false])) (wr.drewN n) := by
  have ho : okLen (nmLen s.data.toList k) = false := by
    unfold okLen
    rw [hk]
    rcases hn with h | h
    · rw [decide_eq_false (p := 1 ≤ j - k) (by omega)]; rfl
    · rw [decide_eq_false (p := j - k ≤ 8) (by omega)]; simp
  refine ⟨⟨#[]⟩, ?_, ?_, ?_, gr_drewN hgr _⟩
  · rw [ho]
  · rw [ho]; rfl
  · rw [hk]
    have : k + (j - k) = j := by omega
    rw [this]
    exact hc.drewN _
theorem named_yes {b k j : Nat} {s : ByteArray} {w wr : World} (n : Nat) (hgr : w.grownBy wr (some b)) (hc : Cur wr b s j) (hk : nmLen s.data.toList k = j - k) (hn : 1 ≤ j - k) (hn8 : j - k ≤ 8) (h3 : (k : Int) ≤ (j : Int)) :
    Named w b s k (.returned (.tuple #[.string (s.extract k j), .bool true])) (wr.drewN n) := by
  have ho : okLen (nmLen s.data.toList k) = true := by
    unfold okLen
    rw [hk, decide_eq_true hn, decide_eq_true hn8]; rfl
  refine ⟨s.extract k j, ?_, ?_, ?_, gr_drewN hgr _⟩
  · rw [ho]
  · rw [ho, if_pos rfl, hk]; exact extract_list _ _ _
  · rw [hk]
    have : k + (j - k) = j := by omega
    rw [this]
    exact hc.drewN _

set_option maxHeartbeats 1000000 in
theorem name_any (b k : Nat) (s : ByteArray) (w : World) (h : Cur w b s k) (hs : s.size ≤ 16777216) (hk : k ≤ s.size) :
    Calls Try.prog 56 #[.pointer (some ⟨b, 0, none⟩)] w (Named w b s k) := by
  have hl : s.data.toList.length = s.size := by simp
  have hp := h.place
  have H := Lib.hid h
  have HL := Lib.hid hl
  clear h hl
  go_enter Try.func56, Try.ntmps56
  go_wp2
  clear hp
  go_loopg [] (s.size - k) (fun g wr => ∃ j, k ≤ j ∧ j ≤ s.size ∧ g = s.size - j ∧ j + nmLen s.data.toList j = k + nmLen s.data.toList k ∧ Cur wr b s j ∧ w.grownBy wr (some b))
  case atStart => exact ⟨k, Nat.le_refl _, hk, rfl, rfl, H.out, gr_refl _ _⟩
  case round =>
    obtain ⟨j, hkj, hjs, hg, hnm, hcur, hgr⟩ := hrel
    have HN := Lib.hid hnm
    have HG := Lib.hid hg
    clear hnm hg
    have HC := Lib.hid hcur
    have hte := hcur.text
    have hpl := hcur.place
    have hfr := hcur.free 1
    have h0 : (0 : Int) ≤ (j : Int) := by omega
    clear hcur
    by_cases hgo : ∃ hj : j < s.size, sgn s[j] = true
    · obtain ⟨hj, hsg⟩ := hgo
      have h1 : (j : Int) < (s.size : Int) := by omega
      have HS := Lib.hid hsg
      clear hsg
      go_wp2
      go_quiet ((first
        | (go_at_call 38; exact Calls.quiet_of (done_no b j s _ (HC.out.drewN _) hj))
        | (go_at_call 66; exact Calls.quiet_of_same (sign_yes _ _ HS.out))))
      go_wp2
      go_roundg (s.size - (j + 1))
      case measure => have := HG.out; omega
      case rel =>
        refine ⟨j + 1, by omega, by omega, rfl, ?_, (HC.out.drewN _).go, gr_store (gr_drewN hgr _) (.inl rfl) _⟩
        have e1 := nmLen_go s.data.toList j (by rw [HL.out]; exact hj) HS.out
        have e2 := HN.out
        omega
    · have HK : Hid (nmLen s.data.toList k = j - k) := by
        have e2 := HN.out
        show _ = _
        by_cases hj : j < s.size
        · have e1 := nmLen_stop s.data.toList j (by rw [HL.out]; exact hj) (Bool.eq_false_iff.2 fun h => hgo ⟨hj, h⟩)
          omega
        · have e1 := nmLen_end s.data.toList j (by rw [HL.out]; omega)
          omega
      have HX : Hid ((∃ hj : j < s.size, sgn s[j] = false) ∨ j = s.size) := by
        by_cases hj : j < s.size
        · exact .inl ⟨hj, Bool.eq_false_iff.2 fun h => hgo ⟨hj, h⟩⟩
        · exact .inr (by omega)
      clear hgo
      have h2 : (0 : Int) ≤ (k : Int) := by omega
      have h3 : (k : Int) ≤ (j : Int) := by omega
      have h4 : (j : Int) ≤ (s.size : Int) := by omega
      have hez : (s.extract k j).size = j - k := by rw [ByteArray.size_extract]; omega
      rcases HX.out with ⟨hj, hsg⟩ | hj
      · have h1 : (j : Int) < (s.size : Int) := by omega
        have HS := Lib.hid hsg
        clear hsg HX
        by_cases hn0 : j = k
        · obtain ⟨hE, hE'⟩ := isEmpty (v := s.extract k j) (by omega)
          have HM := Lib.hid hn0
          clear hez hn0
          go_wp2
          go_quiet ((first
            | (go_at_call 38; exact Calls.quiet_of (done_no b j s _ (HC.out.drewN _) hj))
            | (go_at_call 66; exact Calls.quiet_of_same (sign_no _ _ HS.out))))
          go_wp2
          go_quiet (fail)
          go_wp2
          go_ret2
          exact named_no _ hgr HC.out HK.out (by have := HM.out; omega) h3
        · obtain ⟨hE, hE'⟩ := noEmpty (v := s.extract k j) (by omega)
          have HZ := Lib.hid hez
          clear hez
          by_cases hn8 : j - k ≤ 8
          · have hn8' : ((j - k : Nat) : Int) ≤ 8 := by omega
            go_wp2
            go_quiet ((first
              | (go_at_call 38; exact Calls.quiet_of (done_no b j s _ (HC.out.drewN _) hj))
              | (go_at_call 66; exact Calls.quiet_of_same (sign_no _ _ HS.out))))
            go_wp2
            go_quiet (fail)
            go_wp2
            go_ret2
            exact named_yes _ hgr HC.out HK.out (by omega) hn8 h3
          · have hn8' : (8 : Int) < ((j - k : Nat) : Int) := by omega
            go_wp2
            go_quiet ((first
              | (go_at_call 38; exact Calls.quiet_of (done_no b j s _ (HC.out.drewN _) hj))
              | (go_at_call 66; exact Calls.quiet_of_same (sign_no _ _ HS.out))))
            go_wp2
            go_quiet (fail)
            go_wp2
            go_ret2
            exact named_no _ hgr HC.out HK.out (by omega) h3
      · have HJ := Lib.hid hj
        clear hj HX
        by_cases hn0 : j = k
        · obtain ⟨hE, hE'⟩ := isEmpty (v := s.extract k j) (by omega)
          have HM := Lib.hid hn0
          clear hez hn0
          go_wp2
          go_quiet ((go_at_call 38; exact Calls.quiet_of (done_yes b j s _ (HC.out.drewN _) HJ.out)))
          go_wp2
          go_quiet (fail)
          go_wp2
          go_ret2
          exact named_no _ hgr HC.out HK.out (by have := HM.out; omega) h3
        · obtain ⟨hE, hE'⟩ := noEmpty (v := s.extract k j) (by omega)
          have HZ := Lib.hid hez
          clear hez
          by_cases hn8 : j - k ≤ 8
          · have hn8' : ((j - k : Nat) : Int) ≤ 8 := by omega
            go_wp2
            go_quiet ((go_at_call 38; exact Calls.quiet_of (done_yes b j s _ (HC.out.drewN _) HJ.out)))
            go_wp2
            go_quiet (fail)
            go_wp2
            go_ret2
            exact named_yes _ hgr HC.out HK.out (by omega) hn8 h3
          · have hn8' : (8 : Int) < ((j - k : Nat) : Int) := by omega
            go_wp2
            go_quiet ((go_at_call 38; exact Calls.quiet_of (done_yes b j s _ (HC.out.drewN _) HJ.out)))
            go_wp2
            go_quiet (fail)
            go_wp2
            go_ret2
            exact named_no _ hgr HC.out HK.out (by omega) h3
end Go.Proofs.Ytkhfflbgnojcfaa
