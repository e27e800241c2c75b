/-
  The contracts of the cursor's methods 'domain' and 'address'. No condition beyond a cursor that lies in a block of its own and whose place is in the text.
-/
import Derived.Test.YtkhfflbgnojcfaaCursor
namespace Go.Proofs.Ytkhfflbgnojcfaa
open Go.RowKit
set_option linter.unusedVariables false

/-- What 'domain' leaves. -/
def Domained (w : World) (b : Nat) (s : ByteArray) (k : Nat) (e : Ending) (w' : World) : Prop :=
  ∃ v : ByteArray, e = .returned (.tuple #[.string v, .bool (domOk s.data.toList k)]) ∧ v.data.toList = (if domOk s.data.toList k then (s.data.toList.drop k).take (domEnd s.data.toList k - k) else []) ∧
    domEnd s.data.toList k ≤ s.size ∧ Cur w' b s (domEnd s.data.toList k) ∧ w.grownBy w' (some b)

theorem domained_no {b k j : Nat} {o : Bool} {s : ByteArray} {w wr : World} (n : Nat) (hgr : w.grownBy wr (some b)) (hc : Cur wr b s j) (hjs : j ≤ s.size) (hd : domGo s.data.toList 2 (okLen (nmLen s.data.toList k)) (k + nmLen s.data.toList k) = (o, j)) (hn : o = false ∨ 20 < j - k) :
    Domained w b s k (.returned (.tuple #[.string ⟨#[]⟩, .bool false])) (wr.drewN n) := by
  have he : domEnd s.data.toList k = j := by unfold domEnd; rw [hd]
  have ho : domOk s.data.toList k = false := by
    unfold domOk
    rw [he, hd]
    rcases hn with h | h
    · rw [h]; rfl
    · rw [decide_eq_false (p := j - k ≤ 20) (by omega)]; simp
  refine ⟨⟨#[]⟩, ?_, ?_, ?_, ?_, gr_drewN hgr _⟩
  · rw [ho]
  · rw [ho]; rfl
  · rw [he]; exact hjs
  · rw [he]; exact hc.drewN _
theorem domained_yes {b k j : Nat} {s : ByteArray} {w wr : World} (n : Nat) (hgr : w.grownBy wr (some b)) (hc : Cur wr b s j) (hjs : j ≤ s.size) (hd : domGo s.data.toList 2 (okLen (nmLen s.data.toList k)) (k + nmLen s.data.toList k) = (true, j)) (hn : j - k ≤ 20) :
    Domained w b s k (.returned (.tuple #[.string (s.extract k j), .bool true])) (wr.drewN n) := by
  have he : domEnd s.data.toList k = j := by unfold domEnd; rw [hd]
  have ho : domOk s.data.toList k = true := by
    unfold domOk
    rw [he, hd, decide_eq_true hn]; rfl
  refine ⟨s.extract k j, ?_, ?_, ?_, ?_, gr_drewN hgr _⟩
  · rw [ho]
  · rw [ho, if_pos rfl, he]; exact extract_list _ _ _
  · rw [he]; exact hjs
  · rw [he]; exact hc.drewN _

theorem take_at (c : UInt8) (z : Int) (hz : (c.toNat : Int) = z) (b k : Nat) (s : ByteArray) (w : World) (h : Cur w b s k) (hs : s.size ≤ 16777216) (hk : k ≤ s.size) :
    Calls Try.prog 57 #[.pointer (some ⟨b, 0, none⟩), .int .u8 z] w (Took w b s (if nextIs s.data.toList k c then k + 1 else k) (nextIs s.data.toList k c)) := hz ▸ take_any b k s c w h hs hk
theorem take_at_yes (c : UInt8) (z : Int) (hz : (c.toNat : Int) = z) (b k : Nat) (s : ByteArray) (w : World) (h : Cur w b s k) (hs : s.size ≤ 16777216) (hk : k ≤ s.size) (hn : nextIs s.data.toList k c = true) :
    Calls Try.prog 57 #[.pointer (some ⟨b, 0, none⟩), .int .u8 z] w (Took w b s (k + 1) true) := by
  have := take_at c z hz b k s w h hs hk
  rw [hn] at this
  exact this
theorem take_at_no (c : UInt8) (z : Int) (hz : (c.toNat : Int) = z) (b k : Nat) (s : ByteArray) (w : World) (h : Cur w b s k) (hs : s.size ≤ 16777216) (hk : k ≤ s.size) (hn : nextIs s.data.toList k c = false) :
    Calls Try.prog 57 #[.pointer (some ⟨b, 0, none⟩), .int .u8 z] w (Took w b s k false) := by
  have := take_at c z hz b k s w h hs hk
  rw [hn] at this
  exact this

set_option maxHeartbeats 1000000 in
theorem domain_any (b k : Nat) (s : ByteArray) (w : World) (h : Cur w b s k) (hs : s.size ≤ 16777216) (hk : k ≤ s.size) :
    Calls Try.prog 37 #[.pointer (some ⟨b, 0, none⟩)] w (Domained w b s k) := by
  have hl : s.data.toList.length = s.size := by simp
  have hnl := nmLen_le s.data.toList k (by omega)
  have hp := h.place
  have H := Lib.hid h
  have HL := Lib.hid hl
  clear h hl
  go_enter Try.func37, Try.ntmps37
  go_wp2_with fail
  refine (name_any b k s _ H.out hs hk).mono ?_
  rintro e w1 ⟨v, rfl, hv, hc1, hg1⟩
  have HV := Lib.hid hv
  have HC := Lib.hid hc1
  have HG := Lib.hid hg1
  clear hv hc1 hg1 hp
  go_wp2
  go_loopg [6, 7] 2 (fun g o6 n7 wr => ∃ (m j : Nat) (o : Bool), 1 ≤ m ∧ m ≤ 3 ∧ g = 3 - m ∧ o6 = .bool o ∧ n7 = .int .i64 (m : Int) ∧ k ≤ j ∧ j ≤ s.size ∧
    domGo s.data.toList 2 (okLen (nmLen s.data.toList k)) (k + nmLen s.data.toList k) = domGo s.data.toList (3 - m) o j ∧ Cur wr b s j ∧ w.grownBy wr (some b))
  case atStart =>
    have h1 := HL.out
    exact ⟨1, k + nmLen s.data.toList k, _, by omega, by omega, rfl, rfl, by go_num, by omega, by omega, rfl, HC.out, HG.out⟩
  case round =>
    obtain ⟨m, j, o, hm1, hm3, hg, rfl, rfl, hkj, hjs, hd, hcur, hgr⟩ := hrel
    have HC' := Lib.hid hcur
    have hte := hcur.text
    have hpl := hcur.place
    have HD := Lib.hid hd
    have HG' := Lib.hid hg
    have HR := Lib.hid hgr
    have h0 : (0 : Int) ≤ (j : Int) := by omega
    have h2 : (0 : Int) ≤ (k : Int) := by omega
    have h3 : (k : Int) ≤ (j : Int) := by omega
    have h4 : (j : Int) ≤ (s.size : Int) := by omega
    have hez : (s.extract k j).size = j - k := by rw [ByteArray.size_extract]; omega
    clear hcur hd hg hgr
    cases o with
    | false =>
      go_wp2
      go_quiet (fail)
      go_wp2
      go_ret2
      exact domained_no _ HR.out HC'.out hjs (by rw [HD.out, domGo_off]) (.inl rfl)
    | true =>
      by_cases hlt : m < 3
      · have hlt' : (m : Int) < 3 := by omega
        by_cases hnx : nextIs s.data.toList j 46 = true
        · have HN := Lib.hid hnx
          have hjl : j < s.size := by have := nextIs_lt hnx; have := HL.out; omega
          clear hnx hez
          go_wp2_with fail
          refine (take_at_yes 46 46 rfl b j s _ HC'.out hs hjs HN.out).mono ?_
          rintro e w2 ⟨rfl, hc2, hg2⟩
          have HC2 := Lib.hid hc2
          have HG2 := Lib.hid hg2
          clear hc2 hg2 hte hpl
          go_wp2_with fail
          refine (name_any b (j + 1) s _ HC2.out hs (by omega)).mono ?_
          rintro e w3 ⟨v3, rfl, hv3, hc3, hg3⟩
          have HC3 := Lib.hid hc3
          have HG3 := Lib.hid hg3
          clear hv3 hc3 hg3
          go_wp2
          go_roundg (3 - (m + 1))
          case measure => have := HG'.out; omega
          case rel =>
            have h5 := nmLen_le s.data.toList (j + 1) (by have := HL.out; omega)
            have h6 := HL.out
            refine ⟨m + 1, j + 1 + nmLen s.data.toList (j + 1), _, by omega, by omega, rfl, rfl, by go_num, by omega, by omega, ?_, HC3.out, gr_trans HR.out (gr_trans HG2.out HG3.out)⟩
            rw [HD.out]
            have e : 3 - m = (3 - (m + 1)) + 1 := by omega
            rw [e, domGo_yes _ _ _ HN.out]
        · have HN := Lib.hid (Bool.eq_false_iff.2 hnx)
          clear hnx
          have HZ := Lib.hid hez
          clear hez
          by_cases h20 : j - k ≤ 20
          · have h20' : ((j - k : Nat) : Int) ≤ 20 := by omega
            go_wp2_with fail
            refine (take_at_no 46 46 rfl b j s _ HC'.out hs hjs HN.out).mono ?_
            rintro e w2 ⟨rfl, hc2, hg2⟩
            have HC2 := Lib.hid hc2
            have HG2 := Lib.hid hg2
            have hte2 := hc2.text
            have hpl2 := hc2.place
            clear hc2 hg2 hte hpl
            go_wp2
            go_quiet (fail)
            go_wp2
            go_ret2
            exact domained_yes _ (gr_trans HR.out HG2.out) HC2.out hjs (by rw [HD.out, domGo_no _ _ _ _ HN.out]) h20
          · have h20' : (20 : Int) < ((j - k : Nat) : Int) := by omega
            go_wp2_with fail
            refine (take_at_no 46 46 rfl b j s _ HC'.out hs hjs HN.out).mono ?_
            rintro e w2 ⟨rfl, hc2, hg2⟩
            have HC2 := Lib.hid hc2
            have HG2 := Lib.hid hg2
            have hte2 := hc2.text
            have hpl2 := hc2.place
            clear hc2 hg2 hte hpl
            go_wp2
            go_quiet (fail)
            go_wp2
            go_ret2
            exact domained_no _ (gr_trans HR.out HG2.out) HC2.out hjs (by rw [HD.out, domGo_no _ _ _ _ HN.out]) (.inr (by omega))
      · have hm : m = 3 := by omega
        have HM := Lib.hid hm
        clear hm
        have hlt' : (3 : Int) ≤ (m : Int) := by omega
        have HZ := Lib.hid hez
        clear hez hlt
        by_cases h20 : j - k ≤ 20
        · have h20' : ((j - k : Nat) : Int) ≤ 20 := by omega
          go_wp2
          go_quiet (fail)
          go_wp2
          go_ret2
          exact domained_yes _ HR.out HC'.out hjs (by rw [HD.out, HM.out]; rfl) h20
        · have h20' : (20 : Int) < ((j - k : Nat) : Int) := by omega
          go_wp2
          go_quiet (fail)
          go_wp2
          go_ret2
          exact domained_no _ HR.out HC'.out hjs (by rw [HD.out, HM.out]; rfl) (.inr (by omega))
end Go.Proofs.Ytkhfflbgnojcfaa
