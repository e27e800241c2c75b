/-
  The contract of the cursor's flag. Condition: a cursor that lies in a block of its own and whose place is in the text; the table holds the five names.
-/
import Derived.Test.YtbcooiifpfdiaaaDoorFcur
namespace Go.Proofs.YtbcooiifpfdiaaaDoor
open Go.RowKit
set_option linter.unusedVariables false

/-- What 'flag' leaves. -/
def Flagged (w : World) (b : Nat) (s : ByteArray) (k : Nat) (q : Nat) (r : Bool) (e : Ending) (w' : World) : Prop := e = .returned (.tuple #[.int .i64 (q : Int), .bool r]) ∧ Cur w' b s k ∧ w.grownBy w' (some b)
theorem next_name {s nm : ByteArray} {k j : Nat} {r : Bool} (hn : sB (fnm j) = nm) (h : isNext s k (fnm j) = r) : isNext s k nm.data.toList = r := by rw [← hn, sB_list]; exact h
set_option maxRecDepth 20000 in
set_option maxHeartbeats 4000000 in
theorem flag_none (b k : Nat) (s : ByteArray) (w : World) (h : Cur w b s k) (hL : Lst w) (hs : s.size ≤ 16777216) (hk : k ≤ s.size) (hn : ∀ j, j < 5 → isNext s k (fnm j) = false) :
    Calls Tryd.prog 32 #[.pointer (some ⟨b, 0, none⟩)] w (Flagged w b s k 0 false) := by
  have H := Lib.hid h
  have HN := Lib.hid hn
  have c0 := hL.2 0 (by omega)
  have c1 := hL.2 1 (by omega)
  have c2 := hL.2 2 (by omega)
  have c3 := hL.2 3 (by omega)
  have c4 := hL.2 4 (by omega)
  simp [fnames] at c0 c1 c2 c3 c4
  clear h hn
  go_enter Tryd.func32, Tryd.ntmps32
  go_wp2_with fail
  clear c0 c1 c2 c3 c4
  go_loopw [7] (fun i wr => ∃ j : Nat, j ≤ 5 ∧ i = .int .i64 (j : Int) ∧ Hid (Cur wr b s k) ∧ Hid (w.grownBy wr (some b))) (fun i _ => 5 - (intOf i).toNat)
  case atStart => exact ⟨0, Nat.zero_le _, by go_num, H, gr_refl _ _⟩
  case round =>
    obtain ⟨j, hj, rfl, HC, HG⟩ := hrel
    by_cases hlt : j < 5
    · have h5 : (j : Int) < 5 := by omega
      have h0 : (0 : Int) ≤ (j : Int) := by omega
      have ik := index_name hlt
      obtain ⟨nm, hnm⟩ : ∃ nm, sB (fnm j) = nm := ⟨_, rfl⟩
      rw [hnm] at ik
      have HX := Lib.hid (next_name hnm (HN.out j hlt))
      clear hnm
      go_wp2_with fail
      refine (taketext_no b k s nm _ HC.out hs hk HX.out).mono ?_
      rintro e w2 ⟨rfl, hc, hg⟩
      have HC2 := Lib.hid hc
      have HG2 := Lib.hid (gr_trans HG.out hg)
      clear hc hg
      go_wp2
      go_roundw
      case rel => exact ⟨j + 1, by omega, by go_num, HC2, HG2⟩
      case measure => simp [intOf]; omega
    · have h5 : ¬ (j : Int) < 5 := by omega
      go_wp2
      go_ret2
      exact ⟨rfl, HC.out, HG.out⟩
set_option maxRecDepth 20000 in
set_option maxHeartbeats 4000000 in
theorem flag_some (b k i q : Nat) (s : ByteArray) (w : World) (h : Cur w b s k) (hL : Lst w) (hs : s.size ≤ 16777216) (hk : k ≤ s.size) (hi : i < 5) (hq : 2 ^ i = q) (hy : isNext s k (fnm i) = true) (hn : ∀ j, j < i → isNext s k (fnm j) = false) :
    Calls Tryd.prog 32 #[.pointer (some ⟨b, 0, none⟩)] w (Flagged w b s (k + (fnm i).length) q true) := by
  have H := Lib.hid h
  have HN := Lib.hid hn
  have HY := Lib.hid hy
  have HQ := Lib.hid hq
  have c0 := hL.2 0 (by omega)
  have c1 := hL.2 1 (by omega)
  have c2 := hL.2 2 (by omega)
  have c3 := hL.2 3 (by omega)
  have c4 := hL.2 4 (by omega)
  simp [fnames] at c0 c1 c2 c3 c4
  clear h hn hy hq
  go_enter Tryd.func32, Tryd.ntmps32
  go_wp2_with fail
  clear c0 c1 c2 c3 c4
  go_loopw [7] (fun v wr => ∃ j : Nat, j ≤ i ∧ v = .int .i64 (j : Int) ∧ Hid (Cur wr b s k) ∧ Hid (w.grownBy wr (some b))) (fun v _ => 5 - (intOf v).toNat)
  case atStart => exact ⟨0, Nat.zero_le _, by go_num, H, gr_refl _ _⟩
  case round =>
    obtain ⟨j, hj, rfl, HC, HG⟩ := hrel
    have hlt : j < 5 := by omega
    have h5 : (j : Int) < 5 := by omega
    have h0 : (0 : Int) ≤ (j : Int) := by omega
    have ik := index_name hlt
    obtain ⟨nm, hnm⟩ : ∃ nm, sB (fnm j) = nm := ⟨_, rfl⟩
    rw [hnm] at ik
    by_cases hji : j < i
    · have HX := Lib.hid (next_name hnm (HN.out j hji))
      clear hnm
      go_wp2_with fail
      refine (taketext_no b k s nm _ HC.out hs hk HX.out).mono ?_
      rintro e w2 ⟨rfl, hc, hg⟩
      have HC2 := Lib.hid hc
      have HG2 := Lib.hid (gr_trans HG.out hg)
      clear hc hg
      go_wp2
      go_roundw
      case rel => exact ⟨j + 1, by omega, by go_num, HC2, HG2⟩
      case measure => simp [intOf]; omega
    · have hje : j = i := by omega
      subst hje
      have HX := Lib.hid (next_name hnm HY.out)
      have hns : nm.size = (fnm j).length := by rw [← hnm, sB_size]
      have hn8 : nm.size ≤ 100 := by have := fnm_len hi; omega
      have HNS := Lib.hid hns
      have HW := Lib.hid (shl_flag hi HQ.out)
      clear hnm hns
      go_wp2_with fail
      refine (taketext_yes b k s nm _ HC.out hs hn8 hk HX.out).mono ?_
      rintro e w2 ⟨rfl, hc, hg⟩
      have HC2 := Lib.hid hc
      have HG2 := Lib.hid (gr_trans HG.out hg)
      clear hc hg
      go_wp2
      go_ret2
      exact ⟨by rw [← HW.out]; rfl, by rw [← HNS.out]; exact HC2.out, HG2.out⟩
end Go.Proofs.YtbcooiifpfdiaaaDoor
