/-
  The contracts of the cursor's methods 'domain' and 'address'. No condition beyond a cursor that lies in a block of its own and whose place is in the text.
-/
import Derived.Test.YtnfigpknejmkmaaGreatDoorCursor
namespace Go.Proofs.YtnfigpknejmkmaaGreatDoor
open Go.RowKit
set_option linter.unusedVariables false

/-- What 'domain' leaves. -/
def Domained (w : World) (b : Nat) (s : ByteArray) (k : Nat) (e : Ending) (w' : World) : Prop :=
  ∃ v : ByteArray, e = .returned (.tuple #[.string v, .bool (domOk s.data.toList k)]) ∧ v.data.toList = (if domOk s.data.toList k then (s.data.toList.drop k).take (domEnd s.data.toList k - k) else []) ∧
    domEnd s.data.toList k ≤ s.size ∧ Cur w' b s (domEnd s.data.toList k) ∧ w.grownBy w' (some b)

theorem domained_no {b k j : Nat} {o : Bool} {s : ByteArray} {w wr : World} (n : Nat) (hgr : w.grownBy wr (some b)) (hc : Cur wr b s j) (hjs : j ≤ s.size) (hd : domGo s.data.toList 2 (okLen (nmLen s.data.toList k)) (k + nmLen s.data.toList k) = (o, j)) (hn : o = false ∨ 20 < j - k) :
    Domained w b s k (.returned (.tuple #[.string ⟨#[]⟩, .bool false])) (wr.drewN n) := by
  have he : domEnd s.data.toList k = j := by unfold domEnd; rw [hd]
  have ho : domOk s.data.toList k = false := by
    unfold domOk
    rw [he, hd]
    rcases hn with h | h
    · rw [h]; rfl
    · rw [decide_eq_false (p := j - k ≤ 20) (by omega)]; simp
  refine ⟨⟨#[]⟩, ?_, ?_, ?_, ?_, gr_drewN hgr _⟩
  · rw [ho]
  · rw [ho]; rfl
  · rw [he]; exact hjs
  · rw [he]; exact hc.drewN _
theorem domained_yes {b k j : Nat} {s : ByteArray} {w wr : World} (n : Nat) (hgr : w.grownBy wr (some b)) (hc : Cur wr b s j) (hjs : j ≤ s.size) (hd : domGo s.data.toList 2 (okLen (nmLen s.data.toList k)) (k + nmLen s.data.toList k) = (true, j)) (hn : j - k ≤ 20) :
    Domained w b s k (.returned (.tuple #[.string (s.extract k j), .bool true])) (wr.drewN n) := by
  have he : domEnd s.data.toList k = j := by unfold domEnd; rw [hd]
  have ho : domOk s.data.toList k = true := by
    unfold domOk
    rw [he, hd, decide_eq_true hn]; rfl
  refine ⟨s.extract k j, ?_, ?_, ?_, ?_, gr_drewN hgr _⟩
  · rw [ho]
  · rw [ho, if_pos rfl, he]; exact extract_list _ _ _
  · rw [he]; exact hjs
  · rw [he]; exact hc.drewN _

theorem take_at (c : UInt8) (z : Int) (hz : (c.toNat : Int) = z) (b k : Nat) (s : ByteArray) (w : World) (h : Cur w b s k) (hs : s.size ≤ 16777216) (hk : k ≤ s.size) :
    Calls Tryz.prog 63 #[.pointer (some ⟨b, 0, none⟩), .int .u8 z] w (Took w b s (if nextIs s.data.toList k c then k + 1 else k) (nextIs s.data.toList k c)) := hz ▸ take_any b k s c w h hs hk
theorem take_at_yes (c : UInt8) (z : Int) (hz : (c.toNat : Int) = z) (b k : Nat) (s : ByteArray) (w : World) (h : Cur w b s k) (hs : s.size ≤ 16777216) (hk : k ≤ s.size) (hn : nextIs s.data.toList k c = true) :
    Calls Tryz.prog 63 #[.pointer (some ⟨b, 0, none⟩), .int .u8 z] w (Took w b s (k + 1) true) := by
  have := take_at c z hz b k s w h hs hk
  rw [hn] at this
  exact this
theorem take_at_no (c : UInt8) (z : Int) (hz : (c.toNat : Int) = z) (b k : Nat) (s : ByteArray) (w : World) (h : Cur w b s k) (hs : s.size ≤ 16777216) (hk : k ≤ s.size) (hn : nextIs s.data.toList k c = false) :
    Calls Tryz.prog 63 #[.pointer (some ⟨b, 0, none⟩), .int .u8 z] w (Took w b s k false) := by
  have := take_at c z hz b k s w h hs hk
  rw [hn] at this
  exact this

end Go.Proofs.YtnfigpknejmkmaaGreatDoor
