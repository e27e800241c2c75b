/-
  The contracts of the cursor's takeText and flag. Condition: a cursor that lies in a block of its own and whose place is in the text; the table holds the five names.
-/
import Derived.Test.YtbcooiifpfdiaaaDoorFown
import Derived.Test.YtbcooiifpfdiaaaDoorCursor
namespace Go.Proofs.YtbcooiifpfdiaaaDoor
open Go.RowKit
set_option linter.unusedVariables false

theorem Cur.by' {w : World} {b k : Nat} {s : ByteArray} (h : Cur w b s k) (m : Nat) : Cur (w.setCell ⟨b, 1, none⟩ (.int .i64 (m : Int))) b s m := Whole.store h 1 _
/-- The part is next. -/
def isNext (s : ByteArray) (k : Nat) (p : List UInt8) : Bool := p.isPrefixOf (s.data.toList.drop k)
theorem extract_drop (s : ByteArray) (k : Nat) : (s.extract k s.size).data.toList = s.data.toList.drop k := by
  rw [extract_list]
  exact List.take_of_length_le (by rw [List.length_drop]; simp)
/-- What 'takeText' leaves. -/
def TookT (w : World) (b : Nat) (s : ByteArray) (k : Nat) (r : Bool) (e : Ending) (w' : World) : Prop := e = .returned (.bool r) ∧ Cur w' b s k ∧ w.grownBy w' (some b)
theorem prefix_at {u p : ByteArray} {r : Bool} (w : World) (h : Lib.hasPrefix u.data.toList p.data.toList = r) :
    Calls Tryd.prog 49 #[.string u, .string p] w fun e w' => e = .returned (.bool r) ∧ w' = w := h ▸ prefix_any u p w
set_option maxHeartbeats 1000000 in
theorem taketext_no (b k : Nat) (s p : ByteArray) (w : World) (h : Cur w b s k) (hs : s.size ≤ 16777216) (hk : k ≤ s.size) (hr : isNext s k p.data.toList = false) :
    Calls Tryd.prog 43 #[.pointer (some ⟨b, 0, none⟩), .string p] w (TookT w b s k false) := by
  have ht := h.text
  have hpl := h.place
  have H := Lib.hid h
  clear h
  have h0 : (0 : Int) ≤ (k : Int) := by omega
  have h1 : (k : Int) ≤ (s.size : Int) := by omega
  have HR : Hid (Lib.hasPrefix (s.extract k s.size).data.toList p.data.toList = false) := by
    show _ = _
    rw [extract_drop]
    exact hr
  clear hr
  go_enter Tryd.func43, Tryd.ntmps43
  go_wp2
  go_quiet ((go_at_call 49; exact Calls.quiet_of_same (prefix_at _ HR.out)))
  go_wp2
  go_ret
  exact ⟨rfl, H.out.drewN _, gr_drewN (gr_refl _ _) _⟩
set_option maxHeartbeats 1000000 in
theorem taketext_yes (b k : Nat) (s p : ByteArray) (w : World) (h : Cur w b s k) (hs : s.size ≤ 16777216) (hp : p.size ≤ 100) (hk : k ≤ s.size) (hr : isNext s k p.data.toList = true) :
    Calls Tryd.prog 43 #[.pointer (some ⟨b, 0, none⟩), .string p] w (TookT w b s (k + p.size) true) := by
  have ht := h.text
  have hpl := h.place
  have hf := h.free 1
  have H := Lib.hid h
  clear h
  have h0 : (0 : Int) ≤ (k : Int) := by omega
  have h1 : (k : Int) ≤ (s.size : Int) := by omega
  have HR : Hid (Lib.hasPrefix (s.extract k s.size).data.toList p.data.toList = true) := by
    show _ = _
    rw [extract_drop]
    exact hr
  have W1 : IntKind.i64.wrap ((k : Int) + (p.size : Int)) = ((k + p.size : Nat) : Int) := (IntWalk.i64_in _ (by omega)).trans (by omega)
  clear hr
  go_enter Tryd.func43, Tryd.ntmps43
  go_wp2
  go_quiet ((go_at_call 49; exact Calls.quiet_of_same (prefix_at _ HR.out)))
  go_wp2
  go_ret
  exact ⟨rfl, (H.out.drewN _).by' _, gr_store (gr_drewN (gr_refl _ _) _) (.inl rfl) _⟩
end Go.Proofs.YtbcooiifpfdiaaaDoor
