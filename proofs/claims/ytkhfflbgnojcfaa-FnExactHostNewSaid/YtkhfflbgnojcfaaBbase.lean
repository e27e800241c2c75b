/-
  The contracts of spec.Base64Encode and spec.Base64Decode. No condition beyond a bound on the text's length.
-/
import Derived.Test.YtkhfflbgnojcfaaBdec
namespace Go.Proofs.Ytkhfflbgnojcfaa
open Go.RowKit
set_option linter.unusedVariables false

theorem bt_of (v : ByteArray) : bt v.data.toList = v := by cases v; simp [bt]
theorem bt_eq {v : ByteArray} {l : List UInt8} (h : v.data.toList = l) : v = bt l := by rw [← h, bt_of]
theorem bt_list (l : List UInt8) : (bt l).data.toList = l := rfl
theorem bt_size (l : List UInt8) : (bt l).size = l.length := rfl
/-- A text is told. -/
def Says (w : World) (t : ByteArray) (e : Ending) (w' : World) : Prop := e = .returned (.string t) ∧ Below w.heap.size w w'
/-- What the encoder gives. -/
def encB (s : ByteArray) : ByteArray := if s.size ≤ 30 then bt (enc s.data.toList) else ⟨#[]⟩
theorem encB_yes {s : ByteArray} (h : s.size ≤ 30) : encB s = bt (enc s.data.toList) := by unfold encB; rw [if_pos h]
theorem encB_no {s : ByteArray} (h : ¬ s.size ≤ 30) : encB s = ⟨#[]⟩ := by unfold encB; rw [if_neg h]
theorem encB_le (s : ByteArray) : (encB s).size ≤ 40 := by
  by_cases h : s.size ≤ 30
  · rw [encB_yes h, bt_size, enc_len]
    have : s.data.toList.length = s.size := by simp
    omega
  · rw [encB_no h]; exact Nat.zero_le _
/-- Bytes and whether there are any are told. -/
def Gives (w : World) (x : ByteArray) (o : Bool) (e : Ending) (w' : World) : Prop := e = .returned (.tuple #[.string x, .bool o]) ∧ Below w.heap.size w w'
/-- What a decoder tells of a text. -/
def IsD (s : ByteArray) (o : Bool) (x : ByteArray) : Prop := Dec s.data.toList o x.data.toList
theorem isD_any (s : ByteArray) : ∃ o x, IsD s o x := by
  obtain ⟨o, x, h⟩ := dec_any s.data.toList
  exact ⟨o, bt x, h⟩
theorem isD_one {s x y : ByteArray} {o p : Bool} (h : IsD s o x) (k : IsD s p y) : o = p ∧ x = y := by
  obtain ⟨h1, h2⟩ := dec_one h k
  exact ⟨h1, by rw [← bt_of x, h2, bt_of]⟩
theorem isD_le {s x : ByteArray} {o : Bool} (h : IsD s o x) : x.size ≤ 30 := by
  have hl : x.data.toList.length = x.size := by simp
  cases o
  · have h0 : x.data.toList.length = 0 := by rw [(h.2 rfl).1]; rfl
    omega
  · have := (h.1 rfl).1
    omega
theorem gives_mk {w w' : World} {s x y : ByteArray} {o p : Bool} (h : IsD s o x) (k : IsD s p y) (hb : Below w.heap.size w w') : Gives w x o (.returned (.tuple #[.string y, .bool p])) w' := by
  obtain ⟨h1, h2⟩ := isD_one h k
  subst h1
  subst h2
  exact ⟨rfl, hb⟩
theorem isD_no {s : ByteArray} (h : Dec s.data.toList false []) : IsD s false ⟨#[]⟩ := h

end Go.Proofs.Ytkhfflbgnojcfaa
