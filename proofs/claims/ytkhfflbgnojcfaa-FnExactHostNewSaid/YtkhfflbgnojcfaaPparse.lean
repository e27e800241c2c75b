/-
  The contracts of PlainParse, of the code and of the model. Conditions: bounds on the texts' lengths.
-/
import Derived.Test.YtkhfflbgnojcfaaPmake
namespace Go.Proofs.Ytkhfflbgnojcfaa
open Go.RowKit
set_option linter.unusedVariables false

/-- What a reader of proofs tells. -/
def IsPP (s : ByteArray) (o : Bool) (u p : ByteArray) : Prop := PP s.data.toList o u.data.toList p.data.toList
theorem isPP_any (s : ByteArray) : ∃ o u p, IsPP s o u p := by
  obtain ⟨o, u, p, h⟩ := pp_any s.data.toList
  exact ⟨o, bt u, bt p, h⟩
theorem isPP_one {s u p v q : ByteArray} {o r : Bool} (h : IsPP s o u p) (k : IsPP s r v q) : o = r ∧ u = v ∧ p = q := by
  obtain ⟨h1, h2, h3⟩ := pp_one h k
  exact ⟨h1, by rw [← bt_of u, h2, bt_of], by rw [← bt_of p, h3, bt_of]⟩
def Gives3 (w : World) (u p : ByteArray) (o : Bool) (e : Ending) (w' : World) : Prop := e = .returned (.tuple #[.string u, .string p, .bool o]) ∧ Below w.heap.size w w'
theorem gives3_mk {w w' : World} {s u p v q : ByteArray} {o r : Bool} (h : IsPP s o u p) (k : IsPP s r v q) (hb : Below w.heap.size w w') : Gives3 w u p o (.returned (.tuple #[.string v, .string q, .bool r])) w' := by
  obtain ⟨h1, h2, h3⟩ := isPP_one h k
  subst h1
  subst h2
  subst h3
  exact ⟨rfl, hb⟩
theorem isPP_fail {s x : ByteArray} (hd : IsD s true x) (h : ¬ Reads x.data.toList) : IsPP s false ⟨#[]⟩ ⟨#[]⟩ := pp_fails hd h
theorem isPP_off {s x : ByteArray} (hd : IsD s false x) : IsPP s false ⟨#[]⟩ ⟨#[]⟩ := pp_off hd

theorem takz_at {b k : Nat} {x : ByteArray} {w : World} {r : Bool} (hn : nextIs x.data.toList k 0 = r) (h : Cur w b x k) (hs : x.size ≤ 16777216) (hk : k ≤ x.size) :
    Calls Try.prog 57 #[.pointer (some ⟨b, 0, none⟩), .int .u8 0] w (Took w b x (if r then k + 1 else k) r) := by
  have h1 := take_any b k x 0 w h hs hk
  rw [hn] at h1
  exact h1
end Go.Proofs.Ytkhfflbgnojcfaa
