/-
  The contracts of findBy, UsersFind, UsersProve and UsersPlain of the code. Condition: the users can be read, and are not too many; texts are not too long.
-/
import Derived.Test.YtkhfflbgnojcfaaUi
namespace Go.Proofs.Ytkhfflbgnojcfaa
open Go.RowKit
set_option linter.unusedVariables false

/-- A user and whether there is one. -/
def GivesU (w : World) (u : Us) (z : Bool) (e : Ending) (w' : World) : Prop := e = .returned (.tuple #[usV u, .bool z]) ∧ Below w.heap.size w w'
theorem gives_u {w w' : World} {u v : Us} {z y : Bool} (h : (u, z) = (v, y)) (hb : Below w.heap.size w w') : GivesU w u z (.returned (.tuple #[usV v, .bool y])) w' := by
  cases h
  exact ⟨rfl, hb⟩
theorem put_user {w : World} {B : Nat} (h : Whole w B 42 #[.string ⟨#[]⟩, .string ⟨#[]⟩, .int .i64 0]) (n p : ByteArray) (q : Int) :
    Whole (((w.setCell ⟨B, 0, none⟩ (.string n)).setCell ⟨B, 1, none⟩ (.string p)).setCell ⟨B, 2, none⟩ (.int .i64 q)) B 42 #[.string n, .string p, .int .i64 q] := ((h.store 0 _).store 1 _).store 2 _
end Go.Proofs.Ytkhfflbgnojcfaa
