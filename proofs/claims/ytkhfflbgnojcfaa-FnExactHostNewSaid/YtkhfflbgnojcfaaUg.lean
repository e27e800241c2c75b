/-
  The contracts of the code's UsersFind, UsersProve and UsersPlain. Condition: the users can be read, and are not too many; texts are not too long.
-/
import Derived.Test.YtkhfflbgnojcfaaUf
namespace Go.Proofs.Ytkhfflbgnojcfaa
open Go.RowKit
set_option linter.unusedVariables false

theorem impl_uv {A : Option Addr} {N cap : Nat} {L : List Us} {z : Bool} (h : vU L = z) (w : World) (hi : UIn w A N cap L) : Calls Try.prog 17 #[.slice A N cap] w (SayB w z) := by
  subst h
  exact impl_usersvalid w hi
/-- A text and whether. -/
def GivesX (w : World) (t : ByteArray) (z : Bool) (e : Ending) (w' : World) : Prop := e = .returned (.tuple #[.string t, .bool z]) ∧ Below w.heap.size w w'
theorem gives_x {w w' : World} {u v : ByteArray} {z y : Bool} (h : (u, z) = (v, y)) (hb : Below w.heap.size w w') : GivesX w u z (.returned (.tuple #[.string v, .bool y])) w' := by
  cases h
  exact ⟨rfl, hb⟩
end Go.Proofs.Ytkhfflbgnojcfaa
