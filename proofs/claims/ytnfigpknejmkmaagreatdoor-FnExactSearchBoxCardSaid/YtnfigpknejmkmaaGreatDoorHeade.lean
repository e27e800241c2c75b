/-
  A closed fact on the translation's program. No condition.
  A closed fact on the translation's program. No condition.
  A closed fact on the translation's program. No condition.
-/
import Derived.Test.YtnfigpknejmkmaaGreatDoorHead
namespace Go.Proofs.YtnfigpknejmkmaaGreatDoor
open Go
set_option maxRecDepth 100000
theorem lays_eq : Tryz.prog.laysLater = false := by kernel_rfl
end Go.Proofs.YtnfigpknejmkmaaGreatDoor

namespace Go.Proofs.YtnfigpknejmkmaaGreatDoor
open Go
set_option maxRecDepth 100000
theorem refl_eq : Tryz.prog.bearsReflect = false := by kernel_rfl
end Go.Proofs.YtnfigpknejmkmaaGreatDoor

namespace Go.Proofs.YtnfigpknejmkmaaGreatDoor
open Go
set_option maxRecDepth 100000
theorem door_eq : Tryz.prog.doorFits [] = true := by kernel_rfl
end Go.Proofs.YtnfigpknejmkmaaGreatDoor
