/-
  A closed fact on the translation's program. No condition.
  A closed fact on the translation's program. No condition.
  A closed fact on the translation's program. No condition.
-/
import Derived.Test.YtodafbfhcgphpaaDoorHead
namespace Go.Proofs.YtodafbfhcgphpaaDoor
open Go
set_option maxRecDepth 100000
theorem lays_eq : Tryd.prog.laysLater = false := by kernel_rfl
end Go.Proofs.YtodafbfhcgphpaaDoor

namespace Go.Proofs.YtodafbfhcgphpaaDoor
open Go
set_option maxRecDepth 100000
theorem refl_eq : Tryd.prog.bearsReflect = false := by kernel_rfl
end Go.Proofs.YtodafbfhcgphpaaDoor

namespace Go.Proofs.YtodafbfhcgphpaaDoor
open Go
set_option maxRecDepth 100000
theorem door_eq : Tryd.prog.doorFits [] = true := by kernel_rfl
end Go.Proofs.YtodafbfhcgphpaaDoor
