/-
  A closed fact on the translation's program. No condition.
-/
import Derived.Test.YtbcooiifpfdiaaaDoorHead
namespace Go.Proofs.YtbcooiifpfdiaaaDoor
open Go
set_option maxRecDepth 100000
theorem refl_eq : Tryd.prog.bearsReflect = false := by kernel_rfl
end Go.Proofs.YtbcooiifpfdiaaaDoor
