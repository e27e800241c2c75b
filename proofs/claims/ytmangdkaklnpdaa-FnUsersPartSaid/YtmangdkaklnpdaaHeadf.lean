/-
  A closed fact on the translation's program. No condition.
-/
import Derived.Test.YtmangdkaklnpdaaHead
namespace Go.Proofs.Ytmangdkaklnpdaa
open Go
set_option maxRecDepth 100000
theorem refl_eq : Try.prog.bearsReflect = false := by kernel_rfl
end Go.Proofs.Ytmangdkaklnpdaa
