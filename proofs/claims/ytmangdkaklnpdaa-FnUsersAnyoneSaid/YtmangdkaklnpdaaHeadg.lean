/-
  A closed fact on the translation's program. No condition.
-/
import Derived.Test.YtmangdkaklnpdaaHead
namespace Go.Proofs.Ytmangdkaklnpdaa
open Go
set_option maxRecDepth 100000
theorem door_eq : Try.prog.doorFits [] = true := by kernel_rfl
end Go.Proofs.Ytmangdkaklnpdaa
