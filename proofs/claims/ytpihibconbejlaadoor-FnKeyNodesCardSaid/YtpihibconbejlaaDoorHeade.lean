/-
  A closed fact on the translation's program. No condition.
-/
import Derived.Test.YtpihibconbejlaaDoorHead
namespace Go.Proofs.YtpihibconbejlaaDoor
open Go
set_option maxRecDepth 100000
theorem lays_eq : Tryd.prog.laysLater = false := by kernel_rfl
end Go.Proofs.YtpihibconbejlaaDoor
