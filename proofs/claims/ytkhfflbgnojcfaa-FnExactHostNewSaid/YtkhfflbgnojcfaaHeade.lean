/-
  A closed fact on the translation's program. No condition.
  A closed fact on the translation's program. No condition.
  A closed fact on the translation's program. No condition.
-/
import Derived.Test.YtkhfflbgnojcfaaHead
namespace Go.Proofs.Ytkhfflbgnojcfaa
open Go
set_option maxRecDepth 100000
theorem lays_eq : Try.prog.laysLater = false := by kernel_rfl
end Go.Proofs.Ytkhfflbgnojcfaa

namespace Go.Proofs.Ytkhfflbgnojcfaa
open Go
set_option maxRecDepth 100000
theorem refl_eq : Try.prog.bearsReflect = false := by kernel_rfl
end Go.Proofs.Ytkhfflbgnojcfaa

namespace Go.Proofs.Ytkhfflbgnojcfaa
open Go
set_option maxRecDepth 100000
theorem door_eq : Try.prog.doorFits [] = true := by kernel_rfl
end Go.Proofs.Ytkhfflbgnojcfaa
