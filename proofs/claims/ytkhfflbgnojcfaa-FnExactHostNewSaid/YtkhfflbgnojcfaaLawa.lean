/-
  The walks of the laws FnExactNameValid and FnExactDomainValid. No condition.
-/
import Derived.Test.YtkhfflbgnojcfaaVals
namespace Go.Proofs.Ytkhfflbgnojcfaa
open Go.RowKit
set_option linter.unusedVariables false

/-- A law holds here. -/
def Holds1 (w : World) (e : Ending) (w' : World) : Prop := e = .returned (.bool true) ∧ Below w.heap.size w w'

end Go.Proofs.Ytkhfflbgnojcfaa
