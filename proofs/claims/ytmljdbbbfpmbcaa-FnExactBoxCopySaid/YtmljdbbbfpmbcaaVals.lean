/-
  The contracts of the exported functions of chapter 1, in the terms of the specification. No condition beyond a bound on the text's length.
-/
import Derived.Test.YtmljdbbbfpmbcaaEq
import Derived.Test.YtmljdbbbfpmbcaaDraws
namespace Go.Proofs.Ytmljdbbbfpmbcaa
open Go.RowKit
set_option linter.unusedVariables false

end Go.Proofs.Ytmljdbbbfpmbcaa
