/-
  The contracts of the exported functions of chapter 1, in the terms of the specification. No condition beyond a bound on the text's length.
-/
import Derived.Test.YtllhcogmcfgnoaaEq
import Derived.Test.YtllhcogmcfgnoaaDraws
namespace Go.Proofs.Ytllhcogmcfgnoaa
open Go.RowKit
set_option linter.unusedVariables false

end Go.Proofs.Ytllhcogmcfgnoaa
