/-
  The contracts of the cursor's methods. No condition beyond a cursor that lies in a block of its own and whose place is in the text.
-/
import Derived.Test.YtllhcogmcfgnoaaProg
import Derived.Test.YtllhcogmcfgnoaaBase
import Derived.Test.YtllhcogmcfgnoaaMath
import Derived.WalkKit
import Derived.Deep.QuietTactic
import Derived.Deep.LoopGhost
import Derived.BigQuiet
import Derived.Lib.Hide
import Derived.Outline
namespace Go.Proofs.Ytllhcogmcfgnoaa
open Go.RowKit
set_option linter.unusedVariables false

section
variable {w w' : World} {b k : Nat} {s : ByteArray}
end

theorem ret_two {a b : Value} {c d : Bool} (h1 : a = b) (h2 : c = d) : Ending.returned (.tuple #[a, .bool c]) = .returned (.tuple #[b, .bool d]) := by rw [h1, h2]
end Go.Proofs.Ytllhcogmcfgnoaa
