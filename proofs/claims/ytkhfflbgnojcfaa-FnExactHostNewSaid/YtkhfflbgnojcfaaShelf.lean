/-
  The contracts of strings.Builder's String and of strings.IndexByte at this program: each one application of the library's. No condition.
-/
import Derived.Shelf.Strings.BuilderK
import Derived.Shelf.Small.Strs
import Derived.Test.YtkhfflbgnojcfaaProg
namespace Go.Proofs.Ytkhfflbgnojcfaa
open Go.Shelf
end Go.Proofs.Ytkhfflbgnojcfaa
