/-
  The contract of the code's SubmissionValid. Condition: the receivers can be read; texts are not too long.
-/
import Derived.Test.YtjengfefedbhpaaTb
namespace Go.Proofs.Ytjengfefedbhpaa
open Go.RowKit
set_option linter.unusedVariables false

end Go.Proofs.Ytjengfefedbhpaa
