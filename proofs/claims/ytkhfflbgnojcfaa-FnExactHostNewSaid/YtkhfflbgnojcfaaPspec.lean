/-
  The contract of the model's PlainParse. Condition: a bound on the text's length.
-/
import Derived.Test.YtkhfflbgnojcfaaPparse
import Derived.RegionTactic
namespace Go.Proofs.Ytkhfflbgnojcfaa
open Go.RowKit
set_option linter.unusedVariables false

theorem three_of {α : Type} {l : List α} (d : α) (h : l.length = 3) : l = [l.getD 0 d, l.getD 1 d, l.getD 2 d] := by
  match l, h with
  | [a, b, c], _ => rfl
theorem isPP_cut {s x : ByteArray} (hd : IsD s true x) (h : ∀ u p, cut 0 x.data.toList = [[], u, p] → nameB u = true → nameB p = true → False) : IsPP s false ⟨#[]⟩ ⟨#[]⟩ := pp_no hd fun _ => h

end Go.Proofs.Ytkhfflbgnojcfaa
