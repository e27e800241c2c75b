/-
  The contract of the cursor's method 'address', and of the functions of chapter 1 that are built on the cursor. No condition beyond a bound on the text's length.
-/
import Derived.Test.YtllhcogmcfgnoaaDomain
namespace Go.Proofs.Ytllhcogmcfgnoaa
open Go.RowKit
set_option linter.unusedVariables false

theorem bytes_nil {v : ByteArray} (h : v.data.toList = []) : v = ⟨#[]⟩ := by
  cases v with
  | mk d => cases d with
    | mk l => simp at h; subst h; rfl
end Go.Proofs.Ytllhcogmcfgnoaa
