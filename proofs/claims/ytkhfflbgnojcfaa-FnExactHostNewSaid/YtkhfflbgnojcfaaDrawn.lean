/-
  The contracts of the drawers of names, domains, addresses and paths: each leaves a short text. Condition: the code can be read.
-/
import Derived.Test.YtkhfflbgnojcfaaDraw
namespace Go.Proofs.Ytkhfflbgnojcfaa
open Go.RowKit
set_option linter.unusedVariables false

theorem text_le {ls : List (List UInt8)} {l : List UInt8} (h : ls.all (fun x => decide (x.length ≤ 30)) = true) (hl : l ∈ ls) : (⟨l.toArray⟩ : ByteArray).size ≤ 30 := by
  rw [List.all_eq_true] at h
  exact of_decide_eq_true (h l hl)

end Go.Proofs.Ytkhfflbgnojcfaa
