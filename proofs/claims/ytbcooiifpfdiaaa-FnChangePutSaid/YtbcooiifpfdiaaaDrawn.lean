/-
  The contracts of the drawers of names, domains, addresses and paths: each leaves a short text. Condition: the code can be read.
-/
import Derived.Test.YtbcooiifpfdiaaaDraw
namespace Go.Proofs.Ytbcooiifpfdiaaa
open Go.RowKit
set_option linter.unusedVariables false

/-- A drawn text. -/
def Text (w : World) (b p : Nat) (e : Ending) (w' : World) : Prop := ∃ s : ByteArray, s.size ≤ 30 ∧ e = .returned (.string s) ∧ Rd w' b (p + 2) ∧ w.grownBy w' (some b)
theorem text_le {ls : List (List UInt8)} {l : List UInt8} (h : ls.all (fun x => decide (x.length ≤ 30)) = true) (hl : l ∈ ls) : (⟨l.toArray⟩ : ByteArray).size ≤ 30 := by
  rw [List.all_eq_true] at h
  exact of_decide_eq_true (h l hl)

end Go.Proofs.Ytbcooiifpfdiaaa
