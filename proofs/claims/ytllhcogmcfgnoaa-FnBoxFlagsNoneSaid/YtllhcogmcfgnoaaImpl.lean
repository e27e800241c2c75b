/-
  The contracts of the exported functions of chapter 1. No condition beyond a bound on the text's length.
-/
import Derived.Test.YtllhcogmcfgnoaaAddr
namespace Go.Proofs.Ytllhcogmcfgnoaa
open Go.RowKit
set_option linter.unusedVariables false

theorem new_below {w w1 : World} {o : Obj} (h : (w.alloc o).grownBy w1 (some w.heap.size)) : Below w.heap.size w w1 :=
  below_gr ((Below.refl _ _).alloc (Nat.le_refl _) o) h (by simp) (Nat.le_refl _)

end Go.Proofs.Ytllhcogmcfgnoaa
