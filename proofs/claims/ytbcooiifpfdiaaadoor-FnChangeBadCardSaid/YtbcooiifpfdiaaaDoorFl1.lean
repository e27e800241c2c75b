/-
  The walks of the laws FnChangeSet, FnChangeRemove, FnChangePut, FnChangeTwice, FnChangeOrder, FnHave, FnExactFlagsChange and FnExactFlagsHave. Condition: the code can be read.
-/
import Derived.Test.YtbcooiifpfdiaaaDoorFdraw
namespace Go.Proofs.YtbcooiifpfdiaaaDoor
open Go.RowKit
set_option linter.unusedVariables false

theorem ne_true {h k : Int} (hn : h ≠ k) : (h != k) = true := bne_iff_ne.2 hn
theorem ne_false {h k : Int} (hn : h = k) : (h != k) = false := by subst hn; simp
theorem hv_true {a b : Nat} (ha : a < 32) (hb : b < 32) (h : hvN a b = true) : hvI (a : Int) (b : Int) = true := (hvI_yes ha hb).trans h
theorem impl_haveB (f o : Int) (w : World) : Calls Tryd.prog 22 #[.int .i64 f, .int .i64 o] w (SaysB w (hvI f o)) :=
  (impl_have f o w).mono (by rintro e w' ⟨rfl, k, rfl⟩; exact ⟨rfl, below_drewN' (Below.refl _ _) k⟩)
theorem ch_to {a b c : Nat} {h : Int} (ha : a < 32) (hb : b < 32) (hh : howB h = true) (hc : chN a h b = c) : chI (a : Int) h (b : Int) = (c : Int) := by rw [chI_yes ha hb hh, hc]

theorem sB_nil : sB [] = ⟨#[]⟩ := rfl
theorem text_some {a : Nat} (ha : a < 32) : ∃ T : List UInt8, ftI (a : Int) = T ∧ (sB T).toList.isEmpty = false ∧ ¬ (sB T).toList = [] := by
  have h := (textF_shape ha).1
  have h2 := noEmpty (v := sB (textF a)) (by rw [sB_size]; omega)
  exact ⟨_, ftI_yes ha, h2.1, h2.2⟩

end Go.Proofs.YtbcooiifpfdiaaaDoor
