/-
  A closed fact on the translation's head line. No condition.
-/
import Derived.Test.YtkhfflbgnojcfaaHeade
namespace Go.Proofs.Ytkhfflbgnojcfaa
open Go
set_option maxRecDepth 100000
theorem lifts_eq : Try.prog.liftsFinal = false := by
  unfold Program.liftsFinal Program.headLifts
  rw [behind_eq]
  generalize wordsSigns (signs.drop 77) = X
  kernel_rfl
theorem strip_eq (X : List (List Char)) : stripLifts liftWords ((signs.drop 73).take 3 :: X) = ([], (signs.drop 73).take 3 :: X) := by
  have h : ∀ (os : List String) (c : List Char), os.all (fun o => c != o.toList) = true → stripLifts os (c :: X) = ([], c :: X) := by
    intro os c
    induction os with
    | nil => intro _; rfl
    | cons o os ih =>
      intro ha
      rw [List.all_cons, Bool.and_eq_true] at ha
      have hne : (c == o.toList) = false := by simpa using ha.1
      unfold stripLifts
      rw [if_neg (by rw [hne]; decide)]
      exact ih ha.2
  exact h _ _ (by kernel_rfl)
theorem enter_of {P : Program} {c : List Char} {r : List (List Char)} (h : behindMainWord (wordsSigns P.initOrder.toList) = c :: r) (h1 : (c == "gc".toList || c == "spec".toList) = false) (h2 : (c == "carried".toList) = false)
    (hs : stripLifts liftWords (c :: r) = ([], c :: r)) (hc : (c == "cut".toList) = true) (hl : P.laysLater = false) (hr : P.bearsReflect = false) (hd : P.doorFits [] = true) : P.mayEnter = true := by
  have hc' : c = "cut".toList := by simpa using hc
  unfold Program.mayEnter
  rw [h]
  simp only [hs, h1, h2, hl, hr, hd, List.head?_cons, Bool.false_and, Bool.false_or, Bool.not_false, Bool.or_true, Bool.and_true, List.contains_nil]
  rw [hc']
  exact beq_self_eq_true _
theorem enter_eq : Try.prog.mayEnter = true := enter_of behind_eq (by kernel_rfl) (by kernel_rfl) (strip_eq _) (by kernel_rfl) lays_eq refl_eq door_eq
end Go.Proofs.Ytkhfflbgnojcfaa
