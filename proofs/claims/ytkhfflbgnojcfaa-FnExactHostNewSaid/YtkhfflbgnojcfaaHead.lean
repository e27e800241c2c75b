/-
  The head line of the translation, read word by word: the closed facts on how it was made, each without reckoning the whole line. No condition.
-/
import Derived.Test.YtkhfflbgnojcfaaChecked
import GoSem.ClaimJoined
import Derived.JoinedOf
import Derived.KernelRfl
namespace Go.Proofs.Ytkhfflbgnojcfaa
open Go
set_option maxRecDepth 100000

/-- The blank. -/
def blank : Char := Char.ofNat 32
def signsOf {s : String} {l : List Char} (_h : s = String.ofList l) : List Char := l
theorem signsOf_eq {s : String} {l : List Char} (h : s = String.ofList l) : s.toList = signsOf h := by subst h; exact String.toList_ofList
theorem words_step (w r : List Char) (h : w.all (fun c => c != blank) = true) : wordsSigns (w ++ blank :: r) = w :: wordsSigns r := by
  induction w with
  | nil => rfl
  | cons c w ih =>
    rw [List.all_cons, Bool.and_eq_true] at h
    have hc : c ≠ blank := by simpa using h.1
    rw [List.cons_append]
    conv => lhs; unfold wordsSigns
    split
    · rename_i e; cases e
    · rename_i e; injection e with e1 e2; exact absurd e1 hc
    · rename_i e
      injection e with e1 e2
      subst e1 e2
      rw [ih h.2]

def signs : List Char := signsOf (s := Try.prog.initOrder) (l := _) rfl
theorem signs_eq : Try.prog.initOrder.toList = signs := signsOf_eq (s := Try.prog.initOrder) (l := _) rfl
theorem signs0 : signs = signs.take 7 ++ blank :: signs.drop 8 := by kernel_rfl
theorem signs1 : signs.drop 8 = (signs.drop 8).take 64 ++ blank :: signs.drop 73 := by kernel_rfl
theorem signs2 : signs.drop 73 = (signs.drop 73).take 3 ++ blank :: signs.drop 77 := by kernel_rfl
theorem words_eq : wordsSigns signs = signs.take 7 :: (signs.drop 8).take 64 :: (signs.drop 73).take 3 :: wordsSigns (signs.drop 77) := by
  conv => lhs; rw [signs0]
  rw [words_step _ _ (by kernel_rfl)]
  conv => lhs; rw [signs1]
  rw [words_step _ _ (by kernel_rfl)]
  conv => lhs; rw [signs2]
  rw [words_step _ _ (by kernel_rfl)]
theorem behind_of {h t : List Char} {r : List (List Char)} (hh : ((h == "harness".toList || h == "ownmain".toList) && isSumSigns t) = true) : behindMainWord (h :: t :: r) = r := by
  unfold behindMainWord
  simp only [hh, if_true]
theorem behind_eq : behindMainWord (wordsSigns Try.prog.initOrder.toList) = (signs.drop 73).take 3 :: wordsSigns (signs.drop 77) := by
  rw [signs_eq, words_eq]
  exact behind_of (by kernel_rfl)
theorem make_of {P : Program} {c : List Char} {r : List (List Char)} (h : behindMainWord (wordsSigns P.initOrder.toList) = c :: r) (h1 : (c == "gc".toList || c == "spec".toList) = false) (h2 : (c == "cut".toList) = true) : P.make = some .cut := by
  unfold Program.make
  rw [h]
  simp only [h1, h2, Bool.true_or, if_true, Bool.false_eq_true, if_false]
theorem make_eq : Try.prog.make = some .cut := make_of behind_eq (by kernel_rfl) (by kernel_rfl)
end Go.Proofs.Ytkhfflbgnojcfaa
