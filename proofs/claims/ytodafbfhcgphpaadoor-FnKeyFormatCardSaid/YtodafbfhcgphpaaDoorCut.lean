/-
  The contract of spec.l1Cut: the parts of a text at a byte. No condition beyond a bound on the text's length.
-/
import Derived.Test.YtodafbfhcgphpaaDoorSpec
import Derived.Maps.AppendAt
import Derived.Deep.AppendLies
namespace Go.Proofs.YtodafbfhcgphpaaDoor
open Go.RowKit
set_option linter.unusedVariables false

/-- A string value. -/
def str (l : List UInt8) : Value := .string ⟨l.toArray⟩
theorem str_of (s : ByteArray) : Value.string s = str s.data.toList := by
  unfold str
  cases s
  simp
/-- The parts of a text at a byte, the first one begun with 'cur'. -/
def cutGo (c : UInt8) : List UInt8 → List UInt8 → List (List UInt8)
  | cur, [] => [cur]
  | cur, x :: t => if x = c then cur :: cutGo c [] t else cutGo c (cur ++ [x]) t
/-- The parts of a text at a byte. -/
def cut (c : UInt8) (L : List UInt8) : List (List UInt8) := cutGo c [] L

theorem cutGo_len (c : UInt8) (l : List UInt8) : ∀ cur, 1 ≤ (cutGo c cur l).length ∧ (cutGo c cur l).length ≤ l.length + 1 := by
  induction l with
  | nil => intro cur; simp [cutGo]
  | cons x t ih =>
    intro cur
    unfold cutGo
    split
    · have := ih []; simp; omega
    · have := ih (cur ++ [x]); simp; omega
theorem cut_len (c : UInt8) (L : List UInt8) : 1 ≤ (cut c L).length ∧ (cut c L).length ≤ L.length + 1 := cutGo_len c L []

/-- What the loop has found: the parts 'P', and where the next one begins. -/
def CutAt (c : UInt8) (L : List UInt8) (P : List (List UInt8)) (f i : Nat) : Prop := cut c L = P ++ cutGo c ((L.drop f).take (i - f)) (L.drop i)

theorem CutAt.begin (c : UInt8) (L : List UInt8) : CutAt c L [] 0 0 := by unfold CutAt cut; simp
theorem CutAt.hit {c : UInt8} {L : List UInt8} {P : List (List UInt8)} {f i : Nat} (h : CutAt c L P f i) (hi : i < L.length) (hc : L[i] = c) : CutAt c L (P ++ [(L.drop f).take (i - f)]) (i + 1) (i + 1) := by
  unfold CutAt at h ⊢
  rw [h, List.drop_eq_getElem_cons hi]
  conv => lhs; rw [cutGo, if_pos hc]
  simp
theorem CutAt.miss {c : UInt8} {L : List UInt8} {P : List (List UInt8)} {f i : Nat} (h : CutAt c L P f i) (hf : f ≤ i) (hi : i < L.length) (hc : L[i] ≠ c) : CutAt c L P f (i + 1) := by
  unfold CutAt at h ⊢
  rw [h, List.drop_eq_getElem_cons hi]
  conv => lhs; rw [cutGo, if_neg hc]
  congr 2
  have e : i + 1 - f = (i - f) + 1 := by omega
  rw [e, List.take_succ_eq_append_getElem (by rw [List.length_drop]; omega), List.getElem_drop]
  congr 2
  congr 1
  omega
theorem CutAt.finish {c : UInt8} {L : List UInt8} {P : List (List UInt8)} {f : Nat} (h : CutAt c L P f L.length) : cut c L = P ++ [L.drop f] := by
  unfold CutAt at h
  rw [h, List.drop_length]
  unfold cutGo
  congr 2
  rw [List.take_of_length_le (by rw [List.length_drop]; omega)]
theorem CutAt.len {c : UInt8} {L : List UInt8} {P : List (List UInt8)} {f i : Nat} (h : CutAt c L P f i) : P.length ≤ L.length := by
  have h1 := cut_len c L
  unfold CutAt at h
  rw [h, List.length_append] at h1
  have h2 := cutGo_len c (L.drop i) ((L.drop f).take (i - f))
  omega

theorem Tryd.infoString : (Tryd.prog.info? 9).map (fun i => (i.zero, i.size, i.bytes)) = some (some (.string ⟨#[]⟩), 1, 16) := by kernel_rfl

/-- What 'l1Cut' leaves: a slice that holds the parts. -/
def Cuts (w : World) (ps : List (List UInt8)) (e : Ending) (w' : World) : Prop :=
  ∃ (g cap : Nat), e = .returned (.slice (some ⟨g, 0, none⟩) ps.length cap) ∧ w.heap.size ≤ g ∧ g < w'.heap.size ∧ (∀ j, j < ps.length → w'.cell? ⟨g, j, none⟩ = some (str (ps.getD j []))) ∧ Below w.heap.size w w'

end Go.Proofs.YtodafbfhcgphpaaDoor
