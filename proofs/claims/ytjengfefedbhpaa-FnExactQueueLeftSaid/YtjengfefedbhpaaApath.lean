/-
  The contract of spec.PathParse. No condition beyond a bound on the text's length.
-/
import Derived.Test.YtjengfefedbhpaaAval
namespace Go.Proofs.Ytjengfefedbhpaa
open Go.RowKit
set_option linter.unusedVariables false

theorem gave_mk {w w' : World} {ok ok' : Bool} {u u' d d' : ByteArray} (h1 : ok = ok') (h2 : u = u') (h3 : d = d') (hb : Below w.heap.size w w') : Gave w ok u d (.returned (.tuple #[.agg #[.string u', .string d'], .bool ok'])) w' := by
  subst h1
  subst h2
  subst h3
  exact ⟨rfl, hb⟩
theorem q_bare {L : List UInt8} (h : L = bare) : spP L = true ∧ bs (qU L) = ⟨#[]⟩ ∧ bs (qD L) = ⟨#[]⟩ := by
  unfold spP qU qD
  rw [decide_eq_true h, if_pos h, if_pos h]
  exact ⟨rfl, rfl, rfl⟩
theorem q_off {L : List UInt8} (h : ¬ L = bare) (hr : brB L = false) : spP L = false ∧ bs (qU L) = ⟨#[]⟩ ∧ bs (qD L) = ⟨#[]⟩ := by
  have hs : spP L = false := by unfold spP; rw [decide_eq_false h, hr]; rfl
  obtain ⟨e1, e2⟩ := q_no hs
  rw [e1, e2]
  exact ⟨hs, rfl, rfl⟩
theorem q_in {L : List UInt8} (h : ¬ L = bare) (hr : brB L = true) : spP L = spB (mid L) ∧ qU L = pU (mid L) ∧ qD L = pD (mid L) := by
  unfold spP qU qD
  rw [decide_eq_false h, hr, if_neg h, if_neg h, if_pos rfl, if_pos rfl]
  exact ⟨rfl, rfl, rfl⟩
theorem next_at {s : ByteArray} {k : Nat} (hk : k < s.size) (c : UInt8) : nextIs s.data.toList k c = (s[k] == c) := by
  unfold nextIs
  have hl : k < s.data.toList.length := by simpa using hk
  rw [List.getElem?_eq_getElem hl]
  rfl
theorem br_at {s : ByteArray} {m : Nat} (hm : s.size = m + 1) (h0 : 0 < s.size) (h1 : m < s.size) (h2 : 1 ≤ m) : brB s.data.toList = (s[0] == (60 : UInt8) && s[m] == (62 : UInt8)) := by
  have hl : s.data.toList.length = s.size := by simp
  unfold brB
  rw [next_at h0, hl, hm, Nat.add_sub_cancel, next_at h1, decide_eq_true (by omega)]
  rfl
theorem mid_at {s : ByteArray} {m : Nat} (hm : s.size = m + 1) : (s.extract 1 m).data.toList = mid s.data.toList := by
  have hl : s.data.toList.length = s.size := by simp
  rw [extract_list]
  unfold mid
  rw [hl, hm]
  rfl

end Go.Proofs.Ytjengfefedbhpaa
