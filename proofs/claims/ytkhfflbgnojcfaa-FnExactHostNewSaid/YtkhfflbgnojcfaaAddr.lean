/-
  The contract of the cursor's method 'address', and of the functions of chapter 1 that are built on the cursor. No condition beyond a bound on the text's length.
-/
import Derived.Test.YtkhfflbgnojcfaaDomain
namespace Go.Proofs.Ytkhfflbgnojcfaa
open Go.RowKit
set_option linter.unusedVariables false

/-- What 'address' leaves. -/
def Addressed (w : World) (b : Nat) (s : ByteArray) (k : Nat) (e : Ending) (w' : World) : Prop :=
  ∃ (u d : ByteArray) (j : Nat), e = .returned (.tuple #[.agg #[.string u, .string d], .bool (adOk s.data.toList k)]) ∧
    (adOk s.data.toList k = true → u.data.toList = adUser s.data.toList k ∧ d.data.toList = adDom s.data.toList k ∧ j = adEnd s.data.toList k) ∧
    (adOk s.data.toList k = false → u = ⟨#[]⟩ ∧ d = ⟨#[]⟩) ∧ j ≤ s.size ∧ Cur w' b s j ∧ w.grownBy w' (some b)

theorem bytes_nil {v : ByteArray} (h : v.data.toList = []) : v = ⟨#[]⟩ := by
  cases v with
  | mk d => cases d with
    | mk l => simp at h; subst h; rfl
theorem name_yes (b k : Nat) (s : ByteArray) (w : World) (h : Cur w b s k) (hs : s.size ≤ 16777216) (hk : k ≤ s.size) (ho : okLen (nmLen s.data.toList k) = true) :
    Calls Try.prog 56 #[.pointer (some ⟨b, 0, none⟩)] w fun e w' => ∃ v : ByteArray, e = .returned (.tuple #[.string v, .bool true]) ∧ v.data.toList = (s.data.toList.drop k).take (nmLen s.data.toList k) ∧ Cur w' b s (k + nmLen s.data.toList k) ∧ w.grownBy w' (some b) := by
  refine (name_any b k s w h hs hk).mono ?_
  rintro e w' ⟨v, he, hv, hc, hg⟩
  rw [ho] at he
  rw [ho, if_pos rfl] at hv
  exact ⟨v, he, hv, hc, hg⟩
theorem name_no (b k : Nat) (s : ByteArray) (w : World) (h : Cur w b s k) (hs : s.size ≤ 16777216) (hk : k ≤ s.size) (ho : okLen (nmLen s.data.toList k) = false) :
    Calls Try.prog 56 #[.pointer (some ⟨b, 0, none⟩)] w fun e w' => e = .returned (.tuple #[.string ⟨#[]⟩, .bool false]) ∧ Cur w' b s (k + nmLen s.data.toList k) ∧ w.grownBy w' (some b) := by
  refine (name_any b k s w h hs hk).mono ?_
  rintro e w' ⟨v, he, hv, hc, hg⟩
  rw [ho] at he
  rw [ho] at hv
  have := bytes_nil (v := v) (by simpa using hv)
  subst this
  exact ⟨he, hc, hg⟩
theorem domain_yes (b k : Nat) (s : ByteArray) (w : World) (h : Cur w b s k) (hs : s.size ≤ 16777216) (hk : k ≤ s.size) (ho : domOk s.data.toList k = true) :
    Calls Try.prog 37 #[.pointer (some ⟨b, 0, none⟩)] w fun e w' => ∃ v : ByteArray, e = .returned (.tuple #[.string v, .bool true]) ∧ v.data.toList = (s.data.toList.drop k).take (domEnd s.data.toList k - k) ∧ domEnd s.data.toList k ≤ s.size ∧ Cur w' b s (domEnd s.data.toList k) ∧ w.grownBy w' (some b) := by
  refine (domain_any b k s w h hs hk).mono ?_
  rintro e w' ⟨v, he, hv, hc⟩
  rw [ho] at he
  rw [ho, if_pos rfl] at hv
  exact ⟨v, he, hv, hc⟩
theorem domain_no (b k : Nat) (s : ByteArray) (w : World) (h : Cur w b s k) (hs : s.size ≤ 16777216) (hk : k ≤ s.size) (ho : domOk s.data.toList k = false) :
    Calls Try.prog 37 #[.pointer (some ⟨b, 0, none⟩)] w fun e w' => e = .returned (.tuple #[.string ⟨#[]⟩, .bool false]) ∧ domEnd s.data.toList k ≤ s.size ∧ Cur w' b s (domEnd s.data.toList k) ∧ w.grownBy w' (some b) := by
  refine (domain_any b k s w h hs hk).mono ?_
  rintro e w' ⟨v, he, hv, hc⟩
  rw [ho] at he
  rw [ho] at hv
  have := bytes_nil (v := v) (by simpa using hv)
  subst this
  exact ⟨he, hc⟩

theorem addressed_no {b k j : Nat} {s : ByteArray} {w wr : World} (ho : adOk s.data.toList k = false) (hj : j ≤ s.size) (hc : Cur wr b s j) (hg : w.grownBy wr (some b)) :
    Addressed w b s k (.returned (.tuple #[.agg #[.string ⟨#[]⟩, .string ⟨#[]⟩], .bool false])) wr :=
  ⟨_, _, j, by rw [ho], fun h => by rw [ho] at h; (cases h), fun _ => ⟨rfl, rfl⟩, hj, hc, hg⟩

end Go.Proofs.Ytkhfflbgnojcfaa
