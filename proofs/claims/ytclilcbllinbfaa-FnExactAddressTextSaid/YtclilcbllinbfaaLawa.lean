/-
  The walks of the laws FnExactNameValid and FnExactDomainValid. No condition.
-/
import Derived.Test.YtclilcbllinbfaaVals
namespace Go.Proofs.Ytclilcbllinbfaa
open Go.RowKit
set_option linter.unusedVariables false

/-- A law holds here. -/
def Holds1 (w : World) (e : Ending) (w' : World) : Prop := e = .returned (.bool true) ∧ Below w.heap.size w w'

set_option maxHeartbeats 1000000 in
theorem law_FnExactNameValid (s : ByteArray) (w : World) (hs : s.size ≤ maxLen) : Calls Try.prog 17 #[.string s] w (Holds1 w) := by
  unfold maxLen at hs
  by_cases hb : s.size ≤ 1048576
  · have hb' : (s.size : Int) ≤ 1048576 := by omega
    go_enter Try.func17, Try.ntmps17
    go_wp2_with fail
    refine (spec_name s _ (by omega)).mono ?_
    rintro e w1 ⟨rfl, rfl⟩
    go_wp2_with fail
    refine (impl_name s _ (by omega)).mono ?_
    rintro e w2 ⟨rfl, hb2⟩
    have HB := Lib.hid hb2
    clear hb2
    cases hv : nameB s.data.toList
    all_goals
      have HV := Lib.hid hv
      clear hv
      go_wp2
      go_ret
      exact ⟨rfl, HB.out⟩
  · have hb' : (1048576 : Int) < (s.size : Int) := by omega
    go_enter Try.func17, Try.ntmps17
    go_wp2
    go_ret
    exact ⟨rfl, Below.refl _ _⟩
set_option maxHeartbeats 1000000 in
theorem law_FnExactDomainValid (s : ByteArray) (w : World) (hs : s.size ≤ maxLen) : Calls Try.prog 18 #[.string s] w (Holds1 w) := by
  unfold maxLen at hs
  by_cases hb : s.size ≤ 1048576
  · have hb' : (s.size : Int) ≤ 1048576 := by omega
    go_enter Try.func18, Try.ntmps18
    go_wp2_with fail
    refine (spec_domain s _ (by omega)).mono ?_
    rintro e w1 ⟨rfl, hb1⟩
    have HB1 := Lib.hid hb1
    have hz := hb1.size
    clear hb1
    go_wp2_with fail
    refine (impl_domain s _ (by omega)).mono ?_
    rintro e w2 ⟨rfl, hb2⟩
    have HB := Lib.hid (HB1.out.trans (hb2.mono hz))
    clear hb2
    cases hv : domB s.data.toList
    all_goals
      have HV := Lib.hid hv
      clear hv
      go_wp2
      go_ret
      exact ⟨rfl, HB.out⟩
  · have hb' : (1048576 : Int) < (s.size : Int) := by omega
    go_enter Try.func18, Try.ntmps18
    go_wp2
    go_ret
    exact ⟨rfl, Below.refl _ _⟩
end Go.Proofs.Ytclilcbllinbfaa
