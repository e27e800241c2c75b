/-
  The contracts of the exported functions of chapter 1, in the terms of the specification. No condition beyond a bound on the text's length.
-/
import Derived.Test.YtclilcbllinbfaaEq
import Derived.Test.YtclilcbllinbfaaDraws
namespace Go.Proofs.Ytclilcbllinbfaa
open Go.RowKit
set_option linter.unusedVariables false

theorem impl_name (s : ByteArray) (w : World) (hs : s.size ≤ 16777216) :
    Calls Try.prog 23 #[.string s] w fun e w' => e = .returned (.bool (nameB s.data.toList)) ∧ Below w.heap.size w w' := by
  have h := impl_name_ s w hs
  have e := name_eq s.data.toList
  have hl : s.data.toList.length = s.size := by simp
  rw [hl] at e
  rw [e] at h
  exact h
theorem impl_domain (s : ByteArray) (w : World) (hs : s.size ≤ 16777216) :
    Calls Try.prog 27 #[.string s] w fun e w' => e = .returned (.bool (domB s.data.toList)) ∧ Below w.heap.size w w' := by
  have h := impl_domain_ s w hs
  have e := dom_eq0 s.data.toList
  have hl : s.data.toList.length = s.size := by simp
  rw [hl] at e
  rw [e] at h
  exact h
theorem impl_addr (s : ByteArray) (w : World) (hs : s.size ≤ 16777216) :
    Calls Try.prog 31 #[.string s] w (Parsed w (spB s.data.toList) ((two s.data.toList).getD 0 []) ((two s.data.toList).getD 1 [])) := by
  refine (impl_parse s w hs).mono ?_
  rintro e w' ⟨u, d, he, h1, h2, hb⟩
  obtain ⟨q1, q2⟩ := ad_eq s.data.toList
  refine ⟨u, d, by rw [← q1]; exact he, fun h => ?_, fun h => h2 (by rw [q1]; exact h), hb⟩
  have h' := h1 (by rw [q1]; exact h)
  have h'' := q2 (by rw [q1]; exact h)
  exact ⟨h'.1.trans h''.1, h'.2.trans h''.2⟩
set_option maxHeartbeats 1000000 in
theorem impl_text (u d : ByteArray) (w : World) (hu : u.size ≤ 16777216) (hd : d.size ≤ 16777216) :
    Calls Try.prog 33 #[.agg #[.string u, .string d]] w (Wrote w (adText u.data.toList d.data.toList)) := by
  have ez : (w.alloc (.cells #[.string u, .string d] 30)).heap.size = w.heap.size + 1 := by simp
  have hA := Whole.made w 30 #[.string u, .string d]
  have hB := (Below.refl w.heap.size w).alloc (Nat.le_refl _) (.cells #[.string u, .string d] 30)
  have HE := Lib.hid ez
  have HA := Lib.hid hA
  have HB := Lib.hid hB
  clear ez hA hB
  by_cases hn : nameB u.data.toList = true
  · have HN := Lib.hid hn
    clear hn
    by_cases hd2 : domB d.data.toList = true
    · have HD := Lib.hid hd2
      clear hd2
      go_enter Try.func33, Try.ntmps33
      go_wp2_with fail
      refine (impl_name u _ hu).mono ?_
      rintro e w1 ⟨rfl, hb⟩
      rw [HE.out] at hb
      have h1 := HA.out.below hb (by omega)
      have ha1 : w1.cell? ⟨w.heap.size, 1, none⟩ = some (.string d) := h1.cell 1
      have H1 := Lib.hid h1
      have HB1 := Lib.hid (HB.out.trans (hb.mono (Nat.le_succ _)))
      have hz := h1.lt
      clear hb h1
      rw [HN.out]
      go_wp2_with fail
      refine (impl_domain d _ hd).mono ?_
      rintro e w2 ⟨rfl, hb⟩
      have h2 := H1.out.below hb hz
      have hb0 : w2.cell? ⟨w.heap.size, 0, none⟩ = some (.string u) := h2.cell 0
      have hb1 : w2.cell? ⟨w.heap.size, 1, none⟩ = some (.string d) := h2.cell 1
      have HB2 := Lib.hid (HB1.out.trans (hb.mono (by omega)))
      clear hb h2 ha1
      rw [HD.out]
      go_wp2
      go_ret
      exact ⟨_, by rw [adText_yes (by rw [HN.out, HD.out]; rfl)]; exact cat_data u d, rfl, HB2.out⟩
    · have HD := Lib.hid (Bool.eq_false_iff.2 hd2)
      clear hd2
      go_enter Try.func33, Try.ntmps33
      go_wp2_with fail
      refine (impl_name u _ hu).mono ?_
      rintro e w1 ⟨rfl, hb⟩
      rw [HE.out] at hb
      have h1 := HA.out.below hb (by omega)
      have ha1 : w1.cell? ⟨w.heap.size, 1, none⟩ = some (.string d) := h1.cell 1
      have HB1 := Lib.hid (HB.out.trans (hb.mono (Nat.le_succ _)))
      have hz := h1.lt
      clear hb h1
      rw [HN.out]
      go_wp2_with fail
      refine (impl_domain d _ hd).mono ?_
      rintro e w2 ⟨rfl, hb⟩
      have HB2 := Lib.hid (HB1.out.trans (hb.mono (by omega)))
      clear hb ha1
      rw [HD.out]
      go_wp2
      go_ret
      exact ⟨_, by rw [adText_no (by rw [HD.out]; simp)], rfl, HB2.out⟩
  · have HN := Lib.hid (Bool.eq_false_iff.2 hn)
    clear hn
    go_enter Try.func33, Try.ntmps33
    go_wp2_with fail
    refine (impl_name u _ hu).mono ?_
    rintro e w1 ⟨rfl, hb⟩
    rw [HE.out] at hb
    have HB1 := Lib.hid (HB.out.trans (hb.mono (Nat.le_succ _)))
    clear hb
    rw [HN.out]
    go_wp2
    go_ret
    exact ⟨_, by rw [adText_no (by rw [HN.out]; rfl)], rfl, HB1.out⟩
end Go.Proofs.Ytclilcbllinbfaa
