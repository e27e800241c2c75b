/-
  The walks of the laws FnChangeSet, FnChangeRemove, FnChangePut, FnChangeTwice, FnChangeOrder, FnHave, FnExactFlagsChange and FnExactFlagsHave. Condition: the code can be read.
-/
import Derived.Test.YtbcooiifpfdiaaaFdraw
namespace Go.Proofs.Ytbcooiifpfdiaaa
open Go.RowKit
set_option linter.unusedVariables false

theorem ne_true {h k : Int} (hn : h ≠ k) : (h != k) = true := bne_iff_ne.2 hn
theorem ne_false {h k : Int} (hn : h = k) : (h != k) = false := by subst hn; simp
theorem hv_true {a b : Nat} (ha : a < 32) (hb : b < 32) (h : hvN a b = true) : hvI (a : Int) (b : Int) = true := (hvI_yes ha hb).trans h
theorem impl_haveB (f o : Int) (w : World) : Calls Try.prog 14 #[.int .i64 f, .int .i64 o] w (SaysB w (hvI f o)) :=
  (impl_have f o w).mono (by rintro e w' ⟨rfl, k, rfl⟩; exact ⟨rfl, below_drewN' (Below.refl _ _) k⟩)
theorem ch_to {a b c : Nat} {h : Int} (ha : a < 32) (hb : b < 32) (hh : howB h = true) (hc : chN a h b = c) : chI (a : Int) h (b : Int) = (c : Int) := by rw [chI_yes ha hb hh, hc]

set_option maxRecDepth 20000 in
set_option maxHeartbeats 2000000 in
theorem law_FnChangeSet (A : Option Addr) (len cap : Nat) (w : World) (h : Coded w A len cap) : Calls Try.prog 3 #[.slice A len cap] w (Holds1 w) := by
  have HC := Lib.hid h
  clear h
  by_cases hl : len ≤ 1048576
  · have hl' : (len : Int) ≤ 1048576 := by omega
    go_enter Try.func3, Try.ntmps3
    go_wp2_with fail
    refine (draw_change A len cap _ HC.out).mono ?_
    rintro e w1 ⟨f, h, o, rfl, hb0⟩
    have HB1 := Lib.hid hb0
    clear hb0
    rcases chI_range f h o with hno | ⟨a, b, ha, hb, rfl, rfl, hh, hv, hc⟩
    · have HN := Lib.hid hno
      clear hno
      go_wp2_with fail
      refine (impl_change f h o _).mono ?_
      rintro e w2 ⟨rfl, hb0⟩
      have HB2 := Lib.hid (HB1.out.trans (hb0.mono HB1.out.size))
      clear hb0
      rw [HN.out]
      go_wp2_with fail
      refine (spec_change f h o _).mono ?_
      rintro e w3 ⟨rfl, hb0⟩
      have HB3 := Lib.hid (HB2.out.trans (hb0.mono HB2.out.size))
      clear hb0
      rw [HN.out]
      go_wp2
      go_ret
      exact ⟨rfl, HB3.out⟩
    · obtain ⟨c, hcc⟩ : ∃ c, chN a h b = c := ⟨_, rfl⟩
      rw [hcc] at hv hc
      have HN := Lib.hid hv
      have c0 : ¬ (c : Int) < 0 := by omega
      clear hv
      by_cases h1 : h = 1
      · subst h1
        obtain ⟨l1, l2, l3⟩ := set_law ha hb
        rw [hcc] at l1 l2 l3
        have H1 := Lib.hid (hv_true hc ha l1)
        have H2 := Lib.hid (hv_true hc hb l2)
        have W1 : IntKind.i64.wrap ((a : Int) + (b : Int)) = (a : Int) + (b : Int) := IntWalk.i64_in _ (by omega)
        have l3' : (c : Int) ≤ (a : Int) + (b : Int) := by omega
        clear hcc hh l1 l2 l3
        go_wp2_with fail
        refine (impl_change (a : Int) 1 (b : Int) _).mono ?_
        rintro e w2 ⟨rfl, hb0⟩
        have HB2 := Lib.hid (HB1.out.trans (hb0.mono HB1.out.size))
        clear hb0
        rw [HN.out]
        go_wp2_with fail
        refine (spec_change (a : Int) 1 (b : Int) _).mono ?_
        rintro e w3 ⟨rfl, hb0⟩
        have HB3 := Lib.hid (HB2.out.trans (hb0.mono HB2.out.size))
        clear hb0
        rw [HN.out]
        go_wp2_with fail
        refine (impl_haveB (c : Int) (a : Int) _).mono ?_
        rintro e w4 ⟨rfl, hb0⟩
        have HB4 := Lib.hid (HB3.out.trans (hb0.mono HB3.out.size))
        clear hb0
        rw [H1.out]
        go_wp2_with fail
        refine (impl_haveB (c : Int) (b : Int) _).mono ?_
        rintro e w5 ⟨rfl, hb0⟩
        have HB5 := Lib.hid (HB4.out.trans (hb0.mono HB4.out.size))
        clear hb0
        rw [H2.out]
        go_wp2
        go_ret
        exact ⟨rfl, HB5.out⟩
      · have h1' := ne_true h1
        clear h1 hcc hh
        go_wp2_with fail
        refine (impl_change (a : Int) h (b : Int) _).mono ?_
        rintro e w2 ⟨rfl, hb0⟩
        have HB2 := Lib.hid (HB1.out.trans (hb0.mono HB1.out.size))
        clear hb0
        rw [HN.out]
        go_wp2_with fail
        refine (spec_change (a : Int) h (b : Int) _).mono ?_
        rintro e w3 ⟨rfl, hb0⟩
        have HB3 := Lib.hid (HB2.out.trans (hb0.mono HB2.out.size))
        clear hb0
        rw [HN.out]
        go_wp2
        go_ret
        exact ⟨rfl, HB3.out⟩
  · have hl' : (1048576 : Int) < (len : Int) := by omega
    go_enter Try.func3, Try.ntmps3
    go_wp2
    go_ret
    exact ⟨rfl, Below.refl _ _⟩

set_option maxRecDepth 20000 in
set_option maxHeartbeats 2000000 in
theorem law_FnChangeRemove (A : Option Addr) (len cap : Nat) (w : World) (h : Coded w A len cap) : Calls Try.prog 4 #[.slice A len cap] w (Holds1 w) := by
  have HC := Lib.hid h
  clear h
  by_cases hl : len ≤ 1048576
  · have hl' : (len : Int) ≤ 1048576 := by omega
    go_enter Try.func4, Try.ntmps4
    go_wp2_with fail
    refine (draw_change A len cap _ HC.out).mono ?_
    rintro e w1 ⟨f, h, o, rfl, hb0⟩
    have HB1 := Lib.hid hb0
    clear hb0
    rcases chI_range f h o with hno | ⟨a, b, ha, hb, rfl, rfl, hh, hv, hc⟩
    · have HN := Lib.hid hno
      clear hno
      go_wp2_with fail
      refine (impl_change f h o _).mono ?_
      rintro e w2 ⟨rfl, hb0⟩
      have HB2 := Lib.hid (HB1.out.trans (hb0.mono HB1.out.size))
      clear hb0
      rw [HN.out]
      go_wp2_with fail
      refine (spec_change f h o _).mono ?_
      rintro e w3 ⟨rfl, hb0⟩
      have HB3 := Lib.hid (HB2.out.trans (hb0.mono HB2.out.size))
      clear hb0
      rw [HN.out]
      go_wp2
      go_ret
      exact ⟨rfl, HB3.out⟩
    · obtain ⟨c, hcc⟩ : ∃ c, chN a h b = c := ⟨_, rfl⟩
      rw [hcc] at hv hc
      have HN := Lib.hid hv
      have c0 : ¬ (c : Int) < 0 := by omega
      clear hv
      by_cases h1 : h = -1
      · subst h1
        obtain ⟨l1, l2, l3⟩ := rem_law ha hb
        rw [hcc] at l1 l2 l3
        obtain ⟨d, hd⟩ : ∃ d, chN a 1 b = d := ⟨_, rfl⟩
        rw [hd] at l3
        have H1 := Lib.hid (hv_true ha hc l1)
        have H2 := Lib.hid (ch_to (h := -1) hc hb (by decide) l2)
        have H3 := Lib.hid (ch_to (h := 1) hc hb (by decide) l3)
        have H4 := Lib.hid (ch_to (h := 1) ha hb (by decide) hd)
        clear hcc hh l1 l2 l3 hd
        go_wp2_with fail
        refine (impl_change (a : Int) (-1) (b : Int) _).mono ?_
        rintro e w2 ⟨rfl, hb0⟩
        have HB2 := Lib.hid (HB1.out.trans (hb0.mono HB1.out.size))
        clear hb0
        rw [HN.out]
        go_wp2_with fail
        refine (spec_change (a : Int) (-1) (b : Int) _).mono ?_
        rintro e w3 ⟨rfl, hb0⟩
        have HB3 := Lib.hid (HB2.out.trans (hb0.mono HB2.out.size))
        clear hb0
        rw [HN.out]
        go_wp2_with fail
        refine (impl_haveB (a : Int) (c : Int) _).mono ?_
        rintro e w4 ⟨rfl, hb0⟩
        have HB4 := Lib.hid (HB3.out.trans (hb0.mono HB3.out.size))
        clear hb0
        rw [H1.out]
        go_wp2_with fail
        refine (impl_change (c : Int) (-1) (b : Int) _).mono ?_
        rintro e w5 ⟨rfl, hb0⟩
        have HB5 := Lib.hid (HB4.out.trans (hb0.mono HB4.out.size))
        clear hb0
        rw [H2.out]
        go_wp2_with fail
        refine (impl_change (c : Int) 1 (b : Int) _).mono ?_
        rintro e w6 ⟨rfl, hb0⟩
        have HB6 := Lib.hid (HB5.out.trans (hb0.mono HB5.out.size))
        clear hb0
        rw [H3.out]
        go_wp2_with fail
        refine (impl_change (a : Int) 1 (b : Int) _).mono ?_
        rintro e w7 ⟨rfl, hb0⟩
        have HB7 := Lib.hid (HB6.out.trans (hb0.mono HB6.out.size))
        clear hb0
        rw [H4.out]
        go_wp2
        go_ret
        exact ⟨rfl, HB7.out⟩
      · have h1' := ne_true h1
        clear h1 hcc hh
        go_wp2_with fail
        refine (impl_change (a : Int) h (b : Int) _).mono ?_
        rintro e w2 ⟨rfl, hb0⟩
        have HB2 := Lib.hid (HB1.out.trans (hb0.mono HB1.out.size))
        clear hb0
        rw [HN.out]
        go_wp2_with fail
        refine (spec_change (a : Int) h (b : Int) _).mono ?_
        rintro e w3 ⟨rfl, hb0⟩
        have HB3 := Lib.hid (HB2.out.trans (hb0.mono HB2.out.size))
        clear hb0
        rw [HN.out]
        go_wp2
        go_ret
        exact ⟨rfl, HB3.out⟩
  · have hl' : (1048576 : Int) < (len : Int) := by omega
    go_enter Try.func4, Try.ntmps4
    go_wp2
    go_ret
    exact ⟨rfl, Below.refl _ _⟩

set_option maxRecDepth 20000 in
set_option maxHeartbeats 2000000 in
theorem law_FnChangePut (A : Option Addr) (len cap : Nat) (w : World) (h : Coded w A len cap) : Calls Try.prog 5 #[.slice A len cap] w (Holds1 w) := by
  have HC := Lib.hid h
  clear h
  by_cases hl : len ≤ 1048576
  · have hl' : (len : Int) ≤ 1048576 := by omega
    go_enter Try.func5, Try.ntmps5
    go_wp2_with fail
    refine (draw_change A len cap _ HC.out).mono ?_
    rintro e w1 ⟨f, h, o, rfl, hb0⟩
    have HB1 := Lib.hid hb0
    clear hb0
    rcases chI_range f h o with hno | ⟨a, b, ha, hb, rfl, rfl, hh, hv, hc⟩
    · have HN := Lib.hid hno
      clear hno
      go_wp2_with fail
      refine (impl_change f h o _).mono ?_
      rintro e w2 ⟨rfl, hb0⟩
      have HB2 := Lib.hid (HB1.out.trans (hb0.mono HB1.out.size))
      clear hb0
      rw [HN.out]
      go_wp2_with fail
      refine (spec_change f h o _).mono ?_
      rintro e w3 ⟨rfl, hb0⟩
      have HB3 := Lib.hid (HB2.out.trans (hb0.mono HB2.out.size))
      clear hb0
      rw [HN.out]
      go_wp2
      go_ret
      exact ⟨rfl, HB3.out⟩
    · obtain ⟨c, hcc⟩ : ∃ c, chN a h b = c := ⟨_, rfl⟩
      rw [hcc] at hv hc
      have HN := Lib.hid hv
      have c0 : ¬ (c : Int) < 0 := by omega
      clear hv
      by_cases h1 : h = 0
      · subst h1
        have l1 : b = c := (put_flags ha hb).symm.trans hcc
        have H1 : ((c : Int) == (b : Int)) = true := by rw [l1]; simp
        clear hcc hh l1
        go_wp2_with fail
        refine (impl_change (a : Int) 0 (b : Int) _).mono ?_
        rintro e w2 ⟨rfl, hb0⟩
        have HB2 := Lib.hid (HB1.out.trans (hb0.mono HB1.out.size))
        clear hb0
        rw [HN.out]
        go_wp2_with fail
        refine (spec_change (a : Int) 0 (b : Int) _).mono ?_
        rintro e w3 ⟨rfl, hb0⟩
        have HB3 := Lib.hid (HB2.out.trans (hb0.mono HB2.out.size))
        clear hb0
        rw [HN.out]
        go_wp2
        go_ret
        exact ⟨rfl, HB3.out⟩
      · have h1' := ne_true h1
        clear h1 hcc hh
        go_wp2_with fail
        refine (impl_change (a : Int) h (b : Int) _).mono ?_
        rintro e w2 ⟨rfl, hb0⟩
        have HB2 := Lib.hid (HB1.out.trans (hb0.mono HB1.out.size))
        clear hb0
        rw [HN.out]
        go_wp2_with fail
        refine (spec_change (a : Int) h (b : Int) _).mono ?_
        rintro e w3 ⟨rfl, hb0⟩
        have HB3 := Lib.hid (HB2.out.trans (hb0.mono HB2.out.size))
        clear hb0
        rw [HN.out]
        go_wp2
        go_ret
        exact ⟨rfl, HB3.out⟩
  · have hl' : (1048576 : Int) < (len : Int) := by omega
    go_enter Try.func5, Try.ntmps5
    go_wp2
    go_ret
    exact ⟨rfl, Below.refl _ _⟩

set_option maxRecDepth 20000 in
set_option maxHeartbeats 2000000 in
theorem law_FnChangeTwice (A : Option Addr) (len cap : Nat) (w : World) (h : Coded w A len cap) : Calls Try.prog 6 #[.slice A len cap] w (Holds1 w) := by
  have HC := Lib.hid h
  clear h
  by_cases hl : len ≤ 1048576
  · have hl' : (len : Int) ≤ 1048576 := by omega
    go_enter Try.func6, Try.ntmps6
    go_wp2_with fail
    refine (draw_change A len cap _ HC.out).mono ?_
    rintro e w1 ⟨f, h, o, rfl, hb0⟩
    have HB1 := Lib.hid hb0
    clear hb0
    rcases chI_range f h o with hno | ⟨a, b, ha, hb, rfl, rfl, hh, hv, hc⟩
    · have HN := Lib.hid hno
      clear hno
      go_wp2_with fail
      refine (impl_change f h o _).mono ?_
      rintro e w2 ⟨rfl, hb0⟩
      have HB2 := Lib.hid (HB1.out.trans (hb0.mono HB1.out.size))
      clear hb0
      rw [HN.out]
      go_wp2_with fail
      refine (spec_change f h o _).mono ?_
      rintro e w3 ⟨rfl, hb0⟩
      have HB3 := Lib.hid (HB2.out.trans (hb0.mono HB2.out.size))
      clear hb0
      rw [HN.out]
      go_wp2
      go_ret
      exact ⟨rfl, HB3.out⟩
    · obtain ⟨c, hcc⟩ : ∃ c, chN a h b = c := ⟨_, rfl⟩
      rw [hcc] at hv hc
      have HN := Lib.hid hv
      have c0 : ¬ (c : Int) < 0 := by omega
      clear hv
      have l1 := twice_law ha hb hh
      rw [hcc] at l1
      have H1 := Lib.hid (ch_to hc hb hh l1)
      clear hcc l1
      go_wp2_with fail
      refine (impl_change (a : Int) h (b : Int) _).mono ?_
      rintro e w2 ⟨rfl, hb0⟩
      have HB2 := Lib.hid (HB1.out.trans (hb0.mono HB1.out.size))
      clear hb0
      rw [HN.out]
      go_wp2_with fail
      refine (spec_change (a : Int) h (b : Int) _).mono ?_
      rintro e w3 ⟨rfl, hb0⟩
      have HB3 := Lib.hid (HB2.out.trans (hb0.mono HB2.out.size))
      clear hb0
      rw [HN.out]
      go_wp2_with fail
      refine (impl_change (c : Int) h (b : Int) _).mono ?_
      rintro e w4 ⟨rfl, hb0⟩
      have HB4 := Lib.hid (HB3.out.trans (hb0.mono HB3.out.size))
      clear hb0
      rw [H1.out]
      go_wp2
      go_ret
      exact ⟨rfl, HB4.out⟩
  · have hl' : (1048576 : Int) < (len : Int) := by omega
    go_enter Try.func6, Try.ntmps6
    go_wp2
    go_ret
    exact ⟨rfl, Below.refl _ _⟩

set_option maxRecDepth 20000 in
set_option maxHeartbeats 2000000 in
theorem law_FnChangeOrder (A : Option Addr) (len cap : Nat) (w : World) (h : Coded w A len cap) : Calls Try.prog 7 #[.slice A len cap] w (Holds1 w) := by
  have HC := Lib.hid h
  clear h
  by_cases hl : len ≤ 1048576
  · have hl' : (len : Int) ≤ 1048576 := by omega
    go_enter Try.func7, Try.ntmps7
    go_wp2_with fail
    refine (draw_change A len cap _ HC.out).mono ?_
    rintro e w1 ⟨f, h, o, rfl, hb0⟩
    have HB1 := Lib.hid hb0
    clear hb0
    obtain ⟨z, hz⟩ : ∃ z, chI f h o = z := ⟨_, rfl⟩
    have HZ := Lib.hid hz
    by_cases h1 : h = 1
    · subst h1
      have HY := Lib.hid ((chI_order f o).trans hz)
      clear hz
      go_wp2_with fail
      refine (impl_change f 1 o _).mono ?_
      rintro e w2 ⟨rfl, hb0⟩
      have HB2 := Lib.hid (HB1.out.trans (hb0.mono HB1.out.size))
      clear hb0
      rw [HZ.out]
      go_wp2_with fail
      refine (spec_change f 1 o _).mono ?_
      rintro e w3 ⟨rfl, hb0⟩
      have HB3 := Lib.hid (HB2.out.trans (hb0.mono HB2.out.size))
      clear hb0
      rw [HZ.out]
      go_wp2_with fail
      refine (impl_change o 1 f _).mono ?_
      rintro e w4 ⟨rfl, hb0⟩
      have HB4 := Lib.hid (HB3.out.trans (hb0.mono HB3.out.size))
      clear hb0
      rw [HY.out]
      go_wp2
      go_ret
      exact ⟨rfl, HB4.out⟩
    · have h1' := ne_true h1
      clear h1 hz
      go_wp2_with fail
      refine (impl_change f h o _).mono ?_
      rintro e w2 ⟨rfl, hb0⟩
      have HB2 := Lib.hid (HB1.out.trans (hb0.mono HB1.out.size))
      clear hb0
      rw [HZ.out]
      go_wp2_with fail
      refine (spec_change f h o _).mono ?_
      rintro e w3 ⟨rfl, hb0⟩
      have HB3 := Lib.hid (HB2.out.trans (hb0.mono HB2.out.size))
      clear hb0
      rw [HZ.out]
      go_wp2
      go_ret
      exact ⟨rfl, HB3.out⟩
  · have hl' : (1048576 : Int) < (len : Int) := by omega
    go_enter Try.func7, Try.ntmps7
    go_wp2
    go_ret
    exact ⟨rfl, Below.refl _ _⟩

theorem sB_nil : sB [] = ⟨#[]⟩ := rfl
theorem text_some {a : Nat} (ha : a < 32) : ∃ T : List UInt8, ftI (a : Int) = T ∧ (sB T).toList.isEmpty = false ∧ ¬ (sB T).toList = [] := by
  have h := (textF_shape ha).1
  have h2 := noEmpty (v := sB (textF a)) (by rw [sB_size]; omega)
  exact ⟨_, ftI_yes ha, h2.1, h2.2⟩

set_option maxRecDepth 20000 in
set_option maxHeartbeats 2000000 in
theorem law_FnHave (A : Option Addr) (len cap : Nat) (w : World) (h : Coded w A len cap) : Calls Try.prog 8 #[.slice A len cap] w (Holds1 w) := by
  have HC := Lib.hid h
  clear h
  by_cases hl : len ≤ 1048576
  · have hl' : (len : Int) ≤ 1048576 := by omega
    go_enter Try.func8, Try.ntmps8
    go_wp2_with fail
    refine (draw_have A len cap _ HC.out).mono ?_
    rintro e w1 ⟨f, o, rfl, hb0⟩
    have HB1 := Lib.hid hb0
    clear hb0
    obtain ⟨z, hz⟩ : ∃ z, hvI f o = z := ⟨_, rfl⟩
    have HZ := Lib.hid hz
    cases hf : isF f with
    | false =>
      have HT := Lib.hid (ftI_no hf)
      clear hz hf
      go_wp2_with fail
      refine (impl_haveB f o _).mono ?_
      rintro e w2 ⟨rfl, hb0⟩
      have HB2 := Lib.hid (HB1.out.trans (hb0.mono HB1.out.size))
      clear hb0
      rw [HZ.out]
      go_wp2_with fail
      refine (spec_have f o _).mono ?_
      rintro e w3 ⟨rfl, hb0⟩
      have HB3 := Lib.hid (HB2.out.trans (hb0.mono HB2.out.size))
      clear hb0
      rw [HZ.out]
      cases z
      all_goals
        go_wp2_with fail
        refine (spec_ftext f _).mono ?_
        rintro e w4 ⟨rfl, hb0⟩
        have HB4 := Lib.hid (HB3.out.trans (hb0.mono HB3.out.size))
        clear hb0
        rw [HT.out, sB_nil]
        go_wp2
        go_ret
        exact ⟨rfl, HB4.out⟩
    | true =>
      obtain ⟨a, ha, rfl⟩ := isF_nat hf
      obtain ⟨T, hT, hT1, hT2⟩ := text_some ha
      have HT := Lib.hid hT
      clear hT hf
      cases ho : isF o with
      | false =>
        have HU := Lib.hid (ftI_no ho)
        clear hz ho
        go_wp2_with fail
        refine (impl_haveB (a : Int) o _).mono ?_
        rintro e w2 ⟨rfl, hb0⟩
        have HB2 := Lib.hid (HB1.out.trans (hb0.mono HB1.out.size))
        clear hb0
        rw [HZ.out]
        go_wp2_with fail
        refine (spec_have (a : Int) o _).mono ?_
        rintro e w3 ⟨rfl, hb0⟩
        have HB3 := Lib.hid (HB2.out.trans (hb0.mono HB2.out.size))
        clear hb0
        rw [HZ.out]
        cases z
        all_goals
          go_wp2_with fail
          refine (spec_ftext (a : Int) _).mono ?_
          rintro e w4 ⟨rfl, hb0⟩
          have HB4 := Lib.hid (HB3.out.trans (hb0.mono HB3.out.size))
          clear hb0
          rw [HT.out]
          go_wp2_with fail
          refine (spec_ftext o _).mono ?_
          rintro e w5 ⟨rfl, hb0⟩
          have HB5 := Lib.hid (HB4.out.trans (hb0.mono HB4.out.size))
          clear hb0
          rw [HU.out, sB_nil]
          go_wp2
          go_ret
          exact ⟨rfl, HB5.out⟩
      | true =>
        obtain ⟨b, hb, rfl⟩ := isF_nat ho
        obtain ⟨U, hU, hU1, hU2⟩ := text_some hb
        have HU := Lib.hid hU
        obtain ⟨c, hc⟩ : ∃ c, chN a 1 b = c := ⟨_, rfl⟩
        have HX := Lib.hid (ch_to ha hb (by decide) hc)
        have hzz : ((c : Int) == (a : Int)) = z := by rw [← hc, ← hz, hvI_yes ha hb, hv_def]
        clear hU ho hz hc
        go_wp2_with fail
        refine (impl_haveB (a : Int) (b : Int) _).mono ?_
        rintro e w2 ⟨rfl, hb0⟩
        have HB2 := Lib.hid (HB1.out.trans (hb0.mono HB1.out.size))
        clear hb0
        rw [HZ.out]
        go_wp2_with fail
        refine (spec_have (a : Int) (b : Int) _).mono ?_
        rintro e w3 ⟨rfl, hb0⟩
        have HB3 := Lib.hid (HB2.out.trans (hb0.mono HB2.out.size))
        clear hb0
        rw [HZ.out]
        cases z
        all_goals
          go_wp2_with fail
          refine (spec_ftext (a : Int) _).mono ?_
          rintro e w4 ⟨rfl, hb0⟩
          have HB4 := Lib.hid (HB3.out.trans (hb0.mono HB3.out.size))
          clear hb0
          rw [HT.out]
          go_wp2_with fail
          refine (spec_ftext (b : Int) _).mono ?_
          rintro e w5 ⟨rfl, hb0⟩
          have HB5 := Lib.hid (HB4.out.trans (hb0.mono HB4.out.size))
          clear hb0
          rw [HU.out]
          go_wp2_with fail
          refine (impl_change (a : Int) 1 (b : Int) _).mono ?_
          rintro e w6 ⟨rfl, hb0⟩
          have HB6 := Lib.hid (HB5.out.trans (hb0.mono HB5.out.size))
          clear hb0
          rw [HX.out]
          go_wp2
          go_ret
          exact ⟨rfl, HB6.out⟩
  · have hl' : (1048576 : Int) < (len : Int) := by omega
    go_enter Try.func8, Try.ntmps8
    go_wp2
    go_ret
    exact ⟨rfl, Below.refl _ _⟩

set_option maxHeartbeats 1000000 in
theorem law_FnExactFlagsChange (f h o : Int) (w : World) : Calls Try.prog 9 #[.int .i64 f, .int .i64 h, .int .i64 o] w (Holds1 w) := by
  obtain ⟨z, hz⟩ : ∃ z, chI f h o = z := ⟨_, rfl⟩
  have HZ := Lib.hid hz
  have HB1 := Lib.hid (Below.refl w.heap.size w)
  clear hz
  go_enter Try.func9, Try.ntmps9
  go_wp2_with fail
  refine (spec_change f h o _).mono ?_
  rintro e w2 ⟨rfl, hb0⟩
  have HB2 := Lib.hid (HB1.out.trans (hb0.mono HB1.out.size))
  clear hb0
  rw [HZ.out]
  go_wp2_with fail
  refine (impl_change f h o _).mono ?_
  rintro e w3 ⟨rfl, hb0⟩
  have HB3 := Lib.hid (HB2.out.trans (hb0.mono HB2.out.size))
  clear hb0
  rw [HZ.out]
  go_wp2
  go_ret
  exact ⟨rfl, HB3.out⟩

set_option maxHeartbeats 1000000 in
theorem law_FnExactFlagsHave (f o : Int) (w : World) : Calls Try.prog 10 #[.int .i64 f, .int .i64 o] w (Holds1 w) := by
  obtain ⟨z, hz⟩ : ∃ z, hvI f o = z := ⟨_, rfl⟩
  have HZ := Lib.hid hz
  have HB1 := Lib.hid (Below.refl w.heap.size w)
  clear hz
  go_enter Try.func10, Try.ntmps10
  go_wp2_with fail
  refine (spec_have f o _).mono ?_
  rintro e w2 ⟨rfl, hb0⟩
  have HB2 := Lib.hid (HB1.out.trans (hb0.mono HB1.out.size))
  clear hb0
  rw [HZ.out]
  go_wp2_with fail
  refine (impl_haveB f o _).mono ?_
  rintro e w3 ⟨rfl, hb0⟩
  have HB3 := Lib.hid (HB2.out.trans (hb0.mono HB2.out.size))
  clear hb0
  rw [HZ.out]
  cases z
  all_goals
    go_wp2
    go_ret
    exact ⟨rfl, HB3.out⟩
end Go.Proofs.Ytbcooiifpfdiaaa
