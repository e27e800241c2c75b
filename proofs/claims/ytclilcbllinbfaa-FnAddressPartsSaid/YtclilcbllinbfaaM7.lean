/-
  The walk of the law FnAddressParts. Condition: the code can be read.
-/
import Derived.Test.YtclilcbllinbfaaAread
import Derived.BigQuiet
namespace Go.Proofs.Ytclilcbllinbfaa
open Go.RowKit
set_option linter.unusedVariables false

/-- What stands before the first at sign. -/
def bef (s : ByteArray) : ByteArray := bs (s.data.toList.takeWhile (fun x => x != (64 : UInt8)))
theorem before_64 (s : ByteArray) (w : World) (hs : s.size ≤ 16777216) : Calls Try.prog 29 #[.string s, .int .u8 64] w fun e w' => e = .returned (.string (bef s)) ∧ w' = w := by
  refine (before_at s 64 64 rfl w hs).mono ?_
  rintro e w' ⟨v, h1, h2, _, h4⟩
  exact ⟨by rw [h1, bs_eq h2]; rfl, h4.symm⟩
theorem bef_none {s : ByteArray} (h : bef s = s) : ∀ x ∈ s.data.toList, x ≠ (64 : UInt8) := by
  refine tw_all ?_
  have h2 := congrArg (fun t => t.data.toList) h
  simpa [bef, bs] using h2
theorem parts_is {u d : ByteArray} (hu : bef u = u) (hd : bef d = d) : ∃ u2 d2, Is (u ++ (⟨#[64]⟩ : ByteArray) ++ d) (nameB u.data.toList && domB d.data.toList) u2 d2 :=
  ⟨_, _, by rw [cat_data]; exact sp_of (bef_none hu) (bef_none hd), rfl, rfl⟩
theorem list_ne {x u : ByteArray} (h : x ≠ u) : (x.toList == u.toList) = false := by
  rw [ByteArray.toList_eq, ByteArray.toList_eq]
  exact beq_eq_false_iff_ne.2 (fun e => h (by rw [← bs_of x, ← bs_of u, e]))

set_option maxHeartbeats 2000000 in
theorem law_FnAddressParts (A : Option Addr) (len cap : Nat) (w : World) (h : Coded w A len cap) : Calls Try.prog 12 #[.slice A len cap] w (Holds1 w) := by
  have HC := Lib.hid h
  clear h
  have HB0 := Lib.hid (Below.refl w.heap.size w)
  by_cases hl : len ≤ 1048576
  · have hl' : (len : Int) ≤ 1048576 := by omega
    go_enter Try.func12, Try.ntmps12
    go_wp2_with fail
    refine (draw_addr A len cap _ HC.out).mono ?_
    rintro e w1 ⟨u, d, hu, hd, rfl, hb⟩
    have HB1 := Lib.hid hb
    clear hb
    obtain ⟨t, ht⟩ : ∃ t, adT u d = t := ⟨_, rfl⟩
    have HT := Lib.hid ht
    have htz : t.size ≤ 29 := by rw [← ht]; exact adT_le u d
    clear ht
    go_wp2_with fail
    refine (itext_at HT.out _ (by omega) (by omega)).mono ?_
    rintro e w2 ⟨rfl, hb⟩
    change Below (boxed w1 u d).heap.size (boxed w1 u d) w2 at hb
    have hx := (boxed_whole w1 u d).below hb (boxed_whole w1 u d).lt
    have hx0 : w2.cell? ⟨w1.heap.size, 0, none⟩ = some (.string u) := hx.cell 0
    have hx1 : w2.cell? ⟨w1.heap.size, 1, none⟩ = some (.string d) := hx.cell 1
    have hlt := hx.lt
    have HX := Lib.hid hx
    have HB2 := Lib.hid ((boxed_below HB1.out HB1.out.size u d).trans (hb.mono (by rw [boxed_size]; have := HB1.out.size; omega)))
    clear hb hx
    go_wp2_with fail
    refine (stext_at HT.out _ (by omega) (by omega)).mono ?_
    rintro e w3 ⟨rfl, hb⟩
    have hx := HX.out.below hb hlt
    clear hx0 hx1 hlt
    have hx0 : w3.cell? ⟨w1.heap.size, 0, none⟩ = some (.string u) := hx.cell 0
    have hx1 : w3.cell? ⟨w1.heap.size, 1, none⟩ = some (.string d) := hx.cell 1
    have hlt3 : w1.heap.size < w3.heap.size := hx.lt
    have HX3 := Lib.hid hx
    have HB3 := Lib.hid (HB2.out.trans (hb.mono HB2.out.size))
    clear hb hx
    by_cases hxu : bef u = u
    · have HXU := Lib.hid hxu
      have hqu : ((bef u).toList == u.toList) = true := by rw [hxu]; exact beq_self_eq_true _
      clear hxu
      by_cases hyd : bef d = d
      · have HYD := Lib.hid hyd
        have hqd : ((bef d).toList == d.toList) = true := by rw [hyd]; exact beq_self_eq_true _
        clear hyd
        go_wp2_with fail
        go_quiet ((go_at_call 29; exact Calls.quiet_of_same (before_64 _ _ (by omega))))
        obtain ⟨u2, d2, hi⟩ := parts_is HXU.out HYD.out
        obtain ⟨o, ho⟩ : ∃ o, (nameB u.data.toList && domB d.data.toList) = o := ⟨_, rfl⟩
        rw [ho] at hi
        have HI := Lib.hid hi
        have HO := Lib.hid ho
        have HB3d := Lib.hid (below_drewN' HB3.out nq)
        clear hi ho hqu hqd
        go_wp2_with fail
        refine (iparse_at HI.out _ (by rw [ByteArray.size_append, ByteArray.size_append, one_size]; omega)).mono ?_
        rintro e w4 ⟨rfl, hb⟩
        have hx := (HX3.out.drewN nq).below hb hlt3
        clear hx0 hx1 hlt3
        have hx0 : w4.cell? ⟨w1.heap.size, 0, none⟩ = some (.string u) := hx.cell 0
        have hx1 : w4.cell? ⟨w1.heap.size, 1, none⟩ = some (.string d) := hx.cell 1
        have hlt4 := hx.lt
        have hne4 : w1.heap.size ≠ w4.heap.size := by omega
        have HX4 := Lib.hid (boxed_keeps hx u2 d2)
        have HB4 := Lib.hid (boxed_below (HB3d.out.trans (hb.mono HB3d.out.size)) (HB3d.out.trans (hb.mono HB3d.out.size)).size u2 d2)
        clear hb hx
        go_wp2_with fail
        refine (impl_name u _ (by omega)).mono ?_
        rintro e w5 ⟨rfl, hb⟩
        change Below (boxed w4 u2 d2).heap.size (boxed w4 u2 d2) w5 at hb
        have hx := HX4.out.below hb HX4.out.lt
        clear hx0 hx1 hlt4 hne4
        have hx0 : w5.cell? ⟨w1.heap.size, 0, none⟩ = some (.string u) := hx.cell 0
        have hx1 : w5.cell? ⟨w1.heap.size, 1, none⟩ = some (.string d) := hx.cell 1
        have hlt5 := hx.lt
        have HB5 := Lib.hid (HB4.out.trans (hb.mono HB4.out.size))
        clear hb hx
        by_cases hn : nameB u.data.toList = true
        · have hod : domB d.data.toList = o := by have h := HO.out; rw [hn, Bool.true_and] at h; exact h
          have HOD := Lib.hid hod
          rw [hn]
          clear hn hod
          go_wp2_with fail
          refine (impl_domain d _ (by omega)).mono ?_
          rintro e w6 ⟨rfl, hb⟩
          have HB6 := Lib.hid (HB5.out.trans (hb.mono HB5.out.size))
          clear hb
          rw [HOD.out]
          cases o
          all_goals
            go_wp2
            go_ret
            exact ⟨rfl, HB6.out⟩
        · have hof : o = false := by have h := HO.out; rw [Bool.eq_false_iff.2 hn, Bool.false_and] at h; exact h.symm
          rw [Bool.eq_false_iff.2 hn]
          subst hof
          clear hn
          go_wp2
          go_ret
          exact ⟨rfl, HB5.out⟩
      · have hqd := list_ne hyd
        clear hyd
        go_wp2_with fail
        go_quiet ((go_at_call 29; exact Calls.quiet_of_same (before_64 _ _ (by omega))))
        go_wp2
        go_ret
        exact ⟨rfl, below_drewN' HB3.out _⟩
    · have hqu := list_ne hxu
      clear hxu
      go_wp2_with fail
      go_quiet ((go_at_call 29; exact Calls.quiet_of_same (before_64 _ _ (by omega))))
      go_wp2
      go_ret
      exact ⟨rfl, below_drewN' HB3.out _⟩
  · have hl' : (1048576 : Int) < (len : Int) := by omega
    go_enter Try.func12, Try.ntmps12
    go_wp2
    go_ret
    exact ⟨rfl, HB0.out⟩
end Go.Proofs.Ytclilcbllinbfaa
