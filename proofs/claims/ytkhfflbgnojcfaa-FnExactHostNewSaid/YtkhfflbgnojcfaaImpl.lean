/-
  The contracts of the exported functions of chapter 1. No condition beyond a bound on the text's length.
-/
import Derived.Test.YtkhfflbgnojcfaaAddr
namespace Go.Proofs.Ytkhfflbgnojcfaa
open Go.RowKit
set_option linter.unusedVariables false

theorem cur_new (w : World) (s : ByteArray) : Cur (w.alloc (.cells #[.string s, .int .i64 0] 70)) w.heap.size s 0 := Whole.made w _ _
theorem new_below {w w1 : World} {o : Obj} (h : (w.alloc o).grownBy w1 (some w.heap.size)) : Below w.heap.size w w1 :=
  below_gr ((Below.refl _ _).alloc (Nat.le_refl _) o) h (by simp) (Nat.le_refl _)

set_option maxHeartbeats 400000 in
theorem impl_name_ (s : ByteArray) (w : World) (hs : s.size ≤ 16777216) :
    Calls Try.prog 58 #[.string s] w fun e w' => e = .returned (.bool (okLen (nmLen s.data.toList 0) && decide (nmLen s.data.toList 0 = s.size))) ∧ Below w.heap.size w w' := by
  by_cases ho : okLen (nmLen s.data.toList 0) = true
  · have HO := Lib.hid ho
    clear ho
    by_cases hz : nmLen s.data.toList 0 = s.size
    · have HZ := Lib.hid hz
      clear hz
      go_enter Try.func58, Try.ntmps58
      go_wp2_with fail
      refine (name_yes w.heap.size 0 s _ (cur_new w s) hs (Nat.zero_le _) HO.out).mono ?_
      rintro e w1 ⟨v, rfl, hv, hc, hg⟩
      have HC := Lib.hid hc
      have HG := Lib.hid hg
      clear hv hc hg
      go_wp2_with fail
      refine (done_yes w.heap.size _ s _ HC.out (by have := HZ.out; omega)).mono ?_
      rintro e w2 ⟨rfl, n, rfl⟩
      go_wp2
      go_ret
      exact ⟨ret_bool (by rw [HO.out, decide_eq_true HZ.out]; rfl), below_drewN' (new_below HG.out) _⟩
    · have HZ := Lib.hid hz
      clear hz
      go_enter Try.func58, Try.ntmps58
      go_wp2_with fail
      refine (name_yes w.heap.size 0 s _ (cur_new w s) hs (Nat.zero_le _) HO.out).mono ?_
      rintro e w1 ⟨v, rfl, hv, hc, hg⟩
      have HC := Lib.hid hc
      have HG := Lib.hid hg
      clear hv hc hg
      go_wp2_with fail
      refine (done_no w.heap.size _ s _ HC.out (by have := HZ.out; have := nmLen_le s.data.toList 0 (Nat.zero_le _); have hl : s.data.toList.length = s.size := (by simp); omega)).mono ?_
      rintro e w2 ⟨rfl, n, rfl⟩
      go_wp2
      go_ret
      exact ⟨ret_bool (by rw [HO.out, decide_eq_false HZ.out]; rfl), below_drewN' (new_below HG.out) _⟩
  · have HO := Lib.hid (Bool.eq_false_iff.2 ho)
    clear ho
    go_enter Try.func58, Try.ntmps58
    go_wp2_with fail
    refine (name_no w.heap.size 0 s _ (cur_new w s) hs (Nat.zero_le _) HO.out).mono ?_
    rintro e w1 ⟨rfl, hc, hg⟩
    have HG := Lib.hid hg
    clear hc hg
    go_wp2
    go_ret
    exact ⟨ret_bool (by rw [HO.out]; rfl), new_below HG.out⟩

set_option maxHeartbeats 400000 in
theorem impl_domain_ (s : ByteArray) (w : World) (hs : s.size ≤ 16777216) :
    Calls Try.prog 16 #[.string s] w fun e w' => e = .returned (.bool (domOk s.data.toList 0 && decide (domEnd s.data.toList 0 = s.size))) ∧ Below w.heap.size w w' := by
  by_cases ho : domOk s.data.toList 0 = true
  · have HO := Lib.hid ho
    clear ho
    by_cases hz : domEnd s.data.toList 0 = s.size
    · have HZ := Lib.hid hz
      clear hz
      go_enter Try.func16, Try.ntmps16
      go_wp2_with fail
      refine (domain_yes w.heap.size 0 s _ (cur_new w s) hs (Nat.zero_le _) HO.out).mono ?_
      rintro e w1 ⟨v, rfl, hv, hde, hc, hg⟩
      have HC := Lib.hid hc
      have HG := Lib.hid hg
      clear hv hc hg
      go_wp2_with fail
      refine (done_yes w.heap.size _ s _ HC.out HZ.out).mono ?_
      rintro e w2 ⟨rfl, n, rfl⟩
      go_wp2
      go_ret
      exact ⟨ret_bool (by rw [HO.out, decide_eq_true HZ.out]; rfl), below_drewN' (new_below HG.out) _⟩
    · have HZ := Lib.hid hz
      clear hz
      go_enter Try.func16, Try.ntmps16
      go_wp2_with fail
      refine (domain_yes w.heap.size 0 s _ (cur_new w s) hs (Nat.zero_le _) HO.out).mono ?_
      rintro e w1 ⟨v, rfl, hv, hde, hc, hg⟩
      have HC := Lib.hid hc
      have HG := Lib.hid hg
      clear hv hc hg
      go_wp2_with fail
      refine (done_no w.heap.size _ s _ HC.out (Nat.lt_of_le_of_ne hde HZ.out)).mono ?_
      rintro e w2 ⟨rfl, n, rfl⟩
      go_wp2
      go_ret
      exact ⟨ret_bool (by rw [HO.out, decide_eq_false HZ.out]; rfl), below_drewN' (new_below HG.out) _⟩
  · have HO := Lib.hid (Bool.eq_false_iff.2 ho)
    clear ho
    go_enter Try.func16, Try.ntmps16
    go_wp2_with fail
    refine (domain_no w.heap.size 0 s _ (cur_new w s) hs (Nat.zero_le _) HO.out).mono ?_
    rintro e w1 ⟨rfl, hde, hc, hg⟩
    have HG := Lib.hid hg
    clear hc hg
    go_wp2
    go_ret
    exact ⟨ret_bool (by rw [HO.out]; rfl), new_below HG.out⟩

end Go.Proofs.Ytkhfflbgnojcfaa
