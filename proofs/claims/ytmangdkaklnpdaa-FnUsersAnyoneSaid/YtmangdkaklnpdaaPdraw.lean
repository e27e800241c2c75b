/-
  The contracts of the functions that draw a user with a password and a proof. Condition: the code can be read.
-/
import Derived.Test.YtmangdkaklnpdaaBdraw
import Derived.Test.YtmangdkaklnpdaaPspec
namespace Go.Proofs.Ytmangdkaklnpdaa
open Go.RowKit
set_option linter.unusedVariables false

/-- Two drawn texts. -/
def DrewTwo (w : World) (e : Ending) (w' : World) : Prop := ∃ u p : ByteArray, u.size ≤ 30 ∧ p.size ≤ 30 ∧ e = .returned (.tuple #[.string u, .string p]) ∧ Below w.heap.size w w'
theorem two_cat (a b : ByteArray) (c d : UInt8) : ((⟨#[c, d]⟩ : ByteArray) ++ a ++ ⟨#[0]⟩ ++ b).size = a.size + b.size + 3 := by
  rw [ByteArray.size_append, ByteArray.size_append, ByteArray.size_append, one_size, two_size]
  omega
set_option maxHeartbeats 2000000 in
theorem draw_pp (A : Option Addr) (len cap : Nat) (w : World) (h : Coded w A len cap) :
    Calls Try.prog 46 #[.slice A len cap] w (DrewText w) := by
  have HC := Lib.hid h
  have HK := Lib.hid h.2.2
  have hk1 := h.1
  have hk2 := h.2.1
  clear h
  go_enter Try.func46, Try.ntmps46
  go_wp2_with fail
  refine (open_any A len cap _ hk1 hk2 HK.out).mono ?_
  rintro e w1 ⟨rfl, hr, hb, hz⟩
  have HR := Lib.hid hr
  have HB := Lib.hid hb
  clear hr hb
  go_wp2_with fail
  refine (name_text w.heap.size 0 w1 HR.out (by omega)).mono ?_
  rintro e w2 ⟨a, ha, rfl, hr, hg⟩
  have HR2 := Lib.hid hr
  have HG2 := Lib.hid hg
  clear hr hg
  go_wp2_with fail
  refine (pick_any w.heap.size 2 8 w2 HR2.out (by omega) (by omega) (by omega)).mono ?_
  rintro e w3 ⟨x, hx, rfl, hr, hg⟩
  have HR3 := Lib.hid hr
  have HG3 := Lib.hid (gr_trans HG2.out hg)
  clear hr hg
  by_cases hx0 : x = 0
  · subst hx0
    go_wp2_with fail
    refine (name_text w.heap.size 3 w3 HR3.out (by omega)).mono ?_
    rintro e w4 ⟨b, hb, rfl, hr, hg⟩
    have HB4 := Lib.hid (below_gr HB.out (gr_trans HG3.out hg) (by omega) (Nat.le_refl _))
    clear hr hg
    have hsz : ((⟨#[120, 0]⟩ : ByteArray) ++ a ++ ⟨#[0]⟩ ++ b).size ≤ 16777216 := by rw [two_cat]; omega
    have HZ := Lib.hid hsz
    clear hsz
    go_wp2_with fail
    refine (senc _ _ HZ.out).mono ?_
    rintro e w5 ⟨rfl, hb⟩
    have HB5 := Lib.hid (HB4.out.trans (hb.mono HB4.out.size))
    clear hb
    go_wp2
    go_ret
    exact ⟨_, Nat.le_trans (encB_le _) (by omega), rfl, HB5.out⟩
  · have hx0' : ((x : Int) == 0) = false := by simp; omega
    by_cases hx1 : x = 1
    · subst hx1
      have hsz : ((⟨#[0]⟩ : ByteArray) ++ a).size ≤ 16777216 := by rw [ByteArray.size_append, one_size]; omega
      have HZ := Lib.hid hsz
      clear hsz
      have HB3 := Lib.hid (below_gr HB.out HG3.out (by omega) (Nat.le_refl _))
      go_wp2_with fail
      refine (senc _ _ HZ.out).mono ?_
      rintro e w5 ⟨rfl, hb⟩
      have HB5 := Lib.hid (HB3.out.trans (hb.mono HB3.out.size))
      clear hb
      go_wp2
      go_ret
      exact ⟨_, Nat.le_trans (encB_le _) (by omega), rfl, HB5.out⟩
    · have hx1' : ((x : Int) == 1) = false := by simp; omega
      by_cases hx2 : x = 2
      · subst hx2
        have HB3 := Lib.hid (below_gr HB.out HG3.out (by omega) (Nat.le_refl _))
        have HC3 := Lib.hid (HC.out.below HB3.out (Nat.le_refl _))
        go_wp2_with fail
        refine (draw_dec A len cap _ HC3.out).mono ?_
        rintro e w5 ⟨t, ht, rfl, hb⟩
        have HB5 := Lib.hid (HB3.out.trans (hb.mono HB3.out.size))
        clear hb
        go_wp2
        go_ret
        exact ⟨t, ht, rfl, HB5.out⟩
      · have hx2' : ((x : Int) == 2) = false := by simp; omega
        go_wp2_with fail
        refine (name_text w.heap.size 3 w3 HR3.out (by omega)).mono ?_
        rintro e w4 ⟨b, hb, rfl, hr, hg⟩
        have HB4 := Lib.hid (below_gr HB.out (gr_trans HG3.out hg) (by omega) (Nat.le_refl _))
        clear hr hg
        go_wp2_with fail
        refine (smake a b _ (by omega) (by omega)).mono ?_
        rintro e w5 ⟨rfl, hb⟩
        have HB5 := Lib.hid (HB4.out.trans (hb.mono HB4.out.size))
        clear hb
        go_wp2
        go_ret
        exact ⟨_, Nat.le_trans (mkB_le _ _) (by omega), rfl, HB5.out⟩
end Go.Proofs.Ytmangdkaklnpdaa
