/-
  The walks of the laws FnBoxNext. Condition: the code can be read.
-/
import Derived.Test.YtiidlkbfjhgbaaaLu
import Derived.BigQuiet
import Derived.Deep.RegionHeld3
import Derived.Outline
namespace Go.Proofs.Ytiidlkbfjhgbaaa
open Go.RowKit
set_option linter.unusedVariables false

set_option maxRecDepth 20000 in
set_option maxHeartbeats 2000000 in
theorem law_FnBoxNext (A : Option Addr) (len cap : Nat) (A0 : Option Addr) (len0 cap0 : Nat) (w : World) (h : Coded w A len cap) (h0 : Coded w A0 len0 cap0) : Calls Try.prog 7 #[.slice A len cap, .slice A0 len0 cap0] w (Holds1 w) := by
  have HC := Lib.hid h
  clear h h0
  by_cases hl : len ≤ 1048576
  · have hl' : (len : Int) ≤ 1048576 := by omega
    by_cases hl0 : len0 ≤ 1048576
    · have hl0' : (len0 : Int) ≤ 1048576 := by omega
      go_enter Try.func7, Try.ntmps7
      go_wp2_with fail
      refine (draw_bvalid A len cap _ HC.out).mono ?_
      rintro e w1 ⟨n, A1, N1, cap1, L, rfl, hN1, hn1, hn2, hown, hb⟩
      have HNL := Lib.hid hown.len.1
      obtain ⟨D1, hD1⟩ : ∃ D, w1.heap.size = D := ⟨_, rfl⟩
      have K1 := Lib.hid (((((kp_start w).move hb).and (MIn.of hown (by omega)).keep).alloc (.cells #[.int .i64 n, .slice A1 N1 cap1] 25)).and (kp_one w1 25 #[.int .i64 n, .slice A1 N1 cap1] hD1))
      clear hb hown
      have zD10 := K1.out.here.2.2.1.cell 0
      have zD11 := K1.out.here.2.2.1.cell 1
      simp at zD10 zD11
      obtain ⟨bv, hbv⟩ : ∃ b, bOk n L = b := ⟨_, rfl⟩
      go_wp2_with fail
      refine (implvalid_at hbv A1 N1 cap1 _ K1.out.here.1.2).mono ?_
      rintro e w2 ⟨rfl, hb⟩
      have K2 := Lib.hid (K1.out.move hb)
      clear hb
      clear zD10 zD11
      have zD10 := K2.out.here.2.2.1.cell 0
      have zD11 := K2.out.here.2.2.1.cell 1
      simp at zD10 zD11
      go_wp2_with fail
      refine (boxvalid_at hbv A1 N1 cap1 _ K2.out.here.1.2).mono ?_
      rintro e w3 ⟨rfl, hb⟩
      have K3 := Lib.hid (K2.out.move hb)
      clear hb
      clear zD10 zD11
      have zD10 := K3.out.here.2.2.1.cell 0
      have zD11 := K3.out.here.2.2.1.cell 1
      simp at zD10 zD11
      have HBV := Lib.hid hbv
      clear hbv
      cases bv with
      | false =>
        go_wp2
        go_ret
        exact ⟨rfl, K3.out.here.1.1⟩
      | true =>
        by_cases hN0 : N1 = 0
        · subst hN0
          go_wp2
          go_ret
          exact ⟨rfl, K3.out.here.1.1⟩
        · have hN0' : ((N1 : Int) == 0) = false := beq_eq_false_iff_ne.2 (by omega)
          have hN0f : ¬ (N1 : Int) = 0 := by omega
          obtain ⟨r, hr⟩ : ∃ r, len0 % N1 = r := ⟨_, rfl⟩
          have hrN : r < N1 := by rw [← hr]; exact Nat.mod_lt _ (by omega)
          have E1 : (len0 : Int).tmod (N1 : Int) = (r : Int) := by rw [← hr]; exact IntWalk.up_tmod rfl rfl
          have W1 : IntKind.i64.wrap ((len0 : Int).tmod (N1 : Int)) = (r : Int) := by rw [E1]; exact IntWalk.i64_in _ (by omega)
          have W2 : IntKind.i64.wrap (r : Int) = (r : Int) := IntWalk.i64_in _ (by omega)
          have i0 : (0 : Int) ≤ (r : Int) := by omega
          have i1 : (r : Int) < (N1 : Int) := by omega
          obtain ⟨⟨u, f, t⟩, hx⟩ : ∃ x, L[r]? = some x := ⟨_, List.getElem?_eq_getElem (by rw [← HNL.out]; exact hrN)⟩
          obtain ⟨b, o, hAe, hbb, d0, -, -⟩ := mail_at K3.out.here.1.2.2.2.1 hx
          have HX1 : Hid (bOk u L = false) := next_bad (n := n) (m := (u, f, t)) (List.mem_of_getElem? hx)
          have HX2 : Hid (bOk 100 L = true) := next_top HBV.out
          have HXR := Lib.hid hx
          clear hx hr
          subst hAe
          obtain ⟨S, hS⟩ : ∃ S, w3.heap.size = S := ⟨_, rfl⟩
          have HB4 := Lib.hid ((Below.refl S w3).alloc (by omega) (.cells #[.int .i64 n, .slice (some ⟨b, o, none⟩) N1 cap1] 25))
          have HW4 : Hid (Whole (w3.alloc (.cells #[.int .i64 n, .slice (some ⟨b, o, none⟩) N1 cap1] 25)) S 25 #[.int .i64 n, .slice (some ⟨b, o, none⟩) N1 cap1]) := hS ▸ Whole.made w3 25 #[.int .i64 n, .slice (some ⟨b, o, none⟩) N1 cap1]
          go_wp2
          obtain ⟨w4, hw4⟩ : ∃ w4, w3.alloc (.cells #[.int .i64 n, .slice (some ⟨b, o, none⟩) N1 cap1] 25) = w4 := ⟨_, rfl⟩
          rw [hw4] at HB4 HW4 ⊢
          clear hw4
          clear zD10 zD11 d0
          have HBD : Hid (Below S w3 w4.drew) := by have h := HB4.out; exact ⟨h.os, h.tape, h.output, h.size, h.block⟩
          have HWD : Hid (Whole w4.drew S 25 #[.int .i64 n, .slice (some ⟨b, o, none⟩) N1 cap1]) := HW4.out.drew
          have HBS : Hid (Below S w3 (w4.setCell ⟨S, 0, none⟩ (.int .i64 u)).drew) := by have h := HB4.out.setCell (p := ⟨S, 0, none⟩) (Nat.le_refl _) (.int .i64 u); exact ⟨h.os, h.tape, h.output, h.size, h.block⟩
          have HWS : Hid (Whole (w4.setCell ⟨S, 0, none⟩ (.int .i64 u)).drew S 25 #[.int .i64 u, .slice (some ⟨b, o, none⟩) N1 cap1]) := (HW4.out.store 0 (.int .i64 u)).drew
          have hbS : b < S := by omega
          have d0 : w3.cell? ⟨b, o + r * 3, none⟩ = some (.int .i64 u) := by
            obtain ⟨b', o', hA2, -, e0, -, -⟩ := mail_at (k := r) (u := u) (f := f) (t := t) K3.out.here.1.2.2.2.1 HXR.out
            cases hA2
            exact e0
          have HD0 := Lib.hid d0
          have HBSZ := Lib.hid hbS
          clear d0 hbS
          have KD := Lib.hid (K3.out.move (hS ▸ HBD.out))
          have KS := Lib.hid (K3.out.move (show Below w3.heap.size w3 (w4.setCell ⟨S, 0, none⟩ (.int .i64 u)).drew by rw [hS]; exact HBS.out))
          have yd1 := KD.out.here.2.2.1.cell 1
          simp at yd1
          have sf := HWD.out.free 0
          have sc := HWD.out.cell 0
          simp at sc
          go_region_held3 (fun w' => w'.cell? ⟨D1, 1, none⟩ = some (.slice (some ⟨b, o, none⟩) N1 cap1) ∧ w'.cell? ⟨b, o + r * 3, none⟩ = some (.int .i64 u)) (first | exact ⟨KD.out.here.2.2.1.cell 1, (HBD.out.cell HBSZ.out).trans HD0.out⟩ | exact ⟨KS.out.here.2.2.1.cell 1, (HBS.out.cell HBSZ.out).trans HD0.out⟩) (fail)
          all_goals
            clear yd1 sf sc
            obtain ⟨w5, hw5⟩ : ∃ w5, (w4.setCell ⟨S, 0, none⟩ (.int .i64 u)).drew = w5 := ⟨_, rfl⟩
            rw [hw5] at HBS HWS KS ⊢
            clear hw5
            have hzS : S + 1 ≤ w5.heap.size := HWS.out.lt
            obtain ⟨Y, hY⟩ : ∃ Y, w5.heap.size = Y := ⟨_, rfl⟩
            have HB6 := Lib.hid ((HBS.out.alloc (by omega) (.cells #[.int .i64 n, .slice (some ⟨b, o, none⟩) N1 cap1] 25)).setCell (p := ⟨Y, 0, none⟩) (by show S ≤ Y; omega) (.int .i64 100))
            have HX6 := Lib.hid ((HWS.out.alloc (.cells #[.int .i64 n, .slice (some ⟨b, o, none⟩) N1 cap1] 25)))
            have HY6 := Lib.hid (Whole.made w5 25 #[.int .i64 100, .slice (some ⟨b, o, none⟩) N1 cap1])
            have HB7 := Lib.hid (HBS.out.alloc (by omega) (.cells #[.int .i64 100, .slice (some ⟨b, o, none⟩) N1 cap1] 25))
            have HX7 := Lib.hid ((HWS.out.alloc (.cells #[.int .i64 100, .slice (some ⟨b, o, none⟩) N1 cap1] 25)))
            have zD10 := KS.out.here.2.2.1.cell 0
            have zD11 := KS.out.here.2.2.1.cell 1
            simp at zD10 zD11
            have x0 := HX7.out.cell 0
            have x1 := HX7.out.cell 1
            simp at x0 x1
            have KY := Lib.hid (K3.out.move (show Below w3.heap.size w3 (w5.alloc (.cells #[.int .i64 100, .slice (some ⟨b, o, none⟩) N1 cap1] 25)) by rw [hS]; exact HB7.out))
            go_wp2_with fail
            refine (implvalid_at HX1.out (some ⟨b, o, none⟩) N1 cap1 _ KY.out.here.1.2).mono ?_
            rintro e w6 ⟨rfl, hb⟩
            have HB8 := Lib.hid (HB7.out.trans (hb.mono (by simp; omega)))
            have HY8 : Hid (Whole w6 Y 25 #[.int .i64 100, .slice (some ⟨b, o, none⟩) N1 cap1]) := hY ▸ (Whole.made w5 25 #[.int .i64 100, .slice (some ⟨b, o, none⟩) N1 cap1]).below hb (by simp)
            have KW := Lib.hid (K3.out.move (show Below w3.heap.size w3 w6 by rw [hS]; exact HB8.out))
            clear hb
            have y0 := HY8.out.cell 0
            have y1 := HY8.out.cell 1
            simp at y0 y1
            go_wp2_with fail
            refine (implvalid_at HX2.out (some ⟨b, o, none⟩) N1 cap1 _ KW.out.here.1.2).mono ?_
            rintro e w7 ⟨rfl, hb⟩
            have KV := Lib.hid (KW.out.move hb)
            clear hb
            go_wp2
            go_ret
            exact ⟨rfl, KV.out.here.1.1⟩
    · have hl0' : (1048576 : Int) < (len0 : Int) := by omega
      go_enter Try.func7, Try.ntmps7
      go_wp2
      go_ret
      exact ⟨rfl, Below.refl _ _⟩
  · have hl' : (1048576 : Int) < (len : Int) := by omega
    go_enter Try.func7, Try.ntmps7
    go_wp2
    go_ret
    exact ⟨rfl, Below.refl _ _⟩
end Go.Proofs.Ytiidlkbfjhgbaaa
