/-
  The walks of the laws FnSizeParts. Condition: the code can be read.
-/
import Derived.Test.YtmljdbbbfpmbcaaLu
import Derived.BigQuiet
import Derived.Deep.RegionHeld3
import Derived.Outline
namespace Go.Proofs.Ytmljdbbbfpmbcaa
open Go.RowKit
set_option linter.unusedVariables false

theorem MIn.drop {w : World} {b o N cap : Nat} {L : List ML} (h : MIn w (some ⟨b, o, none⟩) N cap L) {k : Nat} (hk : k ≤ N) : MIn w (some ⟨b, o + k * 3, none⟩) (N - k) (cap - k) (L.drop k) := ⟨by rw [List.length_drop, h.1], by have := h.2.1; omega, h.2.2.1.drop k, (fun e => by cases e), (fun q e => by cases e; rfl)⟩
theorem MIn.drop0 {w : World} {N cap : Nat} {L : List ML} (h : MIn w none N cap L) {k : Nat} (hk : k ≤ N) : MIn w none (N - k) (cap - k) (L.drop k) := by
  refine ⟨by rw [List.length_drop, h.1], by have := h.2.1; omega, ?_, (fun e => by have := h.2.2.2.1 rfl; omega), (fun q e => by cases e)⟩
  intro i x hx
  rw [List.getElem?_drop] at hx
  obtain ⟨b, o, e, _⟩ := h.2.2.1 _ _ hx
  cases e
theorem MIn.dropE {w : World} {b o N cap r : Nat} {L : List ML} (h : MIn w (some ⟨b, o, none⟩) N cap L) (hr : r = N) (hc : r = cap) : MIn w (some ⟨b, o, none⟩) 0 0 (L.drop r) := by
  subst hr
  refine ⟨by rw [List.length_drop, h.1]; omega, by omega, ?_, (fun e => by cases e), (fun q e => by cases e; rfl)⟩
  rw [← h.1, List.drop_length]
  exact RAt.nil w _

set_option maxRecDepth 20000 in
set_option maxHeartbeats 1000000 in
theorem law_FnSizeParts (A : Option Addr) (len cap : Nat) (A0 : Option Addr) (len0 cap0 : Nat) (w : World) (h : Coded w A len cap) (h0 : Coded w A0 len0 cap0) : Calls Try.prog 7 #[.slice A len cap, .slice A0 len0 cap0] w (Holds1 w) := by
  have HC := Lib.hid h
  clear h h0
  by_cases hl : len ≤ 1048576
  · have hl' : (len : Int) ≤ 1048576 := by omega
    by_cases hl0 : len0 ≤ 1048576
    · have hl0' : (len0 : Int) ≤ 1048576 := by omega
      go_enter Try.func7, Try.ntmps7
      go_wp2_with fail
      refine (draw_bsize A len cap _ HC.out).mono ?_
      rintro e w1 ⟨n, A1, N1, cap1, L, rfl, hN1, hn1, hn2, hown, hb⟩
      have HNL := Lib.hid hown.len.1
      have hcap1 := hown.len.2.1
      obtain ⟨z, hz⟩ : ∃ z, bxSz n L = z := ⟨_, rfl⟩
      have HZ := Lib.hid hz
      clear hz
      obtain ⟨D1, hD1⟩ : ∃ D, w1.heap.size = D := ⟨_, rfl⟩
      have K1 := Lib.hid (((((kp_start w).move hb).and (MIn.of hown (by omega)).keep).alloc (.cells #[.int .i64 n, .slice A1 N1 cap1] 25)).and (kp_one w1 25 #[.int .i64 n, .slice A1 N1 cap1] hD1))
      clear hb hown
      have zD10 := K1.out.here.2.2.1.cell 0
      have zD11 := K1.out.here.2.2.1.cell 1
      simp at zD10 zD11
      go_wp2_with fail
      refine (implsize_at HZ.out A1 N1 cap1 _ K1.out.here.1.2).mono ?_
      rintro e w2 ⟨rfl, hb⟩
      have K2 := Lib.hid (K1.out.move hb)
      clear hb
      clear zD10 zD11
      have zD10 := K2.out.here.2.2.1.cell 0
      have zD11 := K2.out.here.2.2.1.cell 1
      simp at zD10 zD11
      go_wp2_with fail
      refine (specsize_at HZ.out A1 N1 cap1 _ K2.out.here.1.2).mono ?_
      rintro e w3 ⟨rfl, hb⟩
      have K3 := Lib.hid (K2.out.move hb)
      clear hb
      clear zD10 zD11
      have zD10 := K3.out.here.2.2.1.cell 0
      have zD11 := K3.out.here.2.2.1.cell 1
      simp at zD10 zD11
      have q0 : (z != z) = false := by simp
      obtain ⟨bv, hbv⟩ : ∃ b, bOk n L = b := ⟨_, rfl⟩
      go_wp2_with fail
      refine (implvalid_at hbv A1 N1 cap1 _ K3.out.here.1.2).mono ?_
      rintro e w4 ⟨rfl, hb⟩
      have K4 := Lib.hid (K3.out.move hb)
      clear hb
      clear zD10 zD11
      have zD10 := K4.out.here.2.2.1.cell 0
      have zD11 := K4.out.here.2.2.1.cell 1
      simp at zD10 zD11
      have HBV := Lib.hid hbv
      clear hbv
      cases bv with
      | false =>
        have hz1 : z = -1 := by have h := HZ.out; unfold bxSz at h; rw [HBV.out] at h; exact h.symm
        subst hz1
        go_wp2
        go_ret
        exact ⟨rfl, K4.out.here.1.1⟩
      | true =>
        obtain ⟨m1, hm1⟩ : ∃ q, N1 + 1 = q := ⟨_, rfl⟩
        have E0 : (N1 : Int) + 1 = (m1 : Int) := by omega
        have W0 : IntKind.i64.wrap ((N1 : Int) + 1) = (m1 : Int) := (IntWalk.i64_in _ (by omega)).trans E0
        have W9 : IntKind.i64.wrap (m1 : Int) = (m1 : Int) := IntWalk.i64_in _ (by omega)
        have hm1' : ((m1 : Int) == 0) = false := beq_eq_false_iff_ne.2 (by omega)
        have hm1f : ¬ (m1 : Int) = 0 := by omega
        obtain ⟨r, hr⟩ : ∃ r, len0 % m1 = r := ⟨_, rfl⟩
        have hrN : r ≤ N1 := by have := Nat.mod_lt len0 (show m1 > 0 by omega); omega
        have E1 : (len0 : Int).tmod (m1 : Int) = (r : Int) := by rw [← hr]; exact IntWalk.up_tmod rfl rfl
        have W1 : IntKind.i64.wrap ((len0 : Int).tmod (m1 : Int)) = (r : Int) := by rw [E1]; exact IntWalk.i64_in _ (by omega)
        have W2 : IntKind.i64.wrap (r : Int) = (r : Int) := IntWalk.i64_in _ (by omega)
        have i0 : (0 : Int) ≤ (r : Int) := by omega
        have i1 : (r : Int) ≤ (N1 : Int) := by omega
        have i2 : (r : Int) ≤ (cap1 : Int) := by omega
        have hrl : r ≤ L.length := by rw [← HNL.out]; exact hrN
        obtain ⟨z1, hz1⟩ : ∃ z, bxSz n (L.take r) = z := ⟨_, rfl⟩
        obtain ⟨z2, hz2⟩ : ∃ z, bxSz n (L.drop r) = z := ⟨_, rfl⟩
        have hzz : z1 + z2 = z := by
          rw [← hz1, ← hz2, ← HZ.out, bxSz_of HBV.out, bxSz_of (bOk_sub HBV.out (List.take_sublist r L)), bxSz_of (bOk_sub HBV.out (List.drop_sublist r L)), ← szM_split L r]
          rfl
        have HZ1 := Lib.hid hz1
        have HZ2 := Lib.hid hz2
        have hzb : 0 ≤ z ∧ z ≤ 1000 := by
          have h := szM_le (L := L) fun m hm => (mOk_iff.1 ((bOk_iff.1 HBV.out).1 m hm).1).2.2
          have h2 := (bOk_iff.1 HBV.out).2.2.2.2
          have h3 := HZ.out
          rw [bxSz_of HBV.out] at h3
          omega
        have W3 : IntKind.i64.wrap (z1 + z2) = z := (IntWalk.i64_in _ (by omega)).trans hzz
        have W4 : IntKind.i64.wrap z = z := IntWalk.i64_in _ (by omega)
        have q1 : (z == z) = true := by simp
        have HRN := Lib.hid hrN
        clear hz1 hz2 hr hm1 hrl
        go_wp2
        clear zD10 zD11
        have K5 := Lib.hid K4.out.drew
        clear W0 W9 W1 E0 E1 hm1' hm1f hzb hzz HZ HBV HNL q0
        cases hA : A1 with
        | none =>
          have hc0 : cap1 = 0 := K5.out.here.1.2.2.2.2.1 hA
          subst hA
          obtain rfl : N1 = 0 := by omega
          obtain rfl : r = 0 := by omega
          subst hc0
          go_region_held3 (fun w' => w'.cell? ⟨D1, 0, none⟩ = some (.int .i64 n) ∧ w'.cell? ⟨D1, 1, none⟩ = some (.slice none 0 0)) (first | exact ⟨KC.out.here.2.2.1.cell 0, KC.out.here.2.2.1.cell 1⟩ | exact ⟨KB.out.here.2.2.1.cell 0, KB.out.here.2.2.1.cell 1⟩ | exact ⟨K5.out.here.2.2.1.cell 0, K5.out.here.2.2.1.cell 1⟩ | go_keep) (first
            | (go_at_call 28; refine (implsize_at HZ2.out none 0 0 _ (MIn.drop0 KB.out.here.1.2 (Nat.le_refl _))).mono ?_; rintro e w6 ⟨rfl, hb⟩; have KC := Lib.hid (KB.out.move hb); clear hb)
            | (go_at_call 28; refine (implsize_at HZ1.out none 0 0 _ (K5.out.here.1.2.take (Nat.le_refl _))).mono ?_; rintro e w5 ⟨rfl, hb⟩; have KB := Lib.hid (K5.out.move hb); clear hb))
          all_goals
            go_wp2
            go_ret
            exact ⟨rfl, KC.out.here.1.1⟩
        | some q =>
          have hq := K5.out.here.1.2.2.2.2.2 q hA
          obtain ⟨b, o, sp⟩ := q
          simp only at hq
          subst hq
          subst hA
          by_cases hrc : cap1 = r
          · have e0 : N1 = r := by omega
            subst hrc
            subst e0
            have e1 : N1 - N1 = 0 := Nat.sub_self _
            go_region_held3 (fun w' => w'.cell? ⟨D1, 0, none⟩ = some (.int .i64 n) ∧ w'.cell? ⟨D1, 1, none⟩ = some (.slice (some ⟨b, o, none⟩) N1 N1)) (first | exact ⟨KC.out.here.2.2.1.cell 0, KC.out.here.2.2.1.cell 1⟩ | exact ⟨KB.out.here.2.2.1.cell 0, KB.out.here.2.2.1.cell 1⟩ | exact ⟨K5.out.here.2.2.1.cell 0, K5.out.here.2.2.1.cell 1⟩ | go_keep) (first
              | (go_at_call 28; refine (implsize_at HZ2.out (some ⟨b, o, none⟩) 0 0 _ (MIn.dropE KB.out.here.1.2 rfl rfl)).mono ?_; rintro e w6 ⟨rfl, hb⟩; have KC := Lib.hid (KB.out.move hb); clear hb)
              | (go_at_call 28; refine (implsize_at HZ1.out (some ⟨b, o, none⟩) N1 N1 _ (K5.out.here.1.2.take (Nat.le_refl _))).mono ?_; rintro e w5 ⟨rfl, hb⟩; have KB := Lib.hid (K5.out.move hb); clear hb))
            all_goals
              go_wp2
              go_ret
              exact ⟨rfl, KC.out.here.1.1⟩
          · have hlc : r < cap1 := by omega
            have e1 : ¬ cap1 - r = 0 := by omega
            have e3 : ¬ cap1 = 0 := by omega
            go_region_held3 (fun w' => w'.cell? ⟨D1, 0, none⟩ = some (.int .i64 n) ∧ w'.cell? ⟨D1, 1, none⟩ = some (.slice (some ⟨b, o, none⟩) N1 cap1)) (first | exact ⟨KC.out.here.2.2.1.cell 0, KC.out.here.2.2.1.cell 1⟩ | exact ⟨KB.out.here.2.2.1.cell 0, KB.out.here.2.2.1.cell 1⟩ | exact ⟨K5.out.here.2.2.1.cell 0, K5.out.here.2.2.1.cell 1⟩ | go_keep) (first
              | (go_at_call 28; refine (implsize_at HZ2.out (some ⟨b, o + r * 3, none⟩) (N1 - r) (cap1 - r) _ (MIn.drop KB.out.here.1.2 HRN.out)).mono ?_; rintro e w6 ⟨rfl, hb⟩; have KC := Lib.hid (KB.out.move hb); clear hb)
              | (go_at_call 28; refine (implsize_at HZ1.out (some ⟨b, o, none⟩) r cap1 _ (K5.out.here.1.2.take HRN.out)).mono ?_; rintro e w5 ⟨rfl, hb⟩; have KB := Lib.hid (K5.out.move hb); clear hb))
            all_goals
              go_wp2
              go_ret
              exact ⟨rfl, KC.out.here.1.1⟩
    · have hl0' : (1048576 : Int) < (len0 : Int) := by omega
      go_enter Try.func7, Try.ntmps7
      go_wp2
      go_ret
      exact ⟨rfl, Below.refl _ _⟩
  · have hl' : (1048576 : Int) < (len : Int) := by omega
    go_enter Try.func7, Try.ntmps7
    go_wp2
    go_ret
    exact ⟨rfl, Below.refl _ _⟩
end Go.Proofs.Ytmljdbbbfpmbcaa
