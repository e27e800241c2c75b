/-
  The walks of the laws on proofs of a user's password. Condition: the codes can be read.
-/
import Derived.Test.YtbdlfdeffpajbaaPdraw
import Derived.Test.YtbdlfdeffpajbaaLb3
namespace Go.Proofs.Ytbdlfdeffpajbaa
open Go.RowKit
set_option linter.unusedVariables false

theorem imake_at {u p t : ByteArray} (h : mkB u p = t) (w : World) (hu : u.size ≤ 16777216) (hp : p.size ≤ 16777216) : Calls Try.prog 28 #[.string u, .string p] w (Says w t) := by
  subst h
  exact imake u p w hu hp
theorem smake_at {u p t : ByteArray} (h : mkB u p = t) (w : World) (hu : u.size ≤ 16777216) (hp : p.size ≤ 16777216) : Calls Try.prog 29 #[.string u, .string p] w (Says w t) := by
  subst h
  exact smake u p w hu hp
theorem mk_ne_of {u p t : ByteArray} (h : mkB u p = t) (h0 : t.size ≠ 0) : mk u.data.toList p.data.toList ≠ [] := by
  intro e
  refine h0 ?_
  rw [← h]
  unfold mkB
  rw [e]
  rfl
theorem mk_isPP {u p t : ByteArray} (h : mkB u p = t) (hn : mk u.data.toList p.data.toList ≠ []) : IsPP t true u p := by
  rw [← h]
  exact pp_mk hn
theorem mk_isD {u p t : ByteArray} (h : mkB u p = t) (hn : mk u.data.toList p.data.toList ≠ []) : IsD t true ((⟨#[0]⟩ : ByteArray) ++ u ++ ⟨#[0]⟩ ++ p) := by
  unfold IsD
  rw [zero_cat, ← h]
  exact mk_dec hn
theorem isPP_mk {t u p : ByteArray} (h : IsPP t true u p) : mkB u p = t := by
  unfold mkB
  rw [mk_pp h, bt_of]
theorem isPP_le {s u p : ByteArray} {o : Bool} (h : IsPP s o u p) : u.size ≤ 8 ∧ p.size ≤ 8 := by
  cases o with
  | true => exact ⟨name_size (h.1 rfl).1, name_size (h.1 rfl).2.1⟩
  | false =>
    obtain ⟨h1, h2, _⟩ := h.2 rfl
    rw [← bt_of u, ← bt_of p, h1, h2]
    exact ⟨Nat.zero_le _, Nat.zero_le _⟩
theorem str_beq {u v : ByteArray} : (u.toList == v.toList) = decide (u = v) := by
  rw [Bool.eq_iff_iff, beq_iff_eq, toList_iff, decide_eq_true_iff]

set_option maxHeartbeats 2000000 in
theorem law_FnPlainMake (A : Option Addr) (len cap : Nat) (w : World) (h : Coded w A len cap) : Calls Try.prog 11 #[.slice A len cap] w (Holds1 w) := by
  have HC := Lib.hid h
  clear h
  by_cases hl : len ≤ 1048576
  · have hl' : (len : Int) ≤ 1048576 := by omega
    go_enter Try.func11, Try.ntmps11
    go_wp2_with fail
    refine (draw_make A len cap _ HC.out).mono ?_
    rintro e w1 ⟨u, p, hu, hp, rfl, hb⟩
    have HB1 := Lib.hid hb
    clear hb
    obtain ⟨t, ht⟩ : ∃ t, mkB u p = t := ⟨_, rfl⟩
    have HT := Lib.hid ht
    have htl : t.size ≤ 24 := ht ▸ mkB_le u p
    clear ht
    go_wp2_with fail
    refine (imake_at HT.out _ (by omega) (by omega)).mono ?_
    rintro e w2 ⟨rfl, hb⟩
    have HB2 := Lib.hid (HB1.out.trans (hb.mono HB1.out.size))
    clear hb
    go_wp2_with fail
    refine (smake_at HT.out _ (by omega) (by omega)).mono ?_
    rintro e w3 ⟨rfl, hb⟩
    have HB3 := Lib.hid (HB2.out.trans (hb.mono HB2.out.size))
    clear hb
    by_cases h0 : t.size = 0
    · obtain ⟨e1, e2⟩ := isEmpty h0
      clear h0
      go_wp2
      go_ret
      exact ⟨rfl, HB3.out⟩
    · obtain ⟨e1, e2⟩ := noEmpty h0
      have HNE := Lib.hid (mk_ne_of HT.out h0)
      clear h0
      have HQ := Lib.hid (mk_isPP HT.out HNE.out)
      go_wp2_with fail
      refine (iplain HQ.out _ (by omega)).mono ?_
      rintro e w4 ⟨rfl, hb⟩
      have HB4 := Lib.hid (HB3.out.trans (hb.mono HB3.out.size))
      clear hb
      go_wp2
      go_ret
      exact ⟨rfl, HB4.out⟩
  · have hl' : (1048576 : Int) < (len : Int) := by omega
    go_enter Try.func11, Try.ntmps11
    go_wp2
    go_ret
    exact ⟨rfl, Below.refl _ _⟩

set_option maxHeartbeats 2000000 in
theorem law_FnPlainBytes (A : Option Addr) (len cap : Nat) (w : World) (h : Coded w A len cap) : Calls Try.prog 13 #[.slice A len cap] w (Holds1 w) := by
  have HC := Lib.hid h
  clear h
  by_cases hl : len ≤ 1048576
  · have hl' : (len : Int) ≤ 1048576 := by omega
    go_enter Try.func13, Try.ntmps13
    go_wp2_with fail
    refine (draw_make A len cap _ HC.out).mono ?_
    rintro e w1 ⟨u, p, hu, hp, rfl, hb⟩
    have HB1 := Lib.hid hb
    clear hb
    obtain ⟨t, ht⟩ : ∃ t, mkB u p = t := ⟨_, rfl⟩
    have HT := Lib.hid ht
    have htl : t.size ≤ 24 := ht ▸ mkB_le u p
    clear ht
    go_wp2_with fail
    refine (imake_at HT.out _ (by omega) (by omega)).mono ?_
    rintro e w2 ⟨rfl, hb⟩
    have HB2 := Lib.hid (HB1.out.trans (hb.mono HB1.out.size))
    clear hb
    go_wp2_with fail
    refine (smake_at HT.out _ (by omega) (by omega)).mono ?_
    rintro e w3 ⟨rfl, hb⟩
    have HB3 := Lib.hid (HB2.out.trans (hb.mono HB2.out.size))
    clear hb
    by_cases h0 : t.size = 0
    · obtain ⟨e1, e2⟩ := isEmpty h0
      clear h0
      go_wp2
      go_ret
      exact ⟨rfl, HB3.out⟩
    · obtain ⟨e1, e2⟩ := noEmpty h0
      have HNE := Lib.hid (mk_ne_of HT.out h0)
      clear h0
      have HQ := Lib.hid (mk_isD HT.out HNE.out)
      go_wp2_with fail
      refine (idec_loop HQ.out _ (by omega)).mono ?_
      rintro e w4 ⟨rfl, hb⟩
      have HB4 := Lib.hid (HB3.out.trans (hb.mono HB3.out.size))
      clear hb
      go_wp2
      go_ret
      exact ⟨rfl, HB4.out⟩
  · have hl' : (1048576 : Int) < (len : Int) := by omega
    go_enter Try.func13, Try.ntmps13
    go_wp2
    go_ret
    exact ⟨rfl, Below.refl _ _⟩

set_option maxHeartbeats 2000000 in
theorem law_FnPlainSwap (A : Option Addr) (len cap : Nat) (w : World) (h : Coded w A len cap) : Calls Try.prog 14 #[.slice A len cap] w (Holds1 w) := by
  have HC := Lib.hid h
  clear h
  by_cases hl : len ≤ 1048576
  · have hl' : (len : Int) ≤ 1048576 := by omega
    go_enter Try.func14, Try.ntmps14
    go_wp2_with fail
    refine (draw_make A len cap _ HC.out).mono ?_
    rintro e w1 ⟨u, p, hu, hp, rfl, hb⟩
    have HB1 := Lib.hid hb
    clear hb
    obtain ⟨t, ht⟩ : ∃ t, mkB u p = t := ⟨_, rfl⟩
    have HT := Lib.hid ht
    have htl : t.size ≤ 24 := ht ▸ mkB_le u p
    clear ht
    go_wp2_with fail
    refine (imake_at HT.out _ (by omega) (by omega)).mono ?_
    rintro e w2 ⟨rfl, hb⟩
    have HB2 := Lib.hid (HB1.out.trans (hb.mono HB1.out.size))
    clear hb
    go_wp2_with fail
    refine (smake_at HT.out _ (by omega) (by omega)).mono ?_
    rintro e w3 ⟨rfl, hb⟩
    have HB3 := Lib.hid (HB2.out.trans (hb.mono HB2.out.size))
    clear hb
    by_cases h0 : t.size = 0
    · obtain ⟨e1, e2⟩ := isEmpty h0
      clear h0
      go_wp2
      go_ret
      exact ⟨rfl, HB3.out⟩
    · obtain ⟨e1, e2⟩ := noEmpty h0
      have HNE := Lib.hid (mk_ne_of HT.out h0)
      clear h0
      by_cases hup : u = p
      · have q0 : (u.toList == p.toList) = true := by rw [str_beq, decide_eq_true hup]
        have HS : Hid (mkB p u = t) := Lib.hid (by rw [← HT.out, hup])
        clear hup
        go_wp2_with fail
        refine (imake_at HS.out _ (by omega) (by omega)).mono ?_
        rintro e w4 ⟨rfl, hb⟩
        have HB4 := Lib.hid (HB3.out.trans (hb.mono HB3.out.size))
        clear hb
        go_wp2
        go_ret
        exact ⟨rfl, HB4.out⟩
      · have q0 : (u.toList == p.toList) = false := by rw [str_beq, decide_eq_false hup]
        obtain ⟨t2, ht2⟩ : ∃ t2, mkB p u = t2 := ⟨_, rfl⟩
        have HS := Lib.hid ht2
        have q1 : (t2.toList == t.toList) = false := by
          rw [str_beq]
          refine decide_eq_false fun e => hup ?_
          have h1 : mk p.data.toList u.data.toList = mk u.data.toList p.data.toList := by
            have h2 : mkB p u = mkB u p := by rw [HS.out, HT.out, e]
            exact congrArg (fun v : ByteArray => v.data.toList) h2
          have h3 := (mk_swap HNE.out).1 h1
          rw [← bt_of u, h3, bt_of]
        clear ht2 hup
        go_wp2_with fail
        refine (imake_at HS.out _ (by omega) (by omega)).mono ?_
        rintro e w4 ⟨rfl, hb⟩
        have HB4 := Lib.hid (HB3.out.trans (hb.mono HB3.out.size))
        clear hb
        go_wp2
        go_ret
        exact ⟨rfl, HB4.out⟩
  · have hl' : (1048576 : Int) < (len : Int) := by omega
    go_enter Try.func14, Try.ntmps14
    go_wp2
    go_ret
    exact ⟨rfl, Below.refl _ _⟩

set_option maxHeartbeats 2000000 in
theorem law_FnPlainNames (A : Option Addr) (len cap : Nat) (w : World) (h : Coded w A len cap) : Calls Try.prog 12 #[.slice A len cap] w (Holds1 w) := by
  have HC := Lib.hid h
  clear h
  by_cases hl : len ≤ 1048576
  · have hl' : (len : Int) ≤ 1048576 := by omega
    go_enter Try.func12, Try.ntmps12
    go_wp2_with fail
    refine (draw_make A len cap _ HC.out).mono ?_
    rintro e w1 ⟨u, p, hu, hp, rfl, hb⟩
    have HB1 := Lib.hid hb
    clear hb
    obtain ⟨t, ht⟩ : ∃ t, mkB u p = t := ⟨_, rfl⟩
    have HT := Lib.hid ht
    have htl : t.size ≤ 24 := ht ▸ mkB_le u p
    clear ht
    go_wp2_with fail
    refine (imake_at HT.out _ (by omega) (by omega)).mono ?_
    rintro e w2 ⟨rfl, hb⟩
    have HB2 := Lib.hid (HB1.out.trans (hb.mono HB1.out.size))
    clear hb
    go_wp2_with fail
    refine (smake_at HT.out _ (by omega) (by omega)).mono ?_
    rintro e w3 ⟨rfl, hb⟩
    have HB3 := Lib.hid (HB2.out.trans (hb.mono HB2.out.size))
    clear hb
    cases hv : nameB u.data.toList with
    | false =>
      have HV := Lib.hid hv
      have h0 : t.size = 0 := by rw [← HT.out, mkB_no (by rw [hv]; rfl)]; rfl
      obtain ⟨e1, e2⟩ := isEmpty h0
      clear hv h0
      go_wp2_with fail
      refine (impl_name u _ (by omega)).mono ?_
      rintro e w4 ⟨rfl, hb⟩
      have HB4 := Lib.hid (HB3.out.trans (hb.mono HB3.out.size))
      clear hb
      rw [HV.out]
      go_wp2
      go_ret
      exact ⟨rfl, HB4.out⟩
    | true =>
      have HV := Lib.hid hv
      cases hx : nameB p.data.toList with
      | false =>
        have HX := Lib.hid hx
        have h0 : t.size = 0 := by rw [← HT.out, mkB_no (by rw [hx]; simp)]; rfl
        obtain ⟨e1, e2⟩ := isEmpty h0
        clear hv hx h0
        go_wp2_with fail
        refine (impl_name u _ (by omega)).mono ?_
        rintro e w4 ⟨rfl, hb⟩
        have HB4 := Lib.hid (HB3.out.trans (hb.mono HB3.out.size))
        clear hb
        rw [HV.out]
        go_wp2_with fail
        refine (impl_name p _ (by omega)).mono ?_
        rintro e w5 ⟨rfl, hb⟩
        have HB5 := Lib.hid (HB4.out.trans (hb.mono HB4.out.size))
        clear hb
        rw [HX.out]
        go_wp2
        go_ret
        exact ⟨rfl, HB5.out⟩
      | true =>
        have HX := Lib.hid hx
        have h0 : t.size ≠ 0 := by
          rw [← HT.out]
          unfold mkB
          rw [mk_yes hv hx, bt_size]
          intro e
          exact enc_ne (by unfold two0; simp) (List.eq_nil_of_length_eq_zero e)
        obtain ⟨e1, e2⟩ := noEmpty h0
        clear hv hx h0
        go_wp2_with fail
        refine (impl_name u _ (by omega)).mono ?_
        rintro e w4 ⟨rfl, hb⟩
        have HB4 := Lib.hid (HB3.out.trans (hb.mono HB3.out.size))
        clear hb
        rw [HV.out]
        go_wp2_with fail
        refine (impl_name p _ (by omega)).mono ?_
        rintro e w5 ⟨rfl, hb⟩
        have HB5 := Lib.hid (HB4.out.trans (hb.mono HB4.out.size))
        clear hb
        rw [HX.out]
        go_wp2
        go_ret
        exact ⟨rfl, HB5.out⟩
  · have hl' : (1048576 : Int) < (len : Int) := by omega
    go_enter Try.func12, Try.ntmps12
    go_wp2
    go_ret
    exact ⟨rfl, Below.refl _ _⟩

set_option maxHeartbeats 2000000 in
theorem law_FnPlainParse (A : Option Addr) (len cap : Nat) (w : World) (h : Coded w A len cap) : Calls Try.prog 15 #[.slice A len cap] w (Holds1 w) := by
  have HC := Lib.hid h
  clear h
  by_cases hl : len ≤ 1048576
  · have hl' : (len : Int) ≤ 1048576 := by omega
    go_enter Try.func15, Try.ntmps15
    go_wp2_with fail
    refine (draw_pp A len cap _ HC.out).mono ?_
    rintro e w1 ⟨s, hs, rfl, hb⟩
    have HB1 := Lib.hid hb
    clear hb
    obtain ⟨o, u, p, hd⟩ := isPP_any s
    have hle := isPP_le hd
    have hu := hle.1
    have hp := hle.2
    have HD := Lib.hid hd
    clear hd hle
    go_wp2_with fail
    refine (iplain HD.out _ (by omega)).mono ?_
    rintro e w2 ⟨rfl, hb⟩
    have HB2 := Lib.hid (HB1.out.trans (hb.mono HB1.out.size))
    clear hb
    go_wp2_with fail
    refine (splain HD.out _ (by omega)).mono ?_
    rintro e w3 ⟨rfl, hb⟩
    have HB3 := Lib.hid (HB2.out.trans (hb.mono HB2.out.size))
    clear hb
    cases o with
    | true =>
      have HS := Lib.hid (isPP_mk HD.out)
      go_wp2_with fail
      refine (imake_at HS.out _ (by omega) (by omega)).mono ?_
      rintro e w4 ⟨rfl, hb⟩
      have HB4 := Lib.hid (HB3.out.trans (hb.mono HB3.out.size))
      clear hb
      go_wp2
      go_ret
      exact ⟨rfl, HB4.out⟩
    | false =>
      go_wp2
      go_ret
      exact ⟨rfl, HB3.out⟩
  · have hl' : (1048576 : Int) < (len : Int) := by omega
    go_enter Try.func15, Try.ntmps15
    go_wp2
    go_ret
    exact ⟨rfl, Below.refl _ _⟩

theorem aaaa_pp {s u p : ByteArray} (h : IsPP s true u p) : IsPP ((⟨#[65, 65, 65, 65]⟩ : ByteArray) ++ s) false ⟨#[]⟩ ⟨#[]⟩ := by
  unfold IsPP
  rw [cat_list]
  exact pp_more h
set_option maxHeartbeats 2000000 in
theorem law_FnPlainMore (A : Option Addr) (len cap : Nat) (w : World) (h : Coded w A len cap) : Calls Try.prog 16 #[.slice A len cap] w (Holds1 w) := by
  have HC := Lib.hid h
  clear h
  by_cases hl : len ≤ 1048576
  · have hl' : (len : Int) ≤ 1048576 := by omega
    go_enter Try.func16, Try.ntmps16
    go_wp2_with fail
    refine (draw_pp A len cap _ HC.out).mono ?_
    rintro e w1 ⟨s, hs, rfl, hb⟩
    have HB1 := Lib.hid hb
    clear hb
    obtain ⟨o, u, p, hd⟩ := isPP_any s
    have hle := isPP_le hd
    have hu := hle.1
    have hp := hle.2
    have HD := Lib.hid hd
    clear hd hle
    go_wp2_with fail
    refine (iplain HD.out _ (by omega)).mono ?_
    rintro e w2 ⟨rfl, hb⟩
    have HB2 := Lib.hid (HB1.out.trans (hb.mono HB1.out.size))
    clear hb
    go_wp2_with fail
    refine (splain HD.out _ (by omega)).mono ?_
    rintro e w3 ⟨rfl, hb⟩
    have HB3 := Lib.hid (HB2.out.trans (hb.mono HB2.out.size))
    clear hb
    cases o with
    | true =>
      have HS := Lib.hid (aaaa_pp HD.out)
      have HZ : Hid (((⟨#[65, 65, 65, 65]⟩ : ByteArray) ++ s).size ≤ 16777216) := Lib.hid (by rw [ByteArray.size_append]; show 4 + _ ≤ _; omega)
      go_wp2_with fail
      refine (iplain HS.out _ HZ.out).mono ?_
      rintro e w4 ⟨rfl, hb⟩
      have HB4 := Lib.hid (HB3.out.trans (hb.mono HB3.out.size))
      clear hb
      go_wp2
      go_ret
      exact ⟨rfl, HB4.out⟩
    | false =>
      go_wp2
      go_ret
      exact ⟨rfl, HB3.out⟩
  · have hl' : (1048576 : Int) < (len : Int) := by omega
    go_enter Try.func16, Try.ntmps16
    go_wp2
    go_ret
    exact ⟨rfl, Below.refl _ _⟩

set_option maxHeartbeats 2000000 in
theorem law_FnExactPlainMake (u p : ByteArray) (w : World) (hu : u.size ≤ maxLen) (hp : p.size ≤ maxLen) : Calls Try.prog 19 #[.string u, .string p] w (Holds1 w) := by
  unfold maxLen at hu hp
  by_cases h1 : u.size ≤ 1048576
  · have h1' : (u.size : Int) ≤ 1048576 := by omega
    by_cases h2 : p.size ≤ 1048576
    · have h2' : (p.size : Int) ≤ 1048576 := by omega
      obtain ⟨t, ht⟩ : ∃ t, mkB u p = t := ⟨_, rfl⟩
      have HT := Lib.hid ht
      have HB0 := Lib.hid (Below.refl w.heap.size w)
      clear ht
      go_enter Try.func19, Try.ntmps19
      go_wp2_with fail
      refine (smake_at HT.out _ (by omega) (by omega)).mono ?_
      rintro e w1 ⟨rfl, hb⟩
      have HB1 := Lib.hid (HB0.out.trans (hb.mono HB0.out.size))
      clear hb
      go_wp2_with fail
      refine (imake_at HT.out _ (by omega) (by omega)).mono ?_
      rintro e w2 ⟨rfl, hb⟩
      have HB2 := Lib.hid (HB1.out.trans (hb.mono HB1.out.size))
      clear hb
      go_wp2
      go_ret
      exact ⟨rfl, HB2.out⟩
    · have h2' : (1048576 : Int) < (p.size : Int) := by omega
      go_enter Try.func19, Try.ntmps19
      go_wp2
      go_ret
      exact ⟨rfl, Below.refl _ _⟩
  · have h1' : (1048576 : Int) < (u.size : Int) := by omega
    go_enter Try.func19, Try.ntmps19
    go_wp2
    go_ret
    exact ⟨rfl, Below.refl _ _⟩
set_option maxHeartbeats 2000000 in
theorem law_FnExactPlainParse (s : ByteArray) (w : World) (hs : s.size ≤ maxLen) : Calls Try.prog 20 #[.string s] w (Holds1 w) := by
  unfold maxLen at hs
  by_cases h1 : s.size ≤ 1048576
  · have h1' : (s.size : Int) ≤ 1048576 := by omega
    obtain ⟨o, u, p, hd⟩ := isPP_any s
    have HD := Lib.hid hd
    have HB0 := Lib.hid (Below.refl w.heap.size w)
    clear hd
    go_enter Try.func20, Try.ntmps20
    go_wp2_with fail
    refine (splain HD.out _ (by omega)).mono ?_
    rintro e w1 ⟨rfl, hb⟩
    have HB1 := Lib.hid (HB0.out.trans (hb.mono HB0.out.size))
    clear hb
    go_wp2_with fail
    refine (iplain HD.out _ (by omega)).mono ?_
    rintro e w2 ⟨rfl, hb⟩
    have HB2 := Lib.hid (HB1.out.trans (hb.mono HB1.out.size))
    clear hb
    go_wp2
    go_ret
    exact ⟨rfl, HB2.out⟩
  · have h1' : (1048576 : Int) < (s.size : Int) := by omega
    go_enter Try.func20, Try.ntmps20
    go_wp2
    go_ret
    exact ⟨rfl, Below.refl _ _⟩
end Go.Proofs.Ytbdlfdeffpajbaa
