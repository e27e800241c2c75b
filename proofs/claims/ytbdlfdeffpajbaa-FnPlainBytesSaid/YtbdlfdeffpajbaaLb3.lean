/-
  The walks of the laws on decoding texts in base64. Condition: the codes can be read.
-/
import Derived.Test.YtbdlfdeffpajbaaLb2
namespace Go.Proofs.Ytbdlfdeffpajbaa
open Go.RowKit
set_option linter.unusedVariables false

theorem isD_enc {s x : ByteArray} (h : IsD s true x) : encB x = s := by
  have hl : x.data.toList.length = x.size := by simp
  have h1 := h.1 rfl
  rw [encB_yes (by omega), h1.2, bt_of]
theorem isD_len {s x : ByteArray} (h : IsD s true x) : s.size % 4 = 0 := by
  have h1 := h.1 rfl
  have hl : s.data.toList.length = s.size := by simp
  rw [← hl, ← h1.2, enc_len]
  omega
set_option maxHeartbeats 2000000 in
theorem law_FnDecode (A : Option Addr) (len cap : Nat) (w : World) (h : Coded w A len cap) : Calls Try.prog 8 #[.slice A len cap] w (Holds1 w) := by
  have HC := Lib.hid h
  clear h
  by_cases hl : len ≤ 1048576
  · have hl' : (len : Int) ≤ 1048576 := by omega
    go_enter Try.func8, Try.ntmps8
    go_wp2_with fail
    refine (draw_dec A len cap _ HC.out).mono ?_
    rintro e w1 ⟨s, hs, rfl, hb⟩
    have HB1 := Lib.hid hb
    clear hb
    obtain ⟨o, x, hd⟩ := isD_any s
    have hx := isD_le hd
    have HD := Lib.hid hd
    clear hd
    go_wp2_with fail
    refine (idec_loop HD.out _ (by omega)).mono ?_
    rintro e w2 ⟨rfl, hb⟩
    have HB2 := Lib.hid (HB1.out.trans (hb.mono HB1.out.size))
    clear hb
    go_wp2_with fail
    refine (sdec HD.out _ (by omega)).mono ?_
    rintro e w3 ⟨rfl, hb⟩
    have HB3 := Lib.hid (HB2.out.trans (hb.mono HB2.out.size))
    clear hb
    cases o with
    | true =>
      have HE := Lib.hid (isD_enc HD.out)
      have hx' : (x.size : Int) ≤ 30 := by omega
      have hx'' : decide ((x.size : Int) ≤ 30) = true := decide_eq_true hx'
      go_wp2_with fail
      refine (ienc_at HE.out _).mono ?_
      rintro e w4 ⟨rfl, hb⟩
      have HB4 := Lib.hid (HB3.out.trans (hb.mono HB3.out.size))
      clear hb
      go_wp2
      go_ret
      exact ⟨rfl, HB4.out⟩
    | false =>
      go_wp2
      go_ret
      exact ⟨rfl, HB3.out⟩
  · have hl' : (1048576 : Int) < (len : Int) := by omega
    go_enter Try.func8, Try.ntmps8
    go_wp2
    go_ret
    exact ⟨rfl, Below.refl _ _⟩

set_option maxHeartbeats 2000000 in
theorem law_FnDecodePart (A : Option Addr) (len cap : Nat) (w : World) (h : Coded w A len cap) : Calls Try.prog 9 #[.slice A len cap] w (Holds1 w) := by
  have HC := Lib.hid h
  clear h
  by_cases hl : len ≤ 1048576
  · have hl' : (len : Int) ≤ 1048576 := by omega
    go_enter Try.func9, Try.ntmps9
    go_wp2_with fail
    refine (draw_dec A len cap _ HC.out).mono ?_
    rintro e w1 ⟨s, hs, rfl, hb⟩
    have HB1 := Lib.hid hb
    clear hb
    obtain ⟨o, x, hd⟩ := isD_any s
    have HD := Lib.hid hd
    clear hd
    go_wp2_with fail
    refine (idec_loop HD.out _ (by omega)).mono ?_
    rintro e w2 ⟨rfl, hb⟩
    have HB2 := Lib.hid (HB1.out.trans (hb.mono HB1.out.size))
    clear hb
    go_wp2_with fail
    refine (sdec HD.out _ (by omega)).mono ?_
    rintro e w3 ⟨rfl, hb⟩
    have HB3 := Lib.hid (HB2.out.trans (hb.mono HB2.out.size))
    clear hb
    cases o with
    | true =>
      by_cases h0 : s.size = 0
      · obtain ⟨e1, e2⟩ := isEmpty h0
        clear h0
        go_wp2
        go_ret
        exact ⟨rfl, HB3.out⟩
      · obtain ⟨e1, e2⟩ := noEmpty h0
        have H4 := Lib.hid (isD_len HD.out)
        have h4 : 4 ≤ s.size := by have := H4.out; omega
        clear h0
        obtain ⟨wo, rfl⟩ : ∃ wo : World, wo = w3 := ⟨_, rfl⟩
        go_wp2
        go_loopw [8, 9, 10] (fun v a b wr => ∃ k : Nat, 1 ≤ k ∧ k ≤ 4 ∧ v = .int .i64 (k : Int) ∧ Hid (Below w.heap.size w wr)) (fun v _ _ _ => 4 - (intOf v).toNat)
        case atStart => exact ⟨1, by omega, by omega, by go_num, HB3⟩
        case round =>
          obtain ⟨k, hk1, hk4, rfl, HB⟩ := hrel
          by_cases hlt : k < 4
          · have i1 : (k : Int) < 4 := by omega
            obtain ⟨n, hn⟩ : ∃ n, s.size - k = n := ⟨_, rfl⟩
            have E1 : (s.size : Int) - (k : Int) = (n : Int) := by omega
            have n0 : (0 : Int) ≤ (n : Int) := by omega
            have n1 : (n : Int) ≤ (s.size : Int) := by omega
            have HN : Hid (IsD (s.extract 0 n) false ⟨#[]⟩) := Lib.hid (isD_no (dec_len (by
              have hl2 : (s.extract 0 n).data.toList.length = (s.extract 0 n).size := by simp
              rw [hl2, ByteArray.size_extract]
              have := H4.out
              omega)))
            have hns : (s.extract 0 n).size ≤ 16777216 := by rw [ByteArray.size_extract]; omega
            have HNS := Lib.hid hns
            clear hn hns
            go_wp2_with fail
            refine (idec_loop HN.out _ HNS.out).mono ?_
            rintro e w4 ⟨rfl, hb⟩
            have HB4 := Lib.hid (HB.out.trans (hb.mono HB.out.size))
            clear hb
            go_wp2
            go_roundw
            case rel => exact ⟨k + 1, by omega, by omega, by go_num, HB4⟩
            case measure => simp [intOf]; omega
          · have i1 : ¬ (k : Int) < 4 := by omega
            go_wp2
            go_ret
            exact ⟨rfl, HB.out⟩
    | false =>
      go_wp2
      go_ret
      exact ⟨rfl, HB3.out⟩
  · have hl' : (1048576 : Int) < (len : Int) := by omega
    go_enter Try.func9, Try.ntmps9
    go_wp2
    go_ret
    exact ⟨rfl, Below.refl _ _⟩

set_option maxHeartbeats 4000000 in
theorem law_FnDecodeSign (A : Option Addr) (len cap : Nat) (A2 : Option Addr) (len2 cap2 : Nat) (w : World) (h : Coded w A len cap) (h2 : Coded w A2 len2 cap2) : Calls Try.prog 10 #[.slice A len cap, .slice A2 len2 cap2] w (Holds1 w) := by
  have HC := Lib.hid h
  clear h h2
  by_cases hl : len ≤ 1048576
  · have hl' : (len : Int) ≤ 1048576 := by omega
    have hl3 : decide ((1048576 : Int) < (len : Int)) = false := decide_eq_false (by omega)
    by_cases hl2 : len2 ≤ 1048576
    · have hl2' : (len2 : Int) ≤ 1048576 := by omega
      have hl2'' : decide ((1048576 : Int) < (len2 : Int)) = false := decide_eq_false (by omega)
      go_enter Try.func10, Try.ntmps10
      go_wp2_with fail
      refine (draw_dec A len cap _ HC.out).mono ?_
      rintro e w1 ⟨s, hs, rfl, hb⟩
      have HB1 := Lib.hid hb
      clear hb
      obtain ⟨o, x, hd⟩ := isD_any s
      have HD := Lib.hid hd
      clear hd
      go_wp2_with fail
      refine (idec_loop HD.out _ (by omega)).mono ?_
      rintro e w2 ⟨rfl, hb⟩
      have HB2 := Lib.hid (HB1.out.trans (hb.mono HB1.out.size))
      clear hb
      go_wp2_with fail
      refine (sdec HD.out _ (by omega)).mono ?_
      rintro e w3 ⟨rfl, hb⟩
      have HB3 := Lib.hid (HB2.out.trans (hb.mono HB2.out.size))
      clear hb
      cases o with
      | true =>
        by_cases h0 : s.size = 0
        · obtain ⟨e1, e2⟩ := isEmpty h0
          clear h0
          go_wp2
          go_ret
          exact ⟨rfl, HB3.out⟩
        · obtain ⟨e1, e2⟩ := noEmpty h0
          obtain ⟨k, hk⟩ : ∃ k, len2 % s.size = k := ⟨_, rfl⟩
          have hk1 : k < s.size := hk ▸ Nat.mod_lt _ (by omega)
          have E2 : (len2 : Int) % (s.size : Int) = (k : Int) := by rw [← hk]; simp
          have p1 : (1 : Int) ≤ (s.size : Int) := by omega
          have p2 : ((s.size : Int) == 0) = false := beq_eq_false_iff_ne.2 (by omega)
          have k0 : (0 : Int) ≤ (k : Int) := by omega
          have k1 : (k : Int) ≤ (s.size : Int) := by omega
          have k2 : (k : Int) + 1 ≤ (s.size : Int) := by omega
          have k3 : (0 : Int) ≤ (k : Int) + 1 := by omega
          have hst : IntKind.i64.wrap ((k : Int) + 1) = (k : Int) + 1 := IntWalk.i64_in _ (by omega)
          have HN : Hid (IsD (s.extract 0 k ++ ⟨#[45]⟩ ++ s.extract (k + 1) s.size) false ⟨#[]⟩) := Lib.hid (isD_no (dec_sign (by rw [cat_list, cat_list]; simp)))
          have HNS : Hid ((s.extract 0 k ++ ⟨#[45]⟩ ++ s.extract (k + 1) s.size).size ≤ 16777216) := Lib.hid (by rw [ByteArray.size_append, ByteArray.size_append, ByteArray.size_extract, ByteArray.size_extract, one_size]; omega)
          clear hk h0
          go_wp2
          go_region_with ((go_at_call 24; refine (idec_loop HN.out _ HNS.out).mono ?_; rintro e w5 ⟨rfl, hb⟩; have HBX := Lib.hid ((below_drew HB3.out).trans (hb.mono HB3.out.size)); clear hb))
          all_goals
            go_wp2
            go_ret
            exact ⟨rfl, HBX.out⟩
      | false =>
        go_wp2
        go_ret
        exact ⟨rfl, HB3.out⟩
    · have hl2' : (1048576 : Int) < (len2 : Int) := by omega
      go_enter Try.func10, Try.ntmps10
      go_wp2
      go_ret
      exact ⟨rfl, Below.refl _ _⟩
  · have hl' : (1048576 : Int) < (len : Int) := by omega
    go_enter Try.func10, Try.ntmps10
    go_wp2
    go_ret
    exact ⟨rfl, Below.refl _ _⟩
end Go.Proofs.Ytbdlfdeffpajbaa
