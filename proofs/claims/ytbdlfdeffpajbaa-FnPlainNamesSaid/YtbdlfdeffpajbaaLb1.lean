/-
  The walks of the laws on encoding bytes in base64. Condition: the codes can be read.
-/
import Derived.Test.YtbdlfdeffpajbaaBdraw
import Derived.Test.YtbdlfdeffpajbaaIloop
import Derived.Test.YtbdlfdeffpajbaaLawh
namespace Go.Proofs.Ytbdlfdeffpajbaa
open Go.RowKit
set_option linter.unusedVariables false

theorem ienc_at {s t : ByteArray} (h : encB s = t) (w : World) : Calls Try.prog 22 #[.string s] w (Says w t) := by
  subst h
  exact ienc s w
theorem encB_size {s t : ByteArray} (h : encB s = t) (hs : s.size ≤ 30) : t.size = (s.size + 2) / 3 * 4 := by
  rw [← h, encB_yes hs, bt_size, enc_len]
  have hl : s.data.toList.length = s.size := by simp
  rw [hl]
theorem encB_isD {s t : ByteArray} (h : encB s = t) (hs : s.size ≤ 30) : IsD t true s := by
  rw [← h, encB_yes hs]
  have hl : s.data.toList.length = s.size := by simp
  exact dec_of (by omega)

set_option maxHeartbeats 2000000 in
theorem law_FnEncode (A : Option Addr) (len cap : Nat) (w : World) (h : Coded w A len cap) : Calls Try.prog 3 #[.slice A len cap] w (Holds1 w) := by
  have HC := Lib.hid h
  clear h
  by_cases hl : len ≤ 1048576
  · have hl' : (len : Int) ≤ 1048576 := by omega
    go_enter Try.func3, Try.ntmps3
    go_wp2_with fail
    refine (draw_enc A len cap _ HC.out).mono ?_
    rintro e w1 ⟨s, hs, rfl, hb⟩
    have HB1 := Lib.hid hb
    clear hb
    obtain ⟨t, ht⟩ : ∃ t, encB s = t := ⟨_, rfl⟩
    have HT := Lib.hid ht
    clear ht
    go_wp2_with fail
    refine (ienc_at HT.out _).mono ?_
    rintro e w2 ⟨rfl, hb⟩
    have HB2 := Lib.hid (HB1.out.trans (hb.mono HB1.out.size))
    clear hb
    go_wp2_with fail
    refine (senc_at HT.out _ (by omega)).mono ?_
    rintro e w3 ⟨rfl, hb⟩
    have HB3 := Lib.hid (HB2.out.trans (hb.mono HB2.out.size))
    clear hb
    by_cases h30 : s.size ≤ 30
    · have h30' : ¬ (30 : Int) < (s.size : Int) := by omega
      have hz := encB_size HT.out h30
      have hq : ((t.size : Int) == ((s.size : Int) + 2) / 3 * 4) = true := by simp; omega
      clear hz
      go_wp2
      go_ret
      exact ⟨rfl, HB3.out⟩
    · have h30' : (30 : Int) < (s.size : Int) := by omega
      go_wp2
      go_ret
      exact ⟨rfl, HB3.out⟩
  · have hl' : (1048576 : Int) < (len : Int) := by omega
    go_enter Try.func3, Try.ntmps3
    go_wp2
    go_ret
    exact ⟨rfl, Below.refl _ _⟩

set_option maxHeartbeats 2000000 in
theorem law_FnEncodeBack (A : Option Addr) (len cap : Nat) (w : World) (h : Coded w A len cap) : Calls Try.prog 4 #[.slice A len cap] w (Holds1 w) := by
  have HC := Lib.hid h
  clear h
  by_cases hl : len ≤ 1048576
  · have hl' : (len : Int) ≤ 1048576 := by omega
    go_enter Try.func4, Try.ntmps4
    go_wp2_with fail
    refine (draw_enc A len cap _ HC.out).mono ?_
    rintro e w1 ⟨s, hs, rfl, hb⟩
    have HB1 := Lib.hid hb
    clear hb
    obtain ⟨t, ht⟩ : ∃ t, encB s = t := ⟨_, rfl⟩
    have HT := Lib.hid ht
    have htl : t.size ≤ 40 := ht ▸ encB_le s
    clear ht
    go_wp2_with fail
    refine (ienc_at HT.out _).mono ?_
    rintro e w2 ⟨rfl, hb⟩
    have HB2 := Lib.hid (HB1.out.trans (hb.mono HB1.out.size))
    clear hb
    go_wp2_with fail
    refine (senc_at HT.out _ (by omega)).mono ?_
    rintro e w3 ⟨rfl, hb⟩
    have HB3 := Lib.hid (HB2.out.trans (hb.mono HB2.out.size))
    clear hb
    by_cases h30 : s.size ≤ 30
    · have h30' : ¬ (30 : Int) < (s.size : Int) := by omega
      have HD := Lib.hid (encB_isD HT.out h30)
      go_wp2_with fail
      refine (idec_loop HD.out _ (by omega)).mono ?_
      rintro e w4 ⟨rfl, hb⟩
      have HB4 := Lib.hid (HB3.out.trans (hb.mono HB3.out.size))
      clear hb
      go_wp2
      go_ret
      exact ⟨rfl, HB4.out⟩
    · have h30' : (30 : Int) < (s.size : Int) := by omega
      go_wp2
      go_ret
      exact ⟨rfl, HB3.out⟩
  · have hl' : (1048576 : Int) < (len : Int) := by omega
    go_enter Try.func4, Try.ntmps4
    go_wp2
    go_ret
    exact ⟨rfl, Below.refl _ _⟩

set_option maxHeartbeats 2000000 in
theorem law_FnEncodeLong (A : Option Addr) (len cap : Nat) (w : World) (h : Coded w A len cap) : Calls Try.prog 5 #[.slice A len cap] w (Holds1 w) := by
  have HC := Lib.hid h
  clear h
  by_cases hl : len ≤ 1048576
  · have hl' : (len : Int) ≤ 1048576 := by omega
    go_enter Try.func5, Try.ntmps5
    go_wp2_with fail
    refine (draw_enc A len cap _ HC.out).mono ?_
    rintro e w1 ⟨s, hs, rfl, hb⟩
    have HB1 := Lib.hid hb
    clear hb
    obtain ⟨t, ht⟩ : ∃ t, encB s = t := ⟨_, rfl⟩
    have HT := Lib.hid ht
    clear ht
    go_wp2_with fail
    refine (ienc_at HT.out _).mono ?_
    rintro e w2 ⟨rfl, hb⟩
    have HB2 := Lib.hid (HB1.out.trans (hb.mono HB1.out.size))
    clear hb
    go_wp2_with fail
    refine (senc_at HT.out _ (by omega)).mono ?_
    rintro e w3 ⟨rfl, hb⟩
    have HB3 := Lib.hid (HB2.out.trans (hb.mono HB2.out.size))
    clear hb
    by_cases h0 : s.size = 0
    · obtain ⟨e1, e2⟩ := isEmpty h0
      clear h0
      go_wp2
      go_ret
      exact ⟨rfl, HB3.out⟩
    · obtain ⟨e1, e2⟩ := noEmpty h0
      go_wp2
      go_loop [6] (fun v => ∃ x : ByteArray, v = .string x ∧ x.size ≤ 200) (fun v => match v with | .string x => 201 - x.size | _ => 0)
      case atStart => exact ⟨s, rfl, by omega⟩
      case round =>
        obtain ⟨x, rfl, hx⟩ := hrel
        by_cases h30 : x.size ≤ 30
        · have h30' : (x.size : Int) ≤ 30 := by omega
          go_wp2
          go_round
          case rel => exact ⟨x ++ s, rfl, by rw [ByteArray.size_append]; omega⟩
          case measure => simp only [ByteArray.size_append]; omega
        · have h30' : ¬ (x.size : Int) ≤ 30 := by omega
          have HX := Lib.hid (encB_no h30)
          clear h30
          go_wp2_with fail
          refine (ienc_at HX.out _).mono ?_
          rintro e w4 ⟨rfl, hb⟩
          have HB4 := Lib.hid (HB3.out.trans (hb.mono HB3.out.size))
          clear hb
          go_wp2
          go_ret
          exact ⟨rfl, HB4.out⟩
  · have hl' : (1048576 : Int) < (len : Int) := by omega
    go_enter Try.func5, Try.ntmps5
    go_wp2
    go_ret
    exact ⟨rfl, Below.refl _ _⟩

set_option maxHeartbeats 2000000 in
theorem law_FnExactBase64Encode (s : ByteArray) (w : World) (hs : s.size ≤ maxLen) : Calls Try.prog 17 #[.string s] w (Holds1 w) := by
  unfold maxLen at hs
  by_cases hb : s.size ≤ 1048576
  · have hb' : (s.size : Int) ≤ 1048576 := by omega
    obtain ⟨t, ht⟩ : ∃ t, encB s = t := ⟨_, rfl⟩
    have HT := Lib.hid ht
    clear ht
    go_enter Try.func17, Try.ntmps17
    go_wp2_with fail
    refine (senc_at HT.out _ (by omega)).mono ?_
    rintro e w1 ⟨rfl, hb1⟩
    have HB1 := Lib.hid hb1
    clear hb1
    go_wp2_with fail
    refine (ienc_at HT.out _).mono ?_
    rintro e w2 ⟨rfl, hb2⟩
    have HB2 := Lib.hid (HB1.out.trans (hb2.mono HB1.out.size))
    clear hb2
    go_wp2
    go_ret
    exact ⟨rfl, HB2.out⟩
  · have hb' : (1048576 : Int) < (s.size : Int) := by omega
    go_enter Try.func17, Try.ntmps17
    go_wp2
    go_ret
    exact ⟨rfl, Below.refl _ _⟩
set_option maxHeartbeats 2000000 in
theorem law_FnExactBase64Decode (s : ByteArray) (w : World) (hs : s.size ≤ maxLen) : Calls Try.prog 18 #[.string s] w (Holds1 w) := by
  unfold maxLen at hs
  by_cases hb : s.size ≤ 1048576
  · have hb' : (s.size : Int) ≤ 1048576 := by omega
    obtain ⟨o, x, hd⟩ := isD_any s
    have HD := Lib.hid hd
    clear hd
    go_enter Try.func18, Try.ntmps18
    go_wp2_with fail
    refine (sdec HD.out _ (by omega)).mono ?_
    rintro e w1 ⟨rfl, hb1⟩
    have HB1 := Lib.hid hb1
    clear hb1
    go_wp2_with fail
    refine (idec_loop HD.out _ (by omega)).mono ?_
    rintro e w2 ⟨rfl, hb2⟩
    have HB2 := Lib.hid (HB1.out.trans (hb2.mono HB1.out.size))
    clear hb2
    go_wp2
    go_ret
    exact ⟨rfl, HB2.out⟩
  · have hb' : (1048576 : Int) < (s.size : Int) := by omega
    go_enter Try.func18, Try.ntmps18
    go_wp2
    go_ret
    exact ⟨rfl, Below.refl _ _⟩
end Go.Proofs.Ytbdlfdeffpajbaa
