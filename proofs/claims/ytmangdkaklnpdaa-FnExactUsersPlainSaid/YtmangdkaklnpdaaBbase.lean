/-
  The contracts of spec.Base64Encode and spec.Base64Decode. No condition beyond a bound on the text's length.
-/
import Derived.Test.YtmangdkaklnpdaaBdec
namespace Go.Proofs.Ytmangdkaklnpdaa
open Go.RowKit
set_option linter.unusedVariables false

theorem bt_of (v : ByteArray) : bt v.data.toList = v := by cases v; simp [bt]
theorem bt_eq {v : ByteArray} {l : List UInt8} (h : v.data.toList = l) : v = bt l := by rw [← h, bt_of]
theorem bt_list (l : List UInt8) : (bt l).data.toList = l := rfl
theorem bt_size (l : List UInt8) : (bt l).size = l.length := rfl
/-- A text is told. -/
def Says (w : World) (t : ByteArray) (e : Ending) (w' : World) : Prop := e = .returned (.string t) ∧ Below w.heap.size w w'
/-- What the encoder gives. -/
def encB (s : ByteArray) : ByteArray := if s.size ≤ 30 then bt (enc s.data.toList) else ⟨#[]⟩
theorem encB_yes {s : ByteArray} (h : s.size ≤ 30) : encB s = bt (enc s.data.toList) := by unfold encB; rw [if_pos h]
theorem encB_no {s : ByteArray} (h : ¬ s.size ≤ 30) : encB s = ⟨#[]⟩ := by unfold encB; rw [if_neg h]
theorem encB_le (s : ByteArray) : (encB s).size ≤ 40 := by
  by_cases h : s.size ≤ 30
  · rw [encB_yes h, bt_size, enc_len]
    have : s.data.toList.length = s.size := by simp
    omega
  · rw [encB_no h]; exact Nat.zero_le _
set_option maxHeartbeats 1000000 in
theorem senc (s : ByteArray) (w : World) (hs : s.size ≤ 16777216) : Calls Try.prog 60 #[.string s] w (Says w (encB s)) := by
  by_cases h : s.size ≤ 30
  · have h1 : ¬ (30 : Int) < (s.size : Int) := by omega
    have HE := Lib.hid (encB_yes h)
    clear h
    go_enter Try.func60, Try.ntmps60
    go_wp2_with fail
    refine (encode_any s _ hs).mono ?_
    rintro e w1 ⟨rfl, hb⟩
    have HB := Lib.hid hb
    clear hb
    go_wp2
    go_ret
    exact ⟨by rw [HE.out]; rfl, HB.out⟩
  · have h1 : (30 : Int) < (s.size : Int) := by omega
    have HE := Lib.hid (encB_no h)
    clear h
    go_enter Try.func60, Try.ntmps60
    go_wp2
    go_ret
    exact ⟨by rw [HE.out]; rfl, Below.refl _ _⟩
theorem senc_at {s t : ByteArray} (h : encB s = t) (w : World) (hs : s.size ≤ 16777216) : Calls Try.prog 60 #[.string s] w (Says w t) := by
  subst h
  exact senc s w hs

/-- Bytes and whether there are any are told. -/
def Gives (w : World) (x : ByteArray) (o : Bool) (e : Ending) (w' : World) : Prop := e = .returned (.tuple #[.string x, .bool o]) ∧ Below w.heap.size w w'
/-- What a decoder tells of a text. -/
def IsD (s : ByteArray) (o : Bool) (x : ByteArray) : Prop := Dec s.data.toList o x.data.toList
theorem isD_any (s : ByteArray) : ∃ o x, IsD s o x := by
  obtain ⟨o, x, h⟩ := dec_any s.data.toList
  exact ⟨o, bt x, h⟩
theorem isD_one {s x y : ByteArray} {o p : Bool} (h : IsD s o x) (k : IsD s p y) : o = p ∧ x = y := by
  obtain ⟨h1, h2⟩ := dec_one h k
  exact ⟨h1, by rw [← bt_of x, h2, bt_of]⟩
theorem isD_le {s x : ByteArray} {o : Bool} (h : IsD s o x) : x.size ≤ 30 := by
  have hl : x.data.toList.length = x.size := by simp
  cases o
  · have h0 : x.data.toList.length = 0 := by rw [(h.2 rfl).1]; rfl
    omega
  · have := (h.1 rfl).1
    omega
theorem gives_mk {w w' : World} {s x y : ByteArray} {o p : Bool} (h : IsD s o x) (k : IsD s p y) (hb : Below w.heap.size w w') : Gives w x o (.returned (.tuple #[.string y, .bool p])) w' := by
  obtain ⟨h1, h2⟩ := isD_one h k
  subst h1
  subst h2
  exact ⟨rfl, hb⟩
theorem isD_no {s : ByteArray} (h : Dec s.data.toList false []) : IsD s false ⟨#[]⟩ := h

set_option maxRecDepth 20000 in
set_option maxHeartbeats 4000000 in
theorem sdec {s x : ByteArray} {o : Bool} (h : IsD s o x) (w : World) (hs : s.size ≤ 16777216) : Calls Try.prog 63 #[.string s] w (Gives w x o) := by
  have hl : s.data.toList.length = s.size := by simp
  have HL := Lib.hid hl
  have H := Lib.hid h
  clear hl h
  by_cases h1 : 40 < s.size
  · have h1' : (40 : Int) < (s.size : Int) := by omega
    have HN := Lib.hid (isD_no (dec_long (by rw [HL.out]; exact h1)))
    go_enter Try.func63, Try.ntmps63
    go_wp2
    go_ret2
    exact gives_mk H.out HN.out (Below.refl _ _)
  · have h1' : ¬ (40 : Int) < (s.size : Int) := by omega
    by_cases h2 : s.size % 4 = 0
    · have h2' : (((s.size : Int) % 4) != 0) = false := by simp; omega
      obtain ⟨A, hA⟩ : ∃ A, bt (dl s.data.toList) = A := ⟨_, rfl⟩
      have hAl : A.data.toList = dl s.data.toList := by rw [← hA]; rfl
      have hAs : A.size = (dl s.data.toList).length := by rw [← hA]; rfl
      have hA30 : A.size ≤ 30 := by rw [hAs, dl_len, HL.out]; omega
      have HA := Lib.hid hA
      have HAL := Lib.hid hAl
      have HAS := Lib.hid hAs
      clear hA hAl hAs
      go_enter Try.func63, Try.ntmps63
      go_wp2_with fail
      refine (decode_any s _ hs).mono ?_
      rintro e w1 ⟨rfl, hb⟩
      rw [HA.out]
      have HB1 := Lib.hid hb
      clear hb
      go_wp2
      go_loopw [5] (fun i wr => ∃ (k : Nat), k ≤ 3 ∧ k ≤ A.size + 1 ∧ i = .int .i64 (k : Int) ∧ Below w.heap.size w wr ∧ Hid (∀ m, m < k → m ≤ A.size → enc ((dl s.data.toList).take (A.size - m)) ≠ s.data.toList)) (fun i _ => 4 - (intOf i).toNat)
      case atStart => exact ⟨0, by omega, by omega, by go_num, HB1.out, fun m hm => absurd hm (by omega)⟩
      case round =>
        obtain ⟨k, hk, hk2, rfl, hbel, HM⟩ := hrel
        have HB := Lib.hid hbel
        have hz := hbel.size
        clear hbel
        by_cases hin : k ≤ 2 ∧ k ≤ A.size
        · obtain ⟨hk3, hk4⟩ := hin
          have c1 : (k : Int) ≤ 2 := by omega
          have c2 : (k : Int) ≤ (A.size : Int) := by omega
          obtain ⟨q, hq⟩ : ∃ q, A.size - k = q := ⟨_, rfl⟩
          have E1 : (A.size : Int) - (k : Int) = (q : Int) := by omega
          have c3 : (0 : Int) ≤ (q : Int) := by omega
          have c4 : (q : Int) ≤ (A.size : Int) := by omega
          have hql : q ≤ A.size := by omega
          have HQ := Lib.hid hq
          clear hq
          have hes : (A.extract 0 q).size ≤ 16777216 := by rw [ByteArray.size_extract]; omega
          have hel : (A.extract 0 q).data.toList = (dl s.data.toList).take q := by rw [extract_list, HAL.out]; simp
          obtain ⟨t, ht⟩ : ∃ t, bt (enc (A.extract 0 q).data.toList) = t := ⟨_, rfl⟩
          by_cases he : enc ((dl s.data.toList).take q) = s.data.toList
          · have hq2 : (t.toList == s.toList) = true := by
              rw [ByteArray.toList_eq, ByteArray.toList_eq, ← ht, bt_list, hel, he]
              exact beq_self_eq_true _
            have hd : IsD s true (A.extract 0 q) := by
              unfold IsD
              rw [hel]
              exact dec_hit (by rw [HL.out]; omega) he
            have HD := Lib.hid hd
            have HT := Lib.hid ht
            have HES := Lib.hid hes
            clear hd ht hel he hes
            go_wp2_with fail
            refine (encode_any (A.extract 0 q) _ HES.out).mono ?_
            rintro e w2 ⟨rfl, hb⟩
            rw [HT.out]
            have HB2 := Lib.hid (HB.out.trans (hb.mono hz))
            clear hb
            go_wp2
            go_ret2
            exact gives_mk H.out HD.out HB2.out
          · have hq2 : (t.toList == s.toList) = false := by
              rw [ByteArray.toList_eq, ByteArray.toList_eq, ← ht, bt_list, hel]
              exact beq_eq_false_iff_ne.2 he
            have HNE := Lib.hid he
            have HT := Lib.hid ht
            have HES := Lib.hid hes
            clear ht hel he hes
            go_wp2_with fail
            refine (encode_any (A.extract 0 q) _ HES.out).mono ?_
            rintro e w2 ⟨rfl, hb⟩
            rw [HT.out]
            have HB2 := Lib.hid (HB.out.trans (hb.mono hz))
            clear hb
            go_wp2
            go_roundw
            case rel =>
              refine ⟨k + 1, by omega, by omega, by go_num, HB2.out, fun m hm hmA => ?_⟩
              rcases Nat.lt_or_ge m k with hlt | hge
              · exact HM.out m hlt hmA
              · have : m = k := by omega
                subst this
                rw [HQ.out]
                exact HNE.out
            case measure => simp [intOf]; omega
        · have hmiss : IsD s false ⟨#[]⟩ := isD_no (dec_miss (fun m hm hmA => by
            rw [← HAS.out] at hmA ⊢
            exact HM.out m (by omega) hmA))
          have HN := Lib.hid hmiss
          clear hmiss
          by_cases c1 : k ≤ 2
          · have c1' : (k : Int) ≤ 2 := by omega
            have c2 : ¬ (k : Int) ≤ (A.size : Int) := by omega
            have c2' : ¬ k ≤ A.size := by omega
            go_wp2
            go_ret2
            exact gives_mk H.out HN.out HB.out
          · have c1' : ¬ (k : Int) ≤ 2 := by omega
            go_wp2
            go_ret2
            exact gives_mk H.out HN.out HB.out
    · have h2' : (((s.size : Int) % 4) != 0) = true := by simp; omega
      have HN := Lib.hid (isD_no (dec_len (by rw [HL.out]; exact h2)))
      go_enter Try.func63, Try.ntmps63
      go_wp2
      go_ret2
      exact gives_mk H.out HN.out (Below.refl _ _)
end Go.Proofs.Ytmangdkaklnpdaa
