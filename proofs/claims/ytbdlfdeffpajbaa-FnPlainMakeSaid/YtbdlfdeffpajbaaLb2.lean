/-
  The walks of further laws on base64. Condition: the codes can be read.
-/
import Derived.Test.YtbdlfdeffpajbaaLb1
namespace Go.Proofs.Ytbdlfdeffpajbaa
open Go.RowKit
set_option linter.unusedVariables false

theorem below_drew {B : Nat} {a w : World} (h : Below B a w) : Below B a w.drew := ⟨h.os, h.tape, h.output, h.size, h.block⟩
theorem encB_ends {s t : ByteArray} (h : encB s = t) (h0 : t.size ≠ 0) :
    ∃ (n1 n2 : Nat) (h1 : n1 < t.size) (h2 : n2 < t.size), n1 + 1 = t.size ∧ n2 + 2 = t.size ∧ (t[n1] = 61 ↔ s.size % 3 ≠ 0) ∧ (t[n2] = 61 ↔ s.size % 3 = 1) := by
  have hl : s.data.toList.length = s.size := by simp
  have hs : s.size ≤ 30 := by
    refine Nat.le_of_not_lt fun hc => h0 ?_
    rw [← h, encB_no (by omega)]
    rfl
  have hne : s.data.toList ≠ [] := by
    intro e
    refine h0 ?_
    rw [← h, encB_yes hs, e]
    rfl
  obtain ⟨p, x, y, he, hy, hx⟩ := enc_last _ hne
  have hts : t.data.toList = p ++ [x, y] := by rw [← h, encB_yes hs, bt_list, he]
  have htl : t.size = p.length + 2 := by
    have := congrArg List.length hts
    simpa using this
  refine ⟨p.length + 1, p.length, by omega, by omega, by omega, by omega, ?_, ?_⟩
  · rw [← byte_at (s := t) (k := p.length + 1) (by omega)]
    have : t.data.toList[p.length + 1]'(by simp; omega) = y := by
      have h2 : t.data.toList[p.length + 1]? = some y := by rw [hts, List.getElem?_append_right (by omega)]; simp
      rw [List.getElem?_eq_getElem (by simp; omega)] at h2
      exact Option.some.inj h2
    rw [this, hy, hl]
  · rw [← byte_at (s := t) (k := p.length) (by omega)]
    have : t.data.toList[p.length]'(by simp; omega) = x := by
      have h2 : t.data.toList[p.length]? = some x := by rw [hts, List.getElem?_append_right (by omega)]; simp
      rw [List.getElem?_eq_getElem (by simp; omega)] at h2
      exact Option.some.inj h2
    rw [this, hx, hl]
theorem eq61 {c : UInt8} {P : Prop} (h : c = 61 ↔ P) (hp : P) : ((c.toNat : Int) == 61) = true := by rw [h.2 hp]; rfl
theorem ne61' {c : UInt8} {P : Prop} (h : c = 61 ↔ P) (hp : ¬ P) : ((c.toNat : Int) == 61) = false := by
  have hc : c ≠ 61 := fun e => hp (h.1 e)
  have : c.toNat ≠ 61 := fun e => hc (UInt8.toNat_inj.1 e)
  simp; omega

set_option maxHeartbeats 2000000 in
theorem law_FnEncodeEqual (A : Option Addr) (len cap : Nat) (w : World) (h : Coded w A len cap) : Calls Try.prog 7 #[.slice A len cap] w (Holds1 w) := by
  have HC := Lib.hid h
  clear h
  by_cases hl : len ≤ 1048576
  · have hl' : (len : Int) ≤ 1048576 := by omega
    go_enter Try.func7, Try.ntmps7
    go_wp2_with fail
    refine (draw_enc A len cap _ HC.out).mono ?_
    rintro e w1 ⟨s, hs, rfl, hb⟩
    have HB1 := Lib.hid hb
    clear hb
    obtain ⟨t, ht⟩ : ∃ t, encB s = t := ⟨_, rfl⟩
    have HT := Lib.hid ht
    have htl : t.size ≤ 40 := ht ▸ encB_le s
    clear ht
    go_wp2_with fail
    refine (ienc_at HT.out _).mono ?_
    rintro e w2 ⟨rfl, hb⟩
    have HB2 := Lib.hid (HB1.out.trans (hb.mono HB1.out.size))
    clear hb
    go_wp2_with fail
    refine (senc_at HT.out _ (by omega)).mono ?_
    rintro e w3 ⟨rfl, hb⟩
    have HB3 := Lib.hid (HB2.out.trans (hb.mono HB2.out.size))
    clear hb
    by_cases h0 : t.size = 0
    · obtain ⟨e1, e2⟩ := isEmpty h0
      clear h0
      go_wp2
      go_ret
      exact ⟨rfl, HB3.out⟩
    · obtain ⟨e1, e2⟩ := noEmpty h0
      obtain ⟨n1, n2, g1, g2, hn1, hn2, hy, hx⟩ := encB_ends HT.out h0
      have E1 : (t.size : Int) - 1 = (n1 : Int) := by omega
      have E2 : (t.size : Int) - 2 = (n2 : Int) := by omega
      have b1 : (0 : Int) ≤ (n1 : Int) := by omega
      have b2 : (0 : Int) ≤ (n2 : Int) := by omega
      have c1 : (n1 : Int) < (t.size : Int) := by omega
      have c2 : (n2 : Int) < (t.size : Int) := by omega
      have d1 : (1 : Int) ≤ (t.size : Int) := by omega
      have d2 : (2 : Int) ≤ (t.size : Int) := by omega
      have hm : s.size % 3 < 3 := Nat.mod_lt _ (by omega)
      rcases (by omega : s.size % 3 = 0 ∨ s.size % 3 = 1 ∨ s.size % 3 = 2) with h3 | h3 | h3
      · have q1 := ne61' hy (by omega)
        have q2 := ne61' hx (by omega)
        have m1 : ((s.size : Int) % 3 != 0) = false := by simp; omega
        have m2 : ((s.size : Int) % 3 == 1) = false := by simp; omega
        clear hy hx hn1 hn2 h3
        go_wp2
        go_ret
        exact ⟨rfl, HB3.out⟩
      · have q1 := eq61 hy (by omega)
        have q2 := eq61 hx (by omega)
        have m1 : ((s.size : Int) % 3 != 0) = true := by simp; omega
        have m2 : ((s.size : Int) % 3 == 1) = true := by simp; omega
        clear hy hx hn1 hn2 h3
        go_wp2
        go_ret
        exact ⟨rfl, HB3.out⟩
      · have q1 := eq61 hy (by omega)
        have q2 := ne61' hx (by omega)
        have m1 : ((s.size : Int) % 3 != 0) = true := by simp; omega
        have m2 : ((s.size : Int) % 3 == 1) = false := by simp; omega
        clear hy hx hn1 hn2 h3
        go_wp2
        go_ret
        exact ⟨rfl, HB3.out⟩
  · have hl' : (1048576 : Int) < (len : Int) := by omega
    go_enter Try.func7, Try.ntmps7
    go_wp2
    go_ret
    exact ⟨rfl, Below.refl _ _⟩

theorem encB_join {s t : ByteArray} {m : Nat} (h : encB s = t) (hs : s.size ≤ 30) (hm : m ≤ s.size) (h3 : m % 3 = 0) : ((encB (s.extract 0 m) ++ encB (s.extract m s.size)).toList == t.toList) = true := by
  rw [beq_iff_eq, toList_iff]
  have hl : s.data.toList.length = s.size := by simp
  have e1 : (s.extract 0 m).data.toList = s.data.toList.take m := by rw [extract_list]; simp
  have e2 : (s.extract m s.size).data.toList = s.data.toList.drop m := by rw [extract_list]; exact List.take_of_length_le (by simp)
  rw [encB_yes (by rw [ByteArray.size_extract]; omega), encB_yes (by rw [ByteArray.size_extract]; omega), ← h, encB_yes hs, e1, e2]
  have h4 : enc s.data.toList = enc (s.data.toList.take m) ++ enc (s.data.toList.drop m) := by
    conv => lhs; rw [← List.take_append_drop m s.data.toList]
    exact enc_app _ _ (by rw [List.length_take, hl, Nat.min_eq_left hm]; exact h3)
  rw [h4, ← bt_of (bt (enc (s.data.toList.take m)) ++ bt (enc (s.data.toList.drop m))), cat_list]
  rfl

set_option maxHeartbeats 4000000 in
theorem law_FnEncodeJoin (A : Option Addr) (len cap : Nat) (A2 : Option Addr) (len2 cap2 : Nat) (w : World) (h : Coded w A len cap) (h2 : Coded w A2 len2 cap2) : Calls Try.prog 6 #[.slice A len cap, .slice A2 len2 cap2] w (Holds1 w) := by
  have HC := Lib.hid h
  clear h h2
  by_cases hl : len ≤ 1048576
  · have hl' : (len : Int) ≤ 1048576 := by omega
    have hl3 : decide ((1048576 : Int) < (len : Int)) = false := decide_eq_false (by omega)
    by_cases hl2 : len2 ≤ 1048576
    · have hl2' : (len2 : Int) ≤ 1048576 := by omega
      have hl2'' : decide ((1048576 : Int) < (len2 : Int)) = false := decide_eq_false (by omega)
      go_enter Try.func6, Try.ntmps6
      go_wp2_with fail
      refine (draw_enc A len cap _ HC.out).mono ?_
      rintro e w1 ⟨s, hs, rfl, hb⟩
      have HB1 := Lib.hid hb
      clear hb
      obtain ⟨t, ht⟩ : ∃ t, encB s = t := ⟨_, rfl⟩
      have HT := Lib.hid ht
      have htl : t.size ≤ 40 := ht ▸ encB_le s
      clear ht
      go_wp2_with fail
      refine (ienc_at HT.out _).mono ?_
      rintro e w2 ⟨rfl, hb⟩
      have HB2 := Lib.hid (HB1.out.trans (hb.mono HB1.out.size))
      clear hb
      go_wp2_with fail
      refine (senc_at HT.out _ (by omega)).mono ?_
      rintro e w3 ⟨rfl, hb⟩
      have HB3 := Lib.hid (below_drew (HB2.out.trans (hb.mono HB2.out.size)))
      have HB4 := Lib.hid (HB2.out.trans (hb.mono HB2.out.size))
      clear hb
      by_cases h30 : s.size ≤ 30
      · have h30' : ¬ (30 : Int) < (s.size : Int) := by omega
        have h30'' : decide ((30 : Int) < (s.size : Int)) = false := decide_eq_false h30'
        obtain ⟨d, hd⟩ : ∃ d, s.size / 3 = d := ⟨_, rfl⟩
        obtain ⟨d1, hd1⟩ : ∃ d1, d + 1 = d1 := ⟨_, rfl⟩
        obtain ⟨r, hr⟩ : ∃ r, len2 % d1 = r := ⟨_, rfl⟩
        obtain ⟨m, hm⟩ : ∃ m, r * 3 = m := ⟨_, rfl⟩
        have hr1 : r < d1 := hr ▸ Nat.mod_lt _ (by omega)
        have E0 : (s.size : Int) / 3 = (d : Int) := by omega
        have E1 : (d : Int) + 1 = (d1 : Int) := by omega
        have E2 : (len2 : Int) % (d1 : Int) = (r : Int) := by rw [← hr]; simp
        have E3 : (r : Int) * 3 = (m : Int) := by omega
        have p1 : (1 : Int) ≤ (d1 : Int) := by omega
        have p2 : ((d1 : Int) == 0) = false := by simp; omega
        have p3 : (r : Int) ≤ 10 := by omega
        have p4 : (0 : Int) ≤ (r : Int) := by omega
        have p5 : (d : Int) ≤ 10 := by omega
        have p6 : (0 : Int) ≤ (d : Int) := by omega
        have m0 : (0 : Int) ≤ (m : Int) := by omega
        have m1 : (m : Int) ≤ (s.size : Int) := by omega
        have hq := encB_join (m := m) HT.out h30 (by omega) (by omega)
        have s1 := encB_le (s.extract 0 m)
        have s2 := encB_le (s.extract m s.size)
        clear hd hd1 hr hm hr1
        go_wp2
        go_region_with ((go_at_call 22; refine (ienc _ _).mono ?_; rintro e w5 ⟨rfl, hb⟩; have HBX := Lib.hid (HB3.out.trans (hb.mono HB3.out.size)); clear hb HB3; have HB3 := HBX; clear HBX))
        all_goals
          go_wp2
          go_ret
          exact ⟨rfl, HB3.out⟩
      · have h30' : (30 : Int) < (s.size : Int) := by omega
        go_wp2
        go_ret
        exact ⟨rfl, HB4.out⟩
    · have hl2' : (1048576 : Int) < (len2 : Int) := by omega
      go_enter Try.func6, Try.ntmps6
      go_wp2
      go_ret
      exact ⟨rfl, Below.refl _ _⟩
  · have hl' : (1048576 : Int) < (len : Int) := by omega
    go_enter Try.func6, Try.ntmps6
    go_wp2
    go_ret
    exact ⟨rfl, Below.refl _ _⟩
end Go.Proofs.Ytbdlfdeffpajbaa
