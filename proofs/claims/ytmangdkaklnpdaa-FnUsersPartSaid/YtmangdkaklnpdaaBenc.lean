/-
  The contract of the model's encoder of base64. No condition beyond a bound on the text's length.
-/
import Derived.Test.YtmangdkaklnpdaaBspec
namespace Go.Proofs.Ytmangdkaklnpdaa
open Go.RowKit
set_option linter.unusedVariables false

theorem Try.infoByte : (Try.prog.info? 5).map (fun i => (i.zero, i.size, i.bytes)) = some (some (.int .u8 0), 1, 1) := by kernel_rfl
/-- The bytes 'l' as a text. -/
def bt (l : List UInt8) : ByteArray := ⟨l.toArray⟩
theorem byte_at {s : ByteArray} {k : Nat} (h : k < s.size) : s.data.toList[k]'(by simpa using h) = s[k] := rfl
theorem drop1 {s : ByteArray} (k : Nat) (h : k < s.size) : s.data.toList.drop k = s[k] :: s.data.toList.drop (k + 1) := by
  rw [List.drop_eq_getElem_cons (by simpa using h)]
  rfl
theorem drop3 {s : ByteArray} (k : Nat) (h : k + 3 ≤ s.size) : s.data.toList.drop k = s[k] :: s[k + 1] :: s[k + 2] :: s.data.toList.drop (k + 3) := by
  rw [drop1 k (by omega), drop1 (k + 1) (by omega), drop1 (k + 2) (by omega)]
theorem drop_one {s : ByteArray} (k : Nat) (h : k + 1 = s.size) : s.data.toList.drop k = [s[k]] := by
  rw [drop1 k (by omega), List.drop_eq_nil_of_le (by simp; omega)]
theorem drop_two {s : ByteArray} (k : Nat) (h : k + 2 = s.size) : s.data.toList.drop k = [s[k], s[k + 1]] := by
  rw [drop1 k (by omega), drop_one (k + 1) (by omega)]
set_option maxRecDepth 20000 in
set_option maxHeartbeats 4000000 in
theorem encode_any (s : ByteArray) (w : World) (hs : s.size ≤ 16777216) :
    Calls Try.prog 62 #[.string s] w fun e w' => e = .returned (.string (bt (enc s.data.toList))) ∧ Below w.heap.size w w' := by
  have hl : s.data.toList.length = s.size := by simp
  have HL := Lib.hid hl
  clear hl
  obtain ⟨i0, hi, hz0, hz1, hz2⟩ := info_parts Try.infoByte
  go_enter Try.func62, Try.ntmps62
  go_wp2
  go_loopw [3, 4, 5] (fun v i n wr => ∃ (k : Nat) (P : List UInt8), k ≤ s.size + 2 ∧ i = .int .i64 (k : Int) ∧ wr.ownsRow w.heap.size 5 1 v P.length (Lib.byteCells P) ∧ Below w.heap.size w wr ∧ Hid (enc s.data.toList = P ++ enc (s.data.toList.drop k)))
    (fun _ i _ _ => s.size + 2 - (intOf i).toNat)
  case atStart =>
    exact ⟨0, [], by omega, by go_num, World.ownsRow_lit w #[] 0 (Nat.le_refl _) (by unfold maxLen; omega) rfl, (Below.refl _ _).alloc (Nat.le_refl _) _, rfl⟩
  case round =>
    obtain ⟨k, P, hk, rfl, hown, hbel, HE⟩ := hrel
    have hz := hbel.size
    have HB := Lib.hid hbel
    clear hbel
    by_cases hlt : k < s.size
    · have h0 : (0 : Int) ≤ (k : Int) := by omega
      have h1 : (k : Int) < (s.size : Int) := by omega
      have h2 : (k : Int) ≤ (s.size : Int) := by omega
      have b0 : (s[k].toNat : Int) ≤ 255 := by have := s[k].toNat_lt; omega
      have b0' : (0 : Int) ≤ (s[k].toNat : Int) := by omega
      by_cases hr3 : k + 3 ≤ s.size
      · obtain ⟨k1, hk1⟩ : ∃ k1, k1 = k + 1 := ⟨_, rfl⟩
        obtain ⟨k2, hk2⟩ : ∃ k2, k2 = k + 2 := ⟨_, rfl⟩
        have E1 : (k : Int) + 1 = (k1 : Int) := by omega
        have E2 : (k : Int) + 2 = (k2 : Int) := by omega
        have hlt1 : k1 < s.size := by omega
        have h11 : (0 : Int) ≤ (k1 : Int) := by omega
        have h12 : (k1 : Int) < (s.size : Int) := by omega
        have b1 : (s[k1].toNat : Int) ≤ 255 := by have := s[k1].toNat_lt; omega
        have b1' : (0 : Int) ≤ (s[k1].toNat : Int) := by omega
        have hlt2 : k2 < s.size := by omega
        have h21 : (0 : Int) ≤ (k2 : Int) := by omega
        have h22 : (k2 : Int) < (s.size : Int) := by omega
        have b2 : (s[k2].toNat : Int) ≤ 255 := by have := s[k2].toNat_lt; omega
        have b2' : (0 : Int) ≤ (s[k2].toNat : Int) := by omega
        obtain ⟨N, hN⟩ : ∃ N, N = n24 s[k] s[k1] s[k2] := ⟨_, rfl⟩
        have z0 : (0 : UInt8).toNat = 0 := rfl
        have EN : 65536 * (s[k].toNat : Int) + 256 * (s[k1].toNat : Int) + (s[k2].toNat : Int) = (N : Int) := by rw [hN]; unfold n24; omega
        have hNl : N < 16777216 := by rw [hN]; exact n24_lt _ _ _
        obtain ⟨m0, hm0⟩ : ∃ m, m = N / 262144 := ⟨_, rfl⟩
        obtain ⟨m1, hm1⟩ : ∃ m, m = N / 4096 % 64 := ⟨_, rfl⟩
        obtain ⟨m2, hm2⟩ : ∃ m, m = N / 64 % 64 := ⟨_, rfl⟩
        obtain ⟨m3, hm3⟩ : ∃ m, m = N % 64 := ⟨_, rfl⟩
        have D0 : (N : Int) / 262144 = (m0 : Int) := by omega
        have D1 : (N : Int) / 4096 % 64 = (m1 : Int) := by omega
        have D2 : (N : Int) / 64 % 64 = (m2 : Int) := by omega
        have D3 : (N : Int) % 64 = (m3 : Int) := by omega
        have hP : P.length ≤ 2 * s.size + 10 := by have h := congrArg List.length HE.out; rw [enc_len, List.length_append, HL.out] at h; omega
        have H0 := Lib.hid hm0
        have H1 := Lib.hid hm1
        have H2 := Lib.hid hm2
        have H3 := Lib.hid hm3
        have HN := Lib.hid hN
        have HK1 := Lib.hid hk1
        have HK2 := Lib.hid hk2
        have l0 : m0 < 64 := by omega
        have l1 : m1 < 64 := by omega
        have l2 : m2 < 64 := by omega
        have l3 : m3 < 64 := by omega
        clear hk1 hk2 hN hm0 hm1 hm2 hm3 z0
        go_wp2_with fail
        refine (letter_at m0 l0 _).mono ?_
        rintro e w1 ⟨rfl, rfl⟩
        go_wp2_with fail
        refine (letter_at m1 l1 _).mono ?_
        rintro e w1 ⟨rfl, rfl⟩
        go_wp2_with fail
        refine (letter_at m2 l2 _).mono ?_
        rintro e w1 ⟨rfl, rfl⟩
        go_wp2_with fail
        refine (letter_at m3 l3 _).mono ?_
        rintro e w1 ⟨rfl, rfl⟩
        go_wp2_with (at_builtin; refine wpList_append_own _ rfl _ _ 22 rfl w.heap.size 5 i0 (.int .u8 0) 1 1 Try.underlying22 hi hz0 hz1 hz2 rfl (by decide) _ _ _ rfl (hown.alloc _) _ 4 4 [.int .u8 ((sig m0).toNat : Int), .int .u8 ((sig m1).toNat : Int), .int .u8 ((sig m2).toNat : Int), .int .u8 ((sig m3).toNat : Int)] rfl rfl ?c1 ?c2 ?c3 ?c4 ?c5 ?_)
        case c1 =>
          intro j u hj
          match j, hj with
          | 0, hj => simp at hj; subst hj; simp [Addr.add]
          | 1, hj => simp at hj; subst hj; simp [Addr.add]
          | 2, hj => simp at hj; subst hj; simp [Addr.add]
          | 3, hj => simp at hj; subst hj; simp [Addr.add]
        case c2 =>
          intro u hu
          simp only [List.mem_cons, List.not_mem_nil, or_false] at hu
          rcases hu with rfl | rfl | rfl | rfl <;> rfl
        case c3 => unfold maxLen; omega
        case c4 => omega
        case c5 => simp; omega
        intro v' w1 hown1 hgrow _
        have hbl := (HB.out.alloc hz (.cells #[.int .u8 ((sig m0).toNat : Int), .int .u8 ((sig m1).toNat : Int), .int .u8 ((sig m2).toNat : Int), .int .u8 ((sig m3).toNat : Int)] 5)).grown hgrow (by simp; omega) (fun q hq => (hown.lt q hq).1)
        have HO := Lib.hid hown1
        have HBL := Lib.hid hbl
        clear hown1 hgrow hbl hown
        go_wp2
        go_roundw
        case rel =>
          refine ⟨k + 3, P ++ [sig m0, sig m1, sig m2, sig m3], by omega, by go_num, by simpa [Lib.byteCells] using HO.out, HBL.out, ?_⟩
          have hE := HE.out
          rw [drop3 k hr3, enc_more] at hE
          have e1 := HK1.out
          have e2 := HK2.out
          subst e1
          subst e2
          show enc s.data.toList = _
          rw [hE, H0.out, H1.out, H2.out, H3.out, HN.out]
          simp [q0, q1, q2, q3]
        case measure => simp [intOf]; omega
      · by_cases hr2 : k + 2 = s.size
        · obtain ⟨k1, hk1⟩ : ∃ k1, k1 = k + 1 := ⟨_, rfl⟩
          obtain ⟨k2, hk2⟩ : ∃ k2, k2 = k + 2 := ⟨_, rfl⟩
          have E1 : (k : Int) + 1 = (k1 : Int) := by omega
          have E2 : (k : Int) + 2 = (k2 : Int) := by omega
          have hlt1 : k1 < s.size := by omega
          have h11 : (0 : Int) ≤ (k1 : Int) := by omega
          have h12 : (k1 : Int) < (s.size : Int) := by omega
          have b1 : (s[k1].toNat : Int) ≤ 255 := by have := s[k1].toNat_lt; omega
          have b1' : (0 : Int) ≤ (s[k1].toNat : Int) := by omega
          have h22 : ¬ (k2 : Int) < (s.size : Int) := by omega
          have h23 : (s.size : Int) ≤ (k2 : Int) := by omega
          obtain ⟨N, hN⟩ : ∃ N, N = n24 s[k] s[k1] 0 := ⟨_, rfl⟩
          have z0 : (0 : UInt8).toNat = 0 := rfl
          have EN : 65536 * (s[k].toNat : Int) + 256 * (s[k1].toNat : Int) = (N : Int) := by rw [hN]; unfold n24; omega
          have hNl : N < 16777216 := by rw [hN]; exact n24_lt _ _ _
          obtain ⟨m0, hm0⟩ : ∃ m, m = N / 262144 := ⟨_, rfl⟩
          obtain ⟨m1, hm1⟩ : ∃ m, m = N / 4096 % 64 := ⟨_, rfl⟩
          obtain ⟨m2, hm2⟩ : ∃ m, m = N / 64 % 64 := ⟨_, rfl⟩
          obtain ⟨m3, hm3⟩ : ∃ m, m = N % 64 := ⟨_, rfl⟩
          have D0 : (N : Int) / 262144 = (m0 : Int) := by omega
          have D1 : (N : Int) / 4096 % 64 = (m1 : Int) := by omega
          have D2 : (N : Int) / 64 % 64 = (m2 : Int) := by omega
          have D3 : (N : Int) % 64 = (m3 : Int) := by omega
          have hP : P.length ≤ 2 * s.size + 10 := by have h := congrArg List.length HE.out; rw [enc_len, List.length_append, HL.out] at h; omega
          have H0 := Lib.hid hm0
          have H1 := Lib.hid hm1
          have H2 := Lib.hid hm2
          have H3 := Lib.hid hm3
          have HN := Lib.hid hN
          have HK1 := Lib.hid hk1
          have HK2 := Lib.hid hk2
          have l0 : m0 < 64 := by omega
          have l1 : m1 < 64 := by omega
          have l2 : m2 < 64 := by omega
          have l3 : m3 < 64 := by omega
          clear hk1 hk2 hN hm0 hm1 hm2 hm3 z0
          go_wp2_with fail
          refine (letter_at m0 l0 _).mono ?_
          rintro e w1 ⟨rfl, rfl⟩
          go_wp2_with fail
          refine (letter_at m1 l1 _).mono ?_
          rintro e w1 ⟨rfl, rfl⟩
          go_wp2_with fail
          refine (letter_at m2 l2 _).mono ?_
          rintro e w1 ⟨rfl, rfl⟩
          go_wp2_with fail
          refine (letter_at m3 l3 _).mono ?_
          rintro e w1 ⟨rfl, rfl⟩
          go_wp2_with (at_builtin; refine wpList_append_own _ rfl _ _ 22 rfl w.heap.size 5 i0 (.int .u8 0) 1 1 Try.underlying22 hi hz0 hz1 hz2 rfl (by decide) _ _ _ rfl (hown.alloc _) _ 4 4 [.int .u8 ((sig m0).toNat : Int), .int .u8 ((sig m1).toNat : Int), .int .u8 ((sig m2).toNat : Int), .int .u8 ((sig m3).toNat : Int)] rfl rfl ?c1 ?c2 ?c3 ?c4 ?c5 ?_)
          case c1 =>
            intro j u hj
            match j, hj with
            | 0, hj => simp at hj; subst hj; simp [Addr.add]
            | 1, hj => simp at hj; subst hj; simp [Addr.add]
            | 2, hj => simp at hj; subst hj; simp [Addr.add]
            | 3, hj => simp at hj; subst hj; simp [Addr.add]
          case c2 =>
            intro u hu
            simp only [List.mem_cons, List.not_mem_nil, or_false] at hu
            rcases hu with rfl | rfl | rfl | rfl <;> rfl
          case c3 => unfold maxLen; omega
          case c4 => omega
          case c5 => simp; omega
          intro v' w1 hown1 hgrow _
          have hbl := (HB.out.alloc hz (.cells #[.int .u8 ((sig m0).toNat : Int), .int .u8 ((sig m1).toNat : Int), .int .u8 ((sig m2).toNat : Int), .int .u8 ((sig m3).toNat : Int)] 5)).grown hgrow (by simp; omega) (fun q hq => (hown.lt q hq).1)
          obtain ⟨z, hz4⟩ : ∃ z, P.length + 4 = z := ⟨_, rfl⟩
          rw [hz4] at hown1
          obtain ⟨g, cap, rfl, hg1, hg2⟩ := hown1.form (by omega)
          obtain ⟨p1, hp1⟩ : ∃ p, p + 1 = z := ⟨P.length + 3, by omega⟩
          have F1 : (z : Int) - 1 = (p1 : Int) := by omega
          have F1a : (0 : Int) ≤ (p1 : Int) := by omega
          have F1b : (p1 : Int) < (z : Int) := by omega
          have F1c : (p1 : Int) ≤ 100000000 := by omega
          have hc1 : w1.cell? ⟨g, p1, none⟩ = some (.int .u8 ((sig m3).toNat : Int)) := by
            rw [hown1.cellAt p1 (by omega)]
            have : p1 = (Lib.byteCells P).length + 3 := by rw [Lib.byteCells_length]; omega
            rw [this, List.getElem?_append_right (by omega)]
            simp
          have hf1 := hown1.frozenAt p1
          have hst := (hown1.stored p1 (.int .u8 61)).1
          have hb2 := hbl.setCell (p := ⟨g, p1, none⟩) hg1 (.int .u8 61)
          have hrow : Lib.byteCells (P ++ [sig m0, sig m1, sig m2, 61]) = (Lib.byteCells P ++ [Value.int .u8 ((sig m0).toNat : Int), .int .u8 ((sig m1).toNat : Int), .int .u8 ((sig m2).toNat : Int), .int .u8 ((sig m3).toNat : Int)]).set p1 (.int .u8 61) := by
            have e : p1 = (Lib.byteCells P).length + 3 := by rw [Lib.byteCells_length]; omega
            rw [e, List.set_append_right _ _ (by omega)]
            simp [Lib.byteCells]
          rw [← hrow] at hst
          have HO := Lib.hid hst
          have HBL := Lib.hid hb2
          have HZ4 := Lib.hid hz4
          clear hst hb2 hbl hown1 hgrow hown hrow hz4 hp1
          have HR2 := Lib.hid (show k + 2 = s.size by omega)
          clear hr2 hr3 hP hg1 hg2
          go_wp2
          go_roundw
          case rel =>
            refine ⟨k + 3, P ++ [sig m0, sig m1, sig m2, 61], by omega, by go_num, ?_, HBL.out, ?_⟩
            · have h := HO.out
              have hl : (P ++ [sig m0, sig m1, sig m2, 61]).length = z := by rw [List.length_append]; exact HZ4.out
              rw [hl]
              exact h
            · have hE := HE.out
              have e1 := HK1.out
              subst e1
              rw [drop_two k HR2.out, enc_two] at hE
              show enc s.data.toList = _
              rw [hE, List.drop_eq_nil_of_le (by rw [HL.out]; have := HR2.out; omega), H0.out, H1.out, H2.out, HN.out, enc_nil, List.append_nil]
              rfl
          case measure => simp [intOf]; omega
        · obtain ⟨k1, hk1⟩ : ∃ k1, k1 = k + 1 := ⟨_, rfl⟩
          obtain ⟨k2, hk2⟩ : ∃ k2, k2 = k + 2 := ⟨_, rfl⟩
          have E1 : (k : Int) + 1 = (k1 : Int) := by omega
          have E2 : (k : Int) + 2 = (k2 : Int) := by omega
          have h12 : ¬ (k1 : Int) < (s.size : Int) := by omega
          have h13 : (s.size : Int) ≤ (k1 : Int) := by omega
          have h22 : ¬ (k2 : Int) < (s.size : Int) := by omega
          have h23 : (s.size : Int) ≤ (k2 : Int) := by omega
          obtain ⟨N, hN⟩ : ∃ N, N = n24 s[k] 0 0 := ⟨_, rfl⟩
          have z0 : (0 : UInt8).toNat = 0 := rfl
          have EN : 65536 * (s[k].toNat : Int) = (N : Int) := by rw [hN]; unfold n24; omega
          have hNl : N < 16777216 := by rw [hN]; exact n24_lt _ _ _
          obtain ⟨m0, hm0⟩ : ∃ m, m = N / 262144 := ⟨_, rfl⟩
          obtain ⟨m1, hm1⟩ : ∃ m, m = N / 4096 % 64 := ⟨_, rfl⟩
          obtain ⟨m2, hm2⟩ : ∃ m, m = N / 64 % 64 := ⟨_, rfl⟩
          obtain ⟨m3, hm3⟩ : ∃ m, m = N % 64 := ⟨_, rfl⟩
          have D0 : (N : Int) / 262144 = (m0 : Int) := by omega
          have D1 : (N : Int) / 4096 % 64 = (m1 : Int) := by omega
          have D2 : (N : Int) / 64 % 64 = (m2 : Int) := by omega
          have D3 : (N : Int) % 64 = (m3 : Int) := by omega
          have hP : P.length ≤ 2 * s.size + 10 := by have h := congrArg List.length HE.out; rw [enc_len, List.length_append, HL.out] at h; omega
          have H0 := Lib.hid hm0
          have H1 := Lib.hid hm1
          have H2 := Lib.hid hm2
          have H3 := Lib.hid hm3
          have HN := Lib.hid hN
          have HK1 := Lib.hid hk1
          have HK2 := Lib.hid hk2
          have l0 : m0 < 64 := by omega
          have l1 : m1 < 64 := by omega
          have l2 : m2 < 64 := by omega
          have l3 : m3 < 64 := by omega
          clear hk1 hk2 hN hm0 hm1 hm2 hm3 z0
          go_wp2_with fail
          refine (letter_at m0 l0 _).mono ?_
          rintro e w1 ⟨rfl, rfl⟩
          go_wp2_with fail
          refine (letter_at m1 l1 _).mono ?_
          rintro e w1 ⟨rfl, rfl⟩
          go_wp2_with fail
          refine (letter_at m2 l2 _).mono ?_
          rintro e w1 ⟨rfl, rfl⟩
          go_wp2_with fail
          refine (letter_at m3 l3 _).mono ?_
          rintro e w1 ⟨rfl, rfl⟩
          go_wp2_with (at_builtin; refine wpList_append_own _ rfl _ _ 22 rfl w.heap.size 5 i0 (.int .u8 0) 1 1 Try.underlying22 hi hz0 hz1 hz2 rfl (by decide) _ _ _ rfl (hown.alloc _) _ 4 4 [.int .u8 ((sig m0).toNat : Int), .int .u8 ((sig m1).toNat : Int), .int .u8 ((sig m2).toNat : Int), .int .u8 ((sig m3).toNat : Int)] rfl rfl ?c1 ?c2 ?c3 ?c4 ?c5 ?_)
          case c1 =>
            intro j u hj
            match j, hj with
            | 0, hj => simp at hj; subst hj; simp [Addr.add]
            | 1, hj => simp at hj; subst hj; simp [Addr.add]
            | 2, hj => simp at hj; subst hj; simp [Addr.add]
            | 3, hj => simp at hj; subst hj; simp [Addr.add]
          case c2 =>
            intro u hu
            simp only [List.mem_cons, List.not_mem_nil, or_false] at hu
            rcases hu with rfl | rfl | rfl | rfl <;> rfl
          case c3 => unfold maxLen; omega
          case c4 => omega
          case c5 => simp; omega
          intro v' w1 hown1 hgrow _
          have hbl := (HB.out.alloc hz (.cells #[.int .u8 ((sig m0).toNat : Int), .int .u8 ((sig m1).toNat : Int), .int .u8 ((sig m2).toNat : Int), .int .u8 ((sig m3).toNat : Int)] 5)).grown hgrow (by simp; omega) (fun q hq => (hown.lt q hq).1)
          obtain ⟨z, hz4⟩ : ∃ z, P.length + 4 = z := ⟨_, rfl⟩
          rw [hz4] at hown1
          obtain ⟨g, cap, rfl, hg1, hg2⟩ := hown1.form (by omega)
          obtain ⟨p1, hp1⟩ : ∃ p, p + 1 = z := ⟨P.length + 3, by omega⟩
          have F1 : (z : Int) - 1 = (p1 : Int) := by omega
          have F1a : (0 : Int) ≤ (p1 : Int) := by omega
          have F1b : (p1 : Int) < (z : Int) := by omega
          have F1c : (p1 : Int) ≤ 100000000 := by omega
          obtain ⟨p2, hp2⟩ : ∃ p, p + 2 = z := ⟨P.length + 2, by omega⟩
          have F2 : (z : Int) - 2 = (p2 : Int) := by omega
          have F2a : (0 : Int) ≤ (p2 : Int) := by omega
          have F2b : (p2 : Int) < (z : Int) := by omega
          have F2c : (p2 : Int) ≤ 100000000 := by omega
          have hc2 : w1.cell? ⟨g, p2, none⟩ = some (.int .u8 ((sig m2).toNat : Int)) := by
            rw [hown1.cellAt p2 (by omega)]
            have : p2 = (Lib.byteCells P).length + 2 := by rw [Lib.byteCells_length]; omega
            rw [this, List.getElem?_append_right (by omega)]
            simp
          have hf2 := hown1.frozenAt p2
          have hst2 := (hown1.stored p2 (.int .u8 61)).1
          have hc1 : (w1.setCell ⟨g, p2, none⟩ (.int .u8 61)).cell? ⟨g, p1, none⟩ = some (.int .u8 ((sig m3).toNat : Int)) := by
            rw [hst2.cellAt p1 (by omega)]
            have e3 : p1 = (Lib.byteCells P).length + 3 := by rw [Lib.byteCells_length]; omega
            rw [List.getElem?_set_ne (by omega), e3, List.getElem?_append_right (by omega)]
            simp
          have hf1 : (w1.setCell ⟨g, p2, none⟩ (.int .u8 61)).frozen? ⟨g, p1, none⟩ = false := hst2.frozenAt p1
          have hst := (hst2.stored p1 (.int .u8 61)).1
          have hb2 := (hbl.setCell (p := ⟨g, p2, none⟩) hg1 (.int .u8 61)).setCell (p := ⟨g, p1, none⟩) hg1 (.int .u8 61)
          have hrow : Lib.byteCells (P ++ [sig m0, sig m1, 61, 61]) = ((Lib.byteCells P ++ [Value.int .u8 ((sig m0).toNat : Int), .int .u8 ((sig m1).toNat : Int), .int .u8 ((sig m2).toNat : Int), .int .u8 ((sig m3).toNat : Int)]).set p2 (.int .u8 61)).set p1 (.int .u8 61) := by
            have e : p1 = (Lib.byteCells P).length + 3 := by rw [Lib.byteCells_length]; omega
            have e' : p2 = (Lib.byteCells P).length + 2 := by rw [Lib.byteCells_length]; omega
            rw [e, e', List.set_append_right _ _ (by omega), List.set_append_right _ _ (by omega)]
            simp [Lib.byteCells]
          rw [← hrow] at hst
          have HO := Lib.hid hst
          have HBL := Lib.hid hb2
          have HZ4 := Lib.hid hz4
          clear hst hb2 hbl hown1 hgrow hown hrow hz4 hp1 hst2 hp2
          have HR2 := Lib.hid (show k + 1 = s.size by omega)
          clear hr2 hr3 hP hg1 hg2
          go_wp2
          go_roundw
          case rel =>
            refine ⟨k + 3, P ++ [sig m0, sig m1, 61, 61], by omega, by go_num, ?_, HBL.out, ?_⟩
            · have h := HO.out
              have hl : (P ++ [sig m0, sig m1, 61, 61]).length = z := by rw [List.length_append]; exact HZ4.out
              rw [hl]
              exact h
            · have hE := HE.out
              have e1 := HK1.out
              subst e1
              rw [drop_one k HR2.out, enc_one] at hE
              show enc s.data.toList = _
              rw [hE, List.drop_eq_nil_of_le (by rw [HL.out]; have := HR2.out; omega), H0.out, H1.out, HN.out, enc_nil, List.append_nil]
              rfl
          case measure => simp [intOf]; omega
    · have h1 : ¬ (k : Int) < (s.size : Int) := by omega
      have hE := HE.out
      rw [List.drop_eq_nil_of_le (by rw [HL.out]; omega), enc_nil, List.append_nil] at hE
      have HE2 := Lib.hid hE
      clear hE HE
      rcases hown.2 with ⟨rfl, h0⟩ | ⟨g, cap, cur, rfl, -, -, -, -, -, -⟩
      · have hcv := Lib.run_convert_nil_bytes (P := Try.prog) wr 22 9 5 0 Try.underlying22 Try.underlying5 Try.underlying9
        have hp : P = [] := List.eq_nil_of_length_eq_zero h0
        subst hp
        go_wp2
        go_ret
        exact ⟨by rw [HE2.out]; rfl, HB.out⟩
      · have hcv := run_convert_bytes_back (P := Try.prog) wr 22 9 5 ⟨g, 0, none⟩ cap P Try.underlying22 Try.underlying5 Try.underlying9 (fun j hj => hown.cells (g := g) rfl j _ (by simp [Lib.byteCells, hj]))
        have HW := Lib.hid hown
        clear hown
        go_wp2
        go_ret
        exact ⟨by rw [HE2.out]; rfl, HB.out⟩
end Go.Proofs.Ytmangdkaklnpdaa
