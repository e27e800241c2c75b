/-
  My texts Benc, Grp, Shelf, Bld, Ienc, Bdec, Idec, Bbase, Iloop, Pmake, Pparse, Um, Cm, Aval, Apath in one, so that a claim holds fewer files. Conditions: each contract's own.
-/
import Derived.Test.YtichajalinkcdaaQb
import Derived.RangeFuncNested
import Derived.RangeFuncBound
import Derived.RangeFuncCalls
import Derived.RangeFuncLeaves
import Derived.RangeFuncBox
import Derived.Shelf.Abstract
import Derived.Shelf.RegionOpen
import Derived.WalkKit
import Derived.OwnWalkIn
import Derived.TacticsInMore
import Derived.LoopNIn
import Derived.LoopIn
import Derived.Shelf.Strings.BuilderK
import Derived.Shelf.Small.Strs
import Derived.Test.YtichajalinkcdaaProg
import Derived.Lib.OthersKept
import Derived.Lib.Hide
import Derived.IntWalk
namespace Go.Proofs.Ytichajalinkcdaa
open Go.RowKit
set_option linter.unusedVariables false

theorem Try.infoByte : (Try.prog.info? 5).map (fun i => (i.zero, i.size, i.bytes)) = some (some (.int .u8 0), 1, 1) := by kernel_rfl
/-- The bytes 'l' as a text. -/
def bt (l : List UInt8) : ByteArray := ⟨l.toArray⟩
theorem byte_at {s : ByteArray} {k : Nat} (h : k < s.size) : s.data.toList[k]'(by simpa using h) = s[k] := rfl
theorem drop1 {s : ByteArray} (k : Nat) (h : k < s.size) : s.data.toList.drop k = s[k] :: s.data.toList.drop (k + 1) := by
  rw [List.drop_eq_getElem_cons (by simpa using h)]
  rfl
theorem drop3 {s : ByteArray} (k : Nat) (h : k + 3 ≤ s.size) : s.data.toList.drop k = s[k] :: s[k + 1] :: s[k + 2] :: s.data.toList.drop (k + 3) := by
  rw [drop1 k (by omega), drop1 (k + 1) (by omega), drop1 (k + 2) (by omega)]
theorem drop_one {s : ByteArray} (k : Nat) (h : k + 1 = s.size) : s.data.toList.drop k = [s[k]] := by
  rw [drop1 k (by omega), List.drop_eq_nil_of_le (by simp; omega)]
theorem drop_two {s : ByteArray} (k : Nat) (h : k + 2 = s.size) : s.data.toList.drop k = [s[k], s[k + 1]] := by
  rw [drop1 k (by omega), drop_one (k + 1) (by omega)]
set_option maxRecDepth 20000 in
set_option maxHeartbeats 4000000 in
theorem encode_any (s : ByteArray) (w : World) (hs : s.size ≤ 16777216) :
    Calls Try.prog 71 #[.string s] w fun e w' => e = .returned (.string (bt (enc s.data.toList))) ∧ Below w.heap.size w w' := by
  have hl : s.data.toList.length = s.size := by simp
  have HL := Lib.hid hl
  clear hl
  obtain ⟨i0, hi, hz0, hz1, hz2⟩ := info_parts Try.infoByte
  go_enter Try.func71, Try.ntmps71
  go_wp2
  go_loopw [3, 4, 5] (fun v i n wr => ∃ (k : Nat) (P : List UInt8), k ≤ s.size + 2 ∧ i = .int .i64 (k : Int) ∧ wr.ownsRow w.heap.size 5 1 v P.length (Lib.byteCells P) ∧ Below w.heap.size w wr ∧ Hid (enc s.data.toList = P ++ enc (s.data.toList.drop k)))
    (fun _ i _ _ => s.size + 2 - (intOf i).toNat)
  case atStart =>
    exact ⟨0, [], by omega, by go_num, World.ownsRow_lit w #[] 0 (Nat.le_refl _) (by unfold maxLen; omega) rfl, (Below.refl _ _).alloc (Nat.le_refl _) _, rfl⟩
  case round =>
    obtain ⟨k, P, hk, rfl, hown, hbel, HE⟩ := hrel
    have hz := hbel.size
    have HB := Lib.hid hbel
    clear hbel
    by_cases hlt : k < s.size
    · have h0 : (0 : Int) ≤ (k : Int) := by omega
      have h1 : (k : Int) < (s.size : Int) := by omega
      have h2 : (k : Int) ≤ (s.size : Int) := by omega
      have b0 : (s[k].toNat : Int) ≤ 255 := by have := s[k].toNat_lt; omega
      have b0' : (0 : Int) ≤ (s[k].toNat : Int) := by omega
      by_cases hr3 : k + 3 ≤ s.size
      · obtain ⟨k1, hk1⟩ : ∃ k1, k1 = k + 1 := ⟨_, rfl⟩
        obtain ⟨k2, hk2⟩ : ∃ k2, k2 = k + 2 := ⟨_, rfl⟩
        have E1 : (k : Int) + 1 = (k1 : Int) := by omega
        have E2 : (k : Int) + 2 = (k2 : Int) := by omega
        have hlt1 : k1 < s.size := by omega
        have h11 : (0 : Int) ≤ (k1 : Int) := by omega
        have h12 : (k1 : Int) < (s.size : Int) := by omega
        have b1 : (s[k1].toNat : Int) ≤ 255 := by have := s[k1].toNat_lt; omega
        have b1' : (0 : Int) ≤ (s[k1].toNat : Int) := by omega
        have hlt2 : k2 < s.size := by omega
        have h21 : (0 : Int) ≤ (k2 : Int) := by omega
        have h22 : (k2 : Int) < (s.size : Int) := by omega
        have b2 : (s[k2].toNat : Int) ≤ 255 := by have := s[k2].toNat_lt; omega
        have b2' : (0 : Int) ≤ (s[k2].toNat : Int) := by omega
        obtain ⟨N, hN⟩ : ∃ N, N = n24 s[k] s[k1] s[k2] := ⟨_, rfl⟩
        have z0 : (0 : UInt8).toNat = 0 := rfl
        have EN : 65536 * (s[k].toNat : Int) + 256 * (s[k1].toNat : Int) + (s[k2].toNat : Int) = (N : Int) := by rw [hN]; unfold n24; omega
        have hNl : N < 16777216 := by rw [hN]; exact n24_lt _ _ _
        obtain ⟨m0, hm0⟩ : ∃ m, m = N / 262144 := ⟨_, rfl⟩
        obtain ⟨m1, hm1⟩ : ∃ m, m = N / 4096 % 64 := ⟨_, rfl⟩
        obtain ⟨m2, hm2⟩ : ∃ m, m = N / 64 % 64 := ⟨_, rfl⟩
        obtain ⟨m3, hm3⟩ : ∃ m, m = N % 64 := ⟨_, rfl⟩
        have D0 : (N : Int) / 262144 = (m0 : Int) := by omega
        have D1 : (N : Int) / 4096 % 64 = (m1 : Int) := by omega
        have D2 : (N : Int) / 64 % 64 = (m2 : Int) := by omega
        have D3 : (N : Int) % 64 = (m3 : Int) := by omega
        have hP : P.length ≤ 2 * s.size + 10 := by have h := congrArg List.length HE.out; rw [enc_len, List.length_append, HL.out] at h; omega
        have H0 := Lib.hid hm0
        have H1 := Lib.hid hm1
        have H2 := Lib.hid hm2
        have H3 := Lib.hid hm3
        have HN := Lib.hid hN
        have HK1 := Lib.hid hk1
        have HK2 := Lib.hid hk2
        have l0 : m0 < 64 := by omega
        have l1 : m1 < 64 := by omega
        have l2 : m2 < 64 := by omega
        have l3 : m3 < 64 := by omega
        clear hk1 hk2 hN hm0 hm1 hm2 hm3 z0
        go_wp2_with fail
        refine (letter_at m0 l0 _).mono ?_
        rintro e w1 ⟨rfl, rfl⟩
        go_wp2_with fail
        refine (letter_at m1 l1 _).mono ?_
        rintro e w1 ⟨rfl, rfl⟩
        go_wp2_with fail
        refine (letter_at m2 l2 _).mono ?_
        rintro e w1 ⟨rfl, rfl⟩
        go_wp2_with fail
        refine (letter_at m3 l3 _).mono ?_
        rintro e w1 ⟨rfl, rfl⟩
        go_wp2_with (at_builtin; refine wpList_append_own _ rfl _ _ 22 rfl w.heap.size 5 i0 (.int .u8 0) 1 1 Try.underlying22 hi hz0 hz1 hz2 rfl (by decide) _ _ _ rfl (hown.alloc _) _ 4 4 [.int .u8 ((sig m0).toNat : Int), .int .u8 ((sig m1).toNat : Int), .int .u8 ((sig m2).toNat : Int), .int .u8 ((sig m3).toNat : Int)] rfl rfl ?c1 ?c2 ?c3 ?c4 ?c5 ?_)
        case c1 =>
          intro j u hj
          match j, hj with
          | 0, hj => simp at hj; subst hj; simp [Addr.add]
          | 1, hj => simp at hj; subst hj; simp [Addr.add]
          | 2, hj => simp at hj; subst hj; simp [Addr.add]
          | 3, hj => simp at hj; subst hj; simp [Addr.add]
        case c2 =>
          intro u hu
          simp only [List.mem_cons, List.not_mem_nil, or_false] at hu
          rcases hu with rfl | rfl | rfl | rfl <;> rfl
        case c3 => unfold maxLen; omega
        case c4 => omega
        case c5 => simp; omega
        intro v' w1 hown1 hgrow _
        have hbl := (HB.out.alloc hz (.cells #[.int .u8 ((sig m0).toNat : Int), .int .u8 ((sig m1).toNat : Int), .int .u8 ((sig m2).toNat : Int), .int .u8 ((sig m3).toNat : Int)] 5)).grown hgrow (by simp; omega) (fun q hq => (hown.lt q hq).1)
        have HO := Lib.hid hown1
        have HBL := Lib.hid hbl
        clear hown1 hgrow hbl hown
        go_wp2
        go_roundw
        case rel =>
          refine ⟨k + 3, P ++ [sig m0, sig m1, sig m2, sig m3], by omega, by go_num, by simpa [Lib.byteCells] using HO.out, HBL.out, ?_⟩
          have hE := HE.out
          rw [drop3 k hr3, enc_more] at hE
          have e1 := HK1.out
          have e2 := HK2.out
          subst e1
          subst e2
          show enc s.data.toList = _
          rw [hE, H0.out, H1.out, H2.out, H3.out, HN.out]
          simp [q0, q1, q2, q3]
        case measure => simp [intOf]; omega
      · by_cases hr2 : k + 2 = s.size
        · obtain ⟨k1, hk1⟩ : ∃ k1, k1 = k + 1 := ⟨_, rfl⟩
          obtain ⟨k2, hk2⟩ : ∃ k2, k2 = k + 2 := ⟨_, rfl⟩
          have E1 : (k : Int) + 1 = (k1 : Int) := by omega
          have E2 : (k : Int) + 2 = (k2 : Int) := by omega
          have hlt1 : k1 < s.size := by omega
          have h11 : (0 : Int) ≤ (k1 : Int) := by omega
          have h12 : (k1 : Int) < (s.size : Int) := by omega
          have b1 : (s[k1].toNat : Int) ≤ 255 := by have := s[k1].toNat_lt; omega
          have b1' : (0 : Int) ≤ (s[k1].toNat : Int) := by omega
          have h22 : ¬ (k2 : Int) < (s.size : Int) := by omega
          have h23 : (s.size : Int) ≤ (k2 : Int) := by omega
          obtain ⟨N, hN⟩ : ∃ N, N = n24 s[k] s[k1] 0 := ⟨_, rfl⟩
          have z0 : (0 : UInt8).toNat = 0 := rfl
          have EN : 65536 * (s[k].toNat : Int) + 256 * (s[k1].toNat : Int) = (N : Int) := by rw [hN]; unfold n24; omega
          have hNl : N < 16777216 := by rw [hN]; exact n24_lt _ _ _
          obtain ⟨m0, hm0⟩ : ∃ m, m = N / 262144 := ⟨_, rfl⟩
          obtain ⟨m1, hm1⟩ : ∃ m, m = N / 4096 % 64 := ⟨_, rfl⟩
          obtain ⟨m2, hm2⟩ : ∃ m, m = N / 64 % 64 := ⟨_, rfl⟩
          obtain ⟨m3, hm3⟩ : ∃ m, m = N % 64 := ⟨_, rfl⟩
          have D0 : (N : Int) / 262144 = (m0 : Int) := by omega
          have D1 : (N : Int) / 4096 % 64 = (m1 : Int) := by omega
          have D2 : (N : Int) / 64 % 64 = (m2 : Int) := by omega
          have D3 : (N : Int) % 64 = (m3 : Int) := by omega
          have hP : P.length ≤ 2 * s.size + 10 := by have h := congrArg List.length HE.out; rw [enc_len, List.length_append, HL.out] at h; omega
          have H0 := Lib.hid hm0
          have H1 := Lib.hid hm1
          have H2 := Lib.hid hm2
          have H3 := Lib.hid hm3
          have HN := Lib.hid hN
          have HK1 := Lib.hid hk1
          have HK2 := Lib.hid hk2
          have l0 : m0 < 64 := by omega
          have l1 : m1 < 64 := by omega
          have l2 : m2 < 64 := by omega
          have l3 : m3 < 64 := by omega
          clear hk1 hk2 hN hm0 hm1 hm2 hm3 z0
          go_wp2_with fail
          refine (letter_at m0 l0 _).mono ?_
          rintro e w1 ⟨rfl, rfl⟩
          go_wp2_with fail
          refine (letter_at m1 l1 _).mono ?_
          rintro e w1 ⟨rfl, rfl⟩
          go_wp2_with fail
          refine (letter_at m2 l2 _).mono ?_
          rintro e w1 ⟨rfl, rfl⟩
          go_wp2_with fail
          refine (letter_at m3 l3 _).mono ?_
          rintro e w1 ⟨rfl, rfl⟩
          go_wp2_with (at_builtin; refine wpList_append_own _ rfl _ _ 22 rfl w.heap.size 5 i0 (.int .u8 0) 1 1 Try.underlying22 hi hz0 hz1 hz2 rfl (by decide) _ _ _ rfl (hown.alloc _) _ 4 4 [.int .u8 ((sig m0).toNat : Int), .int .u8 ((sig m1).toNat : Int), .int .u8 ((sig m2).toNat : Int), .int .u8 ((sig m3).toNat : Int)] rfl rfl ?c1 ?c2 ?c3 ?c4 ?c5 ?_)
          case c1 =>
            intro j u hj
            match j, hj with
            | 0, hj => simp at hj; subst hj; simp [Addr.add]
            | 1, hj => simp at hj; subst hj; simp [Addr.add]
            | 2, hj => simp at hj; subst hj; simp [Addr.add]
            | 3, hj => simp at hj; subst hj; simp [Addr.add]
          case c2 =>
            intro u hu
            simp only [List.mem_cons, List.not_mem_nil, or_false] at hu
            rcases hu with rfl | rfl | rfl | rfl <;> rfl
          case c3 => unfold maxLen; omega
          case c4 => omega
          case c5 => simp; omega
          intro v' w1 hown1 hgrow _
          have hbl := (HB.out.alloc hz (.cells #[.int .u8 ((sig m0).toNat : Int), .int .u8 ((sig m1).toNat : Int), .int .u8 ((sig m2).toNat : Int), .int .u8 ((sig m3).toNat : Int)] 5)).grown hgrow (by simp; omega) (fun q hq => (hown.lt q hq).1)
          obtain ⟨z, hz4⟩ : ∃ z, P.length + 4 = z := ⟨_, rfl⟩
          rw [hz4] at hown1
          obtain ⟨g, cap, rfl, hg1, hg2⟩ := hown1.form (by omega)
          obtain ⟨p1, hp1⟩ : ∃ p, p + 1 = z := ⟨P.length + 3, by omega⟩
          have F1 : (z : Int) - 1 = (p1 : Int) := by omega
          have F1a : (0 : Int) ≤ (p1 : Int) := by omega
          have F1b : (p1 : Int) < (z : Int) := by omega
          have F1c : (p1 : Int) ≤ 100000000 := by omega
          have hc1 : w1.cell? ⟨g, p1, none⟩ = some (.int .u8 ((sig m3).toNat : Int)) := by
            rw [hown1.cellAt p1 (by omega)]
            have : p1 = (Lib.byteCells P).length + 3 := by rw [Lib.byteCells_length]; omega
            rw [this, List.getElem?_append_right (by omega)]
            simp
          have hf1 := hown1.frozenAt p1
          have hst := (hown1.stored p1 (.int .u8 61)).1
          have hb2 := hbl.setCell (p := ⟨g, p1, none⟩) hg1 (.int .u8 61)
          have hrow : Lib.byteCells (P ++ [sig m0, sig m1, sig m2, 61]) = (Lib.byteCells P ++ [Value.int .u8 ((sig m0).toNat : Int), .int .u8 ((sig m1).toNat : Int), .int .u8 ((sig m2).toNat : Int), .int .u8 ((sig m3).toNat : Int)]).set p1 (.int .u8 61) := by
            have e : p1 = (Lib.byteCells P).length + 3 := by rw [Lib.byteCells_length]; omega
            rw [e, List.set_append_right _ _ (by omega)]
            simp [Lib.byteCells]
          rw [← hrow] at hst
          have HO := Lib.hid hst
          have HBL := Lib.hid hb2
          have HZ4 := Lib.hid hz4
          clear hst hb2 hbl hown1 hgrow hown hrow hz4 hp1
          have HR2 := Lib.hid (show k + 2 = s.size by omega)
          clear hr2 hr3 hP hg1 hg2
          go_wp2
          go_roundw
          case rel =>
            refine ⟨k + 3, P ++ [sig m0, sig m1, sig m2, 61], by omega, by go_num, ?_, HBL.out, ?_⟩
            · have h := HO.out
              have hl : (P ++ [sig m0, sig m1, sig m2, 61]).length = z := by rw [List.length_append]; exact HZ4.out
              rw [hl]
              exact h
            · have hE := HE.out
              have e1 := HK1.out
              subst e1
              rw [drop_two k HR2.out, enc_two] at hE
              show enc s.data.toList = _
              rw [hE, List.drop_eq_nil_of_le (by rw [HL.out]; have := HR2.out; omega), H0.out, H1.out, H2.out, HN.out, enc_nil, List.append_nil]
              rfl
          case measure => simp [intOf]; omega
        · obtain ⟨k1, hk1⟩ : ∃ k1, k1 = k + 1 := ⟨_, rfl⟩
          obtain ⟨k2, hk2⟩ : ∃ k2, k2 = k + 2 := ⟨_, rfl⟩
          have E1 : (k : Int) + 1 = (k1 : Int) := by omega
          have E2 : (k : Int) + 2 = (k2 : Int) := by omega
          have h12 : ¬ (k1 : Int) < (s.size : Int) := by omega
          have h13 : (s.size : Int) ≤ (k1 : Int) := by omega
          have h22 : ¬ (k2 : Int) < (s.size : Int) := by omega
          have h23 : (s.size : Int) ≤ (k2 : Int) := by omega
          obtain ⟨N, hN⟩ : ∃ N, N = n24 s[k] 0 0 := ⟨_, rfl⟩
          have z0 : (0 : UInt8).toNat = 0 := rfl
          have EN : 65536 * (s[k].toNat : Int) = (N : Int) := by rw [hN]; unfold n24; omega
          have hNl : N < 16777216 := by rw [hN]; exact n24_lt _ _ _
          obtain ⟨m0, hm0⟩ : ∃ m, m = N / 262144 := ⟨_, rfl⟩
          obtain ⟨m1, hm1⟩ : ∃ m, m = N / 4096 % 64 := ⟨_, rfl⟩
          obtain ⟨m2, hm2⟩ : ∃ m, m = N / 64 % 64 := ⟨_, rfl⟩
          obtain ⟨m3, hm3⟩ : ∃ m, m = N % 64 := ⟨_, rfl⟩
          have D0 : (N : Int) / 262144 = (m0 : Int) := by omega
          have D1 : (N : Int) / 4096 % 64 = (m1 : Int) := by omega
          have D2 : (N : Int) / 64 % 64 = (m2 : Int) := by omega
          have D3 : (N : Int) % 64 = (m3 : Int) := by omega
          have hP : P.length ≤ 2 * s.size + 10 := by have h := congrArg List.length HE.out; rw [enc_len, List.length_append, HL.out] at h; omega
          have H0 := Lib.hid hm0
          have H1 := Lib.hid hm1
          have H2 := Lib.hid hm2
          have H3 := Lib.hid hm3
          have HN := Lib.hid hN
          have HK1 := Lib.hid hk1
          have HK2 := Lib.hid hk2
          have l0 : m0 < 64 := by omega
          have l1 : m1 < 64 := by omega
          have l2 : m2 < 64 := by omega
          have l3 : m3 < 64 := by omega
          clear hk1 hk2 hN hm0 hm1 hm2 hm3 z0
          go_wp2_with fail
          refine (letter_at m0 l0 _).mono ?_
          rintro e w1 ⟨rfl, rfl⟩
          go_wp2_with fail
          refine (letter_at m1 l1 _).mono ?_
          rintro e w1 ⟨rfl, rfl⟩
          go_wp2_with fail
          refine (letter_at m2 l2 _).mono ?_
          rintro e w1 ⟨rfl, rfl⟩
          go_wp2_with fail
          refine (letter_at m3 l3 _).mono ?_
          rintro e w1 ⟨rfl, rfl⟩
          go_wp2_with (at_builtin; refine wpList_append_own _ rfl _ _ 22 rfl w.heap.size 5 i0 (.int .u8 0) 1 1 Try.underlying22 hi hz0 hz1 hz2 rfl (by decide) _ _ _ rfl (hown.alloc _) _ 4 4 [.int .u8 ((sig m0).toNat : Int), .int .u8 ((sig m1).toNat : Int), .int .u8 ((sig m2).toNat : Int), .int .u8 ((sig m3).toNat : Int)] rfl rfl ?c1 ?c2 ?c3 ?c4 ?c5 ?_)
          case c1 =>
            intro j u hj
            match j, hj with
            | 0, hj => simp at hj; subst hj; simp [Addr.add]
            | 1, hj => simp at hj; subst hj; simp [Addr.add]
            | 2, hj => simp at hj; subst hj; simp [Addr.add]
            | 3, hj => simp at hj; subst hj; simp [Addr.add]
          case c2 =>
            intro u hu
            simp only [List.mem_cons, List.not_mem_nil, or_false] at hu
            rcases hu with rfl | rfl | rfl | rfl <;> rfl
          case c3 => unfold maxLen; omega
          case c4 => omega
          case c5 => simp; omega
          intro v' w1 hown1 hgrow _
          have hbl := (HB.out.alloc hz (.cells #[.int .u8 ((sig m0).toNat : Int), .int .u8 ((sig m1).toNat : Int), .int .u8 ((sig m2).toNat : Int), .int .u8 ((sig m3).toNat : Int)] 5)).grown hgrow (by simp; omega) (fun q hq => (hown.lt q hq).1)
          obtain ⟨z, hz4⟩ : ∃ z, P.length + 4 = z := ⟨_, rfl⟩
          rw [hz4] at hown1
          obtain ⟨g, cap, rfl, hg1, hg2⟩ := hown1.form (by omega)
          obtain ⟨p1, hp1⟩ : ∃ p, p + 1 = z := ⟨P.length + 3, by omega⟩
          have F1 : (z : Int) - 1 = (p1 : Int) := by omega
          have F1a : (0 : Int) ≤ (p1 : Int) := by omega
          have F1b : (p1 : Int) < (z : Int) := by omega
          have F1c : (p1 : Int) ≤ 100000000 := by omega
          obtain ⟨p2, hp2⟩ : ∃ p, p + 2 = z := ⟨P.length + 2, by omega⟩
          have F2 : (z : Int) - 2 = (p2 : Int) := by omega
          have F2a : (0 : Int) ≤ (p2 : Int) := by omega
          have F2b : (p2 : Int) < (z : Int) := by omega
          have F2c : (p2 : Int) ≤ 100000000 := by omega
          have hc2 : w1.cell? ⟨g, p2, none⟩ = some (.int .u8 ((sig m2).toNat : Int)) := by
            rw [hown1.cellAt p2 (by omega)]
            have : p2 = (Lib.byteCells P).length + 2 := by rw [Lib.byteCells_length]; omega
            rw [this, List.getElem?_append_right (by omega)]
            simp
          have hf2 := hown1.frozenAt p2
          have hst2 := (hown1.stored p2 (.int .u8 61)).1
          have hc1 : (w1.setCell ⟨g, p2, none⟩ (.int .u8 61)).cell? ⟨g, p1, none⟩ = some (.int .u8 ((sig m3).toNat : Int)) := by
            rw [hst2.cellAt p1 (by omega)]
            have e3 : p1 = (Lib.byteCells P).length + 3 := by rw [Lib.byteCells_length]; omega
            rw [List.getElem?_set_ne (by omega), e3, List.getElem?_append_right (by omega)]
            simp
          have hf1 : (w1.setCell ⟨g, p2, none⟩ (.int .u8 61)).frozen? ⟨g, p1, none⟩ = false := hst2.frozenAt p1
          have hst := (hst2.stored p1 (.int .u8 61)).1
          have hb2 := (hbl.setCell (p := ⟨g, p2, none⟩) hg1 (.int .u8 61)).setCell (p := ⟨g, p1, none⟩) hg1 (.int .u8 61)
          have hrow : Lib.byteCells (P ++ [sig m0, sig m1, 61, 61]) = ((Lib.byteCells P ++ [Value.int .u8 ((sig m0).toNat : Int), .int .u8 ((sig m1).toNat : Int), .int .u8 ((sig m2).toNat : Int), .int .u8 ((sig m3).toNat : Int)]).set p2 (.int .u8 61)).set p1 (.int .u8 61) := by
            have e : p1 = (Lib.byteCells P).length + 3 := by rw [Lib.byteCells_length]; omega
            have e' : p2 = (Lib.byteCells P).length + 2 := by rw [Lib.byteCells_length]; omega
            rw [e, e', List.set_append_right _ _ (by omega), List.set_append_right _ _ (by omega)]
            simp [Lib.byteCells]
          rw [← hrow] at hst
          have HO := Lib.hid hst
          have HBL := Lib.hid hb2
          have HZ4 := Lib.hid hz4
          clear hst hb2 hbl hown1 hgrow hown hrow hz4 hp1 hst2 hp2
          have HR2 := Lib.hid (show k + 1 = s.size by omega)
          clear hr2 hr3 hP hg1 hg2
          go_wp2
          go_roundw
          case rel =>
            refine ⟨k + 3, P ++ [sig m0, sig m1, 61, 61], by omega, by go_num, ?_, HBL.out, ?_⟩
            · have h := HO.out
              have hl : (P ++ [sig m0, sig m1, 61, 61]).length = z := by rw [List.length_append]; exact HZ4.out
              rw [hl]
              exact h
            · have hE := HE.out
              have e1 := HK1.out
              subst e1
              rw [drop_one k HR2.out, enc_one] at hE
              show enc s.data.toList = _
              rw [hE, List.drop_eq_nil_of_le (by rw [HL.out]; have := HR2.out; omega), H0.out, H1.out, HN.out, enc_nil, List.append_nil]
              rfl
          case measure => simp [intOf]; omega
    · have h1 : ¬ (k : Int) < (s.size : Int) := by omega
      have hE := HE.out
      rw [List.drop_eq_nil_of_le (by rw [HL.out]; omega), enc_nil, List.append_nil] at hE
      have HE2 := Lib.hid hE
      clear hE HE
      rcases hown.2 with ⟨rfl, h0⟩ | ⟨g, cap, cur, rfl, -, -, -, -, -, -⟩
      · have hcv := Lib.run_convert_nil_bytes (P := Try.prog) wr 22 9 5 0 Try.underlying22 Try.underlying5 Try.underlying9
        have hp : P = [] := List.eq_nil_of_length_eq_zero h0
        subst hp
        go_wp2
        go_ret
        exact ⟨by rw [HE2.out]; rfl, HB.out⟩
      · have hcv := run_convert_bytes_back (P := Try.prog) wr 22 9 5 ⟨g, 0, none⟩ cap P Try.underlying22 Try.underlying5 Try.underlying9 (fun j hj => hown.cells (g := g) rfl j _ (by simp [Lib.byteCells, hj]))
        have HW := Lib.hid hown
        clear hown
        go_wp2
        go_ret
        exact ⟨by rw [HE2.out]; rfl, HB.out⟩
end Go.Proofs.Ytichajalinkcdaa
namespace Go.Proofs.Ytichajalinkcdaa
open Go.RowKit Go.Shelf
set_option linter.unusedVariables false
attribute [local go_sem] Oper.semAt_some

/-- A group of one to 'n' bytes. -/
abbrev Gn (n : Nat) := { x : ByteArray // 1 ≤ x.size ∧ x.size ≤ n }
/-- Two blocks stand. -/
def Two (a b : Nat) (W W' : World) : Prop := W'.heap[a]? = W.heap[a]? ∧ W'.heap[b]? = W.heap[b]?
theorem two_t {a b : Nat} {X Y Z : World} (h : Two a b X Y) (k : Two a b Y Z) : Two a b X Z := ⟨k.1.trans h.1, k.2.trans h.2⟩
theorem two_b {a b : Nat} {w : World} (ha : a < w.heap.size) (hb : b < w.heap.size) (W : World) (l : Nat) (o o' : Obj) (hl : w.heap.size ≤ l) (h : W.heap[l]? = some o) (_ : o.isCells = false) (_ : o.isWalk = false) : Two a b W (W.putObj l o') :=
  ⟨World.putObj_heap_other (by omega), World.putObj_heap_other (by omega)⟩
/-- The lists of bytes of groups. -/
def gl {n : Nat} (xs : List (Gn n)) : List (List UInt8) := xs.map fun x => x.1.data.toList
theorem gl_snoc {n : Nat} (xs : List (Gn n)) (x : Gn n) : gl (xs ++ [x]) = gl xs ++ [x.1.data.toList] := by simp [gl]

end Go.Proofs.Ytichajalinkcdaa
namespace Go.Proofs.Ytichajalinkcdaa
open Go.Shelf
end Go.Proofs.Ytichajalinkcdaa
namespace Go.Proofs.Ytichajalinkcdaa
open Go.RowKit Go.Shelf
set_option linter.unusedVariables false

end Go.Proofs.Ytichajalinkcdaa
namespace Go.Proofs.Ytichajalinkcdaa
open Go.RowKit
set_option linter.unusedVariables false
/-- The number of the first 'k' bytes of a group. -/
def nb (l : List UInt8) : Nat → Nat
  | 0 => 0
  | 1 => 65536 * (l.getD 0 0).toNat
  | 2 => 65536 * (l.getD 0 0).toNat + 256 * (l.getD 1 0).toNat
  | _ => 65536 * (l.getD 0 0).toNat + 256 * (l.getD 1 0).toNat + (l.getD 2 0).toNat
theorem nb_lt (l : List UInt8) (k : Nat) : nb l k < 16777216 := by
  have h0 := (l.getD 0 0).toNat_lt
  have h1 := (l.getD 1 0).toNat_lt
  have h2 := (l.getD 2 0).toNat_lt
  match k with
  | 0 => show 0 < _; omega
  | 1 => show 65536 * (l.getD 0 0).toNat < _; omega
  | 2 => show 65536 * (l.getD 0 0).toNat + 256 * (l.getD 1 0).toNat < _; omega
  | k + 3 => show 65536 * (l.getD 0 0).toNat + 256 * (l.getD 1 0).toNat + (l.getD 2 0).toNat < _; omega
theorem or_i64 (x y : Nat) (hx : x < 2 ^ 62) (hy : y < 2 ^ 62) : bits .or .i64 (x : Int) (y : Int) = ((x ||| y : Nat) : Int) := by
  have ex : (BitVec.ofInt 64 (x : Int)).toNat = x := by rw [BitVec.ofInt_natCast, BitVec.toNat_ofNat]; exact Nat.mod_eq_of_lt (by omega)
  have ey : (BitVec.ofInt 64 (y : Int)).toNat = y := by rw [BitVec.ofInt_natCast, BitVec.toNat_ofNat]; exact Nat.mod_eq_of_lt (by omega)
  have hlt : x ||| y < 2 ^ 62 := Nat.or_lt_two_pow hx hy
  show IntKind.i64.wrap ((BitVec.ofInt 64 (x : Int) ||| BitVec.ofInt 64 (y : Int)).toNat : Int) = _
  rw [BitVec.toNat_or, ex, ey, IntKind.wrap_i64]
  omega
theorem or_join (x y i : Nat) (hx : x < 2 ^ 62) (hi : y < 2 ^ i) (hy : y < 2 ^ 62) (h : x % 2 ^ i = 0) : bits .or .i64 (x : Int) (y : Int) = ((x + y : Nat) : Int) := by rw [or_i64 x y hx hy, nat_join i x y h hi]
theorem list_at {s : ByteArray} {k : Nat} (h : k < s.size) (d : UInt8) : s.data.toList.getD k d = s[k] := by
  rw [List.getD_eq_getElem?_getD, List.getElem?_eq_getElem (by simpa using h)]
  rfl
theorem nb_step {s : ByteArray} {k : Nat} (h : k < s.size) (h2 : k ≤ 2) : bits .or .i64 ((nb s.data.toList k : Nat) : Int) (wrap64 ((s[k].toNat : Int) * 2 ^ (8 * (2 - k)))) = ((nb s.data.toList (k + 1) : Nat) : Int) := by
  have hb := s[k].toNat_lt
  have e := list_at h 0
  have hl := nb_lt s.data.toList k
  rcases (by omega : k = 0 ∨ k = 1 ∨ k = 2) with rfl | rfl | rfl
  · have e1 : wrap64 ((s[0].toNat : Int) * 2 ^ (8 * (2 - 0))) = ((65536 * s[0].toNat : Nat) : Int) := by unfold wrap64; simp; omega
    rw [e1, or_join _ _ 24 (by omega) (by omega) (by omega) (by rfl)]
    show ((0 + 65536 * s[0].toNat : Nat) : Int) = ((65536 * (s.data.toList.getD 0 0).toNat : Nat) : Int)
    rw [e, Nat.zero_add]
  · have e1 : wrap64 ((s[1].toNat : Int) * 2 ^ (8 * (2 - 1))) = ((256 * s[1].toNat : Nat) : Int) := by unfold wrap64; simp; omega
    rw [e1, or_join _ _ 16 (by omega) (by omega) (by omega) (by show 65536 * _ % 65536 = 0; omega)]
    show ((65536 * (s.data.toList.getD 0 0).toNat + 256 * s[1].toNat : Nat) : Int) = ((65536 * (s.data.toList.getD 0 0).toNat + 256 * (s.data.toList.getD 1 0).toNat : Nat) : Int)
    rw [e]
  · have e1 : wrap64 ((s[2].toNat : Int) * 2 ^ (8 * (2 - 2))) = ((s[2].toNat : Nat) : Int) := by unfold wrap64; simp; omega
    rw [e1, or_join _ _ 8 (by omega) (by omega) (by omega) (by show (65536 * _ + 256 * _) % 256 = 0; omega)]
    show ((65536 * (s.data.toList.getD 0 0).toNat + 256 * (s.data.toList.getD 1 0).toNat + s[2].toNat : Nat) : Int) = ((65536 * (s.data.toList.getD 0 0).toNat + 256 * (s.data.toList.getD 1 0).toNat + (s.data.toList.getD 2 0).toNat : Nat) : Int)
    rw [e]

/-- The signs of a group, of which 'c' are written. -/
def sv (N c j : Nat) : UInt8 := if j < c then sig (N / 2 ^ (6 * (3 - j)) % 64) else 61
def cs (N c : Nat) : Array Value := #[.int .u8 ((sv N c 0).toNat : Int), .int .u8 ((sv N c 1).toNat : Int), .int .u8 ((sv N c 2).toNat : Int), .int .u8 ((sv N c 3).toNat : Int)]
theorem cs_step (N c : Nat) (h : c ≤ 3) : (cs N c).setIfInBounds c (.int .u8 ((sig (N / 2 ^ (6 * (3 - c)) % 64)).toNat : Int)) = cs N (c + 1) := by
  rcases (by omega : c = 0 ∨ c = 1 ∨ c = 2 ∨ c = 3) with rfl | rfl | rfl | rfl <;> rfl
theorem cs_at (N c : Nat) (h : c ≤ 3) : (cs N c)[c]? = some (.int .u8 61) := by
  rcases (by omega : c = 0 ∨ c = 1 ∨ c = 2 ∨ c = 3) with rfl | rfl | rfl | rfl <;> rfl
theorem cs_zero (N : Nat) : cs N 0 = #[.int .u8 61, .int .u8 61, .int .u8 61, .int .u8 61] := rfl
theorem cs_bytes (N c : Nat) : (cs N c).toList = Lib.byteCells [sv N c 0, sv N c 1, sv N c 2, sv N c 3] := rfl
theorem and63 (m c : Nat) (hm : m < 16777216) : bits .and .i64 ((m : Int) / 2 ^ (6 * (3 - c))) 63 = ((m / 2 ^ (6 * (3 - c)) % 64 : Nat) : Int) := by
  have e : (m : Int) / 2 ^ (6 * (3 - c)) = ((m / 2 ^ (6 * (3 - c)) : Nat) : Int) := by simp
  rw [e]
  have hle : m / 2 ^ (6 * (3 - c)) ≤ m := Nat.div_le_self _ _
  obtain ⟨x, hx⟩ : ∃ x, m / 2 ^ (6 * (3 - c)) = x := ⟨_, rfl⟩
  rw [hx] at hle ⊢
  have ex : (BitVec.ofInt 64 (x : Int)).toNat = x := by rw [BitVec.ofInt_natCast, BitVec.toNat_ofNat]; exact Nat.mod_eq_of_lt (by omega)
  show IntKind.i64.wrap ((BitVec.ofInt 64 (x : Int) &&& BitVec.ofInt 64 (63 : Int)).toNat : Int) = _
  rw [BitVec.toNat_and, ex]
  have e63 : (BitVec.ofInt 64 (63 : Int)).toNat = 63 := by rfl
  rw [e63, nat_mask6, IntKind.wrap_i64]
  omega
theorem enc_signs_of {s : ByteArray} (h1 : 1 ≤ s.size) (h3 : s.size ≤ 3) : [sv (nb s.data.toList s.size) (s.size + 1) 0, sv (nb s.data.toList s.size) (s.size + 1) 1, sv (nb s.data.toList s.size) (s.size + 1) 2, sv (nb s.data.toList s.size) (s.size + 1) 3] = enc s.data.toList := by
  have hl : s.data.toList.length = s.size := by simp
  obtain ⟨l, hs⟩ : ∃ l, s.data.toList = l := ⟨_, rfl⟩
  rw [← hl, hs]
  rw [← hl, hs] at h1 h3
  have hz : (0 : UInt8).toNat = 0 := rfl
  match l, h1, h3 with
  | [a], _, _ =>
    have e : nb [a] 1 = n24 a 0 0 := by unfold n24; rw [hz]; show 65536 * a.toNat = _; omega
    have hn := n24_lt a 0 0
    show [sv (nb [a] 1) 2 0, sv (nb [a] 1) 2 1, 61, 61] = _
    rw [enc_one, e]
    unfold sv q0 q1
    rw [if_pos (by decide), if_pos (by decide)]
    congr 2
    · congr 1; omega
  | [a, b], _, _ =>
    have e : nb [a, b] 2 = n24 a b 0 := by unfold n24; rw [hz]; show 65536 * a.toNat + 256 * b.toNat = _; omega
    have hn := n24_lt a b 0
    show [sv (nb [a, b] 2) 3 0, sv (nb [a, b] 2) 3 1, sv (nb [a, b] 2) 3 2, 61] = _
    rw [enc_two, e]
    unfold sv q0 q1 q2
    rw [if_pos (by decide), if_pos (by decide), if_pos (by decide)]
    congr 2
    · congr 1; omega
  | [a, b, c], _, _ =>
    have e : nb [a, b, c] 3 = n24 a b c := rfl
    have hn := n24_lt a b c
    show [sv (nb [a, b, c] 3) 4 0, sv (nb [a, b, c] 3) 4 1, sv (nb [a, b, c] 3) 4 2, sv (nb [a, b, c] 3) 4 3] = _
    rw [enc_more, enc_nil, e]
    unfold sv q0 q1 q2 q3
    rw [if_pos (by decide), if_pos (by decide), if_pos (by decide), if_pos (by decide)]
    congr 2
    · congr 1; omega
    · simp

end Go.Proofs.Ytichajalinkcdaa
namespace Go.Proofs.Ytichajalinkcdaa
open Go.RowKit
set_option linter.unusedVariables false

/-- The number of signs, read from the left. -/
def fold64 (l : List UInt8) : Nat := l.foldl (fun n c => 64 * n + val c) 0
theorem fold64_add (l : List UInt8) (c : UInt8) : fold64 (l ++ [c]) = 64 * fold64 l + val c := by unfold fold64; rw [List.foldl_append]; rfl
theorem fold64_lt (l : List UInt8) : fold64 l < 64 ^ l.length := by
  have h : ∀ n, l.foldl (fun n c => 64 * n + val c) n < 64 ^ l.length * (n + 1) := by
    induction l with
    | nil => intro n; simp
    | cons a l ih =>
      intro n
      have h1 := ih (64 * n + val a)
      have h2 := val_lt a
      rw [List.foldl_cons, List.length_cons, Nat.pow_succ]
      refine Nat.lt_of_lt_of_le h1 ?_
      rw [Nat.mul_assoc]
      exact Nat.mul_le_mul_left _ (by omega)
  have := h 0
  simpa [fold64] using this
theorem fold64_four (a b c d : UInt8) : fold64 [a, b, c, d] = n4 a b c d := by unfold fold64 n4; simp
theorem max_val (c : UInt8) : max (valI c) 0 = (val c : Int) := by
  unfold valI val
  cases h : num c with
  | none => rfl
  | some n => simp
theorem valI_le (c : UInt8) : -1 ≤ valI c ∧ valI c ≤ 63 := by
  unfold valI
  cases h : num c with
  | none => simp
  | some n => have := (num_some h).1; simp; omega
theorem valI_or (c : UInt8) : valI c = (val c : Int) ∨ (valI c = -1 ∧ val c = 0) := by
  unfold valI val
  cases h : num c with
  | none => exact .inr ⟨rfl, rfl⟩
  | some n => exact .inl rfl
theorem drop4 {s : ByteArray} (k : Nat) (h : k + 4 ≤ s.size) : s.data.toList.drop k = s[k] :: s[k + 1] :: s[k + 2] :: s[k + 3] :: s.data.toList.drop (k + 4) := by
  rw [drop1 k (by omega), drop1 (k + 1) (by omega), drop1 (k + 2) (by omega), drop1 (k + 3) (by omega)]
theorem dl_short {t : List UInt8} (h : t.length < 4) : dl t = [] := by
  have := dl_len t
  exact List.eq_nil_of_length_eq_zero (by omega)
theorem ofNat_nat {n : Nat} (h : n < 256) : (UInt8.ofNat n).toNat = n := by rw [UInt8.toNat_ofNat']; exact Nat.mod_eq_of_lt h

set_option maxRecDepth 20000 in
set_option maxHeartbeats 4000000 in
theorem decode_any (s : ByteArray) (w : World) (hs : s.size ≤ 16777216) :
    Calls Try.prog 82 #[.string s] w fun e w' => e = .returned (.string (bt (dl s.data.toList))) ∧ Below w.heap.size w w' := by
  have hl : s.data.toList.length = s.size := by simp
  have HL := Lib.hid hl
  clear hl
  obtain ⟨i0, hi, hz0, hz1, hz2⟩ := info_parts Try.infoByte
  go_enter Try.func82, Try.ntmps82
  go_wp2
  go_loopw [3, 4, 5, 6] (fun v i n j wr => ∃ (k : Nat) (P : List UInt8), k ≤ s.size ∧ i = .int .i64 (k : Int) ∧ wr.ownsRow w.heap.size 5 1 v P.length (Lib.byteCells P) ∧ Below w.heap.size w wr ∧ Hid (dl s.data.toList = P ++ dl (s.data.toList.drop k)))
    (fun _ i _ _ _ => s.size + 2 - (intOf i).toNat)
  case atStart =>
    exact ⟨0, [], by omega, by go_num, World.ownsRow_lit w #[] 0 (Nat.le_refl _) (by unfold maxLen; omega) rfl, (Below.refl _ _).alloc (Nat.le_refl _) _, rfl⟩
  case round =>
    obtain ⟨k, P, hk, rfl, hown, hbel, HE⟩ := hrel
    have hz := hbel.size
    have HB := Lib.hid hbel
    clear hbel
    have h0 : (0 : Int) ≤ (k : Int) := by omega
    have hP : P.length ≤ 2 * s.size + 10 := by have h := congrArg List.length HE.out; rw [dl_len, List.length_append, HL.out] at h; omega
    by_cases hlt : k + 4 ≤ s.size
    · have h1 : (k : Int) + 4 ≤ (s.size : Int) := by omega
      obtain ⟨k4, hk4⟩ : ∃ k4, k4 = k + 4 := ⟨_, rfl⟩
      have E4 : (k : Int) + 4 = (k4 : Int) := by omega
      have hn4 : k4 ≤ s.size := by omega
      have hn4' : (k4 : Int) ≤ (s.size : Int) := by omega
      have HK4 := Lib.hid hk4
      clear hk4 h1
      go_wp2
      go_loop [5, 6] (fun n jv => ∃ (d f j : Nat), d ≤ 4 ∧ n = .int .i64 (f : Int) ∧ jv = .int .i64 (j : Int) ∧ j = k + d ∧ f < 16777216 ∧ Hid (f = fold64 ((s.data.toList.drop k).take d))) (fun _ jv => k + 4 - (intOf jv).toNat)
      case atStart => exact ⟨0, 0, k, by omega, by go_num, by go_num, by omega, by omega, rfl⟩
      case round =>
        obtain ⟨d, f, j, hd, rfl, rfl, hj, hf, HF⟩ := hrel
        by_cases h4 : d < 4
        · have hjs : j < s.size := by omega
          have c0 : (0 : Int) ≤ (j : Int) := by omega
          have c1 : (j : Int) < (s.size : Int) := by omega
          have c2 : (j : Int) < (k4 : Int) := by omega
          have hc2 : j < k4 := by omega
          obtain ⟨x, hx⟩ : ∃ x, s[j] = x := ⟨_, rfl⟩
          obtain ⟨y, hy⟩ : ∃ y, val x = y := ⟨_, rfl⟩
          have EM : max (valI x) 0 = (y : Int) := by rw [max_val, hy]
          have hyl : y < 64 := by rw [← hy]; exact val_lt x
          have hv1 := (valI_le x).1
          have hv2 := (valI_le x).2
          have hF2 : 64 * f + y = fold64 ((s.data.toList.drop k).take (d + 1)) := by
            have hl2 : d < (s.data.toList.drop k).length := by rw [List.length_drop, HL.out]; omega
            rw [List.take_succ_eq_append_getElem hl2, fold64_add, ← HF.out, ← hy, ← hx]
            have : (s.data.toList.drop k)[d] = s[j] := by
              rw [List.getElem_drop]
              subst hj
              rfl
            rw [this]
          have hfl : 64 * f + y < 16777216 := by
            rw [hF2]
            have h := fold64_lt ((s.data.toList.drop k).take (d + 1))
            have h2 : 64 ^ ((s.data.toList.drop k).take (d + 1)).length ≤ 64 ^ 4 := Nat.pow_le_pow_right (by omega) (by rw [List.length_take]; omega)
            omega
          have HF2 := Lib.hid hF2
          have HY := Lib.hid hy
          have HX := Lib.hid hx
          have HJ := Lib.hid hj
          have hy2 := hy
          clear hF2 hy hj
          rcases valI_or x with EV | ⟨EV, E0⟩
          · rw [hy2] at EV
            clear EM hv1 hv2
            go_wp2_with fail
            refine (value_at x _).mono ?_
            rintro e w1 ⟨rfl, rfl⟩
            rw [EV]
            clear EV
            go_wp2
            go_round
            case rel =>
              exact ⟨d + 1, 64 * f + y, j + 1, by omega, by go_num, by go_num, by have := HJ.out; omega, hfl, HF2⟩
            case measure => simp [intOf]; have := HJ.out; omega
          · rw [hy2] at E0
            subst E0
            clear EM hv1 hv2
            go_wp2_with fail
            refine (value_at x _).mono ?_
            rintro e w1 ⟨rfl, rfl⟩
            rw [EV]
            clear EV
            go_wp2
            go_round
            case rel =>
              exact ⟨d + 1, 64 * f, j + 1, by omega, by go_num, by go_num, by have := HJ.out; omega, by omega, HF2⟩
            case measure => simp [intOf]; have := HJ.out; omega
        · have hd4 : d = 4 := by omega
          subst hd4
          have c2 : ¬ (j : Int) < (k4 : Int) := by omega
          have hc2 : ¬ j < k4 := by omega
          obtain ⟨x0, hx0⟩ : ∃ m, m = f / 65536 := ⟨_, rfl⟩
          obtain ⟨x1, hx1⟩ : ∃ m, m = f / 256 % 256 := ⟨_, rfl⟩
          obtain ⟨x2, hx2⟩ : ∃ m, m = f % 256 := ⟨_, rfl⟩
          have D0 : (f : Int) / 65536 = (x0 : Int) := by omega
          have D1 : (f : Int) / 256 % 256 = (x1 : Int) := by omega
          have D2 : (f : Int) % 256 = (x2 : Int) := by omega
          have l0 : (x0 : Int) ≤ 255 := by omega
          have l1 : (x1 : Int) ≤ 255 := by omega
          have l2 : (x2 : Int) ≤ 255 := by omega
          have g0 : (0 : Int) ≤ (x0 : Int) := by omega
          have g1 : (0 : Int) ≤ (x1 : Int) := by omega
          have g2 : (0 : Int) ≤ (x2 : Int) := by omega
          have HX0 := Lib.hid hx0
          have HX1 := Lib.hid hx1
          have HX2 := Lib.hid hx2
          have HJ := Lib.hid hj
          clear hx0 hx1 hx2 hj
          go_wp2_with (at_builtin; refine wpList_append_own _ rfl _ _ 22 rfl w.heap.size 5 i0 (.int .u8 0) 1 1 Try.underlying22 hi hz0 hz1 hz2 rfl (by decide) _ _ _ rfl (hown.alloc _) _ 3 3 [.int .u8 (x0 : Int), .int .u8 (x1 : Int), .int .u8 (x2 : Int)] rfl rfl ?q1 ?q2 ?q3 ?q4 ?q5 ?_)
          case q2 => first
            | exact ⟨rfl, rfl, rfl⟩
            | (intro u hu
               simp only [List.mem_cons, List.not_mem_nil, or_false] at hu
               rcases hu with rfl | rfl | rfl <;> rfl)
          case q3 => first
            | (unfold maxLen; omega)
            | omega
          case q4 => omega
          case q5 => first
            | omega
            | (simp; omega)
          intro v' w1 hown1 hgrow _
          have hbl := (HB.out.alloc hz (.cells #[.int .u8 (x0 : Int), .int .u8 (x1 : Int), .int .u8 (x2 : Int)] 5)).grown hgrow (by simp; omega) (fun q hq => (hown.lt q hq).1)
          have HO := Lib.hid hown1
          have HBL := Lib.hid hbl
          clear hown1 hgrow hbl hown
          go_wp2
          go_roundw
          case rel =>
            refine ⟨k + 4, P ++ [UInt8.ofNat x0, UInt8.ofNat x1, UInt8.ofNat x2], by omega, by go_num, ?_, HBL.out, ?_⟩
            · have h := HO.out
              simpa [Lib.byteCells, ofNat_nat (show x0 < 256 by omega), ofNat_nat (show x1 < 256 by omega), ofNat_nat (show x2 < 256 by omega)] using h
            · have hE := HE.out
              have hf4 := HF.out
              rw [drop4 k hlt, dl_more] at hE
              rw [drop4 k hlt] at hf4
              have e4 : f = n4 s[k] s[k + 1] s[k + 2] s[k + 3] := hf4.trans (fold64_four _ _ _ _)
              show dl s.data.toList = _
              rw [hE, HX0.out, HX1.out, HX2.out, e4]
              simp
          case measure => simp [intOf]; omega
    · have h1 : ¬ (k : Int) + 4 ≤ (s.size : Int) := by omega
      have hE := HE.out
      rw [dl_short (t := s.data.toList.drop k) (by rw [List.length_drop, HL.out]; omega), List.append_nil] at hE
      have HE2 := Lib.hid hE
      clear hE HE
      rcases hown.2 with ⟨rfl, h0⟩ | ⟨g, cap, cur, rfl, -, -, -, -, -, -⟩
      · have hcv := Lib.run_convert_nil_bytes (P := Try.prog) wr 22 9 5 0 Try.underlying22 Try.underlying5 Try.underlying9
        have hp : P = [] := List.eq_nil_of_length_eq_zero h0
        subst hp
        go_wp2
        go_ret
        exact ⟨by rw [HE2.out]; rfl, HB.out⟩
      · have hcv := run_convert_bytes_back (P := Try.prog) wr 22 9 5 ⟨g, 0, none⟩ cap P Try.underlying22 Try.underlying5 Try.underlying9 (fun j hj => hown.cells (g := g) rfl j _ (by simp [Lib.byteCells, hj]))
        have HW := Lib.hid hown
        clear hown
        go_wp2
        go_ret
        exact ⟨by rw [HE2.out]; rfl, HB.out⟩
end Go.Proofs.Ytichajalinkcdaa
namespace Go.Proofs.Ytichajalinkcdaa
open Go.RowKit
set_option linter.unusedVariables false

theorem index_letters : ∀ c : Fin 256, Lib.indexByte (⟨#[65, 66, 67, 68, 69, 70, 71, 72, 73, 74, 75, 76, 77, 78, 79, 80, 81, 82, 83, 84, 85, 86, 87, 88, 89, 90, 97, 98, 99, 100, 101, 102, 103, 104, 105, 106, 107, 108, 109, 110, 111, 112, 113, 114, 115, 116, 117, 118, 119, 120, 121, 122, 48, 49, 50, 51, 52, 53, 54, 55, 56, 57, 43, 47]⟩ : ByteArray).data.toList (UInt8.ofNat c.1) = valI (UInt8.ofNat c.1) := by decide +kernel
theorem valI_yes {c : UInt8} (h : (num c).isSome = true) : valI c = (val c : Int) := by
  rcases valI_or c with e | ⟨e, _⟩
  · exact e
  · unfold valI at e
    cases hn : num c with
    | none => rw [hn] at h; cases h
    | some n => rw [hn] at e; simp at e
theorem valI_not {c : UInt8} (h : (num c).isSome = false) : valI c = -1 := by
  unfold valI
  cases hn : num c with
  | none => rfl
  | some n => rw [hn] at h; cases h
theorem acc_join {s : ByteArray} {k : Nat} (h : k < s.size) (h3 : k ≤ 3) : bits .or .i64 ((acc s.data.toList k : Nat) : Int) (wrap64 ((val s[k] : Int) * 2 ^ (6 * (3 - k)))) = ((acc s.data.toList (k + 1) : Nat) : Int) := by
  have hb := val_lt s[k]
  have e := list_at h 61
  have hl := acc_lt s.data.toList k
  rcases (by omega : k = 0 ∨ k = 1 ∨ k = 2 ∨ k = 3) with rfl | rfl | rfl | rfl
  · have e1 : wrap64 ((val s[0] : Int) * 2 ^ (6 * (3 - 0))) = ((262144 * val s[0] : Nat) : Int) := by unfold wrap64; simp; omega
    rw [e1, or_join _ _ 24 (by omega) (by omega) (by omega) (by rfl), acc_step1, e]
  · have e1 : wrap64 ((val s[1] : Int) * 2 ^ (6 * (3 - 1))) = ((4096 * val s[1] : Nat) : Int) := by unfold wrap64; simp; omega
    rw [e1, or_join _ _ 18 (by omega) (by omega) (by omega) (acc_mod1 _), acc_step2, e]
  · have e1 : wrap64 ((val s[2] : Int) * 2 ^ (6 * (3 - 2))) = ((64 * val s[2] : Nat) : Int) := by unfold wrap64; simp; omega
    rw [e1, or_join _ _ 12 (by omega) (by omega) (by omega) (acc_mod2 _), acc_step3, e]
  · have e1 : wrap64 ((val s[3] : Int) * 2 ^ (6 * (3 - 3))) = ((val s[3] : Nat) : Int) := by unfold wrap64; simp; omega
    rw [e1, or_join _ _ 6 (by omega) (by omega) (by omega) (acc_mod3 _), acc_step4, e]
/-- The bytes of a group, of which 'd' are written. -/
def pv (m d j : Nat) : Int := if j < d then ((m : Int) / 2 ^ (8 * (2 - j))) % 256 else 0
def ps (m d : Nat) : Array Value := #[.int .u8 (pv m d 0), .int .u8 (pv m d 1), .int .u8 (pv m d 2)]
theorem ps_step (m d : Nat) (h : d ≤ 2) : (ps m d).setIfInBounds d (.int .u8 (((m : Int) / 2 ^ (8 * (2 - d))) % 256)) = ps m (d + 1) := by
  rcases (by omega : d = 0 ∨ d = 1 ∨ d = 2) with rfl | rfl | rfl <;> rfl
theorem ps_three (m j : Nat) (hm : m < 16777216) (hj : j < 3) : (ps m 3)[j]? = some (.int .u8 (((three m)[j]'hj).toNat : Int)) := by
  have h0 := ofNat_nat (n := m / 65536 % 256) (by omega)
  have h1 := ofNat_nat (n := m / 256 % 256) (by omega)
  have h2 := ofNat_nat (n := m % 256) (by omega)
  rcases (by omega : j = 0 ∨ j = 1 ∨ j = 2) with rfl | rfl | rfl
  · show some (Value.int .u8 ((m : Int) / 2 ^ (8 * (2 - 0)) % 256)) = some (Value.int .u8 ((UInt8.ofNat (m / 65536 % 256)).toNat : Int))
    rw [h0]
    congr 2
  · show some (Value.int .u8 ((m : Int) / 2 ^ (8 * (2 - 1)) % 256)) = some (Value.int .u8 ((UInt8.ofNat (m / 256 % 256)).toNat : Int))
    rw [h1]
    congr 2
  · show some (Value.int .u8 ((m : Int) / 2 ^ (8 * (2 - 2)) % 256)) = some (Value.int .u8 ((UInt8.ofNat (m % 256)).toNat : Int))
    rw [h2]
    congr 2
    omega
theorem ps_at (m d : Nat) (h : d ≤ 2) : (ps m d)[d]? = some (.int .u8 0) := by
  rcases (by omega : d = 0 ∨ d = 1 ∨ d = 2) with rfl | rfl | rfl <;> rfl

end Go.Proofs.Ytichajalinkcdaa
namespace Go.Proofs.Ytichajalinkcdaa
open Go.RowKit
set_option linter.unusedVariables false

theorem bt_of (v : ByteArray) : bt v.data.toList = v := by cases v; simp [bt]
theorem bt_eq {v : ByteArray} {l : List UInt8} (h : v.data.toList = l) : v = bt l := by rw [← h, bt_of]
theorem bt_list (l : List UInt8) : (bt l).data.toList = l := rfl
theorem bt_size (l : List UInt8) : (bt l).size = l.length := rfl
/-- A text is told. -/
def Says (w : World) (t : ByteArray) (e : Ending) (w' : World) : Prop := e = .returned (.string t) ∧ Below w.heap.size w w'
/-- What the encoder gives. -/
def encB (s : ByteArray) : ByteArray := if s.size ≤ 30 then bt (enc s.data.toList) else ⟨#[]⟩
theorem encB_yes {s : ByteArray} (h : s.size ≤ 30) : encB s = bt (enc s.data.toList) := by unfold encB; rw [if_pos h]
theorem encB_no {s : ByteArray} (h : ¬ s.size ≤ 30) : encB s = ⟨#[]⟩ := by unfold encB; rw [if_neg h]
theorem encB_le (s : ByteArray) : (encB s).size ≤ 40 := by
  by_cases h : s.size ≤ 30
  · rw [encB_yes h, bt_size, enc_len]
    have : s.data.toList.length = s.size := by simp
    omega
  · rw [encB_no h]; exact Nat.zero_le _
/-- Bytes and whether there are any are told. -/
def Gives (w : World) (x : ByteArray) (o : Bool) (e : Ending) (w' : World) : Prop := e = .returned (.tuple #[.string x, .bool o]) ∧ Below w.heap.size w w'
/-- What a decoder tells of a text. -/
def IsD (s : ByteArray) (o : Bool) (x : ByteArray) : Prop := Dec s.data.toList o x.data.toList
theorem isD_any (s : ByteArray) : ∃ o x, IsD s o x := by
  obtain ⟨o, x, h⟩ := dec_any s.data.toList
  exact ⟨o, bt x, h⟩
theorem isD_one {s x y : ByteArray} {o p : Bool} (h : IsD s o x) (k : IsD s p y) : o = p ∧ x = y := by
  obtain ⟨h1, h2⟩ := dec_one h k
  exact ⟨h1, by rw [← bt_of x, h2, bt_of]⟩
theorem isD_le {s x : ByteArray} {o : Bool} (h : IsD s o x) : x.size ≤ 30 := by
  have hl : x.data.toList.length = x.size := by simp
  cases o
  · have h0 : x.data.toList.length = 0 := by rw [(h.2 rfl).1]; rfl
    omega
  · have := (h.1 rfl).1
    omega
theorem gives_mk {w w' : World} {s x y : ByteArray} {o p : Bool} (h : IsD s o x) (k : IsD s p y) (hb : Below w.heap.size w w') : Gives w x o (.returned (.tuple #[.string y, .bool p])) w' := by
  obtain ⟨h1, h2⟩ := isD_one h k
  subst h1
  subst h2
  exact ⟨rfl, hb⟩
theorem isD_no {s : ByteArray} (h : Dec s.data.toList false []) : IsD s false ⟨#[]⟩ := h

set_option maxRecDepth 20000 in
set_option maxHeartbeats 4000000 in
theorem sdec {s x : ByteArray} {o : Bool} (h : IsD s o x) (w : World) (hs : s.size ≤ 16777216) : Calls Try.prog 79 #[.string s] w (Gives w x o) := by
  have hl : s.data.toList.length = s.size := by simp
  have HL := Lib.hid hl
  have H := Lib.hid h
  clear hl h
  by_cases h1 : 40 < s.size
  · have h1' : (40 : Int) < (s.size : Int) := by omega
    have HN := Lib.hid (isD_no (dec_long (by rw [HL.out]; exact h1)))
    go_enter Try.func79, Try.ntmps79
    go_wp2
    go_ret2
    exact gives_mk H.out HN.out (Below.refl _ _)
  · have h1' : ¬ (40 : Int) < (s.size : Int) := by omega
    by_cases h2 : s.size % 4 = 0
    · have h2' : (((s.size : Int) % 4) != 0) = false := by simp; omega
      obtain ⟨A, hA⟩ : ∃ A, bt (dl s.data.toList) = A := ⟨_, rfl⟩
      have hAl : A.data.toList = dl s.data.toList := by rw [← hA]; rfl
      have hAs : A.size = (dl s.data.toList).length := by rw [← hA]; rfl
      have hA30 : A.size ≤ 30 := by rw [hAs, dl_len, HL.out]; omega
      have HA := Lib.hid hA
      have HAL := Lib.hid hAl
      have HAS := Lib.hid hAs
      clear hA hAl hAs
      go_enter Try.func79, Try.ntmps79
      go_wp2_with fail
      refine (decode_any s _ hs).mono ?_
      rintro e w1 ⟨rfl, hb⟩
      rw [HA.out]
      have HB1 := Lib.hid hb
      clear hb
      go_wp2
      go_loopw [5] (fun i wr => ∃ (k : Nat), k ≤ 3 ∧ k ≤ A.size + 1 ∧ i = .int .i64 (k : Int) ∧ Below w.heap.size w wr ∧ Hid (∀ m, m < k → m ≤ A.size → enc ((dl s.data.toList).take (A.size - m)) ≠ s.data.toList)) (fun i _ => 4 - (intOf i).toNat)
      case atStart => exact ⟨0, by omega, by omega, by go_num, HB1.out, fun m hm => absurd hm (by omega)⟩
      case round =>
        obtain ⟨k, hk, hk2, rfl, hbel, HM⟩ := hrel
        have HB := Lib.hid hbel
        have hz := hbel.size
        clear hbel
        by_cases hin : k ≤ 2 ∧ k ≤ A.size
        · obtain ⟨hk3, hk4⟩ := hin
          have c1 : (k : Int) ≤ 2 := by omega
          have c2 : (k : Int) ≤ (A.size : Int) := by omega
          obtain ⟨q, hq⟩ : ∃ q, A.size - k = q := ⟨_, rfl⟩
          have E1 : (A.size : Int) - (k : Int) = (q : Int) := by omega
          have c3 : (0 : Int) ≤ (q : Int) := by omega
          have c4 : (q : Int) ≤ (A.size : Int) := by omega
          have hql : q ≤ A.size := by omega
          have HQ := Lib.hid hq
          clear hq
          have hes : (A.extract 0 q).size ≤ 16777216 := by rw [ByteArray.size_extract]; omega
          have hel : (A.extract 0 q).data.toList = (dl s.data.toList).take q := by rw [extract_list, HAL.out]; simp
          obtain ⟨t, ht⟩ : ∃ t, bt (enc (A.extract 0 q).data.toList) = t := ⟨_, rfl⟩
          by_cases he : enc ((dl s.data.toList).take q) = s.data.toList
          · have hq2 : (t.toList == s.toList) = true := by
              rw [ByteArray.toList_eq, ByteArray.toList_eq, ← ht, bt_list, hel, he]
              exact beq_self_eq_true _
            have hd : IsD s true (A.extract 0 q) := by
              unfold IsD
              rw [hel]
              exact dec_hit (by rw [HL.out]; omega) he
            have HD := Lib.hid hd
            have HT := Lib.hid ht
            have HES := Lib.hid hes
            clear hd ht hel he hes
            go_wp2_with fail
            refine (encode_any (A.extract 0 q) _ HES.out).mono ?_
            rintro e w2 ⟨rfl, hb⟩
            rw [HT.out]
            have HB2 := Lib.hid (HB.out.trans (hb.mono hz))
            clear hb
            go_wp2
            go_ret2
            exact gives_mk H.out HD.out HB2.out
          · have hq2 : (t.toList == s.toList) = false := by
              rw [ByteArray.toList_eq, ByteArray.toList_eq, ← ht, bt_list, hel]
              exact beq_eq_false_iff_ne.2 he
            have HNE := Lib.hid he
            have HT := Lib.hid ht
            have HES := Lib.hid hes
            clear ht hel he hes
            go_wp2_with fail
            refine (encode_any (A.extract 0 q) _ HES.out).mono ?_
            rintro e w2 ⟨rfl, hb⟩
            rw [HT.out]
            have HB2 := Lib.hid (HB.out.trans (hb.mono hz))
            clear hb
            go_wp2
            go_roundw
            case rel =>
              refine ⟨k + 1, by omega, by omega, by go_num, HB2.out, fun m hm hmA => ?_⟩
              rcases Nat.lt_or_ge m k with hlt | hge
              · exact HM.out m hlt hmA
              · have : m = k := by omega
                subst this
                rw [HQ.out]
                exact HNE.out
            case measure => simp [intOf]; omega
        · have hmiss : IsD s false ⟨#[]⟩ := isD_no (dec_miss (fun m hm hmA => by
            rw [← HAS.out] at hmA ⊢
            exact HM.out m (by omega) hmA))
          have HN := Lib.hid hmiss
          clear hmiss
          by_cases c1 : k ≤ 2
          · have c1' : (k : Int) ≤ 2 := by omega
            have c2 : ¬ (k : Int) ≤ (A.size : Int) := by omega
            have c2' : ¬ k ≤ A.size := by omega
            go_wp2
            go_ret2
            exact gives_mk H.out HN.out HB.out
          · have c1' : ¬ (k : Int) ≤ 2 := by omega
            go_wp2
            go_ret2
            exact gives_mk H.out HN.out HB.out
    · have h2' : (((s.size : Int) % 4) != 0) = true := by simp; omega
      have HN := Lib.hid (isD_no (dec_len (by rw [HL.out]; exact h2)))
      go_enter Try.func79, Try.ntmps79
      go_wp2
      go_ret2
      exact gives_mk H.out HN.out (Below.refl _ _)
end Go.Proofs.Ytichajalinkcdaa
namespace Go.Proofs.Ytichajalinkcdaa
open Go.RowKit Go.Shelf
set_option linter.unusedVariables false
attribute [local go_sem] Oper.semAt_some

theorem builder_kept {T e : TypeId} {B b : Nat} {bs : List Value} {W W' : World} {row : Option Nat} (h : Lib.IsBuilder T e B b bs W) (hg : W.grownBy W' row) (hr : ∀ r, row = some r → ∃ o : Obj, W.heap[r]? = some o ∧ o.isCells = false) : Lib.IsBuilder T e B b bs W' := by
  have one : ∀ p, Lib.BuilderAt T e B b p bs W → Lib.BuilderAt T e B b p bs W' := by
    rintro p ⟨hB, v, hb, hown, hne⟩
    have hlt : b < W.heap.size := (Array.getElem?_eq_some_iff.1 hb).1
    refine ⟨hB, v, ?_, ?_, hne⟩
    · rw [hg.block b hlt ?_]
      · exact hb
      · intro e
        obtain ⟨o, ho, hc⟩ := hr b e.symm
        rw [hb] at ho
        cases ho
        cases hc
    · refine hown.kept hg ?_
      cases hv : v.ownBlock with
      | none =>
        rcases hown.2 with ⟨rfl, _⟩ | ⟨g, cap, cur, rfl, _⟩
        · exact Or.inl rfl
        · simp [Value.ownBlock] at hv
      | some g =>
        refine Or.inr ?_
        intro e
        obtain ⟨o, ho, hc⟩ := hr g e.symm
        obtain ⟨c, fz, hh⟩ := Lib.ownsRowF_kind (World.ownsRowF_of hown) g hv
        rw [hh] at ho
        cases ho
        cases hc
  rcases h with h | h
  · exact .inl (one _ h)
  · exact .inr (one _ h)
theorem others_keep {e : TypeId} {b : Nat} {W W' : World} {t : TypeId} {cs : Array Value} (h : Lib.OthersKept e (some b) W W') (hw : Whole W b t cs) (hs : W.heap.size ≤ W'.heap.size) : KeepsOthers W W' :=
  ⟨hs, fun k o hk ho => h k o hk (by
    intro e
    cases e
    rw [show W.heap[b]? = _ from hw] at hk
    cases hk
    cases ho) (by
    intro c fz e
    subst e
    cases ho)⟩
theorem others_whole {e : TypeId} {b c : Nat} {W W' : World} {t : TypeId} {cs : Array Value} (h : Lib.OthersKept e (some b) W W') (hw : Whole W c t cs) (hc : c ≠ b) (ht : t ≠ e) : Whole W' c t cs :=
  h c _ hw (by intro e; cases e; exact hc rfl) (by intro c' fz e; cases e; exact ht rfl)
theorem Lib_byteCells_append (a b : List UInt8) : Lib.byteCells (a ++ b) = Lib.byteCells a ++ Lib.byteCells b := by simp [Lib.byteCells]
theorem str_cells (l : List UInt8) : Lib.strCells (bt l) = Lib.byteCells l := rfl
theorem builder_new {T e : TypeId} (w : World) : Lib.IsBuilder T e w.heap.size w.heap.size [] (w.alloc (.cells #[.pointer none, .slice none 0 0] T)) := Lib.fresh_isBuilder T e w

theorem whole_kept {W W' : World} {b : Nat} {t : TypeId} {cs : Array Value} {row : Option Nat} (h : Whole W b t cs) (hg : W.grownBy W' row) (hr : ∀ r, row = some r → ∃ o : Obj, W.heap[r]? = some o ∧ o.isCells = false) : Whole W' b t cs :=
  h.grown hg (fun e => by
    obtain ⟨o, ho, hc⟩ := hr b e.symm
    rw [show W.heap[b]? = _ from h] at ho
    cases ho
    cases hc)
theorem flat_len {n k : Nat} {f : List UInt8 → List UInt8} (hf : ∀ x : Gn n, (f x.1.data.toList).length ≤ k) (pre : List (Gn n)) : ((gl pre).flatMap f).length ≤ k * pre.length := by
  induction pre with
  | nil => simp [gl]
  | cons x t ih =>
    have := hf x
    show (f x.1.data.toList ++ (gl t).flatMap f).length ≤ _
    rw [List.length_append, List.length_cons, Nat.mul_add]
    omega
theorem toList_iff {x y : ByteArray} : x.toList = y.toList ↔ x = y := by
  rw [ByteArray.toList_eq, ByteArray.toList_eq]
  constructor
  · intro h; rw [← bt_of x, h, bt_of]
  · rintro rfl; rfl
theorem isD_same {s : ByteArray} (h : (encB (bt (dg s.data.toList))).toList = s.toList) : IsD s true (bt (dg s.data.toList)) := by
  rw [toList_iff] at h
  by_cases hl : (bt (dg s.data.toList)).size ≤ 30
  · rw [encB_yes hl] at h
    exact dg_same hl (by rw [bt_list] at h; rw [← bt_list (enc (dg s.data.toList)), h])
  · rw [encB_no hl] at h
    subst h
    exact absurd (show (bt (dg [])).size ≤ 30 by decide) hl
theorem isD_other {s : ByteArray} (h : ¬ (encB (bt (dg s.data.toList))).toList = s.toList) : IsD s false ⟨#[]⟩ := by
  refine isD_no (dg_other (fun hl he => h ?_))
  rw [toList_iff, encB_yes (by rw [bt_size]; exact hl), bt_list, he, bt_of]
end Go.Proofs.Ytichajalinkcdaa
namespace Go.Proofs.Ytichajalinkcdaa
open Go.RowKit
set_option linter.unusedVariables false

/-- The text of a proof. -/
def mkB (u p : ByteArray) : ByteArray := bt (mk u.data.toList p.data.toList)
theorem zero_cat (u p : ByteArray) : ((⟨#[0]⟩ : ByteArray) ++ u ++ ⟨#[0]⟩ ++ p).data.toList = two0 u.data.toList p.data.toList := by
  unfold two0
  rw [cat_list, cat_list, cat_list]
  simp
theorem zero_size (u p : ByteArray) : ((⟨#[0]⟩ : ByteArray) ++ u ++ ⟨#[0]⟩ ++ p).size = u.size + p.size + 2 := by
  rw [ByteArray.size_append, ByteArray.size_append, ByteArray.size_append, one_size]
  omega
theorem name_size {u : ByteArray} (h : nameB u.data.toList = true) : u.size ≤ 8 := by
  have h1 := (nameB_iff.1 h).2.2
  have hl : u.data.toList.length = u.size := by simp
  omega
theorem mkB_yes {u p : ByteArray} (hu : nameB u.data.toList = true) (hp : nameB p.data.toList = true) : encB ((⟨#[0]⟩ : ByteArray) ++ u ++ ⟨#[0]⟩ ++ p) = mkB u p := by
  have h1 := name_size hu
  have h2 := name_size hp
  rw [encB_yes (by rw [zero_size]; omega), zero_cat]
  unfold mkB
  rw [mk_yes hu hp]
theorem mkB_yes' {u p : ByteArray} (hu : nameB u.data.toList = true) (hp : nameB p.data.toList = true) : bt (enc ((⟨#[0]⟩ : ByteArray) ++ u ++ ⟨#[0]⟩ ++ p).data.toList) = mkB u p := by
  have h1 := name_size hu
  have h2 := name_size hp
  rw [← mkB_yes hu hp, encB_yes (by rw [zero_size]; omega)]
theorem mkB_no {u p : ByteArray} (h : (nameB u.data.toList && nameB p.data.toList) = false) : mkB u p = ⟨#[]⟩ := by
  unfold mkB
  rw [mk_no h]
  rfl
theorem mkB_le (u p : ByteArray) : (mkB u p).size ≤ 24 := by
  unfold mkB
  rw [bt_size]
  unfold mk
  split
  · rename_i h
    rw [Bool.and_eq_true] at h
    have h1 := name_size h.1
    have h2 := name_size h.2
    rw [enc_len, ← zero_cat]
    have hl : ∀ v : ByteArray, v.data.toList.length = v.size := fun v => by simp
    rw [hl, zero_size]
    omega
  · exact Nat.zero_le _

set_option maxHeartbeats 1000000 in
theorem smake (u p : ByteArray) (w : World) (hu : u.size ≤ 16777216) (hp : p.size ≤ 16777216) : Calls Try.prog 60 #[.string u, .string p] w (Says w (mkB u p)) := by
  cases hv : nameB u.data.toList with
  | false =>
    have HV := Lib.hid hv
    have HN := Lib.hid (mkB_no (u := u) (p := p) (by rw [hv]; rfl))
    clear hv
    go_enter Try.func60, Try.ntmps60
    go_wp2_with fail
    refine (spec_name u _ hu).mono ?_
    rintro e w1 ⟨rfl, rfl⟩
    rw [HV.out]
    go_wp2
    go_ret
    exact ⟨by rw [HN.out]; rfl, Below.refl _ _⟩
  | true =>
    have HV := Lib.hid hv
    clear hv
    cases hx : nameB p.data.toList with
    | false =>
      have HX := Lib.hid hx
      have HN := Lib.hid (mkB_no (u := u) (p := p) (by rw [hx]; simp))
      clear hx
      go_enter Try.func60, Try.ntmps60
      go_wp2_with fail
      refine (spec_name u _ hu).mono ?_
      rintro e w1 ⟨rfl, rfl⟩
      rw [HV.out]
      go_wp2_with fail
      refine (spec_name p _ hp).mono ?_
      rintro e w2 ⟨rfl, rfl⟩
      rw [HX.out]
      go_wp2
      go_ret
      exact ⟨by rw [HN.out]; rfl, Below.refl _ _⟩
    | true =>
      have HX := Lib.hid hx
      have HN := Lib.hid (mkB_yes' HV.out hx)
      have hsz : ((⟨#[0]⟩ : ByteArray) ++ u ++ ⟨#[0]⟩ ++ p).size ≤ 16777216 := by rw [zero_size]; have := name_size HV.out; have := name_size hx; omega
      have HZ := Lib.hid hsz
      clear hx hsz
      go_enter Try.func60, Try.ntmps60
      go_wp2_with fail
      refine (spec_name u _ hu).mono ?_
      rintro e w1 ⟨rfl, rfl⟩
      rw [HV.out]
      go_wp2_with fail
      refine (spec_name p _ hp).mono ?_
      rintro e w2 ⟨rfl, rfl⟩
      rw [HX.out]
      go_wp2_with fail
      refine (encode_any _ _ HZ.out).mono ?_
      rintro e w3 ⟨rfl, hb⟩
      have HB3 := Lib.hid hb
      clear hb
      rw [HN.out]
      go_wp2
      go_ret
      exact ⟨rfl, HB3.out⟩
end Go.Proofs.Ytichajalinkcdaa
namespace Go.Proofs.Ytichajalinkcdaa
open Go.RowKit
set_option linter.unusedVariables false

/-- What a reader of proofs tells. -/
def IsPP (s : ByteArray) (o : Bool) (u p : ByteArray) : Prop := PP s.data.toList o u.data.toList p.data.toList
theorem isPP_any (s : ByteArray) : ∃ o u p, IsPP s o u p := by
  obtain ⟨o, u, p, h⟩ := pp_any s.data.toList
  exact ⟨o, bt u, bt p, h⟩
theorem isPP_one {s u p v q : ByteArray} {o r : Bool} (h : IsPP s o u p) (k : IsPP s r v q) : o = r ∧ u = v ∧ p = q := by
  obtain ⟨h1, h2, h3⟩ := pp_one h k
  exact ⟨h1, by rw [← bt_of u, h2, bt_of], by rw [← bt_of p, h3, bt_of]⟩
def Gives3 (w : World) (u p : ByteArray) (o : Bool) (e : Ending) (w' : World) : Prop := e = .returned (.tuple #[.string u, .string p, .bool o]) ∧ Below w.heap.size w w'
theorem gives3_mk {w w' : World} {s u p v q : ByteArray} {o r : Bool} (h : IsPP s o u p) (k : IsPP s r v q) (hb : Below w.heap.size w w') : Gives3 w u p o (.returned (.tuple #[.string v, .string q, .bool r])) w' := by
  obtain ⟨h1, h2, h3⟩ := isPP_one h k
  subst h1
  subst h2
  subst h3
  exact ⟨rfl, hb⟩
theorem isPP_fail {s x : ByteArray} (hd : IsD s true x) (h : ¬ Reads x.data.toList) : IsPP s false ⟨#[]⟩ ⟨#[]⟩ := pp_fails hd h
theorem isPP_off {s x : ByteArray} (hd : IsD s false x) : IsPP s false ⟨#[]⟩ ⟨#[]⟩ := pp_off hd

end Go.Proofs.Ytichajalinkcdaa
namespace Go.Proofs.Ytichajalinkcdaa
set_option linter.unusedVariables false

/-- A user: a name, a password, a quota. -/
abbrev Us := ByteArray × ByteArray × Int
/-- The name of everybody. -/
def evB : ByteArray := ⟨#[97, 110, 121, 111, 110, 101]⟩
/-- A valid user. -/
def okU (u : Us) : Bool := nameB (kb u.1) && (!(kb u.1 == kb evB) && (nameB (kb u.2.1) && (decide (0 ≤ u.2.2) && decide (u.2.2 ≤ 200))))
def ascU (L : List Us) : Prop := L.Pairwise fun a b => ltG a.1 b.1 = true
instance (L : List Us) : Decidable (ascU L) := by unfold ascU; infer_instance
/-- Valid users. -/
def vU (L : List Us) : Bool := (decide (1 ≤ L.length) && decide (L.length ≤ 4)) && (L.all okU && decide (ascU L))
theorem vU_iff {L : List Us} : vU L = true ↔ (1 ≤ L.length ∧ L.length ≤ 4) ∧ (∀ g ∈ L, okU g = true) ∧ ascU L := by
  unfold vU
  simp [List.all_eq_true]
theorem vU_long {L : List Us} (h : ¬ (1 ≤ L.length ∧ L.length ≤ 4)) : vU L = false := by
  cases hv : vU L with
  | false => rfl
  | true => exact absurd (vU_iff.1 hv).1 h
/-- The first users are valid. -/
def goodU (L : List Us) (k : Nat) : Prop := (∀ g ∈ L.take k, okU g = true) ∧ ascU (L.take k)
theorem goodU_zero (L : List Us) : goodU L 0 := ⟨fun g hg => by simp at hg, by unfold ascU; simp⟩
theorem goodU_all {L : List Us} {k : Nat} (h : goodU L k) (hk : L.length ≤ k) : vU L = (decide (1 ≤ L.length) && decide (L.length ≤ 4)) := by
  unfold goodU at h
  rw [List.take_of_length_le hk] at h
  by_cases h4 : 1 ≤ L.length ∧ L.length ≤ 4
  · rw [decide_eq_true h4.1, decide_eq_true h4.2]
    exact vU_iff.2 ⟨h4, h⟩
  · rw [vU_long h4]
    symm
    rw [Bool.and_eq_false_iff]
    by_cases h1 : 1 ≤ L.length
    · exact .inr (decide_eq_false fun h2 => h4 ⟨h1, h2⟩)
    · exact .inl (decide_eq_false h1)
theorem goodU_first {L : List Us} {g : Us} (hg : L[0]? = some g) (ho : okU g = true) : goodU L 1 := by
  unfold goodU
  rw [tsnoc hg, List.take_zero]
  exact ⟨fun x hx => by simp at hx; rw [hx]; exact ho, by unfold ascU; simp⟩
theorem goodU_next {L : List Us} {k : Nat} {p g : Us} (h : goodU L (k + 1)) (hp : L[k]? = some p) (hg : L[k + 1]? = some g) (ho : okU g = true) (hl : ltG p.1 g.1 = true) : goodU L (k + 1 + 1) := by
  unfold goodU at *
  rw [tsnoc hg]
  rw [tsnoc hp] at h ⊢
  refine ⟨fun x hx => ?_, ?_⟩
  · rcases List.mem_append.1 hx with h1 | h1
    · exact h.1 x h1
    · simp at h1
      rw [h1]
      exact ho
  · unfold ascU at *
    rw [List.pairwise_append]
    refine ⟨h.2, by simp, fun a ha b hb => ?_⟩
    simp at hb
    subst hb
    rcases List.mem_append.1 ha with h1 | h1
    · exact ltG_trans ((List.pairwise_append.1 h.2).2.2 a h1 p (by simp)) hl
    · simp at h1
      rw [h1]
      exact hl
theorem vU_bad {L : List Us} {k : Nat} {g : Us} (hg : L[k]? = some g) (ho : okU g = false) : vU L = false := by
  cases hv : vU L with
  | false => rfl
  | true => have := (vU_iff.1 hv).2.1 g (List.mem_of_getElem? hg); rw [ho] at this; cases this
theorem vU_order {L : List Us} {k : Nat} {p g : Us} (hp : L[k]? = some p) (hg : L[k + 1]? = some g) (hl : ltG p.1 g.1 = false) : vU L = false := by
  cases hv : vU L with
  | false => rfl
  | true =>
    have h3 := (vU_iff.1 hv).2.2
    have hk := (List.getElem?_eq_some_iff.1 hp)
    have hk1 := (List.getElem?_eq_some_iff.1 hg)
    have := List.pairwise_iff_getElem.1 h3 k (k + 1) hk.1 hk1.1 (by omega)
    rw [hk.2, hk1.2, hl] at this
    cases this

/-- The place of the first user with a name, counted from 'k', or -1. -/
def ixG : List Us → ByteArray → Nat → Int
  | [], _, _ => -1
  | u :: L, n, k => if kb u.1 = kb n then (k : Int) else ixG L n (k + 1)
/-- The user with a name. -/
def fU (L : List Us) (n : ByteArray) : Option Us := L.find? fun u => kb u.1 == kb n
def noU : Us := (⟨#[]⟩, ⟨#[]⟩, 0)
/-- What UsersFind answers. -/
def usF (L : List Us) (n : ByteArray) : Us × Bool := if vU L then (match fU L n with | some u => (u, true) | none => (noU, false)) else (noU, false)
/-- What UsersProve answers. -/
def prU (L : List Us) (n p : ByteArray) : Bool := (usF L n).2 && (kb (usF L n).1.2.1 == kb p)
/-- What UsersPlain answers, if PlainParse of the text is 'n', 'p', 'o'. -/
def upU (L : List Us) (n p : ByteArray) (o : Bool) : ByteArray × Bool := if o && prU L n p then (n, true) else (⟨#[]⟩, false)

theorem fU_skip {L : List Us} {k : Nat} {u : Us} {n : ByteArray} (hx : L[k]? = some u) (hne : u.1 ≠ n) : fU (L.drop k) n = fU (L.drop (k + 1)) n := by
  obtain ⟨hk, rfl⟩ := List.getElem?_eq_some_iff.1 hx
  unfold fU
  rw [List.drop_eq_getElem_cons hk, List.find?_cons, ne_kb hne]
theorem fU_here {L : List Us} {k : Nat} {u : Us} (hx : L[k]? = some u) : fU (L.drop k) u.1 = some u := by
  obtain ⟨hk, rfl⟩ := List.getElem?_eq_some_iff.1 hx
  unfold fU
  rw [List.drop_eq_getElem_cons hk, List.find?_cons, show (kb L[k].1 == kb L[k].1) = true by simp]
/-- What findBy answers. -/
def fuF (L : List Us) (n : ByteArray) : Us × Bool := match fU L n with | some u => (u, true) | none => (noU, false)
theorem usF_fu (L : List Us) (n : ByteArray) : usF L n = if vU L then fuF L n else (noU, false) := rfl
theorem fuF_skip {L : List Us} {k : Nat} {u : Us} {n : ByteArray} (hx : L[k]? = some u) (hne : u.1 ≠ n) : fuF (L.drop k) n = fuF (L.drop (k + 1)) n := by unfold fuF; rw [fU_skip hx hne]
theorem fuF_here {L : List Us} {k : Nat} {u : Us} (hx : L[k]? = some u) : fuF (L.drop k) u.1 = (u, true) := by unfold fuF; rw [fU_here hx]
theorem ixG_skip {L : List Us} {k : Nat} {u : Us} {n : ByteArray} (hx : L[k]? = some u) (hne : u.1 ≠ n) : ixG (L.drop k) n k = ixG (L.drop (k + 1)) n (k + 1) := by
  obtain ⟨hk, rfl⟩ := List.getElem?_eq_some_iff.1 hx
  rw [List.drop_eq_getElem_cons hk, ixG, if_neg (fun e => hne (kb_inj e))]
theorem ixG_here {L : List Us} {k : Nat} {u : Us} (hx : L[k]? = some u) : ixG (L.drop k) u.1 k = (k : Int) := by
  obtain ⟨hk, rfl⟩ := List.getElem?_eq_some_iff.1 hx
  rw [List.drop_eq_getElem_cons hk, ixG, if_pos rfl]
theorem ixG_case : ∀ (L : List Us) (n : ByteArray) (k : Nat), (fU L n = none ∧ ixG L n k = -1) ∨ ∃ j u, L[j]? = some u ∧ fU L n = some u ∧ ixG L n k = ((k + j : Nat) : Int)
  | [], n, k => .inl ⟨rfl, rfl⟩
  | a :: L, n, k => by
    by_cases h : a.1 = n
    · refine .inr ⟨0, a, rfl, ?_, ?_⟩
      · unfold fU; rw [List.find?_cons, h]; simp
      · rw [ixG, if_pos (by rw [h])]; rfl
    · have e1 : fU (a :: L) n = fU L n := by unfold fU; rw [List.find?_cons, ne_kb h]
      have e2 : ixG (a :: L) n k = ixG L n (k + 1) := by rw [ixG, if_neg (fun e => h (kb_inj e))]
      rcases ixG_case L n (k + 1) with ⟨h1, h2⟩ | ⟨j, u, h1, h2, h3⟩
      · exact .inl ⟨e1.trans h1, e2.trans h2⟩
      · exact .inr ⟨j + 1, u, h1, e1.trans h2, e2.trans (h3.trans (by omega))⟩
theorem fU_some {L : List Us} {n : ByteArray} {u : Us} (h : fU L n = some u) : u ∈ L ∧ u.1 = n := by
  unfold fU at h
  refine ⟨List.mem_of_find?_eq_some h, kb_inj ?_⟩
  have := List.find?_some h
  simpa using this
theorem fU_mem {L : List Us} (ha : ascU L) {u : Us} (hu : u ∈ L) : fU L u.1 = some u := by
  induction L with
  | nil => cases hu
  | cons a L ih =>
    unfold ascU at ha
    rw [List.pairwise_cons] at ha
    unfold fU at ih ⊢
    rw [List.find?_cons]
    rcases List.mem_cons.1 hu with rfl | h
    · rw [show (kb u.1 == kb u.1) = true by simp]
    · rw [ne_kb (ltG_ne (ha.1 u h))]
      exact ih ha.2 h
theorem usF_no {L : List Us} (n : ByteArray) (h : vU L = false) : usF L n = (noU, false) := by unfold usF; rw [h]; rfl
theorem usF_yes {L : List Us} {n : ByteArray} {u : Us} (h : vU L = true) (hf : fU L n = some u) : usF L n = (u, true) := by unfold usF; rw [h, hf]; rfl
theorem usF_none {L : List Us} {n : ByteArray} (h : vU L = true) (hf : fU L n = none) : usF L n = (noU, false) := by unfold usF; rw [h, hf]; rfl
theorem usF_true {L : List Us} {n : ByteArray} {u : Us} (h : usF L n = (u, true)) : vU L = true ∧ fU L n = some u ∧ u ∈ L ∧ u.1 = n ∧ okU u = true := by
  cases hv : vU L with
  | false => rw [usF_no n hv] at h; cases h
  | true =>
    cases hf : fU L n with
    | none => rw [usF_none hv hf] at h; cases h
    | some v =>
      rw [usF_yes hv hf] at h
      cases h
      obtain ⟨h1, h2⟩ := fU_some hf
      exact ⟨rfl, rfl, h1, h2, (vU_iff.1 hv).2.1 u h1⟩
theorem usF_false {L : List Us} {n : ByteArray} {u : Us} (h : usF L n = (u, false)) : u = noU := by
  cases hv : vU L with
  | false => rw [usF_no n hv] at h; cases h; rfl
  | true =>
    cases hf : fU L n with
    | none => rw [usF_none hv hf] at h; cases h; rfl
    | some v => rw [usF_yes hv hf] at h; cases h
theorem okU_parts {u : Us} (h : okU u = true) : nameB (kb u.1) = true ∧ u.1 ≠ evB ∧ nameB (kb u.2.1) = true ∧ 0 ≤ u.2.2 ∧ u.2.2 ≤ 200 := by
  unfold okU at h
  simp at h
  exact ⟨h.1, fun e => h.2.1 (by rw [e]), h.2.2.1, h.2.2.2.1, h.2.2.2.2⟩
theorem usF_ev (L : List Us) : usF L evB = (noU, false) := by
  cases hu : usF L evB with
  | mk u z =>
    cases z with
    | false => rw [usF_false hu]
    | true =>
      obtain ⟨_, _, _, h1, h2⟩ := usF_true hu
      exact absurd h1 (okU_parts h2).2.1
theorem prU_true {L : List Us} {n p : ByteArray} (h : prU L n p = true) : ∃ q : Int, usF L n = ((n, p, q), true) ∧ nameB (kb n) = true ∧ nameB (kb p) = true := by
  unfold prU at h
  cases hu : usF L n with
  | mk u z =>
    rw [hu] at h
    simp only [Bool.and_eq_true] at h
    obtain ⟨h1, h2⟩ := h
    subst h1
    obtain ⟨_, _, _, h3, h4⟩ := usF_true hu
    obtain ⟨u1, u2, q⟩ := u
    obtain rfl : u1 = n := h3
    obtain rfl : u2 = p := kb_inj (by simpa using h2)
    have h5 := okU_parts h4
    exact ⟨q, rfl, h5.1, h5.2.2.1⟩
theorem prU_other {L : List Us} {n p p' : ByteArray} (h : prU L n p = true) (hne : p' ≠ p) : prU L n p' = false := by
  obtain ⟨q, h1, _⟩ := prU_true h
  unfold prU
  rw [h1]
  exact ne_kb (fun e => hne e.symm)
theorem prU_is {L : List Us} {n p : ByteArray} {u : Us} {z : Bool} (h : usF L n = (u, z)) : prU L n p = (z && (kb u.2.1 == kb p)) := by unfold prU; rw [h]
theorem prU_nil {L : List Us} {n p : ByteArray} (h : prU L n p = true) : prU L n ⟨#[]⟩ = false := by
  refine prU_other h ?_
  rintro rfl
  obtain ⟨_, _, _, h3⟩ := prU_true h
  exact absurd h3 (by decide)
theorem prU_more {L : List Us} {n p : ByteArray} (h : prU L n p = true) : prU L n (p ++ ⟨#[97]⟩) = false := by
  refine prU_other h ?_
  intro e
  have := congrArg ByteArray.size e
  rw [ByteArray.size_append] at this
  have h2 : (⟨#[97]⟩ : ByteArray).size = 1 := rfl
  omega
/-- A proof that was made of a name and a password tells them, or nothing if one is none. -/
theorem up_made {L : List Us} {n p v q t : ByteArray} {o : Bool} (hm : mkB n p = t) (hp : IsPP t o v q) : upU L v q o = if prU L n p then (n, true) else (⟨#[]⟩, false) := by
  cases hr : prU L n p with
  | true =>
    obtain ⟨_, _, h2, h3⟩ := prU_true hr
    have hq : IsPP t true n p := by
      rw [← hm]
      exact pp_mk (by rw [mk_yes (u := n.data.toList) (p := p.data.toList) h2 h3]; exact enc_ne (by unfold two0; simp))
    obtain ⟨h4, h5, h6⟩ := isPP_one hp hq
    subst h4 h5 h6
    unfold upU
    rw [hr]
    rfl
  | false =>
    unfold upU
    cases o with
    | false => rfl
    | true =>
      cases hv : prU L v q with
      | false => rfl
      | true =>
        exfalso
        obtain ⟨_, _, h2, h3⟩ := prU_true hv
        have h1 : mk v.data.toList q.data.toList = t.data.toList := mk_pp hp
        have hne : mk n.data.toList p.data.toList ≠ [] := by
          intro e
          have h4 : t.data.toList = [] := by rw [← hm]; unfold mkB; rw [e]; rfl
          rw [h4] at h1
          rw [mk_yes (u := v.data.toList) (p := q.data.toList) h2 h3] at h1
          exact enc_ne (by unfold two0; simp) h1
        have hq : IsPP t true n p := by
          rw [← hm]
          exact pp_mk hne
        obtain ⟨_, h5, h6⟩ := isPP_one hp hq
        subst h5 h6
        rw [hr] at hv
        cases hv
end Go.Proofs.Ytichajalinkcdaa
namespace Go.Proofs.Ytichajalinkcdaa
open Go.RowKit
set_option linter.unusedVariables false

def rB (l : List UInt8) : ByteArray := ⟨l.toArray⟩
theorem rB_list (l : List UInt8) : (rB l).data.toList = l := by unfold rB; simp
theorem rB_size (l : List UInt8) : (rB l).size = l.length := by unfold rB; rw [ByteArray.size]; simp
theorem rB_ext {u v : ByteArray} (h : u.data.toList = v.data.toList) : u = v := by
  cases u
  cases v
  congr
  exact Array.toList_inj.1 h
theorem rB_cat (a b : List UInt8) : rB a ++ rB b = rB (a ++ b) := by
  refine rB_ext ?_
  rw [ByteArray.data_append, Array.toList_append, rB_list, rB_list, rB_list]
theorem rB_of (s : ByteArray) : rB s.data.toList = s := rB_ext (rB_list _)
/-- Numbers, truths and texts that are told. -/
def SayI (w : World) (z : Int) (e : Ending) (w' : World) : Prop := e = .returned (.int .i64 z) ∧ Below w.heap.size w w'
def SayT (w : World) (l : List UInt8) (e : Ending) (w' : World) : Prop := e = .returned (.string (rB l)) ∧ Below w.heap.size w w'
def SayB (w : World) (z : Bool) (e : Ending) (w' : World) : Prop := e = .returned (.bool z) ∧ Below w.heap.size w w'
theorem ret_bl {a b : Bool} (h : a = b) : Ending.returned (.bool a) = .returned (.bool b) := by rw [h]
theorem ret_st {a b : ByteArray} (h : a = b) : Ending.returned (.string a) = .returned (.string b) := by rw [h]
set_option maxHeartbeats 400000 in
theorem spec_inr (n a b : Int) (w : World) : Calls Try.prog 40 #[.int .i64 n, .int .i64 a, .int .i64 b] w fun e w' => e = .returned (.bool (decide (a ≤ n) && decide (n ≤ b))) ∧ w' = w := by
  by_cases h1 : a ≤ n <;> by_cases h2 : n ≤ b
  all_goals
    have h1' := h1
    go_enter Try.func40, Try.ntmps40
    go_wp2
    go_ret
    refine ⟨ret_bl ?_, rfl⟩
    first
      | exact (Bool.and_eq_true_iff.2 ⟨decide_eq_true (by omega), decide_eq_true (by omega)⟩).symm
      | exact (decide_eq_false (by omega)).symm
      | exact (decide_eq_true (by omega)).symm
      | (rw [decide_eq_false (p := a ≤ n) (by omega)]; done)
      | (rw [decide_eq_false (p := a ≤ n) (by omega)]; rfl)
      | (rw [decide_eq_false (p := n ≤ b) (by omega)]; simp)
theorem says_b {w w' : World} {o p : Bool} (h : o = p) (hb : Below w.heap.size w w') : SayB w o (.returned (.bool p)) w' := ⟨by rw [h], hb⟩
theorem ret_i {a b : Int} (h : a = b) : Ending.returned (.int .i64 a) = .returned (.int .i64 b) := by rw [h]
theorem sname_at {u : ByteArray} {z : Bool} (h : nameB (kb u) = z) (hu : u.size ≤ 16777216) (w : World) : Calls Try.prog 35 #[.string u] w fun e w' => e = .returned (.bool z) ∧ w' = w := by
  subst h
  exact (spec_name u w hu).mono fun e w' h => ⟨h.1, h.2.symm⟩
theorem sin_at {r a b : Int} {z : Bool} (h : (decide (a ≤ r) && decide (r ≤ b)) = z) (w : World) : Calls Try.prog 40 #[.int .i64 r, .int .i64 a, .int .i64 b] w fun e w' => e = .returned (.bool z) ∧ w' = w := by
  subst h
  exact spec_inr r a b w
theorem iname_at {u : ByteArray} {z : Bool} (h : nameB (kb u) = z) (hu : u.size ≤ 16777216) (w : World) : Calls Try.prog 32 #[.string u] w (SayB w z) := by
  subst h
  exact impl_name u w hu
theorem rd_far {w w' : World} {b p : Nat} {row : Option Nat} (h : Rd w b p) (hg : w.grownBy w' row) (hne : ∀ g, row = some g → b < g) : Rd w' b p := by
  cases row with
  | none =>
    obtain ⟨A, len, cap, hW, hB⟩ := h
    have hl := hW.lt
    exact ⟨A, len, cap, hW.grown hg (by simp), hB.kept fun q hq => World.cell?_of_block (hg.block q.block (by omega) (by simp))⟩
  | some g => exact h.grown hg (hne g rfl)
theorem gr_far {w a c : World} {b : Nat} {row : Option Nat} (h : w.grownBy a (some b)) (hg : a.grownBy c row) (hrow : ∀ g, row = some g → w.heap.size ≤ g) : w.grownBy c (some b) :=
  ⟨hg.os.trans h.os, hg.tape.trans h.tape, hg.output.trans h.output, Nat.le_trans h.size hg.size, fun i hi hne => (hg.block i (Nat.lt_of_lt_of_le hi h.size) (fun e => by have := hrow i e.symm; omega)).trans (h.block i hi hne)⟩
theorem rat_far {α : Type} {R : RowT α} {w0 w w' : World} {A : Option Addr} {L : List α} {row : Option Nat} (h0 : RAt R w0 A L) (h : RAt R w A L) (hg : w.grownBy w' row) (hrow : ∀ g, row = some g → w0.heap.size ≤ g) : RAt R w' A L := fun i x hx => by
  obtain ⟨b, o, hA, hb, h1⟩ := h i x hx
  obtain ⟨b', o', hA', hb', _⟩ := h0 i x hx
  rw [hA] at hA'
  cases hA'
  exact ⟨b, o, hA, Nat.lt_of_lt_of_le hb hg.size, fun j u hu => (World.cell?_of_block (hg.block b hb (fun e => by have := hrow b e.symm; omega))).trans (h1 j u hu)⟩
theorem below_far {w0 w w' : World} {row : Option Nat} (h : Below w0.heap.size w0 w) (hg : w.grownBy w' row) (hrow : ∀ g, row = some g → w0.heap.size ≤ g) : Below w0.heap.size w0 w' := h.grown hg h.size hrow
end Go.Proofs.Ytichajalinkcdaa
namespace Go.Proofs.Ytichajalinkcdaa
open Go.RowKit
set_option linter.unusedVariables false

/-- The bytes 'l' as a text. -/
def bs (l : List UInt8) : ByteArray := ⟨l.toArray⟩
theorem bs_of (v : ByteArray) : bs v.data.toList = v := by cases v; simp [bs]
theorem bs_eq {v : ByteArray} {l : List UInt8} (h : v.data.toList = l) : v = bs l := by rw [← h, bs_of]
theorem bs_list (l : List UInt8) : (bs l).data.toList = l := rfl
theorem bs_size (l : List UInt8) : (bs l).size = l.length := rfl
/-- What a parser leaves. -/
def Gave (w : World) (ok : Bool) (u d : ByteArray) (e : Ending) (w' : World) : Prop :=
  e = .returned (.tuple #[.agg #[.string u, .string d], .bool ok]) ∧ Below w.heap.size w w'
theorem gave_of {w w' : World} {ok : Bool} {U D : List UInt8} {e : Ending} {u d : ByteArray} (h : Parsed w ok U D e w') (hy : ok = true → u = bs U ∧ d = bs D) (hn : ok = false → u = ⟨#[]⟩ ∧ d = ⟨#[]⟩) : Gave w ok u d e w' := by
  obtain ⟨u', d', he, h1, h2, hb⟩ := h
  refine ⟨?_, hb⟩
  rw [he]
  cases hok : ok
  · obtain ⟨e1, e2⟩ := h2 hok
    obtain ⟨e3, e4⟩ := hn hok
    rw [e1, e2, e3, e4]
  · obtain ⟨e1, e2⟩ := h1 hok
    obtain ⟨e3, e4⟩ := hy hok
    rw [e3, e4, bs_eq e1, bs_eq e2]
theorem gave_ad {L : List UInt8} {w w' : World} {e : Ending} (h : Parsed w (spB L) ((two L).getD 0 []) ((two L).getD 1 []) e w') : Gave w (spB L) (bs (pU L)) (bs (pD L)) e w' :=
  gave_of h (fun h => by unfold pU pD; rw [if_pos h, if_pos h]; exact ⟨rfl, rfl⟩) (fun h => by rw [pU_no h, pD_no h]; exact ⟨rfl, rfl⟩)
theorem sparse (s : ByteArray) (w : World) (hs : s.size ≤ 16777216) : Calls Try.prog 81 #[.string s] w (Gave w (spB s.data.toList) (bs (pU s.data.toList)) (bs (pD s.data.toList))) :=
  (spec_parse s w hs).mono fun _ _ h => gave_ad h
theorem pU_size (s : ByteArray) : (bs (pU s.data.toList)).size ≤ s.size := by
  have := pU_le s.data.toList
  rw [bs_size]
  simpa using this
theorem pD_size (s : ByteArray) : (bs (pD s.data.toList)).size ≤ s.size := by
  have := pD_le s.data.toList
  rw [bs_size]
  simpa using this

/-- What a writer leaves. -/
def Told (w : World) (t : ByteArray) (e : Ending) (w' : World) : Prop := e = .returned (.string t) ∧ Below w.heap.size w w'
theorem told_of {w w' : World} {L : List UInt8} {e : Ending} (h : Wrote w L e w') : Told w (bs L) e w' := by
  obtain ⟨v, h1, h2, h3⟩ := h
  exact ⟨by rw [h2, bs_eq h1], h3⟩
/-- The text of an address. -/
def adT (u d : ByteArray) : ByteArray := bs (adText u.data.toList d.data.toList)
theorem adT_le (u d : ByteArray) : (adT u d).size ≤ 29 := by
  unfold adT
  rw [bs_size]
  cases h : (nameB u.data.toList && domB d.data.toList)
  · rw [adText_no h]; simp
  · rw [adText_yes h]
    rw [Bool.and_eq_true] at h
    have h1 := (nameB_iff.1 h.1).2.2
    have h2 := dom_len h.2
    simp only [List.length_append, List.length_cons]
    omega

theorem gave_path {L : List UInt8} {w w' : World} {e : Ending} (h : Parsed w (ppA L) (pathU L) (pathD L) e w') : Gave w (spP L) (bs (qU L)) (bs (qD L)) e w' := by
  obtain ⟨h1, h2⟩ := pa_eq L
  have h3 := gave_of (u := bs (qU L)) (d := bs (qD L)) h (fun h => by rw [(h2 h).1, (h2 h).2]; exact ⟨rfl, rfl⟩) (fun h => by rw [h1] at h; obtain ⟨e1, e2⟩ := q_no h; rw [e1, e2]; exact ⟨rfl, rfl⟩)
  rw [h1] at h3
  exact h3
theorem qU_size (s : ByteArray) : (bs (qU s.data.toList)).size ≤ s.size := by
  have := (q_le s.data.toList).1
  rw [bs_size]
  simpa using this
theorem qD_size (s : ByteArray) : (bs (qD s.data.toList)).size ≤ s.size := by
  have := (q_le s.data.toList).2
  rw [bs_size]
  simpa using this

/-- A text and what its reading tells. -/
def Is (s : ByteArray) (o : Bool) (u d : ByteArray) : Prop := spB s.data.toList = o ∧ bs (pU s.data.toList) = u ∧ bs (pD s.data.toList) = d
theorem read_any (s : ByteArray) : ∃ o u d, Is s o u d ∧ u.size ≤ s.size ∧ d.size ≤ s.size := ⟨_, _, _, ⟨rfl, rfl, rfl⟩, pU_size s, pD_size s⟩
theorem sparse_at {s u d : ByteArray} {o : Bool} (h : Is s o u d) (w : World) (hs : s.size ≤ 16777216) : Calls Try.prog 81 #[.string s] w (Gave w o u d) := by
  obtain ⟨rfl, rfl, rfl⟩ := h
  exact sparse s w hs
/-- A path and what its reading tells. -/
def IsP (s : ByteArray) (o : Bool) (u d : ByteArray) : Prop := spP s.data.toList = o ∧ bs (qU s.data.toList) = u ∧ bs (qD s.data.toList) = d
theorem readP_any (s : ByteArray) : ∃ o u d, IsP s o u d ∧ u.size ≤ s.size ∧ d.size ≤ s.size := ⟨_, _, _, ⟨rfl, rfl, rfl⟩, qU_size s, qD_size s⟩
/-- A struct put into a block of its own. -/
def boxed (w : World) (u d : ByteArray) : World := w.alloc (.cells #[.string u, .string d] 96)
theorem boxed_size (w : World) (u d : ByteArray) : (boxed w u d).heap.size = w.heap.size + 1 := by unfold boxed; simp
theorem boxed_whole (w : World) (u d : ByteArray) : Whole (boxed w u d) w.heap.size 96 #[.string u, .string d] := Whole.made w _ _
theorem boxed_keeps {w : World} {b : Nat} {t : TypeId} {cs : Array Value} (h : Whole w b t cs) (u d : ByteArray) : Whole (boxed w u d) b t cs := h.alloc _
theorem boxed_below {B : Nat} {a w : World} (h : Below B a w) (hB : B ≤ w.heap.size) (u d : ByteArray) : Below B a (boxed w u d) := h.alloc hB _
end Go.Proofs.Ytichajalinkcdaa
namespace Go.Proofs.Ytichajalinkcdaa
open Go.RowKit
set_option linter.unusedVariables false

theorem gave_mk {w w' : World} {ok ok' : Bool} {u u' d d' : ByteArray} (h1 : ok = ok') (h2 : u = u') (h3 : d = d') (hb : Below w.heap.size w w') : Gave w ok u d (.returned (.tuple #[.agg #[.string u', .string d'], .bool ok'])) w' := by
  subst h1
  subst h2
  subst h3
  exact ⟨rfl, hb⟩
theorem q_bare {L : List UInt8} (h : L = bare) : spP L = true ∧ bs (qU L) = ⟨#[]⟩ ∧ bs (qD L) = ⟨#[]⟩ := by
  unfold spP qU qD
  rw [decide_eq_true h, if_pos h, if_pos h]
  exact ⟨rfl, rfl, rfl⟩
theorem q_off {L : List UInt8} (h : ¬ L = bare) (hr : brB L = false) : spP L = false ∧ bs (qU L) = ⟨#[]⟩ ∧ bs (qD L) = ⟨#[]⟩ := by
  have hs : spP L = false := by unfold spP; rw [decide_eq_false h, hr]; rfl
  obtain ⟨e1, e2⟩ := q_no hs
  rw [e1, e2]
  exact ⟨hs, rfl, rfl⟩
theorem q_in {L : List UInt8} (h : ¬ L = bare) (hr : brB L = true) : spP L = spB (mid L) ∧ qU L = pU (mid L) ∧ qD L = pD (mid L) := by
  unfold spP qU qD
  rw [decide_eq_false h, hr, if_neg h, if_neg h, if_pos rfl, if_pos rfl]
  exact ⟨rfl, rfl, rfl⟩
theorem next_at {s : ByteArray} {k : Nat} (hk : k < s.size) (c : UInt8) : nextIs s.data.toList k c = (s[k] == c) := by
  unfold nextIs
  have hl : k < s.data.toList.length := by simpa using hk
  rw [List.getElem?_eq_getElem hl]
  rfl
theorem br_at {s : ByteArray} {m : Nat} (hm : s.size = m + 1) (h0 : 0 < s.size) (h1 : m < s.size) (h2 : 1 ≤ m) : brB s.data.toList = (s[0] == (60 : UInt8) && s[m] == (62 : UInt8)) := by
  have hl : s.data.toList.length = s.size := by simp
  unfold brB
  rw [next_at h0, hl, hm, Nat.add_sub_cancel, next_at h1, decide_eq_true (by omega)]
  rfl
theorem mid_at {s : ByteArray} {m : Nat} (hm : s.size = m + 1) : (s.extract 1 m).data.toList = mid s.data.toList := by
  have hl : s.data.toList.length = s.size := by simp
  rw [extract_list]
  unfold mid
  rw [hl, hm]
  rfl

set_option maxHeartbeats 2000000 in
theorem spath (s : ByteArray) (w : World) (hs : s.size ≤ 16777216) :
    Calls Try.prog 78 #[.string s] w (Gave w (spP s.data.toList) (bs (qU s.data.toList)) (bs (qD s.data.toList))) := by
  by_cases hb : s.data.toList = bare
  · have hq : (s.toList == [60, 62]) = true := by rw [ByteArray.toList_eq, hb]; rfl
    have HB := Lib.hid (q_bare hb)
    clear hb
    go_enter Try.func78, Try.ntmps78
    go_wp2
    refine bodyPost_ret (v := .tuple #[.agg #[.string ⟨#[]⟩, .string ⟨#[]⟩], .bool true]) (by simp [results, Try.results78, go_sem]) rfl ?_
    exact gave_mk HB.out.1 HB.out.2.1 HB.out.2.2 ((Below.refl _ _).alloc (Nat.le_refl _) _)
  · have hq : (s.toList == [60, 62]) = false := by
      rw [ByteArray.toList_eq]
      exact beq_eq_false_iff_ne.2 hb
    have HB := Lib.hid hb
    clear hb
    by_cases h2 : s.size < 2
    · have h2' : (s.size : Int) < 2 := by omega
      have hr : brB s.data.toList = false := by
        unfold brB
        rw [decide_eq_false (by simp; omega)]
        rfl
      have HR := Lib.hid (q_off HB.out hr)
      clear hr
      go_enter Try.func78, Try.ntmps78
      go_wp2
      refine bodyPost_ret (v := .tuple #[.agg #[.string ⟨#[]⟩, .string ⟨#[]⟩], .bool false]) (by simp [results, Try.results78, go_sem]) rfl ?_
      exact gave_mk HR.out.1 HR.out.2.1 HR.out.2.2 ((Below.refl _ _).alloc (Nat.le_refl _) _)
    · have h2' : decide ((s.size : Int) < 2) = false := decide_eq_false (by omega)
      have hp : (0 : Int) < (s.size : Int) := by omega
      have h0 : 0 < s.size := by omega
      obtain ⟨m, hm⟩ : ∃ m, s.size = m + 1 := ⟨s.size - 1, by omega⟩
      have h1 : m < s.size := by omega
      have hbr := br_at hm h0 h1 (by omega)
      have E1 : (s.size : Int) - 1 = (m : Int) := by omega
      have hm0 : (0 : Int) ≤ (m : Int) := by omega
      have hm1 : (m : Int) < (s.size : Int) := by omega
      have hm2 : (1 : Int) ≤ (m : Int) := by omega
      have hm3 : (m : Int) ≤ (s.size : Int) := by omega
      have HM := Lib.hid hm
      have HBR := Lib.hid hbr
      clear hm hbr
      by_cases hc : s[0] = 60
      · have hcb : ((s[0].toNat : Int) != 60) = false := by rw [hc]; rfl
        have HC := Lib.hid hc
        clear hc
        by_cases hd : s[m] = 62
        · have hdb : ((s[m].toNat : Int) != 62) = false := by rw [hd]; rfl
          have HD := Lib.hid hd
          clear hd
          go_enter Try.func78, Try.ntmps78
          obtain ⟨o, u, d, hi, hu, hdl⟩ := read_any (s.extract 1 m)
          have hq3 := q_in HB.out (by rw [HBR.out, HC.out, HD.out]; rfl)
          have HI := Lib.hid hi
          have HQ := Lib.hid hq3
          have hes : (s.extract 1 m).size ≤ 16777216 := by rw [ByteArray.size_extract]; omega
          have HS := Lib.hid hes
          clear hi hq3 hu hdl hes
          go_wp2_with fail
          refine (sparse_at HI.out _ HS.out).mono ?_
          rintro e w1 ⟨rfl, hb⟩
          have ez : (w.alloc (.cells #[.string ⟨#[]⟩, .string ⟨#[]⟩] 96)).heap.size = w.heap.size + 1 := by simp
          rw [ez] at hb
          have hR := (Whole.made w 96 #[.string ⟨#[]⟩, .string ⟨#[]⟩]).below hb (by omega)
          have hr0 : w1.cell? ⟨w.heap.size, 0, none⟩ = some (.string ⟨#[]⟩) := hR.cell 0
          have hr1 : w1.cell? ⟨w.heap.size, 1, none⟩ = some (.string ⟨#[]⟩) := hR.cell 1
          have hf0 := hR.free 0
          have hf1 := hR.free 1
          have hz1 := hR.lt
          have HB1 := Lib.hid (((Below.refl w.heap.size w).alloc (Nat.le_refl _) (.cells #[.string ⟨#[]⟩, .string ⟨#[]⟩] 96)).trans (hb.mono (Nat.le_succ _)))
          clear hb hR ez
          go_wp2
          refine bodyPost_ret (v := .tuple #[.agg #[.string u, .string d], .bool o]) (by simp [results, Try.results78, go_sem, hr0, hr1]) rfl ?_
          obtain ⟨i1, i2, i3⟩ := HI.out
          rw [mid_at HM.out] at i1 i2 i3
          refine gave_mk (HQ.out.1.trans i1) (by rw [HQ.out.2.1]; exact i2) (by rw [HQ.out.2.2]; exact i3) ?_
          exact (HB1.out.setCell (p := ⟨w.heap.size, 0, none⟩) (Nat.le_refl _) _).setCell (p := ⟨w.heap.size, 1, none⟩) (Nat.le_refl _) _
        · have hdb : ((s[m].toNat : Int) != 62) = true := by
            have : s[m].toNat ≠ (62 : UInt8).toNat := fun e => hd (UInt8.toNat_inj.1 e)
            have e2 : (62 : UInt8).toNat = 62 := rfl
            simp; omega
          have HR := Lib.hid (q_off HB.out (by rw [HBR.out, HC.out, beq_eq_false_iff_ne.2 hd]; rfl))
          clear hd
          go_enter Try.func78, Try.ntmps78
          go_wp2
          refine bodyPost_ret (v := .tuple #[.agg #[.string ⟨#[]⟩, .string ⟨#[]⟩], .bool false]) (by simp [results, Try.results78, go_sem]) rfl ?_
          exact gave_mk HR.out.1 HR.out.2.1 HR.out.2.2 ((Below.refl _ _).alloc (Nat.le_refl _) _)
      · have hcb : ((s[0].toNat : Int) != 60) = true := by
          have : s[0].toNat ≠ (60 : UInt8).toNat := fun e => hc (UInt8.toNat_inj.1 e)
          have e2 : (60 : UInt8).toNat = 60 := rfl
          simp; omega
        have HR := Lib.hid (q_off HB.out (by rw [HBR.out, beq_eq_false_iff_ne.2 hc]; rfl))
        clear hc
        go_enter Try.func78, Try.ntmps78
        go_wp2
        refine bodyPost_ret (v := .tuple #[.agg #[.string ⟨#[]⟩, .string ⟨#[]⟩], .bool false]) (by simp [results, Try.results78, go_sem]) rfl ?_
        exact gave_mk HR.out.1 HR.out.2.1 HR.out.2.2 ((Below.refl _ _).alloc (Nat.le_refl _) _)
theorem spath_at {s u d : ByteArray} {o : Bool} (h : IsP s o u d) (w : World) (hs : s.size ≤ 16777216) : Calls Try.prog 78 #[.string s] w (Gave w o u d) := by
  obtain ⟨rfl, rfl, rfl⟩ := h
  exact spath s w hs
end Go.Proofs.Ytichajalinkcdaa
