/-
  The contract of the code's encoder of one group of bytes. Condition: the group has one to three bytes.
-/
import Derived.Test.YtmangdkaklnpdaaBenc
import Derived.IntWalk
namespace Go.Proofs.Ytmangdkaklnpdaa
open Go.RowKit
set_option linter.unusedVariables false
theorem byte_shift (k : Nat) (hk : k ≤ 2) (w : World) : Calls Try.prog 69 #[.int .i64 (k : Int)] w fun e w' => e = .returned (.int .i64 (8 * (2 - (k : Int)))) ∧ w' = w := by
  have h0 : (k : Int) ≤ 2 := by omega
  have h1 : (0 : Int) ≤ (k : Int) := by omega
  go_enter Try.func69, Try.ntmps69
  go_wp2
  go_ret
  exact ⟨rfl, rfl⟩
theorem sign_shift (k : Nat) (hk : k ≤ 3) (w : World) : Calls Try.prog 70 #[.int .i64 (k : Int)] w fun e w' => e = .returned (.int .i64 (6 * (3 - (k : Int)))) ∧ w' = w := by
  have h0 : (k : Int) ≤ 3 := by omega
  have h1 : (0 : Int) ≤ (k : Int) := by omega
  go_enter Try.func70, Try.ntmps70
  go_wp2
  go_ret
  exact ⟨rfl, rfl⟩
/-- The number of the first 'k' bytes of a group. -/
def nb (l : List UInt8) : Nat → Nat
  | 0 => 0
  | 1 => 65536 * (l.getD 0 0).toNat
  | 2 => 65536 * (l.getD 0 0).toNat + 256 * (l.getD 1 0).toNat
  | _ => 65536 * (l.getD 0 0).toNat + 256 * (l.getD 1 0).toNat + (l.getD 2 0).toNat
theorem nb_lt (l : List UInt8) (k : Nat) : nb l k < 16777216 := by
  have h0 := (l.getD 0 0).toNat_lt
  have h1 := (l.getD 1 0).toNat_lt
  have h2 := (l.getD 2 0).toNat_lt
  match k with
  | 0 => show 0 < _; omega
  | 1 => show 65536 * (l.getD 0 0).toNat < _; omega
  | 2 => show 65536 * (l.getD 0 0).toNat + 256 * (l.getD 1 0).toNat < _; omega
  | k + 3 => show 65536 * (l.getD 0 0).toNat + 256 * (l.getD 1 0).toNat + (l.getD 2 0).toNat < _; omega
theorem or_i64 (x y : Nat) (hx : x < 2 ^ 62) (hy : y < 2 ^ 62) : bits .or .i64 (x : Int) (y : Int) = ((x ||| y : Nat) : Int) := by
  have ex : (BitVec.ofInt 64 (x : Int)).toNat = x := by rw [BitVec.ofInt_natCast, BitVec.toNat_ofNat]; exact Nat.mod_eq_of_lt (by omega)
  have ey : (BitVec.ofInt 64 (y : Int)).toNat = y := by rw [BitVec.ofInt_natCast, BitVec.toNat_ofNat]; exact Nat.mod_eq_of_lt (by omega)
  have hlt : x ||| y < 2 ^ 62 := Nat.or_lt_two_pow hx hy
  show IntKind.i64.wrap ((BitVec.ofInt 64 (x : Int) ||| BitVec.ofInt 64 (y : Int)).toNat : Int) = _
  rw [BitVec.toNat_or, ex, ey, IntKind.wrap_i64]
  omega
theorem or_join (x y i : Nat) (hx : x < 2 ^ 62) (hi : y < 2 ^ i) (hy : y < 2 ^ 62) (h : x % 2 ^ i = 0) : bits .or .i64 (x : Int) (y : Int) = ((x + y : Nat) : Int) := by rw [or_i64 x y hx hy, nat_join i x y h hi]
theorem list_at {s : ByteArray} {k : Nat} (h : k < s.size) (d : UInt8) : s.data.toList.getD k d = s[k] := by
  rw [List.getD_eq_getElem?_getD, List.getElem?_eq_getElem (by simpa using h)]
  rfl
theorem nb_step {s : ByteArray} {k : Nat} (h : k < s.size) (h2 : k ≤ 2) : bits .or .i64 ((nb s.data.toList k : Nat) : Int) (wrap64 ((s[k].toNat : Int) * 2 ^ (8 * (2 - k)))) = ((nb s.data.toList (k + 1) : Nat) : Int) := by
  have hb := s[k].toNat_lt
  have e := list_at h 0
  have hl := nb_lt s.data.toList k
  rcases (by omega : k = 0 ∨ k = 1 ∨ k = 2) with rfl | rfl | rfl
  · have e1 : wrap64 ((s[0].toNat : Int) * 2 ^ (8 * (2 - 0))) = ((65536 * s[0].toNat : Nat) : Int) := by unfold wrap64; simp; omega
    rw [e1, or_join _ _ 24 (by omega) (by omega) (by omega) (by rfl)]
    show ((0 + 65536 * s[0].toNat : Nat) : Int) = ((65536 * (s.data.toList.getD 0 0).toNat : Nat) : Int)
    rw [e, Nat.zero_add]
  · have e1 : wrap64 ((s[1].toNat : Int) * 2 ^ (8 * (2 - 1))) = ((256 * s[1].toNat : Nat) : Int) := by unfold wrap64; simp; omega
    rw [e1, or_join _ _ 16 (by omega) (by omega) (by omega) (by show 65536 * _ % 65536 = 0; omega)]
    show ((65536 * (s.data.toList.getD 0 0).toNat + 256 * s[1].toNat : Nat) : Int) = ((65536 * (s.data.toList.getD 0 0).toNat + 256 * (s.data.toList.getD 1 0).toNat : Nat) : Int)
    rw [e]
  · have e1 : wrap64 ((s[2].toNat : Int) * 2 ^ (8 * (2 - 2))) = ((s[2].toNat : Nat) : Int) := by unfold wrap64; simp; omega
    rw [e1, or_join _ _ 8 (by omega) (by omega) (by omega) (by show (65536 * _ + 256 * _) % 256 = 0; omega)]
    show ((65536 * (s.data.toList.getD 0 0).toNat + 256 * (s.data.toList.getD 1 0).toNat + s[2].toNat : Nat) : Int) = ((65536 * (s.data.toList.getD 0 0).toNat + 256 * (s.data.toList.getD 1 0).toNat + (s.data.toList.getD 2 0).toNat : Nat) : Int)
    rw [e]

/-- The signs of a group, of which 'c' are written. -/
def sv (N c j : Nat) : UInt8 := if j < c then sig (N / 2 ^ (6 * (3 - j)) % 64) else 61
def cs (N c : Nat) : Array Value := #[.int .u8 ((sv N c 0).toNat : Int), .int .u8 ((sv N c 1).toNat : Int), .int .u8 ((sv N c 2).toNat : Int), .int .u8 ((sv N c 3).toNat : Int)]
theorem cs_step (N c : Nat) (h : c ≤ 3) : (cs N c).setIfInBounds c (.int .u8 ((sig (N / 2 ^ (6 * (3 - c)) % 64)).toNat : Int)) = cs N (c + 1) := by
  rcases (by omega : c = 0 ∨ c = 1 ∨ c = 2 ∨ c = 3) with rfl | rfl | rfl | rfl <;> rfl
theorem cs_at (N c : Nat) (h : c ≤ 3) : (cs N c)[c]? = some (.int .u8 61) := by
  rcases (by omega : c = 0 ∨ c = 1 ∨ c = 2 ∨ c = 3) with rfl | rfl | rfl | rfl <;> rfl
theorem cs_zero (N : Nat) : cs N 0 = #[.int .u8 61, .int .u8 61, .int .u8 61, .int .u8 61] := rfl
theorem cs_bytes (N c : Nat) : (cs N c).toList = Lib.byteCells [sv N c 0, sv N c 1, sv N c 2, sv N c 3] := rfl
theorem and63 (m c : Nat) (hm : m < 16777216) : bits .and .i64 ((m : Int) / 2 ^ (6 * (3 - c))) 63 = ((m / 2 ^ (6 * (3 - c)) % 64 : Nat) : Int) := by
  have e : (m : Int) / 2 ^ (6 * (3 - c)) = ((m / 2 ^ (6 * (3 - c)) : Nat) : Int) := by simp
  rw [e]
  have hle : m / 2 ^ (6 * (3 - c)) ≤ m := Nat.div_le_self _ _
  obtain ⟨x, hx⟩ : ∃ x, m / 2 ^ (6 * (3 - c)) = x := ⟨_, rfl⟩
  rw [hx] at hle ⊢
  have ex : (BitVec.ofInt 64 (x : Int)).toNat = x := by rw [BitVec.ofInt_natCast, BitVec.toNat_ofNat]; exact Nat.mod_eq_of_lt (by omega)
  show IntKind.i64.wrap ((BitVec.ofInt 64 (x : Int) &&& BitVec.ofInt 64 (63 : Int)).toNat : Int) = _
  rw [BitVec.toNat_and, ex]
  have e63 : (BitVec.ofInt 64 (63 : Int)).toNat = 63 := by rfl
  rw [e63, nat_mask6, IntKind.wrap_i64]
  omega
theorem enc_signs_of {s : ByteArray} (h1 : 1 ≤ s.size) (h3 : s.size ≤ 3) : [sv (nb s.data.toList s.size) (s.size + 1) 0, sv (nb s.data.toList s.size) (s.size + 1) 1, sv (nb s.data.toList s.size) (s.size + 1) 2, sv (nb s.data.toList s.size) (s.size + 1) 3] = enc s.data.toList := by
  have hl : s.data.toList.length = s.size := by simp
  obtain ⟨l, hs⟩ : ∃ l, s.data.toList = l := ⟨_, rfl⟩
  rw [← hl, hs]
  rw [← hl, hs] at h1 h3
  have hz : (0 : UInt8).toNat = 0 := rfl
  match l, h1, h3 with
  | [a], _, _ =>
    have e : nb [a] 1 = n24 a 0 0 := by unfold n24; rw [hz]; show 65536 * a.toNat = _; omega
    have hn := n24_lt a 0 0
    show [sv (nb [a] 1) 2 0, sv (nb [a] 1) 2 1, 61, 61] = _
    rw [enc_one, e]
    unfold sv q0 q1
    rw [if_pos (by decide), if_pos (by decide)]
    congr 2
    · congr 1; omega
  | [a, b], _, _ =>
    have e : nb [a, b] 2 = n24 a b 0 := by unfold n24; rw [hz]; show 65536 * a.toNat + 256 * b.toNat = _; omega
    have hn := n24_lt a b 0
    show [sv (nb [a, b] 2) 3 0, sv (nb [a, b] 2) 3 1, sv (nb [a, b] 2) 3 2, 61] = _
    rw [enc_two, e]
    unfold sv q0 q1 q2
    rw [if_pos (by decide), if_pos (by decide), if_pos (by decide)]
    congr 2
    · congr 1; omega
  | [a, b, c], _, _ =>
    have e : nb [a, b, c] 3 = n24 a b c := rfl
    have hn := n24_lt a b c
    show [sv (nb [a, b, c] 3) 4 0, sv (nb [a, b, c] 3) 4 1, sv (nb [a, b, c] 3) 4 2, sv (nb [a, b, c] 3) 4 3] = _
    rw [enc_more, enc_nil, e]
    unfold sv q0 q1 q2 q3
    rw [if_pos (by decide), if_pos (by decide), if_pos (by decide), if_pos (by decide)]
    congr 2
    · congr 1; omega
    · simp

set_option maxHeartbeats 1000000 in
theorem enc_group (s : ByteArray) (w : World) (h1 : 1 ≤ s.size) (h3 : s.size ≤ 3) :
    Calls Try.prog 58 #[.string s] w fun e w' => e = .returned (.string (bt (enc s.data.toList))) ∧ Below w.heap.size w w' := by
  go_enter Try.func58, Try.ntmps58
  go_wp2
  go_loopw [3, 4, 9] (fun b j i wr => ∃ (k m : Nat), k ≤ s.size ∧ m < 16777216 ∧ i = .int .i64 (k : Int) ∧ b = .int .i64 (m : Int) ∧ Hid (m = nb s.data.toList k) ∧ Hid (Below w.heap.size w wr)) (fun _ _ i _ => s.size - (intOf i).toNat)
  case atStart => exact ⟨0, 0, by omega, by omega, by go_num, by go_num, rfl, Lib.hid (Below.refl _ _)⟩
  case round =>
    obtain ⟨k, m, hk, hm, rfl, rfl, HM, HW⟩ := hrel
    by_cases hlt : k < s.size
    · have i0 : (0 : Int) ≤ (k : Int) := by omega
      have i1 : (k : Int) < (s.size : Int) := by omega
      have i2 : (k : Int) ≤ 2 := by omega
      have b0 : (s[k].toNat : Int) ≤ 255 := by have := s[k].toNat_lt; omega
      have b0' : (0 : Int) ≤ (s[k].toNat : Int) := by omega
      have W1 : IntKind.i64.wrap (s[k].toNat : Int) = (s[k].toNat : Int) := IntWalk.i64_in _ (by omega)
      go_wp2
      go_quiet ((go_at_call 69; exact Calls.quiet_of_same (byte_shift _ (by omega) _)))
      go_wp2
      go_roundw
      case rel => exact ⟨k + 1, nb s.data.toList (k + 1), by omega, nb_lt _ _, by go_num, by rw [HM.out, nb_step hlt (by omega)], rfl, Lib.hid (below_drewN' HW.out _)⟩
      case measure => simp [intOf]; omega
    · have i1 : ¬ (k : Int) < (s.size : Int) := by omega
      have hks : k = s.size := by omega
      have HK := Lib.hid hks
      clear hks
      obtain ⟨wo, rfl⟩ : ∃ wo : World, wo = wr := ⟨_, rfl⟩
      have HB0 : Hid (Below w.heap.size w (wo.alloc (.cells #[.int .u8 61, .int .u8 61, .int .u8 61, .int .u8 61] 91))) := Lib.hid (HW.out.alloc HW.out.size _)
      have hge : w.heap.size ≤ wo.heap.size := HW.out.size
      have HWH := Lib.hid (Whole.made wo 91 #[.int .u8 61, .int .u8 61, .int .u8 61, .int .u8 61])
      obtain ⟨g, hg⟩ : ∃ g, wo.heap.size = g := ⟨_, rfl⟩
      have HG := Lib.hid hg
      rw [hg] at hge
      go_wp2
      clear hg
      go_loopw [6, 26] (fun j i wr => ∃ c : Nat, c ≤ s.size + 1 ∧ i = .int .i64 (c : Int) ∧ Hid (Whole wr g 91 (cs m c)) ∧ Hid (Below w.heap.size w wr)) (fun _ i _ => s.size + 1 - (intOf i).toNat)
      case atStart => exact ⟨0, by omega, by go_num, by rw [cs_zero, ← HG.out]; exact HWH, HB0⟩
      case round =>
        obtain ⟨c, hc, rfl, HX, HB⟩ := hrel
        by_cases hlt : c < s.size + 1
        · have j0 : (0 : Int) ≤ (c : Int) := by omega
          have j1 : (c : Int) < (s.size : Int) + 1 := by omega
          have j2 : (c : Int) ≤ 3 := by omega
          have j3 : (c : Int) < 4 := by omega
          obtain ⟨d, hd⟩ : ∃ d, m / 2 ^ (6 * (3 - c)) % 64 = d := ⟨_, rfl⟩
          have E := and63 m c hm
          rw [hd] at E
          have hd64 : d < 64 := by rw [← hd]; omega
          have d0 : (0 : Int) ≤ (d : Int) := by omega
          have d1 : (d : Int) < 64 := by omega
          have HL := Lib.hid (letters ⟨d, hd64⟩)
          have HD := Lib.hid hd
          clear hd
          have hf : wr.frozen? ⟨g, c, none⟩ = false := HX.out.free c
          have hcc : wr.cell? ⟨g, c, none⟩ = some (.int .u8 61) := by rw [HX.out.cell c, cs_at m c (by omega)]
          go_wp2_with fail
          refine (sign_shift c (by omega) _).mono ?_
          rintro e w' ⟨rfl, rfl⟩
          go_wp2
          go_roundw
          case rel =>
            refine ⟨c + 1, by omega, by go_num, ?_, Lib.hid (HB.out.setCell hge _)⟩
            rw [← cs_step m c (by omega), HD.out]
            have h := HX.out.store c (.int .u8 ((sig d).toNat : Int))
            have e := at_of (B := ⟨#[65, 66, 67, 68, 69, 70, 71, 72, 73, 74, 75, 76, 77, 78, 79, 80, 81, 82, 83, 84, 85, 86, 87, 88, 89, 90, 97, 98, 99, 100, 101, 102, 103, 104, 105, 106, 107, 108, 109, 110, 111, 112, 113, 114, 115, 116, 117, 118, 119, 120, 121, 122, 48, 49, 50, 51, 52, 53, 54, 55, 56, 57, 43, 47]⟩) (n := d) hd64 HL.out
            rw [← e] at h ⊢
            exact Lib.hid h
          case measure => simp [intOf]; omega
        · have j1 : ¬ (c : Int) < (s.size : Int) + 1 := by omega
          have HC : Hid (c = s.size + 1) := Lib.hid (by omega)
          obtain ⟨L, hL⟩ : ∃ L, [sv m c 0, sv m c 1, sv m c 2, sv m c 3] = L := ⟨_, rfl⟩
          have hL4 : L.length = 4 := by rw [← hL]; rfl
          have hcells : ∀ j (hj : j < L.length), wr.cell? ((⟨g, 0, none⟩ : Addr).add j) = some (.int .u8 (L[j].toNat : Int)) := by
            subst hL
            intro j hj
            rw [show (⟨g, 0, none⟩ : Addr).add j = ⟨g, j, none⟩ from by simp [Addr.add]; exact fun e => e.symm, HX.out.cell j]
            have hj4 : j < 4 := by simpa using hj
            rcases (by omega : j = 0 ∨ j = 1 ∨ j = 2 ∨ j = 3) with rfl | rfl | rfl | rfl <;> rfl
          have hcv := run_convert_bytes_back (P := Try.prog) wr 22 9 5 ⟨g, 0, none⟩ 4 L Try.underlying22 Try.underlying5 Try.underlying9 hcells
          rw [hL4] at hcv
          have HLL := Lib.hid hL
          clear hcells hL hL4
          go_wp2
          go_ret
          refine ⟨?_, HB.out⟩
          rw [← HLL.out, HC.out, HM.out, HK.out, enc_signs_of h1 h3]
          rfl
end Go.Proofs.Ytmangdkaklnpdaa
