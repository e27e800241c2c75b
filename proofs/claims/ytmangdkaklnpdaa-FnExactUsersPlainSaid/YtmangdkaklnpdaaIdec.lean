/-
  The contract of the code's decoder of one group of signs. Condition: the group has at most four bytes.
-/
import Derived.Test.YtmangdkaklnpdaaIenc
import Derived.Test.YtmangdkaklnpdaaBdec
import Derived.Test.YtmangdkaklnpdaaDmath
import Derived.Test.YtmangdkaklnpdaaShelf
namespace Go.Proofs.Ytmangdkaklnpdaa
open Go.RowKit
set_option linter.unusedVariables false

theorem index_letters : ∀ c : Fin 256, Lib.indexByte (⟨#[65, 66, 67, 68, 69, 70, 71, 72, 73, 74, 75, 76, 77, 78, 79, 80, 81, 82, 83, 84, 85, 86, 87, 88, 89, 90, 97, 98, 99, 100, 101, 102, 103, 104, 105, 106, 107, 108, 109, 110, 111, 112, 113, 114, 115, 116, 117, 118, 119, 120, 121, 122, 48, 49, 50, 51, 52, 53, 54, 55, 56, 57, 43, 47]⟩ : ByteArray).data.toList (UInt8.ofNat c.1) = valI (UInt8.ofNat c.1) := by decide +kernel
theorem index_any (c : UInt8) (w : World) : Calls Try.prog 74 #[.string ⟨#[65, 66, 67, 68, 69, 70, 71, 72, 73, 74, 75, 76, 77, 78, 79, 80, 81, 82, 83, 84, 85, 86, 87, 88, 89, 90, 97, 98, 99, 100, 101, 102, 103, 104, 105, 106, 107, 108, 109, 110, 111, 112, 113, 114, 115, 116, 117, 118, 119, 120, 121, 122, 48, 49, 50, 51, 52, 53, 54, 55, 56, 57, 43, 47]⟩, .int .u8 (c.toNat : Int)] w fun e w' => e = .returned (.int .i64 (valI c)) ∧ w = w' := by
  refine (strings_IndexByte _ _ w).mono ?_
  rintro e w' ⟨rfl, rfl⟩
  have h := index_letters ⟨c.toNat, c.toNat_lt⟩
  simp only [UInt8.ofNat_toNat] at h
  refine ⟨?_, rfl⟩
  rw [← h]
  congr 3
  simp
theorem valI_yes {c : UInt8} (h : (num c).isSome = true) : valI c = (val c : Int) := by
  rcases valI_or c with e | ⟨e, _⟩
  · exact e
  · unfold valI at e
    cases hn : num c with
    | none => rw [hn] at h; cases h
    | some n => rw [hn] at e; simp at e
theorem valI_not {c : UInt8} (h : (num c).isSome = false) : valI c = -1 := by
  unfold valI
  cases hn : num c with
  | none => rfl
  | some n => rw [hn] at h; cases h
theorem acc_join {s : ByteArray} {k : Nat} (h : k < s.size) (h3 : k ≤ 3) : bits .or .i64 ((acc s.data.toList k : Nat) : Int) (wrap64 ((val s[k] : Int) * 2 ^ (6 * (3 - k)))) = ((acc s.data.toList (k + 1) : Nat) : Int) := by
  have hb := val_lt s[k]
  have e := list_at h 61
  have hl := acc_lt s.data.toList k
  rcases (by omega : k = 0 ∨ k = 1 ∨ k = 2 ∨ k = 3) with rfl | rfl | rfl | rfl
  · have e1 : wrap64 ((val s[0] : Int) * 2 ^ (6 * (3 - 0))) = ((262144 * val s[0] : Nat) : Int) := by unfold wrap64; simp; omega
    rw [e1, or_join _ _ 24 (by omega) (by omega) (by omega) (by rfl), acc_step1, e]
  · have e1 : wrap64 ((val s[1] : Int) * 2 ^ (6 * (3 - 1))) = ((4096 * val s[1] : Nat) : Int) := by unfold wrap64; simp; omega
    rw [e1, or_join _ _ 18 (by omega) (by omega) (by omega) (acc_mod1 _), acc_step2, e]
  · have e1 : wrap64 ((val s[2] : Int) * 2 ^ (6 * (3 - 2))) = ((64 * val s[2] : Nat) : Int) := by unfold wrap64; simp; omega
    rw [e1, or_join _ _ 12 (by omega) (by omega) (by omega) (acc_mod2 _), acc_step3, e]
  · have e1 : wrap64 ((val s[3] : Int) * 2 ^ (6 * (3 - 3))) = ((val s[3] : Nat) : Int) := by unfold wrap64; simp; omega
    rw [e1, or_join _ _ 6 (by omega) (by omega) (by omega) (acc_mod3 _), acc_step4, e]
/-- The bytes of a group, of which 'd' are written. -/
def pv (m d j : Nat) : Int := if j < d then ((m : Int) / 2 ^ (8 * (2 - j))) % 256 else 0
def ps (m d : Nat) : Array Value := #[.int .u8 (pv m d 0), .int .u8 (pv m d 1), .int .u8 (pv m d 2)]
theorem ps_step (m d : Nat) (h : d ≤ 2) : (ps m d).setIfInBounds d (.int .u8 (((m : Int) / 2 ^ (8 * (2 - d))) % 256)) = ps m (d + 1) := by
  rcases (by omega : d = 0 ∨ d = 1 ∨ d = 2) with rfl | rfl | rfl <;> rfl
theorem ps_three (m j : Nat) (hm : m < 16777216) (hj : j < 3) : (ps m 3)[j]? = some (.int .u8 (((three m)[j]'hj).toNat : Int)) := by
  have h0 := ofNat_nat (n := m / 65536 % 256) (by omega)
  have h1 := ofNat_nat (n := m / 256 % 256) (by omega)
  have h2 := ofNat_nat (n := m % 256) (by omega)
  rcases (by omega : j = 0 ∨ j = 1 ∨ j = 2) with rfl | rfl | rfl
  · show some (Value.int .u8 ((m : Int) / 2 ^ (8 * (2 - 0)) % 256)) = some (Value.int .u8 ((UInt8.ofNat (m / 65536 % 256)).toNat : Int))
    rw [h0]
    congr 2
  · show some (Value.int .u8 ((m : Int) / 2 ^ (8 * (2 - 1)) % 256)) = some (Value.int .u8 ((UInt8.ofNat (m / 256 % 256)).toNat : Int))
    rw [h1]
    congr 2
  · show some (Value.int .u8 ((m : Int) / 2 ^ (8 * (2 - 2)) % 256)) = some (Value.int .u8 ((UInt8.ofNat (m % 256)).toNat : Int))
    rw [h2]
    congr 2
    omega
theorem ps_at (m d : Nat) (h : d ≤ 2) : (ps m d)[d]? = some (.int .u8 0) := by
  rcases (by omega : d = 0 ∨ d = 1 ∨ d = 2) with rfl | rfl | rfl <;> rfl

set_option maxHeartbeats 2000000 in
theorem dec_group (s : ByteArray) (w : World) (h4 : s.size ≤ 4) :
    Calls Try.prog 65 #[.string s] w fun e w' => e = .returned (.string (bt (decG s.data.toList))) ∧ Below w.heap.size w w' := by
  have hl : s.data.toList.length = s.size := by simp
  have HL := Lib.hid hl
  clear hl
  go_enter Try.func65, Try.ntmps65
  go_wp2
  go_loopw [3, 4, 5, 6, 11] (fun b ct j v i wr => ∃ (k m c : Nat), k ≤ s.size ∧ m < 16777216 ∧ c ≤ 3 ∧ i = .int .i64 (k : Int) ∧ b = .int .i64 (m : Int) ∧ ct = .int .i64 (c : Int) ∧ Hid (m = acc s.data.toList k) ∧ Hid (c = k - 1) ∧ Hid (k ≤ leads s.data.toList) ∧ Hid (Below w.heap.size w wr)) (fun _ _ _ _ i _ => s.size - (intOf i).toNat)
  case atStart => exact ⟨0, 0, 0, by omega, by omega, by omega, by go_num, by go_num, by go_num, rfl, rfl, Lib.hid (Nat.zero_le _), Lib.hid (Below.refl _ _)⟩
  case round =>
    obtain ⟨k, m, c, hk, hm, hc, rfl, rfl, rfl, HM, HC, HK, HW⟩ := hrel
    by_cases hlt : k < s.size
    · have i0 : (0 : Int) ≤ (k : Int) := by omega
      have i1 : (k : Int) < (s.size : Int) := by omega
      have i3 : (k : Int) ≤ 3 := by omega
      cases hn : (num s[k]).isSome with
      | true =>
        have HV := Lib.hid (valI_yes hn)
        have HN := Lib.hid (leads_step (by rw [HL.out]; exact hlt) HK.out hn)
        have hv := val_lt s[k]
        obtain ⟨v, hv2⟩ : ∃ v, val s[k] = v := ⟨_, rfl⟩
        have HE := Lib.hid hv2
        rw [hv2] at hv
        have v0 : ¬ (v : Int) < 0 := by omega
        clear hn hv2
        go_wp2_with fail
        refine (index_any s[k] _).mono ?_
        rintro e w' ⟨rfl, rfl⟩
        rw [HV.out, HE.out]
        go_wp2_with fail
        refine (sign_shift k (by omega) _).mono ?_
        rintro e w' ⟨rfl, rfl⟩
        go_wp2
        go_roundw
        case rel => exact ⟨k + 1, acc s.data.toList (k + 1), k, by omega, acc_lt _ _, by omega, by go_num, by rw [HM.out, ← HE.out, acc_join hlt (by omega)], by go_num, rfl, rfl, HN, HW⟩
        case measure => simp [intOf]; omega
      | false =>
        have HV := Lib.hid (valI_not hn)
        have HN := Lib.hid (leads_stop (by rw [HL.out]; exact hlt) HK.out hn)
        clear hn
        obtain ⟨wo, rfl⟩ : ∃ wo : World, wo = wr := ⟨_, rfl⟩
        have HB0 := Lib.hid (HW.out.alloc HW.out.size (.cells #[.int .u8 0, .int .u8 0, .int .u8 0] 95))
        have hge : w.heap.size ≤ wo.heap.size := HW.out.size
        have HWH := Lib.hid (Whole.made wo 95 #[.int .u8 0, .int .u8 0, .int .u8 0])
        obtain ⟨g, hg⟩ : ∃ g, wo.heap.size = g := ⟨_, rfl⟩
        have HG := Lib.hid hg
        rw [hg] at hge
        go_wp2_with fail
        refine (index_any s[k] _).mono ?_
        rintro e w' ⟨rfl, rfl⟩
        rw [HV.out]
        go_wp2
        clear hg
        go_loopw [8, 28] (fun j i wr => ∃ d : Nat, d ≤ 3 ∧ i = .int .i64 (d : Int) ∧ Hid (Whole wr g 95 (ps m d)) ∧ Hid (Below w.heap.size w wr)) (fun _ i _ => 3 - (intOf i).toNat)
        case atStart => exact ⟨0, by omega, by go_num, by rw [← HG.out]; exact HWH, HB0⟩
        case round =>
          obtain ⟨d, hd, rfl, HX, HB⟩ := hrel
          by_cases hl3 : d < 3
          · have j0 : (0 : Int) ≤ (d : Int) := by omega
            have j1 : (d : Int) < 3 := by omega
            have j2 : (d : Int) ≤ 2 := by omega
            have hf : wr.frozen? ⟨g, d, none⟩ = false := HX.out.free d
            have hcc : wr.cell? ⟨g, d, none⟩ = some (.int .u8 0) := by rw [HX.out.cell d, ps_at m d (by omega)]
            go_wp2_with fail
            refine (byte_shift d (by omega) _).mono ?_
            rintro e w' ⟨rfl, rfl⟩
            go_wp2
            go_roundw
            case rel =>
              refine ⟨d + 1, by omega, by go_num, ?_, Lib.hid (HB.out.setCell hge _)⟩
              rw [← ps_step m d (by omega)]
              exact HX.out.store d _
            case measure => simp [intOf]; omega
          · have j1 : ¬ (d : Int) < 3 := by omega
            have HD : Hid (d = 3) := Lib.hid (by omega)
            obtain ⟨L, hL⟩ : ∃ L, (three m).take c = L := ⟨_, rfl⟩
            have hLc : L.length = c := by rw [← hL]; unfold three; rw [List.length_take]; simp; omega
            have hcells : ∀ j (hj : j < L.length), wr.cell? ((⟨g, 0, none⟩ : Addr).add j) = some (.int .u8 (L[j].toNat : Int)) := by
              subst hL
              intro j hj
              rw [show (⟨g, 0, none⟩ : Addr).add j = ⟨g, j, none⟩ from by simp [Addr.add]; exact fun e => e.symm, HX.out.cell j, HD.out]
              have hj3 : j < 3 := by omega
              rw [List.getElem_take]
              exact ps_three m j hm hj3
            have hcv := run_convert_bytes_back (P := Try.prog) wr 22 9 5 ⟨g, 0, none⟩ 3 L Try.underlying22 Try.underlying5 Try.underlying9 hcells
            rw [hLc] at hcv
            have HLL := Lib.hid hL
            clear hcells hL hLc
            have c0 : (0 : Int) ≤ (c : Int) := by omega
            have c1 : (c : Int) ≤ 3 := by omega
            go_wp2
            go_ret
            refine ⟨?_, HB.out⟩
            rw [← HLL.out]
            unfold decG
            rw [HN.out, ← HC.out, ← HM.out]
            rfl
    · have i1 : ¬ (k : Int) < (s.size : Int) := by omega
      have HN : Hid (leads s.data.toList = k) := Lib.hid (by have := leads_le s.data.toList; have := HL.out; have := HK.out; omega)
      obtain ⟨wo, rfl⟩ : ∃ wo : World, wo = wr := ⟨_, rfl⟩
      have HB0 := Lib.hid (HW.out.alloc HW.out.size (.cells #[.int .u8 0, .int .u8 0, .int .u8 0] 95))
      have hge : w.heap.size ≤ wo.heap.size := HW.out.size
      have HWH := Lib.hid (Whole.made wo 95 #[.int .u8 0, .int .u8 0, .int .u8 0])
      obtain ⟨g, hg⟩ : ∃ g, wo.heap.size = g := ⟨_, rfl⟩
      have HG := Lib.hid hg
      rw [hg] at hge
      go_wp2
      clear hg
      go_loopw [8, 28] (fun j i wr => ∃ d : Nat, d ≤ 3 ∧ i = .int .i64 (d : Int) ∧ Hid (Whole wr g 95 (ps m d)) ∧ Hid (Below w.heap.size w wr)) (fun _ i _ => 3 - (intOf i).toNat)
      case atStart => exact ⟨0, by omega, by go_num, by rw [← HG.out]; exact HWH, HB0⟩
      case round =>
        obtain ⟨d, hd, rfl, HX, HB⟩ := hrel
        by_cases hl3 : d < 3
        · have j0 : (0 : Int) ≤ (d : Int) := by omega
          have j1 : (d : Int) < 3 := by omega
          have j2 : (d : Int) ≤ 2 := by omega
          have hf : wr.frozen? ⟨g, d, none⟩ = false := HX.out.free d
          have hcc : wr.cell? ⟨g, d, none⟩ = some (.int .u8 0) := by rw [HX.out.cell d, ps_at m d (by omega)]
          go_wp2_with fail
          refine (byte_shift d (by omega) _).mono ?_
          rintro e w' ⟨rfl, rfl⟩
          go_wp2
          go_roundw
          case rel =>
            refine ⟨d + 1, by omega, by go_num, ?_, Lib.hid (HB.out.setCell hge _)⟩
            rw [← ps_step m d (by omega)]
            exact HX.out.store d _
          case measure => simp [intOf]; omega
        · have j1 : ¬ (d : Int) < 3 := by omega
          have HD : Hid (d = 3) := Lib.hid (by omega)
          obtain ⟨L, hL⟩ : ∃ L, (three m).take c = L := ⟨_, rfl⟩
          have hLc : L.length = c := by rw [← hL]; unfold three; rw [List.length_take]; simp; omega
          have hcells : ∀ j (hj : j < L.length), wr.cell? ((⟨g, 0, none⟩ : Addr).add j) = some (.int .u8 (L[j].toNat : Int)) := by
            subst hL
            intro j hj
            rw [show (⟨g, 0, none⟩ : Addr).add j = ⟨g, j, none⟩ from by simp [Addr.add]; exact fun e => e.symm, HX.out.cell j, HD.out]
            have hj3 : j < 3 := by omega
            rw [List.getElem_take]
            exact ps_three m j hm hj3
          have hcv := run_convert_bytes_back (P := Try.prog) wr 22 9 5 ⟨g, 0, none⟩ 3 L Try.underlying22 Try.underlying5 Try.underlying9 hcells
          rw [hLc] at hcv
          have HLL := Lib.hid hL
          clear hcells hL hLc
          have c0 : (0 : Int) ≤ (c : Int) := by omega
          have c1 : (c : Int) ≤ 3 := by omega
          go_wp2
          go_ret
          refine ⟨?_, HB.out⟩
          rw [← HLL.out]
          unfold decG
          rw [HN.out, ← HC.out, ← HM.out]
          rfl
end Go.Proofs.Ytmangdkaklnpdaa
