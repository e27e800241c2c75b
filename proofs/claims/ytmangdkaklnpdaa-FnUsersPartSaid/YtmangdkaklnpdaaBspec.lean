/-
  The contracts of the model's signs, encoder and decoder of base64. No condition beyond a bound on the text's length.
-/
import Derived.Test.YtmangdkaklnpdaaBplain
import Derived.Test.YtmangdkaklnpdaaCut
import Derived.Laws.IdiomStrings
import Derived.Lib.UnsafeStr
import Derived.Lib.BufferRead
namespace Go.Proofs.Ytmangdkaklnpdaa
open Go.RowKit
set_option linter.unusedVariables false

theorem letters : ∀ n : Fin 64, (⟨#[65, 66, 67, 68, 69, 70, 71, 72, 73, 74, 75, 76, 77, 78, 79, 80, 81, 82, 83, 84, 85, 86, 87, 88, 89, 90, 97, 98, 99, 100, 101, 102, 103, 104, 105, 106, 107, 108, 109, 110, 111, 112, 113, 114, 115, 116, 117, 118, 119, 120, 121, 122, 48, 49, 50, 51, 52, 53, 54, 55, 56, 57, 43, 47]⟩ : ByteArray).data.toList[n.1]? = some (sig n.1) := by decide
theorem at_of {B : ByteArray} {n : Nat} (h : n < B.size) {c : UInt8} (e : B.data.toList[n]? = some c) : B[n] = c := by
  have hl : n < B.data.toList.length := by simpa using h
  rw [List.getElem?_eq_getElem hl] at e
  exact Option.some.inj e
set_option maxHeartbeats 1000000 in
theorem letter_at (n : Nat) (hn : n < 64) (w : World) : Calls Try.prog 72 #[.int .i64 (n : Int)] w fun e w' => e = .returned (.int .u8 ((sig n).toNat : Int)) ∧ w' = w := by
  have h0 : (0 : Int) ≤ (n : Int) := by omega
  have h1 : (n : Int) < 64 := by omega
  have HL := Lib.hid (letters ⟨n, hn⟩)
  go_enter Try.func72, Try.ntmps72
  go_wp2
  go_ret
  exact ⟨congrArg (fun c : UInt8 => Ending.returned (.int .u8 (c.toNat : Int))) (at_of _ HL.out), rfl⟩
/-- The number of a sign, or -1. -/
def valI (c : UInt8) : Int := match num c with
  | some n => (n : Int)
  | none => -1
theorem valI_at {c : UInt8} {n : Nat} (hn : n < 64) (h : sig n = c) : valI c = (n : Int) := by unfold valI; rw [← h, num_sig hn]
theorem valI_no {c : UInt8} (h : ∀ n, n < 64 → sig n ≠ c) : valI c = -1 := by
  unfold valI
  cases hc : num c with
  | none => rfl
  | some n => exact absurd (num_some hc).2 (h n (num_some hc).1)
set_option maxHeartbeats 1000000 in
theorem value_at (c : UInt8) (w : World) : Calls Try.prog 76 #[.int .u8 (c.toNat : Int)] w fun e w' => e = .returned (.int .i64 (valI c)) ∧ w' = w := by
  go_enter Try.func76, Try.ntmps76
  go_wp2
  go_loop [3] (fun i => ∃ k : Nat, k ≤ 64 ∧ i = .int .i64 (k : Int) ∧ Hid (∀ m, m < k → sig m ≠ c)) (fun i => 64 - (intOf i).toNat)
  case atStart => exact ⟨0, by omega, by go_num, fun m hm => absurd hm (by omega)⟩
  case round =>
    obtain ⟨k, hk, rfl, HA⟩ := hrel
    by_cases hlt : k < 64
    · have h0 : (0 : Int) ≤ (k : Int) := by omega
      have h1 : (k : Int) < 64 := by omega
      by_cases hc : sig k = c
      · have hcb : (((sig k).toNat : Int) == (c.toNat : Int)) = true := by rw [hc]; simp
        have HE := Lib.hid (valI_at hlt hc)
        clear hc
        go_wp2_with fail
        refine (letter_at k hlt _).mono ?_
        rintro e w1 ⟨rfl, rfl⟩
        go_wp2
        go_ret
        exact ⟨by rw [HE.out]; rfl, rfl⟩
      · have hcb : (((sig k).toNat : Int) == (c.toNat : Int)) = false := by
          have : (sig k).toNat ≠ c.toNat := fun e => hc (UInt8.toNat_inj.1 e)
          simp; omega
        have HE := Lib.hid hc
        clear hc
        go_wp2_with fail
        refine (letter_at k hlt _).mono ?_
        rintro e w1 ⟨rfl, rfl⟩
        go_wp2
        go_round
        case rel =>
          refine ⟨k + 1, by omega, by go_num, fun m hm => ?_⟩
          rcases Nat.lt_or_ge m k with h | h
          · exact HA.out m h
          · have : m = k := by omega
            rw [this]; exact HE.out
        case measure => simp [intOf]; omega
    · have h1 : ¬ (k : Int) < 64 := by omega
      have HE := Lib.hid (valI_no (c := c) (fun n hn => HA.out n (by omega)))
      go_wp2
      go_ret
      exact ⟨by rw [HE.out]; rfl, rfl⟩

end Go.Proofs.Ytmangdkaklnpdaa
