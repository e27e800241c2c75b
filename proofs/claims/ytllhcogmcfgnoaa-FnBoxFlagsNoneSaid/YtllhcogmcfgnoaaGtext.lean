/-
  The contracts of the model's l6Many and l91Text, which draw texts of messages. Condition: the code can be read.
-/
import Derived.Test.YtllhcogmcfgnoaaHr
import Derived.Test.YtllhcogmcfgnoaaFdraw
import Derived.Deep.LoopGhost
namespace Go.Proofs.Ytllhcogmcfgnoaa
open Go.RowKit
set_option linter.unusedVariables false

theorem many_odd {k s o T : Nat} (h : o + k * s ≤ T) (hk : k % 2 = 1) : (o + s) + k / 2 * (s + s) ≤ T := by
  have e : k * s = k / 2 * (s + s) + s := by
    conv => lhs; rw [← Nat.div_add_mod k 2, hk, Nat.add_mul, Nat.one_mul, Nat.mul_comm 2, Nat.mul_assoc, Nat.two_mul]
  omega
theorem many_even {k s o T : Nat} (h : o + k * s ≤ T) (hk : k % 2 = 0) : o + k / 2 * (s + s) ≤ T := by
  have e : k * s = k / 2 * (s + s) := by
    conv => lhs; rw [← Nat.div_add_mod k 2, hk, Nat.add_zero, Nat.mul_comm 2, Nat.mul_assoc, Nat.two_mul]
  omega
theorem many_le {k s o T : Nat} (h : o + k * s ≤ T) (hk : 0 < k) : s ≤ T ∧ o ≤ T := by
  have : s ≤ k * s := Nat.le_mul_of_pos_left s hk
  omega
theorem many_odd' {k : Nat} (h : k % 2 = 1) : (k : Int) % 2 = 1 := by omega
theorem many_even' {k : Nat} (h : ¬ k % 2 = 1) : (k : Int) % 2 = 0 := by omega
/-- A text of at most so many bytes. -/
def SaysMany (T : Nat) (w : World) (e : Ending) (w' : World) : Prop := ∃ v : ByteArray, v.size ≤ T ∧ e = .returned (.string v) ∧ w = w'
set_option maxHeartbeats 2000000 in
theorem spec_many (s : ByteArray) (k T : Nat) (w : World) (hk : k ≤ 1000) (h : k * s.size ≤ T) (hT : T ≤ 100000) (hs : s.size ≤ 100000) :
    Calls Try.prog 35 #[.string s, .int .i64 (k : Int)] w (SaysMany T w) := by
  have HI := Lib.hid (show (ByteArray.empty).size + k * s.size ≤ T by rw [ByteArray.size_empty]; omega)
  clear h
  go_enter Try.func35, Try.ntmps35
  go_wp2
  go_loop [0, 1, 5] (fun x y z => ∃ (k : Nat) (s o : ByteArray), k ≤ 1000 ∧ s.size ≤ 200000 ∧ o.size ≤ 100000 ∧ x = .string s ∧ y = .int .i64 (k : Int) ∧ z = .string o ∧ Hid (o.size + k * s.size ≤ T)) (fun _ y _ => (intOf y).toNat)
  case atStart => exact ⟨k, s, ByteArray.empty, hk, by omega, by rw [ByteArray.size_empty]; omega, rfl, rfl, rfl, HI⟩
  case round =>
    clear HI
    obtain ⟨k, s, o, hk, hs, ho, rfl, rfl, rfl, HI⟩ := hrel
    by_cases hlt : 0 < k
    · have hlt' : (0 : Int) < (k : Int) := by omega
      obtain ⟨m1, m2⟩ := many_le HI.out hlt
      have m1' : s.size ≤ 100000 := by omega
      by_cases hm : k % 2 = 1
      · have hm' := many_odd' hm
        have HN := Lib.hid (many_odd HI.out hm)
        have m3 : o.size + s.size ≤ T := by have := HN.out; omega
        clear hm
        go_wp2
        go_round
        case rel => exact ⟨k / 2, s ++ s, o ++ s, by omega, by rw [ByteArray.size_append]; omega, by rw [ByteArray.size_append]; omega, rfl, by go_num, rfl, by show _ ≤ _; rw [ByteArray.size_append, ByteArray.size_append]; exact HN.out⟩
        case measure => simp [intOf]; omega
      · have hm' := many_even' hm
        have HN := Lib.hid (many_even HI.out (by omega))
        clear hm
        go_wp2
        go_round
        case rel => exact ⟨k / 2, s ++ s, o, by omega, by rw [ByteArray.size_append]; omega, by omega, rfl, by go_num, rfl, by show _ ≤ _; rw [ByteArray.size_append]; exact HN.out⟩
        case measure => simp [intOf]; omega
    · have hlt' : ¬ (0 : Int) < (k : Int) := by omega
      have HO : Hid (o.size ≤ T) := by have := HI.out; show _ ≤ _; omega
      go_wp2
      go_ret
      exact ⟨o, HO.out, rfl, rfl⟩

/-- A drawn text of a message. -/
def DrewT (w : World) (b p : Nat) (e : Ending) (w' : World) : Prop := ∃ (t : List UInt8) (q : Nat), t.length ≤ 30 ∧ q ≤ p + 2 ∧ e = .returned (.string (sB t)) ∧ Rd w' b q ∧ w.grownBy w' (some b)
theorem texts_le {l : List UInt8} (h : l ∈ [([] : List UInt8), [104, 101, 108, 108, 111], [97, 109, 121, 32, 97, 110, 100, 32, 98, 111, 98], [120], [98, 111, 120, 49, 32, 111, 114, 32, 120], [116, 111, 32, 98, 111, 98]]) : l.length ≤ 30 := by
  simp at h
  rcases h with rfl | rfl | rfl | rfl | rfl | rfl <;> decide
set_option maxRecDepth 20000 in
set_option maxHeartbeats 2000000 in
theorem text_draw (b p : Nat) (w : World) (h : Rd w b p) (hp : p ≤ 900000) :
    Calls Try.prog 25 #[.pointer (some ⟨b, 0, none⟩)] w (DrewT w b p) := by
  have H := Lib.hid h
  clear h
  go_enter Try.func25, Try.ntmps25
  go_wp2_with fail
  refine (pick_any b p 16 w H.out (by omega) (by omega) (by omega)).mono ?_
  rintro e w1 ⟨x, hx, rfl, hr, hg⟩
  have HR := Lib.hid hr
  have HG := Lib.hid hg
  clear hr hg
  by_cases h0 : x = 0
  · subst h0
    go_wp2_with fail
    refine (pick_any b (p + 1) 3 _ HR.out (by omega) (by omega) (by omega)).mono ?_
    rintro e w2 ⟨y, hy, rfl, hr, hg⟩
    have H2 := Lib.hid (And.intro hr (gr_trans HG.out hg))
    clear hr hg
    obtain ⟨z, hz⟩ : ∃ z, 19 + y = z := ⟨_, rfl⟩
    have hz21 : z ≤ 21 := by omega
    have e1 : (19 : Int) + (y : Int) = (z : Int) := by omega
    have W1 : IntKind.i64.wrap (19 + (y : Int)) = (z : Int) := (IntWalk.i64_in _ (by omega)).trans e1
    clear hz
    go_wp2_with fail
    refine (spec_many ⟨#[120]⟩ z 21 _ (by omega) (by show z * 1 ≤ 21; omega) (by omega) (by decide)).mono ?_
    rintro e w3 ⟨v, hv, rfl, rfl⟩
    go_wp2_with fail
    go_ret
    have hvl : v.data.toList.length = v.size := by rw [← sB_size, sB_of]
    exact ⟨v.data.toList, _, by omega, by omega, by rw [sB_of]; rfl, H2.out.1, H2.out.2⟩
  · have h0' : ((x : Int) == 0) = false := beq_eq_false_iff_ne.2 (by omega)
    clear h0
    go_wp2_with fail
    refine (of_new b (p + 1) [[], [104, 101, 108, 108, 111], [97, 109, 121, 32, 97, 110, 100, 32, 98, 111, 98], [120], [98, 111, 120, 49, 32, 111, 114, 32, 120], [116, 111, 32, 98, 111, 98]] w1 HR.out (by omega) (by decide) (by decide)).mono ?_
    rintro e w2 ⟨l, hl, rfl, hr, hg⟩
    have H2 := Lib.hid (And.intro hr (gr_trans HG.out hg))
    have hl30 := texts_le hl
    clear hr hg hl
    unfold str
    go_wp2_with fail
    go_ret
    exact ⟨l, _, hl30, by omega, rfl, H2.out.1, H2.out.2⟩
end Go.Proofs.Ytllhcogmcfgnoaa
