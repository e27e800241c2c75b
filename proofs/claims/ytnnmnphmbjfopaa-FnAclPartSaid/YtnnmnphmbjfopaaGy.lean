/-
  What the laws of grants ask of the plain mathematics, and contracts with named results. Plain lemmas; the grants can be read.
-/
import Derived.Test.YtnnmnphmbjfopaaGx
namespace Go.Proofs.Ytnnmnphmbjfopaa
open Go.RowKit
set_option linter.unusedVariables false

def smallG (L : List Gr) : Prop := L.length ≤ 33554432 ∧ ∀ g ∈ L, g.1.size ≤ 16777216
theorem GIn.made {w : World} {B N cap : Nat} {A : Option Addr} {L : List Gr} (h : ROwn grR w B (.slice A N cap) L) (hs : smallG L) : GIn w A N cap L := GIn.of h (by rw [h.len.1]; exact hs.1) hs.2
theorem GIn.small {w : World} {N cap : Nat} {A : Option Addr} {L : List Gr} (h : GIn w A N cap L) : smallG L := ⟨by rw [h.1]; exact h.2.1, h.2.2.2.2.2⟩
theorem aclG_small {L M : List Gr} {u : ByteArray} {r : Int} {z : Bool} (h : aclG L u r = (M, z)) (hL : smallG L) (hu : u.size ≤ 16777216) : smallG M := by
  cases hc : (vG L && (nameB (kb u) && isR r)) with
  | false =>
    rw [aclG_no hc] at h
    cases h
    exact ⟨by simp, fun g hg => by cases hg⟩
  | true =>
    simp only [Bool.and_eq_true] at hc
    rw [aclG_yes hc.1 hc.2.1 hc.2.2] at h
    split at h
    · rename_i hl
      cases h
      exact ⟨by omega, setG_small (vG_iff.1 hc.1).2.2 hL.2 hu⟩
    · cases h
      exact hL
/-- Lists in order with the same grants are the same. -/
theorem asc_ext {L M : List Gr} (hL : ascG L) (hM : ascG M) (h : ∀ g, g ∈ L ↔ g ∈ M) : L = M := by
  have n1 : L.Nodup := hL.imp (fun {a b} h e => ltG_ne h (congrArg Prod.fst e))
  have n2 : M.Nodup := hM.imp (fun {a b} h e => ltG_ne h (congrArg Prod.fst e))
  refine List.Perm.eq_of_pairwise (le := fun (a b : Gr) => ltG a.1 b.1 = true) (fun a b _ _ h1 h2 => ?_) hL hM ((List.perm_ext_iff_of_nodup n1 n2).2 h)
  have := ltG_asymm h1
  rw [h2] at this
  cases this
theorem setG_mem {L : List Gr} (ha : ascG L) {u : ByteArray} {r : Int} {g : Gr} : g ∈ setG L u r ↔ (g ∈ L ∧ g.1 ≠ u) ∨ (r ≠ 0 ∧ g = (u, r)) := by
  unfold setG
  by_cases hr : r = 0
  · rw [if_pos hr, delG_mem]
    constructor
    · exact .inl
    · rintro (h | h)
      · exact h
      · exact absurd hr h.1
  · rw [if_neg hr, insG_mem ha]
    constructor
    · rintro (h | h)
      · exact .inl h
      · exact .inr ⟨hr, h⟩
    · rintro (h | h)
      · exact .inl h
      · exact .inr h.2
theorem setG_val {L : List Gr} (ha : ascG L) (u : ByteArray) (r : Int) : valG (setG L u r) u = r := by
  by_cases hr : r = 0
  · rw [hr]
    refine valG_no ?_
    cases hh : hasG (setG L u 0) u with
    | false => rfl
    | true =>
      obtain ⟨g, hg, e⟩ := hasG_mem.1 hh
      rcases (setG_mem ha).1 hg with h | h
      · exact absurd e h.2
      · exact absurd rfl h.1
  · exact valG_mem (setG_asc ha u r) (g := (u, r)) ((setG_mem ha).2 (.inr ⟨hr, rfl⟩))
theorem setG_twice {L : List Gr} (ha : ascG L) (u : ByteArray) (r : Int) : setG (setG L u r) u r = setG L u r := by
  refine asc_ext (setG_asc (setG_asc ha u r) u r) (setG_asc ha u r) fun g => ?_
  rw [setG_mem (setG_asc ha u r), setG_mem ha]
  constructor
  · rintro (⟨h | h, h2⟩ | h)
    · exact .inl h
    · exact .inr h
    · exact .inr h
  · rintro (h | h)
    · exact .inl ⟨.inl h, h.2⟩
    · exact .inr h
theorem setG_back {L : List Gr} (hv : vG L = true) (u : ByteArray) (r : Int) : setG (setG L u r) u (valG L u) = L := by
  obtain ⟨h4, hok, ha⟩ := vG_iff.1 hv
  refine asc_ext (setG_asc (setG_asc ha u r) u _) ha fun g => ?_
  rw [setG_mem (setG_asc ha u r), setG_mem ha]
  constructor
  · rintro (⟨h | h, h2⟩ | h)
    · exact h.1
    · exact absurd (by rw [h.2]) h2
    · have hh : hasG L u = true := by
        cases hh : hasG L u with
        | true => rfl
        | false => exact absurd (valG_no hh) h.1
      obtain ⟨x, hx, rfl⟩ := hasG_mem.1 hh
      rw [h.2, valG_mem ha hx]
      exact hx
  · intro hg
    by_cases he : g.1 = u
    · subst he
      refine .inr ⟨?_, ?_⟩
      · have := valG_yes hok (hasG_mem.2 ⟨g, hg, rfl⟩)
        omega
      · rw [valG_mem ha hg]
    · exact .inl ⟨.inl ⟨hg, he⟩, he⟩
theorem val_right {L : List Gr} (hv : vG L = true) (u : ByteArray) : isR (valG L u) = true := by
  have := (vN_lt hv u)
  rw [this.2]
  exact isR_of this.1
theorem set_good {L M : List Gr} {u : ByteArray} {r : Int} (h : aclG L u r = (M, true)) : vG M = true ∧ valG M u = r ∧ aclG M u r = (M, true) ∧ aclG M u (valG L u) = (L, true) := by
  obtain ⟨hv, hn, hr, rfl, hl⟩ := aclG_true h
  obtain ⟨h4, hok, ha⟩ := vG_iff.1 hv
  have hvm : vG (setG L u r) = true := by rw [vG_set hv hn hr, decide_eq_true hl]
  refine ⟨hvm, setG_val ha u r, ?_, ?_⟩
  · rw [aclG_yes hvm hn hr, setG_twice ha, if_pos hl]
  · rw [aclG_yes hvm hn (val_right hv u), setG_back hv, if_pos h4]
theorem set_full {L M : List Gr} {u : ByteArray} {r : Int} (h : aclG L u r = (M, false)) (hv : vG L = true) (hn : nameB (kb u) = true) (hr : isR r = true) : M = L ∧ L.length = 4 ∧ valG L u = 0 ∧ 0 < r := by
  obtain ⟨h4, hok, ha⟩ := vG_iff.1 hv
  rw [aclG_yes hv hn hr] at h
  split at h
  · cases h
  · rename_i hl
    cases h
    unfold setG at hl
    split at hl
    · exact absurd (Nat.le_trans (List.length_filter_le _ _) h4) hl
    · rename_i h0
      rw [insG_len ha] at hl
      unfold isR at hr
      simp at hr
      split at hl
      · exact absurd h4 hl
      · rename_i hh
        exact ⟨rfl, by omega, valG_no (by simpa using hh), by omega⟩
/-- How many others there are. -/
theorem others_len {L : List Gr} (ha : ascG L) (u : ByteArray) (r : Int) : (setG L u r).length = (delG L u).length + (if r = 0 then 0 else 1) := by
  unfold setG
  split
  · rfl
  · have := (insG_perm ha u r).length_eq
    rw [List.length_append, List.length_singleton] at this
    exact this.symm
theorem others_val {L : List Gr} (ha : ascG L) {u : ByteArray} {r : Int} {g : Gr} (hg : g ∈ L) (hne : g.1 ≠ u) : valG (setG L u r) g.1 = g.2 := valG_mem (setG_asc ha u r) ((setG_mem ha).2 (.inl ⟨hg, hne⟩))
/-- All of the rights. -/
def alB (a b : Nat) : Bool := (List.range 6).all fun k => !tr b k || tr a k
theorem or_all {a b : Nat} (ha : a < 64) (hb : b < 64) : alB (orK a b 6) a = true ∧ alB (orK a b 6) b = true ∧ orK a b 6 ≤ a + b ∧ orK a b 6 < 64 ∧ alB (orK a b 6) (orK b b 6) = true := by
  have : ∀ a b : Fin 64, alB (orK a.1 b.1 6) a.1 = true ∧ alB (orK a.1 b.1 6) b.1 = true ∧ orK a.1 b.1 6 ≤ a.1 + b.1 ∧ orK a.1 b.1 6 < 64 ∧ alB (orK a.1 b.1 6) (orK b.1 b.1 6) = true := by decide +kernel
  exact this ⟨a, ha⟩ ⟨b, hb⟩
theorem all_in {b : Nat} (hb : b < 64) : alB 63 b = true := by
  have : ∀ b : Fin 64, alB 63 b.1 = true := by decide +kernel
  exact this ⟨b, hb⟩
theorem alB_iff {a b : Nat} : alB a b = true ↔ ∀ k, k < 6 → tr b k = true → tr a k = true := by
  unfold alB
  rw [List.all_eq_true]
  constructor
  · intro h k hk hb
    have := h k (List.mem_range.2 hk)
    rw [hb] at this
    simpa using this
  · intro h k hk
    cases hb : tr b k with
    | false => rfl
    | true => rw [h k (List.mem_range.1 hk) hb]; rfl
theorem alB_end {a b i : Nat} (h : ∀ k, k < i → tr b k = true → tr a k = true) (h0 : b / 2 ^ i = 0) : alB a b = true := by
  refine alB_iff.2 fun k hk hb => ?_
  by_cases hki : k < i
  · exact h k hki hb
  · exfalso
    have h1 : b / 2 ^ k = 0 := by
      have h2 : 2 ^ i ≤ 2 ^ k := Nat.pow_le_pow_right (by omega) (by omega)
      have h3 : b < 2 ^ i := by
        rcases Nat.lt_or_ge b (2 ^ i) with h | h
        · exact h
        · have := Nat.div_pos h (Nat.two_pow_pos i)
          omega
      exact Nat.div_eq_of_lt (by omega)
    unfold tr at hb
    rw [h1] at hb
    simp at hb
theorem alB_bad {a b i : Nat} (hb : b < 64) (h0 : ¬ b / 2 ^ i = 0) (h1 : b / 2 ^ i % 2 = 1) (h2 : a / 2 ^ i % 2 = 0) : alB a b = false := by
  have hi := cnt_six hb h0
  cases h : alB a b with
  | false => rfl
  | true =>
    have := alB_iff.1 h i hi ((tr_bit b i).1 h1)
    rw [← tr_bit] at this
    omega
theorem alB_next {a b i : Nat} (h : ∀ k, k < i → tr b k = true → tr a k = true) (h1 : ¬ (b / 2 ^ i % 2 = 1 ∧ a / 2 ^ i % 2 = 0)) : ∀ k, k < i + 1 → tr b k = true → tr a k = true := by
  intro k hk hb
  by_cases hki : k < i
  · exact h k hki hb
  · have : k = i := by omega
    subst this
    rw [← tr_bit] at hb ⊢
    omega
set_option maxRecDepth 20000 in
set_option maxHeartbeats 4000000 in
theorem all_of {a b : Nat} {z : Bool} (hz : alB a b = z) (w : World) (ha : a < 64) (hb : b < 64) : Calls Try.prog 39 #[.int .i64 (a : Int), .int .i64 (b : Int)] w (SayB w z) := by
  have HZ := Lib.hid hz
  clear hz
  go_enter Try.func39, Try.ntmps39
  go_wp2
  go_loopw [0, 1] (fun x y wr => ∃ i : Nat, i ≤ 6 ∧ x = .int .i64 ((a / 2 ^ i : Nat) : Int) ∧ y = .int .i64 ((b / 2 ^ i : Nat) : Int) ∧ Hid (∀ k, k < i → tr b k = true → tr a k = true) ∧ wr = w) (fun _ y _ => (intOf y).toNat)
  case atStart => exact ⟨0, by omega, by simp, by simp, fun k hk => by omega, rfl⟩
  case round =>
    obtain ⟨i, hi, rfl, rfl, HK, rfl⟩ := hrel
    obtain ⟨c, hc⟩ : ∃ c, a / 2 ^ i = c := ⟨_, rfl⟩
    obtain ⟨d, hd⟩ : ∃ d, b / 2 ^ i = d := ⟨_, rfl⟩
    have hca : c ≤ a := hc ▸ Nat.div_le_self _ _
    have hdb : d ≤ b := hd ▸ Nat.div_le_self _ _
    rw [hc, hd]
    have HC := Lib.hid hc
    have HD := Lib.hid hd
    clear hc hd
    by_cases h0 : d = 0
    · have d0 : ¬ (0 : Int) < (d : Int) := by omega
      have HE : Hid (z = true) := Lib.hid (by rw [← HZ.out]; exact alB_end HK.out (by rw [HD.out, h0]))
      go_wp2
      go_ret
      exact says_b HE.out (Below.refl _ _)
    · have d0 : (0 : Int) < (d : Int) := by omega
      have hi6 : i < 6 := cnt_six (f := b) hb (by rw [HD.out]; exact h0)
      obtain ⟨c', hc'⟩ : ∃ t, c / 2 = t := ⟨_, rfl⟩
      obtain ⟨d', hd'⟩ : ∃ t, d / 2 = t := ⟨_, rfl⟩
      have T2 : (d : Int) / 2 = (d' : Int) := by omega
      have T3 : (d : Int).tdiv 2 = (d' : Int) := by rw [← hd']; exact IntWalk.up_tdiv rfl rfl
      have T4 : (c : Int) / 2 = (c' : Int) := by omega
      have T5 : (c : Int).tdiv 2 = (c' : Int) := by rw [← hc']; exact IntWalk.up_tdiv rfl rfl
      have W2 : IntKind.i64.wrap (d' : Int) = (d' : Int) := IntWalk.i64_in _ (by omega)
      have W3 : IntKind.i64.wrap (c' : Int) = (c' : Int) := IntWalk.i64_in _ (by omega)
      have HC1 : Hid (a / 2 ^ (i + 1) = c') := Lib.hid (by rw [cnt_step, HC.out, hc'])
      have HD1 : Hid (b / 2 ^ (i + 1) = d') := Lib.hid (by rw [cnt_step, HD.out, hd'])
      by_cases hb1 : d % 2 = 1
      · have F1 : (d : Int) % 2 = 1 := by omega
        by_cases ha1 : c % 2 = 0
        · have F2 : (c : Int) % 2 = 0 := by omega
          have HE : Hid (z = false) := Lib.hid (by rw [← HZ.out]; exact alB_bad hb (i := i) (by rw [HD.out]; exact h0) (by rw [HD.out]; exact hb1) (by rw [HC.out]; exact ha1))
          clear hc' hd' hb1 ha1
          go_wp2
          go_ret
          exact says_b HE.out (Below.refl _ _)
        · have F2 : (c : Int) % 2 = 1 := by omega
          have HK1 := Lib.hid (alB_next HK.out (by rw [HC.out]; omega))
          clear hc' hd' hb1 ha1
          go_wp2
          go_roundw
          case rel => exact ⟨i + 1, by omega, by rw [HC1.out], by rw [HD1.out], HK1.out, trivial⟩
          case measure => simp [intOf]; omega
      · have F1 : (d : Int) % 2 = 0 := by omega
        have HK1 := Lib.hid (alB_next HK.out (by rw [HD.out]; omega))
        clear hc' hd' hb1
        go_wp2
        go_roundw
        case rel => exact ⟨i + 1, by omega, by rw [HC1.out], by rw [HD1.out], HK1.out, trivial⟩
        case measure => simp [intOf]; omega
theorem same_at {A A2 : Option Addr} {N N2 cap cap2 : Nat} {L M : List Gr} {z : Bool} (hz : decide (L = M) = z) (w : World) (h : GIn w A N cap L) (h2 : GIn w A2 N2 cap2 M) :
    Calls Try.prog 33 #[.slice A N cap, .slice A2 N2 cap2] w (SayB w z) := by
  subst hz
  exact same_grants w h h2
theorem same_yes {A A2 : Option Addr} {N N2 cap cap2 : Nat} {L : List Gr} (w : World) (h : GIn w A N cap L) (h2 : GIn w A2 N2 cap2 L) :
    Calls Try.prog 33 #[.slice A N cap, .slice A2 N2 cap2] w (SayB w true) := same_at (decide_eq_true rfl) w h h2
theorem grantof_at {A : Option Addr} {N cap : Nat} {L : List Gr} {u : ByteArray} {z : Int} (hz : valG L u = z) (w : World) (h : GIn w A N cap L) :
    Calls Try.prog 34 #[.slice A N cap, .string u] w (SayI w z) := by
  subst hz
  exact grant_of u w h
end Go.Proofs.Ytnnmnphmbjfopaa
