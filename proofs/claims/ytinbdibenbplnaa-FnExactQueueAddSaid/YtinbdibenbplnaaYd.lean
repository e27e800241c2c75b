/-
  The exact laws' own texts of marks, on lists of texts, submissions and letters. Condition: the list is the call's own (marking), can be read (looking).
-/
import Derived.Test.YtinbdibenbplnaaQe
import Derived.OwnWalk
import Derived.Laws.OwnMore
import Derived.Deep.RegionHeld3
import Derived.Outline
namespace Go.Proofs.Ytinbdibenbplnaa
open Go.RowKit
set_option linter.unusedVariables false

theorem conv_oneE (W : World) (N : Nat) (c : UInt8) (z : Int) (hz : (c.toNat : Int) = z) (h : W.cell? ⟨N, 0, none⟩ = some (.int .u8 z)) :
    (convert 22 9 (.slice (some ⟨N, 0, none⟩) 1 1)).run Try.prog W = .ok (.string ⟨#[c]⟩) W := by
  have := run_convert_bytes_back (P := Try.prog) W 22 9 5 ⟨N, 0, none⟩ 1 [c] Try.underlying22 Try.underlying5 Try.underlying9 (fun j hj => by
    have : j = 0 := by simpa using hj
    subst this
    rw [radd, Nat.zero_add, h, ← hz]
    rfl)
  exact this
theorem dig_natE {d : Nat} (h : d ≤ 9) : ((UInt8.ofNat (48 + d)).toNat : Int) = 48 + (d : Int) := by
  have : (UInt8.ofNat (48 + d)).toNat = 48 + d := by
    rw [UInt8.toNat_ofNat']
    exact Nat.mod_eq_of_lt (by omega)
  omega
/-- A number's digits ahead of a text. -/
def mtGo (k : Nat) (out : List UInt8) : List UInt8 := if h : k = 0 then out else mtGo (k / 10) (UInt8.ofNat (48 + k % 10) :: out)
termination_by k
decreasing_by omega
theorem mtGo_zero (out : List UInt8) : mtGo 0 out = out := by rw [mtGo]; simp
theorem mtGo_step {k : Nat} (h : k ≠ 0) (out : List UInt8) : mtGo k out = mtGo (k / 10) (UInt8.ofNat (48 + k % 10) :: out) := by rw [mtGo]; simp [h]
/-- The text that stands for a mark. -/
def mt (k : Nat) : List UInt8 := 109 :: mtGo k []
set_option maxHeartbeats 2000000 in
theorem mark_text (k : Nat) (w : World) (hk : 0 < k) (hk2 : k ≤ 1000000000) :
    Calls Try.prog 88 #[.int .i64 (k : Int)] w fun e w' => e = .returned (.string (rB (mt k))) ∧ Below w.heap.size w w' := by
  have h0 : ¬ (k : Int) ≤ 0 := by omega
  go_enter Try.func88, Try.ntmps88
  go_wp2
  go_loopw [0, 3] (fun kv ov wr => ∃ (q : Nat) (o : List UInt8) (v : ByteArray), q ≤ k ∧ o.length ≤ 10 ∧ kv = .int .i64 (q : Int) ∧ ov = .string v ∧ Hid (rB o = v) ∧ Hid (q * 10 ^ o.length ≤ k) ∧ Hid (mtGo q o = mtGo k []) ∧ Hid (Below w.heap.size w wr)) (fun kv _ _ => (intOf kv).toNat)
  case atStart => exact ⟨k, [], _, Nat.le_refl _, (by show 0 ≤ 10; omega), rfl, rfl, rfl, (by show k * 10 ^ 0 ≤ k; omega), rfl, Below.refl _ _⟩
  case round =>
    obtain ⟨q, o, v, hq, hol, rfl, rfl, HV, HP, HM, HB⟩ := hrel
    have hlen : 0 < q → o.length ≤ 9 := fun h => by
      have h1 := HP.out
      have h2 : 10 ^ o.length ≤ 10 ^ 9 := by
        have : 1 * 10 ^ o.length ≤ q * 10 ^ o.length := Nat.mul_le_mul_right _ h
        omega
      exact (Nat.pow_le_pow_iff_right (by decide)).1 h2
    have hv9 : 0 < q → v.size ≤ 9 := fun h => by rw [← HV.out, rB_size]; exact hlen h
    by_cases hq0 : 0 < q
    · have h1 : (0 : Int) < (q : Int) := by omega
      have hv := hv9 hq0
      obtain ⟨d, hd⟩ : ∃ d, q % 10 = d := ⟨_, rfl⟩
      obtain ⟨p, hp⟩ : ∃ p, q / 10 = p := ⟨_, rfl⟩
      have hd9 : d ≤ 9 := by omega
      have E1 : (q : Int).tmod 10 = (d : Int) := by rw [Int.tmod_eq_emod_of_nonneg (by omega)]; omega
      have E2 : (q : Int).tdiv 10 = (p : Int) := by rw [Int.tdiv_eq_ediv_of_nonneg (by omega)]; omega
      have E3 : (q : Int) % 10 = (d : Int) := by omega
      have E4 : (q : Int) / 10 = (p : Int) := by omega
      have W1 : IntKind.i64.wrap (d : Int) = (d : Int) := IntWalk.i64_in _ (by omega)
      have W2 : IntKind.i64.wrap (p : Int) = (p : Int) := IntWalk.i64_in _ (by omega)
      have W3 : IntKind.i64.wrap (48 + (d : Int)) = 48 + (d : Int) := IntWalk.i64_in _ (by omega)
      have W4 : IntKind.u8.wrap (48 + (d : Int)) = 48 + (d : Int) := by rw [IntKind.wrap_u8]; omega
      obtain ⟨c, hc⟩ : ∃ c, UInt8.ofNat (48 + d) = c := ⟨_, rfl⟩
      have hcv := fun (W : World) (N : Nat) h => conv_oneE W N c _ (hc ▸ dig_natE hd9) h
      have HSTEP : Hid (mtGo p (c :: o) = mtGo k []) := by
        have h2 := HM.out
        rw [mtGo_step (by omega), hd, hp, hc] at h2
        exact h2
      have HV2 : Hid (rB (c :: o) = (⟨#[c]⟩ : ByteArray) ++ v) := by
        rw [← HV.out, show (⟨#[c]⟩ : ByteArray) = rB [c] from rfl, rB_cat]
        rfl
      have HP2 : Hid (p * 10 ^ (c :: o).length ≤ k) := by
        have h2 := HP.out
        show p * 10 ^ (o.length + 1) ≤ k
        rw [Nat.pow_succ, ← Nat.mul_assoc, Nat.mul_right_comm]
        have h3 : p * 10 * 10 ^ o.length ≤ q * 10 ^ o.length := Nat.mul_le_mul_right _ (by omega)
        omega
      have hpq : p < q := by omega
      have hol1 : (c :: o).length ≤ 10 := by have := hlen hq0; show o.length + 1 ≤ 10; omega
      have HOL := Lib.hid hol1
      clear hlen hv9 hd hp hol1 hol hc
      have HS := Lib.hid HB.out.size
      go_wp2_with fail
      go_roundw
      case rel => exact ⟨p, c :: o, _, by omega, HOL.out, rfl, rfl, HV2, HP2, HSTEP, HB.out.alloc HS.out _⟩
      case measure => simp [intOf]; omega
    · obtain rfl : q = 0 := by omega
      have hend : v.size ≤ 10 := by rw [← HV.out, rB_size]; exact hol
      have HE : Hid (mt k = 109 :: o) := by
        have h2 := HM.out
        rw [mtGo_zero] at h2
        show 109 :: mtGo k [] = _
        rw [← h2]
      clear hlen hv9 hol
      go_wp2_with fail
      go_ret
      refine ⟨?_, HB.out⟩
      rw [HE.out, ← HV.out, show (109 : UInt8) :: o = [109] ++ o from rfl, ← rB_cat]
      rfl
/-- The marks on texts, from a number on. -/
def mks (s n : Nat) : List ByteArray := (List.range n).map fun i => rB (mt (s + i))
theorem mks_len (s n : Nat) : (mks s n).length = n := by unfold mks; simp
theorem mks_succ (s n : Nat) : mks s (n + 1) = mks s n ++ [rB (mt (s + n))] := by unfold mks; rw [List.range_succ, List.map_append]; rfl
theorem mks_at {s n i : Nat} (h : i < n) : (mks s n)[i]? = some (rB (mt (s + i))) := by unfold mks; simp [h]
theorem gr_belowY {w w' : World} {row : Option Nat} (h : Below w.heap.size w w') : w.grownBy w' row := ⟨h.os, h.tape, h.output, h.size, fun b hb _ => h.block b hb⟩
theorem own_blockY {α : Type} {R : RowT α} {w : World} {B n cap : Nat} {A : Option Addr} {L : List α} (h : ROwn R w B (.slice A n cap) L) (h0 : 0 < n) : ∃ g, A = some ⟨g, 0, none⟩ := by
  have hl := h.len.1
  obtain ⟨A', c, he, _, _, _, _, hne⟩ := h.form
  cases he
  exact hne (by intro e; rw [hl, e] at h0; simp at h0)
theorem front_at {P L : List ByteArray} {i : Nat} (hp : P.length = i) (hi : i < L.length) : ∃ y, (P ++ L.drop i)[i]? = some y := ⟨_, List.getElem?_eq_getElem (by rw [List.length_append, List.length_drop]; omega)⟩
set_option maxHeartbeats 2000000 in
theorem mark_strs (s r : Nat) (A : Option Addr) (cap n B : Nat) (P : List ByteArray) (w : World) (hn : P.length = n) (h : ROwn stR w B (.slice A n cap) P) (hl : n ≤ 4000000) (hs : 0 < s) (hs2 : s ≤ 100000000) (hr : s + n = r) :
    Calls Try.prog 71 #[.slice A n cap, .int .i64 (s : Int)] w fun e w' => e = .returned (.int .i64 (r : Int)) ∧ ROwn stR w' B (.slice A n cap) (mks s n) ∧ w.grownBy w' (Value.slice A n cap).ownBlock := by
  have HN := Lib.hid hn
  have HO := Lib.hid h
  have HR := Lib.hid hr
  clear h hn hr
  go_enter Try.func71, Try.ntmps71
  go_wp2
  go_loopw [1, 5] (fun m i wr => ∃ k z : Nat, k ≤ n ∧ z = s + k ∧ m = .int .i64 (z : Int) ∧ i = .int .i64 (k : Int) ∧ Hid (w.grownBy wr (Value.slice A n cap).ownBlock) ∧ Hid (ROwn stR wr B (.slice A n cap) (mks s k ++ P.drop k))) (fun _ i _ => n - (intOf i).toNat)
  case atStart => exact ⟨0, s, Nat.zero_le _, rfl, by go_num, by go_num, ⟨rfl, rfl, rfl, Nat.le_refl _, fun _ _ _ => rfl⟩, HO.out⟩
  case round =>
    obtain ⟨k, z, hk, hz, rfl, rfl, HG, HW⟩ := hrel
    have HZ := Lib.hid hz
    by_cases hlt : k < n
    · have h0 : (0 : Int) ≤ (k : Int) := by omega
      have h5 : (k : Int) < (n : Int) := by omega
      have z1 : z ≤ 200000000 := by omega
      have z0 : 0 < z := by omega
      obtain ⟨g, rfl⟩ := own_blockY HW.out (by omega)
      have HKL : Hid (k < P.length) := Lib.hid (by rw [HN.out]; exact hlt)
      clear hz
      go_wp2_with fail
      refine (mark_text z _ z0 (by omega)).mono ?_
      rintro e w5 ⟨rfl, hb⟩
      have HO5 := Lib.hid (HW.out.kept hb)
      have HG5 := Lib.hid (gr_trans HG.out (gr_belowY (row := (Value.slice (some ⟨g, 0, none⟩) n cap).ownBlock) hb))
      obtain ⟨v, hv⟩ : ∃ v, rB (mt z) = v := ⟨_, rfl⟩
      obtain ⟨y, hy⟩ := front_at (mks_len s k) HKL.out
      have d0 := HO5.out.cell hy (j := 0) rfl
      have f0 := HO5.out.free k
      have h1 := HO5.out.stored (y := v) (j := 0) (u := .string v) hy (by decide) rfl
      rw [set_front _ (mks_len s k) HKL.out, show mks s k ++ [v] = mks s (k + 1) by rw [mks_succ, ← hv, HZ.out]] at h1
      simp only [stR, Nat.mul_one, Nat.add_zero] at d0 h1
      have HST := Lib.hid h1
      rw [hv]
      clear hy h1 hb hv
      go_wp2
      go_roundw
      case rel => exact ⟨k + 1, z + 1, by omega, by have := HZ.out; omega, by go_num, by go_num, gr_trans HG5.out HST.out.2, HST.out.1⟩
      case measure => simp [intOf]; omega
    · have h5 : ¬ (k : Int) < (n : Int) := by omega
      have hkn : k = n := by omega
      have ho := HW.out
      rw [hkn, List.drop_of_length_le (by rw [HN.out]; exact Nat.le_refl _), List.append_nil] at ho
      have HOE := Lib.hid ho
      have HZ2 := Lib.hid (show r = z by have := HR.out; omega)
      clear ho hkn hz
      go_wp2
      go_ret
      refine ⟨?_, HOE.out, HG.out⟩
      rw [HZ2.out]
      rfl
set_option maxHeartbeats 4000000 in
theorem held_strs (s r : Nat) (A : Option Addr) (cap n : Nat) (w : World) (h : RAt stR w A (mks s n)) (hl : n ≤ 4000000) (hs : 0 < s) (hs2 : s ≤ 100000000) (hr : s + n = r) :
    Calls Try.prog 89 #[.slice A n cap, .int .i64 (s : Int)] w fun e w' => e = .returned (.int .i64 (r : Int)) ∧ Below w.heap.size w w' := by
  have H := Lib.hid h
  have HR := Lib.hid hr
  clear h hr
  go_enter Try.func89, Try.ntmps89
  go_wp2
  go_loopw [1, 5] (fun m i wr => ∃ k z : Nat, k ≤ n ∧ z = s + k ∧ m = .int .i64 (z : Int) ∧ i = .int .i64 (k : Int) ∧ Hid (Below w.heap.size w wr)) (fun _ i _ => n - (intOf i).toNat)
  case atStart => exact ⟨0, s, Nat.zero_le _, rfl, by go_num, by go_num, Below.refl _ _⟩
  case round =>
    obtain ⟨k, z, hk, hz, rfl, rfl, HB⟩ := hrel
    have HZ := Lib.hid hz
    by_cases hlt : k < n
    · have h0 : (0 : Int) ≤ (k : Int) := by omega
      have h5 : (k : Int) < (n : Int) := by omega
      have hx := mks_at (s := s) hlt
      rw [← hz] at hx
      obtain ⟨b, o, rfl, hbz, c2⟩ := str_at (H.out.below HB.out (Nat.le_refl _)) hx
      obtain ⟨v, hv⟩ : ∃ v, rB (mt z) = v := ⟨_, rfl⟩
      rw [hv] at c2
      have HV := Lib.hid hv
      have hzp : 0 < z := by omega
      have hzq : z ≤ 1000000000 := by omega
      have HBD : Hid (Below w.heap.size w wr.drew) := HB.out.drew
      have HSZ := Lib.hid HBD.out.size
      clear hx hz hv
      go_wp2
      go_region_held3 (fun w' => w'.cell? ⟨b, o + k, none⟩ = some (.string v)) (first | exact c2 | go_keep)
        ((go_at_call 88; refine (mark_text z wr.drew hzp hzq).mono ?_; rw [HV.out]; rintro e w2 ⟨rfl, hb2⟩; have HB2 := Lib.hid (HBD.out.trans (hb2.mono HSZ.out)); have c3 := (hb2.cell (p := ⟨b, o + k, none⟩) hbz).trans c2; clear hb2))
      all_goals
        go_wp2
        go_roundw
        case rel => exact ⟨k + 1, z + 1, by omega, by have := HZ.out; omega, by go_num, by go_num, HB2⟩
        case measure => simp [intOf]; omega
    · have h5 : ¬ (k : Int) < (n : Int) := by omega
      have HZ2 := Lib.hid (show r = z by have := HR.out; omega)
      clear hz
      go_wp2
      go_ret
      refine ⟨?_, HB.out⟩
      rw [HZ2.out]
      rfl
set_option maxHeartbeats 1000000 in
theorem mark_letter (s r : Nat) (us tx : ByteArray) (A : Option Addr) (cap n B : Nat) (L : List ByteArray) (w : World) (hn : L.length = n) (h : ROwn stR w B (.slice A n cap) L) (hl : n ≤ 4000000) (hs : 0 < s) (hs2 : s ≤ 100000000) (hr : s + n = r) :
    Calls Try.prog 43 #[.agg #[.string us, .slice A n cap, .string tx], .int .i64 (s : Int)] w fun e w' => e = .returned (.int .i64 (r : Int)) ∧ ROwn stR w' B (.slice A n cap) (mks s n) ∧ w.grownBy w' (Value.slice A n cap).ownBlock := by
  have HO := Lib.hid (h.alloc (.cells #[.string us, .slice A n cap, .string tx] 25))
  have HG := Lib.hid (gr_belowY (row := (Value.slice A n cap).ownBlock) ((Below.refl w.heap.size w).alloc (Nat.le_refl _) (.cells #[.string us, .slice A n cap, .string tx] 25)))
  clear h
  go_enter Try.func43, Try.ntmps43
  go_wp2_with fail
  refine (mark_strs s r A cap n B L _ hn HO.out hl hs hs2 hr).mono ?_
  rintro e w2 ⟨rfl, ho, hg⟩
  go_wp2
  go_ret
  exact ⟨rfl, ho, gr_trans HG.out hg⟩
end Go.Proofs.Ytinbdibenbplnaa
