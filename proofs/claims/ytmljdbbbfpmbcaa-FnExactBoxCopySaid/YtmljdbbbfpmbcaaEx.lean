/-
  The exact laws' own helpers over lists of messages and of numbers: they count, copy, compare, mark, and look whether the marks still stand. Condition: the list can be read (marking: it is the call's own).
-/
import Derived.Test.YtmljdbbbfpmbcaaGq
import Derived.Test.YtmljdbbbfpmbcaaKeep
import Derived.OwnWalk
import Derived.Laws.OwnMore
import Derived.BigQuiet
import Derived.Deep.RegionHeld3
namespace Go.Proofs.Ytmljdbbbfpmbcaa
open Go.RowKit
set_option linter.unusedVariables false

theorem conv_oneE (W : World) (N : Nat) (c : UInt8) (z : Int) (hz : (c.toNat : Int) = z) (h : W.cell? ⟨N, 0, none⟩ = some (.int .u8 z)) :
    (convert 22 9 (.slice (some ⟨N, 0, none⟩) 1 1)).run Try.prog W = .ok (.string ⟨#[c]⟩) W := by
  have := run_convert_bytes_back (P := Try.prog) W 22 9 5 ⟨N, 0, none⟩ 1 [c] Try.underlying22 Try.underlying5 Try.underlying9 (fun j hj => by
    have : j = 0 := by simpa using hj
    subst this
    rw [radd, Nat.zero_add, h, ← hz]
    rfl)
  exact this
theorem dig_natE {d : Nat} (h : d ≤ 9) : ((UInt8.ofNat (48 + d)).toNat : Int) = 48 + (d : Int) := by
  have : (UInt8.ofNat (48 + d)).toNat = 48 + d := by
    rw [UInt8.toNat_ofNat']
    exact Nat.mod_eq_of_lt (by omega)
  omega
/-- A number's digits ahead of a text. -/
def mtGo (k : Nat) (out : List UInt8) : List UInt8 := if h : k = 0 then out else mtGo (k / 10) (UInt8.ofNat (48 + k % 10) :: out)
termination_by k
decreasing_by omega
theorem mtGo_zero (out : List UInt8) : mtGo 0 out = out := by rw [mtGo]; simp
theorem mtGo_step {k : Nat} (h : k ≠ 0) (out : List UInt8) : mtGo k out = mtGo (k / 10) (UInt8.ofNat (48 + k % 10) :: out) := by rw [mtGo]; simp [h]
/-- The text that stands for a mark. -/
def mt (k : Nat) : List UInt8 := 109 :: mtGo k []

set_option maxHeartbeats 2000000 in
theorem mark_text (k : Nat) (w : World) (hk : 0 < k) (hk2 : k ≤ 1000000000) :
    Calls Try.prog 84 #[.int .i64 (k : Int)] w fun e w' => e = .returned (.string (sB (mt k))) ∧ Below w.heap.size w w' := by
  have h0 : ¬ (k : Int) ≤ 0 := by omega
  go_enter Try.func84, Try.ntmps84
  go_wp2
  go_loopw [0, 3] (fun kv ov wr => ∃ (q : Nat) (o : List UInt8) (v : ByteArray), q ≤ k ∧ o.length ≤ 10 ∧ kv = .int .i64 (q : Int) ∧ ov = .string v ∧ Hid (sB o = v) ∧ Hid (q * 10 ^ o.length ≤ k) ∧ Hid (mtGo q o = mtGo k []) ∧ Hid (Below w.heap.size w wr)) (fun kv _ _ => (intOf kv).toNat)
  case atStart => exact ⟨k, [], _, Nat.le_refl _, (by show 0 ≤ 10; omega), rfl, rfl, rfl, (by show k * 10 ^ 0 ≤ k; omega), rfl, Below.refl _ _⟩
  case round =>
    obtain ⟨q, o, v, hq, hol, rfl, rfl, HV, HP, HM, HB⟩ := hrel
    have hlen : 0 < q → o.length ≤ 9 := fun h => by
      have h1 := HP.out
      have h2 : 10 ^ o.length ≤ 10 ^ 9 := by
        have : 1 * 10 ^ o.length ≤ q * 10 ^ o.length := Nat.mul_le_mul_right _ h
        omega
      exact (Nat.pow_le_pow_iff_right (by decide)).1 h2
    have hv9 : 0 < q → v.size ≤ 9 := fun h => by rw [← HV.out, sB_size]; exact hlen h
    by_cases hq0 : 0 < q
    · have h1 : (0 : Int) < (q : Int) := by omega
      have hv := hv9 hq0
      obtain ⟨d, hd⟩ : ∃ d, q % 10 = d := ⟨_, rfl⟩
      obtain ⟨p, hp⟩ : ∃ p, q / 10 = p := ⟨_, rfl⟩
      have hd9 : d ≤ 9 := by omega
      have E1 : (q : Int).tmod 10 = (d : Int) := by rw [Int.tmod_eq_emod_of_nonneg (by omega)]; omega
      have E2 : (q : Int).tdiv 10 = (p : Int) := by rw [Int.tdiv_eq_ediv_of_nonneg (by omega)]; omega
      have E3 : (q : Int) % 10 = (d : Int) := by omega
      have E4 : (q : Int) / 10 = (p : Int) := by omega
      have W1 : IntKind.i64.wrap (d : Int) = (d : Int) := IntWalk.i64_in _ (by omega)
      have W2 : IntKind.i64.wrap (p : Int) = (p : Int) := IntWalk.i64_in _ (by omega)
      have W3 : IntKind.i64.wrap (48 + (d : Int)) = 48 + (d : Int) := IntWalk.i64_in _ (by omega)
      have W4 : IntKind.u8.wrap (48 + (d : Int)) = 48 + (d : Int) := by rw [IntKind.wrap_u8]; omega
      obtain ⟨c, hc⟩ : ∃ c, UInt8.ofNat (48 + d) = c := ⟨_, rfl⟩
      have hcv := fun (W : World) (N : Nat) h => conv_oneE W N c _ (hc ▸ dig_natE hd9) h
      have HSTEP : Hid (mtGo p (c :: o) = mtGo k []) := by
        have h2 := HM.out
        rw [mtGo_step (by omega), hd, hp, hc] at h2
        exact h2
      have HV2 : Hid (sB (c :: o) = (⟨#[c]⟩ : ByteArray) ++ v) := by
        rw [← HV.out, show (⟨#[c]⟩ : ByteArray) = sB [c] from rfl, sB_cat]
        rfl
      have HP2 : Hid (p * 10 ^ (c :: o).length ≤ k) := by
        have h2 := HP.out
        show p * 10 ^ (o.length + 1) ≤ k
        rw [Nat.pow_succ, ← Nat.mul_assoc, Nat.mul_right_comm]
        have h3 : p * 10 * 10 ^ o.length ≤ q * 10 ^ o.length := Nat.mul_le_mul_right _ (by omega)
        omega
      have hpq : p < q := by omega
      have hol1 : (c :: o).length ≤ 10 := by have := hlen hq0; show o.length + 1 ≤ 10; omega
      have HOL := Lib.hid hol1
      clear hlen hv9 hd hp hol1 hol hc
      have HS := Lib.hid HB.out.size
      go_wp2_with fail
      go_roundw
      case rel => exact ⟨p, c :: o, _, by omega, HOL.out, rfl, rfl, HV2, HP2, HSTEP, HB.out.alloc HS.out _⟩
      case measure => simp [intOf]; omega
    · obtain rfl : q = 0 := by omega
      have hend : v.size ≤ 10 := by rw [← HV.out, sB_size]; exact hol
      have HE : Hid (mt k = 109 :: o) := by
        have h2 := HM.out
        rw [mtGo_zero] at h2
        show 109 :: mtGo k [] = _
        rw [← h2]
      clear hlen hv9 hol
      go_wp2_with fail
      go_ret
      refine ⟨?_, HB.out⟩
      rw [HE.out, ← HV.out, show (109 : UInt8) :: o = [109] ++ o from rfl, ← sB_cat]
      rfl

/-- What is left of a bound behind the texts of messages, or -1. -/
def szL : List ML → Int → Int
  | [], z => z
  | m :: L, z => if z - (m.2.2.length : Int) < 0 then -1 else szL L (z - (m.2.2.length : Int))
theorem szL_no {m : ML} {L : List ML} {z : Int} (h : z - (m.2.2.length : Int) < 0) : szL (m :: L) z = -1 := by unfold szL; rw [if_pos h]
theorem szL_yes {m : ML} {L : List ML} {z : Int} (h : ¬ z - (m.2.2.length : Int) < 0) : szL (m :: L) z = szL L (z - (m.2.2.length : Int)) := by
  rw [szL, if_neg h]
theorem szL_le : ∀ {L : List ML} {z : Int}, 0 ≤ z → szL L z ≤ z
  | [], z, _ => Int.le_refl _
  | m :: L, z, h => by
    by_cases h2 : z - (m.2.2.length : Int) < 0
    · rw [szL_no h2]; omega
    · rw [szL_yes h2]
      have := szL_le (L := L) (z := z - (m.2.2.length : Int)) (by omega)
      omega
/-- No text is longer than what a text may be. -/
def Txt (L : List ML) : Prop := ∀ m ∈ L, m.2.2.length ≤ maxLen
set_option maxHeartbeats 1000000 in
theorem sz_mail (u f z r : Int) (t : List UInt8) (v : ByteArray) (w : World) (hv : sB t = v) (ht : t.length ≤ maxLen) (hz : 0 ≤ z) (hz2 : z ≤ 1048576) (hr : (if z - (t.length : Int) < 0 then -1 else z - (t.length : Int)) = r) :
    Calls Try.prog 80 #[.agg #[.int .i64 u, .int .i64 f, .string v], .int .i64 z] w fun e w' => e = .returned (.int .i64 r) ∧ Below w.heap.size w w' := by
  have hs : v.size = t.length := by rw [← hv, sB_size]
  have hm : v.size ≤ maxLen := by omega
  have hm2 : v.size ≤ 9223372036854775807 := by unfold maxLen at hm; omega
  rw [← hs] at hr
  by_cases h : z - (v.size : Int) < 0
  · rw [if_pos h] at hr
    subst hr
    have W1 : IntKind.i64.wrap (z - (v.size : Int)) = z - (v.size : Int) := IntWalk.i64_in _ (by omega)
    clear hm ht hv hs
    go_enter Try.func80, Try.ntmps80
    go_wp2
    go_ret
    exact ⟨rfl, (Below.refl _ _).alloc (Nat.le_refl _) _⟩
  · rw [if_neg h] at hr
    have hr0 : 0 ≤ r := by omega
    have hrf : ¬ r < 0 := by omega
    have W1 : IntKind.i64.wrap (z - (v.size : Int)) = r := (IntWalk.i64_in _ (by omega)).trans hr
    clear hm ht hv hs h
    go_enter Try.func80, Try.ntmps80
    go_wp2
    go_ret
    exact ⟨rfl, (Below.refl _ _).alloc (Nat.le_refl _) _⟩
set_option maxHeartbeats 2000000 in
theorem sz_mails (A : Option Addr) (n cap : Nat) (left r : Int) (L : List ML) (w : World) (hn : L.length = n) (h : RAt mailR w A L) (ht : Txt L) (hl : 0 ≤ left) (hl2 : left ≤ 1048576) (hle : (n : Int) ≤ left) (hr : szL L (left - (n : Int)) = r) :
    Calls Try.prog 63 #[.slice A n cap, .int .i64 left] w fun e w' => e = .returned (.int .i64 r) ∧ Below w.heap.size w w' := by
  have H := Lib.hid h
  have HN := Lib.hid hn
  have HT := Lib.hid ht
  obtain ⟨z0, hz0⟩ : ∃ z, left - (n : Int) = z := ⟨_, rfl⟩
  have W1 : IntKind.i64.wrap (left - (n : Int)) = z0 := (IntWalk.i64_in _ (by omega)).trans hz0
  have hz00 : 0 ≤ z0 := by omega
  have hz0f : ¬ z0 < 0 := by omega
  have hz01 : z0 ≤ 1048576 := by omega
  rw [hz0] at hr
  have HR := Lib.hid hr
  clear h hn ht hr hz0
  go_enter Try.func63, Try.ntmps63
  go_wp2
  go_loopw [1, 5] (fun zv i wr => ∃ (k : Nat) (z : Int), k ≤ n ∧ 0 ≤ z ∧ z ≤ 1048576 ∧ zv = .int .i64 z ∧ i = .int .i64 (k : Int) ∧ Hid (szL (L.drop k) z = r) ∧ Hid (Below w.heap.size w wr)) (fun _ i _ => n - (intOf i).toNat)
  case atStart => exact ⟨0, z0, Nat.zero_le _, hz00, hz01, rfl, by go_num, HR.out, Below.refl _ _⟩
  case round =>
    obtain ⟨k, z, hk, hzp, hz1, rfl, rfl, HZ, HB⟩ := hrel
    by_cases hlt : k < n
    · have h0 : (0 : Int) ≤ (k : Int) := by omega
      have h5 : (k : Int) < (n : Int) := by omega
      have hkl : k < L.length := by rw [HN.out]; exact hlt
      obtain ⟨⟨u, f, t⟩, hx⟩ : ∃ x, L[k]? = some x := ⟨_, List.getElem?_eq_getElem hkl⟩
      obtain ⟨b, o, rfl, hb, c0, c1, c2⟩ := mail_at (H.out.below HB.out (Nat.le_refl _)) hx
      obtain ⟨v, hv⟩ : ∃ v, sB t = v := ⟨_, rfl⟩
      rw [hv] at c2
      have htl : t.length ≤ maxLen := HT.out _ (List.mem_of_getElem? hx)
      have hd : L.drop k = (u, f, t) :: L.drop (k + 1) := by rw [List.drop_eq_getElem_cons hkl, (List.getElem?_eq_some_iff.1 hx).2]
      have HTL := Lib.hid htl
      have HV := Lib.hid hv
      have hz2 := HZ.out
      rw [hd] at hz2
      clear hx htl hv hd hkl
      by_cases hs : z - (t.length : Int) < 0
      · rw [szL_no hs] at hz2
        have HS := Lib.hid hs
        subst hz2
        clear hs
        go_wp2_with fail
        refine (sz_mail u f z (-1) t v _ HV.out HTL.out hzp hz1 (if_pos HS.out)).mono ?_
        rintro e w2 ⟨rfl, hb2⟩
        have HB2 := Lib.hid (HB.out.trans (hb2.mono HB.out.size))
        clear hb2
        go_wp2
        go_ret
        exact ⟨rfl, HB2.out⟩
      · rw [szL_yes hs] at hz2
        obtain ⟨z2, hz2e⟩ : ∃ y, z - (t.length : Int) = y := ⟨_, rfl⟩
        have HS : Hid ((if z - (t.length : Int) < 0 then (-1 : Int) else z - (t.length : Int)) = z - (t.length : Int)) := if_neg hs
        rw [hz2e] at hz2 hs
        have HZ2 := Lib.hid hz2
        have hs0 : 0 ≤ z2 := by omega
        have hs1 : z2 ≤ 1048576 := by omega
        have HSS : Hid ((if z - (t.length : Int) < 0 then -1 else z - (t.length : Int)) = z2) := HS.out.trans hz2e
        clear hz2 hz2e HS
        go_wp2_with fail
        refine (sz_mail u f z z2 t v _ HV.out HTL.out hzp hz1 HSS.out).mono ?_
        rintro e w2 ⟨rfl, hb2⟩
        have HB2 := Lib.hid (HB.out.trans (hb2.mono HB.out.size))
        clear hb2
        go_wp2
        go_roundw
        case rel => exact ⟨k + 1, z2, by omega, hs0, hs1, rfl, by go_num, HZ2.out, HB2⟩
        case measure => simp [intOf]; omega
    · have h5 : ¬ (k : Int) < (n : Int) := by omega
      obtain rfl : k = n := by omega
      have hz2 := HZ.out
      rw [List.drop_of_length_le (Nat.le_of_eq HN.out)] at hz2
      obtain rfl : z = r := hz2
      go_wp2
      go_ret
      exact ⟨rfl, HB.out⟩
theorem sz_mails_no (A : Option Addr) (n cap : Nat) (left : Int) (w : World) (hl : 0 ≤ left) (hl2 : left ≤ 1048576) (hle : left < (n : Int)) (hm : n ≤ maxLen) :
    Calls Try.prog 63 #[.slice A n cap, .int .i64 left] w fun e w' => e = .returned (.int .i64 (-1)) ∧ Below w.heap.size w w' := by
  have h1 : (left - (n : Int)) < 0 := by omega
  have hm2 : n ≤ 9223372036854775807 := by unfold maxLen at hm; omega
  have h3 : IntKind.i64.wrap (left - (n : Int)) = left - (n : Int) := IntWalk.i64_in _ (by omega)
  clear hm
  go_enter Try.func63, Try.ntmps63
  go_wp2
  go_ret
  exact ⟨rfl, Below.refl _ _⟩
set_option maxHeartbeats 1000000 in
theorem to_mail (u f : Int) (v : ByteArray) (w : World) : Calls Try.prog 81 #[.agg #[.int .i64 u, .int .i64 f, .string v]] w fun e w' => e = .returned (.agg #[.int .i64 u, .int .i64 f, .string v]) ∧ Below w.heap.size w w' := by
  go_enter Try.func81, Try.ntmps81
  go_wp2
  refine bodyPost_ret (v := .agg #[.int .i64 u, .int .i64 f, .string v]) (by simp [results, Try.results81, go_sem]) rfl ?_
  refine ⟨rfl, ?_⟩
  refine (((Below.refl _ _).alloc ?_ _).alloc ?_ _).alloc ?_ _ <;> (simp <;> try omega)
theorem put_mail {w : World} {B g n cap k : Nat} {L : List ML} {y : ML} (h : ROwn mailR w B (.slice (some ⟨g, 0, none⟩) n cap) L) (hy : L[k]? = some y) (x : ML) :
    ROwn mailR (((w.setCell ⟨g, k * 3, none⟩ (.int .i64 x.1)).setCell ⟨g, k * 3 + 1, none⟩ (.int .i64 x.2.1)).setCell ⟨g, k * 3 + 2, none⟩ (.string (sB x.2.2))) B (.slice (some ⟨g, 0, none⟩) n cap) (L.set k x) ∧
    w.grownBy (((w.setCell ⟨g, k * 3, none⟩ (.int .i64 x.1)).setCell ⟨g, k * 3 + 1, none⟩ (.int .i64 x.2.1)).setCell ⟨g, k * 3 + 2, none⟩ (.string (sB x.2.2))) (some g) := by
  have hk := (List.getElem?_eq_some_iff.1 hy).1
  obtain ⟨h1, g1⟩ := h.stored (y := (x.1, y.2.1, y.2.2)) (j := 0) (u := .int .i64 x.1) hy (by decide) rfl
  obtain ⟨h2, g2⟩ := h1.stored (k := k) (x := (x.1, y.2.1, y.2.2)) (y := (x.1, x.2.1, y.2.2)) (j := 1) (u := .int .i64 x.2.1) (by rw [List.getElem?_set_self hk]) (by decide) rfl
  obtain ⟨h3, g3⟩ := h2.stored (k := k) (x := (x.1, x.2.1, y.2.2)) (y := x) (j := 2) (u := .string (sB x.2.2)) (by rw [List.getElem?_set_self (by rw [List.length_set]; exact hk)]) (by decide) rfl
  rw [List.set_set, List.set_set] at h3
  exact ⟨h3, gr_trans (gr_trans g1 g2) g3⟩
set_option maxHeartbeats 2000000 in
theorem to_mails (A : Option Addr) (n cap : Nat) (L : List ML) (w : World) (hn : L.length = n) (h : RAt mailR w A L) (hl : n ≤ 1048576) :
    Calls Try.prog 64 #[.slice A n cap] w fun e w' => ∃ g, e = .returned (.slice (some ⟨g, 0, none⟩) n n) ∧ ROwn mailR w' w.heap.size (.slice (some ⟨g, 0, none⟩) n n) L ∧ Below w.heap.size w w' := by
  obtain ⟨i0, hi, hq0, hq1, hq2⟩ := info_parts Try.infoMail
  have HN := Lib.hid hn
  have H := Lib.hid h
  clear hn h
  have hb2 : i0.bytes * n ≤ 281474976710656 := by rw [hq2]; omega
  have hb3 : n ≤ maxLen := by unfold maxLen; omega
  go_enter Try.func64, Try.ntmps64
  go_wp2_with (at_make; refine wpList_make_full _ rfl _ _ 23 rfl w.heap.size 30 i0 (.agg #[.int .i64 0, .int .i64 0, .string ⟨#[]⟩]) 3 Try.underlying23 hi hq0 hq1 .i64 .i64 (n : Int) (n : Int) n rfl rfl rfl rfl hb2 hb3 (Nat.le_refl _) ?_)
  intro w1 hown hgrow
  obtain ⟨N, hN⟩ : ∃ N, w.heap.size = N := ⟨_, rfl⟩
  have HNN := Lib.hid hN
  have HB1 : Hid (Below N w w1) := hN ▸ (Below.refl _ _).grown hgrow (Nat.le_refl _) (fun z hz => by cases hz)
  have hN1 : N ≤ w1.heap.size := hN ▸ hgrow.size
  have ho1 : ROwn mailR w1 N (.slice (some ⟨N, 0, none⟩) n n) (List.replicate n ((0 : Int), (0 : Int), ([] : List UInt8))) := by
    unfold ROwn
    rw [List.length_replicate, ← made_rows mailR (.agg #[.int .i64 0, .int .i64 0, .string ⟨#[]⟩]) (0, 0, []) rfl (by decide), ← hN]
    exact hown
  have HO1 := Lib.hid ho1
  rw [hN]
  clear hown hgrow ho1 hN
  go_wp2
  go_loopw [4] (fun i wr => ∃ k : Nat, k ≤ n ∧ i = .int .i64 (k : Int) ∧ N ≤ wr.heap.size ∧ Hid (Below N w wr) ∧ Hid (ROwn mailR wr N (.slice (some ⟨N, 0, none⟩) n n) (L.take k ++ List.replicate (n - k) ((0 : Int), (0 : Int), ([] : List UInt8))))) (fun i _ => n - (intOf i).toNat)
  case atStart => exact ⟨0, Nat.zero_le _, by go_num, hN1, HB1, by rw [List.take_zero, List.nil_append, Nat.sub_zero]; exact HO1⟩
  case round =>
    obtain ⟨k, hk, rfl, hNr, HB, HO⟩ := hrel
    by_cases hlt : k < n
    · have h0 : (0 : Int) ≤ (k : Int) := by omega
      have h5 : (k : Int) < (n : Int) := by omega
      obtain ⟨⟨u, f, t⟩, hx⟩ : ∃ x, L[k]? = some x := ⟨_, List.getElem?_eq_getElem (by rw [HN.out]; omega)⟩
      obtain ⟨b, o, rfl, hbz, c0, c1, c2⟩ := mail_at (H.out.below HB.out (Nat.le_of_eq HNN.out)) hx
      obtain ⟨v, hv⟩ : ∃ v, sB t = v := ⟨_, rfl⟩
      rw [hv] at c2
      have HV := Lib.hid hv
      have HX := Lib.hid hx
      clear hx hv
      go_wp2_with fail
      refine (to_mail u f v _).mono ?_
      rintro e w2 ⟨rfl, hb⟩
      have HB2 := Lib.hid (HB.out.trans (hb.mono hNr))
      have HO2 := Lib.hid (HO.out.kept hb)
      have hN2 := Nat.le_trans hNr hb.size
      clear hb
      obtain ⟨⟨yu, yf, yt⟩, hy⟩ : ∃ y, (L.take k ++ List.replicate (n - k) ((0 : Int), (0 : Int), ([] : List UInt8)))[k]? = some y := ⟨_, List.getElem?_eq_getElem (by rw [List.length_append, List.length_take, List.length_replicate, HN.out]; omega)⟩
      have d0 := HO2.out.cell hy (j := 0) rfl
      have d1 := HO2.out.cell hy (j := 1) rfl
      have d2 := HO2.out.cell hy (j := 2) rfl
      have f0 := HO2.out.free (k * 3)
      have f1 := HO2.out.free (k * 3 + 1)
      have f2 := HO2.out.free (k * 3 + 2)
      have HST := Lib.hid (put_mail HO2.out hy (u, f, t))
      rw [HV.out] at HST
      simp only [mailR, Nat.add_zero] at d0 d1 d2
      clear hy
      go_wp2
      go_roundw
      case rel =>
        refine ⟨k + 1, by omega, by go_num, by simpa using hN2, ((HB2.out.setCell (Nat.le_refl _) _).setCell (Nat.le_refl _) _).setCell (Nat.le_refl _) _, ?_⟩
        rw [← set_next HN.out HX.out]
        exact HST.out.1
      case measure => simp [intOf]; omega
    · have h5 : ¬ (k : Int) < (n : Int) := by omega
      have hkn : k = n := by omega
      have ho := HO.out
      rw [hkn, List.take_of_length_le (by rw [HN.out]; exact Nat.le_refl _), Nat.sub_self, List.replicate_zero, List.append_nil] at ho
      have HOE := Lib.hid ho
      clear ho hkn
      go_wp2
      go_ret
      exact ⟨N, rfl, HNN.out ▸ HOE.out, HNN.out ▸ HB.out⟩
set_option maxHeartbeats 1000000 in
theorem eq_mail_same (u f : Int) (v : ByteArray) (w : World) : Calls Try.prog 82 #[.agg #[.int .i64 u, .int .i64 f, .string v], .agg #[.int .i64 u, .int .i64 f, .string v]] w fun e w' => e = .returned (.bool true) ∧ Below w.heap.size w w' := by
  have h1 : (u != u) = false := by simp
  have h2 : (f != f) = false := by simp
  go_enter Try.func82, Try.ntmps82
  go_wp2
  go_ret
  exact ⟨rfl, ((Below.refl _ _).alloc (Nat.le_refl _) _).alloc (by simp) _⟩
end Go.Proofs.Ytmljdbbbfpmbcaa
