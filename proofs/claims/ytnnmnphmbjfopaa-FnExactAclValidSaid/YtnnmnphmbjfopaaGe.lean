/-
  The exact laws' own helpers over lists of grants: they count, copy, compare, mark, and look whether the marks still stand. Condition: the list can be read (marking: it is the call's own).
-/
import Derived.Test.YtnnmnphmbjfopaaGy
import Derived.OwnWalk
import Derived.Laws.OwnMore
import Derived.BigQuiet
namespace Go.Proofs.Ytnnmnphmbjfopaa
open Go.RowKit
set_option linter.unusedVariables false

theorem conv_oneE (W : World) (N : Nat) (c : UInt8) (z : Int) (hz : (c.toNat : Int) = z) (h : W.cell? ⟨N, 0, none⟩ = some (.int .u8 z)) :
    (convert 22 9 (.slice (some ⟨N, 0, none⟩) 1 1)).run Try.prog W = .ok (.string ⟨#[c]⟩) W := by
  have := run_convert_bytes_back (P := Try.prog) W 22 9 5 ⟨N, 0, none⟩ 1 [c] Try.underlying22 Try.underlying5 Try.underlying9 (fun j hj => by
    have : j = 0 := by simpa using hj
    subst this
    rw [radd, Nat.zero_add, h, ← hz]
    rfl)
  exact this
theorem dig_natE {d : Nat} (h : d ≤ 9) : ((UInt8.ofNat (48 + d)).toNat : Int) = 48 + (d : Int) := by
  have : (UInt8.ofNat (48 + d)).toNat = 48 + d := by
    rw [UInt8.toNat_ofNat']
    exact Nat.mod_eq_of_lt (by omega)
  omega
/-- A number's digits ahead of a text. -/
def mtGo (k : Nat) (out : List UInt8) : List UInt8 := if h : k = 0 then out else mtGo (k / 10) (UInt8.ofNat (48 + k % 10) :: out)
termination_by k
decreasing_by omega
theorem mtGo_zero (out : List UInt8) : mtGo 0 out = out := by rw [mtGo]; simp
theorem mtGo_step {k : Nat} (h : k ≠ 0) (out : List UInt8) : mtGo k out = mtGo (k / 10) (UInt8.ofNat (48 + k % 10) :: out) := by rw [mtGo]; simp [h]
/-- The text that stands for a mark. -/
def mt (k : Nat) : List UInt8 := 109 :: mtGo k []

set_option maxHeartbeats 2000000 in
theorem mark_text (k : Nat) (w : World) (hk : 0 < k) (hk2 : k ≤ 1000000000) :
    Calls Try.prog 67 #[.int .i64 (k : Int)] w fun e w' => e = .returned (.string (rB (mt k))) ∧ Below w.heap.size w w' := by
  have h0 : ¬ (k : Int) ≤ 0 := by omega
  go_enter Try.func67, Try.ntmps67
  go_wp2
  go_loopw [0, 3] (fun kv ov wr => ∃ (q : Nat) (o : List UInt8) (v : ByteArray), q ≤ k ∧ o.length ≤ 10 ∧ kv = .int .i64 (q : Int) ∧ ov = .string v ∧ Hid (rB o = v) ∧ Hid (q * 10 ^ o.length ≤ k) ∧ Hid (mtGo q o = mtGo k []) ∧ Hid (Below w.heap.size w wr)) (fun kv _ _ => (intOf kv).toNat)
  case atStart => exact ⟨k, [], _, Nat.le_refl _, (by show 0 ≤ 10; omega), rfl, rfl, rfl, (by show k * 10 ^ 0 ≤ k; omega), rfl, Below.refl _ _⟩
  case round =>
    obtain ⟨q, o, v, hq, hol, rfl, rfl, HV, HP, HM, HB⟩ := hrel
    have hlen : 0 < q → o.length ≤ 9 := fun h => by
      have h1 := HP.out
      have h2 : 10 ^ o.length ≤ 10 ^ 9 := by
        have : 1 * 10 ^ o.length ≤ q * 10 ^ o.length := Nat.mul_le_mul_right _ h
        omega
      exact (Nat.pow_le_pow_iff_right (by decide)).1 h2
    have hv9 : 0 < q → v.size ≤ 9 := fun h => by rw [← HV.out, rB_size]; exact hlen h
    by_cases hq0 : 0 < q
    · have h1 : (0 : Int) < (q : Int) := by omega
      have hv := hv9 hq0
      obtain ⟨d, hd⟩ : ∃ d, q % 10 = d := ⟨_, rfl⟩
      obtain ⟨p, hp⟩ : ∃ p, q / 10 = p := ⟨_, rfl⟩
      have hd9 : d ≤ 9 := by omega
      have E1 : (q : Int).tmod 10 = (d : Int) := by rw [Int.tmod_eq_emod_of_nonneg (by omega)]; omega
      have E2 : (q : Int).tdiv 10 = (p : Int) := by rw [Int.tdiv_eq_ediv_of_nonneg (by omega)]; omega
      have E3 : (q : Int) % 10 = (d : Int) := by omega
      have E4 : (q : Int) / 10 = (p : Int) := by omega
      have W1 : IntKind.i64.wrap (d : Int) = (d : Int) := IntWalk.i64_in _ (by omega)
      have W2 : IntKind.i64.wrap (p : Int) = (p : Int) := IntWalk.i64_in _ (by omega)
      have W3 : IntKind.i64.wrap (48 + (d : Int)) = 48 + (d : Int) := IntWalk.i64_in _ (by omega)
      have W4 : IntKind.u8.wrap (48 + (d : Int)) = 48 + (d : Int) := by rw [IntKind.wrap_u8]; omega
      obtain ⟨c, hc⟩ : ∃ c, UInt8.ofNat (48 + d) = c := ⟨_, rfl⟩
      have hcv := fun (W : World) (N : Nat) h => conv_oneE W N c _ (hc ▸ dig_natE hd9) h
      have HSTEP : Hid (mtGo p (c :: o) = mtGo k []) := by
        have h2 := HM.out
        rw [mtGo_step (by omega), hd, hp, hc] at h2
        exact h2
      have HV2 : Hid (rB (c :: o) = (⟨#[c]⟩ : ByteArray) ++ v) := by
        rw [← HV.out, show (⟨#[c]⟩ : ByteArray) = rB [c] from rfl, rB_cat]
        rfl
      have HP2 : Hid (p * 10 ^ (c :: o).length ≤ k) := by
        have h2 := HP.out
        show p * 10 ^ (o.length + 1) ≤ k
        rw [Nat.pow_succ, ← Nat.mul_assoc, Nat.mul_right_comm]
        have h3 : p * 10 * 10 ^ o.length ≤ q * 10 ^ o.length := Nat.mul_le_mul_right _ (by omega)
        omega
      have hpq : p < q := by omega
      have hol1 : (c :: o).length ≤ 10 := by have := hlen hq0; show o.length + 1 ≤ 10; omega
      have HOL := Lib.hid hol1
      clear hlen hv9 hd hp hol1 hol hc
      have HS := Lib.hid HB.out.size
      go_wp2_with fail
      go_roundw
      case rel => exact ⟨p, c :: o, _, by omega, HOL.out, rfl, rfl, HV2, HP2, HSTEP, HB.out.alloc HS.out _⟩
      case measure => simp [intOf]; omega
    · obtain rfl : q = 0 := by omega
      have hend : v.size ≤ 10 := by rw [← HV.out, rB_size]; exact hol
      have HE : Hid (mt k = 109 :: o) := by
        have h2 := HM.out
        rw [mtGo_zero] at h2
        show 109 :: mtGo k [] = _
        rw [← h2]
      clear hlen hv9 hol
      go_wp2_with fail
      go_ret
      refine ⟨?_, HB.out⟩
      rw [HE.out, ← HV.out, show (109 : UInt8) :: o = [109] ++ o from rfl, ← rB_cat]
      rfl


/-- What is left of a bound behind the names of grants, or -1. -/
def szG : List Gr → Int → Int
  | [], z => z
  | m :: L, z => if z - (m.1.size : Int) < 0 then -1 else szG L (z - (m.1.size : Int))
theorem szG_no {m : Gr} {L : List Gr} {z : Int} (h : z - (m.1.size : Int) < 0) : szG (m :: L) z = -1 := by unfold szG; rw [if_pos h]
theorem szG_yes {m : Gr} {L : List Gr} {z : Int} (h : ¬ z - (m.1.size : Int) < 0) : szG (m :: L) z = szG L (z - (m.1.size : Int)) := by rw [szG, if_neg h]
theorem szG_le : ∀ {L : List Gr} {z : Int}, 0 ≤ z → 0 ≤ szG L z → ∀ g ∈ L, (g.1.size : Int) ≤ z
  | [], z, _, _, g, hg => by cases hg
  | m :: L, z, h, h2, g, hg => by
    by_cases h3 : z - (m.1.size : Int) < 0
    · rw [szG_no h3] at h2; omega
    · rw [szG_yes h3] at h2
      rcases List.mem_cons.1 hg with rfl | hg
      · omega
      · have := szG_le (L := L) (z := z - (m.1.size : Int)) (by omega) h2 g hg
        omega
def TxtG (L : List Gr) : Prop := ∀ m ∈ L, m.1.size ≤ maxLen
set_option maxHeartbeats 1000000 in
theorem sz_grant (f z r : Int) (v : ByteArray) (w : World) (hm : v.size ≤ maxLen) (hz : 0 ≤ z) (hz2 : z ≤ 1048576) (hr : (if z - (v.size : Int) < 0 then -1 else z - (v.size : Int)) = r) :
    Calls Try.prog 64 #[.agg #[.string v, .int .i64 f], .int .i64 z] w fun e w' => e = .returned (.int .i64 r) ∧ Below w.heap.size w w' := by
  have hm2 : v.size ≤ 9223372036854775807 := by unfold maxLen at hm; omega
  by_cases h : z - (v.size : Int) < 0
  · rw [if_pos h] at hr
    subst hr
    have W1 : IntKind.i64.wrap (z - (v.size : Int)) = z - (v.size : Int) := IntWalk.i64_in _ (by omega)
    clear hm
    go_enter Try.func64, Try.ntmps64
    go_wp2
    go_ret
    exact ⟨rfl, (Below.refl _ _).alloc (Nat.le_refl _) _⟩
  · rw [if_neg h] at hr
    have hr0 : 0 ≤ r := by omega
    have hrf : ¬ r < 0 := by omega
    have W1 : IntKind.i64.wrap (z - (v.size : Int)) = r := (IntWalk.i64_in _ (by omega)).trans hr
    clear hm h
    go_enter Try.func64, Try.ntmps64
    go_wp2
    go_ret
    exact ⟨rfl, (Below.refl _ _).alloc (Nat.le_refl _) _⟩
set_option maxHeartbeats 2000000 in
theorem sz_grants (A : Option Addr) (n cap : Nat) (left r : Int) (L : List Gr) (w : World) (hn : L.length = n) (h : RAt grR w A L) (ht : TxtG L) (hl : 0 ≤ left) (hl2 : left ≤ 1048576) (hle : (n : Int) ≤ left) (hr : szG L (left - (n : Int)) = r) :
    Calls Try.prog 41 #[.slice A n cap, .int .i64 left] w fun e w' => e = .returned (.int .i64 r) ∧ Below w.heap.size w w' := by
  have H := Lib.hid h
  have HN := Lib.hid hn
  have HT := Lib.hid ht
  obtain ⟨z0, hz0⟩ : ∃ z, left - (n : Int) = z := ⟨_, rfl⟩
  have W1 : IntKind.i64.wrap (left - (n : Int)) = z0 := (IntWalk.i64_in _ (by omega)).trans hz0
  have hz00 : 0 ≤ z0 := by omega
  have hz0f : ¬ z0 < 0 := by omega
  have hz01 : z0 ≤ 1048576 := by omega
  rw [hz0] at hr
  have HR := Lib.hid hr
  clear h hn ht hr hz0
  go_enter Try.func41, Try.ntmps41
  go_wp2
  go_loopw [1, 5] (fun zv i wr => ∃ (k : Nat) (z : Int), k ≤ n ∧ 0 ≤ z ∧ z ≤ 1048576 ∧ zv = .int .i64 z ∧ i = .int .i64 (k : Int) ∧ Hid (szG (L.drop k) z = r) ∧ Hid (Below w.heap.size w wr)) (fun _ i _ => n - (intOf i).toNat)
  case atStart => exact ⟨0, z0, Nat.zero_le _, hz00, hz01, rfl, by go_num, HR.out, Below.refl _ _⟩
  case round =>
    obtain ⟨k, z, hk, hzp, hz1, rfl, rfl, HZ, HB⟩ := hrel
    by_cases hlt : k < n
    · have h0 : (0 : Int) ≤ (k : Int) := by omega
      have h5 : (k : Int) < (n : Int) := by omega
      have hkl : k < L.length := by rw [HN.out]; exact hlt
      obtain ⟨⟨v, f⟩, hx⟩ : ∃ x, L[k]? = some x := ⟨_, List.getElem?_eq_getElem hkl⟩
      obtain ⟨b, o, rfl, hb, c0, c1⟩ := grant_at (H.out.below HB.out (Nat.le_refl _)) hx
      have htl : v.size ≤ maxLen := HT.out _ (List.mem_of_getElem? hx)
      have hd : L.drop k = (v, f) :: L.drop (k + 1) := by rw [List.drop_eq_getElem_cons hkl, (List.getElem?_eq_some_iff.1 hx).2]
      have HTL := Lib.hid htl
      have hz2 := HZ.out
      rw [hd] at hz2
      clear hx htl hd hkl
      by_cases hs : z - (v.size : Int) < 0
      · rw [szG_no hs] at hz2
        have HS := Lib.hid hs
        subst hz2
        clear hs
        go_wp2_with fail
        refine (sz_grant f z (-1) v _ HTL.out hzp hz1 (if_pos HS.out)).mono ?_
        rintro e w2 ⟨rfl, hb2⟩
        have HB2 := Lib.hid (HB.out.trans (hb2.mono HB.out.size))
        clear hb2
        go_wp2
        go_ret
        exact ⟨rfl, HB2.out⟩
      · rw [szG_yes hs] at hz2
        obtain ⟨z2, hz2e⟩ : ∃ y, z - (v.size : Int) = y := ⟨_, rfl⟩
        have HS : Hid ((if z - (v.size : Int) < 0 then (-1 : Int) else z - (v.size : Int)) = z - (v.size : Int)) := if_neg hs
        have hz2' : szG (L.drop (k + 1)) z2 = r := by rw [← hz2e]; exact hz2
        have HZ2 := Lib.hid hz2'
        have hs0 : 0 ≤ z2 := by omega
        have hs1 : z2 ≤ 1048576 := by omega
        have HSS : Hid ((if z - (v.size : Int) < 0 then -1 else z - (v.size : Int)) = z2) := HS.out.trans hz2e
        have hsf : ¬ z2 < 0 := by omega
        clear hz2 hz2' hz2e HS hs
        go_wp2_with fail
        refine (sz_grant f z z2 v _ HTL.out hzp hz1 HSS.out).mono ?_
        rintro e w2 ⟨rfl, hb2⟩
        have HB2 := Lib.hid (HB.out.trans (hb2.mono HB.out.size))
        clear hb2
        go_wp2
        go_roundw
        case rel => exact ⟨k + 1, z2, by omega, hs0, hs1, rfl, by go_num, HZ2.out, HB2⟩
        case measure => simp [intOf]; omega
    · have h5 : ¬ (k : Int) < (n : Int) := by omega
      obtain rfl : k = n := by omega
      have hz2 := HZ.out
      rw [List.drop_of_length_le (Nat.le_of_eq HN.out)] at hz2
      obtain rfl : z = r := hz2
      go_wp2
      go_ret
      exact ⟨rfl, HB.out⟩
theorem sz_grants_no (A : Option Addr) (n cap : Nat) (left : Int) (w : World) (hl : 0 ≤ left) (hl2 : left ≤ 1048576) (hle : left < (n : Int)) (hm : n ≤ maxLen) :
    Calls Try.prog 41 #[.slice A n cap, .int .i64 left] w fun e w' => e = .returned (.int .i64 (-1)) ∧ Below w.heap.size w w' := by
  have h1 : (left - (n : Int)) < 0 := by omega
  have hm2 : n ≤ 9223372036854775807 := by unfold maxLen at hm; omega
  have h3 : IntKind.i64.wrap (left - (n : Int)) = left - (n : Int) := IntWalk.i64_in _ (by omega)
  clear hm
  go_enter Try.func41, Try.ntmps41
  go_wp2
  go_ret
  exact ⟨rfl, Below.refl _ _⟩
set_option maxHeartbeats 1000000 in
theorem to_grant (f : Int) (v : ByteArray) (w : World) : Calls Try.prog 65 #[.agg #[.string v, .int .i64 f]] w fun e w' => e = .returned (.agg #[.string v, .int .i64 f]) ∧ Below w.heap.size w w' := by
  go_enter Try.func65, Try.ntmps65
  go_wp2
  refine bodyPost_ret (v := .agg #[.string v, .int .i64 f]) (by simp [results, Try.results65, go_sem]) rfl ?_
  refine ⟨rfl, ?_⟩
  refine (((Below.refl _ _).alloc ?_ _).alloc ?_ _).alloc ?_ _ <;> (simp <;> try omega)
theorem put_grant {w : World} {B g n cap k : Nat} {L : List Gr} {y : Gr} (h : ROwn grR w B (.slice (some ⟨g, 0, none⟩) n cap) L) (hy : L[k]? = some y) (x : Gr) :
    ROwn grR ((w.setCell ⟨g, k * 2, none⟩ (.string x.1)).setCell ⟨g, k * 2 + 1, none⟩ (.int .i64 x.2)) B (.slice (some ⟨g, 0, none⟩) n cap) (L.set k x) ∧
    w.grownBy ((w.setCell ⟨g, k * 2, none⟩ (.string x.1)).setCell ⟨g, k * 2 + 1, none⟩ (.int .i64 x.2)) (some g) := by
  have hk := (List.getElem?_eq_some_iff.1 hy).1
  obtain ⟨h1, g1⟩ := h.stored (y := (x.1, y.2)) (j := 0) (u := .string x.1) hy (by decide) rfl
  obtain ⟨h2, g2⟩ := h1.stored (k := k) (x := (x.1, y.2)) (y := x) (j := 1) (u := .int .i64 x.2) (by rw [List.getElem?_set_self hk]) (by decide) rfl
  rw [List.set_set] at h2
  exact ⟨h2, gr_trans g1 g2⟩
set_option maxHeartbeats 2000000 in
theorem to_grants (A : Option Addr) (n cap : Nat) (L : List Gr) (w : World) (hn : L.length = n) (h : RAt grR w A L) (hl : n ≤ 1048576) :
    Calls Try.prog 42 #[.slice A n cap] w fun e w' => ∃ g, e = .returned (.slice (some ⟨g, 0, none⟩) n n) ∧ ROwn grR w' w.heap.size (.slice (some ⟨g, 0, none⟩) n n) L ∧ Below w.heap.size w w' := by
  obtain ⟨i0, hi, hq0, hq1, hq2⟩ := info_parts Try.infoGrant
  have HN := Lib.hid hn
  have H := Lib.hid h
  clear hn h
  have hb2 : i0.bytes * n ≤ 281474976710656 := by rw [hq2]; omega
  have hb3 : n ≤ maxLen := by unfold maxLen; omega
  go_enter Try.func42, Try.ntmps42
  go_wp2_with (at_make; refine wpList_make_full _ rfl _ _ 29 rfl w.heap.size 40 i0 (.agg #[.string ⟨#[]⟩, .int .i64 0]) 2 Try.underlying29 hi hq0 hq1 .i64 .i64 (n : Int) (n : Int) n rfl rfl rfl rfl hb2 hb3 (Nat.le_refl _) ?_)
  intro w1 hown hgrow
  obtain ⟨N, hN⟩ : ∃ N, w.heap.size = N := ⟨_, rfl⟩
  have HNN := Lib.hid hN
  have HB1 : Hid (Below N w w1) := hN ▸ (Below.refl _ _).grown hgrow (Nat.le_refl _) (fun z hz => by cases hz)
  have hN1 : N ≤ w1.heap.size := hN ▸ hgrow.size
  have ho1 : ROwn grR w1 N (.slice (some ⟨N, 0, none⟩) n n) (List.replicate n ((⟨#[]⟩ : ByteArray), (0 : Int))) := by
    unfold ROwn
    rw [List.length_replicate, ← made_rows grR (.agg #[.string ⟨#[]⟩, .int .i64 0]) (⟨#[]⟩, 0) rfl (by decide), ← hN]
    exact hown
  have HO1 := Lib.hid ho1
  rw [hN]
  clear hown hgrow ho1 hN
  go_wp2
  go_loopw [4] (fun i wr => ∃ k : Nat, k ≤ n ∧ i = .int .i64 (k : Int) ∧ N ≤ wr.heap.size ∧ Hid (Below N w wr) ∧ Hid (ROwn grR wr N (.slice (some ⟨N, 0, none⟩) n n) (L.take k ++ List.replicate (n - k) ((⟨#[]⟩ : ByteArray), (0 : Int))))) (fun i _ => n - (intOf i).toNat)
  case atStart => exact ⟨0, Nat.zero_le _, by go_num, hN1, HB1, by rw [List.take_zero, List.nil_append, Nat.sub_zero]; exact HO1⟩
  case round =>
    obtain ⟨k, hk, rfl, hNr, HB, HO⟩ := hrel
    by_cases hlt : k < n
    · have h0 : (0 : Int) ≤ (k : Int) := by omega
      have h5 : (k : Int) < (n : Int) := by omega
      obtain ⟨⟨v, f⟩, hx⟩ : ∃ x, L[k]? = some x := ⟨_, List.getElem?_eq_getElem (by rw [HN.out]; omega)⟩
      obtain ⟨b, o, rfl, hbz, c0, c1⟩ := grant_at (H.out.below HB.out (Nat.le_of_eq HNN.out)) hx
      have HX := Lib.hid hx
      clear hx
      go_wp2_with fail
      refine (to_grant f v _).mono ?_
      rintro e w2 ⟨rfl, hb⟩
      have HB2 := Lib.hid (HB.out.trans (hb.mono hNr))
      have HO2 := Lib.hid (HO.out.kept hb)
      have hN2 := Nat.le_trans hNr hb.size
      clear hb
      obtain ⟨⟨yv, yf⟩, hy⟩ : ∃ y, (L.take k ++ List.replicate (n - k) ((⟨#[]⟩ : ByteArray), (0 : Int)))[k]? = some y := ⟨_, List.getElem?_eq_getElem (by rw [List.length_append, List.length_take, List.length_replicate, HN.out]; omega)⟩
      have d0 := HO2.out.cell hy (j := 0) rfl
      have d1 := HO2.out.cell hy (j := 1) rfl
      have f0 := HO2.out.free (k * 2)
      have f1 := HO2.out.free (k * 2 + 1)
      have HST := Lib.hid (put_grant HO2.out hy (v, f))
      simp only [grR, Nat.add_zero] at d0 d1
      clear hy
      go_wp2
      go_roundw
      case rel =>
        refine ⟨k + 1, by omega, by go_num, by simpa using hN2, (HB2.out.setCell (Nat.le_refl _) _).setCell (Nat.le_refl _) _, ?_⟩
        rw [← set_next HN.out HX.out]
        exact HST.out.1
      case measure => simp [intOf]; omega
    · have h5 : ¬ (k : Int) < (n : Int) := by omega
      have hkn : k = n := by omega
      have ho := HO.out
      rw [hkn, List.take_of_length_le (by rw [HN.out]; exact Nat.le_refl _), Nat.sub_self, List.replicate_zero, List.append_nil] at ho
      have HOE := Lib.hid ho
      clear ho hkn
      go_wp2
      go_ret
      exact ⟨N, rfl, HNN.out ▸ HOE.out, HNN.out ▸ HB.out⟩
set_option maxHeartbeats 1000000 in
theorem eq_grant_same (f : Int) (v : ByteArray) (w : World) : Calls Try.prog 66 #[.agg #[.string v, .int .i64 f], .agg #[.string v, .int .i64 f]] w fun e w' => e = .returned (.bool true) ∧ Below w.heap.size w w' := by
  have h2 : (f != f) = false := by simp
  go_enter Try.func66, Try.ntmps66
  go_wp2
  go_ret
  exact ⟨rfl, ((Below.refl _ _).alloc (Nat.le_refl _) _).alloc (by simp) _⟩
set_option maxRecDepth 20000 in
set_option maxHeartbeats 2000000 in
theorem eq_grants {A A2 : Option Addr} {n cap cap2 : Nat} {L : List Gr} (w : World) (h : GIn w A n cap L) (h2 : GIn w A2 n cap2 L) :
    Calls Try.prog 43 #[.slice A n cap, .slice A2 n cap2] w (SayB w true) := by
  have H := Lib.hid h
  have H2 := Lib.hid h2
  have hl := h.2.1
  clear h h2
  have hlb : ((n : Int) != (n : Int)) = false := by simp
  go_enter Try.func43, Try.ntmps43
  go_wp2
  go_loopw [5] (fun i wr => ∃ k : Nat, k ≤ n ∧ i = .int .i64 (k : Int) ∧ Hid (Below w.heap.size w wr)) (fun i _ => n - (intOf i).toNat)
  case atStart => exact ⟨0, Nat.zero_le _, by go_num, Below.refl _ _⟩
  case round =>
    obtain ⟨k, hk, rfl, HB⟩ := hrel
    by_cases hlt : k < n
    · have h0 : (0 : Int) ≤ (k : Int) := by omega
      have h5 : (k : Int) < (n : Int) := by omega
      obtain ⟨⟨v, f⟩, hx⟩ : ∃ x, L[k]? = some x := ⟨_, List.getElem?_eq_getElem (by rw [H.out.1]; exact hlt)⟩
      obtain ⟨b, o, rfl, hb, c0, c1⟩ := grant_at (H.out.2.2.1.below HB.out (Nat.le_refl _)) hx
      obtain ⟨b', o', rfl, hb', d0, d1⟩ := grant_at (H2.out.2.2.1.below HB.out (Nat.le_refl _)) hx
      have l0 : ∀ x : Later wr.heap.size wr, x.v.cell? ⟨b, o + k * 2, none⟩ = some (.string v) := fun x => x.cell hb c0
      have l1 : ∀ x : Later wr.heap.size wr, x.v.cell? ⟨b, o + k * 2 + 1, none⟩ = some (.int .i64 f) := fun x => x.cell hb c1
      have l2 : ∀ x : Later wr.heap.size wr, x.v.cell? ⟨b', o' + k * 2, none⟩ = some (.string v) := fun x => x.cell hb' d0
      have l3 : ∀ x : Later wr.heap.size wr, x.v.cell? ⟨b', o' + k * 2 + 1, none⟩ = some (.int .i64 f) := fun x => x.cell hb' d1
      clear hx
      go_wp2
      refine wp_region_later wr.heap.size wr (by kernel_rfl) (by kernel_rfl) ?_
      repeat (go_big_quiet_step ((go_at_call 66; refine (eq_grant_same f v _).mono ?_; rintro e w2 ⟨rfl, hb2⟩; exact ⟨rfl, Later.call _ hb2 (Nat.le_refl _)⟩)))
      refine wpQuiet_nil ?_
      intro _ hw'
      obtain ⟨⟨w9, hb9⟩, rfl⟩ := hw'
      have HB9 := Lib.hid (HB.out.trans (hb9.mono HB.out.size))
      clear hb9
      go_wp2
      go_roundw
      case rel => exact ⟨k + 1, by omega, by go_num, HB9⟩
      case measure => simp [intOf]; omega
    · have h5 : ¬ (k : Int) < (n : Int) := by omega
      go_wp2
      go_ret
      exact ⟨rfl, HB.out⟩

/-- The marks on grants, from a number on. -/
def mkg (s n : Nat) : List Gr := (List.range n).map fun i => (rB (mt (s + 2 * i)), ((s + 2 * i + 1 : Nat) : Int))
theorem mkg_len (s n : Nat) : (mkg s n).length = n := by unfold mkg; simp
theorem mkg_succ (s n : Nat) : mkg s (n + 1) = mkg s n ++ [(rB (mt (s + 2 * n)), ((s + 2 * n + 1 : Nat) : Int))] := by unfold mkg; rw [List.range_succ, List.map_append]; rfl
theorem mkg_at {s n i : Nat} (h : i < n) : (mkg s n)[i]? = some (rB (mt (s + 2 * i)), ((s + 2 * i + 1 : Nat) : Int)) := by unfold mkg; simp [h]
theorem gr_belowE {w w' : World} {row : Option Nat} (h : Below w.heap.size w w') : w.grownBy w' row := ⟨h.os, h.tape, h.output, h.size, fun b hb _ => h.block b hb⟩
theorem own_block {α : Type} {R : RowT α} {w : World} {B n cap : Nat} {A : Option Addr} {L : List α} (h : ROwn R w B (.slice A n cap) L) (h0 : 0 < n) : ∃ g, A = some ⟨g, 0, none⟩ := by
  have hl := h.len.1
  obtain ⟨A', c, he, _, _, _, _, hne⟩ := h.form
  cases he
  exact hne (by intro e; rw [hl, e] at h0; simp at h0)
theorem mark_at {k : Nat} {v : ByteArray} (hv : rB (mt k) = v) (w : World) (hk : 0 < k) (hk2 : k ≤ 1000000000) : Calls Try.prog 67 #[.int .i64 (k : Int)] w fun e w' => e = .returned (.string v) ∧ Below w.heap.size w w' := by
  subst hv
  exact mark_text k w hk hk2
set_option maxRecDepth 20000 in
set_option maxHeartbeats 4000000 in
theorem mark_grants (s r : Nat) (A : Option Addr) (cap n B : Nat) (L : List Gr) (w : World) (hn : L.length = n) (h : ROwn grR w B (.slice A n cap) L) (hl : n ≤ 4000000) (hs : 0 < s) (hs2 : s ≤ 100000000) (hr : s + 2 * n = r) :
    Calls Try.prog 44 #[.slice A n cap, .int .i64 (s : Int)] w fun e w' => e = .returned (.int .i64 (r : Int)) ∧ ROwn grR w' B (.slice A n cap) (mkg s n) ∧ w.grownBy w' (Value.slice A n cap).ownBlock := by
  have HN := Lib.hid hn
  have HO := Lib.hid h
  have HR := Lib.hid hr
  clear h hn hr
  go_enter Try.func44, Try.ntmps44
  go_wp2
  go_loopw [1, 5] (fun m i wr => ∃ k z : Nat, k ≤ n ∧ z = s + 2 * k ∧ m = .int .i64 (z : Int) ∧ i = .int .i64 (k : Int) ∧ Hid (w.grownBy wr (Value.slice A n cap).ownBlock) ∧ Hid (ROwn grR wr B (.slice A n cap) (mkg s k ++ L.drop k))) (fun _ i _ => n - (intOf i).toNat)
  case atStart => exact ⟨0, s, Nat.zero_le _, rfl, by go_num, by go_num, gr_refl _ _, HO.out⟩
  case round =>
    obtain ⟨k, z, hk, hz, rfl, rfl, HG, HW⟩ := hrel
    have HZ := Lib.hid hz
    by_cases hlt : k < n
    · have h0 : (0 : Int) ≤ (k : Int) := by omega
      have h5 : (k : Int) < (n : Int) := by omega
      obtain ⟨z1, hz1⟩ : ∃ y, z + 1 = y := ⟨_, rfl⟩
      obtain ⟨z2, hz2⟩ : ∃ y, z1 + 1 = y := ⟨_, rfl⟩
      have E1 : (z : Int) + 1 = (z1 : Int) := by omega
      have E2 : (z1 : Int) + 1 = (z2 : Int) := by omega
      have hzb : z2 ≤ 200000000 := by omega
      have W1 : IntKind.i64.wrap ((z : Int) + 1) = (z1 : Int) := (IntWalk.i64_in _ (by omega)).trans E1
      have W2 : IntKind.i64.wrap ((z1 : Int) + 1) = (z2 : Int) := (IntWalk.i64_in _ (by omega)).trans E2
      obtain ⟨g, rfl⟩ := own_block HW.out (by omega)
      have hkl : k < L.length := by rw [HN.out]; exact hlt
      obtain ⟨v, hv⟩ : ∃ v, rB (mt z) = v := ⟨_, rfl⟩
      have HV := Lib.hid hv
      have HMM : Hid ((mkg s k ++ L.drop k).set k (v, (z1 : Int)) = mkg s (k + 1) ++ L.drop (k + 1)) := by
        show _ = _
        rw [set_front _ (mkg_len s k) hkl, mkg_succ, ← hv, ← hz, ← hz1]
      have HZ3 : Hid (z2 = s + 2 * (k + 1)) := by show _ = _; omega
      have HKL := Lib.hid hkl
      have hzp : 0 < z := by omega
      have hzq : z ≤ 1000000000 := by omega
      clear hz hz1 hz2 hv
      go_wp2_with fail
      refine (mark_at HV.out _ hzp hzq).mono ?_
      rintro e w5 ⟨rfl, hb⟩
      have HO5 := Lib.hid (HW.out.kept hb)
      have HG5 := Lib.hid (gr_trans HG.out (gr_belowE (row := (Value.slice (some ⟨g, 0, none⟩) n cap).ownBlock) hb))
      obtain ⟨⟨yv, yf⟩, hy⟩ : ∃ y, (mkg s k ++ L.drop k)[k]? = some y := ⟨_, front_some (mkg_len s k) HKL.out⟩
      have d0 := HO5.out.cell hy (j := 0) rfl
      have d1 := HO5.out.cell hy (j := 1) rfl
      have f0 := HO5.out.free (k * 2)
      have f1 := HO5.out.free (k * 2 + 1)
      simp only [grR, Nat.add_zero] at d0 d1
      obtain ⟨h2, g2⟩ := put_grant HO5.out hy (v, (z1 : Int))
      rw [HMM.out] at h2
      have HO6 := Lib.hid h2
      have HG6 := Lib.hid (gr_trans HG5.out g2)
      clear h2 g2 hb hy
      go_wp2
      go_roundw
      case rel => exact ⟨k + 1, z2, by omega, HZ3.out, rfl, by go_num, HG6, HO6⟩
      case measure => simp [intOf]; omega
    · have h5 : ¬ (k : Int) < (n : Int) := by omega
      have hkn : k = n := by omega
      have ho := HW.out
      rw [hkn, List.drop_of_length_le (by rw [HN.out]; exact Nat.le_refl _), List.append_nil] at ho
      have HOE := Lib.hid ho
      have HZ2 := Lib.hid (show r = z by have := HR.out; omega)
      clear ho hkn hz
      go_wp2
      go_ret
      refine ⟨?_, HOE.out, HG.out⟩
      rw [HZ2.out]
      rfl
set_option maxRecDepth 20000 in
set_option maxHeartbeats 4000000 in
theorem held_grants (s r : Nat) (A : Option Addr) (cap n : Nat) (w : World) (h : RAt grR w A (mkg s n)) (hl : n ≤ 4000000) (hs : 0 < s) (hs2 : s ≤ 100000000) (hr : s + 2 * n = r) :
    Calls Try.prog 45 #[.slice A n cap, .int .i64 (s : Int)] w fun e w' => e = .returned (.int .i64 (r : Int)) ∧ Below w.heap.size w w' := by
  have H := Lib.hid h
  have HR := Lib.hid hr
  clear h hr
  go_enter Try.func45, Try.ntmps45
  go_wp2
  go_loopw [1, 5] (fun m i wr => ∃ k z : Nat, k ≤ n ∧ z = s + 2 * k ∧ m = .int .i64 (z : Int) ∧ i = .int .i64 (k : Int) ∧ Hid (Below w.heap.size w wr)) (fun _ i _ => n - (intOf i).toNat)
  case atStart => exact ⟨0, s, Nat.zero_le _, rfl, by go_num, by go_num, Below.refl _ _⟩
  case round =>
    obtain ⟨k, z, hk, hz, rfl, rfl, HB⟩ := hrel
    have HZ := Lib.hid hz
    by_cases hlt : k < n
    · have h0 : (0 : Int) ≤ (k : Int) := by omega
      have h5 : (k : Int) < (n : Int) := by omega
      obtain ⟨z1, hz1⟩ : ∃ y, z + 1 = y := ⟨_, rfl⟩
      obtain ⟨z2, hz2⟩ : ∃ y, z1 + 1 = y := ⟨_, rfl⟩
      have E1 : (z : Int) + 1 = (z1 : Int) := by omega
      have E2 : (z1 : Int) + 1 = (z2 : Int) := by omega
      have hzb : z2 ≤ 200000000 := by omega
      have W1 : IntKind.i64.wrap ((z : Int) + 1) = (z1 : Int) := (IntWalk.i64_in _ (by omega)).trans E1
      have W2 : IntKind.i64.wrap ((z1 : Int) + 1) = (z2 : Int) := (IntWalk.i64_in _ (by omega)).trans E2
      have hx := mkg_at (s := s) hlt
      rw [← hz, hz1] at hx
      obtain ⟨b, o, rfl, hbz, c0, c1⟩ := grant_at (H.out.below HB.out (Nat.le_refl _)) hx
      obtain ⟨v, hv⟩ : ∃ v, rB (mt z) = v := ⟨_, rfl⟩
      rw [hv] at c0
      have HV := Lib.hid hv
      have n1 : ((z1 : Int) != (z1 : Int)) = false := by simp
      have HZ3 : Hid (z2 = s + 2 * (k + 1)) := by show _ = _; omega
      have hzp : 0 < z := by omega
      have hzq : z ≤ 1000000000 := by omega
      have l0 : ∀ x : Later wr.heap.size wr, x.v.cell? ⟨b, o + k * 2, none⟩ = some (.string v) := fun x => x.cell hbz c0
      clear hx hz hz1 hz2 hv
      go_wp2
      refine wp_region_later wr.heap.size wr (by kernel_rfl) (by kernel_rfl) ?_
      repeat (go_big_quiet_step ((go_at_call 67; refine (mark_at HV.out _ hzp hzq).mono ?_; rintro e w2 ⟨rfl, hb2⟩; exact ⟨rfl, Later.call _ hb2 (Nat.le_refl _)⟩)))
      refine wpQuiet_nil ?_
      intro _ hw'
      obtain ⟨⟨w9, hb9⟩, rfl⟩ := hw'
      have HB9 := Lib.hid (HB.out.trans (hb9.mono HB.out.size))
      have c2 := (hb9.cell (p := ⟨b, o + k * 2 + 1, none⟩) hbz).trans c1
      clear hb9
      go_wp2
      go_roundw
      case rel => exact ⟨k + 1, z2, by omega, HZ3.out, by go_num, by go_num, HB9⟩
      case measure => simp [intOf]; omega
    · have h5 : ¬ (k : Int) < (n : Int) := by omega
      have HZ2 := Lib.hid (show r = z by have := HR.out; omega)
      clear hz
      go_wp2
      go_ret
      refine ⟨?_, HB.out⟩
      rw [HZ2.out]
      rfl
end Go.Proofs.Ytnnmnphmbjfopaa
