/-
  My texts Kj, Kk, Kc, Ko in one, so that a claim holds fewer files. Conditions: each contract's own.
-/
import Derived.Test.YtpihibconbejlaaDoorQg
import Derived.BigQuiet
import Derived.Deep.RegionWith
import Derived.Deep.RegionLaw
namespace Go.Proofs.YtpihibconbejlaaDoor
open Go.RowKit
set_option linter.unusedVariables false

/-- The contract for fewer nodes. -/
def FindsS (n : Int) (A : Option Addr) (N cap : Nat) (L : List ML) (m : ML) (i z : Nat) : Prop :=
  ∀ (k : KT) (r : KR) (w : World), nodesT k ≤ z → allT k = true → KV w k (kval r) → MIn w A N cap L → Calls Tryd.prog 54 #[boxV n A N cap, kval r, .int .i64 (i : Int)] w (SaysB w (findT L m i k))
theorem hvI_one : ∀ (a : Fin 32) (j : Fin 5), hvI (a.1 : Int) ((2 ^ j.1 : Nat) : Int) = (a.1 / 2 ^ j.1 % 2 == 1) := by decide +kernel
theorem flag_five {f : Int} (h : flag1 f = true) : f = 1 ∨ f = 2 ∨ f = 4 ∨ f = 8 ∨ f = 16 := by
  unfold flag1 at h
  simp at h
  omega
theorem has_at {A : Option Addr} {n c : Nat} {S : List (Int × Int)} {last x : Int} {o : Bool} (ho : hasB S last x = o) (hn : S.length = n) (w : World) (h : SpA w A S) (hl : n ≤ 33554432) :
    Calls Tryd.prog 86 #[.slice A n c, .int .i64 last, .int .i64 x] w fun e w' => e = .returned (.bool o) ∧ w' = w := by
  subst ho
  subst hn
  exact (spec_has A c S last x w h hl).mono fun e w' h => ⟨h.1, h.2.symm⟩
/-- A row of a key's keys. -/
theorem kvs_row {w : World} {AK : Option Addr} {ks : List KT} {j : Nat} {k : KT} (h : KVs w AK 0 ks) (hk : ks[j]? = some k) :
    ∃ (b o : Nat) (a0 a1 : Int) (a2 : ByteArray) (a3 : Option Addr) (a4 a5 : Nat) (a6 : Option Addr) (a7 a8 : Nat), AK = some ⟨b, o, none⟩ ∧ b < w.heap.size ∧ w.cell? ⟨b, o + j * 5, none⟩ = some (.int .i64 a0) ∧ w.cell? ⟨b, o + j * 5 + 1, none⟩ = some (.int .i64 a1) ∧ w.cell? ⟨b, o + j * 5 + 2, none⟩ = some (.string a2) ∧
      w.cell? ⟨b, o + j * 5 + 3, none⟩ = some (.slice a3 a4 a5) ∧ w.cell? ⟨b, o + j * 5 + 4, none⟩ = some (.slice a6 a7 a8) ∧ KV w k (kval (a0, a1, a2, (a3, a4, a5), (a6, a7, a8))) := by
  obtain ⟨b, o, v0, v1, v2, v3, v4, h1, h2, c0, c1, c2, c3, c4, hkv⟩ := h.get hk
  rw [Nat.zero_add] at c0 c1 c2 c3 c4
  obtain ⟨a0, a1, a2, a3, a4, a5, a6, a7, a8, rfl, rfl, rfl, rfl, rfl⟩ := kv_five hkv
  exact ⟨b, o, a0, a1, a2, a3, a4, a5, a6, a7, a8, h1, h2, c0, c1, c2, c3, c4, hkv⟩
set_option maxRecDepth 20000 in
set_option maxHeartbeats 4000000 in
theorem sfinds_all {n : Int} {A : Option Addr} {N cap : Nat} {L : List ML} {m : ML} {i z : Nat} (IH : FindsS n A N cap L m i z) (hb : bOk n L = true) (hi : L[i]? = some m) {f : Int} {t : ByteArray} {S : List (Int × Int)} {ks : List KT} {AS AK : Option Addr} {nS cS nK cK : Nat} (w : World)
    (hn : nodesT (.mk 0 f t S ks) ≤ z + 1) (ha : allT (.mk 0 f t S ks) = true) (hM : MIn w A N cap L) (hS : S.length = nS) (hnS : nS ≤ 33554432) (ht : t.size ≤ 16777216) (hsp : SpA w AS S) (hnK : ks.length = nK) (hks : KVs w AK 0 ks) :
    Calls Tryd.prog 54 #[boxV n A N cap, .agg #[.int .i64 0, .int .i64 f, .string t, .slice AS nS cS, .slice AK nK cK], .int .i64 (i : Int)] w (SaysB w (findT L m i (.mk 0 f t S ks))) := by
  obtain ⟨u, fl, tx⟩ := m
  have HM := Lib.hid hM
  have HBO := Lib.hid hb
  have HIH := Lib.hid IH
  have HS := Lib.hid hS
  have HSP := Lib.hid hsp
  have HKS := Lib.hid hks
  have hiN : i < N := by rw [← hM.1]; exact (List.getElem?_eq_some_iff.1 hi).1
  have i0 : (0 : Int) ≤ (i : Int) := by omega
  have i1 : (i : Int) < (N : Int) := by omega
  have hN10 : N ≤ 10 := by rw [← hM.1]; exact (bOk_iff.1 hb).2.2.2.2
  have hmo := (bOk_get hb hi).1
  obtain ⟨b, o, rfl, hbz, c0, c1, c2⟩ := mail_at hM.2.2.1 hi
  obtain ⟨hal, hlf, hsh⟩ := all_node ha
  have HE := Lib.hid (find_is (L := L) (m := (u, fl, tx)) (i := i) (f := f) (t := t) (S := S) (ks := ks)).1
  clear hi hM hb IH hmo hal hlf hsh hn ha hS hsp hks
  go_enter Tryd.func54, Tryd.ntmps54
  go_wp2
  go_ret
  exact ⟨ret_bool HE.out.symm, below_three _ _ _⟩
set_option maxRecDepth 20000 in
set_option maxHeartbeats 4000000 in
theorem sfinds_flag {n : Int} {A : Option Addr} {N cap : Nat} {L : List ML} {m : ML} {i z : Nat} (IH : FindsS n A N cap L m i z) (hb : bOk n L = true) (hi : L[i]? = some m) {f : Int} {t : ByteArray} {S : List (Int × Int)} {ks : List KT} {AS AK : Option Addr} {nS cS nK cK : Nat} (w : World)
    (hn : nodesT (.mk 1 f t S ks) ≤ z + 1) (ha : allT (.mk 1 f t S ks) = true) (hM : MIn w A N cap L) (hS : S.length = nS) (hnS : nS ≤ 33554432) (ht : t.size ≤ 16777216) (hsp : SpA w AS S) (hnK : ks.length = nK) (hks : KVs w AK 0 ks) :
    Calls Tryd.prog 54 #[boxV n A N cap, .agg #[.int .i64 1, .int .i64 f, .string t, .slice AS nS cS, .slice AK nK cK], .int .i64 (i : Int)] w (SaysB w (findT L m i (.mk 1 f t S ks))) := by
  obtain ⟨u, fl, tx⟩ := m
  have HM := Lib.hid hM
  have HBO := Lib.hid hb
  have HIH := Lib.hid IH
  have HS := Lib.hid hS
  have HSP := Lib.hid hsp
  have HKS := Lib.hid hks
  have hiN : i < N := by rw [← hM.1]; exact (List.getElem?_eq_some_iff.1 hi).1
  have i0 : (0 : Int) ≤ (i : Int) := by omega
  have i1 : (i : Int) < (N : Int) := by omega
  have hN10 : N ≤ 10 := by rw [← hM.1]; exact (bOk_iff.1 hb).2.2.2.2
  have hmo := (bOk_get hb hi).1
  obtain ⟨b, o, rfl, hbz, c0, c1, c2⟩ := mail_at hM.2.2.1 hi
  obtain ⟨hal, hlf, hsh⟩ := all_node ha
  have HE := Lib.hid (find_is (L := L) (m := (u, fl, tx)) (i := i) (f := f) (t := t) (S := S) (ks := ks)).2.1
  have hff : flag1 f = true := by have := hlf; unfold leafB at this; simpa using this
  obtain ⟨a, ha32, hfa⟩ := isF_nat (mOk_iff.1 hmo).2.1
  obtain rfl : fl = (a : Int) := hfa
  have hcases := flag_five hff
  clear hi hM hb IH hmo hal hsh hn ha hS hsp hks hlf hff
  rcases hcases with rfl | rfl | rfl | rfl | rfl
  · obtain ⟨d, hd⟩ : ∃ d, a / 1 = d := ⟨_, rfl⟩
    obtain ⟨c, hc⟩ : ∃ c, d % 2 = c := ⟨_, rfl⟩
    have hH : hvI (a : Int) 1 = (c == 1) := by
      have h := hvI_one ⟨a, ha32⟩ ⟨0, by decide⟩
      rw [← hc, ← hd]
      exact h
    have HE2 := Lib.hid (HE.out.trans hH)
    have E1 : (a : Int).tdiv 1 = (d : Int) := by rw [Int.tdiv_eq_ediv_of_nonneg (by omega)]; omega
    have E2 : (a : Int) / 1 = (d : Int) := by omega
    have W1 : IntKind.i64.wrap (d : Int) = (d : Int) := IntWalk.i64_in _ (by omega)
    have E3 : (d : Int).tmod 2 = (c : Int) := by rw [Int.tmod_eq_emod_of_nonneg (by omega)]; omega
    have E4 : (d : Int) % 2 = (c : Int) := by omega
    have W2 : IntKind.i64.wrap (c : Int) = (c : Int) := IntWalk.i64_in _ (by omega)
    have hc2 : c = 0 ∨ c = 1 := by omega
    clear hd hc hH
    rcases hc2 with rfl | rfl
    all_goals (
      go_enter Tryd.func54, Tryd.ntmps54
      go_wp2
      go_ret
      exact ⟨ret_bool HE2.out.symm, below_three _ _ _⟩)
  · obtain ⟨d, hd⟩ : ∃ d, a / 2 = d := ⟨_, rfl⟩
    obtain ⟨c, hc⟩ : ∃ c, d % 2 = c := ⟨_, rfl⟩
    have hH : hvI (a : Int) 2 = (c == 1) := by
      have h := hvI_one ⟨a, ha32⟩ ⟨1, by decide⟩
      rw [← hc, ← hd]
      exact h
    have HE2 := Lib.hid (HE.out.trans hH)
    have E1 : (a : Int).tdiv 2 = (d : Int) := by rw [Int.tdiv_eq_ediv_of_nonneg (by omega)]; omega
    have E2 : (a : Int) / 2 = (d : Int) := by omega
    have W1 : IntKind.i64.wrap (d : Int) = (d : Int) := IntWalk.i64_in _ (by omega)
    have E3 : (d : Int).tmod 2 = (c : Int) := by rw [Int.tmod_eq_emod_of_nonneg (by omega)]; omega
    have E4 : (d : Int) % 2 = (c : Int) := by omega
    have W2 : IntKind.i64.wrap (c : Int) = (c : Int) := IntWalk.i64_in _ (by omega)
    have hc2 : c = 0 ∨ c = 1 := by omega
    clear hd hc hH
    rcases hc2 with rfl | rfl
    all_goals (
      go_enter Tryd.func54, Tryd.ntmps54
      go_wp2
      go_ret
      exact ⟨ret_bool HE2.out.symm, below_three _ _ _⟩)
  · obtain ⟨d, hd⟩ : ∃ d, a / 4 = d := ⟨_, rfl⟩
    obtain ⟨c, hc⟩ : ∃ c, d % 2 = c := ⟨_, rfl⟩
    have hH : hvI (a : Int) 4 = (c == 1) := by
      have h := hvI_one ⟨a, ha32⟩ ⟨2, by decide⟩
      rw [← hc, ← hd]
      exact h
    have HE2 := Lib.hid (HE.out.trans hH)
    have E1 : (a : Int).tdiv 4 = (d : Int) := by rw [Int.tdiv_eq_ediv_of_nonneg (by omega)]; omega
    have E2 : (a : Int) / 4 = (d : Int) := by omega
    have W1 : IntKind.i64.wrap (d : Int) = (d : Int) := IntWalk.i64_in _ (by omega)
    have E3 : (d : Int).tmod 2 = (c : Int) := by rw [Int.tmod_eq_emod_of_nonneg (by omega)]; omega
    have E4 : (d : Int) % 2 = (c : Int) := by omega
    have W2 : IntKind.i64.wrap (c : Int) = (c : Int) := IntWalk.i64_in _ (by omega)
    have hc2 : c = 0 ∨ c = 1 := by omega
    clear hd hc hH
    rcases hc2 with rfl | rfl
    all_goals (
      go_enter Tryd.func54, Tryd.ntmps54
      go_wp2
      go_ret
      exact ⟨ret_bool HE2.out.symm, below_three _ _ _⟩)
  · obtain ⟨d, hd⟩ : ∃ d, a / 8 = d := ⟨_, rfl⟩
    obtain ⟨c, hc⟩ : ∃ c, d % 2 = c := ⟨_, rfl⟩
    have hH : hvI (a : Int) 8 = (c == 1) := by
      have h := hvI_one ⟨a, ha32⟩ ⟨3, by decide⟩
      rw [← hc, ← hd]
      exact h
    have HE2 := Lib.hid (HE.out.trans hH)
    have E1 : (a : Int).tdiv 8 = (d : Int) := by rw [Int.tdiv_eq_ediv_of_nonneg (by omega)]; omega
    have E2 : (a : Int) / 8 = (d : Int) := by omega
    have W1 : IntKind.i64.wrap (d : Int) = (d : Int) := IntWalk.i64_in _ (by omega)
    have E3 : (d : Int).tmod 2 = (c : Int) := by rw [Int.tmod_eq_emod_of_nonneg (by omega)]; omega
    have E4 : (d : Int) % 2 = (c : Int) := by omega
    have W2 : IntKind.i64.wrap (c : Int) = (c : Int) := IntWalk.i64_in _ (by omega)
    have hc2 : c = 0 ∨ c = 1 := by omega
    clear hd hc hH
    rcases hc2 with rfl | rfl
    all_goals (
      go_enter Tryd.func54, Tryd.ntmps54
      go_wp2
      go_ret
      exact ⟨ret_bool HE2.out.symm, below_three _ _ _⟩)
  · obtain ⟨d, hd⟩ : ∃ d, a / 16 = d := ⟨_, rfl⟩
    obtain ⟨c, hc⟩ : ∃ c, d % 2 = c := ⟨_, rfl⟩
    have hH : hvI (a : Int) 16 = (c == 1) := by
      have h := hvI_one ⟨a, ha32⟩ ⟨4, by decide⟩
      rw [← hc, ← hd]
      exact h
    have HE2 := Lib.hid (HE.out.trans hH)
    have E1 : (a : Int).tdiv 16 = (d : Int) := by rw [Int.tdiv_eq_ediv_of_nonneg (by omega)]; omega
    have E2 : (a : Int) / 16 = (d : Int) := by omega
    have W1 : IntKind.i64.wrap (d : Int) = (d : Int) := IntWalk.i64_in _ (by omega)
    have E3 : (d : Int).tmod 2 = (c : Int) := by rw [Int.tmod_eq_emod_of_nonneg (by omega)]; omega
    have E4 : (d : Int) % 2 = (c : Int) := by omega
    have W2 : IntKind.i64.wrap (c : Int) = (c : Int) := IntWalk.i64_in _ (by omega)
    have hc2 : c = 0 ∨ c = 1 := by omega
    clear hd hc hH
    rcases hc2 with rfl | rfl
    all_goals (
      go_enter Tryd.func54, Tryd.ntmps54
      go_wp2
      go_ret
      exact ⟨ret_bool HE2.out.symm, below_three _ _ _⟩)
set_option maxRecDepth 20000 in
set_option maxHeartbeats 4000000 in
theorem sfinds_text {n : Int} {A : Option Addr} {N cap : Nat} {L : List ML} {m : ML} {i z : Nat} (IH : FindsS n A N cap L m i z) (hb : bOk n L = true) (hi : L[i]? = some m) {f : Int} {t : ByteArray} {S : List (Int × Int)} {ks : List KT} {AS AK : Option Addr} {nS cS nK cK : Nat} (w : World)
    (hn : nodesT (.mk 2 f t S ks) ≤ z + 1) (ha : allT (.mk 2 f t S ks) = true) (hM : MIn w A N cap L) (hS : S.length = nS) (hnS : nS ≤ 33554432) (ht : t.size ≤ 16777216) (hsp : SpA w AS S) (hnK : ks.length = nK) (hks : KVs w AK 0 ks) :
    Calls Tryd.prog 54 #[boxV n A N cap, .agg #[.int .i64 2, .int .i64 f, .string t, .slice AS nS cS, .slice AK nK cK], .int .i64 (i : Int)] w (SaysB w (findT L m i (.mk 2 f t S ks))) := by
  obtain ⟨u, fl, tx⟩ := m
  have HM := Lib.hid hM
  have HBO := Lib.hid hb
  have HIH := Lib.hid IH
  have HS := Lib.hid hS
  have HSP := Lib.hid hsp
  have HKS := Lib.hid hks
  have hiN : i < N := by rw [← hM.1]; exact (List.getElem?_eq_some_iff.1 hi).1
  have i0 : (0 : Int) ≤ (i : Int) := by omega
  have i1 : (i : Int) < (N : Int) := by omega
  have hN10 : N ≤ 10 := by rw [← hM.1]; exact (bOk_iff.1 hb).2.2.2.2
  have hmo := (bOk_get hb hi).1
  obtain ⟨b, o, rfl, hbz, c0, c1, c2⟩ := mail_at hM.2.2.1 hi
  obtain ⟨hal, hlf, hsh⟩ := all_node ha
  have HE := Lib.hid (find_is (L := L) (m := (u, fl, tx)) (i := i) (f := f) (t := t) (S := S) (ks := ks)).2.2.1
  have htx : (sB tx).size ≤ 16777216 := by rw [sB_size]; have h2 : tx.length ≤ 20 := (mOk_iff.1 hmo).2.2; omega
  have htn : t.size ≠ 0 := by
    have h2 : nameB t.data.toList = true := by have := hlf; unfold leafB at this; simpa using this
    have := name_ne h2
    simpa using this
  obtain ⟨z2, hz2⟩ : ∃ z, Lib.contains (sB tx).data.toList t.data.toList = z := ⟨_, rfl⟩
  have HZ := Lib.hid hz2
  have HE2 : Hid (findT L (u, fl, tx) i (.mk 2 f t S ks) = z2) := Lib.hid (HE.out.trans (by rw [← hz2, sB_list]))
  have HTN := Lib.hid htn
  clear hz2 htn
  clear hi hM hb IH hmo hal hlf hsh hn ha hS hsp hks
  obtain ⟨B, hB⟩ : ∃ B, w.heap.size = B := ⟨_, rfl⟩
  obtain ⟨w3, hw3⟩ : ∃ w3, (((w.alloc (.cells #[.int .i64 n, .slice (some ⟨b, o, none⟩) N cap] 37)).alloc (.cells #[.int .i64 2, .int .i64 f, .string t, .slice AS nS cS, .slice AK nK cK] 26)).alloc (.cells #[.int .i64 u, .int .i64 fl, .string (sB tx)] 48)) = w3 := ⟨_, rfl⟩
  have HB3 := Lib.hid (show Below B w w3 by rw [← hw3, ← hB]; exact (((Below.refl _ _).alloc (Nat.le_refl _) _).alloc (by simp) _).alloc (by simp; omega) _)
  have HWX := Lib.hid (show Whole w3 B 37 #[.int .i64 n, .slice (some ⟨b, o, none⟩) N cap] by rw [← hw3, ← hB]; exact ((Whole.made w _ _).alloc _).alloc _)
  have HWK := Lib.hid (show Whole w3 (B + 1) 26 #[.int .i64 2, .int .i64 f, .string t, .slice AS nS cS, .slice AK nK cK] by rw [← hw3, ← hB]; exact (whole_made1 (by simp)).alloc _)
  have HWM := Lib.hid (show Whole w3 (B + 1 + 1) 48 #[.int .i64 u, .int .i64 fl, .string (sB tx)] by rw [← hw3, ← hB]; exact whole_made1 (by simp))
  have HMM := Lib.hid (HM.out.below HB3.out (Nat.le_of_eq hB))
  have HSS := Lib.hid (HSP.out.below HB3.out (Nat.le_of_eq hB))
  have HKK := Lib.hid (KVs.below HB3.out (Nat.le_of_eq hB) AK 0 _ HKS.out)
  have HW3 := Lib.hid hw3
  have HBB := Lib.hid hB
  clear hw3 hB
  go_enter Tryd.func54, Tryd.ntmps54
  go_wp2_with fail
  rw [HW3.out, HBB.out]
  refine (spec_contains HZ.out _ htx HTN.out ht).mono ?_
  rintro e w4 ⟨rfl, rfl⟩
  go_wp2
  go_ret
  exact ⟨ret_bool HE2.out.symm, HBB.out.symm ▸ HB3.out⟩
set_option maxRecDepth 20000 in
set_option maxHeartbeats 4000000 in
theorem sfinds_place {n : Int} {A : Option Addr} {N cap : Nat} {L : List ML} {m : ML} {i z : Nat} (IH : FindsS n A N cap L m i z) (hb : bOk n L = true) (hi : L[i]? = some m) {f : Int} {t : ByteArray} {S : List (Int × Int)} {ks : List KT} {AS AK : Option Addr} {nS cS nK cK : Nat} (w : World)
    (hn : nodesT (.mk 3 f t S ks) ≤ z + 1) (ha : allT (.mk 3 f t S ks) = true) (hM : MIn w A N cap L) (hS : S.length = nS) (hnS : nS ≤ 33554432) (ht : t.size ≤ 16777216) (hsp : SpA w AS S) (hnK : ks.length = nK) (hks : KVs w AK 0 ks) :
    Calls Tryd.prog 54 #[boxV n A N cap, .agg #[.int .i64 3, .int .i64 f, .string t, .slice AS nS cS, .slice AK nK cK], .int .i64 (i : Int)] w (SaysB w (findT L m i (.mk 3 f t S ks))) := by
  obtain ⟨u, fl, tx⟩ := m
  have HM := Lib.hid hM
  have HBO := Lib.hid hb
  have HIH := Lib.hid IH
  have HS := Lib.hid hS
  have HSP := Lib.hid hsp
  have HKS := Lib.hid hks
  have hiN : i < N := by rw [← hM.1]; exact (List.getElem?_eq_some_iff.1 hi).1
  have i0 : (0 : Int) ≤ (i : Int) := by omega
  have i1 : (i : Int) < (N : Int) := by omega
  have hN10 : N ≤ 10 := by rw [← hM.1]; exact (bOk_iff.1 hb).2.2.2.2
  have hmo := (bOk_get hb hi).1
  obtain ⟨b, o, rfl, hbz, c0, c1, c2⟩ := mail_at hM.2.2.1 hi
  obtain ⟨hal, hlf, hsh⟩ := all_node ha
  have HE := Lib.hid (find_is (L := L) (m := (u, fl, tx)) (i := i) (f := f) (t := t) (S := S) (ks := ks)).2.2.2.1
  have HE2 : Hid (hasB S (N : Int) ((i : Int) + 1) = findT L (u, fl, tx) i (.mk 3 f t S ks)) := Lib.hid (by rw [HE.out, HM.out.1])
  have W1 : IntKind.i64.wrap ((i : Int) + 1) = (i : Int) + 1 := IntWalk.i64_in _ (by omega)
  clear hi hM hb IH hmo hal hlf hsh hn ha hS hsp hks
  obtain ⟨B, hB⟩ : ∃ B, w.heap.size = B := ⟨_, rfl⟩
  obtain ⟨w3, hw3⟩ : ∃ w3, (((w.alloc (.cells #[.int .i64 n, .slice (some ⟨b, o, none⟩) N cap] 37)).alloc (.cells #[.int .i64 3, .int .i64 f, .string t, .slice AS nS cS, .slice AK nK cK] 26)).alloc (.cells #[.int .i64 u, .int .i64 fl, .string (sB tx)] 48)) = w3 := ⟨_, rfl⟩
  have HB3 := Lib.hid (show Below B w w3 by rw [← hw3, ← hB]; exact (((Below.refl _ _).alloc (Nat.le_refl _) _).alloc (by simp) _).alloc (by simp; omega) _)
  have HWX := Lib.hid (show Whole w3 B 37 #[.int .i64 n, .slice (some ⟨b, o, none⟩) N cap] by rw [← hw3, ← hB]; exact ((Whole.made w _ _).alloc _).alloc _)
  have HWK := Lib.hid (show Whole w3 (B + 1) 26 #[.int .i64 3, .int .i64 f, .string t, .slice AS nS cS, .slice AK nK cK] by rw [← hw3, ← hB]; exact (whole_made1 (by simp)).alloc _)
  have HWM := Lib.hid (show Whole w3 (B + 1 + 1) 48 #[.int .i64 u, .int .i64 fl, .string (sB tx)] by rw [← hw3, ← hB]; exact whole_made1 (by simp))
  have HMM := Lib.hid (HM.out.below HB3.out (Nat.le_of_eq hB))
  have HSS := Lib.hid (HSP.out.below HB3.out (Nat.le_of_eq hB))
  have HKK := Lib.hid (KVs.below HB3.out (Nat.le_of_eq hB) AK 0 _ HKS.out)
  have HW3 := Lib.hid hw3
  have HBB := Lib.hid hB
  clear hw3 hB
  go_enter Tryd.func54, Tryd.ntmps54
  go_wp2_with fail
  rw [HW3.out, HBB.out]
  refine (has_at HE2.out HS.out _ HSS.out hnS).mono ?_
  rintro e w4 ⟨rfl, rfl⟩
  go_wp2
  go_ret
  exact ⟨rfl, HBB.out.symm ▸ HB3.out⟩
set_option maxRecDepth 20000 in
set_option maxHeartbeats 4000000 in
theorem sfinds_uid {n : Int} {A : Option Addr} {N cap : Nat} {L : List ML} {m : ML} {i z : Nat} (IH : FindsS n A N cap L m i z) (hb : bOk n L = true) (hi : L[i]? = some m) {f : Int} {t : ByteArray} {S : List (Int × Int)} {ks : List KT} {AS AK : Option Addr} {nS cS nK cK : Nat} (w : World)
    (hn : nodesT (.mk 4 f t S ks) ≤ z + 1) (ha : allT (.mk 4 f t S ks) = true) (hM : MIn w A N cap L) (hS : S.length = nS) (hnS : nS ≤ 33554432) (ht : t.size ≤ 16777216) (hsp : SpA w AS S) (hnK : ks.length = nK) (hks : KVs w AK 0 ks) :
    Calls Tryd.prog 54 #[boxV n A N cap, .agg #[.int .i64 4, .int .i64 f, .string t, .slice AS nS cS, .slice AK nK cK], .int .i64 (i : Int)] w (SaysB w (findT L m i (.mk 4 f t S ks))) := by
  obtain ⟨u, fl, tx⟩ := m
  have HM := Lib.hid hM
  have HBO := Lib.hid hb
  have HIH := Lib.hid IH
  have HS := Lib.hid hS
  have HSP := Lib.hid hsp
  have HKS := Lib.hid hks
  have hiN : i < N := by rw [← hM.1]; exact (List.getElem?_eq_some_iff.1 hi).1
  have i0 : (0 : Int) ≤ (i : Int) := by omega
  have i1 : (i : Int) < (N : Int) := by omega
  have hN10 : N ≤ 10 := by rw [← hM.1]; exact (bOk_iff.1 hb).2.2.2.2
  have hmo := (bOk_get hb hi).1
  obtain ⟨b, o, rfl, hbz, c0, c1, c2⟩ := mail_at hM.2.2.1 hi
  obtain ⟨hal, hlf, hsh⟩ := all_node ha
  have HE := Lib.hid (find_is (L := L) (m := (u, fl, tx)) (i := i) (f := f) (t := t) (S := S) (ks := ks)).2.2.2.2
  obtain ⟨⟨lu, lf, lt⟩, hlx, hlu, hl1, hl2, hl3⟩ := last_is hb hi
  have HE2 : Hid (hasB S lu u = findT L (u, fl, tx) i (.mk 4 f t S ks)) := Lib.hid (by rw [HE.out, hlu])
  rw [hM.1] at hlx
  obtain ⟨b', o', he, _, d0, d1, d2⟩ := mail_at hM.2.2.1 hlx
  cases he
  obtain ⟨N1, hN1⟩ : ∃ N1, N - 1 = N1 := ⟨_, rfl⟩
  rw [hN1] at d0 d1 d2
  have W1 : IntKind.i64.wrap ((N : Int) - 1) = (N1 : Int) := by rw [IntWalk.i64_in _ (by omega)]; omega
  have n0 : (0 : Int) ≤ (N1 : Int) := by omega
  have n1 : (N1 : Int) < (N : Int) := by omega
  clear hlx hlu hl1 hl2 hl3 hN1 d1 d2
  clear hi hM hb IH hmo hal hlf hsh hn ha hS hsp hks
  obtain ⟨B, hB⟩ : ∃ B, w.heap.size = B := ⟨_, rfl⟩
  obtain ⟨w3, hw3⟩ : ∃ w3, (((w.alloc (.cells #[.int .i64 n, .slice (some ⟨b, o, none⟩) N cap] 37)).alloc (.cells #[.int .i64 4, .int .i64 f, .string t, .slice AS nS cS, .slice AK nK cK] 26)).alloc (.cells #[.int .i64 u, .int .i64 fl, .string (sB tx)] 48)) = w3 := ⟨_, rfl⟩
  have HB3 := Lib.hid (show Below B w w3 by rw [← hw3, ← hB]; exact (((Below.refl _ _).alloc (Nat.le_refl _) _).alloc (by simp) _).alloc (by simp; omega) _)
  have HWX := Lib.hid (show Whole w3 B 37 #[.int .i64 n, .slice (some ⟨b, o, none⟩) N cap] by rw [← hw3, ← hB]; exact ((Whole.made w _ _).alloc _).alloc _)
  have HWK := Lib.hid (show Whole w3 (B + 1) 26 #[.int .i64 4, .int .i64 f, .string t, .slice AS nS cS, .slice AK nK cK] by rw [← hw3, ← hB]; exact (whole_made1 (by simp)).alloc _)
  have HWM := Lib.hid (show Whole w3 (B + 1 + 1) 48 #[.int .i64 u, .int .i64 fl, .string (sB tx)] by rw [← hw3, ← hB]; exact whole_made1 (by simp))
  have HMM := Lib.hid (HM.out.below HB3.out (Nat.le_of_eq hB))
  have HSS := Lib.hid (HSP.out.below HB3.out (Nat.le_of_eq hB))
  have HKK := Lib.hid (KVs.below HB3.out (Nat.le_of_eq hB) AK 0 _ HKS.out)
  have HW3 := Lib.hid hw3
  have HBB := Lib.hid hB
  clear hw3 hB
  have hbB : b < B := by rw [← HBB.out]; exact hbz
  have hBw : B < w3.heap.size := HWX.out.lt
  have dr : w3.cell? ⟨b, o + N1 * 3, none⟩ = some (.int .i64 lu) := (HB3.out.cell hbB).trans d0
  have l0 : ∀ x : Later w3.heap.size w3, x.v.cell? ⟨B, 1, none⟩ = some (.slice (some ⟨b, o, none⟩) N cap) := fun x => x.cell hBw (HWX.out.cell 1)
  have l1 : ∀ x : Later w3.heap.size w3, x.v.cell? ⟨B + 1, 3, none⟩ = some (.slice AS nS cS) := fun x => x.cell HWK.out.lt (HWK.out.cell 3)
  have l2 : ∀ x : Later w3.heap.size w3, x.v.cell? ⟨B + 1 + 1, 0, none⟩ = some (.int .i64 u) := fun x => x.cell HWM.out.lt (HWM.out.cell 0)
  have l3 : ∀ x : Later w3.heap.size w3, x.v.cell? ⟨b, o + N1 * 3, none⟩ = some (.int .i64 lu) := fun x => x.cell (Nat.lt_trans hbB hBw) dr
  have HHA : Hid (∀ x : Later w3.heap.size w3, SpA x.v AS S) := Lib.hid (fun x => HSS.out.below x.h (Nat.le_refl _))
  clear d0 dr
  go_enter Tryd.func54, Tryd.ntmps54
  go_wp2
  rw [HW3.out, HBB.out]
  refine wp_region_later w3.heap.size w3 (by kernel_rfl) (by kernel_rfl) ?_
  repeat (go_big_quiet_step ((go_at_call 86; refine (has_at HE2.out HS.out _ (HHA.out _) hnS).mono ?_; rintro e w2 ⟨rfl, rfl⟩; exact ⟨rfl, _, rfl⟩)))
  refine wpQuiet_nil ?_
  intro _ hw'
  obtain ⟨⟨w9, hb9⟩, rfl⟩ := hw'
  have HB9 := Lib.hid (HB3.out.trans (hb9.mono (by have := HWX.out.lt; omega)))
  clear hb9
  go_wp2
  go_ret
  exact ⟨rfl, HBB.out.symm ▸ HB9.out⟩
set_option maxRecDepth 20000 in
set_option maxHeartbeats 4000000 in
theorem sfinds_not {n : Int} {A : Option Addr} {N cap : Nat} {L : List ML} {m : ML} {i z : Nat} (IH : FindsS n A N cap L m i z) (hb : bOk n L = true) (hi : L[i]? = some m) {f : Int} {t : ByteArray} {S : List (Int × Int)} {ks : List KT} {AS AK : Option Addr} {nS cS nK cK : Nat} (w : World)
    (hn : nodesT (.mk 5 f t S ks) ≤ z + 1) (ha : allT (.mk 5 f t S ks) = true) (hM : MIn w A N cap L) (hS : S.length = nS) (hnS : nS ≤ 33554432) (ht : t.size ≤ 16777216) (hsp : SpA w AS S) (hnK : ks.length = nK) (hks : KVs w AK 0 ks) :
    Calls Tryd.prog 54 #[boxV n A N cap, .agg #[.int .i64 5, .int .i64 f, .string t, .slice AS nS cS, .slice AK nK cK], .int .i64 (i : Int)] w (SaysB w (findT L m i (.mk 5 f t S ks))) := by
  obtain ⟨u, fl, tx⟩ := m
  have HM := Lib.hid hM
  have HBO := Lib.hid hb
  have HIH := Lib.hid IH
  have HS := Lib.hid hS
  have HSP := Lib.hid hsp
  have HKS := Lib.hid hks
  have hiN : i < N := by rw [← hM.1]; exact (List.getElem?_eq_some_iff.1 hi).1
  have i0 : (0 : Int) ≤ (i : Int) := by omega
  have i1 : (i : Int) < (N : Int) := by omega
  have hN10 : N ≤ 10 := by rw [← hM.1]; exact (bOk_iff.1 hb).2.2.2.2
  have hmo := (bOk_get hb hi).1
  obtain ⟨b, o, rfl, hbz, c0, c1, c2⟩ := mail_at hM.2.2.1 hi
  obtain ⟨hal, hlf, hsh⟩ := all_node ha
  have h1 : ks.length = 1 := by have := hsh; unfold shapeB at this; simp at this; omega
  obtain ⟨k, rfl⟩ : ∃ k, ks = [k] := by
    match ks, h1 with
    | [k], _ => exact ⟨k, rfl⟩
  rw [nodes_one] at hn
  obtain rfl : 1 = nK := hnK
  have HA := Lib.hid (allL_one hal)
  obtain ⟨r, hr⟩ : ∃ r, findT L (u, fl, tx) i k = r := ⟨_, rfl⟩
  have HR := Lib.hid hr
  have hnz : nodesT k ≤ z := by omega
  obtain ⟨bp, op, p0, p1, p2, p3, p4, p5, p6, p7, p8, hep, hbp, ep0, ep1, ep2, ep3, ep4, hkvp⟩ := kvs_row hks (j := 0) rfl
  subst hep
  simp only [Nat.zero_mul, Nat.add_zero] at ep0 ep1 ep2 ep3 ep4
  have HKVp := Lib.hid hkvp
  have z1 : (0 : Int) < ((1 : Nat) : Int) := by omega
  clear h1 hr hkvp
  clear hi hM hb IH hmo hal hlf hsh hn ha hS hsp hks
  obtain ⟨B, hB⟩ : ∃ B, w.heap.size = B := ⟨_, rfl⟩
  obtain ⟨w3, hw3⟩ : ∃ w3, (((w.alloc (.cells #[.int .i64 n, .slice (some ⟨b, o, none⟩) N cap] 37)).alloc (.cells #[.int .i64 5, .int .i64 f, .string t, .slice AS nS cS, .slice (some ⟨bp, op, none⟩) 1 cK] 26)).alloc (.cells #[.int .i64 u, .int .i64 fl, .string (sB tx)] 48)) = w3 := ⟨_, rfl⟩
  have HB3 := Lib.hid (show Below B w w3 by rw [← hw3, ← hB]; exact (((Below.refl _ _).alloc (Nat.le_refl _) _).alloc (by simp) _).alloc (by simp; omega) _)
  have HWX := Lib.hid (show Whole w3 B 37 #[.int .i64 n, .slice (some ⟨b, o, none⟩) N cap] by rw [← hw3, ← hB]; exact ((Whole.made w _ _).alloc _).alloc _)
  have HWK := Lib.hid (show Whole w3 (B + 1) 26 #[.int .i64 5, .int .i64 f, .string t, .slice AS nS cS, .slice (some ⟨bp, op, none⟩) 1 cK] by rw [← hw3, ← hB]; exact (whole_made1 (by simp)).alloc _)
  have HWM := Lib.hid (show Whole w3 (B + 1 + 1) 48 #[.int .i64 u, .int .i64 fl, .string (sB tx)] by rw [← hw3, ← hB]; exact whole_made1 (by simp))
  have HMM := Lib.hid (HM.out.below HB3.out (Nat.le_of_eq hB))
  have HSS := Lib.hid (HSP.out.below HB3.out (Nat.le_of_eq hB))
  have HKK := Lib.hid (KVs.below HB3.out (Nat.le_of_eq hB) (some ⟨bp, op, none⟩) 0 _ HKS.out)
  have HW3 := Lib.hid hw3
  have HBB := Lib.hid hB
  clear hw3 hB
  have hpB : bp < B := by rw [← HBB.out]; exact hbp
  have hBw : B < w3.heap.size := HWX.out.lt
  have l0 : ∀ x : Later w3.heap.size w3, x.v.cell? ⟨B, 0, none⟩ = some (.int .i64 n) := fun x => x.cell hBw (HWX.out.cell 0)
  have l1 : ∀ x : Later w3.heap.size w3, x.v.cell? ⟨B, 1, none⟩ = some (.slice (some ⟨b, o, none⟩) N cap) := fun x => x.cell hBw (HWX.out.cell 1)
  have l2 : ∀ x : Later w3.heap.size w3, x.v.cell? ⟨B + 1, 4, none⟩ = some (.slice (some ⟨bp, op, none⟩) 1 cK) := fun x => x.cell HWK.out.lt (HWK.out.cell 4)
  have lp0 : ∀ x : Later w3.heap.size w3, x.v.cell? ⟨bp, op, none⟩ = some (.int .i64 p0) := fun x => x.cell (Nat.lt_trans hpB hBw) ((HB3.out.cell hpB).trans ep0)
  have lp1 : ∀ x : Later w3.heap.size w3, x.v.cell? ⟨bp, op + 1, none⟩ = some (.int .i64 p1) := fun x => x.cell (Nat.lt_trans hpB hBw) ((HB3.out.cell hpB).trans ep1)
  have lp2 : ∀ x : Later w3.heap.size w3, x.v.cell? ⟨bp, op + 2, none⟩ = some (.string p2) := fun x => x.cell (Nat.lt_trans hpB hBw) ((HB3.out.cell hpB).trans ep2)
  have lp3 : ∀ x : Later w3.heap.size w3, x.v.cell? ⟨bp, op + 3, none⟩ = some (.slice p3 p4 p5) := fun x => x.cell (Nat.lt_trans hpB hBw) ((HB3.out.cell hpB).trans ep3)
  have lp4 : ∀ x : Later w3.heap.size w3, x.v.cell? ⟨bp, op + 4, none⟩ = some (.slice p6 p7 p8) := fun x => x.cell (Nat.lt_trans hpB hBw) ((HB3.out.cell hpB).trans ep4)
  have HCp : Hid (∀ x : Later w3.heap.size w3, Calls Tryd.prog 54 #[.agg #[.int .i64 n, .slice (some ⟨b, o, none⟩) N cap], .agg #[.int .i64 p0, .int .i64 p1, .string p2, .slice p3 p4 p5, .slice p6 p7 p8], .int .i64 (i : Int)] x.v (SaysB x.v r)) := Lib.hid (fun x => by
    have h := HIH.out k (p0, p1, p2, (p3, p4, p5), (p6, p7, p8)) x.v hnz HA.out (KV.below x.h (Nat.le_refl _) _ _ (KV.below HB3.out (Nat.le_of_eq HBB.out) _ _ HKVp.out)) (HMM.out.below x.h (Nat.le_refl _))
    rw [HR.out] at h
    exact h)
  clear ep0 ep1 ep2 ep3 ep4
  go_enter Tryd.func54, Tryd.ntmps54
  go_wp2
  rw [HW3.out, HBB.out]
  refine wp_region_later w3.heap.size w3 (by kernel_rfl) (by kernel_rfl) ?_
  repeat (go_big_quiet_step ((go_at_call 54; refine (HCp.out _).mono ?_; rintro e w2 ⟨rfl, hb2⟩; exact ⟨rfl, Later.call _ hb2 (Nat.le_refl _)⟩)))
  refine wpQuiet_nil ?_
  intro _ hw'
  obtain ⟨⟨w9, hb9⟩, rfl⟩ := hw'
  have HB9 := Lib.hid (HB3.out.trans (hb9.mono (by have := HWX.out.lt; omega)))
  clear hb9
  go_wp2
  go_ret
  exact ⟨ret_bool (find_not HR.out).symm, HBB.out.symm ▸ HB9.out⟩
set_option maxRecDepth 20000 in
set_option maxHeartbeats 4000000 in
theorem sfinds_and {n : Int} {A : Option Addr} {N cap : Nat} {L : List ML} {m : ML} {i z : Nat} (IH : FindsS n A N cap L m i z) (hb : bOk n L = true) (hi : L[i]? = some m) {f : Int} {t : ByteArray} {S : List (Int × Int)} {ks : List KT} {AS AK : Option Addr} {nS cS nK cK : Nat} (w : World)
    (hn : nodesT (.mk 6 f t S ks) ≤ z + 1) (ha : allT (.mk 6 f t S ks) = true) (hM : MIn w A N cap L) (hS : S.length = nS) (hnS : nS ≤ 33554432) (ht : t.size ≤ 16777216) (hsp : SpA w AS S) (hnK : ks.length = nK) (hks : KVs w AK 0 ks) :
    Calls Tryd.prog 54 #[boxV n A N cap, .agg #[.int .i64 6, .int .i64 f, .string t, .slice AS nS cS, .slice AK nK cK], .int .i64 (i : Int)] w (SaysB w (findT L m i (.mk 6 f t S ks))) := by
  obtain ⟨u, fl, tx⟩ := m
  have HM := Lib.hid hM
  have HBO := Lib.hid hb
  have HIH := Lib.hid IH
  have HS := Lib.hid hS
  have HSP := Lib.hid hsp
  have HKS := Lib.hid hks
  have hiN : i < N := by rw [← hM.1]; exact (List.getElem?_eq_some_iff.1 hi).1
  have i0 : (0 : Int) ≤ (i : Int) := by omega
  have i1 : (i : Int) < (N : Int) := by omega
  have hN10 : N ≤ 10 := by rw [← hM.1]; exact (bOk_iff.1 hb).2.2.2.2
  have hmo := (bOk_get hb hi).1
  obtain ⟨b, o, rfl, hbz, c0, c1, c2⟩ := mail_at hM.2.2.1 hi
  obtain ⟨hal, hlf, hsh⟩ := all_node ha
  have h1 : ks.length = 2 := by have := hsh; unfold shapeB at this; simp at this; omega
  obtain ⟨k, k2, rfl⟩ : ∃ k k2, ks = [k, k2] := by
    match ks, h1 with
    | [k, k2], _ => exact ⟨k, k2, rfl⟩
  rw [nodes_two] at hn
  obtain rfl : 2 = nK := hnK
  have HA := Lib.hid (allL_two hal)
  obtain ⟨r, hr⟩ : ∃ r, findT L (u, fl, tx) i k = r := ⟨_, rfl⟩
  obtain ⟨s, hs⟩ : ∃ s, findT L (u, fl, tx) i k2 = s := ⟨_, rfl⟩
  have HR := Lib.hid hr
  have HR2 := Lib.hid hs
  have hnz : nodesT k ≤ z := by omega
  have hnz2 : nodesT k2 ≤ z := by omega
  obtain ⟨bp, op, p0, p1, p2, p3, p4, p5, p6, p7, p8, hep, hbp, ep0, ep1, ep2, ep3, ep4, hkvp⟩ := kvs_row hks (j := 0) rfl
  obtain ⟨bq, oq, q0, q1, q2, q3, q4, q5, q6, q7, q8, heq, hbq, eq0, eq1, eq2, eq3, eq4, hkvq⟩ := kvs_row hks (j := 1) rfl
  subst hep
  cases heq
  simp only [Nat.zero_mul, Nat.add_zero, Nat.one_mul] at ep0 ep1 ep2 ep3 ep4 eq0 eq1 eq2 eq3 eq4
  have HKVp := Lib.hid hkvp
  have HKVq := Lib.hid hkvq
  have z1 : (0 : Int) < ((2 : Nat) : Int) := by omega
  have z2 : (1 : Int) < ((2 : Nat) : Int) := by omega
  clear h1 hr hs hkvp hkvq
  clear hi hM hb IH hmo hal hlf hsh hn ha hS hsp hks
  obtain ⟨B, hB⟩ : ∃ B, w.heap.size = B := ⟨_, rfl⟩
  obtain ⟨w3, hw3⟩ : ∃ w3, (((w.alloc (.cells #[.int .i64 n, .slice (some ⟨b, o, none⟩) N cap] 37)).alloc (.cells #[.int .i64 6, .int .i64 f, .string t, .slice AS nS cS, .slice (some ⟨bp, op, none⟩) 2 cK] 26)).alloc (.cells #[.int .i64 u, .int .i64 fl, .string (sB tx)] 48)) = w3 := ⟨_, rfl⟩
  have HB3 := Lib.hid (show Below B w w3 by rw [← hw3, ← hB]; exact (((Below.refl _ _).alloc (Nat.le_refl _) _).alloc (by simp) _).alloc (by simp; omega) _)
  have HWX := Lib.hid (show Whole w3 B 37 #[.int .i64 n, .slice (some ⟨b, o, none⟩) N cap] by rw [← hw3, ← hB]; exact ((Whole.made w _ _).alloc _).alloc _)
  have HWK := Lib.hid (show Whole w3 (B + 1) 26 #[.int .i64 6, .int .i64 f, .string t, .slice AS nS cS, .slice (some ⟨bp, op, none⟩) 2 cK] by rw [← hw3, ← hB]; exact (whole_made1 (by simp)).alloc _)
  have HWM := Lib.hid (show Whole w3 (B + 1 + 1) 48 #[.int .i64 u, .int .i64 fl, .string (sB tx)] by rw [← hw3, ← hB]; exact whole_made1 (by simp))
  have HMM := Lib.hid (HM.out.below HB3.out (Nat.le_of_eq hB))
  have HSS := Lib.hid (HSP.out.below HB3.out (Nat.le_of_eq hB))
  have HKK := Lib.hid (KVs.below HB3.out (Nat.le_of_eq hB) (some ⟨bp, op, none⟩) 0 _ HKS.out)
  have HW3 := Lib.hid hw3
  have HBB := Lib.hid hB
  clear hw3 hB
  have hpB : bp < B := by rw [← HBB.out]; exact hbp
  have hBw : B < w3.heap.size := HWX.out.lt
  have l0 : ∀ x : Later w3.heap.size w3, x.v.cell? ⟨B, 0, none⟩ = some (.int .i64 n) := fun x => x.cell hBw (HWX.out.cell 0)
  have l1 : ∀ x : Later w3.heap.size w3, x.v.cell? ⟨B, 1, none⟩ = some (.slice (some ⟨b, o, none⟩) N cap) := fun x => x.cell hBw (HWX.out.cell 1)
  have l2 : ∀ x : Later w3.heap.size w3, x.v.cell? ⟨B + 1, 4, none⟩ = some (.slice (some ⟨bp, op, none⟩) 2 cK) := fun x => x.cell HWK.out.lt (HWK.out.cell 4)
  have lp0 : ∀ x : Later w3.heap.size w3, x.v.cell? ⟨bp, op, none⟩ = some (.int .i64 p0) := fun x => x.cell (Nat.lt_trans hpB hBw) ((HB3.out.cell hpB).trans ep0)
  have lp1 : ∀ x : Later w3.heap.size w3, x.v.cell? ⟨bp, op + 1, none⟩ = some (.int .i64 p1) := fun x => x.cell (Nat.lt_trans hpB hBw) ((HB3.out.cell hpB).trans ep1)
  have lp2 : ∀ x : Later w3.heap.size w3, x.v.cell? ⟨bp, op + 2, none⟩ = some (.string p2) := fun x => x.cell (Nat.lt_trans hpB hBw) ((HB3.out.cell hpB).trans ep2)
  have lp3 : ∀ x : Later w3.heap.size w3, x.v.cell? ⟨bp, op + 3, none⟩ = some (.slice p3 p4 p5) := fun x => x.cell (Nat.lt_trans hpB hBw) ((HB3.out.cell hpB).trans ep3)
  have lp4 : ∀ x : Later w3.heap.size w3, x.v.cell? ⟨bp, op + 4, none⟩ = some (.slice p6 p7 p8) := fun x => x.cell (Nat.lt_trans hpB hBw) ((HB3.out.cell hpB).trans ep4)
  have lq0 : ∀ x : Later w3.heap.size w3, x.v.cell? ⟨bp, op + 5, none⟩ = some (.int .i64 q0) := fun x => x.cell (Nat.lt_trans hpB hBw) ((HB3.out.cell hpB).trans eq0)
  have lq1 : ∀ x : Later w3.heap.size w3, x.v.cell? ⟨bp, op + 5 + 1, none⟩ = some (.int .i64 q1) := fun x => x.cell (Nat.lt_trans hpB hBw) ((HB3.out.cell hpB).trans eq1)
  have lq2 : ∀ x : Later w3.heap.size w3, x.v.cell? ⟨bp, op + 5 + 2, none⟩ = some (.string q2) := fun x => x.cell (Nat.lt_trans hpB hBw) ((HB3.out.cell hpB).trans eq2)
  have lq3 : ∀ x : Later w3.heap.size w3, x.v.cell? ⟨bp, op + 5 + 3, none⟩ = some (.slice q3 q4 q5) := fun x => x.cell (Nat.lt_trans hpB hBw) ((HB3.out.cell hpB).trans eq3)
  have lq4 : ∀ x : Later w3.heap.size w3, x.v.cell? ⟨bp, op + 5 + 4, none⟩ = some (.slice q6 q7 q8) := fun x => x.cell (Nat.lt_trans hpB hBw) ((HB3.out.cell hpB).trans eq4)
  have HCp : Hid (∀ x : Later w3.heap.size w3, Calls Tryd.prog 54 #[.agg #[.int .i64 n, .slice (some ⟨b, o, none⟩) N cap], .agg #[.int .i64 p0, .int .i64 p1, .string p2, .slice p3 p4 p5, .slice p6 p7 p8], .int .i64 (i : Int)] x.v (SaysB x.v r)) := Lib.hid (fun x => by
    have h := HIH.out k (p0, p1, p2, (p3, p4, p5), (p6, p7, p8)) x.v hnz HA.out.1 (KV.below x.h (Nat.le_refl _) _ _ (KV.below HB3.out (Nat.le_of_eq HBB.out) _ _ HKVp.out)) (HMM.out.below x.h (Nat.le_refl _))
    rw [HR.out] at h
    exact h)
  have HCq : Hid (∀ x : Later w3.heap.size w3, Calls Tryd.prog 54 #[.agg #[.int .i64 n, .slice (some ⟨b, o, none⟩) N cap], .agg #[.int .i64 q0, .int .i64 q1, .string q2, .slice q3 q4 q5, .slice q6 q7 q8], .int .i64 (i : Int)] x.v (SaysB x.v s)) := Lib.hid (fun x => by
    have h := HIH.out k2 (q0, q1, q2, (q3, q4, q5), (q6, q7, q8)) x.v hnz2 HA.out.2 (KV.below x.h (Nat.le_refl _) _ _ (KV.below HB3.out (Nat.le_of_eq HBB.out) _ _ HKVq.out)) (HMM.out.below x.h (Nat.le_refl _))
    rw [HR2.out] at h
    exact h)
  clear ep0 ep1 ep2 ep3 ep4 eq0 eq1 eq2 eq3 eq4
  cases r with
  | false =>
    go_enter Tryd.func54, Tryd.ntmps54
    go_wp2
    rw [HW3.out, HBB.out]
    refine wp_region_later w3.heap.size w3 (by kernel_rfl) (by kernel_rfl) ?_
    repeat (go_big_quiet_step ((go_at_call 54; refine (HCp.out _).mono ?_; rintro e w2 ⟨rfl, hb2⟩; exact ⟨rfl, Later.call _ hb2 (Nat.le_refl _)⟩)))
    refine wpQuiet_nil ?_
    intro _ hw'
    obtain ⟨⟨w9, hb9⟩, rfl⟩ := hw'
    have HB9 := Lib.hid (HB3.out.trans (hb9.mono (by have := HWX.out.lt; omega)))
    clear hb9
    go_wp2
    go_ret
    exact ⟨ret_bool ((find_and HR.out HR2.out).trans (by simp)).symm, HBB.out.symm ▸ HB9.out⟩
  | true =>
    go_enter Tryd.func54, Tryd.ntmps54
    go_wp2
    rw [HW3.out, HBB.out]
    refine wp_region_later w3.heap.size w3 (by kernel_rfl) (by kernel_rfl) ?_
    iterate 7 (go_big_quiet_step ((go_at_call 54; refine (HCp.out _).mono ?_; rintro e w2 ⟨rfl, hb2⟩; exact ⟨rfl, Later.call _ hb2 (Nat.le_refl _)⟩)))
    repeat (go_big_quiet_step ((go_at_call 54; refine (HCq.out _).mono ?_; rintro e w2 ⟨rfl, hb2⟩; exact ⟨rfl, Later.call _ hb2 (Nat.le_refl _)⟩)))
    refine wpQuiet_nil ?_
    intro _ hw'
    obtain ⟨⟨w9, hb9⟩, rfl⟩ := hw'
    have HB9 := Lib.hid (HB3.out.trans (hb9.mono (by have := HWX.out.lt; omega)))
    clear hb9
    go_wp2
    go_ret
    exact ⟨ret_bool ((find_and HR.out HR2.out).trans (by simp)).symm, HBB.out.symm ▸ HB9.out⟩
set_option maxRecDepth 20000 in
set_option maxHeartbeats 4000000 in
theorem sfinds_or {n : Int} {A : Option Addr} {N cap : Nat} {L : List ML} {m : ML} {i z : Nat} (IH : FindsS n A N cap L m i z) (hb : bOk n L = true) (hi : L[i]? = some m) {f : Int} {t : ByteArray} {S : List (Int × Int)} {ks : List KT} {AS AK : Option Addr} {nS cS nK cK : Nat} (w : World)
    (hn : nodesT (.mk 7 f t S ks) ≤ z + 1) (ha : allT (.mk 7 f t S ks) = true) (hM : MIn w A N cap L) (hS : S.length = nS) (hnS : nS ≤ 33554432) (ht : t.size ≤ 16777216) (hsp : SpA w AS S) (hnK : ks.length = nK) (hks : KVs w AK 0 ks) :
    Calls Tryd.prog 54 #[boxV n A N cap, .agg #[.int .i64 7, .int .i64 f, .string t, .slice AS nS cS, .slice AK nK cK], .int .i64 (i : Int)] w (SaysB w (findT L m i (.mk 7 f t S ks))) := by
  obtain ⟨u, fl, tx⟩ := m
  have HM := Lib.hid hM
  have HBO := Lib.hid hb
  have HIH := Lib.hid IH
  have HS := Lib.hid hS
  have HSP := Lib.hid hsp
  have HKS := Lib.hid hks
  have hiN : i < N := by rw [← hM.1]; exact (List.getElem?_eq_some_iff.1 hi).1
  have i0 : (0 : Int) ≤ (i : Int) := by omega
  have i1 : (i : Int) < (N : Int) := by omega
  have hN10 : N ≤ 10 := by rw [← hM.1]; exact (bOk_iff.1 hb).2.2.2.2
  have hmo := (bOk_get hb hi).1
  obtain ⟨b, o, rfl, hbz, c0, c1, c2⟩ := mail_at hM.2.2.1 hi
  obtain ⟨hal, hlf, hsh⟩ := all_node ha
  have h1 : ks.length = 2 := by have := hsh; unfold shapeB at this; simp at this; omega
  obtain ⟨k, k2, rfl⟩ : ∃ k k2, ks = [k, k2] := by
    match ks, h1 with
    | [k, k2], _ => exact ⟨k, k2, rfl⟩
  rw [nodes_two] at hn
  obtain rfl : 2 = nK := hnK
  have HA := Lib.hid (allL_two hal)
  obtain ⟨r, hr⟩ : ∃ r, findT L (u, fl, tx) i k = r := ⟨_, rfl⟩
  obtain ⟨s, hs⟩ : ∃ s, findT L (u, fl, tx) i k2 = s := ⟨_, rfl⟩
  have HR := Lib.hid hr
  have HR2 := Lib.hid hs
  have hnz : nodesT k ≤ z := by omega
  have hnz2 : nodesT k2 ≤ z := by omega
  obtain ⟨bp, op, p0, p1, p2, p3, p4, p5, p6, p7, p8, hep, hbp, ep0, ep1, ep2, ep3, ep4, hkvp⟩ := kvs_row hks (j := 0) rfl
  obtain ⟨bq, oq, q0, q1, q2, q3, q4, q5, q6, q7, q8, heq, hbq, eq0, eq1, eq2, eq3, eq4, hkvq⟩ := kvs_row hks (j := 1) rfl
  subst hep
  cases heq
  simp only [Nat.zero_mul, Nat.add_zero, Nat.one_mul] at ep0 ep1 ep2 ep3 ep4 eq0 eq1 eq2 eq3 eq4
  have HKVp := Lib.hid hkvp
  have HKVq := Lib.hid hkvq
  have z1 : (0 : Int) < ((2 : Nat) : Int) := by omega
  have z2 : (1 : Int) < ((2 : Nat) : Int) := by omega
  clear h1 hr hs hkvp hkvq
  clear hi hM hb IH hmo hal hlf hsh hn ha hS hsp hks
  obtain ⟨B, hB⟩ : ∃ B, w.heap.size = B := ⟨_, rfl⟩
  obtain ⟨w3, hw3⟩ : ∃ w3, (((w.alloc (.cells #[.int .i64 n, .slice (some ⟨b, o, none⟩) N cap] 37)).alloc (.cells #[.int .i64 7, .int .i64 f, .string t, .slice AS nS cS, .slice (some ⟨bp, op, none⟩) 2 cK] 26)).alloc (.cells #[.int .i64 u, .int .i64 fl, .string (sB tx)] 48)) = w3 := ⟨_, rfl⟩
  have HB3 := Lib.hid (show Below B w w3 by rw [← hw3, ← hB]; exact (((Below.refl _ _).alloc (Nat.le_refl _) _).alloc (by simp) _).alloc (by simp; omega) _)
  have HWX := Lib.hid (show Whole w3 B 37 #[.int .i64 n, .slice (some ⟨b, o, none⟩) N cap] by rw [← hw3, ← hB]; exact ((Whole.made w _ _).alloc _).alloc _)
  have HWK := Lib.hid (show Whole w3 (B + 1) 26 #[.int .i64 7, .int .i64 f, .string t, .slice AS nS cS, .slice (some ⟨bp, op, none⟩) 2 cK] by rw [← hw3, ← hB]; exact (whole_made1 (by simp)).alloc _)
  have HWM := Lib.hid (show Whole w3 (B + 1 + 1) 48 #[.int .i64 u, .int .i64 fl, .string (sB tx)] by rw [← hw3, ← hB]; exact whole_made1 (by simp))
  have HMM := Lib.hid (HM.out.below HB3.out (Nat.le_of_eq hB))
  have HSS := Lib.hid (HSP.out.below HB3.out (Nat.le_of_eq hB))
  have HKK := Lib.hid (KVs.below HB3.out (Nat.le_of_eq hB) (some ⟨bp, op, none⟩) 0 _ HKS.out)
  have HW3 := Lib.hid hw3
  have HBB := Lib.hid hB
  clear hw3 hB
  have hpB : bp < B := by rw [← HBB.out]; exact hbp
  have hBw : B < w3.heap.size := HWX.out.lt
  have l0 : ∀ x : Later w3.heap.size w3, x.v.cell? ⟨B, 0, none⟩ = some (.int .i64 n) := fun x => x.cell hBw (HWX.out.cell 0)
  have l1 : ∀ x : Later w3.heap.size w3, x.v.cell? ⟨B, 1, none⟩ = some (.slice (some ⟨b, o, none⟩) N cap) := fun x => x.cell hBw (HWX.out.cell 1)
  have l2 : ∀ x : Later w3.heap.size w3, x.v.cell? ⟨B + 1, 4, none⟩ = some (.slice (some ⟨bp, op, none⟩) 2 cK) := fun x => x.cell HWK.out.lt (HWK.out.cell 4)
  have lp0 : ∀ x : Later w3.heap.size w3, x.v.cell? ⟨bp, op, none⟩ = some (.int .i64 p0) := fun x => x.cell (Nat.lt_trans hpB hBw) ((HB3.out.cell hpB).trans ep0)
  have lp1 : ∀ x : Later w3.heap.size w3, x.v.cell? ⟨bp, op + 1, none⟩ = some (.int .i64 p1) := fun x => x.cell (Nat.lt_trans hpB hBw) ((HB3.out.cell hpB).trans ep1)
  have lp2 : ∀ x : Later w3.heap.size w3, x.v.cell? ⟨bp, op + 2, none⟩ = some (.string p2) := fun x => x.cell (Nat.lt_trans hpB hBw) ((HB3.out.cell hpB).trans ep2)
  have lp3 : ∀ x : Later w3.heap.size w3, x.v.cell? ⟨bp, op + 3, none⟩ = some (.slice p3 p4 p5) := fun x => x.cell (Nat.lt_trans hpB hBw) ((HB3.out.cell hpB).trans ep3)
  have lp4 : ∀ x : Later w3.heap.size w3, x.v.cell? ⟨bp, op + 4, none⟩ = some (.slice p6 p7 p8) := fun x => x.cell (Nat.lt_trans hpB hBw) ((HB3.out.cell hpB).trans ep4)
  have lq0 : ∀ x : Later w3.heap.size w3, x.v.cell? ⟨bp, op + 5, none⟩ = some (.int .i64 q0) := fun x => x.cell (Nat.lt_trans hpB hBw) ((HB3.out.cell hpB).trans eq0)
  have lq1 : ∀ x : Later w3.heap.size w3, x.v.cell? ⟨bp, op + 5 + 1, none⟩ = some (.int .i64 q1) := fun x => x.cell (Nat.lt_trans hpB hBw) ((HB3.out.cell hpB).trans eq1)
  have lq2 : ∀ x : Later w3.heap.size w3, x.v.cell? ⟨bp, op + 5 + 2, none⟩ = some (.string q2) := fun x => x.cell (Nat.lt_trans hpB hBw) ((HB3.out.cell hpB).trans eq2)
  have lq3 : ∀ x : Later w3.heap.size w3, x.v.cell? ⟨bp, op + 5 + 3, none⟩ = some (.slice q3 q4 q5) := fun x => x.cell (Nat.lt_trans hpB hBw) ((HB3.out.cell hpB).trans eq3)
  have lq4 : ∀ x : Later w3.heap.size w3, x.v.cell? ⟨bp, op + 5 + 4, none⟩ = some (.slice q6 q7 q8) := fun x => x.cell (Nat.lt_trans hpB hBw) ((HB3.out.cell hpB).trans eq4)
  have HCp : Hid (∀ x : Later w3.heap.size w3, Calls Tryd.prog 54 #[.agg #[.int .i64 n, .slice (some ⟨b, o, none⟩) N cap], .agg #[.int .i64 p0, .int .i64 p1, .string p2, .slice p3 p4 p5, .slice p6 p7 p8], .int .i64 (i : Int)] x.v (SaysB x.v r)) := Lib.hid (fun x => by
    have h := HIH.out k (p0, p1, p2, (p3, p4, p5), (p6, p7, p8)) x.v hnz HA.out.1 (KV.below x.h (Nat.le_refl _) _ _ (KV.below HB3.out (Nat.le_of_eq HBB.out) _ _ HKVp.out)) (HMM.out.below x.h (Nat.le_refl _))
    rw [HR.out] at h
    exact h)
  have HCq : Hid (∀ x : Later w3.heap.size w3, Calls Tryd.prog 54 #[.agg #[.int .i64 n, .slice (some ⟨b, o, none⟩) N cap], .agg #[.int .i64 q0, .int .i64 q1, .string q2, .slice q3 q4 q5, .slice q6 q7 q8], .int .i64 (i : Int)] x.v (SaysB x.v s)) := Lib.hid (fun x => by
    have h := HIH.out k2 (q0, q1, q2, (q3, q4, q5), (q6, q7, q8)) x.v hnz2 HA.out.2 (KV.below x.h (Nat.le_refl _) _ _ (KV.below HB3.out (Nat.le_of_eq HBB.out) _ _ HKVq.out)) (HMM.out.below x.h (Nat.le_refl _))
    rw [HR2.out] at h
    exact h)
  clear ep0 ep1 ep2 ep3 ep4 eq0 eq1 eq2 eq3 eq4
  cases r with
  | true =>
    go_enter Tryd.func54, Tryd.ntmps54
    go_wp2
    rw [HW3.out, HBB.out]
    refine wp_region_later w3.heap.size w3 (by kernel_rfl) (by kernel_rfl) ?_
    repeat (go_big_quiet_step ((go_at_call 54; refine (HCp.out _).mono ?_; rintro e w2 ⟨rfl, hb2⟩; exact ⟨rfl, Later.call _ hb2 (Nat.le_refl _)⟩)))
    refine wpQuiet_nil ?_
    intro _ hw'
    obtain ⟨⟨w9, hb9⟩, rfl⟩ := hw'
    have HB9 := Lib.hid (HB3.out.trans (hb9.mono (by have := HWX.out.lt; omega)))
    clear hb9
    go_wp2
    go_ret
    exact ⟨ret_bool ((find_or HR.out HR2.out).trans (by simp)).symm, HBB.out.symm ▸ HB9.out⟩
  | false =>
    go_enter Tryd.func54, Tryd.ntmps54
    go_wp2
    rw [HW3.out, HBB.out]
    refine wp_region_later w3.heap.size w3 (by kernel_rfl) (by kernel_rfl) ?_
    iterate 7 (go_big_quiet_step ((go_at_call 54; refine (HCp.out _).mono ?_; rintro e w2 ⟨rfl, hb2⟩; exact ⟨rfl, Later.call _ hb2 (Nat.le_refl _)⟩)))
    repeat (go_big_quiet_step ((go_at_call 54; refine (HCq.out _).mono ?_; rintro e w2 ⟨rfl, hb2⟩; exact ⟨rfl, Later.call _ hb2 (Nat.le_refl _)⟩)))
    refine wpQuiet_nil ?_
    intro _ hw'
    obtain ⟨⟨w9, hb9⟩, rfl⟩ := hw'
    have HB9 := Lib.hid (HB3.out.trans (hb9.mono (by have := HWX.out.lt; omega)))
    clear hb9
    go_wp2
    go_ret
    exact ⟨ret_bool ((find_or HR.out HR2.out).trans (by simp)).symm, HBB.out.symm ▸ HB9.out⟩
theorem sfinds_zero {n : Int} {A : Option Addr} {N cap : Nat} {L : List ML} {m : ML} {i : Nat} : FindsS n A N cap L m i 0 := fun k q w hn => by
  have := nodesT_pos k
  omega
theorem sfinds_succ {n : Int} {A : Option Addr} {N cap : Nat} {L : List ML} {m : ML} {i z : Nat} (IH : FindsS n A N cap L m i z) (hb : bOk n L = true) (hi : L[i]? = some m) : FindsS n A N cap L m i (z + 1) := fun k r w hn ha hk hM => by
  obtain ⟨kd, f, t, S, ks⟩ := k
  obtain ⟨AS, nS, cS, AK, nK, cK, he, h2, h3, h4, h5, h6, h7⟩ := hk.open
  rw [he]
  have hsh := (all_node ha).2.2
  have hkd : kd = 0 ∨ kd = 1 ∨ kd = 2 ∨ kd = 3 ∨ kd = 4 ∨ kd = 5 ∨ kd = 6 ∨ kd = 7 := by
    rcases shape_yes hsh with ⟨h, _⟩ | ⟨h, _⟩ | ⟨h, _⟩ <;> omega
  rcases hkd with rfl | rfl | rfl | rfl | rfl | rfl | rfl | rfl
  · exact sfinds_all IH hb hi w hn ha hM h2 h3 h4 h5 h6 h7
  · exact sfinds_flag IH hb hi w hn ha hM h2 h3 h4 h5 h6 h7
  · exact sfinds_text IH hb hi w hn ha hM h2 h3 h4 h5 h6 h7
  · exact sfinds_place IH hb hi w hn ha hM h2 h3 h4 h5 h6 h7
  · exact sfinds_uid IH hb hi w hn ha hM h2 h3 h4 h5 h6 h7
  · exact sfinds_not IH hb hi w hn ha hM h2 h3 h4 h5 h6 h7
  · exact sfinds_and IH hb hi w hn ha hM h2 h3 h4 h5 h6 h7
  · exact sfinds_or IH hb hi w hn ha hM h2 h3 h4 h5 h6 h7
theorem spec_finds_n {n : Int} {A : Option Addr} {N cap : Nat} {L : List ML} {m : ML} {i : Nat} (hb : bOk n L = true) (hi : L[i]? = some m) : ∀ z : Nat, FindsS n A N cap L m i z
  | 0 => sfinds_zero
  | z + 1 => sfinds_succ (spec_finds_n hb hi z) hb hi
theorem spec_finds {n : Int} {A : Option Addr} {N cap : Nat} {L : List ML} {m : ML} {i : Nat} {k : KT} {r : KR} {o : Bool} (ho : findT L m i k = o) (w : World) (hb : bOk n L = true) (hi : L[i]? = some m) (ha : allT k = true) (hk : KV w k (kval r)) (hM : MIn w A N cap L) :
    Calls Tryd.prog 54 #[boxV n A N cap, kval r, .int .i64 (i : Int)] w (SaysB w o) := by
  subst ho
  exact spec_finds_n hb hi (nodesT k) k r w (Nat.le_refl _) ha hk hM
end Go.Proofs.YtpihibconbejlaaDoor
namespace Go.Proofs.YtpihibconbejlaaDoor
open Go.RowKit
set_option linter.unusedVariables false

theorem spec_boxv {n : Int} {A : Option Addr} {N cap : Nat} {L : List ML} {z : Bool} (hz : bOk n L = z) (w : World) (h : MIn w A N cap L) : Calls Tryd.prog 32 #[boxV n A N cap] w (SaysB w z) := by
  subst hz
  exact spec_boxvalid n A N cap L w h.1 h.2.2.1 h.2.1
set_option maxRecDepth 20000 in
set_option maxHeartbeats 8000000 in
theorem spec_search {n : Int} {A : Option Addr} {N cap : Nat} {L : List ML} {k : KT} {r : KR} {G : List Int} (hG : srT n L k = G) (w : World) (hM : MIn w A N cap L) (hk : KV w k (kval r)) (hnk : nodesT k ≤ 1000000) :
    Calls Tryd.prog 30 #[boxV n A N cap, kval r] w (GivesN w G) := by
  obtain ⟨j0, hj, hp0, hp1, hp2⟩ := info_parts Tryd.infoNum
  obtain ⟨a0, a1, a2, ⟨a3, a4, a5⟩, ⟨a6, a7, a8⟩⟩ := r
  have HM := Lib.hid hM
  have HK := Lib.hid hk
  have HG := Lib.hid hG
  have HNK := Lib.hid hnk
  have hN := hM.2.1
  obtain ⟨B, hB⟩ : ∃ B, w.heap.size = B := ⟨_, rfl⟩
  obtain ⟨w2, hw2⟩ : ∃ w2, (((w.alloc (.cells #[.int .i64 n, .slice A N cap] 37)).alloc (.cells #[.int .i64 a0, .int .i64 a1, .string a2, .slice a3 a4 a5, .slice a6 a7 a8] 26)).alloc (.cells #[] 3)) = w2 := ⟨_, rfl⟩
  have HB2 := Lib.hid (show Below B w w2 by rw [← hw2, ← hB]; exact (((Below.refl _ _).alloc (Nat.le_refl _) _).alloc (by simp) _).alloc (by simp; omega) _)
  have HWX2 := Lib.hid (show Whole w2 B 37 #[.int .i64 n, .slice A N cap] by rw [← hw2, ← hB]; exact ((Whole.made w _ _).alloc _).alloc _)
  have HWK2 := Lib.hid (show Whole w2 (B + 1) 26 #[.int .i64 a0, .int .i64 a1, .string a2, .slice a3 a4 a5, .slice a6 a7 a8] by rw [← hw2, ← hB]; exact (whole_made1 (by simp)).alloc _)
  have hsz2 : B + 1 + 1 < w2.heap.size := by rw [← hw2, ← hB]; simp
  have HSZ := Lib.hid hsz2
  have HON : Hid (ROwn intR w2 (B + 1 + 1) (.slice (some ⟨B + 1 + 1, 0, none⟩) 0 0) []) := Lib.hid (by rw [← hw2, ← hB]; exact ROwn.lit _ _ (by simp) (by simp))
  have HW2 := Lib.hid hw2
  have HBB := Lib.hid hB
  clear hM hk hG hnk hB hw2 hsz2
  go_enter Tryd.func30, Tryd.ntmps30
  go_wp2
  rw [HW2.out, HBB.out]
  go_loopw [5, 6] (fun v iv wr => ∃ (i P : Nat) (AP : Option Addr) (cP : Nat), i ≤ N ∧ P ≤ i ∧ v = .slice AP P cP ∧ iv = .int .i64 (i : Int) ∧ Hid (ROwn intR wr (B + 1 + 1) (.slice AP P cP) (plT L k i)) ∧ Hid (Below (B + 1 + 1) w2 wr) ∧ Hid (i = 0 ∨ (keyB k = true ∧ bOk n L = true))) (fun _ iv _ => N - (intOf iv).toNat)
  case atStart => exact ⟨0, 0, _, 0, Nat.zero_le _, Nat.le_refl _, rfl, by go_num, HON, Below.refl _ _, .inl rfl⟩
  case round =>
    obtain ⟨i, P, AP, cP, hi, hPi, rfl, rfl, HO, HBr, HV⟩ := hrel
    have hBw : Below B w wr := HB2.out.trans (HBr.out.mono (by omega))
    have HBw := Lib.hid hBw
    have HWXr := Lib.hid (HWX2.out.below HBr.out (by omega))
    have HWKr := Lib.hid (HWK2.out.below HBr.out (by omega))
    have HMr := Lib.hid (HM.out.below hBw (Nat.le_of_eq HBB.out))
    have HKr := Lib.hid (KV.below hBw (Nat.le_of_eq HBB.out) _ _ HK.out)
    have y0 : wr.cell? ⟨B, 0, none⟩ = some (.int .i64 n) := HWXr.out.cell 0
    have y1 : wr.cell? ⟨B, 1, none⟩ = some (.slice A N cap) := HWXr.out.cell 1
    have HSr : Hid (B + 1 + 1 < wr.heap.size) := Lib.hid (Nat.lt_of_lt_of_le HSZ.out HBr.out.size)
    clear hBw
    by_cases hlt : i < N
    · have i0 : (0 : Int) ≤ (i : Int) := by omega
      have i1 : (i : Int) < (N : Int) := by omega
      obtain ⟨z, hz⟩ : ∃ z, bOk n L = z := ⟨_, rfl⟩
      have HZ := Lib.hid hz
      have HBV := Lib.hid (spec_boxv hz wr HMr.out)
      clear hz
      go_wp2_with fail
      refine HBV.out.mono ?_
      rintro e w4 ⟨rfl, hb4⟩
      have HB4 := Lib.hid (HBr.out.trans (hb4.mono (Nat.le_of_lt HSr.out)))
      have HO4 := Lib.hid (HO.out.kept hb4)
      have HWX4 := Lib.hid (HWXr.out.below hb4 HWXr.out.lt)
      have HWK4 := Lib.hid (HWKr.out.below hb4 HWKr.out.lt)
      have HM4 := Lib.hid (HMr.out.below hb4 (Nat.le_refl _))
      have HK4 := Lib.hid (KV.below hb4 (Nat.le_refl _) _ _ HKr.out)
      have HS4 : Hid (B + 1 + 1 < w4.heap.size) := Lib.hid (Nat.lt_of_lt_of_le HSr.out hb4.size)
      clear hb4 y0 y1
      cases z with
      | false =>
        have HE : Hid (plT L k i = G) := Lib.hid (by
          rw [← HG.out, srT_nobox HZ.out]
          rcases HV.out with h | h
          · subst h; rfl
          · have h2 := h.2; rw [HZ.out] at h2; cases h2)
        have HBe : Hid (Below B w w4) := Lib.hid (HB2.out.trans (HB4.out.mono (by omega)))
        go_wp2
        go_ret
        exact gives_n HO4.out (by have := HBB.out; omega) HE.out (HBB.out.symm ▸ HBe.out)
      | true =>
        obtain ⟨y, hy⟩ : ∃ y, keyB k = y := ⟨_, rfl⟩
        have HY := Lib.hid hy
        have HKV := Lib.hid (spec_key (w := w4) HK4.out (Nat.le_trans HNK.out (by omega)) hy)
        have x0 : w4.cell? ⟨B + 1, 0, none⟩ = some (.int .i64 a0) := HWK4.out.cell 0
        have x1 : w4.cell? ⟨B + 1, 1, none⟩ = some (.int .i64 a1) := HWK4.out.cell 1
        have x2 : w4.cell? ⟨B + 1, 2, none⟩ = some (.string a2) := HWK4.out.cell 2
        have x3 : w4.cell? ⟨B + 1, 3, none⟩ = some (.slice a3 a4 a5) := HWK4.out.cell 3
        have x4 : w4.cell? ⟨B + 1, 4, none⟩ = some (.slice a6 a7 a8) := HWK4.out.cell 4
        clear hy
        go_wp2_with fail
        refine HKV.out.mono ?_
        rintro e w5 ⟨rfl, hb5⟩
        have HB5 := Lib.hid (HB4.out.trans (hb5.mono (Nat.le_of_lt HS4.out)))
        have HO5 := Lib.hid (HO4.out.kept hb5)
        have HWX5 := Lib.hid (HWX4.out.below hb5 HWX4.out.lt)
        have HWK5 := Lib.hid (HWK4.out.below hb5 HWK4.out.lt)
        have HM5 := Lib.hid (HM4.out.below hb5 (Nat.le_refl _))
        have HK5 := Lib.hid (KV.below hb5 (Nat.le_refl _) _ _ HK4.out)
        have HS5 : Hid (B + 1 + 1 < w5.heap.size) := Lib.hid (Nat.lt_of_lt_of_le HS4.out hb5.size)
        clear hb5 x0 x1 x2 x3 x4
        cases y with
        | false =>
          have HE : Hid (plT L k i = G) := Lib.hid (by
            rw [← HG.out, srT_nokey HY.out]
            rcases HV.out with h | h
            · subst h; rfl
            · have h2 := h.1; rw [HY.out] at h2; cases h2)
          have HBe : Hid (Below B w w5) := Lib.hid (HB2.out.trans (HB5.out.mono (by omega)))
          go_wp2
          go_ret
          exact gives_n HO5.out (by have := HBB.out; omega) HE.out (HBB.out.symm ▸ HBe.out)
        | true =>
          have hN10 : N ≤ 10 := by rw [← HM5.out.1]; exact (bOk_iff.1 HZ.out).2.2.2.2
          obtain ⟨m, hm⟩ : ∃ m, L[i]? = some m := ⟨_, List.getElem?_eq_getElem (by rw [HM5.out.1]; exact hlt)⟩
          have HMI := Lib.hid hm
          obtain ⟨g, hg⟩ : ∃ g, findT L m i k = g := ⟨_, rfl⟩
          have HGG := Lib.hid hg
          have HF := Lib.hid (spec_finds hg w5 HZ.out hm (key_all HY.out) HK5.out HM5.out)
          have y0 : w5.cell? ⟨B, 0, none⟩ = some (.int .i64 n) := HWX5.out.cell 0
          have y1 : w5.cell? ⟨B, 1, none⟩ = some (.slice A N cap) := HWX5.out.cell 1
          have x0 : w5.cell? ⟨B + 1, 0, none⟩ = some (.int .i64 a0) := HWK5.out.cell 0
          have x1 : w5.cell? ⟨B + 1, 1, none⟩ = some (.int .i64 a1) := HWK5.out.cell 1
          have x2 : w5.cell? ⟨B + 1, 2, none⟩ = some (.string a2) := HWK5.out.cell 2
          have x3 : w5.cell? ⟨B + 1, 3, none⟩ = some (.slice a3 a4 a5) := HWK5.out.cell 3
          have x4 : w5.cell? ⟨B + 1, 4, none⟩ = some (.slice a6 a7 a8) := HWK5.out.cell 4
          clear hm hg
          go_wp2_with fail
          refine HF.out.mono ?_
          rintro e w6 ⟨rfl, hb6⟩
          have HB6 := Lib.hid (HB5.out.trans (hb6.mono (Nat.le_of_lt HS5.out)))
          have HO6 := Lib.hid (HO5.out.kept hb6)
          have HS6 : Hid (B + 1 + 1 < w6.heap.size) := Lib.hid (Nat.lt_of_lt_of_le HS5.out hb6.size)
          have HV2 : Hid (i + 1 = 0 ∨ (keyB k = true ∧ bOk n L = true)) := Lib.hid (.inr ⟨HY.out, HZ.out⟩)
          clear hb6 y0 y1 x0 x1 x2 x3 x4
          cases g with
          | false =>
            have HP2 : Hid (ROwn intR w6 (B + 1 + 1) (.slice AP P cP) (plT L k (i + 1))) := Lib.hid (by rw [plT_no HMI.out HGG.out]; exact HO6.out)
            go_wp2
            go_roundw
            case rel => exact ⟨i + 1, P, AP, cP, by omega, by omega, rfl, by go_num, HP2, HB6, HV2⟩
            case measure => simp [intOf]; omega
          | true =>
            have W1 : IntKind.i64.wrap ((i : Int) + 1) = (i : Int) + 1 := IntWalk.i64_in _ (by omega)
            have hml : P + 1 ≤ maxLen := by unfold maxLen; omega
            have hby : (P + 1) * 8 ≤ 140737488355328 := by omega
            have HPL := Lib.hid HO6.out.len.1.symm
            have hown6 := HO6.out.alloc (.cells #[.int .i64 ((i : Int) + 1)] 3)
            have hnew6 := RAt.made intR w6 [(i : Int) + 1] w6.heap.size rfl
            have hDs : B + 1 + 1 ≤ (w6.alloc (.cells #[.int .i64 ((i : Int) + 1)] 3)).heap.size := by have := HS6.out; simp; omega
            go_wp2_with (at_builtin; refine wpList_append_rows rfl (.tmp 27) (.tmp 30) 40 rfl intR (B + 1 + 1) j0 _ 8 Tryd.underlying40 hj hp0 hp1 hp2 rfl (by decide) _ (plT L k i) [(i : Int) + 1] P HPL.out rfl hown6 (some ⟨w6.heap.size, 0, none⟩) 1 1 rfl rfl hnew6 (fun e => by cases e) (fun q e => by cases e; rfl) hml hby hDs ?_)
            intro v' w7 ho hgr _
            obtain ⟨A7, N7, cap7, rfl⟩ := ho.val
            have hN7 : N7 = P + 1 := by have h1 := ho.len.1; rw [List.length_append, List.length_singleton, HPL.out] at h1; exact h1
            subst hN7
            have HB7 := Lib.hid ((HB6.out.alloc (Nat.le_of_lt HS6.out) (.cells #[.int .i64 ((i : Int) + 1)] 3)).grown hgr hDs (fun z hz => (World.ownsRow.lt HO6.out z hz).1))
            have HP2 : Hid (ROwn intR w7 (B + 1 + 1) (.slice A7 (P + 1) cap7) (plT L k (i + 1))) := Lib.hid (by rw [plT_yes HMI.out HGG.out]; exact ho)
            clear ho hgr hown6 hnew6 hDs
            go_wp2
            go_roundw
            case rel => exact ⟨i + 1, P + 1, A7, cap7, by omega, by omega, rfl, by go_num, HP2, HB7, HV2⟩
            case measure => simp [intOf]; omega
    · have i1 : ¬ (i : Int) < (N : Int) := by omega
      have HE : Hid (plT L k i = G) := Lib.hid (by
        rw [← HG.out]
        have hiN : i = L.length := by rw [HMr.out.1]; omega
        rcases HV.out with h | h
        · have h0 : L.length = 0 := by omega
          unfold srT
          rw [h0, h]
          split <;> rfl
        · rw [srT_yes h.1 h.2, hiN])
      go_wp2
      go_ret
      exact gives_n HO.out (by have := HBB.out; omega) HE.out (HBB.out.symm ▸ HBw.out)
end Go.Proofs.YtpihibconbejlaaDoor
namespace Go.Proofs.YtpihibconbejlaaDoor
open Go.RowKit
set_option linter.unusedVariables false

theorem kbit_at {k q : Nat} (hk : k < 5) (hq : 2 ^ k = q) : (#[Value.int .i64 1, .int .i64 2, .int .i64 4, .int .i64 8, .int .i64 16] : Array Value)[k]? = some (.int .i64 (q : Int)) := by
  subst hq
  match k, hk with
  | 0, _ => rfl
  | 1, _ => rfl
  | 2, _ => rfl
  | 3, _ => rfl
  | 4, _ => rfl
set_option maxHeartbeats 400000 in
theorem kspec_bit (k : Nat) (w : World) (hk : k < 5) : Calls Tryd.prog 71 #[.int .i64 (k : Int)] w fun e w' => ∃ q : Int, e = .returned (.int .i64 q) ∧ Below w.heap.size w w' := by
  obtain ⟨q, hq⟩ : ∃ q, 2 ^ k = q := ⟨_, rfl⟩
  have hb := kbit_at hk hq
  have hc : (w.alloc (.cells #[.int .i64 1, .int .i64 2, .int .i64 4, .int .i64 8, .int .i64 16] 3)).cell? ⟨w.heap.size, k, none⟩ = some (.int .i64 (q : Int)) := (Whole.made w 3 #[.int .i64 1, .int .i64 2, .int .i64 4, .int .i64 8, .int .i64 16]).cell k |>.trans hb
  have HB := Lib.hid ((Below.refl w.heap.size w).alloc (Nat.le_refl _) (.cells #[.int .i64 1, .int .i64 2, .int .i64 4, .int .i64 8, .int .i64 16] 3))
  have h0 : (0 : Int) ≤ (k : Int) := by omega
  have h5 : (k : Int) < 5 := by omega
  clear hb hq
  go_enter Tryd.func71, Tryd.ntmps71
  go_wp2_with fail
  go_ret
  exact ⟨_, rfl, HB.out⟩

def cD : Nat → Nat
  | 0 => 60
  | d + 1 => 2 * cD d + 60
def mD : Nat → Nat
  | 0 => 1
  | d + 1 => 2 * mD d + 1
theorem cD_pos (d : Nat) : 60 ≤ cD d := by cases d <;> simp [cD]
theorem mD_pos (d : Nat) : 1 ≤ mD d := by cases d <;> simp [mD]
/-- What an append asks of a row's slice of keys. -/
def Nice (r : KR) : Prop := (r.2.2.2.2.1 = none → r.2.2.2.2.2.2 = 0) ∧ ∀ q, r.2.2.2.2.1 = some q → q.spot = none
/-- A drawn key. -/
def DrewK (w : World) (b p d : Nat) (e : Ending) (w' : World) : Prop := ∃ (k : KT) (r : KR) (q : Nat), e = .returned (kval r) ∧ KA w.heap.size w'.heap.size w' k (kval r) ∧ Nice r ∧ nodesT k ≤ mD d ∧ q ≤ p + cD d ∧ Rd w' b q ∧ w.grownBy w' (some b)
/-- A whole key stored. -/
abbrev st5 (w : World) (S : Nat) (a0 a1 a2 a3 a4 : Value) : World := ((((w.setCell ⟨S, 0, none⟩ a0).setCell ⟨S, 1, none⟩ a1).setCell ⟨S, 2, none⟩ a2).setCell ⟨S, 3, none⟩ a3).setCell ⟨S, 4, none⟩ a4
theorem gr_one {a w : World} {g : Nat} (h : a.grownBy w (some g)) (i : Nat) (u : Value) : a.grownBy (w.setCell ⟨g, i, none⟩ u) (some g) := gr_store h (.inl rfl) u
theorem gr_st5 (w : World) (S : Nat) (a0 a1 a2 a3 a4 : Value) : w.grownBy (st5 w S a0 a1 a2 a3 a4) (some S) := gr_one (gr_one (gr_one (gr_one (gr_one (gr_refl _ _) _ _) _ _) _ _) _ _) _ _
theorem gr_row1 {a w w' : World} {b : Nat} {row : Option Nat} (h : a.grownBy w (some b)) (hg : w.grownBy w' row) (hr : ∀ g, row = some g → a.heap.size ≤ g) : a.grownBy w' (some b) :=
  ⟨hg.os.trans h.os, hg.tape.trans h.tape, hg.output.trans h.output, Nat.le_trans h.size hg.size, fun i hi hn => (hg.block i (Nat.lt_of_lt_of_le hi h.size) (fun e => by have := hr i e.symm; omega)).trans (h.block i hi hn)⟩
theorem drewk_end {w w2 : World} {b p d S q : Nat} {k : KT} {r : KR} {a0 a1 a2 a3 a4 : Value} (hS : w.heap.size = S) (hb : b < S) (hk : KA (S + 1) w2.heap.size w2 k (kval r)) (hn : nodesT k ≤ mD d) (hq : q ≤ p + cD d) (hr : Rd w2 b q) (hg : w.grownBy w2 (some b)) (hni : Nice r) :
    DrewK w b p d (.returned (kval r)) (st5 w2 S a0 a1 a2 a3 a4) := by
  have h5 := gr_st5 w2 S a0 a1 a2 a3 a4
  refine ⟨k, r, q, rfl, ?_, hni, hn, hq, hr.grown h5 hb, gr_row1 hg h5 (fun g e => by cases e; omega)⟩
  exact (hk.grown h5 (fun g e => by cases e; omega)).widen (by omega) h5.size
theorem ka_leaf {lo hi : Nat} {w : World} {kd f : Int} {t : ByteArray} {S : List (Int × Int)} {A : Option Addr} {n c : Nat} (ht : t.size ≤ 16777216) (hS : S.length = n) (hn : n ≤ 33554432) (hs : SpA (low lo hi w) A S) : KA lo hi w (.mk kd f t S []) (kval (kd, f, t, (A, n, c), (none, 0, 0))) := by
  unfold KA
  rw [KV]
  exact ⟨A, n, c, none, 0, 0, rfl, hS, hn, ht, hs, rfl, by rw [KVs]; trivial⟩
theorem nodes_leaf (kd f : Int) (t : ByteArray) (S : List (Int × Int)) (d : Nat) : nodesT (.mk kd f t S []) ≤ mD d := by
  have := mD_pos d
  rw [nodesT, nodesL]
  exact this
theorem spa_own1 {w : World} {S B n cap : Nat} {A : Option Addr} {L : List (Int × Int)} (ho : Own w B (.slice A n cap) L) (hB : S ≤ B) : SpA (low S w.heap.size w) A L ∧ L.length = n := by
  obtain ⟨A2, c2, he, -, -, hs⟩ := ho.form
  simp at he
  exact ⟨spa_own ho hB, he.2.1.symm⟩
theorem own_slice {w : World} {B : Nat} {v : Value} {L : List (Int × Int)} (ho : Own w B v L) : ∃ A n c, v = .slice A n c := by
  obtain ⟨A2, c2, he, -, -, hs⟩ := ho.form
  exact ⟨_, _, _, he⟩

theorem ka_node {w : World} {S B h n cap : Nat} {A : Option Addr} {ks : List KT} {rs : List KR} {kk : Int} (ho : ROwn keyR w B (.slice A n cap) rs) (hB : S + 1 ≤ B) {lo : Nat} (hk : KRs (KA lo h w) ks rs) (hlo : S + 1 ≤ lo) (hh : h ≤ w.heap.size) :
    KA (S + 1) w.heap.size w (.mk kk 0 ⟨#[]⟩ [] ks) (kval (kk, 0, ⟨#[]⟩, (none, 0, 0), (A, n, cap))) := by
  unfold KA
  rw [KV]
  have hl : ks.length = n := by rw [hk.len]; exact ho.len.1.symm
  exact ⟨none, 0, 0, A, n, cap, rfl, rfl, by omega, by decide, SpA.nil _ _, hl, kvs_own ho hB (KRs.imp (fun k v h => KA.widen h hlo (Nat.le_refl _)) hk) hh⟩
theorem own_base {wr w6 : World} {base b i cap D : Nat} {A : Option Addr} {rs : List KR} (ho : ROwn keyR wr base (.slice A i cap) rs) (h0 : i = 0 → A = none ∧ cap = 0) (hg : wr.drew.grownBy w6 (some b)) (hb : b < base) (hD : D + 1 ≤ base) (hDw : D + 1 ≤ wr.heap.size) :
    ∃ base2, ROwn keyR w6 base2 (.slice A i cap) rs ∧ D + 1 ≤ base2 ∧ base2 ≤ w6.heap.size ∧ (i = 0 → base2 = w6.heap.size) := by
  have hsz : wr.heap.size ≤ w6.heap.size := hg.size
  by_cases hi : i = 0
  · subst hi
    obtain ⟨rfl, rfl⟩ := h0 rfl
    have : rs = [] := List.eq_nil_of_length_eq_zero ho.len.1.symm
    subst this
    exact ⟨w6.heap.size, ROwn.nil _ _, by omega, Nat.le_refl _, fun _ => rfl⟩
  · have ho2 : ROwn keyR wr.drew base (.slice A i cap) rs := ho.drewN 1
    refine ⟨min base w6.heap.size, (ho2.grown hg hb).from (Nat.min_le_left _ _), by omega, Nat.min_le_right _ _, fun e => absurd e hi⟩
/-- What one more drawn key leaves. -/
theorem loop_rel {w wr w6 w7 : World} {S D b p q q6 e i NN base base2 h cap a4 a5 a7 a8 cap7 : Nat} {A A7 a3 a6 : Option Addr} {kd a0 a1 : Int} {a2 : ByteArray} {k6 : KT} {ks : List KT} {rs : List KR}
    (hSD : S + 1 ≤ D) (hbS : b < S) (hSS : w.heap.size = S) (hin : i ≤ NN) (hlt : i < NN) (hN : NN ≤ 2) (hq : q ≤ p + 3 + i * cD e) (hba : D + 1 ≤ base) (hDh : D + 1 ≤ h) (hhw : h ≤ wr.heap.size)
    (hOB : i < 2 → ∀ g, Value.ownBlock (.slice A i cap) = some g → h ≤ g) (hR6 : Rd w6 b q6) (hG : w.grownBy wr (some b))
    (hZ : Whole wr S 26 #[.int .i64 0, .int .i64 0, .string ⟨#[]⟩, .slice none 0 0, .slice none 0 0])
    (hX : Whole wr D 26 #[.int .i64 kd, .int .i64 0, .string ⟨#[]⟩, .slice none 0 0, .slice A i cap])
    (hO : ROwn keyR wr base (.slice A i cap) rs) (hK : KRs (KA (D + 1) h wr) ks rs) (hNL : nodesL ks ≤ i * mD e)
    (hGR6 : wr.drew.grownBy w6 (some b)) (hK6 : KA wr.drew.heap.size w6.heap.size w6 k6 (kval (a0, a1, a2, (a3, a4, a5), (a6, a7, a8)))) (hN6 : nodesT k6 ≤ mD e) (hq6 : q6 ≤ q + cD e)
    (hO6 : ROwn keyR w6 base2 (.slice A i cap) rs) (hb61 : D + 1 ≤ base2) (hb62 : base2 ≤ w6.heap.size) (hb63 : i = 0 → base2 = w6.heap.size)
    (hGW : (w6.alloc (.cells #[.int .i64 a0, .int .i64 a1, .string a2, .slice a3 a4 a5, .slice a6 a7 a8] 26)).grownBy w7 (Value.ownBlock (.slice A i cap)))
    (hX7 : Whole w7 D 26 #[.int .i64 kd, .int .i64 0, .string ⟨#[]⟩, .slice none 0 0, .slice A i cap])
    (hOW : ROwn keyR w7 base2 (.slice A7 (i + 1) cap7) (rs ++ [(a0, a1, a2, (a3, a4, a5), (a6, a7, a8))])) (hLN : rs.length = i) :
    ∃ (i' q' : Nat) (A' : Option Addr) (cap' base' h' : Nat) (ks' : List KT) (rs' : List KR), i' ≤ NN ∧ (Value.int .i64 ((i : Int) + 1)) = .int .i64 (i' : Int) ∧ q' ≤ p + 3 + i' * cD e ∧ D + 1 ≤ base' ∧ D + 1 ≤ h' ∧ h' ≤ (w7.setCell ⟨D, 4, none⟩ (.slice A7 (i + 1) cap7)).heap.size ∧ Hid (i' = 0 → A' = none ∧ cap' = 0) ∧ Hid (i' < 2 → ∀ g, Value.ownBlock (.slice A' i' cap') = some g → h' ≤ g) ∧ Hid (Rd (w7.setCell ⟨D, 4, none⟩ (.slice A7 (i + 1) cap7)) b q') ∧ Hid (w.grownBy (w7.setCell ⟨D, 4, none⟩ (.slice A7 (i + 1) cap7)) (some b)) ∧ Hid (Whole (w7.setCell ⟨D, 4, none⟩ (.slice A7 (i + 1) cap7)) S 26 #[.int .i64 0, .int .i64 0, .string ⟨#[]⟩, .slice none 0 0, .slice none 0 0]) ∧ Hid (Whole (w7.setCell ⟨D, 4, none⟩ (.slice A7 (i + 1) cap7)) D 26 #[.int .i64 kd, .int .i64 0, .string ⟨#[]⟩, .slice none 0 0, .slice A' i' cap']) ∧ Hid (ROwn keyR (w7.setCell ⟨D, 4, none⟩ (.slice A7 (i + 1) cap7)) base' (.slice A' i' cap') rs') ∧ Hid (KRs (KA (D + 1) h' (w7.setCell ⟨D, 4, none⟩ (.slice A7 (i + 1) cap7))) ks' rs') ∧ Hid (nodesL ks' ≤ i' * mD e) := by
  have hrow : ∀ g, Value.ownBlock (.slice A i cap) = some g → base2 ≤ g ∧ g < w6.heap.size := fun g hg => World.ownsRow.lt hO6 g hg
  have hrow0 : ∀ g, Value.ownBlock (.slice A i cap) = some g → base ≤ g ∧ g < wr.heap.size := fun g hg => World.ownsRow.lt hO g hg
  have hrow7 : ∀ g, Value.ownBlock (.slice A7 (i + 1) cap7) = some g → base2 ≤ g ∧ g < w7.heap.size := fun g hg => World.ownsRow.lt hOW g hg
  have hz6 : wr.heap.size ≤ w6.heap.size := hGR6.size
  have hz7 : w6.heap.size + 1 ≤ w7.heap.size := by have := hGW.size; simpa using this
  have hXl := hX.lt
  have g1 : w.grownBy w6 (some b) := gr_trans (gr_drew hG) hGR6
  have g2 : w.grownBy w7 (some b) := gr_row1 (gr_alloc g1 _) hGW (fun g hg => by have := hrow g hg; omega)
  have s7 : w7.grownBy (w7.setCell ⟨D, 4, none⟩ (.slice A7 (i + 1) cap7)) (some D) := gr_one (gr_refl _ _) _ _
  have al : w6.grownBy (w6.alloc (.cells #[.int .i64 a0, .int .i64 a1, .string a2, .slice a3 a4 a5, .slice a6 a7 a8] 26)) none := gr_alloc (gr_refl _ _) _
  have hm : (i + 1) * cD e = i * cD e + cD e := Nat.succ_mul _ _
  refine ⟨i + 1, q6, A7, cap7, base2, w6.heap.size, ks ++ [k6], rs ++ [(a0, a1, a2, (a3, a4, a5), (a6, a7, a8))], by omega, by simp, by omega, hb61, by omega, by simp [World.setCell]; omega, fun e => by omega, fun hi g hg => ?_, ?_, ?_, ?_, ?_, ?_, ?_, ?_⟩
  · have := hrow7 g hg
    have := hb63 (by omega)
    omega
  · exact (((hR6.keptRow al (fun g e => by cases e)).keptRow hGW (fun g e => by have := hrow g e; omega)).keptRow s7 (fun g e => by cases e; omega))
  · exact gr_row1 g2 s7 (fun g e => by cases e; omega)
  · exact ((((hZ.drew.grown hGR6 (fun e => by cases e; omega)).alloc _).grown hGW (fun e => by have := hrow S e.symm; omega)).apart (by show S ≠ D; omega) _)
  · exact hX7.store 4 _
  · exact hOW.store (fun e => by have := hrow7 D e; omega) _
  · refine KRs.push (KRs.imp (fun k v hk => ?_) hK) ?_
    · have hk1 : KA (D + 1) h wr.drew k v := KA.grown hk (gr_drew (gr_refl wr none)) (fun g e => by cases e)
      exact ((((hk1.grown hGR6 (fun g e => by cases e; omega)).grown al (fun g e => by cases e)).grown hGW (fun g e => .inr (hOB (by omega) g e))).grown s7 (fun g e => by cases e; omega)).widen (Nat.le_refl _) (by omega)
    · have hD2 : D + 1 ≤ wr.drew.heap.size := hXl
      exact ((((hK6.grown al (fun g e => by cases e)).grown hGW (fun g e => .inl (hrow0 g e).2)).grown s7 (fun g e => by cases e; exact .inl hD2))).widen hD2 (Nat.le_refl _)
  · rw [nodesL_app]
    show nodesL ks + (nodesT k6 + 0) ≤ _
    have : nodesL ks + nodesT k6 ≤ i * mD e + mD e := Nat.add_le_add hNL hN6
    show _ ≤ (i + 1) * mD e
    rw [Nat.add_mul, Nat.one_mul]
    omega
end Go.Proofs.YtpihibconbejlaaDoor
namespace Go.Proofs.YtpihibconbejlaaDoor
open Go.RowKit
set_option linter.unusedVariables false

/-- The drawer of a key, at its depth. -/
def KD3 : Prop := ∀ (b p : Nat) (w : World), Rd w b p → p ≤ 400000 → Calls Tryd.prog 68 #[.pointer (some ⟨b, 0, none⟩), .int .i64 3] w (DrewK w b p 3)
/-- A drawn key, perhaps an odd one. -/
def DrewO (w : World) (b p : Nat) (e : Ending) (w' : World) : Prop := ∃ (k : KT) (r : KR) (q : Nat), e = .returned (kval r) ∧ KA w.heap.size w'.heap.size w' k (kval r) ∧ Nice r ∧ nodesT k ≤ 16 ∧ q ≤ p + 1000 ∧ Rd w' b q ∧ w.grownBy w' (some b)
theorem drewo_end {w w2 : World} {b p S q lo hi : Nat} {k : KT} {r : KR} {a0 a1 a2 a3 a4 : Value} (hS : w.heap.size = S) (hb : b < S) (hk : KA lo hi w2 k (kval r)) (hlo : S + 1 ≤ lo) (hhi : hi ≤ w2.heap.size) (hn : nodesT k ≤ 16) (hq : q ≤ p + 1000) (hr : Rd w2 b q) (hg : w.grownBy w2 (some b)) (hni : Nice r) :
    DrewO w b p (.returned (kval r)) (st5 w2 S a0 a1 a2 a3 a4) := by
  have h5 := gr_st5 w2 S a0 a1 a2 a3 a4
  refine ⟨k, r, q, rfl, ?_, hni, hn, hq, hr.grown h5 hb, gr_row1 hg h5 (fun g e => by cases e; omega)⟩
  exact (hk.grown h5 (fun g e => by cases e; omega)).widen (by omega) (Nat.le_trans hhi h5.size)
theorem ka_row {lo hi : Nat} {w : World} {k : KT} {a0 a1 : Int} {a2 : ByteArray} {s a : Option Addr × Nat × Nat} (h : KA lo hi w k (kval (a0, a1, a2, s, a))) : ∃ S ks, k = .mk a0 a1 a2 S ks := by
  obtain ⟨kd, f, t, S, ks⟩ := k
  unfold KA at h
  obtain ⟨AS, nS, cS, AK, nK, cK, he, -⟩ := h.open
  simp at he
  obtain ⟨rfl, rfl, rfl, -, -⟩ := he
  exact ⟨S, ks, rfl⟩
theorem ka_set {lo hi : Nat} {w : World} {a0 a1 : Int} {a2 : ByteArray} {s a : Option Addr × Nat × Nat} {S : List (Int × Int)} {ks : List KT} (h : KA lo hi w (.mk a0 a1 a2 S ks) (kval (a0, a1, a2, s, a))) (b0 b1 : Int) (b2 : ByteArray) (hb : b2.size ≤ 16777216) : KA lo hi w (.mk b0 b1 b2 S ks) (kval (b0, b1, b2, s, a)) := by
  unfold KA at h ⊢
  rw [KV] at h ⊢
  obtain ⟨AS, nS, cS, AK, nK, cK, he, h2, h3, h4, h5, h6, h7⟩ := h
  refine ⟨AS, nS, cS, AK, nK, cK, ?_, h2, h3, hb, h5, h6, h7⟩
  simp at he ⊢
  exact he
theorem RAt.mono {α : Type} {R : RowT α} {w w' : World} {A : Option Addr} {L : List α} (hz : w.heap.size ≤ w'.heap.size) (hc : ∀ p u, w.cell? p = some u → w'.cell? p = some u) (h : RAt R w A L) : RAt R w' A L := fun i x hx => by
  obtain ⟨b, o, hA, hb, h1⟩ := h i x hx
  exact ⟨b, o, hA, by omega, fun j u hu => hc _ _ (h1 j u hu)⟩
/-- A key's parts, as rows. -/
theorem ka_parts {lo hi : Nat} {w : World} {a0 a1 : Int} {a2 : ByteArray} {a3 : Option Addr} {a4 a5 : Nat} {a6 : Option Addr} {a7 a8 : Nat} {S : List (Int × Int)} {ks : List KT} (h : KA lo hi w (.mk a0 a1 a2 S ks) (kval (a0, a1, a2, (a3, a4, a5), (a6, a7, a8)))) :
    ∃ rs, KRs (KA lo hi w) ks rs ∧ RAt keyR w a6 rs ∧ rs.length = a7 ∧ SpA (low lo hi w) a3 S ∧ S.length = a4 ∧ a4 ≤ 33554432 ∧ a2.size ≤ 16777216 := by
  unfold KA at h
  obtain ⟨AS, nS, cS, AK, nK, cK, he, h2, h3, h4, h5, h6, h7⟩ := h.open
  simp at he
  obtain ⟨⟨rfl, rfl, rfl⟩, rfl, rfl, rfl⟩ := he
  obtain ⟨rs, h8, h9⟩ := kvs_at h7
  exact ⟨rs, h8, h9.mono (Nat.le_of_eq (low_size _ _ _)) (fun p u hp => (low_out hp).2.2.2), by rw [← h8.len]; exact h6, h5, h2, h3, h4⟩
theorem SpA.lowered {lo hi lo' hi' : Nat} {w w' : World} {row : Option Nat} {A : Option Addr} {L : List (Int × Int)} (h : SpA (low lo hi w) A L) (hg : w.grownBy w' row) (hr : ∀ g, row = some g → g < lo ∨ hi ≤ g) (h1 : lo' ≤ lo) (h2 : hi ≤ hi') : SpA (low lo' hi' w') A L :=
  h.mono (by rw [low_size, low_size]; exact hg.size) (fun p u hp => by
    obtain ⟨h3, h4, h5, h6⟩ := low_out hp
    rw [low_in (by omega) (by omega)]
    exact (World.cell?_of_block (hg.block p.block h5 (fun e => by have := hr p.block e.symm; omega))).trans h6)

theorem odd_end {w w5 : World} {b p S D q : Nat} {a0 a1 : Int} {a2 : ByteArray} {s a : Option Addr × Nat × Nat} {L : List (Int × Int)} {ks : List KT} {cs : Array Value} {c0 c1 c2 c3 c4 : Value} (hS : w.heap.size = S) (hbS : b < S) (hSD : S + 1 ≤ D) (hX : Whole w5 D 26 cs) (hR : Rd w5 b q) (hG : w.grownBy w5 (some b))
    (hK : KA (S + 1) D w5 (.mk a0 a1 a2 L ks) (kval (a0, a1, a2, s, a))) (hn : nodesT (.mk a0 a1 a2 L ks) ≤ 15) (hq : q ≤ p + 1000) (hni : Nice (a0, a1, a2, s, a)) (i : Nat) (u : Value) (b0 b1 : Int) (b2 : ByteArray) (hb2 : b2.size ≤ 16777216) :
    DrewO w b p (.returned (kval (b0, b1, b2, s, a))) (st5 (w5.setCell ⟨D, i, none⟩ u) S c0 c1 c2 c3 c4) := by
  have g1 : w5.grownBy (w5.setCell ⟨D, i, none⟩ u) (some D) := gr_one (gr_refl _ _) _ _
  refine drewo_end hS hbS ((ka_set hK b0 b1 b2 hb2).grown g1 (fun g e => by cases e; omega)) (Nat.le_refl _) (by have := hX.lt; have := g1.size; omega) (by rw [nodesT] at hn ⊢; omega) hq (hR.grown g1 (by omega)) (gr_row1 hG g1 (fun g e => by cases e; omega)) hni
set_option maxRecDepth 20000 in
set_option maxHeartbeats 16000000 in
theorem odd_draw (hkd : KD3) (b p : Nat) (w : World) (hr : Rd w b p) (hp : p ≤ 300000) : Calls Tryd.prog 43 #[.pointer (some ⟨b, 0, none⟩)] w (DrewO w b p) := by
  have hbl := hr.lt
  obtain ⟨S, hS⟩ : ∃ S, w.heap.size = S := ⟨_, rfl⟩
  have HSS := Lib.hid hS
  have hbS : b < S := by omega
  obtain ⟨w1, hw1⟩ : ∃ w1, w.alloc (.cells #[.int .i64 0, .int .i64 0, .string ⟨#[]⟩, .slice none 0 0, .slice none 0 0] 26) = w1 := ⟨_, rfl⟩
  have HW1 := Lib.hid hw1
  have HZ1 : Hid (Whole w1 S 26 #[.int .i64 0, .int .i64 0, .string ⟨#[]⟩, .slice none 0 0, .slice none 0 0]) := Lib.hid (by rw [← hw1, ← hS]; exact Whole.made w _ _)
  have HB1 : Hid (Below w.heap.size w w1) := Lib.hid (by rw [← hw1]; exact (Below.refl _ _).alloc (Nat.le_refl _) _)
  have HR1 := Lib.hid (hr.below HB1.out hbl)
  have HG1 := Lib.hid (gr_below HB1.out (some b))
  have hneS : some S ≠ some b := fun e => by cases e; omega
  have hs1 : S + 1 ≤ w1.heap.size := HZ1.out.lt
  have HKD := Lib.hid hkd
  have hc3 : cD 3 = 900 := rfl
  have hm3 : mD 3 = 15 := rfl
  clear hr hw1 hS hbl hkd
  go_enter Tryd.func43, Tryd.ntmps43
  go_wp2_with fail
  rw [HW1.out, HSS.out]
  refine (HKD.out b p w1 HR1.out (by omega)).mono ?_
  rintro ee w2 ⟨k, ⟨a0, a1, a2, ⟨a3, a4, a5⟩, ⟨a6, a7, a8⟩⟩, q2, rfl, hk, hni, hn, hq2, hr, hg⟩
  obtain ⟨L, ks, rfl⟩ := ka_row hk
  rw [hm3] at hn
  rw [hc3] at hq2
  have HN := Lib.hid hn
  have HNI := Lib.hid hni
  obtain ⟨D, hD⟩ : ∃ D, w2.heap.size = D := ⟨_, rfl⟩
  have HDD := Lib.hid hD
  have hSD : S + 1 ≤ D := by have := hg.size; omega
  obtain ⟨w3, hw3⟩ : ∃ w3, w2.alloc (.cells #[.int .i64 a0, .int .i64 a1, .string a2, .slice a3 a4 a5, .slice a6 a7 a8] 26) = w3 := ⟨_, rfl⟩
  have HW3 := Lib.hid hw3
  have HX3 : Hid (Whole w3 D 26 #[.int .i64 a0, .int .i64 a1, .string a2, .slice a3 a4 a5, .slice a6 a7 a8]) := Lib.hid (by rw [← hw3, ← hD]; exact Whole.made w2 _ _)
  have HZ3 : Hid (Whole w3 S 26 #[.int .i64 0, .int .i64 0, .string ⟨#[]⟩, .slice none 0 0, .slice none 0 0]) := Lib.hid (by rw [← hw3]; exact (HZ1.out.grown hg hneS).alloc _)
  have HG3 : Hid (w.grownBy w3 (some b)) := Lib.hid (by rw [← hw3]; exact gr_alloc (gr_trans HG1.out hg) _)
  have HR3 : Hid (Rd w3 b q2) := Lib.hid (by rw [← hw3]; exact hr.below (below_newK w2 _) hr.lt)
  have HK3 : Hid (KA (S + 1) D w3 (.mk a0 a1 a2 L ks) (kval (a0, a1, a2, (a3, a4, a5), (a6, a7, a8)))) := Lib.hid (by rw [← hw3, ← hD]; exact (hk.grown (gr_alloc (gr_refl _ _) _ : w2.grownBy _ none) (fun g e => by cases e)).widen hs1 (Nat.le_refl _))
  clear hk hni hn hr hg hD hw3
  go_wp2_with fail
  rw [HW3.out, HDD.out]
  refine (pick_any b q2 16 _ HR3.out (by omega) (by omega) (by omega)).mono ?_
  rintro ee w4 ⟨x, hx, hee, hr, hg⟩
  have HR4 := Lib.hid hr
  have HG4 := Lib.hid (gr_trans HG3.out hg)
  have HZ4 := Lib.hid (HZ3.out.grown hg hneS)
  have HX4 := Lib.hid (HX3.out.grown hg (fun e => by cases e; omega))
  have HK4 := Lib.hid (HK3.out.grown hg (fun g e => by cases e; omega))
  have hDw4 : D < w4.heap.size := HX4.out.lt
  clear hr hg
  obtain ⟨y, hy⟩ : ∃ y : Int, (x : Int) = y := ⟨_, rfl⟩
  rw [hy] at hee
  subst hee
  by_cases hy0 : y = 0
  · subst hy0
    clear hx hy
    go_wp2_with fail
    refine (pick_any b (q2 + 1) 10 _ HR4.out (by omega) (by omega) (by omega)).mono ?_
    rintro ee w5 ⟨z, hz, rfl, hr, hg⟩
    obtain ⟨u, hu⟩ : ∃ u : Int, (z : Int) - 1 = u := ⟨_, rfl⟩
    have WU : IntKind.i64.wrap ((z : Int) - 1) = u := (IntWalk.i64_in _ (by omega)).trans hu
    have HR5 := Lib.hid hr
    have HG5 := Lib.hid (gr_trans HG4.out hg)
    have HZ5 := Lib.hid (HZ4.out.grown hg hneS)
    have HX5 := Lib.hid (HX4.out.grown hg (fun e => by cases e; omega))
    have HK5 := Lib.hid (HK4.out.grown hg (fun g e => by cases e; omega))
    clear hr hg hu
    have r0 := HZ5.out.cell 0
    have r1 := HZ5.out.cell 1
    have r2 := HZ5.out.cell 2
    have r3 := HZ5.out.cell 3
    have r4 := HZ5.out.cell 4
    have x0 := HX5.out.cell 0
    have x1 := HX5.out.cell 1
    have x2 := HX5.out.cell 2
    have x3 := HX5.out.cell 3
    have x4 := HX5.out.cell 4
    simp at r0 r1 r2 r3 r4 x0 x1 x2 x3 x4
    have f0 := HZ5.out.free 0
    have f1 := HZ5.out.free 1
    have f2 := HZ5.out.free 2
    have f3 := HZ5.out.free 3
    have f4 := HZ5.out.free 4
    have e0 := HX5.out.free 0
    have e1 := HX5.out.free 1
    have e2 := HX5.out.free 2
    have e3 := HX5.out.free 3
    have e4 := HX5.out.free 4
    have hSDne : ¬ S = D := by omega
    have hDSne : ¬ D = S := by omega
    go_wp2
    refine bodyPost_ret (v := kval (u, a1, a2, (a3, a4, a5), (a6, a7, a8))) (by simp [results, Tryd.results43, go_sem, r0, r1, r2, r3, r4]) rfl ?_
    exact odd_end HSS.out hbS hSD HX5.out HR5.out HG5.out HK5.out HN.out (by omega) HNI.out 0 _ u a1 a2 (ka_parts HK5.out).choose_spec.2.2.2.2.2.2
  · by_cases hy1 : y = 1
    · subst hy1
      clear hx hy hy0
      go_wp2_with fail
      refine (pick_any b (q2 + 1) 32 _ HR4.out (by omega) (by omega) (by omega)).mono ?_
      rintro ee w5 ⟨z, hz, rfl, hr, hg⟩
      have HR5 := Lib.hid hr
      have HG5 := Lib.hid (gr_trans HG4.out hg)
      have HZ5 := Lib.hid (HZ4.out.grown hg hneS)
      have HX5 := Lib.hid (HX4.out.grown hg (fun e => by cases e; omega))
      have HK5 := Lib.hid (HK4.out.grown hg (fun g e => by cases e; omega))
      clear hr hg
      have r0 := HZ5.out.cell 0
      have r1 := HZ5.out.cell 1
      have r2 := HZ5.out.cell 2
      have r3 := HZ5.out.cell 3
      have r4 := HZ5.out.cell 4
      have x0 := HX5.out.cell 0
      have x1 := HX5.out.cell 1
      have x2 := HX5.out.cell 2
      have x3 := HX5.out.cell 3
      have x4 := HX5.out.cell 4
      simp at r0 r1 r2 r3 r4 x0 x1 x2 x3 x4
      have f0 := HZ5.out.free 0
      have f1 := HZ5.out.free 1
      have f2 := HZ5.out.free 2
      have f3 := HZ5.out.free 3
      have f4 := HZ5.out.free 4
      have e0 := HX5.out.free 0
      have e1 := HX5.out.free 1
      have e2 := HX5.out.free 2
      have e3 := HX5.out.free 3
      have e4 := HX5.out.free 4
      have hSDne : ¬ S = D := by omega
      have hDSne : ¬ D = S := by omega
      go_wp2
      refine bodyPost_ret (v := kval (a0, (z : Int), a2, (a3, a4, a5), (a6, a7, a8))) (by simp [results, Tryd.results43, go_sem, r0, r1, r2, r3, r4]) rfl ?_
      exact odd_end HSS.out hbS hSD HX5.out HR5.out HG5.out HK5.out HN.out (by omega) HNI.out 1 _ a0 z a2 (ka_parts HK5.out).choose_spec.2.2.2.2.2.2
    · by_cases hy2 : y = 2
      · subst hy2
        clear hx hy hy0 hy1
        have HX5 := HX4
        have HZ5 := HZ4
        have r0 := HZ5.out.cell 0
        have r1 := HZ5.out.cell 1
        have r2 := HZ5.out.cell 2
        have r3 := HZ5.out.cell 3
        have r4 := HZ5.out.cell 4
        have x0 := HX5.out.cell 0
        have x1 := HX5.out.cell 1
        have x2 := HX5.out.cell 2
        have x3 := HX5.out.cell 3
        have x4 := HX5.out.cell 4
        simp at r0 r1 r2 r3 r4 x0 x1 x2 x3 x4
        have f0 := HZ5.out.free 0
        have f1 := HZ5.out.free 1
        have f2 := HZ5.out.free 2
        have f3 := HZ5.out.free 3
        have f4 := HZ5.out.free 4
        have e0 := HX5.out.free 0
        have e1 := HX5.out.free 1
        have e2 := HX5.out.free 2
        have e3 := HX5.out.free 3
        have e4 := HX5.out.free 4
        have hSDne : ¬ S = D := by omega
        have hDSne : ¬ D = S := by omega
        go_wp2
        refine bodyPost_ret (v := kval (a0, a1, ⟨#[98, 111, 98]⟩, (a3, a4, a5), (a6, a7, a8))) (by simp [results, Tryd.results43, go_sem, r0, r1, r2, r3, r4]) rfl ?_
        exact odd_end HSS.out hbS hSD HX4.out HR4.out HG4.out HK4.out HN.out (by omega) HNI.out 2 _ a0 a1 _ (by decide)
      · by_cases hy3 : y = 3
        · subst hy3
          clear hx hy hy0 hy1 hy2
          skip
          obtain ⟨i0, hi, hq0, hq1, hq2'⟩ := info_parts Tryd.infoKey
          obtain ⟨rs, hrs1, hrs2, hrs3, hsp, hsl, hs33, ht16⟩ := ka_parts HK4.out
          have HRS := Lib.hid hrs1
          have HSP := Lib.hid hsp
          have hksl := nodesL_len ks
          have hnn : nodesL ks + 1 ≤ 15 := by have := HN.out; rw [nodesT] at this; exact this
          have hrl := hrs1.len
          have hml : 0 + a7 ≤ maxLen := by unfold maxLen; omega
          have hby : (0 + a7) * 80 ≤ 140737488355328 := by omega
          have hml2 : a7 + 1 ≤ maxLen := by unfold maxLen; omega
          have hby2 : (a7 + 1) * 80 ≤ 140737488355328 := by omega
          have HNN := Lib.hid hnn
          have HRL := Lib.hid hrs3
          have hat4 := hrs2.below (below_newK w4 (.cells #[] 26)) (Nat.le_refl _)
          have HX5 := HX4
          have x4 := HX4.out.cell 4
          simp at x4
          clear hrs1 hsp hnn hrs2 hksl hrl
          go_wp2_with (at_builtin; refine wpList_append_rows rfl (.tmp 24) (.tmp 26) 24 rfl keyR w4.heap.size i0 _ 80 Tryd.underlying24 hi hq0 hq1 hq2' rfl (by decide) _ [] rs 0 rfl rfl (ROwn.lit w4 w4.heap.size (Nat.le_refl _) rfl) a6 a7 a8 rfl HRL.out hat4 HNI.out.1 HNI.out.2 hml hby (by simp) ?_)
          intro v' w5 hown hgrow hnn
          obtain ⟨A5, N5, c5, rfl⟩ := hown.val
          have hN5 : N5 = a7 := hown.len.1.trans HRL.out
          subst hN5
          have al4 : w4.grownBy (w4.alloc (.cells #[] 26)) none := gr_alloc (gr_refl _ _) _
          have hrow5 : ∀ g, (Value.slice (some ⟨w4.heap.size, 0, none⟩) 0 0).ownBlock = some g → g = w4.heap.size := fun g e => by cases e; rfl
          have HO5 := Lib.hid hown
          have HG5 := Lib.hid (gr_row1 (gr_alloc HG4.out (.cells #[] 26)) hgrow (fun g e => by have := hrow5 g e; have := HG4.out.size; omega))
          have HR5 := Lib.hid ((HR4.out.keptRow al4 (fun g e => by cases e)).keptRow hgrow (fun g e => by have := hrow5 g e; omega))
          have HZ5 := Lib.hid ((HZ4.out.alloc (.cells #[] 26)).grown hgrow (fun e => by have := hrow5 S e.symm; omega))
          have HX5' := Lib.hid ((HX4.out.alloc (.cells #[] 26)).grown hgrow (fun e => by have := hrow5 D e.symm; omega))
          have HRS5 : Hid (KRs (KA (S + 1) D w5) ks rs) := Lib.hid (KRs.imp (fun k v h => (KA.grown h al4 (fun g e => by cases e)).grown hgrow (fun g e => by have := hrow5 g e; omega)) HRS.out)
          have HSP5 : Hid (SpA (low (S + 1) D w5) a3 L) := Lib.hid ((HSP.out.lowered al4 (fun g e => by cases e) (Nat.le_refl _) (Nat.le_refl _)).lowered hgrow (fun g e => by have := hrow5 g e; omega) (Nat.le_refl _) (Nat.le_refl _))
          have hz5 : w4.heap.size + 1 ≤ w5.heap.size := by have := hgrow.size; simpa using this
          clear hown hgrow hnn hat4 x4
          have hown6 := HO5.out.alloc (.cells #[.int .i64 0, .int .i64 0, .string ⟨#[]⟩, .slice none 0 0, .slice none 0 0] 26)
          have hnew6 := RAt.made keyR w5 [((0 : Int), (0 : Int), (⟨#[]⟩ : ByteArray), ((none : Option Addr), 0, 0), ((none : Option Addr), 0, 0))] w5.heap.size rfl
          have hsz6 : w4.heap.size ≤ (w5.alloc (.cells #[.int .i64 0, .int .i64 0, .string ⟨#[]⟩, .slice none 0 0, .slice none 0 0] 26)).heap.size := by simp; omega
          have HSZ6 := Lib.hid hsz6
          clear hsz6
          go_wp2_with (at_builtin; refine wpList_append_rows rfl (.tmp 27) (.tmp 29) 24 rfl keyR w4.heap.size i0 _ 80 Tryd.underlying24 hi hq0 hq1 hq2' rfl (by decide) _ rs [((0 : Int), (0 : Int), (⟨#[]⟩ : ByteArray), ((none : Option Addr), 0, 0), ((none : Option Addr), 0, 0))] N5 HRL.out rfl hown6 (some ⟨w5.heap.size, 0, none⟩) 1 1 rfl rfl hnew6 (fun e => by cases e) (fun q e => by cases e; rfl) hml2 hby2 HSZ6.out ?_)
          intro v' w6 hown hgrow hnn
          obtain ⟨A6, N6, c6, rfl⟩ := hown.val
          have hN6 : N6 = N5 + 1 := by
            have := hown.len.1
            rw [List.length_append, HRL.out] at this
            exact this
          subst hN6
          have al5 : w5.grownBy (w5.alloc (.cells #[.int .i64 0, .int .i64 0, .string ⟨#[]⟩, .slice none 0 0, .slice none 0 0] 26)) none := gr_alloc (gr_refl _ _) _
          have hrow6 : ∀ g, (Value.slice A5 N5 c5).ownBlock = some g → w4.heap.size ≤ g := fun g e => (World.ownsRow.lt HO5.out g e).1
          have HO6 := Lib.hid hown
          have HG6 := Lib.hid (gr_row1 (gr_alloc HG5.out (.cells #[.int .i64 0, .int .i64 0, .string ⟨#[]⟩, .slice none 0 0, .slice none 0 0] 26)) hgrow (fun g e => by have := hrow6 g e; have := HG4.out.size; omega))
          have HR6 := Lib.hid ((HR5.out.keptRow al5 (fun g e => by cases e)).keptRow hgrow (fun g e => by have := hrow6 g e; omega))
          have HZ6 := Lib.hid ((HZ5.out.alloc (.cells #[.int .i64 0, .int .i64 0, .string ⟨#[]⟩, .slice none 0 0, .slice none 0 0] 26)).grown hgrow (fun e => by have := hrow6 S e.symm; omega))
          have HX6 := Lib.hid ((HX5'.out.alloc (.cells #[.int .i64 0, .int .i64 0, .string ⟨#[]⟩, .slice none 0 0, .slice none 0 0] 26)).grown hgrow (fun e => by have := hrow6 D e.symm; omega))
          have HRS6 : Hid (KRs (KA (S + 1) D w6) ks rs) := Lib.hid (KRs.imp (fun k v h => (KA.grown h al5 (fun g e => by cases e)).grown hgrow (fun g e => by have := hrow6 g e; omega)) HRS5.out)
          have HSP6 : Hid (SpA (low (S + 1) D w6) a3 L) := Lib.hid ((HSP5.out.lowered al5 (fun g e => by cases e) (Nat.le_refl _) (Nat.le_refl _)).lowered hgrow (fun g e => by have := hrow6 g e; omega) (Nat.le_refl _) (Nat.le_refl _))
          clear hown hgrow hnn hown6 hnew6 HX5
          have HX5 := HX6
          clear HZ5
          have HZ5 := HZ6
          have r0 := HZ5.out.cell 0
          have r1 := HZ5.out.cell 1
          have r2 := HZ5.out.cell 2
          have r3 := HZ5.out.cell 3
          have r4 := HZ5.out.cell 4
          have x0 := HX5.out.cell 0
          have x1 := HX5.out.cell 1
          have x2 := HX5.out.cell 2
          have x3 := HX5.out.cell 3
          have x4 := HX5.out.cell 4
          simp at r0 r1 r2 r3 r4 x0 x1 x2 x3 x4
          have f0 := HZ5.out.free 0
          have f1 := HZ5.out.free 1
          have f2 := HZ5.out.free 2
          have f3 := HZ5.out.free 3
          have f4 := HZ5.out.free 4
          have e0 := HX5.out.free 0
          have e1 := HX5.out.free 1
          have e2 := HX5.out.free 2
          have e3 := HX5.out.free 3
          have e4 := HX5.out.free 4
          have hSDne : ¬ S = D := by omega
          have hDSne : ¬ D = S := by omega
          go_wp2
          refine bodyPost_ret (v := kval (a0, a1, a2, (a3, a4, a5), (A6, N5 + 1, c6))) (by simp [results, Tryd.results43, go_sem, r0, r1, r2, r3, r4]) rfl ?_
          have g1 : w6.grownBy (w6.setCell ⟨D, 4, none⟩ (.slice A6 (N5 + 1) c6)) (some D) := gr_one (gr_refl _ _) _ _
          have hDl := HX6.out.lt
          have ho7 : ROwn keyR (w6.setCell ⟨D, 4, none⟩ (.slice A6 (N5 + 1) c6)) w4.heap.size (.slice A6 (N5 + 1) c6) (rs ++ [((0 : Int), (0 : Int), (⟨#[]⟩ : ByteArray), ((none : Option Addr), 0, 0), ((none : Option Addr), 0, 0))]) := HO6.out.store (fun e => by have := (World.ownsRow.lt HO6.out D e).1; omega) _
          have hks : KRs (KA (S + 1) D (w6.setCell ⟨D, 4, none⟩ (.slice A6 (N5 + 1) c6))) (ks ++ [KT.mk 0 0 ⟨#[]⟩ [] []]) (rs ++ [((0 : Int), (0 : Int), (⟨#[]⟩ : ByteArray), ((none : Option Addr), 0, 0), ((none : Option Addr), 0, 0))]) := KRs.push (KRs.imp (fun k v h => KA.grown h g1 (fun g e => by cases e; omega)) HRS6.out) (ka_leaf (by decide) rfl (by omega) (SpA.nil _ _))
          have hsz : D ≤ (w6.setCell ⟨D, 4, none⟩ (.slice A6 (N5 + 1) c6)).heap.size := by have := g1.size; omega
          have hka : KA (S + 1) (w6.setCell ⟨D, 4, none⟩ (.slice A6 (N5 + 1) c6)).heap.size (w6.setCell ⟨D, 4, none⟩ (.slice A6 (N5 + 1) c6)) (.mk a0 a1 a2 L (ks ++ [KT.mk 0 0 ⟨#[]⟩ [] []])) (kval (a0, a1, a2, (a3, a4, a5), (A6, N5 + 1, c6))) := by
            unfold KA
            rw [KV]
            exact ⟨a3, a4, a5, A6, N5 + 1, c6, rfl, hsl, hs33, ht16, HSP6.out.lowered g1 (fun g e => by cases e; omega) (Nat.le_refl _) hsz, by rw [hks.len]; exact ho7.len.1.symm, kvs_own ho7 (by omega) hks hsz⟩
          exact drewo_end HSS.out hbS hka (Nat.le_refl _) (Nat.le_refl _) (by rw [nodesT, nodesL_app]; show nodesL ks + (nodesT (KT.mk 0 0 ⟨#[]⟩ [] []) + 0) + 1 ≤ 16; rw [nodesT, nodesL]; have := HNN.out; omega) (by omega) (HR6.out.grown g1 (by omega)) (gr_row1 HG6.out g1 (fun g e => by cases e; have := HSS.out; omega)) ⟨fun e => ho7.nilcap e, fun q e => ho7.spot q e⟩
        · have HX5 := HX4
          have HZ5 := HZ4
          have hb0 : (y == 0) = false := beq_eq_false_iff_ne.2 hy0
          have hb1 : (y == 1) = false := beq_eq_false_iff_ne.2 hy1
          have hb2 : (y == 2) = false := beq_eq_false_iff_ne.2 hy2
          have hb3 : (y == 3) = false := beq_eq_false_iff_ne.2 hy3
          clear hx hy
          have r0 := HZ5.out.cell 0
          have r1 := HZ5.out.cell 1
          have r2 := HZ5.out.cell 2
          have r3 := HZ5.out.cell 3
          have r4 := HZ5.out.cell 4
          have x0 := HX5.out.cell 0
          have x1 := HX5.out.cell 1
          have x2 := HX5.out.cell 2
          have x3 := HX5.out.cell 3
          have x4 := HX5.out.cell 4
          simp at r0 r1 r2 r3 r4 x0 x1 x2 x3 x4
          have f0 := HZ5.out.free 0
          have f1 := HZ5.out.free 1
          have f2 := HZ5.out.free 2
          have f3 := HZ5.out.free 3
          have f4 := HZ5.out.free 4
          have e0 := HX5.out.free 0
          have e1 := HX5.out.free 1
          have e2 := HX5.out.free 2
          have e3 := HX5.out.free 3
          have e4 := HX5.out.free 4
          have hSDne : ¬ S = D := by omega
          have hDSne : ¬ D = S := by omega
          go_wp2
          refine bodyPost_ret (v := kval (a0, a1, a2, (a3, a4, a5), (a6, a7, a8))) (by simp [results, Tryd.results43, go_sem, r0, r1, r2, r3, r4]) rfl ?_
          exact drewo_end HSS.out hbS HK4.out (Nat.le_refl _) (by omega) (by have := HN.out; omega) (by omega) HR4.out HG4.out HNI.out
set_option maxRecDepth 20000 in
set_option maxHeartbeats 1000000 in
/-- What DrawKeyValid leaves. -/
theorem draw_key (hkd : KD3) (A : Option Addr) (len cap : Nat) (w : World) (h : Coded w A len cap) :
    Calls Tryd.prog 24 #[.slice A len cap] w fun e w' => ∃ (k : KT) (r : KR), e = .returned (kval r) ∧ KV w' k (kval r) ∧ Nice r ∧ nodesT k ≤ 16 ∧ Below w.heap.size w w' := by
  have HK := Lib.hid h
  have hk1 := h.1
  have hk2 := h.2.1
  have HKD := Lib.hid hkd
  obtain ⟨S, hS⟩ : ∃ S, w.heap.size = S := ⟨_, rfl⟩
  have HSS := Lib.hid hS
  obtain ⟨w0, hw0⟩ : ∃ w0, w.alloc (.cells #[.int .i64 0, .int .i64 0, .string ⟨#[]⟩, .slice none 0 0, .slice none 0 0] 26) = w0 := ⟨_, rfl⟩
  have HW0 := Lib.hid hw0
  have HZ0 : Hid (Whole w0 S 26 #[.int .i64 0, .int .i64 0, .string ⟨#[]⟩, .slice none 0 0, .slice none 0 0]) := Lib.hid (by rw [← hw0, ← hS]; exact Whole.made w _ _)
  have HB0 : Hid (Below w.heap.size w w0) := Lib.hid (by rw [← hw0]; exact (Below.refl _ _).alloc (Nat.le_refl _) _)
  have HC0 := Lib.hid (HK.out.below HB0.out (Nat.le_refl _))
  have hz0 : w0.heap.size = S + 1 := by rw [← hw0, ← hS]; simp
  clear h hkd hw0 hS
  go_enter Tryd.func24, Tryd.ntmps24
  go_wp2_with fail
  rw [HW0.out, HSS.out]
  refine (open_any A len cap _ hk1 hk2 HC0.out.2.2).mono ?_
  rintro e w1 ⟨rfl, hr, hb, hz⟩
  rw [hz0] at hr hb hz ⊢
  have HR := Lib.hid hr
  have HB := Lib.hid hb
  have HZ1 := Lib.hid (HZ0.out.below hb (by omega))
  clear hr hb
  go_wp2_with fail
  refine (odd_draw HKD.out (S + 1) 0 w1 HR.out (by omega)).mono ?_
  rintro e w2 ⟨k, ⟨a0, a1, a2, ⟨a3, a4, a5⟩, ⟨a6, a7, a8⟩⟩, q, rfl, hk, hni, hn, -, hr, hg⟩
  have HK2 := Lib.hid hk
  have HNI := Lib.hid hni
  have HZ2 := Lib.hid (HZ1.out.grown hg (fun e => absurd (Option.some.inj e) (by omega)))
  have HB2 := Lib.hid (below_gr (HB0.out.trans (HB.out.mono (by have := HSS.out; omega))) hg (by have := HB0.out.size; have := HB.out.size; omega) (by have := HSS.out; omega))
  clear hk hni hr hg
  have r0 := HZ2.out.cell 0
  have r1 := HZ2.out.cell 1
  have r2 := HZ2.out.cell 2
  have r3 := HZ2.out.cell 3
  have r4 := HZ2.out.cell 4
  simp at r0 r1 r2 r3 r4
  have f0 := HZ2.out.free 0
  have f1 := HZ2.out.free 1
  have f2 := HZ2.out.free 2
  have f3 := HZ2.out.free 3
  have f4 := HZ2.out.free 4
  go_wp2
  refine bodyPost_ret (v := kval (a0, a1, a2, (a3, a4, a5), (a6, a7, a8))) (by simp [results, Tryd.results24, go_sem, r0, r1, r2, r3, r4]) rfl ?_
  have h5 := gr_st5 w2 S (.int .i64 a0) (.int .i64 a1) (.string a2) (.slice a3 a4 a5) (.slice a6 a7 a8)
  refine ⟨k, _, rfl, (HK2.out.grown h5 (fun g e => by cases e; left; have := HB.out.size; omega)).kv, HNI.out, hn, ?_⟩
  exact below_gr HB2.out h5 HB2.out.size (by rw [HSS.out]; exact Nat.le_refl _)
end Go.Proofs.YtpihibconbejlaaDoor
