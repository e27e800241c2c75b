/-
  My texts Tu in one, so that a claim holds fewer files. Conditions: each contract's own.
-/
import Derived.Test.YtichajalinkcdaaQh
namespace Go.Proofs.Ytichajalinkcdaa
open Go.RowKit
set_option linter.unusedVariables false

/-- A drawn submission. -/
def DrewS (w : World) (b p : Nat) (e : Ending) (w' : World) : Prop := ∃ (st : Int) (us tx : ByteArray) (A : Option Addr) (N cap : Nat) (T : List ByteArray) (q : Nat), e = .returned (.agg #[.int .i64 st, .string us, .slice A N cap, .string tx]) ∧ q ≤ p + 130 ∧ CG w w' b q ∧ ROwn stR w' w.heap.size (.slice A N cap) T ∧ us.size ≤ 30 ∧ tx.size ≤ 30 ∧ T.length ≤ 6 ∧ (∀ g ∈ T, g.size ≤ 30)
/-- The submission so far, in block 'S'. -/
def SD (w wr : World) (b q S : Nat) (st : Int) (us tx : ByteArray) (A : Option Addr) (N cap : Nat) (T : List ByteArray) : Prop := CG w wr b q ∧ Whole wr S 25 #[.int .i64 st, .string us, .slice A N cap, .string tx] ∧ Whole wr w.heap.size 25 #[.int .i64 0, .string ⟨#[]⟩, .slice none 0 0, .string ⟨#[]⟩] ∧ ROwn stR wr w.heap.size (.slice A N cap) T ∧ b < w.heap.size ∧ w.heap.size < S
section
variable {w wr w' : World} {b q q' S N cap : Nat} {st : Int} {us tx : ByteArray} {A : Option Addr} {T : List ByteArray}
theorem SD.read (h : SD w wr b q S st us tx A N cap T) (hr : Rd w' b q') (hg : wr.grownBy w' (some b)) : SD w w' b q' S st us tx A N cap T :=
  ⟨CG.read h.1 hr hg, h.2.1.grown hg (by have := h.2.2.2.2; simp; omega), h.2.2.1.grown hg (by have := h.2.2.2.2; simp; omega), h.2.2.2.1.grown hg h.2.2.2.2.1, h.2.2.2.2⟩
theorem SD.later (h : SD w wr b q S st us tx A N cap T) (hb : Below wr.heap.size wr w') : SD w w' b q S st us tx A N cap T :=
  ⟨CG.later h.1 hb, h.2.1.below hb h.2.1.lt, h.2.2.1.below hb h.2.2.1.lt, h.2.2.2.1.kept hb, h.2.2.2.2⟩
theorem CG.set (h : CG w wr b q) (hb : b < w.heap.size) (hS : w.heap.size ≤ S) (j : Nat) (u : Value) : CG w (wr.setCell ⟨S, j, none⟩ u) b q := by
  have hg : wr.grownBy (wr.setCell ⟨S, j, none⟩ u) (some S) := gr_store (gr_refl wr _) (.inl rfl) u
  exact ⟨h.1.grown hg (by omega), gr_far h.2 hg (fun g e => by cases e; exact hS)⟩
theorem CG.set4 (h : CG w wr b q) (hb : b < w.heap.size) (hS : w.heap.size ≤ S) (a0 a1 a2 a3 : Value) : CG w ((((wr.setCell ⟨S, 0, none⟩ a0).setCell ⟨S, 1, none⟩ a1).setCell ⟨S, 2, none⟩ a2).setCell ⟨S, 3, none⟩ a3) b q := (((h.set hb hS 0 a0).set hb hS 1 a1).set hb hS 2 a2).set hb hS 3 a3
theorem own_off {t : TypeId} {cs : Array Value} (h : ROwn stR wr w.heap.size (.slice A N cap) T) (hW : Whole wr S t cs) (ht : t ≠ 9) : (Value.slice A N cap).ownBlock ≠ some S := h.whole hW ht
theorem own_offq {t : TypeId} {cs : Array Value} {B : Nat} (h : ROwn stR wr B (.slice A N cap) T) (hW : Whole wr S t cs) (ht : t ≠ 9) : ∀ q, A = some q → q.block ≠ S := by
  intro q e hq
  subst e
  rcases h.2 with ⟨he, _⟩ | ⟨g, c, cur, he, _⟩
  · cases he
  · cases he
    exact h.whole hW ht (by rw [← hq]; rfl)
/-- A new submission in the block. -/
theorem SD.put {st' : Int} {us' tx' : ByteArray} {A' : Option Addr} {N' cap' B : Nat} {T' : List ByteArray} (h : SD w wr b q S st us tx A N cap T) (ho : ROwn stR wr B (.slice A' N' cap') T') (hB : w.heap.size ≤ B) :
    SD w ((((wr.setCell ⟨S, 0, none⟩ (.int .i64 st')).setCell ⟨S, 1, none⟩ (.string us')).setCell ⟨S, 2, none⟩ (.slice A' N' cap')).setCell ⟨S, 3, none⟩ (.string tx')) b q S st' us' tx' A' N' cap' T' :=
  ⟨h.1.set4 h.2.2.2.2.1 (by have := h.2.2.2.2.2; omega) _ _ _ _, put_sb h.2.1 _ _ _ _, apart4 h.2.2.1 (by have := h.2.2.2.2.2; omega) _ _ _ _, (own_set4 ho (own_offq ho h.2.1 (by decide)) _ _ _ _).from hB, h.2.2.2.2⟩
end
theorem domHost : domB (kb ⟨#[104, 111, 115, 116, 46, 111, 114, 103]⟩) = true := by decide
set_option maxRecDepth 20000 in
set_option maxHeartbeats 8000000 in
theorem sub_draw (b p : Nat) (AU : Option Addr) (NU cU : Nat) (L : List Us) (w : World) (h : Rd w b p) (hp : p ≤ 600000) (hU : UIn w AU NU cU L) (hs : ∀ g ∈ L, g.2.1.size ≤ 30) (hAb : ∀ bb o, AU = some ⟨bb, o, none⟩ → bb ≠ b) : Calls Try.prog 28 #[.pointer (some ⟨b, 0, none⟩), .slice AU NU cU] w (DrewS w b p) := by
  have hbl := h.lt
  have HU := Lib.hid hU
  have HSZ := Lib.hid hs
  have HAB := Lib.hid hAb
  obtain ⟨B, hB⟩ : ∃ B, w.heap.size = B := ⟨_, rfl⟩
  have hw0 := Whole.made w 25 #[.int .i64 0, .string ⟨#[]⟩, .slice none 0 0, .string ⟨#[]⟩]
  obtain ⟨wz, hwz⟩ : ∃ wz, w.alloc (.cells #[.int .i64 0, .string ⟨#[]⟩, .slice none 0 0, .string ⟨#[]⟩] 25) = wz := ⟨_, rfl⟩
  have hz : wz.heap.size = B + 1 := by rw [← hwz, ← hB]; simp
  have hbz : Below w.heap.size w wz := by rw [← hwz]; exact below_new' _ _
  have ho0 : ROwn stR (wz.alloc (.cells #[] 9)) w.heap.size (.slice (some ⟨B + 1, 0, none⟩) 0 0) [] := ROwn.lit wz (B + 1) (by omega) hz
  obtain ⟨we, hwe⟩ : ∃ we, wz.alloc (.cells #[] 9) = we := ⟨_, rfl⟩
  have hze : we.heap.size = B + 1 + 1 := by rw [← hwe]; simp; omega
  have hbe : Below w.heap.size w we := by rw [← hwe]; exact hbz.alloc (by omega) _
  obtain ⟨wa, hwa⟩ : ∃ wa, we.alloc (.cells #[.int .i64 0, .string ⟨#[]⟩, .slice (some ⟨B + 1, 0, none⟩) 0 0, .string ⟨#[]⟩] 25) = wa := ⟨_, rfl⟩
  have hba : Below w.heap.size w wa := by rw [← hwa]; exact hbe.alloc (by omega) _
  have HK0 : Hid (SD w wa b p (B + 1 + 1) 0 ⟨#[]⟩ ⟨#[]⟩ (some ⟨B + 1, 0, none⟩) 0 0 []) := Lib.hid (by
    rw [hwe] at ho0
    refine ⟨⟨h.below hba hbl, gr_below hba _⟩, ?_, ?_, ?_, hbl, by omega⟩
    · rw [← hwa, ← hze]; exact Whole.made we _ _
    · rw [← hwa, ← hwe, ← hwz]; exact (hw0.alloc _).alloc _
    · rw [← hwa]; exact ho0.alloc _)
  have HWA : Hid (((w.alloc (.cells #[.int .i64 0, .string ⟨#[]⟩, .slice none 0 0, .string ⟨#[]⟩] 25)).alloc (.cells #[] 9)).alloc (.cells #[.int .i64 0, .string ⟨#[]⟩, .slice (some ⟨B + 1, 0, none⟩) 0 0, .string ⟨#[]⟩] 25) = wa) := Lib.hid (by rw [hwz, hwe, hwa])
  have HBB := Lib.hid hB
  have HBlt : Hid (B < wa.heap.size) := Lib.hid (by rw [← hwa]; simp; omega)
  clear h hU hs hAb hB hw0 hwz hz hbz ho0 hwe hze hbe hwa hba
  go_enter Try.func28, Try.ntmps28
  go_wp2_with fail
  rw [HBB.out, HWA.out]
  refine (pick_any b p 14 wa HK0.out.1.1 (by omega) (by omega) (by omega)).mono ?_
  rintro e w1 ⟨n, hn, rfl, hr, hg⟩
  have HK1 := Lib.hid (SD.read HK0.out hr hg)
  clear hr hg
  obtain ⟨S, hS⟩ : ∃ S, B + 1 + 1 = S := ⟨_, rfl⟩
  rw [hS] at HK1
  rw [hS]
  clear hS
  go_wp2
  go_loopw [7] (fun i wr => ∃ (k q N cap : Nat) (st : Int) (us tx : ByteArray) (A : Option Addr) (T : List ByteArray), k ≤ n ∧ i = .int .i64 (k : Int) ∧ q ≤ p + 1 + 8 * k ∧ Hid (sbV ⟨st, us, T, tx⟩ = true) ∧ Hid (SD w wr b q S st us tx A N cap T)) (fun i _ => n - (intOf i).toNat)
  case atStart => exact ⟨0, p + 1, 0, 0, 0, ⟨#[]⟩, ⟨#[]⟩, _, [], Nat.zero_le _, by go_num, by omega, Lib.hid rfl, HK1⟩
  case round =>
    obtain ⟨k, q, N, cap, st, us, tx, A, T, hk, rfl, hq, HV, HK⟩ := hrel
    have HUr := Lib.hid (HU.out.grown HK.out.1.2 HAB.out)
    by_cases hlt : k < n
    ·
      have h5 : (k : Int) < (n : Int) := by omega
      cases hvu : vU L with
      | false =>
        have HVU := Lib.hid hvu
        clear hvu
        go_wp2_with fail
        refine (spec_uv HVU.out _ HUr.out).mono ?_
        rintro e w2 ⟨rfl, hb⟩
        have HE := Lib.hid (SD.later HK.out hb)
        clear hb
        go_wp2_with fail
        refine (pick_any b q 20 _ HE.out.1.1 (by omega) (by omega) (by omega)).mono ?_
        rintro e w5 ⟨y, hy, rfl, hr, hg⟩
        have H5 := Lib.hid (SD.read HE.out hr hg)
        clear hr hg
        obtain ⟨v1, v2, v3, v4, v5, v6, v7⟩ := sbV_has HV.out
        simp only at v1 v2 v3 v4
        have HT := Lib.hid v3
        clear v3 v5 v6 v7
        by_cases h0 : y = 0
        ·
          subst h0
          go_wp2_with fail
          refine (pick_any b (q + 1) 9 _ H5.out.1.1 (by omega) (by omega) (by omega)).mono ?_
          rintro e w6 ⟨x, hx, rfl, hr, hg⟩
          have H6 := Lib.hid (SD.read H5.out hr hg)
          clear hr hg
          have W1 : IntKind.i64.wrap ((x : Int) - 1) = (x : Int) - 1 := IntWalk.i64_in _ (by omega)
          have hs0 := H6.out.2.1
          have e0 := hs0.free 0
          have d0 := hs0.cell 0
          have d1 := hs0.cell 1
          have d2 := hs0.cell 2
          have d3 := hs0.cell 3
          simp only [List.getElem?_toArray, List.getElem?_cons_zero, List.getElem?_cons_succ] at d0 d1 d2 d3
          have hK7 : SD w (w6.setCell ⟨S, 0, none⟩ (.int .i64 ((x : Int) - 1))) b _ S ((x : Int) - 1) us tx A N cap T := ⟨CG.set H6.out.1 H6.out.2.2.2.2.1 (by have := H6.out.2.2.2.2.2; omega) 0 _, hs0.store 0 _, H6.out.2.2.1.apart (p := ⟨S, 0, none⟩) (by have := H6.out.2.2.2.2.2; simp; omega) _, H6.out.2.2.2.1.store (p := ⟨S, 0, none⟩) (own_off H6.out.2.2.2.1 H6.out.2.1 (by decide)) _, H6.out.2.2.2.2⟩
          have H7 := Lib.hid hK7
          clear hs0 hK7
          have hs := H7.out.2.1
          have hr := H7.out.2.2.1
          have c0 := hs.cell 0
          have c1 := hs.cell 1
          have c2 := hs.cell 2
          have c3 := hs.cell 3
          simp only [List.getElem?_toArray, List.getElem?_cons_zero, List.getElem?_cons_succ] at c0 c1 c2 c3
          have z0 := hr.cell 0
          have z1 := hr.cell 1
          have z2 := hr.cell 2
          have z3 := hr.cell 3
          simp only [List.getElem?_toArray, List.getElem?_cons_zero, List.getElem?_cons_succ] at z0 z1 z2 z3
          have f0 := hr.free 0
          have f1 := hr.free 1
          have f2 := hr.free 2
          have f3 := hr.free 3
          have hf := put_sb hr (.int .i64 ((x : Int) - 1)) (.string us) (.slice A N cap) (.string tx)
          have r0 := hf.cell 0
          have r1 := hf.cell 1
          have r2 := hf.cell 2
          have r3 := hf.cell 3
          simp only [List.getElem?_toArray, List.getElem?_cons_zero, List.getElem?_cons_succ] at r0 r1 r2 r3
          clear hs hr hf
          try rw [HBB.out] at r0 r1 r2 r3 z0 z1 z2 z3 f0 f1 f2 f3
          go_wp2
          refine bodyPost_ret (v := .agg #[.int .i64 ((x : Int) - 1), .string us, .slice A N cap, .string tx]) (by simp [results, Try.results28, go_sem, r0, r1, r2, r3]) rfl ?_
          have ho := H7.out.2.2.2.1
          exact ⟨((x : Int) - 1), us, tx, A, N, cap, T, q + 1 + 1, rfl, by omega, by rw [← HBB.out]; exact CG.set4 H7.out.1 H7.out.2.2.2.2.1 (Nat.le_refl _) _ _ _ _, by rw [← HBB.out]; exact own_set4 ho (own_offq ho H7.out.2.2.1 (by decide)) _ _ _ _, Nat.le_trans v1 (by omega), Nat.le_trans v4 (by omega), Nat.le_trans v2 (by omega), fun g hg => Nat.le_trans (HT.out g hg) (by omega)⟩
        have h0' : ((y : Int) == 0) = false := beq_eq_false_iff_ne.2 (by omega)
        by_cases h1 : y = 1
        ·
          subst h1
          go_wp2_with fail
          refine (name_text b (q + 1) _ H5.out.1.1 (by omega)).mono ?_
          rintro e w6 ⟨s, hs, rfl, hr, hg⟩
          have H6 := Lib.hid (SD.read H5.out hr hg)
          clear hr hg
          have hs0 := H6.out.2.1
          have e1 := hs0.free 1
          have d0 := hs0.cell 0
          have d1 := hs0.cell 1
          have d2 := hs0.cell 2
          have d3 := hs0.cell 3
          simp only [List.getElem?_toArray, List.getElem?_cons_zero, List.getElem?_cons_succ] at d0 d1 d2 d3
          have hK7 : SD w (w6.setCell ⟨S, 1, none⟩ (.string s)) b _ S st s tx A N cap T := ⟨CG.set H6.out.1 H6.out.2.2.2.2.1 (by have := H6.out.2.2.2.2.2; omega) 1 _, hs0.store 1 _, H6.out.2.2.1.apart (p := ⟨S, 1, none⟩) (by have := H6.out.2.2.2.2.2; simp; omega) _, H6.out.2.2.2.1.store (p := ⟨S, 1, none⟩) (own_off H6.out.2.2.2.1 H6.out.2.1 (by decide)) _, H6.out.2.2.2.2⟩
          have H7 := Lib.hid hK7
          clear hs0 hK7
          have hs := H7.out.2.1
          have hr := H7.out.2.2.1
          have c0 := hs.cell 0
          have c1 := hs.cell 1
          have c2 := hs.cell 2
          have c3 := hs.cell 3
          simp only [List.getElem?_toArray, List.getElem?_cons_zero, List.getElem?_cons_succ] at c0 c1 c2 c3
          have z0 := hr.cell 0
          have z1 := hr.cell 1
          have z2 := hr.cell 2
          have z3 := hr.cell 3
          simp only [List.getElem?_toArray, List.getElem?_cons_zero, List.getElem?_cons_succ] at z0 z1 z2 z3
          have f0 := hr.free 0
          have f1 := hr.free 1
          have f2 := hr.free 2
          have f3 := hr.free 3
          have hf := put_sb hr (.int .i64 st) (.string s) (.slice A N cap) (.string tx)
          have r0 := hf.cell 0
          have r1 := hf.cell 1
          have r2 := hf.cell 2
          have r3 := hf.cell 3
          simp only [List.getElem?_toArray, List.getElem?_cons_zero, List.getElem?_cons_succ] at r0 r1 r2 r3
          clear hs hr hf
          try rw [HBB.out] at r0 r1 r2 r3 z0 z1 z2 z3 f0 f1 f2 f3
          go_wp2
          refine bodyPost_ret (v := .agg #[.int .i64 st, .string s, .slice A N cap, .string tx]) (by simp [results, Try.results28, go_sem, r0, r1, r2, r3]) rfl ?_
          have ho := H7.out.2.2.2.1
          exact ⟨st, s, tx, A, N, cap, T, q + 1 + 2, rfl, by omega, by rw [← HBB.out]; exact CG.set4 H7.out.1 H7.out.2.2.2.2.1 (Nat.le_refl _) _ _ _ _, by rw [← HBB.out]; exact own_set4 ho (own_offq ho H7.out.2.2.1 (by decide)) _ _ _ _, hs, Nat.le_trans v4 (by omega), Nat.le_trans v2 (by omega), fun g hg => Nat.le_trans (HT.out g hg) (by omega)⟩
        have h1' : ((y : Int) == 1) = false := beq_eq_false_iff_ne.2 (by omega)
        by_cases h2 : y = 2
        ·
          subst h2
          go_wp2_with fail
          refine (pick_any b (q + 1) 4 _ H5.out.1.1 (by omega) (by omega) (by omega)).mono ?_
          rintro e w6 ⟨x, hx, rfl, hr, hg⟩
          have H6 := Lib.hid (SD.read H5.out hr hg)
          clear hr hg
          obtain ⟨m, hm⟩ : ∃ m : Nat, 19 + x = m := ⟨_, rfl⟩
          have E1 : (19 : Int) + (x : Int) = (m : Int) := by omega
          have W1 : IntKind.i64.wrap (19 + (x : Int)) = (m : Int) := (IntWalk.i64_in _ (by omega)).trans E1
          go_wp2_with fail
          refine (spec_many m (by omega) _).mono ?_
          rintro e w9 ⟨s, hs, rfl, hw⟩
          subst hw
          have hs0 := H6.out.2.1
          have e3 := hs0.free 3
          have d0 := hs0.cell 0
          have d1 := hs0.cell 1
          have d2 := hs0.cell 2
          have d3 := hs0.cell 3
          simp only [List.getElem?_toArray, List.getElem?_cons_zero, List.getElem?_cons_succ] at d0 d1 d2 d3
          have hK7 : SD w (w9.setCell ⟨S, 3, none⟩ (.string s)) b _ S st us s A N cap T := ⟨CG.set H6.out.1 H6.out.2.2.2.2.1 (by have := H6.out.2.2.2.2.2; omega) 3 _, hs0.store 3 _, H6.out.2.2.1.apart (p := ⟨S, 3, none⟩) (by have := H6.out.2.2.2.2.2; simp; omega) _, H6.out.2.2.2.1.store (p := ⟨S, 3, none⟩) (own_off H6.out.2.2.2.1 H6.out.2.1 (by decide)) _, H6.out.2.2.2.2⟩
          have H7 := Lib.hid hK7
          clear hs0 hK7
          have hs := H7.out.2.1
          have hr := H7.out.2.2.1
          have c0 := hs.cell 0
          have c1 := hs.cell 1
          have c2 := hs.cell 2
          have c3 := hs.cell 3
          simp only [List.getElem?_toArray, List.getElem?_cons_zero, List.getElem?_cons_succ] at c0 c1 c2 c3
          have z0 := hr.cell 0
          have z1 := hr.cell 1
          have z2 := hr.cell 2
          have z3 := hr.cell 3
          simp only [List.getElem?_toArray, List.getElem?_cons_zero, List.getElem?_cons_succ] at z0 z1 z2 z3
          have f0 := hr.free 0
          have f1 := hr.free 1
          have f2 := hr.free 2
          have f3 := hr.free 3
          have hf := put_sb hr (.int .i64 st) (.string us) (.slice A N cap) (.string s)
          have r0 := hf.cell 0
          have r1 := hf.cell 1
          have r2 := hf.cell 2
          have r3 := hf.cell 3
          simp only [List.getElem?_toArray, List.getElem?_cons_zero, List.getElem?_cons_succ] at r0 r1 r2 r3
          clear hs hr hf
          try rw [HBB.out] at r0 r1 r2 r3 z0 z1 z2 z3 f0 f1 f2 f3
          go_wp2
          refine bodyPost_ret (v := .agg #[.int .i64 st, .string us, .slice A N cap, .string s]) (by simp [results, Try.results28, go_sem, r0, r1, r2, r3]) rfl ?_
          have ho := H7.out.2.2.2.1
          exact ⟨st, us, s, A, N, cap, T, q + 1 + 1, rfl, by omega, by rw [← HBB.out]; exact CG.set4 H7.out.1 H7.out.2.2.2.2.1 (Nat.le_refl _) _ _ _ _, by rw [← HBB.out]; exact own_set4 ho (own_offq ho H7.out.2.2.1 (by decide)) _ _ _ _, Nat.le_trans v1 (by omega), by omega, Nat.le_trans v2 (by omega), fun g hg => Nat.le_trans (HT.out g hg) (by omega)⟩
        have h2' : ((y : Int) == 2) = false := beq_eq_false_iff_ne.2 (by omega)
        by_cases h3 : y = 3
        ·
          subst h3
          go_wp2_with fail
          refine (to_draw b (q + 1) _ H5.out.1.1 (by omega)).mono ?_
          rintro e w6 ⟨A6, N6, cap6, T6, q6, rfl, hq6, hr, ho6, hg, hl6, hs6⟩
          have H6 := Lib.hid (SD.read H5.out hr hg)
          have HO6 := Lib.hid (ho6.from (B' := w.heap.size) H5.out.1.2.size)
          have HS6 := Lib.hid hs6
          clear hr hg ho6 hs6
          have hs0 := H6.out.2.1
          have e2 := hs0.free 2
          have d0 := hs0.cell 0
          have d1 := hs0.cell 1
          have d2 := hs0.cell 2
          have d3 := hs0.cell 3
          simp only [List.getElem?_toArray, List.getElem?_cons_zero, List.getElem?_cons_succ] at d0 d1 d2 d3
          have hK7 : SD w (w6.setCell ⟨S, 2, none⟩ (.slice A6 N6 cap6)) b _ S st us tx A6 N6 cap6 T6 := ⟨CG.set H6.out.1 H6.out.2.2.2.2.1 (by have := H6.out.2.2.2.2.2; omega) 2 _, hs0.store 2 _, H6.out.2.2.1.apart (p := ⟨S, 2, none⟩) (by have := H6.out.2.2.2.2.2; simp; omega) _, HO6.out.store (p := ⟨S, 2, none⟩) (own_off HO6.out H6.out.2.1 (by decide)) _, H6.out.2.2.2.2⟩
          have H7 := Lib.hid hK7
          clear hs0 hK7
          have hs := H7.out.2.1
          have hr := H7.out.2.2.1
          have c0 := hs.cell 0
          have c1 := hs.cell 1
          have c2 := hs.cell 2
          have c3 := hs.cell 3
          simp only [List.getElem?_toArray, List.getElem?_cons_zero, List.getElem?_cons_succ] at c0 c1 c2 c3
          have z0 := hr.cell 0
          have z1 := hr.cell 1
          have z2 := hr.cell 2
          have z3 := hr.cell 3
          simp only [List.getElem?_toArray, List.getElem?_cons_zero, List.getElem?_cons_succ] at z0 z1 z2 z3
          have f0 := hr.free 0
          have f1 := hr.free 1
          have f2 := hr.free 2
          have f3 := hr.free 3
          have hf := put_sb hr (.int .i64 st) (.string us) (.slice A6 N6 cap6) (.string tx)
          have r0 := hf.cell 0
          have r1 := hf.cell 1
          have r2 := hf.cell 2
          have r3 := hf.cell 3
          simp only [List.getElem?_toArray, List.getElem?_cons_zero, List.getElem?_cons_succ] at r0 r1 r2 r3
          clear hs hr hf
          try rw [HBB.out] at r0 r1 r2 r3 z0 z1 z2 z3 f0 f1 f2 f3
          go_wp2
          refine bodyPost_ret (v := .agg #[.int .i64 st, .string us, .slice A6 N6 cap6, .string tx]) (by simp [results, Try.results28, go_sem, r0, r1, r2, r3]) rfl ?_
          have ho := H7.out.2.2.2.1
          exact ⟨st, us, tx, A6, N6, cap6, T6, q6, rfl, by omega, by rw [← HBB.out]; exact CG.set4 H7.out.1 H7.out.2.2.2.2.1 (Nat.le_refl _) _ _ _ _, by rw [← HBB.out]; exact own_set4 ho (own_offq ho H7.out.2.2.1 (by decide)) _ _ _ _, Nat.le_trans v1 (by omega), Nat.le_trans v4 (by omega), hl6, HS6.out⟩
        have h3' : ((y : Int) == 3) = false := beq_eq_false_iff_ne.2 (by omega)
        have hs := H5.out.2.1
        have hr := H5.out.2.2.1
        have c0 := hs.cell 0
        have c1 := hs.cell 1
        have c2 := hs.cell 2
        have c3 := hs.cell 3
        simp only [List.getElem?_toArray, List.getElem?_cons_zero, List.getElem?_cons_succ] at c0 c1 c2 c3
        have z0 := hr.cell 0
        have z1 := hr.cell 1
        have z2 := hr.cell 2
        have z3 := hr.cell 3
        simp only [List.getElem?_toArray, List.getElem?_cons_zero, List.getElem?_cons_succ] at z0 z1 z2 z3
        have f0 := hr.free 0
        have f1 := hr.free 1
        have f2 := hr.free 2
        have f3 := hr.free 3
        have hf := put_sb hr (.int .i64 st) (.string us) (.slice A N cap) (.string tx)
        have r0 := hf.cell 0
        have r1 := hf.cell 1
        have r2 := hf.cell 2
        have r3 := hf.cell 3
        simp only [List.getElem?_toArray, List.getElem?_cons_zero, List.getElem?_cons_succ] at r0 r1 r2 r3
        clear hs hr hf
        try rw [HBB.out] at r0 r1 r2 r3 z0 z1 z2 z3 f0 f1 f2 f3
        go_wp2
        refine bodyPost_ret (v := .agg #[.int .i64 st, .string us, .slice A N cap, .string tx]) (by simp [results, Try.results28, go_sem, r0, r1, r2, r3]) rfl ?_
        have ho := H5.out.2.2.2.1
        exact ⟨st, us, tx, A, N, cap, T, q + 1, rfl, by omega, by rw [← HBB.out]; exact CG.set4 H5.out.1 H5.out.2.2.2.2.1 (Nat.le_refl _) _ _ _ _, by rw [← HBB.out]; exact own_set4 ho (own_offq ho H5.out.2.2.1 (by decide)) _ _ _ _, Nat.le_trans v1 (by omega), Nat.le_trans v4 (by omega), Nat.le_trans v2 (by omega), fun g hg => Nat.le_trans (HT.out g hg) (by omega)⟩
      | true =>
        have HVU := Lib.hid hvu
        clear hvu
        go_wp2_with fail
        refine (spec_uv HVU.out _ HUr.out).mono ?_
        rintro e w2 ⟨rfl, hb⟩
        have H2 := Lib.hid (SD.later HK.out hb)
        have HU2 := Lib.hid (HUr.out.below hb (Nat.le_refl _))
        clear hb
        have hs := H2.out.2.1
        have c0 := hs.cell 0
        have c1 := hs.cell 1
        have c2 := hs.cell 2
        have c3 := hs.cell 3
        simp only [List.getElem?_toArray, List.getElem?_cons_zero, List.getElem?_cons_succ] at c0 c1 c2 c3
        clear hs
        obtain ⟨v1, v2, v3, v4, -⟩ := sbV_has HV.out
        simp only at v1 v2 v3 v4
        have HT := Lib.hid v3
        clear v3
        go_wp2
        go_region_with (first
          | (have hq := HK3
             go_at_call 45
             have HC := (spec_subline st us tx ⟨#[104, 111, 115, 116, 46, 111, 114, 103]⟩ l HUPu HUPo T L A AU N cap NU cU w3 (SIn.made HK3.out.2.2.2.1 (by omega) (fun g hg => Nat.le_trans (HT.out g hg) (by omega))) HU3.out (by omega) (by decide) (by omega) (fun _ => HUP.out))
             rw [HR4.out] at HC
             refine HC.mono ?_
             rintro e w4 ⟨A4, N4, cap4, rfl, ho4, hb4⟩
             have HO4 := Lib.hid ho4
             have HK4 := Lib.hid (SD.later HK3.out hb4)
             have hs4 := HK4.out.2.1
             have m0 := hs4.cell 0
             have m1 := hs4.cell 1
             have m2 := hs4.cell 2
             have m3 := hs4.cell 3
             have e0 := hs4.free 0
             have e1 := hs4.free 1
             have e2 := hs4.free 2
             have e3 := hs4.free 3
             simp only [List.getElem?_toArray, List.getElem?_cons_zero, List.getElem?_cons_succ] at m0 m1 m2 m3
             clear hq HC ho4 hb4 hs4)
          | (go_at_call 46
             refine (cmd_draw b q st us tx A AU N cap NU cU L w2.drew (show Rd w2.drew b q from H2.out.1.1) (by omega) (show UIn w2.drew AU NU cU L from HU2.out) HSZ.out HAB.out (by omega)).mono ?_
             rintro e w3 ⟨l, q3, hl3, hq3, rfl, hr, hg⟩
             have HK3 := Lib.hid (SD.read (wr := w2.drew) (show SD w w2.drew b q S st us tx A N cap T from ⟨⟨H2.out.1.1, gr_drew H2.out.1.2⟩, H2.out.2⟩) hr hg)
             have HU3 := Lib.hid (UIn.grown (w := w2.drew) (show UIn w2.drew AU NU cU L from HU2.out) hg HAB.out)
             obtain ⟨HUPu, HUPo, hup⟩ := isUp_any L ((wdsF l).getD 2 eB)
             have HUP := Lib.hid hup
             obtain ⟨⟨⟨st4, us4, T4, tx4⟩, n4⟩, hr4⟩ : ∃ x, lineV ⟨st, us, T, tx⟩ L ⟨#[104, 111, 115, 116, 46, 111, 114, 103]⟩ l HUPu HUPo = x := ⟨_, rfl⟩
             have HR4 := Lib.hid hr4
             have HV4 : Hid (sbV ⟨st4, us4, T4, tx4⟩ = true) := Lib.hid (by have h9 := lineV_valid (s := ⟨st, us, T, tx⟩) (L := L) (d := ⟨#[104, 111, 115, 116, 46, 111, 114, 103]⟩) (l := l) (u := HUPu) (o := HUPo) (fun e => by subst e; exact isUp_name hup); rw [hr4] at h9; exact h9)
             have hs3 := HK3.out.2.1
             have k0 := hs3.cell 0
             have k1 := hs3.cell 1
             have k2 := hs3.cell 2
             have k3 := hs3.cell 3
             simp only [List.getElem?_toArray, List.getElem?_cons_zero, List.getElem?_cons_succ] at k0 k1 k2 k3
             clear hr hg hup hs3 hr4))
        all_goals
          go_wp2
          go_roundw
          case rel => exact ⟨k + 1, q3, N4, cap4, st4, us4, tx4, A4, T4, by omega, by go_num, by omega, HV4, Lib.hid (SD.put HK4.out HO4.out (by have h9 := HK3.out.1.2.size; exact h9))⟩
          case measure => simp [intOf]; omega
    ·
      have h5 : ¬ (k : Int) < (n : Int) := by omega
      have HE := HK
      go_wp2_with fail
      refine (pick_any b q 20 _ HE.out.1.1 (by omega) (by omega) (by omega)).mono ?_
      rintro e w5 ⟨y, hy, rfl, hr, hg⟩
      have H5 := Lib.hid (SD.read HE.out hr hg)
      clear hr hg
      obtain ⟨v1, v2, v3, v4, v5, v6, v7⟩ := sbV_has HV.out
      simp only at v1 v2 v3 v4
      have HT := Lib.hid v3
      clear v3 v5 v6 v7
      by_cases h0 : y = 0
      ·
        subst h0
        go_wp2_with fail
        refine (pick_any b (q + 1) 9 _ H5.out.1.1 (by omega) (by omega) (by omega)).mono ?_
        rintro e w6 ⟨x, hx, rfl, hr, hg⟩
        have H6 := Lib.hid (SD.read H5.out hr hg)
        clear hr hg
        have W1 : IntKind.i64.wrap ((x : Int) - 1) = (x : Int) - 1 := IntWalk.i64_in _ (by omega)
        have hs0 := H6.out.2.1
        have e0 := hs0.free 0
        have d0 := hs0.cell 0
        have d1 := hs0.cell 1
        have d2 := hs0.cell 2
        have d3 := hs0.cell 3
        simp only [List.getElem?_toArray, List.getElem?_cons_zero, List.getElem?_cons_succ] at d0 d1 d2 d3
        have hK7 : SD w (w6.setCell ⟨S, 0, none⟩ (.int .i64 ((x : Int) - 1))) b _ S ((x : Int) - 1) us tx A N cap T := ⟨CG.set H6.out.1 H6.out.2.2.2.2.1 (by have := H6.out.2.2.2.2.2; omega) 0 _, hs0.store 0 _, H6.out.2.2.1.apart (p := ⟨S, 0, none⟩) (by have := H6.out.2.2.2.2.2; simp; omega) _, H6.out.2.2.2.1.store (p := ⟨S, 0, none⟩) (own_off H6.out.2.2.2.1 H6.out.2.1 (by decide)) _, H6.out.2.2.2.2⟩
        have H7 := Lib.hid hK7
        clear hs0 hK7
        have hs := H7.out.2.1
        have hr := H7.out.2.2.1
        have c0 := hs.cell 0
        have c1 := hs.cell 1
        have c2 := hs.cell 2
        have c3 := hs.cell 3
        simp only [List.getElem?_toArray, List.getElem?_cons_zero, List.getElem?_cons_succ] at c0 c1 c2 c3
        have z0 := hr.cell 0
        have z1 := hr.cell 1
        have z2 := hr.cell 2
        have z3 := hr.cell 3
        simp only [List.getElem?_toArray, List.getElem?_cons_zero, List.getElem?_cons_succ] at z0 z1 z2 z3
        have f0 := hr.free 0
        have f1 := hr.free 1
        have f2 := hr.free 2
        have f3 := hr.free 3
        have hf := put_sb hr (.int .i64 ((x : Int) - 1)) (.string us) (.slice A N cap) (.string tx)
        have r0 := hf.cell 0
        have r1 := hf.cell 1
        have r2 := hf.cell 2
        have r3 := hf.cell 3
        simp only [List.getElem?_toArray, List.getElem?_cons_zero, List.getElem?_cons_succ] at r0 r1 r2 r3
        clear hs hr hf
        try rw [HBB.out] at r0 r1 r2 r3 z0 z1 z2 z3 f0 f1 f2 f3
        go_wp2
        refine bodyPost_ret (v := .agg #[.int .i64 ((x : Int) - 1), .string us, .slice A N cap, .string tx]) (by simp [results, Try.results28, go_sem, r0, r1, r2, r3]) rfl ?_
        have ho := H7.out.2.2.2.1
        exact ⟨((x : Int) - 1), us, tx, A, N, cap, T, q + 1 + 1, rfl, by omega, by rw [← HBB.out]; exact CG.set4 H7.out.1 H7.out.2.2.2.2.1 (Nat.le_refl _) _ _ _ _, by rw [← HBB.out]; exact own_set4 ho (own_offq ho H7.out.2.2.1 (by decide)) _ _ _ _, Nat.le_trans v1 (by omega), Nat.le_trans v4 (by omega), Nat.le_trans v2 (by omega), fun g hg => Nat.le_trans (HT.out g hg) (by omega)⟩
      have h0' : ((y : Int) == 0) = false := beq_eq_false_iff_ne.2 (by omega)
      by_cases h1 : y = 1
      ·
        subst h1
        go_wp2_with fail
        refine (name_text b (q + 1) _ H5.out.1.1 (by omega)).mono ?_
        rintro e w6 ⟨s, hs, rfl, hr, hg⟩
        have H6 := Lib.hid (SD.read H5.out hr hg)
        clear hr hg
        have hs0 := H6.out.2.1
        have e1 := hs0.free 1
        have d0 := hs0.cell 0
        have d1 := hs0.cell 1
        have d2 := hs0.cell 2
        have d3 := hs0.cell 3
        simp only [List.getElem?_toArray, List.getElem?_cons_zero, List.getElem?_cons_succ] at d0 d1 d2 d3
        have hK7 : SD w (w6.setCell ⟨S, 1, none⟩ (.string s)) b _ S st s tx A N cap T := ⟨CG.set H6.out.1 H6.out.2.2.2.2.1 (by have := H6.out.2.2.2.2.2; omega) 1 _, hs0.store 1 _, H6.out.2.2.1.apart (p := ⟨S, 1, none⟩) (by have := H6.out.2.2.2.2.2; simp; omega) _, H6.out.2.2.2.1.store (p := ⟨S, 1, none⟩) (own_off H6.out.2.2.2.1 H6.out.2.1 (by decide)) _, H6.out.2.2.2.2⟩
        have H7 := Lib.hid hK7
        clear hs0 hK7
        have hs := H7.out.2.1
        have hr := H7.out.2.2.1
        have c0 := hs.cell 0
        have c1 := hs.cell 1
        have c2 := hs.cell 2
        have c3 := hs.cell 3
        simp only [List.getElem?_toArray, List.getElem?_cons_zero, List.getElem?_cons_succ] at c0 c1 c2 c3
        have z0 := hr.cell 0
        have z1 := hr.cell 1
        have z2 := hr.cell 2
        have z3 := hr.cell 3
        simp only [List.getElem?_toArray, List.getElem?_cons_zero, List.getElem?_cons_succ] at z0 z1 z2 z3
        have f0 := hr.free 0
        have f1 := hr.free 1
        have f2 := hr.free 2
        have f3 := hr.free 3
        have hf := put_sb hr (.int .i64 st) (.string s) (.slice A N cap) (.string tx)
        have r0 := hf.cell 0
        have r1 := hf.cell 1
        have r2 := hf.cell 2
        have r3 := hf.cell 3
        simp only [List.getElem?_toArray, List.getElem?_cons_zero, List.getElem?_cons_succ] at r0 r1 r2 r3
        clear hs hr hf
        try rw [HBB.out] at r0 r1 r2 r3 z0 z1 z2 z3 f0 f1 f2 f3
        go_wp2
        refine bodyPost_ret (v := .agg #[.int .i64 st, .string s, .slice A N cap, .string tx]) (by simp [results, Try.results28, go_sem, r0, r1, r2, r3]) rfl ?_
        have ho := H7.out.2.2.2.1
        exact ⟨st, s, tx, A, N, cap, T, q + 1 + 2, rfl, by omega, by rw [← HBB.out]; exact CG.set4 H7.out.1 H7.out.2.2.2.2.1 (Nat.le_refl _) _ _ _ _, by rw [← HBB.out]; exact own_set4 ho (own_offq ho H7.out.2.2.1 (by decide)) _ _ _ _, hs, Nat.le_trans v4 (by omega), Nat.le_trans v2 (by omega), fun g hg => Nat.le_trans (HT.out g hg) (by omega)⟩
      have h1' : ((y : Int) == 1) = false := beq_eq_false_iff_ne.2 (by omega)
      by_cases h2 : y = 2
      ·
        subst h2
        go_wp2_with fail
        refine (pick_any b (q + 1) 4 _ H5.out.1.1 (by omega) (by omega) (by omega)).mono ?_
        rintro e w6 ⟨x, hx, rfl, hr, hg⟩
        have H6 := Lib.hid (SD.read H5.out hr hg)
        clear hr hg
        obtain ⟨m, hm⟩ : ∃ m : Nat, 19 + x = m := ⟨_, rfl⟩
        have E1 : (19 : Int) + (x : Int) = (m : Int) := by omega
        have W1 : IntKind.i64.wrap (19 + (x : Int)) = (m : Int) := (IntWalk.i64_in _ (by omega)).trans E1
        go_wp2_with fail
        refine (spec_many m (by omega) _).mono ?_
        rintro e w9 ⟨s, hs, rfl, hw⟩
        subst hw
        have hs0 := H6.out.2.1
        have e3 := hs0.free 3
        have d0 := hs0.cell 0
        have d1 := hs0.cell 1
        have d2 := hs0.cell 2
        have d3 := hs0.cell 3
        simp only [List.getElem?_toArray, List.getElem?_cons_zero, List.getElem?_cons_succ] at d0 d1 d2 d3
        have hK7 : SD w (w9.setCell ⟨S, 3, none⟩ (.string s)) b _ S st us s A N cap T := ⟨CG.set H6.out.1 H6.out.2.2.2.2.1 (by have := H6.out.2.2.2.2.2; omega) 3 _, hs0.store 3 _, H6.out.2.2.1.apart (p := ⟨S, 3, none⟩) (by have := H6.out.2.2.2.2.2; simp; omega) _, H6.out.2.2.2.1.store (p := ⟨S, 3, none⟩) (own_off H6.out.2.2.2.1 H6.out.2.1 (by decide)) _, H6.out.2.2.2.2⟩
        have H7 := Lib.hid hK7
        clear hs0 hK7
        have hs := H7.out.2.1
        have hr := H7.out.2.2.1
        have c0 := hs.cell 0
        have c1 := hs.cell 1
        have c2 := hs.cell 2
        have c3 := hs.cell 3
        simp only [List.getElem?_toArray, List.getElem?_cons_zero, List.getElem?_cons_succ] at c0 c1 c2 c3
        have z0 := hr.cell 0
        have z1 := hr.cell 1
        have z2 := hr.cell 2
        have z3 := hr.cell 3
        simp only [List.getElem?_toArray, List.getElem?_cons_zero, List.getElem?_cons_succ] at z0 z1 z2 z3
        have f0 := hr.free 0
        have f1 := hr.free 1
        have f2 := hr.free 2
        have f3 := hr.free 3
        have hf := put_sb hr (.int .i64 st) (.string us) (.slice A N cap) (.string s)
        have r0 := hf.cell 0
        have r1 := hf.cell 1
        have r2 := hf.cell 2
        have r3 := hf.cell 3
        simp only [List.getElem?_toArray, List.getElem?_cons_zero, List.getElem?_cons_succ] at r0 r1 r2 r3
        clear hs hr hf
        try rw [HBB.out] at r0 r1 r2 r3 z0 z1 z2 z3 f0 f1 f2 f3
        go_wp2
        refine bodyPost_ret (v := .agg #[.int .i64 st, .string us, .slice A N cap, .string s]) (by simp [results, Try.results28, go_sem, r0, r1, r2, r3]) rfl ?_
        have ho := H7.out.2.2.2.1
        exact ⟨st, us, s, A, N, cap, T, q + 1 + 1, rfl, by omega, by rw [← HBB.out]; exact CG.set4 H7.out.1 H7.out.2.2.2.2.1 (Nat.le_refl _) _ _ _ _, by rw [← HBB.out]; exact own_set4 ho (own_offq ho H7.out.2.2.1 (by decide)) _ _ _ _, Nat.le_trans v1 (by omega), by omega, Nat.le_trans v2 (by omega), fun g hg => Nat.le_trans (HT.out g hg) (by omega)⟩
      have h2' : ((y : Int) == 2) = false := beq_eq_false_iff_ne.2 (by omega)
      by_cases h3 : y = 3
      ·
        subst h3
        go_wp2_with fail
        refine (to_draw b (q + 1) _ H5.out.1.1 (by omega)).mono ?_
        rintro e w6 ⟨A6, N6, cap6, T6, q6, rfl, hq6, hr, ho6, hg, hl6, hs6⟩
        have H6 := Lib.hid (SD.read H5.out hr hg)
        have HO6 := Lib.hid (ho6.from (B' := w.heap.size) H5.out.1.2.size)
        have HS6 := Lib.hid hs6
        clear hr hg ho6 hs6
        have hs0 := H6.out.2.1
        have e2 := hs0.free 2
        have d0 := hs0.cell 0
        have d1 := hs0.cell 1
        have d2 := hs0.cell 2
        have d3 := hs0.cell 3
        simp only [List.getElem?_toArray, List.getElem?_cons_zero, List.getElem?_cons_succ] at d0 d1 d2 d3
        have hK7 : SD w (w6.setCell ⟨S, 2, none⟩ (.slice A6 N6 cap6)) b _ S st us tx A6 N6 cap6 T6 := ⟨CG.set H6.out.1 H6.out.2.2.2.2.1 (by have := H6.out.2.2.2.2.2; omega) 2 _, hs0.store 2 _, H6.out.2.2.1.apart (p := ⟨S, 2, none⟩) (by have := H6.out.2.2.2.2.2; simp; omega) _, HO6.out.store (p := ⟨S, 2, none⟩) (own_off HO6.out H6.out.2.1 (by decide)) _, H6.out.2.2.2.2⟩
        have H7 := Lib.hid hK7
        clear hs0 hK7
        have hs := H7.out.2.1
        have hr := H7.out.2.2.1
        have c0 := hs.cell 0
        have c1 := hs.cell 1
        have c2 := hs.cell 2
        have c3 := hs.cell 3
        simp only [List.getElem?_toArray, List.getElem?_cons_zero, List.getElem?_cons_succ] at c0 c1 c2 c3
        have z0 := hr.cell 0
        have z1 := hr.cell 1
        have z2 := hr.cell 2
        have z3 := hr.cell 3
        simp only [List.getElem?_toArray, List.getElem?_cons_zero, List.getElem?_cons_succ] at z0 z1 z2 z3
        have f0 := hr.free 0
        have f1 := hr.free 1
        have f2 := hr.free 2
        have f3 := hr.free 3
        have hf := put_sb hr (.int .i64 st) (.string us) (.slice A6 N6 cap6) (.string tx)
        have r0 := hf.cell 0
        have r1 := hf.cell 1
        have r2 := hf.cell 2
        have r3 := hf.cell 3
        simp only [List.getElem?_toArray, List.getElem?_cons_zero, List.getElem?_cons_succ] at r0 r1 r2 r3
        clear hs hr hf
        try rw [HBB.out] at r0 r1 r2 r3 z0 z1 z2 z3 f0 f1 f2 f3
        go_wp2
        refine bodyPost_ret (v := .agg #[.int .i64 st, .string us, .slice A6 N6 cap6, .string tx]) (by simp [results, Try.results28, go_sem, r0, r1, r2, r3]) rfl ?_
        have ho := H7.out.2.2.2.1
        exact ⟨st, us, tx, A6, N6, cap6, T6, q6, rfl, by omega, by rw [← HBB.out]; exact CG.set4 H7.out.1 H7.out.2.2.2.2.1 (Nat.le_refl _) _ _ _ _, by rw [← HBB.out]; exact own_set4 ho (own_offq ho H7.out.2.2.1 (by decide)) _ _ _ _, Nat.le_trans v1 (by omega), Nat.le_trans v4 (by omega), hl6, HS6.out⟩
      have h3' : ((y : Int) == 3) = false := beq_eq_false_iff_ne.2 (by omega)
      have hs := H5.out.2.1
      have hr := H5.out.2.2.1
      have c0 := hs.cell 0
      have c1 := hs.cell 1
      have c2 := hs.cell 2
      have c3 := hs.cell 3
      simp only [List.getElem?_toArray, List.getElem?_cons_zero, List.getElem?_cons_succ] at c0 c1 c2 c3
      have z0 := hr.cell 0
      have z1 := hr.cell 1
      have z2 := hr.cell 2
      have z3 := hr.cell 3
      simp only [List.getElem?_toArray, List.getElem?_cons_zero, List.getElem?_cons_succ] at z0 z1 z2 z3
      have f0 := hr.free 0
      have f1 := hr.free 1
      have f2 := hr.free 2
      have f3 := hr.free 3
      have hf := put_sb hr (.int .i64 st) (.string us) (.slice A N cap) (.string tx)
      have r0 := hf.cell 0
      have r1 := hf.cell 1
      have r2 := hf.cell 2
      have r3 := hf.cell 3
      simp only [List.getElem?_toArray, List.getElem?_cons_zero, List.getElem?_cons_succ] at r0 r1 r2 r3
      clear hs hr hf
      try rw [HBB.out] at r0 r1 r2 r3 z0 z1 z2 z3 f0 f1 f2 f3
      go_wp2
      refine bodyPost_ret (v := .agg #[.int .i64 st, .string us, .slice A N cap, .string tx]) (by simp [results, Try.results28, go_sem, r0, r1, r2, r3]) rfl ?_
      have ho := H5.out.2.2.2.1
      exact ⟨st, us, tx, A, N, cap, T, q + 1, rfl, by omega, by rw [← HBB.out]; exact CG.set4 H5.out.1 H5.out.2.2.2.2.1 (Nat.le_refl _) _ _ _ _, by rw [← HBB.out]; exact own_set4 ho (own_offq ho H5.out.2.2.1 (by decide)) _ _ _ _, Nat.le_trans v1 (by omega), Nat.le_trans v4 (by omega), Nat.le_trans v2 (by omega), fun g hg => Nat.le_trans (HT.out g hg) (by omega)⟩
end Go.Proofs.Ytichajalinkcdaa
