/-
  The contracts of the drawers l91Odd and DrawKeyValid. Condition: the code can be read.
-/
import Derived.Test.YtpihibconbejlaaDoorKc
import Derived.Test.YtpihibconbejlaaDoorDraws
namespace Go.Proofs.YtpihibconbejlaaDoor
open Go.RowKit
set_option linter.unusedVariables false

/-- The drawer of a key, at its depth. -/
def KD3 : Prop := ∀ (b p : Nat) (w : World), Rd w b p → p ≤ 400000 → Calls Tryd.prog 68 #[.pointer (some ⟨b, 0, none⟩), .int .i64 3] w (DrewK w b p 3)
/-- A drawn key, perhaps an odd one. -/
def DrewO (w : World) (b p : Nat) (e : Ending) (w' : World) : Prop := ∃ (k : KT) (r : KR) (q : Nat), e = .returned (kval r) ∧ KA w.heap.size w'.heap.size w' k (kval r) ∧ Nice r ∧ nodesT k ≤ 16 ∧ q ≤ p + 1000 ∧ Rd w' b q ∧ w.grownBy w' (some b)
theorem drewo_end {w w2 : World} {b p S q lo hi : Nat} {k : KT} {r : KR} {a0 a1 a2 a3 a4 : Value} (hS : w.heap.size = S) (hb : b < S) (hk : KA lo hi w2 k (kval r)) (hlo : S + 1 ≤ lo) (hhi : hi ≤ w2.heap.size) (hn : nodesT k ≤ 16) (hq : q ≤ p + 1000) (hr : Rd w2 b q) (hg : w.grownBy w2 (some b)) (hni : Nice r) :
    DrewO w b p (.returned (kval r)) (st5 w2 S a0 a1 a2 a3 a4) := by
  have h5 := gr_st5 w2 S a0 a1 a2 a3 a4
  refine ⟨k, r, q, rfl, ?_, hni, hn, hq, hr.grown h5 hb, gr_row1 hg h5 (fun g e => by cases e; omega)⟩
  exact (hk.grown h5 (fun g e => by cases e; omega)).widen (by omega) (Nat.le_trans hhi h5.size)
theorem ka_row {lo hi : Nat} {w : World} {k : KT} {a0 a1 : Int} {a2 : ByteArray} {s a : Option Addr × Nat × Nat} (h : KA lo hi w k (kval (a0, a1, a2, s, a))) : ∃ S ks, k = .mk a0 a1 a2 S ks := by
  obtain ⟨kd, f, t, S, ks⟩ := k
  unfold KA at h
  obtain ⟨AS, nS, cS, AK, nK, cK, he, -⟩ := h.open
  simp at he
  obtain ⟨rfl, rfl, rfl, -, -⟩ := he
  exact ⟨S, ks, rfl⟩
theorem ka_set {lo hi : Nat} {w : World} {a0 a1 : Int} {a2 : ByteArray} {s a : Option Addr × Nat × Nat} {S : List (Int × Int)} {ks : List KT} (h : KA lo hi w (.mk a0 a1 a2 S ks) (kval (a0, a1, a2, s, a))) (b0 b1 : Int) (b2 : ByteArray) (hb : b2.size ≤ 16777216) : KA lo hi w (.mk b0 b1 b2 S ks) (kval (b0, b1, b2, s, a)) := by
  unfold KA at h ⊢
  rw [KV] at h ⊢
  obtain ⟨AS, nS, cS, AK, nK, cK, he, h2, h3, h4, h5, h6, h7⟩ := h
  refine ⟨AS, nS, cS, AK, nK, cK, ?_, h2, h3, hb, h5, h6, h7⟩
  simp at he ⊢
  exact he
theorem RAt.mono {α : Type} {R : RowT α} {w w' : World} {A : Option Addr} {L : List α} (hz : w.heap.size ≤ w'.heap.size) (hc : ∀ p u, w.cell? p = some u → w'.cell? p = some u) (h : RAt R w A L) : RAt R w' A L := fun i x hx => by
  obtain ⟨b, o, hA, hb, h1⟩ := h i x hx
  exact ⟨b, o, hA, by omega, fun j u hu => hc _ _ (h1 j u hu)⟩
/-- A key's parts, as rows. -/
theorem ka_parts {lo hi : Nat} {w : World} {a0 a1 : Int} {a2 : ByteArray} {a3 : Option Addr} {a4 a5 : Nat} {a6 : Option Addr} {a7 a8 : Nat} {S : List (Int × Int)} {ks : List KT} (h : KA lo hi w (.mk a0 a1 a2 S ks) (kval (a0, a1, a2, (a3, a4, a5), (a6, a7, a8)))) :
    ∃ rs, KRs (KA lo hi w) ks rs ∧ RAt keyR w a6 rs ∧ rs.length = a7 ∧ SpA (low lo hi w) a3 S ∧ S.length = a4 ∧ a4 ≤ 33554432 ∧ a2.size ≤ 16777216 := by
  unfold KA at h
  obtain ⟨AS, nS, cS, AK, nK, cK, he, h2, h3, h4, h5, h6, h7⟩ := h.open
  simp at he
  obtain ⟨⟨rfl, rfl, rfl⟩, rfl, rfl, rfl⟩ := he
  obtain ⟨rs, h8, h9⟩ := kvs_at h7
  exact ⟨rs, h8, h9.mono (Nat.le_of_eq (low_size _ _ _)) (fun p u hp => (low_out hp).2.2.2), by rw [← h8.len]; exact h6, h5, h2, h3, h4⟩
theorem SpA.lowered {lo hi lo' hi' : Nat} {w w' : World} {row : Option Nat} {A : Option Addr} {L : List (Int × Int)} (h : SpA (low lo hi w) A L) (hg : w.grownBy w' row) (hr : ∀ g, row = some g → g < lo ∨ hi ≤ g) (h1 : lo' ≤ lo) (h2 : hi ≤ hi') : SpA (low lo' hi' w') A L :=
  h.mono (by rw [low_size, low_size]; exact hg.size) (fun p u hp => by
    obtain ⟨h3, h4, h5, h6⟩ := low_out hp
    rw [low_in (by omega) (by omega)]
    exact (World.cell?_of_block (hg.block p.block h5 (fun e => by have := hr p.block e.symm; omega))).trans h6)

theorem odd_end {w w5 : World} {b p S D q : Nat} {a0 a1 : Int} {a2 : ByteArray} {s a : Option Addr × Nat × Nat} {L : List (Int × Int)} {ks : List KT} {cs : Array Value} {c0 c1 c2 c3 c4 : Value} (hS : w.heap.size = S) (hbS : b < S) (hSD : S + 1 ≤ D) (hX : Whole w5 D 26 cs) (hR : Rd w5 b q) (hG : w.grownBy w5 (some b))
    (hK : KA (S + 1) D w5 (.mk a0 a1 a2 L ks) (kval (a0, a1, a2, s, a))) (hn : nodesT (.mk a0 a1 a2 L ks) ≤ 15) (hq : q ≤ p + 1000) (hni : Nice (a0, a1, a2, s, a)) (i : Nat) (u : Value) (b0 b1 : Int) (b2 : ByteArray) (hb2 : b2.size ≤ 16777216) :
    DrewO w b p (.returned (kval (b0, b1, b2, s, a))) (st5 (w5.setCell ⟨D, i, none⟩ u) S c0 c1 c2 c3 c4) := by
  have g1 : w5.grownBy (w5.setCell ⟨D, i, none⟩ u) (some D) := gr_one (gr_refl _ _) _ _
  refine drewo_end hS hbS ((ka_set hK b0 b1 b2 hb2).grown g1 (fun g e => by cases e; omega)) (Nat.le_refl _) (by have := hX.lt; have := g1.size; omega) (by rw [nodesT] at hn ⊢; omega) hq (hR.grown g1 (by omega)) (gr_row1 hG g1 (fun g e => by cases e; omega)) hni
set_option maxRecDepth 20000 in
set_option maxHeartbeats 16000000 in
theorem odd_draw (hkd : KD3) (b p : Nat) (w : World) (hr : Rd w b p) (hp : p ≤ 300000) : Calls Tryd.prog 43 #[.pointer (some ⟨b, 0, none⟩)] w (DrewO w b p) := by
  have hbl := hr.lt
  obtain ⟨S, hS⟩ : ∃ S, w.heap.size = S := ⟨_, rfl⟩
  have HSS := Lib.hid hS
  have hbS : b < S := by omega
  obtain ⟨w1, hw1⟩ : ∃ w1, w.alloc (.cells #[.int .i64 0, .int .i64 0, .string ⟨#[]⟩, .slice none 0 0, .slice none 0 0] 26) = w1 := ⟨_, rfl⟩
  have HW1 := Lib.hid hw1
  have HZ1 : Hid (Whole w1 S 26 #[.int .i64 0, .int .i64 0, .string ⟨#[]⟩, .slice none 0 0, .slice none 0 0]) := Lib.hid (by rw [← hw1, ← hS]; exact Whole.made w _ _)
  have HB1 : Hid (Below w.heap.size w w1) := Lib.hid (by rw [← hw1]; exact (Below.refl _ _).alloc (Nat.le_refl _) _)
  have HR1 := Lib.hid (hr.below HB1.out hbl)
  have HG1 := Lib.hid (gr_below HB1.out (some b))
  have hneS : some S ≠ some b := fun e => by cases e; omega
  have hs1 : S + 1 ≤ w1.heap.size := HZ1.out.lt
  have HKD := Lib.hid hkd
  have hc3 : cD 3 = 900 := rfl
  have hm3 : mD 3 = 15 := rfl
  clear hr hw1 hS hbl hkd
  go_enter Tryd.func43, Tryd.ntmps43
  go_wp2_with fail
  rw [HW1.out, HSS.out]
  refine (HKD.out b p w1 HR1.out (by omega)).mono ?_
  rintro ee w2 ⟨k, ⟨a0, a1, a2, ⟨a3, a4, a5⟩, ⟨a6, a7, a8⟩⟩, q2, rfl, hk, hni, hn, hq2, hr, hg⟩
  obtain ⟨L, ks, rfl⟩ := ka_row hk
  rw [hm3] at hn
  rw [hc3] at hq2
  have HN := Lib.hid hn
  have HNI := Lib.hid hni
  obtain ⟨D, hD⟩ : ∃ D, w2.heap.size = D := ⟨_, rfl⟩
  have HDD := Lib.hid hD
  have hSD : S + 1 ≤ D := by have := hg.size; omega
  obtain ⟨w3, hw3⟩ : ∃ w3, w2.alloc (.cells #[.int .i64 a0, .int .i64 a1, .string a2, .slice a3 a4 a5, .slice a6 a7 a8] 26) = w3 := ⟨_, rfl⟩
  have HW3 := Lib.hid hw3
  have HX3 : Hid (Whole w3 D 26 #[.int .i64 a0, .int .i64 a1, .string a2, .slice a3 a4 a5, .slice a6 a7 a8]) := Lib.hid (by rw [← hw3, ← hD]; exact Whole.made w2 _ _)
  have HZ3 : Hid (Whole w3 S 26 #[.int .i64 0, .int .i64 0, .string ⟨#[]⟩, .slice none 0 0, .slice none 0 0]) := Lib.hid (by rw [← hw3]; exact (HZ1.out.grown hg hneS).alloc _)
  have HG3 : Hid (w.grownBy w3 (some b)) := Lib.hid (by rw [← hw3]; exact gr_alloc (gr_trans HG1.out hg) _)
  have HR3 : Hid (Rd w3 b q2) := Lib.hid (by rw [← hw3]; exact hr.below (below_newK w2 _) hr.lt)
  have HK3 : Hid (KA (S + 1) D w3 (.mk a0 a1 a2 L ks) (kval (a0, a1, a2, (a3, a4, a5), (a6, a7, a8)))) := Lib.hid (by rw [← hw3, ← hD]; exact (hk.grown (gr_alloc (gr_refl _ _) _ : w2.grownBy _ none) (fun g e => by cases e)).widen hs1 (Nat.le_refl _))
  clear hk hni hn hr hg hD hw3
  go_wp2_with fail
  rw [HW3.out, HDD.out]
  refine (pick_any b q2 16 _ HR3.out (by omega) (by omega) (by omega)).mono ?_
  rintro ee w4 ⟨x, hx, hee, hr, hg⟩
  have HR4 := Lib.hid hr
  have HG4 := Lib.hid (gr_trans HG3.out hg)
  have HZ4 := Lib.hid (HZ3.out.grown hg hneS)
  have HX4 := Lib.hid (HX3.out.grown hg (fun e => by cases e; omega))
  have HK4 := Lib.hid (HK3.out.grown hg (fun g e => by cases e; omega))
  have hDw4 : D < w4.heap.size := HX4.out.lt
  clear hr hg
  obtain ⟨y, hy⟩ : ∃ y : Int, (x : Int) = y := ⟨_, rfl⟩
  rw [hy] at hee
  subst hee
  by_cases hy0 : y = 0
  · subst hy0
    clear hx hy
    go_wp2_with fail
    refine (pick_any b (q2 + 1) 10 _ HR4.out (by omega) (by omega) (by omega)).mono ?_
    rintro ee w5 ⟨z, hz, rfl, hr, hg⟩
    obtain ⟨u, hu⟩ : ∃ u : Int, (z : Int) - 1 = u := ⟨_, rfl⟩
    have WU : IntKind.i64.wrap ((z : Int) - 1) = u := (IntWalk.i64_in _ (by omega)).trans hu
    have HR5 := Lib.hid hr
    have HG5 := Lib.hid (gr_trans HG4.out hg)
    have HZ5 := Lib.hid (HZ4.out.grown hg hneS)
    have HX5 := Lib.hid (HX4.out.grown hg (fun e => by cases e; omega))
    have HK5 := Lib.hid (HK4.out.grown hg (fun g e => by cases e; omega))
    clear hr hg hu
    have r0 := HZ5.out.cell 0
    have r1 := HZ5.out.cell 1
    have r2 := HZ5.out.cell 2
    have r3 := HZ5.out.cell 3
    have r4 := HZ5.out.cell 4
    have x0 := HX5.out.cell 0
    have x1 := HX5.out.cell 1
    have x2 := HX5.out.cell 2
    have x3 := HX5.out.cell 3
    have x4 := HX5.out.cell 4
    simp at r0 r1 r2 r3 r4 x0 x1 x2 x3 x4
    have f0 := HZ5.out.free 0
    have f1 := HZ5.out.free 1
    have f2 := HZ5.out.free 2
    have f3 := HZ5.out.free 3
    have f4 := HZ5.out.free 4
    have e0 := HX5.out.free 0
    have e1 := HX5.out.free 1
    have e2 := HX5.out.free 2
    have e3 := HX5.out.free 3
    have e4 := HX5.out.free 4
    have hSDne : ¬ S = D := by omega
    have hDSne : ¬ D = S := by omega
    go_wp2
    refine bodyPost_ret (v := kval (u, a1, a2, (a3, a4, a5), (a6, a7, a8))) (by simp [results, Tryd.results43, go_sem, r0, r1, r2, r3, r4]) rfl ?_
    exact odd_end HSS.out hbS hSD HX5.out HR5.out HG5.out HK5.out HN.out (by omega) HNI.out 0 _ u a1 a2 (ka_parts HK5.out).choose_spec.2.2.2.2.2.2
  · by_cases hy1 : y = 1
    · subst hy1
      clear hx hy hy0
      go_wp2_with fail
      refine (pick_any b (q2 + 1) 32 _ HR4.out (by omega) (by omega) (by omega)).mono ?_
      rintro ee w5 ⟨z, hz, rfl, hr, hg⟩
      have HR5 := Lib.hid hr
      have HG5 := Lib.hid (gr_trans HG4.out hg)
      have HZ5 := Lib.hid (HZ4.out.grown hg hneS)
      have HX5 := Lib.hid (HX4.out.grown hg (fun e => by cases e; omega))
      have HK5 := Lib.hid (HK4.out.grown hg (fun g e => by cases e; omega))
      clear hr hg
      have r0 := HZ5.out.cell 0
      have r1 := HZ5.out.cell 1
      have r2 := HZ5.out.cell 2
      have r3 := HZ5.out.cell 3
      have r4 := HZ5.out.cell 4
      have x0 := HX5.out.cell 0
      have x1 := HX5.out.cell 1
      have x2 := HX5.out.cell 2
      have x3 := HX5.out.cell 3
      have x4 := HX5.out.cell 4
      simp at r0 r1 r2 r3 r4 x0 x1 x2 x3 x4
      have f0 := HZ5.out.free 0
      have f1 := HZ5.out.free 1
      have f2 := HZ5.out.free 2
      have f3 := HZ5.out.free 3
      have f4 := HZ5.out.free 4
      have e0 := HX5.out.free 0
      have e1 := HX5.out.free 1
      have e2 := HX5.out.free 2
      have e3 := HX5.out.free 3
      have e4 := HX5.out.free 4
      have hSDne : ¬ S = D := by omega
      have hDSne : ¬ D = S := by omega
      go_wp2
      refine bodyPost_ret (v := kval (a0, (z : Int), a2, (a3, a4, a5), (a6, a7, a8))) (by simp [results, Tryd.results43, go_sem, r0, r1, r2, r3, r4]) rfl ?_
      exact odd_end HSS.out hbS hSD HX5.out HR5.out HG5.out HK5.out HN.out (by omega) HNI.out 1 _ a0 z a2 (ka_parts HK5.out).choose_spec.2.2.2.2.2.2
    · by_cases hy2 : y = 2
      · subst hy2
        clear hx hy hy0 hy1
        have HX5 := HX4
        have HZ5 := HZ4
        have r0 := HZ5.out.cell 0
        have r1 := HZ5.out.cell 1
        have r2 := HZ5.out.cell 2
        have r3 := HZ5.out.cell 3
        have r4 := HZ5.out.cell 4
        have x0 := HX5.out.cell 0
        have x1 := HX5.out.cell 1
        have x2 := HX5.out.cell 2
        have x3 := HX5.out.cell 3
        have x4 := HX5.out.cell 4
        simp at r0 r1 r2 r3 r4 x0 x1 x2 x3 x4
        have f0 := HZ5.out.free 0
        have f1 := HZ5.out.free 1
        have f2 := HZ5.out.free 2
        have f3 := HZ5.out.free 3
        have f4 := HZ5.out.free 4
        have e0 := HX5.out.free 0
        have e1 := HX5.out.free 1
        have e2 := HX5.out.free 2
        have e3 := HX5.out.free 3
        have e4 := HX5.out.free 4
        have hSDne : ¬ S = D := by omega
        have hDSne : ¬ D = S := by omega
        go_wp2
        refine bodyPost_ret (v := kval (a0, a1, ⟨#[98, 111, 98]⟩, (a3, a4, a5), (a6, a7, a8))) (by simp [results, Tryd.results43, go_sem, r0, r1, r2, r3, r4]) rfl ?_
        exact odd_end HSS.out hbS hSD HX4.out HR4.out HG4.out HK4.out HN.out (by omega) HNI.out 2 _ a0 a1 _ (by decide)
      · by_cases hy3 : y = 3
        · subst hy3
          clear hx hy hy0 hy1 hy2
          skip
          obtain ⟨i0, hi, hq0, hq1, hq2'⟩ := info_parts Tryd.infoKey
          obtain ⟨rs, hrs1, hrs2, hrs3, hsp, hsl, hs33, ht16⟩ := ka_parts HK4.out
          have HRS := Lib.hid hrs1
          have HSP := Lib.hid hsp
          have hksl := nodesL_len ks
          have hnn : nodesL ks + 1 ≤ 15 := by have := HN.out; rw [nodesT] at this; exact this
          have hrl := hrs1.len
          have hml : 0 + a7 ≤ maxLen := by unfold maxLen; omega
          have hby : (0 + a7) * 80 ≤ 140737488355328 := by omega
          have hml2 : a7 + 1 ≤ maxLen := by unfold maxLen; omega
          have hby2 : (a7 + 1) * 80 ≤ 140737488355328 := by omega
          have HNN := Lib.hid hnn
          have HRL := Lib.hid hrs3
          have hat4 := hrs2.below (below_newK w4 (.cells #[] 26)) (Nat.le_refl _)
          have HX5 := HX4
          have x4 := HX4.out.cell 4
          simp at x4
          clear hrs1 hsp hnn hrs2 hksl hrl
          go_wp2_with (at_builtin; refine wpList_append_rows rfl (.tmp 24) (.tmp 26) 24 rfl keyR w4.heap.size i0 _ 80 Tryd.underlying24 hi hq0 hq1 hq2' rfl (by decide) _ [] rs 0 rfl rfl (ROwn.lit w4 w4.heap.size (Nat.le_refl _) rfl) a6 a7 a8 rfl HRL.out hat4 HNI.out.1 HNI.out.2 hml hby (by simp) ?_)
          intro v' w5 hown hgrow hnn
          obtain ⟨A5, N5, c5, rfl⟩ := hown.val
          have hN5 : N5 = a7 := hown.len.1.trans HRL.out
          subst hN5
          have al4 : w4.grownBy (w4.alloc (.cells #[] 26)) none := gr_alloc (gr_refl _ _) _
          have hrow5 : ∀ g, (Value.slice (some ⟨w4.heap.size, 0, none⟩) 0 0).ownBlock = some g → g = w4.heap.size := fun g e => by cases e; rfl
          have HO5 := Lib.hid hown
          have HG5 := Lib.hid (gr_row1 (gr_alloc HG4.out (.cells #[] 26)) hgrow (fun g e => by have := hrow5 g e; have := HG4.out.size; omega))
          have HR5 := Lib.hid ((HR4.out.keptRow al4 (fun g e => by cases e)).keptRow hgrow (fun g e => by have := hrow5 g e; omega))
          have HZ5 := Lib.hid ((HZ4.out.alloc (.cells #[] 26)).grown hgrow (fun e => by have := hrow5 S e.symm; omega))
          have HX5' := Lib.hid ((HX4.out.alloc (.cells #[] 26)).grown hgrow (fun e => by have := hrow5 D e.symm; omega))
          have HRS5 : Hid (KRs (KA (S + 1) D w5) ks rs) := Lib.hid (KRs.imp (fun k v h => (KA.grown h al4 (fun g e => by cases e)).grown hgrow (fun g e => by have := hrow5 g e; omega)) HRS.out)
          have HSP5 : Hid (SpA (low (S + 1) D w5) a3 L) := Lib.hid ((HSP.out.lowered al4 (fun g e => by cases e) (Nat.le_refl _) (Nat.le_refl _)).lowered hgrow (fun g e => by have := hrow5 g e; omega) (Nat.le_refl _) (Nat.le_refl _))
          have hz5 : w4.heap.size + 1 ≤ w5.heap.size := by have := hgrow.size; simpa using this
          clear hown hgrow hnn hat4 x4
          have hown6 := HO5.out.alloc (.cells #[.int .i64 0, .int .i64 0, .string ⟨#[]⟩, .slice none 0 0, .slice none 0 0] 26)
          have hnew6 := RAt.made keyR w5 [((0 : Int), (0 : Int), (⟨#[]⟩ : ByteArray), ((none : Option Addr), 0, 0), ((none : Option Addr), 0, 0))] w5.heap.size rfl
          have hsz6 : w4.heap.size ≤ (w5.alloc (.cells #[.int .i64 0, .int .i64 0, .string ⟨#[]⟩, .slice none 0 0, .slice none 0 0] 26)).heap.size := by simp; omega
          have HSZ6 := Lib.hid hsz6
          clear hsz6
          go_wp2_with (at_builtin; refine wpList_append_rows rfl (.tmp 27) (.tmp 29) 24 rfl keyR w4.heap.size i0 _ 80 Tryd.underlying24 hi hq0 hq1 hq2' rfl (by decide) _ rs [((0 : Int), (0 : Int), (⟨#[]⟩ : ByteArray), ((none : Option Addr), 0, 0), ((none : Option Addr), 0, 0))] N5 HRL.out rfl hown6 (some ⟨w5.heap.size, 0, none⟩) 1 1 rfl rfl hnew6 (fun e => by cases e) (fun q e => by cases e; rfl) hml2 hby2 HSZ6.out ?_)
          intro v' w6 hown hgrow hnn
          obtain ⟨A6, N6, c6, rfl⟩ := hown.val
          have hN6 : N6 = N5 + 1 := by
            have := hown.len.1
            rw [List.length_append, HRL.out] at this
            exact this
          subst hN6
          have al5 : w5.grownBy (w5.alloc (.cells #[.int .i64 0, .int .i64 0, .string ⟨#[]⟩, .slice none 0 0, .slice none 0 0] 26)) none := gr_alloc (gr_refl _ _) _
          have hrow6 : ∀ g, (Value.slice A5 N5 c5).ownBlock = some g → w4.heap.size ≤ g := fun g e => (World.ownsRow.lt HO5.out g e).1
          have HO6 := Lib.hid hown
          have HG6 := Lib.hid (gr_row1 (gr_alloc HG5.out (.cells #[.int .i64 0, .int .i64 0, .string ⟨#[]⟩, .slice none 0 0, .slice none 0 0] 26)) hgrow (fun g e => by have := hrow6 g e; have := HG4.out.size; omega))
          have HR6 := Lib.hid ((HR5.out.keptRow al5 (fun g e => by cases e)).keptRow hgrow (fun g e => by have := hrow6 g e; omega))
          have HZ6 := Lib.hid ((HZ5.out.alloc (.cells #[.int .i64 0, .int .i64 0, .string ⟨#[]⟩, .slice none 0 0, .slice none 0 0] 26)).grown hgrow (fun e => by have := hrow6 S e.symm; omega))
          have HX6 := Lib.hid ((HX5'.out.alloc (.cells #[.int .i64 0, .int .i64 0, .string ⟨#[]⟩, .slice none 0 0, .slice none 0 0] 26)).grown hgrow (fun e => by have := hrow6 D e.symm; omega))
          have HRS6 : Hid (KRs (KA (S + 1) D w6) ks rs) := Lib.hid (KRs.imp (fun k v h => (KA.grown h al5 (fun g e => by cases e)).grown hgrow (fun g e => by have := hrow6 g e; omega)) HRS5.out)
          have HSP6 : Hid (SpA (low (S + 1) D w6) a3 L) := Lib.hid ((HSP5.out.lowered al5 (fun g e => by cases e) (Nat.le_refl _) (Nat.le_refl _)).lowered hgrow (fun g e => by have := hrow6 g e; omega) (Nat.le_refl _) (Nat.le_refl _))
          clear hown hgrow hnn hown6 hnew6 HX5
          have HX5 := HX6
          clear HZ5
          have HZ5 := HZ6
          have r0 := HZ5.out.cell 0
          have r1 := HZ5.out.cell 1
          have r2 := HZ5.out.cell 2
          have r3 := HZ5.out.cell 3
          have r4 := HZ5.out.cell 4
          have x0 := HX5.out.cell 0
          have x1 := HX5.out.cell 1
          have x2 := HX5.out.cell 2
          have x3 := HX5.out.cell 3
          have x4 := HX5.out.cell 4
          simp at r0 r1 r2 r3 r4 x0 x1 x2 x3 x4
          have f0 := HZ5.out.free 0
          have f1 := HZ5.out.free 1
          have f2 := HZ5.out.free 2
          have f3 := HZ5.out.free 3
          have f4 := HZ5.out.free 4
          have e0 := HX5.out.free 0
          have e1 := HX5.out.free 1
          have e2 := HX5.out.free 2
          have e3 := HX5.out.free 3
          have e4 := HX5.out.free 4
          have hSDne : ¬ S = D := by omega
          have hDSne : ¬ D = S := by omega
          go_wp2
          refine bodyPost_ret (v := kval (a0, a1, a2, (a3, a4, a5), (A6, N5 + 1, c6))) (by simp [results, Tryd.results43, go_sem, r0, r1, r2, r3, r4]) rfl ?_
          have g1 : w6.grownBy (w6.setCell ⟨D, 4, none⟩ (.slice A6 (N5 + 1) c6)) (some D) := gr_one (gr_refl _ _) _ _
          have hDl := HX6.out.lt
          have ho7 : ROwn keyR (w6.setCell ⟨D, 4, none⟩ (.slice A6 (N5 + 1) c6)) w4.heap.size (.slice A6 (N5 + 1) c6) (rs ++ [((0 : Int), (0 : Int), (⟨#[]⟩ : ByteArray), ((none : Option Addr), 0, 0), ((none : Option Addr), 0, 0))]) := HO6.out.store (fun e => by have := (World.ownsRow.lt HO6.out D e).1; omega) _
          have hks : KRs (KA (S + 1) D (w6.setCell ⟨D, 4, none⟩ (.slice A6 (N5 + 1) c6))) (ks ++ [KT.mk 0 0 ⟨#[]⟩ [] []]) (rs ++ [((0 : Int), (0 : Int), (⟨#[]⟩ : ByteArray), ((none : Option Addr), 0, 0), ((none : Option Addr), 0, 0))]) := KRs.push (KRs.imp (fun k v h => KA.grown h g1 (fun g e => by cases e; omega)) HRS6.out) (ka_leaf (by decide) rfl (by omega) (SpA.nil _ _))
          have hsz : D ≤ (w6.setCell ⟨D, 4, none⟩ (.slice A6 (N5 + 1) c6)).heap.size := by have := g1.size; omega
          have hka : KA (S + 1) (w6.setCell ⟨D, 4, none⟩ (.slice A6 (N5 + 1) c6)).heap.size (w6.setCell ⟨D, 4, none⟩ (.slice A6 (N5 + 1) c6)) (.mk a0 a1 a2 L (ks ++ [KT.mk 0 0 ⟨#[]⟩ [] []])) (kval (a0, a1, a2, (a3, a4, a5), (A6, N5 + 1, c6))) := by
            unfold KA
            rw [KV]
            exact ⟨a3, a4, a5, A6, N5 + 1, c6, rfl, hsl, hs33, ht16, HSP6.out.lowered g1 (fun g e => by cases e; omega) (Nat.le_refl _) hsz, by rw [hks.len]; exact ho7.len.1.symm, kvs_own ho7 (by omega) hks hsz⟩
          exact drewo_end HSS.out hbS hka (Nat.le_refl _) (Nat.le_refl _) (by rw [nodesT, nodesL_app]; show nodesL ks + (nodesT (KT.mk 0 0 ⟨#[]⟩ [] []) + 0) + 1 ≤ 16; rw [nodesT, nodesL]; have := HNN.out; omega) (by omega) (HR6.out.grown g1 (by omega)) (gr_row1 HG6.out g1 (fun g e => by cases e; have := HSS.out; omega)) ⟨fun e => ho7.nilcap e, fun q e => ho7.spot q e⟩
        · have HX5 := HX4
          have HZ5 := HZ4
          have hb0 : (y == 0) = false := beq_eq_false_iff_ne.2 hy0
          have hb1 : (y == 1) = false := beq_eq_false_iff_ne.2 hy1
          have hb2 : (y == 2) = false := beq_eq_false_iff_ne.2 hy2
          have hb3 : (y == 3) = false := beq_eq_false_iff_ne.2 hy3
          clear hx hy
          have r0 := HZ5.out.cell 0
          have r1 := HZ5.out.cell 1
          have r2 := HZ5.out.cell 2
          have r3 := HZ5.out.cell 3
          have r4 := HZ5.out.cell 4
          have x0 := HX5.out.cell 0
          have x1 := HX5.out.cell 1
          have x2 := HX5.out.cell 2
          have x3 := HX5.out.cell 3
          have x4 := HX5.out.cell 4
          simp at r0 r1 r2 r3 r4 x0 x1 x2 x3 x4
          have f0 := HZ5.out.free 0
          have f1 := HZ5.out.free 1
          have f2 := HZ5.out.free 2
          have f3 := HZ5.out.free 3
          have f4 := HZ5.out.free 4
          have e0 := HX5.out.free 0
          have e1 := HX5.out.free 1
          have e2 := HX5.out.free 2
          have e3 := HX5.out.free 3
          have e4 := HX5.out.free 4
          have hSDne : ¬ S = D := by omega
          have hDSne : ¬ D = S := by omega
          go_wp2
          refine bodyPost_ret (v := kval (a0, a1, a2, (a3, a4, a5), (a6, a7, a8))) (by simp [results, Tryd.results43, go_sem, r0, r1, r2, r3, r4]) rfl ?_
          exact drewo_end HSS.out hbS HK4.out (Nat.le_refl _) (by omega) (by have := HN.out; omega) (by omega) HR4.out HG4.out HNI.out
set_option maxRecDepth 20000 in
set_option maxHeartbeats 1000000 in
/-- What DrawKeyValid leaves. -/
theorem draw_key (hkd : KD3) (A : Option Addr) (len cap : Nat) (w : World) (h : Coded w A len cap) :
    Calls Tryd.prog 24 #[.slice A len cap] w fun e w' => ∃ (k : KT) (r : KR), e = .returned (kval r) ∧ KV w' k (kval r) ∧ Nice r ∧ nodesT k ≤ 16 ∧ Below w.heap.size w w' := by
  have HK := Lib.hid h
  have hk1 := h.1
  have hk2 := h.2.1
  have HKD := Lib.hid hkd
  obtain ⟨S, hS⟩ : ∃ S, w.heap.size = S := ⟨_, rfl⟩
  have HSS := Lib.hid hS
  obtain ⟨w0, hw0⟩ : ∃ w0, w.alloc (.cells #[.int .i64 0, .int .i64 0, .string ⟨#[]⟩, .slice none 0 0, .slice none 0 0] 26) = w0 := ⟨_, rfl⟩
  have HW0 := Lib.hid hw0
  have HZ0 : Hid (Whole w0 S 26 #[.int .i64 0, .int .i64 0, .string ⟨#[]⟩, .slice none 0 0, .slice none 0 0]) := Lib.hid (by rw [← hw0, ← hS]; exact Whole.made w _ _)
  have HB0 : Hid (Below w.heap.size w w0) := Lib.hid (by rw [← hw0]; exact (Below.refl _ _).alloc (Nat.le_refl _) _)
  have HC0 := Lib.hid (HK.out.below HB0.out (Nat.le_refl _))
  have hz0 : w0.heap.size = S + 1 := by rw [← hw0, ← hS]; simp
  clear h hkd hw0 hS
  go_enter Tryd.func24, Tryd.ntmps24
  go_wp2_with fail
  rw [HW0.out, HSS.out]
  refine (open_any A len cap _ hk1 hk2 HC0.out.2.2).mono ?_
  rintro e w1 ⟨rfl, hr, hb, hz⟩
  rw [hz0] at hr hb hz ⊢
  have HR := Lib.hid hr
  have HB := Lib.hid hb
  have HZ1 := Lib.hid (HZ0.out.below hb (by omega))
  clear hr hb
  go_wp2_with fail
  refine (odd_draw HKD.out (S + 1) 0 w1 HR.out (by omega)).mono ?_
  rintro e w2 ⟨k, ⟨a0, a1, a2, ⟨a3, a4, a5⟩, ⟨a6, a7, a8⟩⟩, q, rfl, hk, hni, hn, -, hr, hg⟩
  have HK2 := Lib.hid hk
  have HNI := Lib.hid hni
  have HZ2 := Lib.hid (HZ1.out.grown hg (fun e => absurd (Option.some.inj e) (by omega)))
  have HB2 := Lib.hid (below_gr (HB0.out.trans (HB.out.mono (by have := HSS.out; omega))) hg (by have := HB0.out.size; have := HB.out.size; omega) (by have := HSS.out; omega))
  clear hk hni hr hg
  have r0 := HZ2.out.cell 0
  have r1 := HZ2.out.cell 1
  have r2 := HZ2.out.cell 2
  have r3 := HZ2.out.cell 3
  have r4 := HZ2.out.cell 4
  simp at r0 r1 r2 r3 r4
  have f0 := HZ2.out.free 0
  have f1 := HZ2.out.free 1
  have f2 := HZ2.out.free 2
  have f3 := HZ2.out.free 3
  have f4 := HZ2.out.free 4
  go_wp2
  refine bodyPost_ret (v := kval (a0, a1, a2, (a3, a4, a5), (a6, a7, a8))) (by simp [results, Tryd.results24, go_sem, r0, r1, r2, r3, r4]) rfl ?_
  have h5 := gr_st5 w2 S (.int .i64 a0) (.int .i64 a1) (.string a2) (.slice a3 a4 a5) (.slice a6 a7 a8)
  refine ⟨k, _, rfl, (HK2.out.grown h5 (fun g e => by cases e; left; have := HB.out.size; omega)).kv, HNI.out, hn, ?_⟩
  exact below_gr HB2.out h5 HB2.out.size (by rw [HSS.out]; exact Nat.le_refl _)
end Go.Proofs.YtpihibconbejlaaDoor
