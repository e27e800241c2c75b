/-
  My texts Je, Jk, Jl, Tim in one, so that a claim holds fewer files. Conditions: each contract's own.
-/
import Derived.Test.YtinbdibenbplnaaQf
import Derived.OrdersHeld
import Derived.Deep.RegionHeld
namespace Go.Proofs.Ytinbdibenbplnaa
open Go.RowKit
set_option linter.unusedVariables false

def GiveQB (w : World) (n : Int) (K : List QK) (z : Bool) (e : Ending) (w' : World) : Prop := ∃ A N cap L, e = .returned (.tuple #[.agg #[.int .i64 n, .slice A N cap], .bool z]) ∧ OwnQ w' w.heap.size A N cap L ∧ L.map keyI = K ∧ Below w.heap.size w w'
theorem OwnQ.nil (w : World) (B : Nat) : OwnQ w B none 0 0 [] := ⟨ROwn.nil _ _, (fun g hg => by cases hg), List.Pairwise.nil⟩
/-- The three blocks of QueueAdd's frame. -/
structure QA3 (w wr : World) (Q : Nat) (n : Int) (A : Option Addr) (N cap : Nat) (us tx : ByteArray) (AT : Option Addr) (NT cT : Nat) : Prop where
  q : Whole wr Q 31 #[.int .i64 n, .slice A N cap]
  x : Whole wr (Q + 1) 25 #[.string us, .slice AT NT cT, .string tx]
  r : Whole wr (Q + 1 + 1) 31 #[.int .i64 0, .slice none 0 0]
  b : Below Q w wr
section
variable {w wr w' : World} {Q : Nat} {n m : Int} {A A1 : Option Addr} {N cap N1 c1 : Nat} {us tx : ByteArray} {AT : Option Addr} {NT cT : Nat} {L : List QI} {K : List QK} {z : Bool}
theorem QA3.below (h : QA3 w wr Q n A N cap us tx AT NT cT) (hb : Below wr.heap.size wr w') : QA3 w w' Q n A N cap us tx AT NT cT :=
  ⟨h.q.below hb h.q.lt, h.x.below hb h.x.lt, h.r.below hb h.r.lt, h.b.trans (hb.mono (Nat.le_of_lt h.q.lt))⟩
/-- What only other blocks' writing leaves. -/
theorem QA3.same (h : QA3 w wr Q n A N cap us tx AT NT cT) (hk : ∀ (b : Nat) (t : TypeId) (cs : Array Value), Whole wr b t cs → b ≤ Q + 1 + 1 → Whole w' b t cs) (hb : Below Q wr w') : QA3 w w' Q n A N cap us tx AT NT cT :=
  ⟨hk _ _ _ h.q (by omega), hk _ _ _ h.x (by omega), hk _ _ _ h.r (by omega), h.b.trans hb⟩
theorem qa3_new (w : World) {Q : Nat} (hQ : w.heap.size = Q) (n : Int) (A : Option Addr) (N cap : Nat) (us tx : ByteArray) (AT : Option Addr) (NT cT : Nat) :
    QA3 w (((w.alloc (.cells #[.int .i64 n, .slice A N cap] 31)).alloc (.cells #[.string us, .slice AT NT cT, .string tx] 25)).alloc (.cells #[.int .i64 0, .slice none 0 0] 31)) Q n A N cap us tx AT NT cT := by
  have e1 : (w.alloc (.cells #[.int .i64 n, .slice A N cap] 31)).heap.size = Q + 1 := by simp [hQ]
  have e2 : ((w.alloc (.cells #[.int .i64 n, .slice A N cap] 31)).alloc (.cells #[.string us, .slice AT NT cT, .string tx] 25)).heap.size = Q + 1 + 1 := by simp [hQ]
  refine ⟨?_, ?_, ?_, ?_⟩
  · rw [← hQ]; exact ((Whole.made w _ _).alloc _).alloc _
  · have := (Whole.made (w.alloc (.cells #[.int .i64 n, .slice A N cap] 31)) 25 #[.string us, .slice AT NT cT, .string tx]).alloc (.cells #[.int .i64 0, .slice none 0 0] 31); rw [e1] at this; exact this
  · have := Whole.made ((w.alloc (.cells #[.int .i64 n, .slice A N cap] 31)).alloc (.cells #[.string us, .slice AT NT cT, .string tx] 25)) 31 #[.int .i64 0, .slice none 0 0]; rw [e2] at this; exact this
  · rw [← hQ]; exact ((below_new w _).alloc (by simp) _).alloc (by simp; omega) _
theorem QA3.res (h : QA3 w wr Q n A N cap us tx AT NT cT) (u v : Value) : Whole ((wr.setCell ⟨Q + 1 + 1, 0, none⟩ u).setCell ⟨Q + 1 + 1, 1, none⟩ v) (Q + 1 + 1) 31 #[u, v] := (h.r.store 0 _).store 1 _
theorem QA3.end (h : QA3 w wr Q n A N cap us tx AT NT cT) (hQ : w.heap.size = Q) (ho : OwnQ wr Q A1 N1 c1 L) (hk : L.map keyI = K) :
    GiveQB w m K z (.returned (.tuple #[.agg #[.int .i64 m, .slice A1 N1 c1], .bool z])) ((wr.setCell ⟨Q + 1 + 1, 0, none⟩ (.int .i64 m)).setCell ⟨Q + 1 + 1, 1, none⟩ (.slice A1 N1 c1)) := by
  refine ⟨A1, N1, c1, L, rfl, ?_, hk, ?_⟩
  · rw [hQ]
    exact (ho.storeT h.r (by decide) (by decide) _).storeT (h.r.store 0 _) (by decide) (by decide) _
  · rw [hQ]
    exact (h.b.setCell (p := ⟨Q + 1 + 1, 0, none⟩) (show Q ≤ Q + 1 + 1 by omega) _).setCell (p := ⟨Q + 1 + 1, 1, none⟩) (show Q ≤ Q + 1 + 1 by omega) _
end
set_option maxRecDepth 20000 in
set_option maxHeartbeats 8000000 in
theorem spec_queueadd {n : Int} {A : Option Addr} {N cap : Nat} {L : List QI} (us tx : ByteArray) (T : List ByteArray) (AT : Option Addr) (NT cT : Nat) (w : World) (h : QIn w A N cap L) (ht : SIn w AT NT cT T) (hu : us.size ≤ 16777216) :
    Calls Try.prog 22 #[.agg #[.int .i64 n, .slice A N cap], .agg #[.string us, .slice AT NT cT, .string tx]] w (GiveQB w (qaN n L us tx T) (qaK n L us tx T) (qaO n L us tx T)) := by
  obtain ⟨i0, hi0, hq0, hq1, hq2⟩ := info_parts Try.infoString
  obtain ⟨j0, hj0, hp0, hp1, hp2⟩ := info_parts Try.infoItem
  obtain ⟨Q, hQ⟩ : ∃ Q, w.heap.size = Q := ⟨_, rfl⟩
  have HQ := Lib.hid hQ
  have h1 := qa3_new w hQ n A N cap us tx AT NT cT
  obtain ⟨w1, hw1⟩ : ∃ w1, ((w.alloc (.cells #[.int .i64 n, .slice A N cap] 31)).alloc (.cells #[.string us, .slice AT NT cT, .string tx] 25)).alloc (.cells #[.int .i64 0, .slice none 0 0] 31) = w1 := ⟨_, rfl⟩
  rw [hw1] at h1
  have F1 := Lib.hid h1
  have H := Lib.hid h
  have HT := Lib.hid ht
  have HL := Lib.hid h.1
  have H1 := Lib.hid (h.below h1.b (Nat.le_of_eq hQ))
  have HT1 := Lib.hid (ht.below h1.b (Nat.le_of_eq hQ))
  have a0 := F1.out.q.cell 0
  have a1 := F1.out.q.cell 1
  simp at a0 a1
  clear h ht h1
  cases hv : vQ n L with
  | false =>
    have HE : Hid (qaN n L us tx T = 0 ∧ qaK n L us tx T = [] ∧ qaO n L us tx T = false) := Lib.hid (by simp [qaN, qaK, qaO, qaV, hv])
    have HV := Lib.hid hv
    clear hv
    go_enter Try.func22, Try.ntmps22
    go_wp2_with fail
    refine (sqv_at HV.out w1 H1.out).mono ?_
    rintro e w2 ⟨rfl, hb⟩
    have F2 := Lib.hid (F1.out.below hb)
    have r0 := F2.out.r.cell 0
    have r1 := F2.out.r.cell 1
    have f0 := F2.out.r.free 0
    have f1 := F2.out.r.free 1
    have p := F2.out.res (.int .i64 0) (.slice none 0 0)
    have p0 := p.cell 0
    have p1 := p.cell 1
    simp at r0 r1 p0 p1
    clear hb p
    go_wp2
    refine bodyPost_ret (v := .tuple #[.agg #[.int .i64 0, .slice none 0 0], .bool false]) (by simp [results, Try.results22, go_sem, p0, p1]) rfl ?_
    obtain ⟨e1, e2, e3⟩ := HE.out
    rw [e1, e2, e3]
    exact F2.out.end HQ.out (OwnQ.nil _ _) rfl
  | true =>
    have HV := Lib.hid hv
    have hn6 := vQ_parts hv
    have hn1 := vQ_low hv
    have HN6 : Hid (N ≤ 6) := Lib.hid (by rw [← HL.out]; exact hn6.1)
    cases hl : letB us T tx with
    | false =>
      have HE : Hid (qaN n L us tx T = 0 ∧ qaK n L us tx T = [] ∧ qaO n L us tx T = false) := Lib.hid (by simp [qaN, qaK, qaO, qaV, hl])
      have HLV := Lib.hid hl
      clear hv hl
      go_enter Try.func22, Try.ntmps22
      go_wp2_with fail
      refine (sqv_at HV.out w1 H1.out).mono ?_
      rintro e w2 ⟨rfl, hb⟩
      have F2 := Lib.hid (F1.out.below hb)
      have HT2 := Lib.hid (HT1.out.below hb (Nat.le_refl _))
      have x0 := F2.out.x.cell 0
      have x1 := F2.out.x.cell 1
      have x2 := F2.out.x.cell 2
      simp at x0 x1 x2
      have HB2 := Lib.hid hb
      clear hb
      go_wp2_with fail
      refine (slet_at HLV.out w2 HT2.out hu).mono ?_
      rintro e w3 ⟨rfl, hb⟩
      have F3 := Lib.hid (F2.out.below hb)
      have r0 := F3.out.r.cell 0
      have r1 := F3.out.r.cell 1
      have f0 := F3.out.r.free 0
      have f1 := F3.out.r.free 1
      have p := F3.out.res (.int .i64 0) (.slice none 0 0)
      have p0 := p.cell 0
      have p1 := p.cell 1
      simp at r0 r1 p0 p1
      clear hb p
      go_wp2
      refine bodyPost_ret (v := .tuple #[.agg #[.int .i64 0, .slice none 0 0], .bool false]) (by simp [results, Try.results22, go_sem, p0, p1]) rfl ?_
      obtain ⟨e1, e2, e3⟩ := HE.out
      rw [e1, e2, e3]
      exact F3.out.end HQ.out (OwnQ.nil _ _) rfl
    | true =>
      have HLV := Lib.hid hl
      have HVV : Hid (qaV n L us tx T = true) := Lib.hid (by unfold qaV; rw [hv, hl]; rfl)
      clear hv hl
      go_enter Try.func22, Try.ntmps22
      go_wp2_with fail
      refine (sqv_at HV.out w1 H1.out).mono ?_
      rintro e w2 ⟨rfl, hb⟩
      have F2 := Lib.hid (F1.out.below hb)
      have HT2 := Lib.hid (HT1.out.below hb (Nat.le_refl _))
      have x0 := F2.out.x.cell 0
      have x1 := F2.out.x.cell 1
      have x2 := F2.out.x.cell 2
      simp at x0 x1 x2
      have HB2 := Lib.hid hb
      clear hb
      go_wp2_with fail
      refine (slet_at HLV.out w2 HT2.out hu).mono ?_
      rintro e w3 ⟨rfl, hb⟩
      have F3 := Lib.hid (F2.out.below hb)
      have H3 := Lib.hid ((H1.out.below HB2.out (Nat.le_refl _)).below hb (Nat.le_refl _))
      have b0 := F3.out.q.cell 0
      have b1 := F3.out.q.cell 1
      simp at b0 b1
      clear hb x0 x1 x2
      go_wp2_with fail
      refine (spec_copyq w3 H3.out (by have := HN6.out; omega)).mono ?_
      rintro e w4 ⟨A1, N1, c1, M, rfl, ho, hk, hb⟩
      have HOX := Lib.hid ho
      have HZ3 : Hid (Q + 1 + 1 < w3.heap.size) := Lib.hid F3.out.r.lt
      have HOQ := Lib.hid (ho.from (show Q ≤ w3.heap.size by have := HZ3.out; omega))
      have HK := Lib.hid hk
      have hMl : M.length = N := by rw [key_len hk]; exact HL.out
      have hN1 : N1 = N := ho.1.len.1.trans hMl
      subst hN1
      have HML := Lib.hid hMl
      have F4 := Lib.hid (F3.out.below hb)
      have HZ4 : Hid (Q + 1 + 1 < w4.heap.size) := Lib.hid F4.out.r.lt
      obtain ⟨O, hO⟩ : ∃ O, w4.heap.size = O := ⟨_, rfl⟩
      have HOO := Lib.hid hO
      obtain ⟨w5, hw5⟩ : ∃ w5, w4.alloc (.cells #[.int .i64 n, .slice A1 N1 c1] 31) = w5 := ⟨_, rfl⟩
      have HW5 := Lib.hid (show Whole w5 O 31 #[.int .i64 n, .slice A1 N1 c1] by rw [← hw5, ← hO]; exact Whole.made w4 _ _)
      have HB5 := Lib.hid (show Below w4.heap.size w4 w5 by rw [← hw5]; exact below_new w4 _)
      have F5 := Lib.hid (F4.out.below HB5.out)
      have HQ5 := Lib.hid (HOQ.out.kept HB5.out)
      have HT5 := Lib.hid (HT.out.below F5.out.b (Nat.le_of_eq HQ.out))
      have HLO : Hid (∀ x ∈ M, ∀ b, (lfV x).ownBlock = some b → b < O) := Lib.hid (fun x hx b hb' => by have := (HOX.out.2.1.lt x hx b hb').2; have := HOO.out; omega)
      have c0 := F5.out.q.cell 0
      have c1' := F5.out.q.cell 1
      have o0 := HW5.out.cell 0
      have o1 := HW5.out.cell 1
      simp at c0 c1' o0 o1
      clear ho hk hb b0 b1 hMl
      by_cases hfull : N1 < 6 ∧ n ≤ 99
      · have HE : Hid (qaN n L us tx T = n + 1 ∧ qaK n L us tx T = L.map keyI ++ [(n, us, tx, T)] ∧ qaO n L us tx T = true) := Lib.hid (by
          have hg : qaG n L = true := by
            unfold qaG
            rw [HL.out, decide_eq_true hfull.1, decide_eq_true hfull.2]; rfl
          simp [qaN, qaK, qaO, HVV.out, hg])
        have h6' : ¬ (6 : Int) ≤ (N1 : Int) := by omega
        have h9 : ¬ (99 : Int) < n := by omega
        have hs5 : w5.heap.size = O + 1 := by rw [← hw5, ← hO]; simp
        obtain ⟨w6, hw6⟩ : ∃ w6, w5.alloc (.cells #[] 9) = w6 := ⟨_, rfl⟩
        have HB6 := Lib.hid (show Below w5.heap.size w5 w6 by rw [← hw6]; exact below_new w5 _)
        have HE6 := Lib.hid (show ROwn stR w6 (O + 1) (.slice (some ⟨O + 1, 0, none⟩) 0 0) [] by rw [← hw6]; exact ROwn.lit (R := stR) w5 (O + 1) (Nat.le_of_eq hs5.symm) hs5)
        have F6 := Lib.hid (F5.out.below HB6.out)
        have HW6 := Lib.hid (HW5.out.below HB6.out HW5.out.lt)
        have HQ6 := Lib.hid (HQ5.out.kept HB6.out)
        have HT6 := Lib.hid (HT5.out.below HB6.out (Nat.le_refl _))
        have HTN := Lib.hid HT5.out.1
        have hNT : NT ≤ 4194304 := HT5.out.2.1
        have hml : 0 + NT ≤ maxLen := by unfold maxLen; omega
        have hby : (0 + NT) * 16 ≤ 140737488355328 := by omega
        have hs6 : O + 1 ≤ w6.heap.size := by rw [← hw6, ← hs5]; simp
        have HS6 := Lib.hid hs6
        have hml2 : N1 + 1 ≤ maxLen := by unfold maxLen; omega
        have hby2 : (N1 + 1) * 64 ≤ 140737488355328 := by omega
        have HQO : Hid (Q + 1 + 1 < O) := Lib.hid (by have := HZ4.out; omega)
        have wn : IntKind.i64.wrap (n + 1) = n + 1 := IntWalk.i64_in _ (by omega)
        clear hfull hNT
        go_wp2
        clear c1' o0
        refine wp_region_till (fun w' => w'.cell? ⟨O, 1, none⟩ = some (.slice A1 N1 c1) ∧ w'.cell? ⟨Q, 0, none⟩ = some (.int .i64 n) ∧ w'.cell? ⟨Q + 1, 0, none⟩ = some (.string us) ∧ w'.cell? ⟨Q + 1, 1, none⟩ = some (.slice AT NT cT) ∧ w'.cell? ⟨Q + 1, 2, none⟩ = some (.string tx)) 16 (by kernel_rfl) ?_
        refine wpTill_take (i := 0) (v := ?v0) rfl (by kernel_rfl) (by kernel_rfl) (by kernel_rfl) (by kernel_rfl) (by kernel_rfl) (fun _ _ _ h => h) ⟨HW5.out.cell 1, F5.out.q.cell 0, F5.out.x.cell 0, F5.out.x.cell 1, F5.out.x.cell 2⟩ (by rfl) ?hy0 ?r0
        case hy0 =>
          rintro wz ⟨z0, z1, z2, z3, z4⟩
          go_simp
          try with_reducible rfl
        try simp only [Act.put]
        refine wpTill_take (i := 1) (v := ?v1) rfl (by kernel_rfl) (by kernel_rfl) (by kernel_rfl) (by kernel_rfl) (by kernel_rfl) (fun _ _ _ h => h) ⟨HW5.out.cell 1, F5.out.q.cell 0, F5.out.x.cell 0, F5.out.x.cell 1, F5.out.x.cell 2⟩ (by rfl) ?hy1 ?r1
        case hy1 =>
          rintro wz ⟨z0, z1, z2, z3, z4⟩
          go_simp
          try with_reducible rfl
        try simp only [Act.put]
        refine wpTill_take (i := 2) (v := ?v2) rfl (by kernel_rfl) (by kernel_rfl) (by kernel_rfl) (by kernel_rfl) (by kernel_rfl) (fun _ _ _ h => h) ⟨HW5.out.cell 1, F5.out.q.cell 0, F5.out.x.cell 0, F5.out.x.cell 1, F5.out.x.cell 2⟩ (by rfl) ?hy2 ?r2
        case hy2 =>
          rintro wz ⟨z0, z1, z2, z3, z4⟩
          go_simp
          try with_reducible rfl
        try simp only [Act.put]
        refine wpTill_take (i := 3) (v := ?v3) rfl (by kernel_rfl) (by kernel_rfl) (by kernel_rfl) (by kernel_rfl) (by kernel_rfl) (fun _ _ _ h => h) ⟨HW5.out.cell 1, F5.out.q.cell 0, F5.out.x.cell 0, F5.out.x.cell 1, F5.out.x.cell 2⟩ (by rfl) ?hy3 ?r3
        case hy3 =>
          rintro wz ⟨z0, z1, z2, z3, z4⟩
          go_simp
          try with_reducible rfl
        try simp only [Act.put]
        refine wpTill_take (i := 4) (v := ?v4) rfl (by kernel_rfl) (by kernel_rfl) (by kernel_rfl) (by kernel_rfl) (by kernel_rfl) (fun _ _ _ h => h) ⟨HW5.out.cell 1, F5.out.q.cell 0, F5.out.x.cell 0, F5.out.x.cell 1, F5.out.x.cell 2⟩ (by rfl) ?hy4 ?r4
        case hy4 =>
          rintro wz ⟨z0, z1, z2, z3, z4⟩
          go_simp
          try with_reducible rfl
        try simp only [Act.put]
        refine wpTill_take (i := 5) (v := ?v5) rfl (by kernel_rfl) (by kernel_rfl) (by kernel_rfl) (by kernel_rfl) (by kernel_rfl) (fun _ _ _ h => h) ⟨HW5.out.cell 1, F5.out.q.cell 0, F5.out.x.cell 0, F5.out.x.cell 1, F5.out.x.cell 2⟩ (by rfl) ?hy5 ?r5
        case hy5 =>
          rintro wz ⟨z0, z1, z2, z3, z4⟩
          go_simp
          try with_reducible rfl
        try simp only [Act.put]
        refine wpTill_take (i := 6) (v := ?v6) rfl (by kernel_rfl) (by kernel_rfl) (by kernel_rfl) (by kernel_rfl) (by kernel_rfl) (fun _ _ _ h => h) ⟨HW5.out.cell 1, F5.out.q.cell 0, F5.out.x.cell 0, F5.out.x.cell 1, F5.out.x.cell 2⟩ (by rfl) ?hy6 ?r6
        case hy6 =>
          rintro wz ⟨z0, z1, z2, z3, z4⟩
          go_simp
          try with_reducible rfl
        try simp only [Act.put]
        refine wpTill_take (i := 7) (v := ?v7) rfl (by kernel_rfl) (by kernel_rfl) (by kernel_rfl) (by kernel_rfl) (by kernel_rfl) (fun _ _ _ h => h) ⟨HW5.out.cell 1, F5.out.q.cell 0, F5.out.x.cell 0, F5.out.x.cell 1, F5.out.x.cell 2⟩ (by rfl) ?hy7 ?r7
        case hy7 =>
          rintro wz ⟨z0, z1, z2, z3, z4⟩
          go_simp
          try with_reducible rfl
        try simp only [Act.put]
        refine wpTill_take (i := 9) (v := ?v9) rfl (by kernel_rfl) (by kernel_rfl) (by kernel_rfl) (by kernel_rfl) (by kernel_rfl) (fun _ _ _ h => h) ⟨HW5.out.cell 1, F5.out.q.cell 0, F5.out.x.cell 0, F5.out.x.cell 1, F5.out.x.cell 2⟩ (by rfl) ?hy9 ?r9
        case hy9 =>
          rintro wz ⟨z0, z1, z2, z3, z4⟩
          go_simp
          try with_reducible rfl
        try simp only [Act.put]
        refine wpTill_take (i := 10) (v := ?v10) rfl (by kernel_rfl) (by kernel_rfl) (by kernel_rfl) (by kernel_rfl) (by kernel_rfl) (fun _ _ _ h => h) ⟨HW5.out.cell 1, F5.out.q.cell 0, F5.out.x.cell 0, F5.out.x.cell 1, F5.out.x.cell 2⟩ (by rfl) ?hy10 ?r10
        case hy10 =>
          rintro wz ⟨z0, z1, z2, z3, z4⟩
          go_simp
          try with_reducible rfl
        try simp only [Act.put]
        refine wpTill_one (i := 8) (by kernel_rfl) rfl (fun K hK => ?_)
        go_simp
        refine hK.out _ _ (fun _ => ⟨HW6.out.cell 1, F6.out.q.cell 0, F6.out.x.cell 0, F6.out.x.cell 1, F6.out.x.cell 2⟩) ?_
        clear hK K
        try simp only [Act.put]
        refine wpTill_one (i := 11) (by kernel_rfl) rfl (fun K hK => ?_)
        refine step_append_rows rfl (.tmp 36) (.tmp 38) 23 rfl stR (O + 1) i0 _ 16 Try.underlying23 hi0 hq0 hq1 hq2 rfl (by decide) (.slice (some ⟨O + 1, 0, none⟩) 0 0) [] T 0 rfl rfl (show ROwn stR w6.drew (O + 1) (.slice (some ⟨O + 1, 0, none⟩) 0 0) [] from HE6.out) AT NT cT rfl HTN.out (show RAt stR w6.drew AT T from HT6.out.2.2.1) HT6.out.2.2.2.1 HT6.out.2.2.2.2.1 hml hby HS6.out ?_
        intro v' w7 ho7 hg7 hnn
        try rw [List.nil_append] at ho7
        obtain ⟨A7, N7, c7, rfl⟩ := ho7.val
        have hN7 : NT = N7 := (ho7.len.1.trans HTN.out).symm
        subst hN7
        have hg7' : w6.grownBy w7 (some (O + 1)) := ⟨hg7.os, hg7.tape, hg7.output, hg7.size, hg7.block⟩
        have HO7 := Lib.hid ho7
        have hq7 : ∀ (b : Nat) (t : TypeId) (cs : Array Value), Whole w6 b t cs → b ≤ O → Whole w7 b t cs := fun b t cs hw hbO => hw.grown hg7' (fun e => by have h2 := Option.some.inj (show some b = some (O + 1) from e); omega)
        have F7 : Hid (QA3 w w7 Q n A N1 cap us tx AT NT cT) := Lib.hid (F6.out.same (fun b t cs hw hb => hq7 b t cs hw (by have := HQO.out; omega)) ((Below.refl Q w6).grown hg7' (by have := HS6.out; have := HQO.out; omega) (fun z e => by have h2 := Option.some.inj (show some (O + 1) = some z from e); have := HQO.out; omega)))
        have HW7 := Lib.hid (hq7 _ _ _ HW6.out (Nat.le_refl _))
        have HQ7 : Hid (OwnQ w7 Q A1 N1 c1 M) := Lib.hid (⟨HQ6.out.1.apart hg7' (own_apart HQ6.out.1 HE6.out (by decide)), HQ6.out.2.1.grownR HE6.out (fun g hg b hb => (by have := HLO.out g hg b hb; omega)) hg7', HQ6.out.2.2⟩)
        obtain ⟨P, hP⟩ : ∃ P, w7.heap.size = P := ⟨_, rfl⟩
        obtain ⟨w8, hw8⟩ : ∃ w8, w7.alloc (.cells #[.int .i64 n, .string us, .string tx, .slice A7 NT c7] 38) = w8 := ⟨_, rfl⟩
        have HB8 := Lib.hid (show Below w7.heap.size w7 w8 by rw [← hw8]; exact below_new w7 _)
        have HN8 : Hid (RAt qiR w8 (some ⟨P, 0, none⟩) [⟨n, us, tx, A7, NT, c7, T⟩]) := Lib.hid (by rw [← hw8]; exact RAt.made qiR w7 [⟨n, us, tx, A7, NT, c7, T⟩] P hP)
        have F8 := Lib.hid (F7.out.below HB8.out)
        have HW8 := Lib.hid (HW7.out.below HB8.out HW7.out.lt)
        have HQ8 := Lib.hid (HQ7.out.kept HB8.out)
        have HO8 : Hid (ROwn stR w8 Q (.slice A7 NT c7) T) := Lib.hid ((HO7.out.kept HB8.out).from (by have := HQO.out; omega))
        have HS8 : Hid (Q ≤ w8.heap.size) := Lib.hid (by have := F8.out.q.lt; omega)
        have HAP : Hid (∀ x ∈ M, Apt x ⟨n, us, tx, A7, NT, c7, T⟩) := Lib.hid (fun x hx b e1 e2 => by
          have h5 := HLO.out x hx b e1
          have h6 := (World.ownsRow.lt HO7.out b e2).1
          omega)
        clear ho7 hg7 hg7' hnn hq7
        refine hK.out _ _ (fun _ => ⟨HW7.out.cell 1, F7.out.q.cell 0, F7.out.x.cell 0, F7.out.x.cell 1, F7.out.x.cell 2⟩) ?_
        clear hK K
        try simp only [Act.put]
        refine wpTill_take (i := 12) (v := ?v12) rfl (by kernel_rfl) (by kernel_rfl) (by kernel_rfl) (by kernel_rfl) (by kernel_rfl) (fun _ _ _ h => h) ⟨HW7.out.cell 1, F7.out.q.cell 0, F7.out.x.cell 0, F7.out.x.cell 1, F7.out.x.cell 2⟩ (by rfl) ?hy12 ?r12
        case hy12 =>
          rintro wz ⟨z0, z1, z2, z3, z4⟩
          go_simp
          try with_reducible rfl
        try simp only [Act.put]
        refine wpTill_one (i := 13) (by kernel_rfl) rfl (fun K hK => ?_)
        go_simp
        refine hK.out _ _ (fun _ => ⟨HW8.out.cell 1, F8.out.q.cell 0, F8.out.x.cell 0, F8.out.x.cell 1, F8.out.x.cell 2⟩) ?_
        clear hK K
        try simp only [Act.put]
        refine wpTill_one (i := 14) (by kernel_rfl) rfl (fun K hK => ?_)
        refine step_append_rows rfl (.tmp 29) (.tmp 41) 29 rfl qiR Q j0 _ 64 Try.underlying29 hj0 hp0 hp1 hp2 rfl (by decide) _ M [⟨n, us, tx, A7, NT, c7, T⟩] N1 HML.out rfl HQ8.out.1 (some ⟨P, 0, none⟩) 1 1 rfl rfl HN8.out (fun e => by cases e) (fun q e => by cases e; rfl) hml2 hby2 HS8.out ?_
        intro v'' w9 ho9 hg9 hnn
        obtain ⟨A9, N9, c9, rfl⟩ := ho9.val
        have hN9 : N9 = N1 + 1 := ho9.len.1.trans (by rw [List.length_append, HML.out]; rfl)
        subst hN9
        have hq9 : ∀ (b : Nat) (t : TypeId) (cs : Array Value), Whole w8 b t cs → t ≠ 38 → Whole w9 b t cs := fun b t cs hw ht => hw.grown hg9 (fun e => HQ8.out.1.whole hw ht e.symm)
        have HO9 : Hid (OwnQ w9 Q A9 (N1 + 1) c9 (M ++ [⟨n, us, tx, A7, NT, c7, T⟩])) := Lib.hid ⟨ho9, (HQ8.out.2.1.push (g := ⟨n, us, tx, A7, NT, c7, T⟩) HO8.out).grownT HQ8.out.1 (by decide) hg9, apt_push HQ8.out.2.2 HAP.out⟩
        have F9 : Hid (QA3 w w9 Q n A N1 cap us tx AT NT cT) := Lib.hid ⟨hq9 _ _ _ F8.out.q (by decide), hq9 _ _ _ F8.out.x (by decide), hq9 _ _ _ F8.out.r (by decide), F8.out.b.grown hg9 HS8.out (fun z e => (World.ownsRow.lt HQ8.out.1 z e).1)⟩
        have HW9 := Lib.hid (hq9 _ _ _ HW8.out (by decide))
        have HK9 : Hid ((M ++ [(⟨n, us, tx, A7, NT, c7, T⟩ : QI)]).map keyI = L.map keyI ++ [(n, us, tx, T)]) := Lib.hid (by rw [List.map_append, HK.out]; rfl)
        have d0 := F9.out.q.cell 0
        have o9 := HW9.out.cell 1
        have of1 := HW9.out.free 1
        simp at d0 o9
        clear ho9 hg9 hnn hq9
        refine hK.out _ _ (fun _ => ⟨HW9.out.cell 1, F9.out.q.cell 0, F9.out.x.cell 0, F9.out.x.cell 1, F9.out.x.cell 2⟩) ?_
        clear hK K
        try simp only [Act.put]
        refine wpTill_take (i := 15) (v := ?v15) rfl (by kernel_rfl) (by kernel_rfl) (by kernel_rfl) (by kernel_rfl) (by kernel_rfl) (fun _ _ _ h => h) ⟨HW9.out.cell 1, F9.out.q.cell 0, F9.out.x.cell 0, F9.out.x.cell 1, F9.out.x.cell 2⟩ (by rfl) ?hy15 ?r15
        case hy15 =>
          rintro wz ⟨z0, z1, z2, z3, z4⟩
          go_simp
          try with_reducible rfl
        try simp only [Act.put]
        refine wpTill_one (i := 16) (by kernel_rfl) rfl (fun K hK => ?_)
        go_simp
        refine hK.out _ _ (fun h => absurd rfl h) ?_
        clear hK K
        try simp only [Act.put]
        refine wpTill_done (by kernel_rfl) ?_ _
        obtain ⟨wx, hwx⟩ : ∃ wx, w9.setCell ⟨O, 1, none⟩ (.slice A9 (N1 + 1) c9) = wx := ⟨_, rfl⟩
        have HWX := Lib.hid (show Whole wx O 31 #[.int .i64 n, .slice A9 (N1 + 1) c9] by rw [← hwx]; exact HW9.out.store 1 (.slice A9 (N1 + 1) c9))
        have HOX2 := Lib.hid (show OwnQ wx Q A9 (N1 + 1) c9 (M ++ [⟨n, us, tx, A7, NT, c7, T⟩]) by rw [← hwx]; exact HO9.out.storeT HW9.out (by decide) (by decide) _)
        have FX := Lib.hid (show QA3 w wx Q n A N1 cap us tx AT NT cT by rw [← hwx]; exact ⟨F9.out.q.apart (p := ⟨O, 1, none⟩) (by have := HQO.out; show Q ≠ O; omega) _, F9.out.x.apart (p := ⟨O, 1, none⟩) (by have := HQO.out; show Q + 1 ≠ O; omega) _, F9.out.r.apart (p := ⟨O, 1, none⟩) (by have := HQO.out; show Q + 1 + 1 ≠ O; omega) _, F9.out.b.setCell (p := ⟨O, 1, none⟩) (by have := HQO.out; show Q ≤ O; omega) _⟩)
        rw [hwx]
        obtain ⟨wy, hwy⟩ : ∃ wy, wx.setCell ⟨O, 0, none⟩ (.int .i64 (n + 1)) = wy := ⟨_, rfl⟩
        have HWY := Lib.hid (show Whole wy O 31 #[.int .i64 (n + 1), .slice A9 (N1 + 1) c9] by rw [← hwy]; exact HWX.out.store 0 (.int .i64 (n + 1)))
        have HOY := Lib.hid (show OwnQ wy Q A9 (N1 + 1) c9 (M ++ [⟨n, us, tx, A7, NT, c7, T⟩]) by rw [← hwy]; exact HOX2.out.storeT HWX.out (by decide) (by decide) _)
        have FY := Lib.hid (show QA3 w wy Q n A N1 cap us tx AT NT cT by rw [← hwy]; exact ⟨FX.out.q.apart (p := ⟨O, 0, none⟩) (by have := HQO.out; show Q ≠ O; omega) _, FX.out.x.apart (p := ⟨O, 0, none⟩) (by have := HQO.out; show Q + 1 ≠ O; omega) _, FX.out.r.apart (p := ⟨O, 0, none⟩) (by have := HQO.out; show Q + 1 + 1 ≠ O; omega) _, FX.out.b.setCell (p := ⟨O, 0, none⟩) (by have := HQO.out; show Q ≤ O; omega) _⟩)
        have y0 := FX.out.q.cell 0
        have y1 := HWX.out.cell 0
        have yf := HWX.out.free 0
        have v0 := HWY.out.cell 0
        have v1 := HWY.out.cell 1
        have r0 := FY.out.r.cell 0
        have r1 := FY.out.r.cell 1
        have f0 := FY.out.r.free 0
        have f1 := FY.out.r.free 1
        have p := FY.out.res (.int .i64 (n + 1)) (.slice A9 (N1 + 1) c9)
        have p0 := p.cell 0
        have p1 := p.cell 1
        simp at y0 y1 v0 v1 r0 r1 p0 p1
        clear p d0 o9 of1
        go_wp2
        refine bodyPost_ret (v := .tuple #[.agg #[.int .i64 (n + 1), .slice A9 (N1 + 1) c9], .bool true]) (by simp [results, Try.results22, go_sem, p0, p1]) rfl ?_
        obtain ⟨e1, e2, e3⟩ := HE.out
        rw [e1, e2, e3]
        exact FY.out.end HQ.out HOY.out HK9.out
      · have HE : Hid (qaN n L us tx T = n ∧ qaK n L us tx T = L.map keyI ∧ qaO n L us tx T = false) := Lib.hid (by
          have hg : qaG n L = false := by
            unfold qaG
            rw [HL.out]
            by_cases h6 : N1 < 6
            · rw [decide_eq_true h6, decide_eq_false (by omega)]; rfl
            · rw [decide_eq_false h6]; rfl
          simp [qaN, qaK, qaO, HVV.out, hg])
        have r0 := F5.out.r.cell 0
        have r1 := F5.out.r.cell 1
        have f0 := F5.out.r.free 0
        have f1 := F5.out.r.free 1
        have p := F5.out.res (.int .i64 n) (.slice A1 N1 c1)
        have p0 := p.cell 0
        have p1 := p.cell 1
        simp at r0 r1 p0 p1
        clear p
        by_cases h6 : 6 ≤ N1
        · have h6' : (6 : Int) ≤ (N1 : Int) := by omega
          clear hfull h6
          go_wp2
          refine bodyPost_ret (v := .tuple #[.agg #[.int .i64 n, .slice A1 N1 c1], .bool false]) (by simp [results, Try.results22, go_sem, p0, p1]) rfl ?_
          obtain ⟨e1, e2, e3⟩ := HE.out
          rw [e1, e2, e3]
          exact F5.out.end HQ.out HQ5.out HK.out
        · have h6' : ¬ (6 : Int) ≤ (N1 : Int) := by omega
          have h9 : (99 : Int) < n := by omega
          clear hfull h6
          go_wp2
          refine bodyPost_ret (v := .tuple #[.agg #[.int .i64 n, .slice A1 N1 c1], .bool false]) (by simp [results, Try.results22, go_sem, p0, p1]) rfl ?_
          obtain ⟨e1, e2, e3⟩ := HE.out
          rw [e1, e2, e3]
          exact F5.out.end HQ.out HQ5.out HK.out
end Go.Proofs.Ytinbdibenbplnaa
namespace Go.Proofs.Ytinbdibenbplnaa
open Go.RowKit
set_option linter.unusedVariables false

theorem desc_keys {X : WX} {L : List QI} (h : kyX X = (L.map keyI).reverse) (ha : ascI L) : X.Pairwise fun a b => b.2.id < a.2.id := by
  have h1 : (kyX X).Pairwise fun a b => b.1 < a.1 := by
    rw [h, List.pairwise_reverse, List.pairwise_map]
    exact ha
  have h2 : (X.map fun y => keyI y.2).Pairwise fun a b => b.1 < a.1 := h1
  rw [List.pairwise_map] at h2
  exact h2
theorem keys_len {X : WX} {K : List QK} (h : kyX X = K.reverse) : X.length = K.length := by
  have := congrArg List.length h
  simpa [kyX] using this
theorem rev_keys (X : WX) : (X.map fun y => y.2).reverse.map keyI = (kyX X).reverse := by
  rw [List.map_reverse, List.map_map]
  rfl
section
variable {w wr w' : World} {Q B : Nat} {n m : Int} {A A1 : Option Addr} {N cap N1 c1 : Nat} {us tx : ByteArray} {AT : Option Addr} {NT cT : Nat} {L : List QI} {K : List QK} {z : Bool}
theorem QA3.far (h : QA3 w wr Q n A N cap us tx AT NT cT) (hb : Below B wr w') (hB : Q + 1 + 1 < B) : QA3 w w' Q n A N cap us tx AT NT cT :=
  ⟨h.q.below hb (by omega), h.x.below hb (by omega), h.r.below hb hB, h.b.trans (hb.mono (by omega))⟩
end
set_option maxRecDepth 20000 in
set_option maxHeartbeats 8000000 in
theorem impl_queueadd {n : Int} {A : Option Addr} {N cap : Nat} {L : List QI} (us tx : ByteArray) (T : List ByteArray) (AT : Option Addr) (NT cT : Nat) (w : World) (h : QIn w A N cap L) (ht : SIn w AT NT cT T) (hu : us.size ≤ 16777216) :
    Calls Try.prog 21 #[.agg #[.int .i64 n, .slice A N cap], .agg #[.string us, .slice AT NT cT, .string tx]] w (GiveQB w (qaN n L us tx T) (qaK n L us tx T) (qaO n L us tx T)) := by
  obtain ⟨Q, hQ⟩ : ∃ Q, w.heap.size = Q := ⟨_, rfl⟩
  have HQ := Lib.hid hQ
  have h1 := qa3_new w hQ n A N cap us tx AT NT cT
  obtain ⟨w1, hw1⟩ : ∃ w1, ((w.alloc (.cells #[.int .i64 n, .slice A N cap] 31)).alloc (.cells #[.string us, .slice AT NT cT, .string tx] 25)).alloc (.cells #[.int .i64 0, .slice none 0 0] 31) = w1 := ⟨_, rfl⟩
  have hs1 : w1.heap.size = Q + 1 + 1 + 1 := by rw [← hw1]; simp [hQ]
  rw [hw1] at h1
  obtain ⟨B, hB⟩ : ∃ B, w1.heap.size = B := ⟨_, rfl⟩
  have HBQ : Hid (Q + 1 + 1 < B) := Lib.hid (by omega)
  have HBB := Lib.hid hB
  have F1 := Lib.hid h1
  have HT := Lib.hid ht
  have HL := Lib.hid h.1
  have H1 := Lib.hid (h.below h1.b (Nat.le_of_eq hQ))
  have HT1 := Lib.hid (ht.below h1.b (Nat.le_of_eq hQ))
  have a0 := F1.out.q.cell 0
  have a1 := F1.out.q.cell 1
  simp at a0 a1
  clear h ht h1 hs1 hB
  cases hv : vQ n L with
  | false =>
    have HE : Hid (qaN n L us tx T = 0 ∧ qaK n L us tx T = [] ∧ qaO n L us tx T = false) := Lib.hid (by simp [qaN, qaK, qaO, qaV, hv])
    have HV := Lib.hid hv
    clear hv
    go_enter Try.func21, Try.ntmps21
    go_wp2_with fail
    refine (link_q_no w1 H1.out HV.out).mono ?_
    rintro e w2 ⟨rfl, hb⟩
    have F2 := Lib.hid (F1.out.below hb)
    have r0 := F2.out.r.cell 0
    have r1 := F2.out.r.cell 1
    have f0 := F2.out.r.free 0
    have f1 := F2.out.r.free 1
    have p := F2.out.res (.int .i64 0) (.slice none 0 0)
    have p0 := p.cell 0
    have p1 := p.cell 1
    simp at r0 r1 p0 p1
    clear p hb
    go_wp2
    refine bodyPost_ret (v := .tuple #[.agg #[.int .i64 0, .slice none 0 0], .bool false]) (by simp [results, Try.results21, go_sem, p0, p1]) rfl ?_
    obtain ⟨e1, e2, e3⟩ := HE.out
    rw [e1, e2, e3]
    exact F2.out.end HQ.out (OwnQ.nil _ _) rfl
  | true =>
    have HV := Lib.hid hv
    have hn6 := vQ_parts hv
    have hn1 := vQ_low hv
    have HN6 : Hid (N ≤ 6) := Lib.hid (by rw [← HL.out]; exact hn6.1)
    have HASC := Lib.hid (okQ_asc hn6.2.2.1).1
    cases hl : letB us T tx with
    | false =>
      have HE : Hid (qaN n L us tx T = 0 ∧ qaK n L us tx T = [] ∧ qaO n L us tx T = false) := Lib.hid (by simp [qaN, qaK, qaO, qaV, hl])
      have HLV := Lib.hid hl
      clear hv hl
      go_enter Try.func21, Try.ntmps21
      go_wp2_with fail
      refine (link_q_yes w1 H1.out HV.out).mono ?_
      rintro e w2 ⟨D, X, v, H, rfl, hs2, hk2, hb⟩
      have F2 := Lib.hid (F1.out.below hb)
      have HT2 := Lib.hid (HT1.out.below hb (Nat.le_refl _))
      rw [HBB.out] at hs2
      have HS2 := Lib.hid hs2
      have HK2 : Hid (kyX X = (L.map keyI).reverse) := Lib.hid hk2
      have hxl : X.length = N := by rw [keys_len hk2, List.length_map]; exact HL.out
      have HXL := Lib.hid hxl
      have x0 := F2.out.x.cell 0
      have x1 := F2.out.x.cell 1
      have x2 := F2.out.x.cell 2
      simp at x0 x1 x2
      clear hb hs2 hk2 hxl
      go_wp2_with fail
      refine (ilet_at HLV.out w2 HT2.out hu).mono ?_
      rintro e w3 ⟨rfl, hb⟩
      have F3 := Lib.hid (F2.out.below hb)
      have r0 := F3.out.r.cell 0
      have r1 := F3.out.r.cell 1
      have f0 := F3.out.r.free 0
      have f1 := F3.out.r.free 1
      have p := F3.out.res (.int .i64 0) (.slice none 0 0)
      have p0 := p.cell 0
      have p1 := p.cell 1
      simp at r0 r1 p0 p1
      clear p hb
      go_wp2
      refine bodyPost_ret (v := .tuple #[.agg #[.int .i64 0, .slice none 0 0], .bool false]) (by simp [results, Try.results21, go_sem, p0, p1]) rfl ?_
      obtain ⟨e1, e2, e3⟩ := HE.out
      rw [e1, e2, e3]
      exact F3.out.end HQ.out (OwnQ.nil _ _) rfl
    | true =>
      have HLV := Lib.hid hl
      have HVV : Hid (qaV n L us tx T = true) := Lib.hid (by unfold qaV; rw [hv, hl]; rfl)
      clear hv hl
      by_cases hfull : N < 6 ∧ n ≤ 99
      · have HE : Hid (qaN n L us tx T = n + 1 ∧ qaK n L us tx T = L.map keyI ++ [(n, us, tx, T)] ∧ qaO n L us tx T = true) := Lib.hid (by
          have hg : qaG n L = true := by
            unfold qaG
            rw [HL.out, decide_eq_true hfull.1, decide_eq_true hfull.2]; rfl
          simp [qaN, qaK, qaO, HVV.out, hg])
        have HLAST : Hid (∀ g ∈ L, g.id < n) := Lib.hid (fun g hg => by have := (okQ_le hn6.2.2.1).2 g hg; have := hn6.2.2.2; omega)
        have HF1 := Lib.hid hfull.1
        have HF2 := Lib.hid hfull.2
        have HF3 := Lib.hid hn1
        clear hfull hn6 hn1
        go_enter Try.func21, Try.ntmps21
        go_wp2_with fail
        refine (link_q_yes w1 H1.out HV.out).mono ?_
        rintro e w2 ⟨D, X, v, H, rfl, hs2, hk2, hb⟩
        have F2 := Lib.hid (F1.out.below hb)
        have HT2 := Lib.hid (HT1.out.below hb (Nat.le_refl _))
        rw [HBB.out] at hs2
        have HS2 := Lib.hid hs2
        have HK2 : Hid (kyX X = (L.map keyI).reverse) := Lib.hid hk2
        have hxl : X.length = N := by rw [keys_len hk2, List.length_map]; exact HL.out
        have HXL := Lib.hid hxl
        have x0 := F2.out.x.cell 0
        have x1 := F2.out.x.cell 1
        have x2 := F2.out.x.cell 2
        simp at x0 x1 x2
        clear hb hs2 hk2 hxl
        go_wp2_with fail
        refine (ilet_at HLV.out w2 HT2.out hu).mono ?_
        rintro e w3 ⟨rfl, hb⟩
        have F3 := Lib.hid (F2.out.below hb)
        have HS3 := Lib.hid (HS2.out.below hb)
        have HT3 := Lib.hid (HT2.out.below hb (Nat.le_refl _))
        have HB3 : Hid (B ≤ w3.heap.size) := Lib.hid (by have := HS2.out.s.lo; have := HS2.out.s.head.lt; have := hb.size; omega)
        have y0 := F3.out.x.cell 0
        have y1 := F3.out.x.cell 1
        have y2 := F3.out.x.cell 2
        simp at y0 y1 y2
        clear hb x0 x1 x2
        go_wp2_with fail
        refine (sp_add_yes us tx T AT NT cT w3 HS3.out HT3.out (by rw [HXL.out]; exact HF1.out) HF2.out (by have := HF3.out; omega) HB3.out).mono ?_
        rintro e w4 ⟨G, q, v4, H4, rfl, hs4, hk4, hb4⟩
        have HS4 := Lib.hid hs4
        have HD4 : Hid (((G, q) :: X).Pairwise fun a b => b.2.id < a.2.id) := Lib.hid (List.Pairwise.cons (fun y hy => by
          have h1 : keyI y.2 ∈ (L.map keyI).reverse := by rw [← HK2.out]; exact List.mem_map.2 ⟨y, hy, rfl⟩
          rw [List.mem_reverse] at h1
          obtain ⟨g, hg, e⟩ := List.mem_map.1 h1
          have h2 := HLAST.out g hg
          have h3 : g.id = y.2.id := congrArg (·.1) e
          have h4 : q.id = n := congrArg (·.1) hk4
          show y.2.id < q.id
          omega) (desc_keys HK2.out HASC.out))
        have HX4 : Hid (((G, q) :: X).length ≤ 1000) := Lib.hid (by rw [List.length_cons, HXL.out]; have := HF1.out; omega)
        have HB4 : Hid (B ≤ w4.heap.size) := Lib.hid (Nat.le_trans HB3.out hb4.size)
        have F4 := Lib.hid (F3.out.far hb4 HBQ.out)
        have HKE : Hid ((((G, q) :: X).map fun y => y.2).reverse.map keyI = L.map keyI ++ [(n, us, tx, T)]) := Lib.hid (by
          rw [rev_keys]
          show (keyI q :: kyX X).reverse = _
          rw [HK2.out, List.reverse_cons, List.reverse_reverse, hk4])
        clear hs4 hk4 hb4
        clear y0 y1 y2
        go_wp2_with fail
        refine (sp_queue w4 HS4.out HD4.out HX4.out HB4.out).mono ?_
        rintro e w5 ⟨A5, N5, c5, rfl, ho5, hb5⟩
        have F5 := Lib.hid (F4.out.far hb5 HBQ.out)
        have HO5 : Hid (OwnQ w5 Q A5 N5 c5 _) := Lib.hid (ho5.from (by have := HBQ.out; omega))
        have r0 := F5.out.r.cell 0
        have r1 := F5.out.r.cell 1
        have f0 := F5.out.r.free 0
        have f1 := F5.out.r.free 1
        have p := F5.out.res (.int .i64 (n + 1)) (.slice A5 N5 c5)
        have p0 := p.cell 0
        have p1 := p.cell 1
        simp at r0 r1 p0 p1
        clear p ho5 hb5
        go_wp2
        refine bodyPost_ret (v := .tuple #[.agg #[.int .i64 (n + 1), .slice A5 N5 c5], .bool true]) (by simp [results, Try.results21, go_sem, p0, p1]) rfl ?_
        obtain ⟨e1, e2, e3⟩ := HE.out
        rw [e1, e2, e3]
        exact F5.out.end HQ.out HO5.out HKE.out
      · have HE : Hid (qaN n L us tx T = n ∧ qaK n L us tx T = L.map keyI ∧ qaO n L us tx T = false) := Lib.hid (by
          have hg : qaG n L = false := by
            unfold qaG
            rw [HL.out]
            by_cases h6 : N < 6
            · rw [decide_eq_true h6, decide_eq_false (by omega)]; rfl
            · rw [decide_eq_false h6]; rfl
          simp [qaN, qaK, qaO, HVV.out, hg])
        have HNF : Hid (N = 6 ∨ 99 < n) := Lib.hid (by have := HN6.out; omega)
        clear hfull hn6 hn1
        go_enter Try.func21, Try.ntmps21
        go_wp2_with fail
        refine (link_q_yes w1 H1.out HV.out).mono ?_
        rintro e w2 ⟨D, X, v, H, rfl, hs2, hk2, hb⟩
        have F2 := Lib.hid (F1.out.below hb)
        have HT2 := Lib.hid (HT1.out.below hb (Nat.le_refl _))
        rw [HBB.out] at hs2
        have HS2 := Lib.hid hs2
        have HK2 : Hid (kyX X = (L.map keyI).reverse) := Lib.hid hk2
        have hxl : X.length = N := by rw [keys_len hk2, List.length_map]; exact HL.out
        have HXL := Lib.hid hxl
        have x0 := F2.out.x.cell 0
        have x1 := F2.out.x.cell 1
        have x2 := F2.out.x.cell 2
        simp at x0 x1 x2
        clear hb hs2 hk2 hxl
        go_wp2_with fail
        refine (ilet_at HLV.out w2 HT2.out hu).mono ?_
        rintro e w3 ⟨rfl, hb⟩
        have F3 := Lib.hid (F2.out.below hb)
        have HS3 := Lib.hid (HS2.out.below hb)
        have HT3 := Lib.hid (HT2.out.below hb (Nat.le_refl _))
        have HB3 : Hid (B ≤ w3.heap.size) := Lib.hid (by have := HS2.out.s.lo; have := HS2.out.s.head.lt; have := hb.size; omega)
        have y0 := F3.out.x.cell 0
        have y1 := F3.out.x.cell 1
        have y2 := F3.out.x.cell 2
        simp at y0 y1 y2
        clear hb x0 x1 x2
        go_wp2_with fail
        refine (sp_add_no us tx AT NT cT w3 HS3.out (by rw [HXL.out]; exact HN6.out) (by rw [HXL.out]; exact HNF.out)).mono ?_
        rintro e w4 ⟨rfl, hb4⟩
        have HS4 := Lib.hid (HS3.out.below hb4)
        have HD4 := Lib.hid (desc_keys HK2.out HASC.out)
        have HX4 : Hid (X.length ≤ 1000) := Lib.hid (by rw [HXL.out]; have := HN6.out; omega)
        have HB4 : Hid (B ≤ w4.heap.size) := Lib.hid (Nat.le_trans HB3.out hb4.size)
        have F4 := Lib.hid (F3.out.below hb4)
        have HKE : Hid ((X.map fun y => y.2).reverse.map keyI = L.map keyI) := Lib.hid (by rw [rev_keys, HK2.out, List.reverse_reverse])
        clear hb4
        clear y0 y1 y2
        go_wp2_with fail
        refine (sp_queue w4 HS4.out HD4.out HX4.out HB4.out).mono ?_
        rintro e w5 ⟨A5, N5, c5, rfl, ho5, hb5⟩
        have F5 := Lib.hid (F4.out.far hb5 HBQ.out)
        have HO5 : Hid (OwnQ w5 Q A5 N5 c5 _) := Lib.hid (ho5.from (by have := HBQ.out; omega))
        have r0 := F5.out.r.cell 0
        have r1 := F5.out.r.cell 1
        have f0 := F5.out.r.free 0
        have f1 := F5.out.r.free 1
        have p := F5.out.res (.int .i64 n) (.slice A5 N5 c5)
        have p0 := p.cell 0
        have p1 := p.cell 1
        simp at r0 r1 p0 p1
        clear p ho5 hb5
        go_wp2
        refine bodyPost_ret (v := .tuple #[.agg #[.int .i64 n, .slice A5 N5 c5], .bool false]) (by simp [results, Try.results21, go_sem, p0, p1]) rfl ?_
        obtain ⟨e1, e2, e3⟩ := HE.out
        rw [e1, e2, e3]
        exact F5.out.end HQ.out HO5.out HKE.out
/-- A queue, a text, and whether a copy was taken. -/
def GiveQT (w : World) (n : Int) (K : List QK) (tx : ByteArray) (z : Bool) (e : Ending) (w' : World) : Prop := ∃ A N cap L, e = .returned (.tuple #[.agg #[.int .i64 n, .slice A N cap], .string tx, .bool z]) ∧ OwnQ w' w.heap.size A N cap L ∧ L.map keyI = K ∧ Below w.heap.size w w'
/-- The two blocks of QueueTake's frame. -/
structure QT2 (w wr : World) (Q : Nat) (n : Int) (A : Option Addr) (N cap : Nat) : Prop where
  q : Whole wr Q 31 #[.int .i64 n, .slice A N cap]
  r : Whole wr (Q + 1) 31 #[.int .i64 0, .slice none 0 0]
  b : Below Q w wr
section
variable {w wr w' : World} {Q B : Nat} {n m : Int} {A A1 : Option Addr} {N cap N1 c1 : Nat} {tx : ByteArray} {L : List QI} {K : List QK} {z : Bool}
theorem QT2.below (h : QT2 w wr Q n A N cap) (hb : Below wr.heap.size wr w') : QT2 w w' Q n A N cap := ⟨h.q.below hb h.q.lt, h.r.below hb h.r.lt, h.b.trans (hb.mono (Nat.le_of_lt h.q.lt))⟩
theorem QT2.far (h : QT2 w wr Q n A N cap) (hb : Below B wr w') (hB : Q + 1 < B) : QT2 w w' Q n A N cap := ⟨h.q.below hb (by omega), h.r.below hb hB, h.b.trans (hb.mono (by omega))⟩
theorem qt2_new (w : World) {Q : Nat} (hQ : w.heap.size = Q) (n : Int) (A : Option Addr) (N cap : Nat) : QT2 w ((w.alloc (.cells #[.int .i64 n, .slice A N cap] 31)).alloc (.cells #[.int .i64 0, .slice none 0 0] 31)) Q n A N cap := by
  have e1 : (w.alloc (.cells #[.int .i64 n, .slice A N cap] 31)).heap.size = Q + 1 := by simp [hQ]
  refine ⟨?_, ?_, ?_⟩
  · rw [← hQ]; exact (Whole.made w _ _).alloc _
  · have := Whole.made (w.alloc (.cells #[.int .i64 n, .slice A N cap] 31)) 31 #[.int .i64 0, .slice none 0 0]; rw [e1] at this; exact this
  · rw [← hQ]; exact (below_new w _).alloc (by simp) _
theorem QT2.res (h : QT2 w wr Q n A N cap) (u v : Value) : Whole ((wr.setCell ⟨Q + 1, 0, none⟩ u).setCell ⟨Q + 1, 1, none⟩ v) (Q + 1) 31 #[u, v] := (h.r.store 0 _).store 1 _
theorem QT2.end (h : QT2 w wr Q n A N cap) (hQ : w.heap.size = Q) (ho : OwnQ wr Q A1 N1 c1 L) (hk : L.map keyI = K) :
    GiveQT w m K tx z (.returned (.tuple #[.agg #[.int .i64 m, .slice A1 N1 c1], .string tx, .bool z])) ((wr.setCell ⟨Q + 1, 0, none⟩ (.int .i64 m)).setCell ⟨Q + 1, 1, none⟩ (.slice A1 N1 c1)) := by
  refine ⟨A1, N1, c1, L, rfl, ?_, hk, ?_⟩
  · rw [hQ]
    exact (ho.storeT h.r (by decide) (by decide) _).storeT (h.r.store 0 _) (by decide) (by decide) _
  · rw [hQ]
    exact (h.b.setCell (p := ⟨Q + 1, 0, none⟩) (Nat.le_succ Q) _).setCell (p := ⟨Q + 1, 1, none⟩) (Nat.le_succ Q) _
theorem letB_parts {us tx : ByteArray} {T : List ByteArray} (h : letB us T tx = true) : T.Nodup ∧ T ≠ [] ∧ T.length ≤ 3 ∧ (∀ x ∈ T, x.size ≤ 8) ∧ tx.size ≤ 20 ∧ us.size ≤ 8 := by
  unfold letB at h
  simp only [Bool.and_eq_true, decide_eq_true_eq] at h
  obtain ⟨h1, h2, h3⟩ := recB_parts h.2.1
  obtain ⟨h4, h5⟩ := namesB_iff.1 h1
  refine ⟨h5, fun e => by rw [e] at h2; simp at h2, h3, fun x hx => (nm_size (h4 x hx)).2, h.2.2, (nm_size h.1).2⟩
theorem key_item {X : WX} (h : kyX X = (L.map keyI).reverse) {y : Nat × QI} (hy : y ∈ X) : ∃ g ∈ L, keyI g = keyI y.2 := by
  have h1 : keyI y.2 ∈ (L.map keyI).reverse := by rw [← h]; exact List.mem_map.2 ⟨y, hy, rfl⟩
  rw [List.mem_reverse] at h1
  exact List.mem_map.1 h1
end
set_option maxRecDepth 20000 in
set_option maxHeartbeats 8000000 in
theorem impl_queuetake {n : Int} {A : Option Addr} {N cap : Nat} {L : List QI} (id : Int) (u : ByteArray) (w : World) (h : QIn w A N cap L) :
    Calls Try.prog 31 #[.agg #[.int .i64 n, .slice A N cap], .int .i64 id, .string u] w (GiveQT w (qtN n L) (qtK n L id u) (qtT n L id u) (qtO n L id u)) := by
  obtain ⟨Q, hQ⟩ : ∃ Q, w.heap.size = Q := ⟨_, rfl⟩
  have HQ := Lib.hid hQ
  have h1 := qt2_new w hQ n A N cap
  obtain ⟨w1, hw1⟩ : ∃ w1, (w.alloc (.cells #[.int .i64 n, .slice A N cap] 31)).alloc (.cells #[.int .i64 0, .slice none 0 0] 31) = w1 := ⟨_, rfl⟩
  have hs1 : w1.heap.size = Q + 1 + 1 := by rw [← hw1]; simp [hQ]
  rw [hw1] at h1
  obtain ⟨B, hB⟩ : ∃ B, w1.heap.size = B := ⟨_, rfl⟩
  have HBQ : Hid (Q + 1 < B) := Lib.hid (by omega)
  have HBB := Lib.hid hB
  have F1 := Lib.hid h1
  have HL := Lib.hid h.1
  have H1 := Lib.hid (h.below h1.b (Nat.le_of_eq hQ))
  have a0 := F1.out.q.cell 0
  have a1 := F1.out.q.cell 1
  simp at a0 a1
  clear h h1 hs1 hB
  cases hv : vQ n L with
  | false =>
    have HE : Hid (qtN n L = 0 ∧ qtK n L id u = [] ∧ qtT n L id u = ⟨#[]⟩ ∧ qtO n L id u = false) := Lib.hid (by simp [qtN, qtK, qtT, qtO, hv])
    have HV := Lib.hid hv
    clear hv
    go_enter Try.func31, Try.ntmps31
    go_wp2_with fail
    refine (link_q_no w1 H1.out HV.out).mono ?_
    rintro e w2 ⟨rfl, hb⟩
    have F2 := Lib.hid (F1.out.below hb)
    have r0 := F2.out.r.cell 0
    have r1 := F2.out.r.cell 1
    have f0 := F2.out.r.free 0
    have f1 := F2.out.r.free 1
    have p := F2.out.res (.int .i64 0) (.slice none 0 0)
    have p0 := p.cell 0
    have p1 := p.cell 1
    simp at r0 r1 p0 p1
    clear p hb
    go_wp2
    refine bodyPost_ret (v := .tuple #[.agg #[.int .i64 0, .slice none 0 0], .string ⟨#[]⟩, .bool false]) (by simp [results, Try.results31, go_sem, p0, p1]) rfl ?_
    obtain ⟨e1, e2, e3, e4⟩ := HE.out
    rw [e1, e2, e3, e4]
    exact F2.out.end HQ.out (OwnQ.nil _ _) rfl
  | true =>
    have HV := Lib.hid hv
    have hn6 := vQ_parts hv
    have HN6 : Hid (N ≤ 6) := Lib.hid (by rw [← HL.out]; exact hn6.1)
    have HASC := Lib.hid (okQ_asc hn6.2.2.1).1
    have HIT : Hid (∀ g ∈ L, itB g = true) := Lib.hid (fun g hg => ((okQ_asc hn6.2.2.1).2 g hg).2)
    have HDST := Lib.hid (asc_dst (okQ_asc hn6.2.2.1).1)
    have HNE : Hid (∀ k ∈ L.map keyI, k.2.2.2 ≠ []) := Lib.hid (fun k hk => by
      obtain ⟨g, hg, rfl⟩ := List.mem_map.1 hk
      exact (letB_parts (HIT.out g hg)).2.1)
    clear hn6
    by_cases hfnd : ∃ k ∈ L.map keyI, k.1 = id ∧ u ∈ k.2.2.2
    · obtain ⟨k, hk, hk1, hk2⟩ := hfnd
      obtain ⟨j, hj, hke⟩ := List.getElem_of_mem hk
      have hkj : (L.map keyI)[j]? = some k := by rw [List.getElem?_eq_getElem hj, hke]
      have HE : Hid (qtN n L = n ∧ qtK n L id u = (if (k.2.2.2.filter fun x => decide (x ≠ u)) ≠ [] then (L.map keyI).set j (k.1, k.2.1, k.2.2.1, k.2.2.2.filter fun x => decide (x ≠ u)) else (L.map keyI).eraseIdx j) ∧ qtT n L id u = k.2.2.1 ∧ qtO n L id u = true) := Lib.hid (by
        have h1 := find_here HDST.out hkj hk1 hk2
        have h2 := tkK_here (id := id) (u := u) HDST.out HNE.out hkj hk1
        rw [tk1_yes hk1 hk2] at h2
        refine ⟨by simp [qtN, hv], by simp only [qtK, hv, if_true]; exact h2, by simp [qtT, hv, tkT, h1], by simp [qtO, hv, tkO, h1]⟩)
      have HKJ := Lib.hid hkj
      have HJ : Hid (j < (L.map keyI).length) := Lib.hid hj
      have HK1 := Lib.hid hk1
      have HKU := Lib.hid hk2
      clear hk hk1 hk2 hke hkj hv hj
      go_enter Try.func31, Try.ntmps31
      go_wp2_with fail
      refine (link_q_yes w1 H1.out HV.out).mono ?_
      rintro e w2 ⟨D, X, v, H, rfl, hs2, hk2, hb⟩
      have F2 := Lib.hid (F1.out.below hb)
      rw [HBB.out] at hs2
      have HS2 := Lib.hid hs2
      have HK2 : Hid (kyX X = (L.map keyI).reverse) := Lib.hid hk2
      have hxl : X.length = N := by rw [keys_len hk2, List.length_map]; exact HL.out
      have HX2 : Hid (X.length ≤ 1000) := Lib.hid (by rw [hxl]; have := HN6.out; omega)
      have HD2 := Lib.hid (desc_keys hk2 HASC.out)
      have HB2 : Hid (B ≤ w2.heap.size) := Lib.hid (by have := hs2.s.lo; have := hs2.s.head.lt; omega)
      have HSZ : Hid (∀ y ∈ X, y.2.T.Nodup ∧ y.2.T.length ≤ 1000 ∧ ∀ x ∈ y.2.T, x.size ≤ 16777216) := Lib.hid (fun y hy => by
        obtain ⟨g, hg, e⟩ := key_item hk2 hy
        have h1 := letB_parts (HIT.out g hg)
        have h2 : g.T = y.2.T := congrArg (·.2.2.2) e
        rw [h2] at h1
        exact ⟨h1.1, by have := h1.2.2.1; omega, fun x hx => by have := h1.2.2.2.1 x hx; omega⟩)
      clear hb hs2 hk2 hxl
      obtain ⟨i, hi⟩ : ∃ i, (L.map keyI).length - 1 - j = i := ⟨_, rfl⟩
      have HIJ := Lib.hid hi
      have hxk : (kyX X)[i]? = some k := by
        rw [HK2.out, List.getElem?_reverse (by have := HJ.out; omega), show (L.map keyI).length - 1 - i = j by have := HJ.out; omega]
        exact HKJ.out
      have HXK := Lib.hid hxk
      obtain ⟨⟨g, q⟩, hxi, hqk⟩ : ∃ y, X[i]? = some y ∧ keyI y.2 = k := by
        have h2 : (X.map fun y => keyI y.2)[i]? = some k := hxk
        rw [List.getElem?_map] at h2
        cases hy : X[i]? with
        | none => rw [hy] at h2; cases h2
        | some y => rw [hy] at h2; exact ⟨y, rfl, Option.some.inj h2⟩
      have HXI := Lib.hid hxi
      have HQK := Lib.hid hqk
      have hqid : q.id = id := by have : q.id = k.1 := congrArg (·.1) hqk; rw [this]; exact HK1.out
      have HFX := Lib.hid (show fx X id = i by rw [← hqid]; exact fx_desc HD2.out hxi)
      have HQU := Lib.hid (show u ∈ q.T by have : q.T = k.2.2.2 := congrArg (·.2.2.2) hqk; rw [this]; exact HKU.out)
      have HQS := Lib.hid (HSZ.out _ (List.mem_of_getElem? hxi))
      have HTX := Lib.hid (show q.tx = k.2.2.1 from congrArg (·.2.2.1) hqk)
      clear hi hxk hxi hqk hqid
      go_wp2_with fail
      refine (sp_take_yes (id := id) (u := u) w2 HS2.out HXI.out HFX.out HD2.out HQS.out.2 HQS.out.1 HQU.out HX2.out HB2.out).mono ?_
      rintro e w3 ⟨X', v3, H3, rfl, hs3, hk3, hd3, hl3, hb3⟩
      have HS3 := Lib.hid hs3
      have HD3 := Lib.hid hd3
      have HX3 : Hid (X'.length ≤ 1000) := Lib.hid (Nat.le_trans hl3 HX2.out)
      have HB3 : Hid (B ≤ w3.heap.size) := Lib.hid (Nat.le_trans HB2.out hb3.size)
      have F3 := Lib.hid (F2.out.far hb3 HBQ.out)
      have HKE : Hid ((X'.map fun y => y.2).reverse.map keyI = (if (k.2.2.2.filter fun x => decide (x ≠ u)) ≠ [] then (L.map keyI).set j (k.1, k.2.1, k.2.2.1, k.2.2.2.filter fun x => decide (x ≠ u)) else (L.map keyI).eraseIdx j)) := Lib.hid (by
        obtain ⟨k', hk', hk3⟩ := hk3
        rw [HXK.out] at hk'
        cases hk'
        rw [rev_keys, hk3]
        have hlr : i < (L.map keyI).reverse.length := by rw [List.length_reverse]; have := HJ.out; have := HIJ.out; omega
        have hji : (L.map keyI).reverse.length - 1 - i = j := by rw [List.length_reverse]; have := HJ.out; have := HIJ.out; omega
        split
        · rw [HK2.out, rev_set hlr, hji, List.reverse_reverse]
        · rw [HK2.out, rev_erase hlr, hji, List.reverse_reverse])
      clear hs3 hk3 hd3 hl3 hb3
      go_wp2_with fail
      refine (sp_queue w3 HS3.out HD3.out HX3.out HB3.out).mono ?_
      rintro e w5 ⟨A5, N5, c5, rfl, ho5, hb5⟩
      have F5 := Lib.hid (F3.out.far hb5 HBQ.out)
      have HO5 : Hid (OwnQ w5 Q A5 N5 c5 _) := Lib.hid (ho5.from (by have := HBQ.out; omega))
      have r0 := F5.out.r.cell 0
      have r1 := F5.out.r.cell 1
      have f0 := F5.out.r.free 0
      have f1 := F5.out.r.free 1
      have p := F5.out.res (.int .i64 n) (.slice A5 N5 c5)
      have p0 := p.cell 0
      have p1 := p.cell 1
      simp at r0 r1 p0 p1
      clear p ho5 hb5
      go_wp2
      refine bodyPost_ret (v := .tuple #[.agg #[.int .i64 n, .slice A5 N5 c5], .string q.tx, .bool true]) (by simp [results, Try.results31, go_sem, p0, p1]) rfl ?_
      obtain ⟨e1, e2, e3, e4⟩ := HE.out
      rw [e1, e2, e3, e4]
      rw [HTX.out]
      exact F5.out.end HQ.out HO5.out HKE.out
    · have hnk : ∀ k ∈ L.map keyI, ¬ (k.1 = id ∧ u ∈ k.2.2.2) := fun k hk h2 => hfnd ⟨k, hk, h2⟩
      have HE : Hid (qtN n L = n ∧ qtK n L id u = L.map keyI ∧ qtT n L id u = ⟨#[]⟩ ∧ qtO n L id u = false) := Lib.hid (by
        have h1 := find_none hnk
        have h2 := tkK_none HNE.out hnk
        refine ⟨by simp [qtN, hv], by simp only [qtK, hv, if_true]; exact h2, by simp [qtT, hv, tkT, h1], by simp [qtO, hv, tkO, h1]⟩)
      have HNK := Lib.hid hnk
      clear hfnd hnk hv
      go_enter Try.func31, Try.ntmps31
      go_wp2_with fail
      refine (link_q_yes w1 H1.out HV.out).mono ?_
      rintro e w2 ⟨D, X, v, H, rfl, hs2, hk2, hb⟩
      have F2 := Lib.hid (F1.out.below hb)
      rw [HBB.out] at hs2
      have HS2 := Lib.hid hs2
      have HK2 : Hid (kyX X = (L.map keyI).reverse) := Lib.hid hk2
      have hxl : X.length = N := by rw [keys_len hk2, List.length_map]; exact HL.out
      have HX2 : Hid (X.length ≤ 1000) := Lib.hid (by rw [hxl]; have := HN6.out; omega)
      have HD2 := Lib.hid (desc_keys hk2 HASC.out)
      have HB2 : Hid (B ≤ w2.heap.size) := Lib.hid (by have := hs2.s.lo; have := hs2.s.head.lt; omega)
      have HSZ : Hid (∀ y ∈ X, y.2.T.Nodup ∧ y.2.T.length ≤ 1000 ∧ ∀ x ∈ y.2.T, x.size ≤ 16777216) := Lib.hid (fun y hy => by
        obtain ⟨g, hg, e⟩ := key_item hk2 hy
        have h1 := letB_parts (HIT.out g hg)
        have h2 : g.T = y.2.T := congrArg (·.2.2.2) e
        rw [h2] at h1
        exact ⟨h1.1, by have := h1.2.2.1; omega, fun x hx => by have := h1.2.2.2.1 x hx; omega⟩)
      clear hb hs2 hk2 hxl
      have hno : ∀ g q, X[fx X id]? = some (g, q) → u ∉ q.T := fun g q hx hu2 => by
        obtain ⟨y, hy, e⟩ := key_item HK2.out (List.mem_of_getElem? hx)
        refine HNK.out (keyI q) (List.mem_map.2 ⟨y, hy, e⟩) ⟨fx_get hx, hu2⟩
      go_wp2_with fail
      refine (sp_take_no (id := id) (u := u) w2 HS2.out (fun y hy => (HSZ.out y hy).2) hno).mono ?_
      rintro e w3 ⟨rfl, rfl⟩
      clear hno
      go_wp2_with fail
      refine (sp_queue w3 HS2.out HD2.out HX2.out HB2.out).mono ?_
      rintro e w5 ⟨A5, N5, c5, rfl, ho5, hb5⟩
      have F5 := Lib.hid (F2.out.far hb5 HBQ.out)
      have HO5 : Hid (OwnQ w5 Q A5 N5 c5 _) := Lib.hid (ho5.from (by have := HBQ.out; omega))
      have HKE : Hid ((X.map fun y => y.2).reverse.map keyI = L.map keyI) := Lib.hid (by rw [rev_keys, HK2.out, List.reverse_reverse])
      have r0 := F5.out.r.cell 0
      have r1 := F5.out.r.cell 1
      have f0 := F5.out.r.free 0
      have f1 := F5.out.r.free 1
      have p := F5.out.res (.int .i64 n) (.slice A5 N5 c5)
      have p0 := p.cell 0
      have p1 := p.cell 1
      simp at r0 r1 p0 p1
      clear p ho5 hb5
      go_wp2
      refine bodyPost_ret (v := .tuple #[.agg #[.int .i64 n, .slice A5 N5 c5], .string ⟨#[]⟩, .bool false]) (by simp [results, Try.results31, go_sem, p0, p1]) rfl ?_
      obtain ⟨e1, e2, e3, e4⟩ := HE.out
      rw [e1, e2, e3, e4]
      exact F5.out.end HQ.out HO5.out HKE.out
end Go.Proofs.Ytinbdibenbplnaa
namespace Go.Proofs.Ytinbdibenbplnaa
open Go.RowKit
set_option linter.unusedVariables false

/-- Names without one. -/
def drT (u : ByteArray) (T : List ByteArray) : List ByteArray := T.filter fun x => decide (x ≠ u)
/-- A slice of texts of the call's own. -/
def GiveT (w : World) (T : List ByteArray) (e : Ending) (w' : World) : Prop := ∃ v, e = .returned v ∧ ROwn stR w' w.heap.size v T ∧ Below w.heap.size w w'
theorem flt_yes {L : List ByteArray} {k : Nat} {x u : ByteArray} (hx : L[k]? = some x) (h : x ≠ u) : drT u (L.take (k + 1)) = drT u (L.take k) ++ [x] := by
  unfold drT
  rw [List.take_add_one, hx, List.filter_append]
  show _ ++ List.filter _ [x] = _
  rw [List.filter_cons, if_pos (decide_eq_true h)]
  rfl
theorem flt_no {L : List ByteArray} {k : Nat} {x u : ByteArray} (hx : L[k]? = some x) (h : x = u) : drT u (L.take (k + 1)) = drT u (L.take k) := by
  unfold drT
  rw [List.take_add_one, hx, List.filter_append]
  show _ ++ List.filter _ [x] = _
  rw [List.filter_cons, if_neg (by simp [h])]
  exact List.append_nil _
theorem drT_le (u : ByteArray) (T : List ByteArray) : (drT u T).length ≤ T.length := List.length_filter_le _ _
set_option maxRecDepth 20000 in
set_option maxHeartbeats 4000000 in
theorem spec_without {A : Option Addr} {N cap : Nat} {L : List ByteArray} (u : ByteArray) (w : World) (h : SIn w A N cap L) : Calls Try.prog 84 #[.slice A N cap, .string u] w (GiveT w (drT u L)) := by
  obtain ⟨i0, hi0, hq0, hq1, hq2⟩ := info_parts Try.infoString
  have H := Lib.hid h
  have hl := h.2.1
  obtain ⟨E, hE⟩ : ∃ E, w.heap.size = E := ⟨_, rfl⟩
  have HE := Lib.hid hE
  obtain ⟨w1, hw1⟩ : ∃ w1, w.alloc (.cells #[] 9) = w1 := ⟨_, rfl⟩
  have HB1 := Lib.hid (show Below w.heap.size w w1 by rw [← hw1]; exact below_new w _)
  have HO1 := Lib.hid (show ROwn stR w1 E (.slice (some ⟨E, 0, none⟩) 0 0) [] by rw [← hw1]; exact ROwn.lit (R := stR) w E (Nat.le_of_eq hE.symm) hE)
  clear h
  go_enter Try.func84, Try.ntmps84
  go_wp2
  clear hw1 hE
  go_loopw [5, 6] (fun v i wr => ∃ (k : Nat) (A1 : Option Addr) (m c1 : Nat), k ≤ N ∧ m ≤ k ∧ v = .slice A1 m c1 ∧ i = .int .i64 (k : Int) ∧ Hid (ROwn stR wr E (.slice A1 m c1) (drT u (L.take k))) ∧ Hid (Below w.heap.size w wr)) (fun _ i _ => N - (intOf i).toNat)
  case atStart => exact ⟨0, _, 0, 0, Nat.zero_le _, Nat.zero_le _, rfl, by go_num, HO1, HB1⟩
  case round =>
    obtain ⟨k, A1, m, c1, hk, hm, rfl, rfl, KO, KB⟩ := hrel
    by_cases hlt : k < N
    · have h0 : (0 : Int) ≤ (k : Int) := by omega
      have h5 : (k : Int) < (N : Int) := by omega
      obtain ⟨x, hx⟩ : ∃ x, L[k]? = some x := ⟨_, List.getElem?_eq_getElem (by rw [H.out.1]; exact hlt)⟩
      have HX := Lib.hid hx
      obtain ⟨b, o, rfl, hb, c0⟩ := str_at (H.out.below KB.out (Nat.le_refl _)).2.2.1 hx
      by_cases hn : x = u
      · have HF := Lib.hid (flt_no hx hn)
        subst hn
        clear hx
        go_wp2
        go_roundw
        case rel => exact ⟨k + 1, A1, m, c1, by omega, by omega, rfl, by go_num, by rw [HF.out]; exact KO, KB⟩
        case measure => simp [intOf]; omega
      · have HF := Lib.hid (flt_yes hx hn)
        obtain ⟨v1, v2⟩ := ne_walk hn
        have HML : Hid ((drT u (L.take k)).length = m) := Lib.hid KO.out.len.1.symm
        obtain ⟨P, hP⟩ : ∃ P, wr.heap.size = P := ⟨_, rfl⟩
        obtain ⟨w2, hw2⟩ : ∃ w2, wr.alloc (.cells #[.string x] 9) = w2 := ⟨_, rfl⟩
        have HB2 := Lib.hid (show Below wr.heap.size wr w2 by rw [← hw2]; exact below_new wr _)
        have HN2 : Hid (RAt stR w2 (some ⟨P, 0, none⟩) [x]) := Lib.hid (by rw [← hw2]; exact RAt.made stR wr [x] P hP)
        have HO2 := Lib.hid (KO.out.kept HB2.out)
        have hml : m + 1 ≤ maxLen := by unfold maxLen; omega
        have hby : (m + 1) * 16 ≤ 140737488355328 := by omega
        have hs2 : E ≤ w2.heap.size := by have := HE.out; have := KB.out.size; have := HB2.out.size; omega
        clear hx hn
        go_wp2_with (at_builtin; refine wpList_append_rows rfl (.tmp 20) (.tmp 25) 23 rfl stR E i0 _ 16 Try.underlying23 hi0 hq0 hq1 hq2 rfl (by decide) _ _ [x] m HML.out rfl HO2.out (some ⟨P, 0, none⟩) 1 1 rfl rfl HN2.out (fun e => by cases e) (fun q e => by cases e; rfl) hml hby hs2 ?_)
        intro v' w3 ho3 hg3 hnn
        obtain ⟨A3, N3, c3, rfl⟩ := ho3.val
        have hN3 : N3 = m + 1 := ho3.len.1.trans (by rw [List.length_append, HML.out]; rfl)
        subst hN3
        have HO3 : Hid (ROwn stR w3 E (.slice A3 (m + 1) c3) (drT u (L.take (k + 1)))) := Lib.hid (by rw [HF.out]; exact ho3)
        have HB3 : Hid (Below w.heap.size w w3) := Lib.hid ((KB.out.trans (HB2.out.mono KB.out.size)).grown hg3 (by have := KB.out.size; have := HB2.out.size; omega) (fun z e => by have := (World.ownsRow.lt HO2.out z e).1; rw [HE.out]; exact this))
        clear ho3 hg3 hnn v1 v2
        go_wp2
        go_roundw
        case rel => exact ⟨k + 1, A3, m + 1, c3, by omega, by omega, rfl, by go_num, HO3, HB3⟩
        case measure => simp [intOf]; omega
    · have h5 : ¬ (k : Int) < (N : Int) := by omega
      have HF : Hid (drT u (L.take k) = drT u L) := Lib.hid (by rw [List.take_of_length_le (by rw [H.out.1]; omega)])
      go_wp2
      go_ret
      exact ⟨_, rfl, by rw [HE.out, ← HF.out]; exact KO.out, KB.out⟩
section
variable {K : List QK} {k : QK} {id : Int} {u : ByteArray}
theorem tkK_snoc_keep (h : (tk1 id u k).2.2.2 ≠ []) : tkK (K ++ [k]) id u = tkK K id u ++ [tk1 id u k] := by
  unfold tkK
  rw [List.map_append, List.filter_append]
  show _ ++ List.filter neT [tk1 id u k] = _
  rw [List.filter_cons, if_pos (show neT (tk1 id u k) = true from decide_eq_true h)]
  rfl
theorem tkK_snoc_drop (h : (tk1 id u k).2.2.2 = []) : tkK (K ++ [k]) id u = tkK K id u := by
  unfold tkK
  rw [List.map_append, List.filter_append]
  show _ ++ List.filter neT [tk1 id u k] = _
  rw [List.filter_cons, if_neg (by unfold neT; simp [h])]
  exact List.append_nil _
theorem tk_snoc_no (h : ¬ (k.1 = id ∧ u ∈ k.2.2.2)) : tkT (K ++ [k]) id u = tkT K id u ∧ tkO (K ++ [k]) id u = tkO K id u := by
  have h1 : mtch id u k = false := by
    unfold mtch
    by_cases h2 : k.1 = id
    · rw [decide_eq_true h2, decide_eq_false (fun h3 => h ⟨h2, h3⟩)]; rfl
    · rw [decide_eq_false h2]; rfl
  have e : (K ++ [k]).find? (mtch id u) = K.find? (mtch id u) := by
    rw [List.find?_append, List.find?_cons, h1]
    simp
  unfold tkT tkO
  rw [e]
  exact ⟨rfl, rfl⟩
theorem tk_snoc_yes (hn : ∀ x ∈ K, x.1 ≠ id) (h1 : k.1 = id) (h2 : u ∈ k.2.2.2) : tkT (K ++ [k]) id u = k.2.2.1 ∧ tkO (K ++ [k]) id u = true := by
  have h3 : mtch id u k = true := by unfold mtch; rw [decide_eq_true h1, decide_eq_true h2]; rfl
  have e0 : K.find? (mtch id u) = none := find_none fun x hx h => hn x hx h.1
  have e : (K ++ [k]).find? (mtch id u) = some k := by
    rw [List.find?_append, e0, List.find?_cons, h3]
    rfl
  unfold tkT tkO
  rw [e]
  exact ⟨rfl, rfl⟩
theorem take_keys {L : List QI} {j : Nat} {g : QI} (hx : L[j]? = some g) : (L.take (j + 1)).map keyI = (L.take j).map keyI ++ [keyI g] := by
  rw [List.take_add_one, hx, List.map_append]
  rfl
end
set_option maxRecDepth 20000 in
set_option maxHeartbeats 16000000 in
theorem spec_taken {n : Int} {A : Option Addr} {N cap : Nat} {L : List QI} (id : Int) (u : ByteArray) (w : World) (h : QIn w A N cap L) (hN : N ≤ 1000) (hne : ∀ g ∈ L, g.T ≠ []) (hdst : dst (L.map keyI)) : Calls Try.prog 62 #[.agg #[.int .i64 n, .slice A N cap], .int .i64 id, .string u] w (GiveQT w n (tkK (L.map keyI) id u) (tkT (L.map keyI) id u) (tkO (L.map keyI) id u)) := by
  obtain ⟨i0, hi0, hq0, hq1, hq2⟩ := info_parts Try.infoString
  obtain ⟨j0, hj0, hp0, hp1, hp2⟩ := info_parts Try.infoItem
  obtain ⟨Q, hQ⟩ : ∃ Q, w.heap.size = Q := ⟨_, rfl⟩
  obtain ⟨wq, hwq⟩ : ∃ wq, ((((w.alloc (.cells #[.int .i64 n, .slice A N cap] 31)).alloc (.cells #[.int .i64 0, .slice none 0 0] 31)).alloc (.cells #[] 38)).alloc (.cells #[.int .i64 n, .slice (some ⟨Q + 1 + 1, 0, none⟩) 0 0] 31)) = wq := ⟨_, rfl⟩
  have e1 : (w.alloc (.cells #[.int .i64 n, .slice A N cap] 31)).heap.size = Q + 1 := by simp [hQ]
  have e2 : ((w.alloc (.cells #[.int .i64 n, .slice A N cap] 31)).alloc (.cells #[.int .i64 0, .slice none 0 0] 31)).heap.size = Q + 1 + 1 := by simp [hQ]
  have e3 : (((w.alloc (.cells #[.int .i64 n, .slice A N cap] 31)).alloc (.cells #[.int .i64 0, .slice none 0 0] 31)).alloc (.cells #[] 38)).heap.size = Q + 1 + 1 + 1 := by simp [hQ]
  have h1 : Whole wq Q 31 #[.int .i64 n, .slice A N cap] := by rw [← hwq, ← hQ]; exact (((Whole.made w _ _).alloc _).alloc _).alloc _
  have h2 : Whole wq (Q + 1) 31 #[.int .i64 0, .slice none 0 0] := by rw [← hwq]; have := ((Whole.made (w.alloc (.cells #[.int .i64 n, .slice A N cap] 31)) 31 #[.int .i64 0, .slice none 0 0]).alloc (.cells #[] 38)).alloc (.cells #[.int .i64 n, .slice (some ⟨Q + 1 + 1, 0, none⟩) 0 0] 31); rw [e1] at this; exact this
  have h3 : ROwn qiR wq (Q + 1 + 1) (.slice (some ⟨Q + 1 + 1, 0, none⟩) 0 0) [] := by rw [← hwq]; exact (ROwn.lit (R := qiR) (B := Q + 1 + 1) _ (Q + 1 + 1) (by rw [e2]; exact Nat.le_refl _) e2).alloc _
  have h4 : Whole wq (Q + 1 + 1 + 1) 31 #[.int .i64 n, .slice (some ⟨Q + 1 + 1, 0, none⟩) 0 0] := by rw [← hwq]; have := Whole.made (((w.alloc (.cells #[.int .i64 n, .slice A N cap] 31)).alloc (.cells #[.int .i64 0, .slice none 0 0] 31)).alloc (.cells #[] 38)) 31 #[.int .i64 n, .slice (some ⟨Q + 1 + 1, 0, none⟩) 0 0]; rw [e3] at this; exact this
  have h5 : Below w.heap.size w wq := by rw [← hwq]; exact (((below_new w _).alloc (by simp) _).alloc (by simp; omega) _).alloc (by simp; omega) _
  have HW := Lib.hid h1
  have HR := Lib.hid h2
  have HO := Lib.hid h3
  have HT := Lib.hid h4
  have HB := Lib.hid h5
  have HH := Lib.hid h
  have HL := Lib.hid h.1
  have HQ := Lib.hid hQ
  have HNE := Lib.hid hne
  have HDST := Lib.hid hdst
  have c0 := (Whole.made w 31 #[.int .i64 n, .slice A N cap]).alloc (.cells #[.int .i64 0, .slice none 0 0] 31) |>.cell 0
  simp at c0
  clear h h1 h2 h3 h4 h5 e1 e2 e3 hne hdst
  go_enter Try.func62, Try.ntmps62
  go_wp2
  clear hwq c0
  go_loopw [10, 11, 12] (fun tv fv iv wr => ∃ (k : Nat) (A1 : Option Addr) (m c1 : Nat) (M : List QI) (t : ByteArray) (f : Bool), k ≤ N ∧ m ≤ k ∧ tv = .string t ∧ fv = .bool f ∧ iv = .int .i64 (k : Int) ∧ Hid (tkT ((L.take k).map keyI) id u = t) ∧ Hid (tkO ((L.take k).map keyI) id u = f) ∧ Hid (Whole wr Q 31 #[.int .i64 n, .slice A N cap]) ∧ Hid (Whole wr (Q + 1) 31 #[.int .i64 0, .slice none 0 0]) ∧ Hid (Whole wr (Q + 1 + 1 + 1) 31 #[.int .i64 n, .slice A1 m c1]) ∧ Hid (OwnQ wr (Q + 1 + 1) A1 m c1 M) ∧ Hid (M.map keyI = tkK ((L.take k).map keyI) id u) ∧ Hid (Below w.heap.size w wr)) (fun _ _ iv _ => N - (intOf iv).toNat)
  case atStart => exact ⟨0, _, 0, 0, [], _, _, Nat.zero_le _, Nat.zero_le _, rfl, rfl, rfl, rfl, rfl, HW, HR, HT, ⟨HO.out, (fun g hg => by cases hg), List.Pairwise.nil⟩, rfl, HB⟩
  case round =>
    obtain ⟨k, A1, m, c1, M, t, f, hk, hm, rfl, rfl, rfl, KT1, KF, KW, KR, KT, KO, KM, KB⟩ := hrel
    have z0 := KW.out.cell 1
    simp at z0
    by_cases hlt : k < N
    · have i0' : (0 : Int) ≤ (k : Int) := by omega
      have i1' : (k : Int) < (N : Int) := by omega
      obtain ⟨g, hx⟩ : ∃ x, L[k]? = some x := ⟨_, List.getElem?_eq_getElem (by rw [HL.out]; exact hlt)⟩
      have HX := Lib.hid hx
      have hTne := HNE.out g (List.mem_of_getElem? hx)
      have HTK := Lib.hid (take_keys hx)
      have HBEF : Hid (∀ x ∈ (L.take k).map keyI, x.1 ≠ g.id) := Lib.hid (fun x hx2 => by
        have h1 := HDST.out
        unfold dst at h1
        rw [← List.take_append_drop k L, List.map_append, List.pairwise_append] at h1
        exact h1.2.2 x hx2 (keyI g) (List.mem_map.2 ⟨g, by rw [List.drop_eq_getElem_cons (by rw [HL.out]; exact hlt), (List.getElem?_eq_some_iff.1 hx).2]; simp, rfl⟩))
      obtain ⟨qid, us, tx, A2, N2, cap2, T2⟩ := g
      simp only at hTne
      have KH := Lib.hid (HH.out.below KB.out (Nat.le_refl _))
      obtain ⟨b, o, rfl, hb, x0, x1, x2, x3⟩ := qi_at KH.out.2.2.1 hx
      simp only at x0 x1 x2 x3
      have HT2 := Lib.hid (KH.out.2.2.2.2.2 _ (List.mem_of_getElem? hx)).2
      obtain ⟨I, hI⟩ : ∃ I, wr.heap.size = I := ⟨_, rfl⟩
      have HII := Lib.hid hI
      obtain ⟨w1, hw1⟩ : ∃ w1, wr.alloc (.cells #[.int .i64 qid, .string us, .string tx, .slice A2 N2 cap2] 38) = w1 := ⟨_, rfl⟩
      have HI1 := Lib.hid (show Whole w1 I 38 #[.int .i64 qid, .string us, .string tx, .slice A2 N2 cap2] by rw [← hw1, ← hI]; exact Whole.made wr _ _)
      have HB1 := Lib.hid (show Below wr.heap.size wr w1 by rw [← hw1]; exact below_new wr _)
      have hs1 : w1.heap.size = I + 1 := by rw [← hw1, ← hI]; simp
      obtain ⟨w2, hw2⟩ : ∃ w2, w1.alloc (.cells #[] 9) = w2 := ⟨_, rfl⟩
      have HI2 := Lib.hid (show Whole w2 I 38 #[.int .i64 qid, .string us, .string tx, .slice A2 N2 cap2] by rw [← hw2]; exact HI1.out.alloc _)
      have HB2 := Lib.hid (show Below wr.heap.size wr w2 by rw [← hw2]; exact HB1.out.alloc HB1.out.size _)
      have HE2 := Lib.hid (show ROwn stR w2 (I + 1) (.slice (some ⟨I + 1, 0, none⟩) 0 0) [] by rw [← hw2]; exact ROwn.lit (R := stR) w1 (I + 1) (by rw [hs1]; exact Nat.le_refl _) hs1)
      have HU2 := Lib.hid (HT2.out.below HB2.out (Nat.le_refl _))
      have hsz2 : I + 1 ≤ w2.heap.size := by rw [← hw2, ← hs1]; simp
      have y3 := HI2.out.cell 3
      simp at y3
      have hN2 : N2 ≤ 4194304 := HT2.out.2.1
      have hml : 0 + N2 ≤ maxLen := by unfold maxLen; omega
      have hby : (0 + N2) * 16 ≤ 140737488355328 := by omega
      have HTN : Hid (T2.length = N2) := Lib.hid HT2.out.1
      have HSM : Hid (∀ g ∈ T2, g.size ≤ 16777216) := Lib.hid HT2.out.2.2.2.2.2.1
      have hN2p : (0 : Int) < (N2 : Int) := by
        have := HTN.out
        cases T2 with
        | nil => exact absurd rfl hTne
        | cons a l => simp at this; omega
      clear hx
      go_wp2_with (at_builtin; refine wpList_append_rows rfl (.tmp 30) (.tmp 32) 23 rfl stR (I + 1) i0 _ 16 Try.underlying23 hi0 hq0 hq1 hq2 rfl (by decide) _ [] T2 0 rfl rfl HE2.out A2 N2 cap2 rfl HTN.out HU2.out.2.2.1 HU2.out.2.2.2.1 HU2.out.2.2.2.2.1 hml hby hsz2 ?_)
      intro v' w3 ho3 hg3 hnn
      try rw [List.nil_append] at ho3
      obtain ⟨A3, N3, c3, rfl⟩ := ho3.val
      have hN3 : N2 = N3 := (ho3.len.1.trans HTN.out).symm
      subst hN3
      have HO3 := Lib.hid ho3
      have HI3 := Lib.hid (HI2.out.grown hg3 (fun e => by have h2 := Option.some.inj (show some I = some (I + 1) from e); omega))
      have HB3 := Lib.hid (HB2.out.grown hg3 (by have := HII.out; omega) (fun z e => by have h2 := Option.some.inj (show some (I + 1) = some z from e); have := HII.out; omega))
      obtain ⟨w4, hw4⟩ : ∃ w4, w3.setCell ⟨I, 3, none⟩ (.slice A3 N2 c3) = w4 := ⟨_, rfl⟩
      have HI4 := Lib.hid (show Whole w4 I 38 #[.int .i64 qid, .string us, .string tx, .slice A3 N2 c3] by rw [← hw4]; exact HI3.out.store 3 (.slice A3 N2 c3))
      have HB4 := Lib.hid (show Below wr.heap.size wr w4 by rw [← hw4]; exact HB3.out.setCell (p := ⟨I, 3, none⟩) (by rw [HII.out]; exact Nat.le_refl _) _)
      have HO4 := Lib.hid (show ROwn stR w4 (I + 1) (.slice A3 N2 c3) T2 by rw [← hw4]; exact HO3.out.store (p := ⟨I, 3, none⟩) (HO3.out.whole HI3.out (by decide)) _)
      have HS4 := Lib.hid (SIn.made HO4.out (by rw [HTN.out]; exact hN2) HSM.out)
      have y3' := HI3.out.cell 3
      have y3f := HI3.out.free 3
      have q0 := HI4.out.cell 0
      have q1 := HI4.out.cell 1
      have q2 := HI4.out.cell 2
      have q3 := HI4.out.cell 3
      simp at y3' q0 q1 q2 q3
      have HN2P : Hid (0 < N2) := Lib.hid (by omega)
      clear ho3 hg3 hnn x0 x1 x2 x3 y3
      by_cases hid : qid = id
      · have t0 : (qid == id) = true := by rw [beq_iff_eq]; exact hid
        by_cases hmem : u ∈ T2
        · have HU1 := Lib.hid hid
          have HU2x := Lib.hid hmem
          have HMZ : Hid (decide (u ∈ T2) = true) := Lib.hid (decide_eq_true hmem)
          have HKT : Hid (tkT ((L.take (k + 1)).map keyI) id u = tx ∧ tkO ((L.take (k + 1)).map keyI) id u = true) := Lib.hid (by
            rw [HTK.out]
            exact tk_snoc_yes (k := (qid, us, tx, T2)) (fun x hx => by have h5 : x.1 ≠ qid := HBEF.out x hx; rw [← hid]; exact h5) hid hmem)
          have HT1 : Hid (tk1 id u (qid, us, tx, T2) = (qid, us, tx, drT u T2)) := Lib.hid (tk1_yes hid hmem)
          subst hid
          clear hmem hTne
          go_wp2_with fail
          refine (spec_has HMZ.out w4 HS4.out).mono ?_
          rintro e w5 ⟨rfl, rfl⟩
          go_wp2_with fail
          refine (spec_without u w5 HS4.out).mono ?_
          rintro e w6 ⟨v6, rfl, ho6, hb6⟩
          obtain ⟨A6, N6, c6, rfl⟩ := ho6.val
          have HN6 : Hid (N6 = (drT u T2).length) := Lib.hid ho6.len.1
          have HI6 := Lib.hid (HI4.out.below hb6 HI4.out.lt)
          have HB6 := Lib.hid (HB4.out.trans (hb6.mono HB4.out.size))
          obtain ⟨w7, hw7⟩ : ∃ w7, w6.setCell ⟨I, 3, none⟩ (.slice A6 N6 c6) = w7 := ⟨_, rfl⟩
          have HI7 := Lib.hid (show Whole w7 I 38 #[.int .i64 qid, .string us, .string tx, .slice A6 N6 c6] by rw [← hw7]; exact HI6.out.store 3 (.slice A6 N6 c6))
          have HB7 := Lib.hid (show Below wr.heap.size wr w7 by rw [← hw7]; exact HB6.out.setCell (p := ⟨I, 3, none⟩) (by rw [HII.out]; exact Nat.le_refl _) _)
          have HO7 := Lib.hid (show ROwn stR w7 (I + 1) (.slice A6 N6 c6) (drT u T2) by rw [← hw7]; exact (ho6.store (p := ⟨I, 3, none⟩) (ho6.whole HI6.out (by decide)) _).from (by have := HI4.out.lt; omega))
          have s3 := HI6.out.cell 3
          have s3f := HI6.out.free 3
          have s0 := HI7.out.cell 0
          have s1 := HI7.out.cell 1
          have s2 := HI7.out.cell 2
          have s4 := HI7.out.cell 3
          simp at s3 s0 s1 s2 s4
          have hN6 : N6 ≤ 4194304 := by have h1 := HN6.out; have h2 := drT_le u T2; have h3 := HTN.out; omega
          clear ho6 hb6 q0 q1 q2 q3
          by_cases hz : 0 < N6
          · have hz' : (0 : Int) < (N6 : Int) := by omega
            have HFNE : Hid ((drT u T2) ≠ []) := Lib.hid (fun e => by have := HN6.out; rw [e] at this; simp at this; omega)
            have HM5 := Lib.hid (KO.out.kept HB7.out)
            have HT5 := Lib.hid (KT.out.below HB7.out KT.out.lt)
            have HAP : Hid (∀ x ∈ M, Apt x ⟨qid, us, tx, A6, N6, c6, (drT u T2)⟩) := Lib.hid (fun x hx b e1 e2 => by
              have h5 := (World.ownsRow.lt HO7.out b e2).1
              have h6 := (KO.out.2.1.lt x hx b e1).2
              have := HII.out
              omega)
            have u1 := HT5.out.cell 1
            simp at u1
            obtain ⟨P, hP⟩ : ∃ P, w7.heap.size = P := ⟨_, rfl⟩
            obtain ⟨wp, hwp⟩ : ∃ wp, w7.alloc (.cells #[.int .i64 qid, .string us, .string tx, .slice A6 N6 c6] 38) = wp := ⟨_, rfl⟩
            have HNp : Hid (RAt qiR wp (some ⟨P, 0, none⟩) [⟨qid, us, tx, A6, N6, c6, (drT u T2)⟩]) := Lib.hid (by rw [← hwp]; exact RAt.made qiR w7 [⟨qid, us, tx, A6, N6, c6, (drT u T2)⟩] P hP)
            have HBp := Lib.hid (show Below w7.heap.size w7 wp by rw [← hwp]; exact below_new w7 _)
            have HMp := Lib.hid (HM5.out.kept HBp.out)
            have HOp := Lib.hid (HO7.out.kept HBp.out)
            have HTp := Lib.hid (HT5.out.below HBp.out HT5.out.lt)
            have hsp : Q + 1 + 1 ≤ wp.heap.size := by have h1 := HBp.out.size; have h2 := KT.out.lt; have h3 := HB7.out.size; omega
            have hml2 : m + 1 ≤ maxLen := by unfold maxLen; omega
            have hby2 : (m + 1) * 64 ≤ 140737488355328 := by omega
            have HK1 : Hid (M.length = m) := Lib.hid HMp.out.1.len.1.symm
            go_wp2_with (at_builtin; refine wpList_append_rows rfl (.tmp 57) (.tmp 59) 29 rfl qiR (Q + 1 + 1) j0 _ 64 Try.underlying29 hj0 hp0 hp1 hp2 rfl (by decide) _ M [⟨qid, us, tx, A6, N6, c6, (drT u T2)⟩] m HK1.out rfl HMp.out.1 (some ⟨P, 0, none⟩) 1 1 rfl rfl HNp.out (fun e => by cases e) (fun q e => by cases e; rfl) hml2 hby2 hsp ?_)
            intro v'' w8 ho8 hg8 hnn
            obtain ⟨A8, N8, c8, rfl⟩ := ho8.val
            have hN8 : N8 = m + 1 := ho8.len.1.trans (by rw [List.length_append, HK1.out]; rfl)
            subst hN8
            have HO8 := Lib.hid ho8
            have HS8 := Lib.hid ((HMp.out.2.1.push (g := ⟨qid, us, tx, A6, N6, c6, (drT u T2)⟩) (HOp.out.from (by have := KT.out.lt; have := HII.out; omega))).grownT HMp.out.1 (by decide) hg8)
            have hq : ∀ (b : Nat) (t : TypeId) (cs : Array Value), Whole wp b t cs → t ≠ 38 → Whole w8 b t cs := fun b t cs hw ht => hw.grown hg8 (fun e => HMp.out.1.whole hw ht e.symm)
            have HT8 := Lib.hid (hq _ _ _ HTp.out (by decide))
            have HR8 := Lib.hid (hq _ _ _ ((KR.out.below HB7.out KR.out.lt).below HBp.out (Nat.lt_of_lt_of_le KR.out.lt HB7.out.size)) (by decide))
            have HW8 := Lib.hid (hq _ _ _ ((KW.out.below HB7.out KW.out.lt).below HBp.out (Nat.lt_of_lt_of_le KW.out.lt HB7.out.size)) (by decide))
            have HB8 : Hid (Below w.heap.size w w8) := Lib.hid (((KB.out.trans (HB7.out.mono KB.out.size)).trans (HBp.out.mono (Nat.le_trans KB.out.size HB7.out.size))).grown hg8 (by have := KB.out.size; have := HB7.out.size; have := HBp.out.size; omega) (fun z e => by have h1 := (World.ownsRow.lt HMp.out.1 z e).1; rw [HQ.out]; omega))
            have u1' := HT8.out.cell 1
            have u1f := HT8.out.free 1
            simp at u1'
            clear ho8 hg8 hnn hq
            go_wp2
            go_roundw
            case rel =>
              refine ⟨k + 1, A8, m + 1, c8, M ++ [⟨qid, us, tx, A6, N6, c6, (drT u T2)⟩], tx, true, by omega, by omega, rfl, rfl, by go_num, HKT.out.1, HKT.out.2, HW8.out.apart (p := ⟨Q + 1 + 1 + 1, 1, none⟩) (by show Q ≠ Q + 1 + 1 + 1; omega) _, HR8.out.apart (p := ⟨Q + 1 + 1 + 1, 1, none⟩) (by show Q + 1 ≠ Q + 1 + 1 + 1; omega) _, HT8.out.store 1 _, ?_, (by
                show List.map keyI (M ++ [_]) = _
                rw [List.map_append, HTK.out, tkK_snoc_keep (by show (tk1 qid u (qid, us, tx, T2)).2.2.2 ≠ []; rw [HT1.out]; exact HFNE.out), KM.out]
                show _ = _ ++ [tk1 qid u (qid, us, tx, T2)]
                rw [HT1.out]
                rfl), HB8.out.setCell (p := ⟨Q + 1 + 1 + 1, 1, none⟩) (by rw [HQ.out]; show Q ≤ Q + 1 + 1 + 1; omega) _⟩
              exact OwnQ.storeT (L := M ++ [⟨qid, us, tx, A6, N6, c6, (drT u T2)⟩]) ⟨HO8.out, HS8.out, apt_push KO.out.2.2 HAP.out⟩ HT8.out (by decide) (by decide) _
            case measure => simp [intOf]; omega
          · have hz' : ¬ (0 : Int) < (N6 : Int) := by omega
            have HFE : Hid ((drT u T2) = []) := Lib.hid (List.eq_nil_of_length_eq_zero (by have := HN6.out; omega))
            have HM7 := Lib.hid (KO.out.kept HB7.out)
            go_wp2
            go_roundw
            case rel => exact ⟨k + 1, A1, m, c1, M, tx, true, by omega, by omega, rfl, rfl, by go_num, HKT.out.1, HKT.out.2, KW.out.below HB7.out KW.out.lt, KR.out.below HB7.out KR.out.lt, KT.out.below HB7.out KT.out.lt, HM7.out, (by
                rw [HTK.out, tkK_snoc_drop (by show (tk1 qid u (qid, us, tx, T2)).2.2.2 = []; rw [HT1.out]; exact HFE.out)]
                exact KM.out), KB.out.trans (HB7.out.mono KB.out.size)⟩
            case measure => simp [intOf]; omega
        · have HMZ : Hid (decide (u ∈ T2) = false) := Lib.hid (decide_eq_false hmem)
          have hno : ¬ (((qid, us, tx, T2) : QK).1 = id ∧ u ∈ ((qid, us, tx, T2) : QK).2.2.2) := fun h => hmem h.2
          have HRES : Hid (tkT ((L.take (k + 1)).map keyI) id u = t ∧ tkO ((L.take (k + 1)).map keyI) id u = f ∧ tkK ((L.take (k + 1)).map keyI) id u = tkK ((L.take k).map keyI) id u ++ [(qid, us, tx, T2)]) := Lib.hid (by
            rw [HTK.out]
            have h1 := tk_snoc_no (K := (L.take k).map keyI) (k := (qid, us, tx, T2)) hno
            have h2 := tk1_no (k := (qid, us, tx, T2)) hno
            have h3 := tkK_snoc_keep (K := (L.take k).map keyI) (k := (qid, us, tx, T2)) (id := id) (u := u) (by rw [h2]; exact hTne)
            rw [h2] at h3
            exact ⟨h1.1.trans KT1.out, h1.2.trans KF.out, h3⟩)
          clear hno hmem hTne
          subst hid
          go_wp2_with fail
          refine (spec_has HMZ.out w4 HS4.out).mono ?_
          rintro e w5 ⟨rfl, rfl⟩
          have HM5 := Lib.hid (KO.out.kept HB4.out)
          have HT5 := Lib.hid (KT.out.below HB4.out KT.out.lt)
          have HAP : Hid (∀ x ∈ M, Apt x ⟨qid, us, tx, A3, N2, c3, T2⟩) := Lib.hid (fun x hx b e1 e2 => by
            have h5 := (World.ownsRow.lt HO4.out b e2).1
            have h6 := (KO.out.2.1.lt x hx b e1).2
            have := HII.out
            omega)
          have u1 := HT5.out.cell 1
          simp at u1
          obtain ⟨P, hP⟩ : ∃ P, w5.heap.size = P := ⟨_, rfl⟩
          obtain ⟨wp, hwp⟩ : ∃ wp, w5.alloc (.cells #[.int .i64 qid, .string us, .string tx, .slice A3 N2 c3] 38) = wp := ⟨_, rfl⟩
          have HNp : Hid (RAt qiR wp (some ⟨P, 0, none⟩) [⟨qid, us, tx, A3, N2, c3, T2⟩]) := Lib.hid (by rw [← hwp]; exact RAt.made qiR w5 [⟨qid, us, tx, A3, N2, c3, T2⟩] P hP)
          have HBp := Lib.hid (show Below w5.heap.size w5 wp by rw [← hwp]; exact below_new w5 _)
          have HMp := Lib.hid (HM5.out.kept HBp.out)
          have HOp := Lib.hid (HO4.out.kept HBp.out)
          have HTp := Lib.hid (HT5.out.below HBp.out HT5.out.lt)
          have hsp : Q + 1 + 1 ≤ wp.heap.size := by have h1 := HBp.out.size; have h2 := KT.out.lt; have h3 := HB4.out.size; omega
          have hml2 : m + 1 ≤ maxLen := by unfold maxLen; omega
          have hby2 : (m + 1) * 64 ≤ 140737488355328 := by omega
          have HK1 : Hid (M.length = m) := Lib.hid HMp.out.1.len.1.symm
          go_wp2_with (at_builtin; refine wpList_append_rows rfl (.tmp 57) (.tmp 59) 29 rfl qiR (Q + 1 + 1) j0 _ 64 Try.underlying29 hj0 hp0 hp1 hp2 rfl (by decide) _ M [⟨qid, us, tx, A3, N2, c3, T2⟩] m HK1.out rfl HMp.out.1 (some ⟨P, 0, none⟩) 1 1 rfl rfl HNp.out (fun e => by cases e) (fun q e => by cases e; rfl) hml2 hby2 hsp ?_)
          intro v'' w8 ho8 hg8 hnn
          obtain ⟨A8, N8, c8, rfl⟩ := ho8.val
          have hN8 : N8 = m + 1 := ho8.len.1.trans (by rw [List.length_append, HK1.out]; rfl)
          subst hN8
          have HO8 := Lib.hid ho8
          have HS8 := Lib.hid ((HMp.out.2.1.push (g := ⟨qid, us, tx, A3, N2, c3, T2⟩) (HOp.out.from (by have := KT.out.lt; have := HII.out; omega))).grownT HMp.out.1 (by decide) hg8)
          have hq : ∀ (b : Nat) (t : TypeId) (cs : Array Value), Whole wp b t cs → t ≠ 38 → Whole w8 b t cs := fun b t cs hw ht => hw.grown hg8 (fun e => HMp.out.1.whole hw ht e.symm)
          have HT8 := Lib.hid (hq _ _ _ HTp.out (by decide))
          have HR8 := Lib.hid (hq _ _ _ ((KR.out.below HB4.out KR.out.lt).below HBp.out (Nat.lt_of_lt_of_le KR.out.lt HB4.out.size)) (by decide))
          have HW8 := Lib.hid (hq _ _ _ ((KW.out.below HB4.out KW.out.lt).below HBp.out (Nat.lt_of_lt_of_le KW.out.lt HB4.out.size)) (by decide))
          have HB8 : Hid (Below w.heap.size w w8) := Lib.hid (((KB.out.trans (HB4.out.mono KB.out.size)).trans (HBp.out.mono (Nat.le_trans KB.out.size HB4.out.size))).grown hg8 (by have := KB.out.size; have := HB4.out.size; have := HBp.out.size; omega) (fun z e => by have h1 := (World.ownsRow.lt HMp.out.1 z e).1; rw [HQ.out]; omega))
          have u1' := HT8.out.cell 1
          have u1f := HT8.out.free 1
          simp at u1'
          clear ho8 hg8 hnn hq
          go_wp2
          go_roundw
          case rel =>
            refine ⟨k + 1, A8, m + 1, c8, M ++ [⟨qid, us, tx, A3, N2, c3, T2⟩], t, f, by omega, by omega, rfl, rfl, by go_num, HRES.out.1, HRES.out.2.1, HW8.out.apart (p := ⟨Q + 1 + 1 + 1, 1, none⟩) (by show Q ≠ Q + 1 + 1 + 1; omega) _, HR8.out.apart (p := ⟨Q + 1 + 1 + 1, 1, none⟩) (by show Q + 1 ≠ Q + 1 + 1 + 1; omega) _, HT8.out.store 1 _, ?_, (by
              show List.map keyI (M ++ [_]) = _
              rw [List.map_append, HRES.out.2.2, KM.out]
              rfl), HB8.out.setCell (p := ⟨Q + 1 + 1 + 1, 1, none⟩) (by rw [HQ.out]; show Q ≤ Q + 1 + 1 + 1; omega) _⟩
            exact OwnQ.storeT (L := M ++ [⟨qid, us, tx, A3, N2, c3, T2⟩]) ⟨HO8.out, HS8.out, apt_push KO.out.2.2 HAP.out⟩ HT8.out (by decide) (by decide) _
          case measure => simp [intOf]; omega
      · have t0 : (qid == id) = false := beq_eq_false_iff_ne.2 hid
        have hno : ¬ (((qid, us, tx, T2) : QK).1 = id ∧ u ∈ ((qid, us, tx, T2) : QK).2.2.2) := fun h => hid h.1
        have HRES : Hid (tkT ((L.take (k + 1)).map keyI) id u = t ∧ tkO ((L.take (k + 1)).map keyI) id u = f ∧ tkK ((L.take (k + 1)).map keyI) id u = tkK ((L.take k).map keyI) id u ++ [(qid, us, tx, T2)]) := Lib.hid (by
          rw [HTK.out]
          have h1 := tk_snoc_no (K := (L.take k).map keyI) (k := (qid, us, tx, T2)) hno
          have h2 := tk1_no (k := (qid, us, tx, T2)) hno
          have h3 := tkK_snoc_keep (K := (L.take k).map keyI) (k := (qid, us, tx, T2)) (id := id) (u := u) (by rw [h2]; exact hTne)
          rw [h2] at h3
          exact ⟨h1.1.trans KT1.out, h1.2.trans KF.out, h3⟩)
        clear hno hid hTne
        have HM5 := Lib.hid (KO.out.kept HB4.out)
        have HT5 := Lib.hid (KT.out.below HB4.out KT.out.lt)
        have HAP : Hid (∀ x ∈ M, Apt x ⟨qid, us, tx, A3, N2, c3, T2⟩) := Lib.hid (fun x hx b e1 e2 => by
          have h5 := (World.ownsRow.lt HO4.out b e2).1
          have h6 := (KO.out.2.1.lt x hx b e1).2
          have := HII.out
          omega)
        have u1 := HT5.out.cell 1
        simp at u1
        obtain ⟨P, hP⟩ : ∃ P, w4.heap.size = P := ⟨_, rfl⟩
        obtain ⟨wp, hwp⟩ : ∃ wp, w4.alloc (.cells #[.int .i64 qid, .string us, .string tx, .slice A3 N2 c3] 38) = wp := ⟨_, rfl⟩
        have HNp : Hid (RAt qiR wp (some ⟨P, 0, none⟩) [⟨qid, us, tx, A3, N2, c3, T2⟩]) := Lib.hid (by rw [← hwp]; exact RAt.made qiR w4 [⟨qid, us, tx, A3, N2, c3, T2⟩] P hP)
        have HBp := Lib.hid (show Below w4.heap.size w4 wp by rw [← hwp]; exact below_new w4 _)
        have HMp := Lib.hid (HM5.out.kept HBp.out)
        have HOp := Lib.hid (HO4.out.kept HBp.out)
        have HTp := Lib.hid (HT5.out.below HBp.out HT5.out.lt)
        have hsp : Q + 1 + 1 ≤ wp.heap.size := by have h1 := HBp.out.size; have h2 := KT.out.lt; have h3 := HB4.out.size; omega
        have hml2 : m + 1 ≤ maxLen := by unfold maxLen; omega
        have hby2 : (m + 1) * 64 ≤ 140737488355328 := by omega
        have HK1 : Hid (M.length = m) := Lib.hid HMp.out.1.len.1.symm
        go_wp2_with (at_builtin; refine wpList_append_rows rfl (.tmp 57) (.tmp 59) 29 rfl qiR (Q + 1 + 1) j0 _ 64 Try.underlying29 hj0 hp0 hp1 hp2 rfl (by decide) _ M [⟨qid, us, tx, A3, N2, c3, T2⟩] m HK1.out rfl HMp.out.1 (some ⟨P, 0, none⟩) 1 1 rfl rfl HNp.out (fun e => by cases e) (fun q e => by cases e; rfl) hml2 hby2 hsp ?_)
        intro v'' w8 ho8 hg8 hnn
        obtain ⟨A8, N8, c8, rfl⟩ := ho8.val
        have hN8 : N8 = m + 1 := ho8.len.1.trans (by rw [List.length_append, HK1.out]; rfl)
        subst hN8
        have HO8 := Lib.hid ho8
        have HS8 := Lib.hid ((HMp.out.2.1.push (g := ⟨qid, us, tx, A3, N2, c3, T2⟩) (HOp.out.from (by have := KT.out.lt; have := HII.out; omega))).grownT HMp.out.1 (by decide) hg8)
        have hq : ∀ (b : Nat) (t : TypeId) (cs : Array Value), Whole wp b t cs → t ≠ 38 → Whole w8 b t cs := fun b t cs hw ht => hw.grown hg8 (fun e => HMp.out.1.whole hw ht e.symm)
        have HT8 := Lib.hid (hq _ _ _ HTp.out (by decide))
        have HR8 := Lib.hid (hq _ _ _ ((KR.out.below HB4.out KR.out.lt).below HBp.out (Nat.lt_of_lt_of_le KR.out.lt HB4.out.size)) (by decide))
        have HW8 := Lib.hid (hq _ _ _ ((KW.out.below HB4.out KW.out.lt).below HBp.out (Nat.lt_of_lt_of_le KW.out.lt HB4.out.size)) (by decide))
        have HB8 : Hid (Below w.heap.size w w8) := Lib.hid (((KB.out.trans (HB4.out.mono KB.out.size)).trans (HBp.out.mono (Nat.le_trans KB.out.size HB4.out.size))).grown hg8 (by have := KB.out.size; have := HB4.out.size; have := HBp.out.size; omega) (fun z e => by have h1 := (World.ownsRow.lt HMp.out.1 z e).1; rw [HQ.out]; omega))
        have u1' := HT8.out.cell 1
        have u1f := HT8.out.free 1
        simp at u1'
        clear ho8 hg8 hnn hq
        go_wp2
        go_roundw
        case rel =>
          refine ⟨k + 1, A8, m + 1, c8, M ++ [⟨qid, us, tx, A3, N2, c3, T2⟩], t, f, by omega, by omega, rfl, rfl, by go_num, HRES.out.1, HRES.out.2.1, HW8.out.apart (p := ⟨Q + 1 + 1 + 1, 1, none⟩) (by show Q ≠ Q + 1 + 1 + 1; omega) _, HR8.out.apart (p := ⟨Q + 1 + 1 + 1, 1, none⟩) (by show Q + 1 ≠ Q + 1 + 1 + 1; omega) _, HT8.out.store 1 _, ?_, (by
            show List.map keyI (M ++ [_]) = _
            rw [List.map_append, HRES.out.2.2, KM.out]
            rfl), HB8.out.setCell (p := ⟨Q + 1 + 1 + 1, 1, none⟩) (by rw [HQ.out]; show Q ≤ Q + 1 + 1 + 1; omega) _⟩
          exact OwnQ.storeT (L := M ++ [⟨qid, us, tx, A3, N2, c3, T2⟩]) ⟨HO8.out, HS8.out, apt_push KO.out.2.2 HAP.out⟩ HT8.out (by decide) (by decide) _
        case measure => simp [intOf]; omega
    · have i1' : ¬ (k : Int) < (N : Int) := by omega
      have hkN : k = N := by omega
      have hTK : L.take k = L := by rw [hkN, ← HL.out, List.take_length]
      have HE : Hid (M.map keyI = tkK (L.map keyI) id u ∧ tkT (L.map keyI) id u = t ∧ tkO (L.map keyI) id u = f) := Lib.hid (by
        have h1 := KM.out
        have h2 := KT1.out
        have h3 := KF.out
        rw [hTK] at h1 h2 h3
        exact ⟨h1, h2, h3⟩)
      have t0 := KT.out.cell 0
      have t1 := KT.out.cell 1
      have r0 := KR.out.cell 0
      have r1 := KR.out.cell 1
      have f0 := KR.out.free 0
      have f1 := KR.out.free 1
      simp at t0 t1 r0 r1
      have hr2 := (KR.out.store 0 (.int .i64 n)).store 1 (.slice A1 m c1)
      have p0 := hr2.cell 0
      have p1 := hr2.cell 1
      simp at p0 p1
      clear hkN hr2 hTK
      go_wp2
      refine bodyPost_ret (v := .tuple #[.agg #[.int .i64 n, .slice A1 m c1], .string t, .bool f]) (by simp [results, Try.results62, go_sem, p0, p1]) rfl ?_
      obtain ⟨e1, e2, e3⟩ := HE.out
      rw [e2, e3]
      refine ⟨A1, m, c1, M, rfl, ?_, e1, ?_⟩
      · rw [HQ.out]
        exact ((KO.out.storeT KR.out (by decide) (by decide) _).storeT (KR.out.store 0 _) (by decide) (by decide) _).from (by omega)
      · rw [HQ.out]
        exact ((HQ.out ▸ KB.out).setCell (p := ⟨Q + 1, 0, none⟩) (Nat.le_succ Q) _).setCell (p := ⟨Q + 1, 1, none⟩) (Nat.le_succ Q) _
set_option maxRecDepth 20000 in
set_option maxHeartbeats 8000000 in
theorem spec_queuetake {n : Int} {A : Option Addr} {N cap : Nat} {L : List QI} (id : Int) (u : ByteArray) (w : World) (h : QIn w A N cap L) :
    Calls Try.prog 32 #[.agg #[.int .i64 n, .slice A N cap], .int .i64 id, .string u] w (GiveQT w (qtN n L) (qtK n L id u) (qtT n L id u) (qtO n L id u)) := by
  obtain ⟨Q, hQ⟩ : ∃ Q, w.heap.size = Q := ⟨_, rfl⟩
  have HQ := Lib.hid hQ
  have h1 := qt2_new w hQ n A N cap
  obtain ⟨w1, hw1⟩ : ∃ w1, (w.alloc (.cells #[.int .i64 n, .slice A N cap] 31)).alloc (.cells #[.int .i64 0, .slice none 0 0] 31) = w1 := ⟨_, rfl⟩
  rw [hw1] at h1
  have F1 := Lib.hid h1
  have H0 := Lib.hid h
  have HL := Lib.hid h.1
  have H1 := Lib.hid (h.below h1.b (Nat.le_of_eq hQ))
  have a0 := F1.out.q.cell 0
  have a1 := F1.out.q.cell 1
  simp at a0 a1
  clear h h1
  obtain ⟨z, hv⟩ : ∃ z, vQ n L = z := ⟨_, rfl⟩
  have HV := Lib.hid hv
  go_enter Try.func32, Try.ntmps32
  go_wp2_with fail
  refine (sqv_at HV.out w1 H1.out).mono ?_
  rintro e w2 ⟨rfl, hb⟩
  have F2 := Lib.hid (F1.out.below hb)
  have H2 := Lib.hid (H1.out.below hb (Nat.le_refl _))
  have b0 := F2.out.q.cell 0
  have b1 := F2.out.q.cell 1
  simp at b0 b1
  clear hb
  cases z with
  | false =>
    have HE : Hid (qtN n L = 0 ∧ qtK n L id u = [] ∧ qtT n L id u = ⟨#[]⟩ ∧ qtO n L id u = false) := Lib.hid (by simp [qtN, qtK, qtT, qtO, hv])
    have r0 := F2.out.r.cell 0
    have r1 := F2.out.r.cell 1
    have f0 := F2.out.r.free 0
    have f1 := F2.out.r.free 1
    have p := F2.out.res (.int .i64 0) (.slice none 0 0)
    have p0 := p.cell 0
    have p1 := p.cell 1
    simp at r0 r1 p0 p1
    clear p hv
    go_wp2
    refine bodyPost_ret (v := .tuple #[.agg #[.int .i64 0, .slice none 0 0], .string ⟨#[]⟩, .bool false]) (by simp [results, Try.results32, go_sem, p0, p1]) rfl ?_
    obtain ⟨e1, e2, e3, e4⟩ := HE.out
    rw [e1, e2, e3, e4]
    exact F2.out.end HQ.out (OwnQ.nil _ _) rfl
  | true =>
    have hn6 := vQ_parts hv
    have HN6 : Hid (N ≤ 1000) := Lib.hid (by rw [← HL.out]; have := hn6.1; omega)
    have HDST := Lib.hid (asc_dst (okQ_asc hn6.2.2.1).1)
    have HNE : Hid (∀ g ∈ L, g.T ≠ []) := Lib.hid (fun g hg => (letB_parts ((okQ_asc hn6.2.2.1).2 g hg).2).2.1)
    have HE : Hid (qtN n L = n ∧ qtK n L id u = tkK (L.map keyI) id u ∧ qtT n L id u = tkT (L.map keyI) id u ∧ qtO n L id u = tkO (L.map keyI) id u) := Lib.hid (by simp [qtN, qtK, qtT, qtO, hv])
    clear hn6 hv
    go_wp2_with fail
    refine (spec_taken id u w2 H2.out HN6.out HNE.out HDST.out).mono ?_
    rintro e w3 ⟨A3, N3, c3, L3, rfl, ho, hk, hb⟩
    have F3 := Lib.hid (F2.out.below hb)
    have HO3 : Hid (OwnQ w3 Q A3 N3 c3 L3) := Lib.hid (ho.from (by have := F2.out.r.lt; omega))
    have HK3 := Lib.hid hk
    obtain ⟨tt, htt⟩ : ∃ tt, tkT (L.map keyI) id u = tt := ⟨_, rfl⟩
    obtain ⟨ff, hff⟩ : ∃ ff, tkO (L.map keyI) id u = ff := ⟨_, rfl⟩
    rw [htt, hff] at HE ⊢
    have r0 := F3.out.r.cell 0
    have r1 := F3.out.r.cell 1
    have f0 := F3.out.r.free 0
    have f1 := F3.out.r.free 1
    have p := F3.out.res (.int .i64 n) (.slice A3 N3 c3)
    have p0 := p.cell 0
    have p1 := p.cell 1
    simp at r0 r1 p0 p1
    clear p ho hk hb htt hff
    go_wp2
    refine bodyPost_ret (v := .tuple #[.agg #[.int .i64 n, .slice A3 N3 c3], .string tt, .bool ff]) (by simp [results, Try.results32, go_sem, p0, p1]) rfl ?_
    obtain ⟨e1, e2, e3, e4⟩ := HE.out
    rw [e1, e2, e3, e4]
    exact F3.out.end HQ.out HO3.out HK3.out
end Go.Proofs.Ytinbdibenbplnaa
namespace Go.Proofs.Ytinbdibenbplnaa
open Go.RowKit
set_option linter.unusedVariables false

section
variable {P : Program} {ops : Array Oper} {Q : Exit → Act → World → Prop} {md : Region.Mode} {C : World → Prop} {m : Nat}
/-- Whatever order is picked: the condition holds till number 'm' comes up. -/
def wpLate (P : Program) (md : Region.Mode) (ops : Array Oper) (Q : Exit → Act → World → Prop) (C : World → Prop) (m : Nat) : Nat → Array Bool → Act → World → Prop
  | 0, listed, a, w => Region.ready md ops listed = [] ∧ Q .normal a w
  | n + 1, listed, a, w => (Region.ready md ops listed = [] → Q .normal a w) ∧
      ∀ j ∈ Region.ready md ops listed, wpOp P ops Q j (fun a' w' => (listed.getD m false = false → j ≠ m → C w') ∧ wpLate P md ops Q C m n (listed.setIfInBounds j true) a' w') a w
theorem wpLate_any : ∀ (n : Nat) (listed : Array Bool) (a : Act) (w : World), wpLate P md ops Q C m n listed a w → wpAny P md ops Q n listed a w
  | 0, _, _, _, h => h
  | n + 1, _, _, _, h => ⟨h.1, fun j hj => wpOp_mono (fun a' w' h' => wpLate_any n _ a' w' h'.2) (h.2 j hj)⟩
theorem not_listed {i n : Nat} {listed : Array Bool} (h : ShutL md ops listed) (hw : waitsFor md ops i n m = true) (hi : i ∈ Region.ready md ops listed) : listed.getD m false = false := by
  cases hm : listed.getD m false with
  | false => rfl
  | true =>
    have key := waits_listed h n m hm hw
    have h0 := (mem_ready.1 hi).1
    rcases Nat.lt_or_ge i listed.size with h' | h'
    · simp [h'] at h0 key; rw [h0] at key; cases key
    · simp [Array.getElem?_eq_none h'] at key
theorem set_listed {j : Nat} {listed : Array Bool} (h : listed.getD j true = false) : (listed.setIfInBounds j true).getD j false = true := by
  rcases Nat.lt_or_ge j listed.size with h' | h'
  · simp [h']
  · simp [Array.getElem?_eq_none h'] at h
/-- What only reckons is taken first. -/
theorem wpLate_pure1 {i : Nat} {oi : Oper} {v : Value} (hi : ops[i]? = some oi) (hsel : ∀ (j : Nat) (o : Oper) cs b, ops[j]? = some o → o.op ≠ .select cs b)
    (hQ : ∀ c a w, Q (.panic c) (a.put oi.dst v) w → Q (.panic c) a w) (hne : i ≠ m) :
    ∀ (n : Nat) (listed : Array Bool) (a : Act) (w : World),
      (∀ j oj, ops[j]? = some oj → j ≠ i → listed.getD j true = false → (∀ e ∈ oj.after, Region.binds md e = true → e.on ≠ i) → oi.apart ops oj = true) →
      i ∈ Region.ready md ops listed → YieldsIf P ops (fun _ => True) oi v a → (listed.getD m false = false → C w) → wpLate P md ops Q C m n (listed.setIfInBounds i true) (a.put oi.dst v) w → wpLate P md ops Q C m (n + 1) listed a w := by
  intro n
  induction n with
  | zero =>
    intro listed a w _ hr hy hC H
    refine ⟨fun h => (by rw [h] at hr; cases hr), fun j hj => ?_⟩
    rcases Nat.decEq j i with hji | hji
    · have := ready_mono hj hji
      rw [H.1] at this
      cases this
    · subst hji
      exact hy.wpOp hi trivial ⟨fun h0 _ => hC h0, H⟩
  | succ n ih =>
    intro listed a w hfree hr hy hC H
    refine ⟨fun h => (by rw [h] at hr; cases hr), fun j hj => ?_⟩
    rcases Nat.decEq j i with hji | hji
    · obtain ⟨hjun, oj, hoj, hall⟩ := mem_ready.1 hj
      have hnot : ∀ e ∈ oj.after, Region.binds md e = true → e.on ≠ i := fun e he hb heq => by
        have h1 := hall e he hb
        have h0 := (mem_ready.1 hr).1
        rw [heq] at h1
        rcases Nat.lt_or_ge i listed.size with h' | h'
        · simp [h'] at h0 h1; rw [h0] at h1; cases h1
        · simp [Array.getElem?_eq_none h'] at h1
      have h2 := wpOp_putIf hoj (hfree j oj hoj hji hjun hnot) (fun cs b => hsel i oi cs b hi) (fun cs b => hsel j oj cs b hoj) hQ hy (H.2 j (ready_mono hj hji))
      refine wpOp_mono (fun a' w' h3 => ?_) h2
      have hc : listed.getD m false = false → j ≠ m → C w' := fun h0 hj2 => h3.2.1 (by rw [getD_set_ne false hne]; exact h0) hj2
      refine ⟨hc, ih _ a' w' (fun k ok hk hki hun hno => hfree k ok hk hki ?_ hno) (ready_mono hr (Ne.symm hji)) h3.1 (fun h0 => ?_) ?_⟩
      · by_cases hjk : j = k
        · subst hjk; exact hjun
        · rw [getD_set_ne true hjk] at hun; exact hun
      · by_cases hjm : j = m
        · subst hjm
          rw [set_listed hjun] at h0
          cases h0
        · rw [getD_set_ne false hjm] at h0
          exact hc h0 hjm
      · rw [Array.setIfInBounds_comm _ _ hji]
        exact h3.2.2
    · subst hji
      exact hy.wpOp hi trivial ⟨fun h0 _ => hC h0, H⟩
theorem wpLate_pure {i : Nat} {oi : Oper} {v : Value} {n : Nat} {listed : Array Bool} {a : Act} {w : World} (hi : ops[i]? = some oi)
    (hs : Region.noSelect ops = true) (hf : Region.free md ops listed i = true) (hr : (Region.ready md ops listed).contains i = true) (hne : i ≠ m)
    (hQ : ∀ c a w, Q (.panic c) (a.put oi.dst v) w → Q (.panic c) a w) (hC : C w) (hg : Region.wanted oi (yielded ops a.tmps) = true) (hy : ∀ w, (execOp a.eval oi).run P w = .ok (.value v) w)
    (h : wpLate P md ops Q C m n (listed.setIfInBounds i true) (a.put oi.dst v) w) : wpLate P md ops Q C m (n + 1) listed a w :=
  wpLate_pure1 hi (Region.noSelect_spec hs) hQ hne n listed a w (Region.free_spec hi hf) (by simpa using hr) (.inl ⟨hg, fun w _ => hy w⟩) (fun _ => hC) h
theorem wpLate_first {i : Nat} {oi : Oper} {v : Value} (hi : ops[i]? = some oi) (hsel : ∀ (j : Nat) (o : Oper) cs b, ops[j]? = some o → o.op ≠ .select cs b)
    (hQ : ∀ c a w, Q (.panic c) (a.put oi.dst v) w → Q (.panic c) a w) {nw : Nat} (hw : waitsFor md ops i nw m = true) :
    ∀ (n : Nat) (listed : Array Bool) (a : Act) (w : World), ShutL md ops listed →
      (∀ j oj, ops[j]? = some oj → j ≠ i → listed.getD j true = false → (∀ e ∈ oj.after, Region.binds md e = true → e.on ≠ i) → oi.apart ops oj = true) →
      i ∈ Region.ready md ops listed → YieldsIf P ops C oi v a → C w → wpLate P md ops Q C m n (listed.setIfInBounds i true) (a.put oi.dst v) w → wpLate P md ops Q C m (n + 1) listed a w := by
  intro n
  induction n with
  | zero =>
    intro listed a w _ _ hr hy hC H
    refine ⟨fun h => (by rw [h] at hr; cases hr), fun j hj => ?_⟩
    rcases Nat.decEq j i with hji | hji
    · have := ready_mono hj hji
      rw [H.1] at this
      cases this
    · subst hji
      exact hy.wpOp hi hC ⟨fun _ _ => hC, H⟩
  | succ n ih =>
    intro listed a w hsh hfree hr hy hC H
    refine ⟨fun h => (by rw [h] at hr; cases hr), fun j hj => ?_⟩
    rcases Nat.decEq j i with hji | hji
    · obtain ⟨hjun, oj, hoj, hall⟩ := mem_ready.1 hj
      have hnot : ∀ e ∈ oj.after, Region.binds md e = true → e.on ≠ i := fun e he hb heq => by
        have h1 := hall e he hb
        have h0 := (mem_ready.1 hr).1
        rw [heq] at h1
        rcases Nat.lt_or_ge i listed.size with h' | h'
        · simp [h'] at h0 h1; rw [h0] at h1; cases h1
        · simp [Array.getElem?_eq_none h'] at h1
      have h2 := wpOp_putIf hoj (hfree j oj hoj hji hjun hnot) (fun cs b => hsel i oi cs b hi) (fun cs b => hsel j oj cs b hoj) hQ hy (H.2 j (ready_mono hj hji))
      refine wpOp_mono (fun a' w' h3 => ?_) h2
      have hc := h3.2.1 (by rw [getD_set_ne false (not_ready hsh hw hr hr)]; exact not_listed hsh hw hr) (not_ready hsh hw hr hj)
      refine ⟨fun _ _ => hc, ih _ a' w' (shutL_set hsh hj) (fun k ok hk hki hun hno => hfree k ok hk hki ?_ hno) (ready_mono hr (Ne.symm hji)) h3.1 hc ?_⟩
      · by_cases hjk : j = k
        · subst hjk; exact hjun
        · rw [getD_set_ne true hjk] at hun; exact hun
      · rw [Array.setIfInBounds_comm _ _ hji]
        exact h3.2.2
    · subst hji
      exact hy.wpOp hi hC ⟨fun _ _ => hC, H⟩
/-- A read is taken first. -/
theorem wpLate_take {i : Nat} {oi : Oper} {v : Value} {n : Nat} {listed : Array Bool} {a : Act} {w : World} (hi : ops[i]? = some oi)
    (hs : Region.noSelect ops = true) (hf : Region.free md ops listed i = true) (hr : (Region.ready md ops listed).contains i = true) (hsh : shutB md ops listed = true) (hw : waitsFor md ops i 40 m = true)
    (hQ : ∀ c a w, Q (.panic c) (a.put oi.dst v) w → Q (.panic c) a w) (hC : C w) (hg : Region.wanted oi (yielded ops a.tmps) = true) (hy : ∀ w, C w → (execOp a.eval oi).run P w = .ok (.value v) w)
    (h : wpLate P md ops Q C m n (listed.setIfInBounds i true) (a.put oi.dst v) w) : wpLate P md ops Q C m (n + 1) listed a w :=
  wpLate_first hi (Region.noSelect_spec hs) hQ hw n listed a w (shutL_of hsh) (Region.free_spec hi hf) (by simpa using hr) (.inl ⟨hg, hy⟩) hC h
theorem wpLate_step {i : Nat} {o : Oper} {n : Nat} {listed : Array Bool} {a : Act} {w : World} (ho : ops[i]? = some o)
    (h : ∀ K : Act → World → Prop, Shut (∀ a w, (i ≠ m → C w) → wpLate P md ops Q C m n (listed.setIfInBounds i true) a w → K a w) → if Region.wanted o (yielded ops a.tmps) = true then Oper.wp P o a w K Q else K (a.put o.dst undef) w) :
    wpOp P ops Q i (fun a' w' => (listed.getD m false = false → i ≠ m → C w') ∧ wpLate P md ops Q C m n (listed.setIfInBounds i true) a' w') a w := by
  have h1 := h (fun a' w' => (listed.getD m false = false → i ≠ m → C w') ∧ wpLate P md ops Q C m n (listed.setIfInBounds i true) a' w') (fun a w h1 h2 => ⟨fun _ => h1, h2⟩)
  unfold wpOp
  simp only [ho]
  split
  · rename_i hw
    rw [if_pos hw] at h1
    exact .inl h1
  · rename_i hw
    rw [if_neg hw] at h1
    exact h1
/-- One alone may come up. -/
theorem wpLate_one {i : Nat} {o : Oper} {n : Nat} {listed : Array Bool} {a : Act} {w : World} (hr : Region.ready md ops listed = [i]) (ho : ops[i]? = some o)
    (h : ∀ K : Act → World → Prop, Shut (∀ a w, (i ≠ m → C w) → wpLate P md ops Q C m n (listed.setIfInBounds i true) a w → K a w) → if Region.wanted o (yielded ops a.tmps) = true then Oper.wp P o a w K Q else K (a.put o.dst undef) w) : wpLate P md ops Q C m (n + 1) listed a w := by
  refine ⟨fun h0 => (by rw [hr] at h0; cases h0), fun j hj => ?_⟩
  rw [hr] at hj
  simp only [List.mem_singleton] at hj
  subst hj
  exact wpLate_step ho h
/-- One of two comes up. -/
theorem wpLate_two {i k : Nat} {o p : Oper} {n : Nat} {listed : Array Bool} {a : Act} {w : World} (hr : Region.ready md ops listed = [i, k]) (ho : ops[i]? = some o) (hp : ops[k]? = some p)
    (h : ∀ K : Act → World → Prop, Shut (∀ a w, (i ≠ m → C w) → wpLate P md ops Q C m n (listed.setIfInBounds i true) a w → K a w) → if Region.wanted o (yielded ops a.tmps) = true then Oper.wp P o a w K Q else K (a.put o.dst undef) w)
    (h2 : ∀ K : Act → World → Prop, Shut (∀ a w, (k ≠ m → C w) → wpLate P md ops Q C m n (listed.setIfInBounds k true) a w → K a w) → if Region.wanted p (yielded ops a.tmps) = true then Oper.wp P p a w K Q else K (a.put p.dst undef) w) : wpLate P md ops Q C m (n + 1) listed a w := by
  refine ⟨fun h0 => (by rw [hr] at h0; cases h0), fun j hj => ?_⟩
  rw [hr] at hj
  simp only [List.mem_cons, List.not_mem_nil, or_false] at hj
  rcases hj with rfl | rfl
  · exact wpLate_step ho h
  · exact wpLate_step hp h2
theorem wpLate_done {listed : Array Bool} {a : Act} {w : World} (hr : Region.ready md ops listed = []) (h : Q .normal a w) : ∀ n, wpLate P md ops Q C m n listed a w
  | 0 => ⟨hr, h⟩
  | _ + 1 => ⟨fun _ => h, by rw [hr]; simp⟩
theorem wp_region_late {id : Nat} {a : Act} {w : World} (C : World → Prop) (m : Nat) (hm : P.follows .mixedOrders = true)
    (h : wpLate P .any ops Q C m ops.size (Array.replicate ops.size false) a w.drew) : (Code.region id ops true).wp P Q a w :=
  wp_region_any hm (wpLate_any _ _ _ _ h)
end
end Go.Proofs.Ytinbdibenbplnaa
