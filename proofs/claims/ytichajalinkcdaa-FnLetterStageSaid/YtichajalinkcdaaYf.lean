/-
  The contract of DrawSubmissionLetter. Condition: the code can be read.
-/
import Derived.Test.YtichajalinkcdaaQi
import Derived.Test.YtichajalinkcdaaYc
namespace Go.Proofs.Ytichajalinkcdaa
open Go.RowKit
set_option linter.unusedVariables false

/-- A drawn submission, for a letter. -/
def DrewLt (w : World) (e : Ending) (w' : World) : Prop := ∃ (st : Int) (us tx : ByteArray) (A : Option Addr) (N cap : Nat) (T : List ByteArray), e = .returned (.agg #[.int .i64 st, .string us, .slice A N cap, .string tx]) ∧ us.size ≤ 30 ∧ tx.size ≤ 30 ∧ T.length ≤ 6 ∧ (∀ g ∈ T, g.size ≤ 30) ∧ ROwn stR w' w.heap.size (.slice A N cap) T ∧ Below w.heap.size w w'
/-- What is drawn so far: the submission in block 'S', a place for the answer. -/
def LS (w wr : World) (b q S : Nat) (st : Int) (us tx : ByteArray) (A : Option Addr) (N cap : Nat) (T : List ByteArray) : Prop :=
  Rd wr b q ∧ Whole wr S 25 #[.int .i64 st, .string us, .slice A N cap, .string tx] ∧ Whole wr w.heap.size 25 #[.int .i64 0, .string ⟨#[]⟩, .slice none 0 0, .string ⟨#[]⟩] ∧ ROwn stR wr (b + 1) (.slice A N cap) T ∧ Below w.heap.size w wr ∧ (us.size ≤ 30 ∧ tx.size ≤ 30 ∧ T.length ≤ 6 ∧ ∀ g ∈ T, g.size ≤ 30) ∧ b = w.heap.size + 1 ∧ b < S
section
variable {w wr w' : World} {b q q' S N cap : Nat} {st : Int} {us tx : ByteArray} {A : Option Addr} {T : List ByteArray}
theorem LS.read (h : LS w wr b q S st us tx A N cap T) (hr : Rd w' b q') (hg : wr.grownBy w' (some b)) : LS w w' b q' S st us tx A N cap T :=
  ⟨hr, h.2.1.grown hg (by have := h.2.2.2.2.2.2; simp; omega), h.2.2.1.grown hg (by have := h.2.2.2.2.2.2; simp; omega), h.2.2.2.1.grown hg (by omega), below_gr h.2.2.2.2.1 hg (by have := h.2.2.1.lt; omega) (by have := h.2.2.2.2.2.2.1; omega), h.2.2.2.2.2⟩
theorem LS.later (h : LS w wr b q S st us tx A N cap T) (hb : Below wr.heap.size wr w') : LS w w' b q S st us tx A N cap T :=
  ⟨h.1.below hb h.1.lt, h.2.1.below hb h.2.1.lt, h.2.2.1.below hb h.2.2.1.lt, h.2.2.2.1.kept hb, h.2.2.2.2.1.trans (hb.mono h.2.2.2.2.1.size), h.2.2.2.2.2⟩
theorem LS.put {st' : Int} {us' tx' : ByteArray} {A' : Option Addr} {N' cap' B : Nat} {T' : List ByteArray} (h : LS w wr b q S st us tx A N cap T) (ho : ROwn stR wr B (.slice A' N' cap') T') (hB : b + 1 ≤ B) (hz : us'.size ≤ 30 ∧ tx'.size ≤ 30 ∧ T'.length ≤ 6 ∧ ∀ g ∈ T', g.size ≤ 30) :
    LS w ((((wr.setCell ⟨S, 0, none⟩ (.int .i64 st')).setCell ⟨S, 1, none⟩ (.string us')).setCell ⟨S, 2, none⟩ (.slice A' N' cap')).setCell ⟨S, 3, none⟩ (.string tx')) b q S st' us' tx' A' N' cap' T' := by
  have hbs := h.2.2.2.2.2.2.2
  have hbw := h.2.2.2.2.2.2.1
  have hset : ∀ (v : World) (j : Nat) (u : Value), v.grownBy (v.setCell ⟨S, j, none⟩ u) (some S) := fun v j u => gr_store (gr_refl v _) (.inl rfl) u
  refine ⟨?_, put_sb h.2.1 _ _ _ _, apart4 h.2.2.1 (by omega) _ _ _ _, (own_set4 ho (own_offq ho h.2.1 (by decide)) _ _ _ _).from hB, below_set4 h.2.2.2.2.1 (by omega) _ _ _ _, hz, h.2.2.2.2.2.2⟩
  exact (((h.1.grown (hset _ 0 _) (by omega)).grown (hset _ 1 _) (by omega)).grown (hset _ 2 _) (by omega)).grown (hset _ 3 _) (by omega)
theorem LS.sin (h : LS w wr b q S st us tx A N cap T) : SIn wr A N cap T := SIn.made h.2.2.2.1 (by have := h.2.2.2.2.2.1.2.2.1; omega) (fun g hg => by have := h.2.2.2.2.2.1.2.2.2 g hg; omega)
theorem LS.done (h : LS w wr b q S st us tx A N cap T) (a0 a1 a2 a3 : Value) (e : Ending) (he : e = .returned (.agg #[.int .i64 st, .string us, .slice A N cap, .string tx])) :
    DrewLt w e ((((wr.setCell ⟨w.heap.size, 0, none⟩ a0).setCell ⟨w.heap.size, 1, none⟩ a1).setCell ⟨w.heap.size, 2, none⟩ a2).setCell ⟨w.heap.size, 3, none⟩ a3) :=
  ⟨st, us, tx, A, N, cap, T, he, h.2.2.2.2.2.1.1, h.2.2.2.2.2.1.2.1, h.2.2.2.2.2.1.2.2.1, h.2.2.2.2.2.1.2.2.2, (own_set4 h.2.2.2.1 (own_offq h.2.2.2.1 h.2.2.1 (by decide)) _ _ _ _).from (by have := h.2.2.2.2.2.2.1; omega), below_set4 h.2.2.2.2.1 (Nat.le_refl _) _ _ _ _⟩
end
set_option maxRecDepth 20000 in
set_option maxHeartbeats 8000000 in
theorem draw_subletter (A0 : Option Addr) (len cap0 : Nat) (w : World) (h : Coded w A0 len cap0) : Calls Try.prog 9 #[.slice A0 len cap0] w (DrewLt w) := by
  obtain ⟨wz, hwz⟩ : ∃ wz, w.alloc (.cells #[.int .i64 0, .string ⟨#[]⟩, .slice none 0 0, .string ⟨#[]⟩] 25) = wz := ⟨_, rfl⟩
  have hbz : Below w.heap.size w wz := by rw [← hwz]; exact below_new' _ _
  have HC := Lib.hid (Coded.below h hbz (Nat.le_refl _))
  have HK := Lib.hid HC.out.2.2
  have hk1 := h.1
  have hk2 := h.2.1
  have HBZ := Lib.hid hbz
  have HZR : Hid (Whole wz w.heap.size 25 #[.int .i64 0, .string ⟨#[]⟩, .slice none 0 0, .string ⟨#[]⟩]) := Lib.hid (by rw [← hwz]; exact Whole.made _ _ _)
  have HZS : Hid (wz.heap.size = w.heap.size + 1) := Lib.hid (by rw [← hwz]; simp)
  have HWZ := Lib.hid hwz
  clear h hwz hbz
  go_enter Try.func9, Try.ntmps9
  go_wp2_with fail
  rw [HWZ.out]
  refine (open_any A0 len cap0 wz hk1 hk2 HK.out).mono ?_
  rintro e w1 ⟨rfl, hr, hb, hz⟩
  obtain ⟨b, hbb⟩ : ∃ b, wz.heap.size = b := ⟨_, rfl⟩
  rw [hbb] at hr hb
  have HR := Lib.hid hr
  have HB := Lib.hid hb
  have HBB := Lib.hid hbb
  clear hr hb hbb hz
  rw [HBB.out]
  go_wp2_with fail
  refine (users_first wz w1 HBB.out.symm HR.out HB.out).mono ?_
  rintro e w2 ⟨g, NU, cU, L, q, rfl, hq, hg⟩
  have HG := Lib.hid hg
  clear hg
  have HR3 : Hid (Whole w2 w.heap.size 25 #[.int .i64 0, .string ⟨#[]⟩, .slice none 0 0, .string ⟨#[]⟩]) := Lib.hid ((HZR.out.below HG.out.2.2.1 (by have := HZS.out; have := HBB.out; omega)))
  have HB2 : Hid (Below w.heap.size w w2) := Lib.hid (HBZ.out.trans (HG.out.2.2.1.mono (by have := HZS.out; have := HBB.out; omega)))
  go_wp2_with fail
  refine (sub_draw b q (some ⟨g, 0, none⟩) NU cU L w2 HG.out.1 (by omega) HG.out.uin (fun x hx => (HG.out.2.2.2.1 x hx).2) HG.out.off).mono ?_
  rintro e w3 ⟨st, us, tx, A, N, cap, T, q3, rfl, hq3, hc, ho, hus, htx, hl, hT⟩
  obtain ⟨S, hS⟩ : ∃ S, w3.heap.size = S := ⟨_, rfl⟩
  obtain ⟨w4, hw4⟩ : ∃ w4, w3.alloc (.cells #[.int .i64 st, .string us, .slice A N cap, .string tx] 25) = w4 := ⟨_, rfl⟩
  have hb4 : Below w3.heap.size w3 w4 := by rw [← hw4]; exact below_new' _ _
  have HbS : Hid (b < S) := Lib.hid (by rw [← hS]; exact hc.1.lt)
  have HLS : Hid (LS w w4 b q3 S st us tx A N cap T) := Lib.hid ⟨hc.1.below hb4 hc.1.lt, by rw [← hw4, ← hS]; exact Whole.made _ _ _, (HR3.out.grown hc.2 (by have := HZS.out; have := HBB.out; simp; omega)).below hb4 (by have := hc.1.lt; have := HZS.out; have := HBB.out; omega), (ho.from (by have := HG.out.1.lt; omega)).kept hb4, (below_gr HB2.out hc.2 (by have := HG.out.1.lt; have := HZS.out; have := HBB.out; omega) (by have := HZS.out; have := HBB.out; omega)).trans (hb4.mono (by have := hc.1.lt; have := HZS.out; have := HBB.out; omega)), ⟨hus, htx, hl, hT⟩, by have := HZS.out; have := HBB.out; omega, HbS.out⟩
  have hq0 : q3 ≤ 200 := by omega
  clear hc ho hb4 hT hus htx hl HR HB HG HR3 HB2 HC HK HZR HBZ hq3 hq hk1 hk2
  go_wp2
  go_loopw [5] (fun i wr => ∃ (k q : Nat) (st : Int) (us tx : ByteArray) (A : Option Addr) (N cap : Nat) (T : List ByteArray), k ≤ 8 ∧ q ≤ 200 + 140 * k ∧ i = .int .i64 (k : Int) ∧ Hid (LS w wr b q S st us tx A N cap T)) (fun i _ => 8 - (intOf i).toNat)
  case atStart => exact ⟨0, q3, st, us, tx, A, N, cap, T, by omega, by omega, by go_num, HLS⟩
  case round =>
    clear HLS hq0
    obtain ⟨k, q, st, us, tx, A, N, cap, T, hk, hq, rfl, HL⟩ := hrel
    by_cases hlt : k < 8
    · have h0 : (k : Int) < 8 := by omega
      have HSI := Lib.hid HL.out.sin
      have hu : us.size ≤ 16777216 := by have := HL.out.2.2.2.2.2.1.1; omega
      have hs := HL.out.2.1
      have c0 := hs.cell 0
      have c1 := hs.cell 1
      have c2 := hs.cell 2
      have c3 := hs.cell 3
      simp at c0 c1 c2 c3
      clear hs
      cases hok : okL ⟨st, us, T, tx⟩ with
      | true =>
        have HOK := Lib.hid hok
        clear hok
        go_wp2_with fail
        refine (spec_letter st us tx T A N cap _ HSI.out hu).mono ?_
        rw [HOK.out]
        rintro e w5 ⟨A5, N5, c5, rfl, _, hb⟩
        obtain ⟨w6, hw6⟩ : ∃ w6, w5.alloc (.cells #[.string us, .slice A5 N5 c5, .string tx] 28) = w6 := ⟨_, rfl⟩
        have HL6 : Hid (LS w w6 b q S st us tx A N cap T) := Lib.hid ((HL.out.later hb).later (by rw [← hw6]; exact below_new' _ _))
        clear hb c0 c1 c2 c3
        have hs5 := HL6.out.2.1
        have hr5 := HL6.out.2.2.1
        have d0 := hs5.cell 0
        have d1 := hs5.cell 1
        have d2 := hs5.cell 2
        have d3 := hs5.cell 3
        simp at d0 d1 d2 d3
        have y0 := hr5.cell 0
        have y1 := hr5.cell 1
        have y2 := hr5.cell 2
        have y3 := hr5.cell 3
        simp at y0 y1 y2 y3
        have f0 := hr5.free 0
        have f1 := hr5.free 1
        have f2 := hr5.free 2
        have f3 := hr5.free 3
        have hf := put_sb hr5 (.int .i64 st) (.string us) (.slice A N cap) (.string tx)
        have r0 := hf.cell 0
        have r1 := hf.cell 1
        have r2 := hf.cell 2
        have r3 := hf.cell 3
        simp at r0 r1 r2 r3
        clear hs5 hr5 hf
        go_wp2
        refine bodyPost_ret (v := .agg #[.int .i64 st, .string us, .slice A N cap, .string tx]) (by simp [results, Try.results9, go_sem, r0, r1, r2, r3]) rfl ?_
        exact LS.done HL6.out _ _ _ _ _ rfl
      | false =>
        have HOK := Lib.hid hok
        clear hok
        go_wp2_with fail
        refine (spec_letter st us tx T A N cap _ HSI.out hu).mono ?_
        rw [HOK.out]
        rintro e w5 ⟨A5, N5, c5, rfl, _, hb⟩
        obtain ⟨w6, hw6⟩ : ∃ w6, w5.alloc (.cells #[.string eB, .slice A5 N5 c5, .string eB] 28) = w6 := ⟨_, rfl⟩
        have HL6 : Hid (LS w w6 b q S st us tx A N cap T) := Lib.hid ((HL.out.later hb).later (by rw [← hw6]; exact below_new' _ _))
        clear hb c0 c1 c2 c3
        go_wp2_with fail
        refine (users_draw b q w6 HL6.out.1 (by omega)).mono ?_
        rintro e w7 ⟨g, NU, cU, L, q7, rfl, hq7, hr7, ho7, hg7, hz7, hN7, hbl7⟩
        have HL7 := Lib.hid (HL6.out.read hr7 hg7)
        have HU7 : Hid (UIn w7 (some ⟨g, 0, none⟩) NU cU L) := Lib.hid (UIn.made ho7 ⟨by have := ho7.len.1; omega, fun x hx => ⟨by have := (hz7 x hx).1; omega, by have := (hz7 x hx).2; omega⟩⟩)
        have HZ7 := Lib.hid hz7
        have HO7 : Hid (∀ bb o, (some (⟨g, 0, none⟩ : Addr)) = some ⟨bb, o, none⟩ → bb ≠ b) := Lib.hid (fun bb o e => by cases e; have h1 := (World.ownsRow.lt ho7 g rfl).1; have h2 := HL6.out.1.lt; omega)
        clear hr7 ho7 hg7 hz7
        go_wp2_with fail
        refine (sub_draw b q7 (some ⟨g, 0, none⟩) NU cU L w7 HL7.out.1 (by omega) HU7.out (fun x hx => (HZ7.out x hx).2) HO7.out).mono ?_
        rintro e w8 ⟨st', us', tx', A', N', cap', T', q8, rfl, hq8, hc, ho, hus, htx, hl, hT⟩
        have HL8 := Lib.hid (HL7.out.read hc.1 hc.2)
        have HO8 := Lib.hid ho
        have HZ8 := Lib.hid (And.intro hus (And.intro htx (And.intro hl hT)))
        have hs8 := HL8.out.2.1
        have d0 := hs8.cell 0
        have d1 := hs8.cell 1
        have d2 := hs8.cell 2
        have d3 := hs8.cell 3
        simp at d0 d1 d2 d3
        have f0 := hs8.free 0
        have f1 := hs8.free 1
        have f2 := hs8.free 2
        have f3 := hs8.free 3
        have HL9 := Lib.hid (HL8.out.put (st' := st') HO8.out (by have := HL7.out.1.lt; omega) HZ8.out)
        clear hc ho hus htx hl hT hs8
        go_wp2
        go_roundw
        case rel => exact ⟨k + 1, q8, st', us', tx', A', N', cap', T', by omega, by omega, by go_num, HL9⟩
        case measure => simp [intOf]; omega
    · have h0 : ¬ (k : Int) < 8 := by omega
      have hs5 := HL.out.2.1
      have hr5 := HL.out.2.2.1
      have d0 := hs5.cell 0
      have d1 := hs5.cell 1
      have d2 := hs5.cell 2
      have d3 := hs5.cell 3
      simp at d0 d1 d2 d3
      have y0 := hr5.cell 0
      have y1 := hr5.cell 1
      have y2 := hr5.cell 2
      have y3 := hr5.cell 3
      simp at y0 y1 y2 y3
      have f0 := hr5.free 0
      have f1 := hr5.free 1
      have f2 := hr5.free 2
      have f3 := hr5.free 3
      have hf := put_sb hr5 (.int .i64 st) (.string us) (.slice A N cap) (.string tx)
      have r0 := hf.cell 0
      have r1 := hf.cell 1
      have r2 := hf.cell 2
      have r3 := hf.cell 3
      simp at r0 r1 r2 r3
      clear hs5 hr5 hf
      go_wp2
      refine bodyPost_ret (v := .agg #[.int .i64 st, .string us, .slice A N cap, .string tx]) (by simp [results, Try.results9, go_sem, r0, r1, r2, r3]) rfl ?_
      exact LS.done HL.out _ _ _ _ _ rfl
end Go.Proofs.Ytichajalinkcdaa
