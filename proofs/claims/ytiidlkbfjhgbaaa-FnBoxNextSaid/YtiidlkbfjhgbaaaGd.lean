/-
  The contracts of DrawBoxValid, DrawBoxExpunge, DrawBoxSize, DrawBoxAppend, DrawBoxFlags and DrawBoxCopy. Condition: the code can be read.
  The contract of DrawBoxCopy. Condition: the code can be read.
  The contract of DrawBoxUids. Condition: the code can be read.
  What the walks of the laws of mailboxes share: the contracts of both sides told with their results by name, and what is known of these. Plain lemmas; no condition.
-/
import Derived.Test.YtiidlkbfjhgbaaaGbox
import Derived.Test.YtiidlkbfjhgbaaaGplace
import Derived.Deep.RegionLaw
import Derived.Deep.LoopGhost
import Derived.Test.YtiidlkbfjhgbaaaHr
namespace Go.Proofs.Ytiidlkbfjhgbaaa
open Go.RowKit
set_option linter.unusedVariables false

/-- A mailbox that was drawn from a code. -/
def DB (w : World) (e : Ending) (w' : World) : Prop := ∃ (n : Int) (A : Option Addr) (N cap : Nat) (L : List ML), e = .returned (.agg #[.int .i64 n, .slice A N cap]) ∧ N ≤ 14 ∧ -1 ≤ n ∧ n ≤ 200 ∧ ROwn mailR w' w.heap.size (.slice A N cap) L ∧ Below w.heap.size w w'
theorem coded_alloc {w : World} {A : Option Addr} {len cap : Nat} (h : Coded w A len cap) (o : Obj) : Coded (w.alloc o) A len cap := h.below (below_new w o) (Nat.le_refl _)
theorem below_store {w w' : World} {B : Nat} (h : Below B w w') (u u2 : Value) : Below B w ((w'.setCell ⟨B, 0, none⟩ u).setCell ⟨B, 1, none⟩ u2) := (h.setCell (p := ⟨B, 0, none⟩) (Nat.le_refl _) u).setCell (p := ⟨B, 1, none⟩) (Nat.le_refl _) u2
theorem own_store {α : Type} {R : RowT α} {w : World} {B B' r : Nat} {v : Value} {L : List α} (h : ROwn R w B' v L) (hB : r < B') (hb : B ≤ B') (u u2 : Value) : ROwn R ((w.setCell ⟨r, 0, none⟩ u).setCell ⟨r, 1, none⟩ u2) B v L := ((h.store (p := ⟨r, 0, none⟩) (h.base r hB) u).store (p := ⟨r, 1, none⟩) (h.base r hB) u2).from hb
set_option maxRecDepth 20000 in
set_option maxHeartbeats 2000000 in
theorem draw_bvalid (A : Option Addr) (len cap : Nat) (w : World) (h : Coded w A len cap) :
    Calls Try.prog 39 #[.slice A len cap] w (DB w) := by
  obtain ⟨B, hB⟩ : ∃ B, w.heap.size = B := ⟨_, rfl⟩
  have hsz : (w.alloc (.cells #[.int .i64 0, .slice none 0 0] 25)).heap.size = B + 1 := by simp [hB]
  have HSZ := Lib.hid hsz
  have hc := coded_alloc h (.cells #[.int .i64 0, .slice none 0 0] 25)
  have HK := Lib.hid hc.2.2
  have hk1 := hc.1
  have hk2 := hc.2.1
  have HW0 := Lib.hid (hB ▸ Whole.made w 25 #[.int .i64 0, .slice none 0 0] : Whole (w.alloc (.cells #[.int .i64 0, .slice none 0 0] 25)) B 25 #[.int .i64 0, .slice none 0 0])
  have HB0 := Lib.hid (hB ▸ below_new w (.cells #[.int .i64 0, .slice none 0 0] 25) : Below B w (w.alloc (.cells #[.int .i64 0, .slice none 0 0] 25)))
  clear h hc hsz
  go_enter Try.func39, Try.ntmps39
  go_wp2_with fail
  refine (open_any A len cap _ hk1 hk2 HK.out).mono ?_
  rintro e w1 ⟨rfl, hr, hb, hz⟩
  rw [HSZ.out] at hr hb hz
  have HR := Lib.hid hr
  have HW1 := Lib.hid (HW0.out.below hb (by omega))
  have HB1 := Lib.hid (HB0.out.trans (hb.mono (by omega)))
  clear hr hb
  rw [HSZ.out]
  go_wp2_with fail
  refine (box_draw (B + 1) 0 w1 HR.out (by omega)).mono ?_
  rintro e w2 ⟨n, A2, N2, cap2, L, q, rfl, hN, h1, h2, hq, hr, hown, hg⟩
  have HO := Lib.hid hown
  have HW2 := Lib.hid (HW1.out.grown hg (by simp))
  have HB2 := Lib.hid (below_gr HB1.out hg (by omega) (by omega))
  clear hr hown hg
  have r0 := HW2.out.cell 0
  have r1 := HW2.out.cell 1
  simp at r0 r1
  have g0 := HW2.out.free 0
  have g1 := HW2.out.free 1
  go_wp2
  refine bodyPost_ret (v := .agg #[.int .i64 n, .slice A2 N2 cap2]) (by simp [results, Try.results39, go_sem, r0, r1]) rfl ?_
  refine ⟨n, A2, N2, cap2, L, rfl, hN, h1, h2, ?_, ?_⟩
  · rw [hB]
    exact own_store HO.out (by omega) (by omega) _ _
  · rw [hB]
    exact below_store HB2.out _ _
set_option maxRecDepth 20000 in
set_option maxHeartbeats 2000000 in
theorem draw_bexpunge (A : Option Addr) (len cap : Nat) (w : World) (h : Coded w A len cap) :
    Calls Try.prog 45 #[.slice A len cap] w (DB w) := by
  obtain ⟨B, hB⟩ : ∃ B, w.heap.size = B := ⟨_, rfl⟩
  have hsz : (w.alloc (.cells #[.int .i64 0, .slice none 0 0] 25)).heap.size = B + 1 := by simp [hB]
  have HSZ := Lib.hid hsz
  have hc := coded_alloc h (.cells #[.int .i64 0, .slice none 0 0] 25)
  have HK := Lib.hid hc.2.2
  have hk1 := hc.1
  have hk2 := hc.2.1
  have HW0 := Lib.hid (hB ▸ Whole.made w 25 #[.int .i64 0, .slice none 0 0] : Whole (w.alloc (.cells #[.int .i64 0, .slice none 0 0] 25)) B 25 #[.int .i64 0, .slice none 0 0])
  have HB0 := Lib.hid (hB ▸ below_new w (.cells #[.int .i64 0, .slice none 0 0] 25) : Below B w (w.alloc (.cells #[.int .i64 0, .slice none 0 0] 25)))
  clear h hc hsz
  go_enter Try.func45, Try.ntmps45
  go_wp2_with fail
  refine (open_any A len cap _ hk1 hk2 HK.out).mono ?_
  rintro e w1 ⟨rfl, hr, hb, hz⟩
  rw [HSZ.out] at hr hb hz
  have HR := Lib.hid hr
  have HW1 := Lib.hid (HW0.out.below hb (by omega))
  have HB1 := Lib.hid (HB0.out.trans (hb.mono (by omega)))
  clear hr hb
  rw [HSZ.out]
  go_wp2_with fail
  refine (box_draw (B + 1) 0 w1 HR.out (by omega)).mono ?_
  rintro e w2 ⟨n, A2, N2, cap2, L, q, rfl, hN, h1, h2, hq, hr, hown, hg⟩
  have HO := Lib.hid hown
  have HW2 := Lib.hid (HW1.out.grown hg (by simp))
  have HB2 := Lib.hid (below_gr HB1.out hg (by omega) (by omega))
  clear hr hown hg
  have r0 := HW2.out.cell 0
  have r1 := HW2.out.cell 1
  simp at r0 r1
  have g0 := HW2.out.free 0
  have g1 := HW2.out.free 1
  go_wp2
  refine bodyPost_ret (v := .agg #[.int .i64 n, .slice A2 N2 cap2]) (by simp [results, Try.results45, go_sem, r0, r1]) rfl ?_
  refine ⟨n, A2, N2, cap2, L, rfl, hN, h1, h2, ?_, ?_⟩
  · rw [hB]
    exact own_store HO.out (by omega) (by omega) _ _
  · rw [hB]
    exact below_store HB2.out _ _
set_option maxRecDepth 20000 in
set_option maxHeartbeats 2000000 in
theorem draw_bsize (A : Option Addr) (len cap : Nat) (w : World) (h : Coded w A len cap) :
    Calls Try.prog 58 #[.slice A len cap] w (DB w) := by
  obtain ⟨B, hB⟩ : ∃ B, w.heap.size = B := ⟨_, rfl⟩
  have hsz : (w.alloc (.cells #[.int .i64 0, .slice none 0 0] 25)).heap.size = B + 1 := by simp [hB]
  have HSZ := Lib.hid hsz
  have hc := coded_alloc h (.cells #[.int .i64 0, .slice none 0 0] 25)
  have HK := Lib.hid hc.2.2
  have hk1 := hc.1
  have hk2 := hc.2.1
  have HW0 := Lib.hid (hB ▸ Whole.made w 25 #[.int .i64 0, .slice none 0 0] : Whole (w.alloc (.cells #[.int .i64 0, .slice none 0 0] 25)) B 25 #[.int .i64 0, .slice none 0 0])
  have HB0 := Lib.hid (hB ▸ below_new w (.cells #[.int .i64 0, .slice none 0 0] 25) : Below B w (w.alloc (.cells #[.int .i64 0, .slice none 0 0] 25)))
  clear h hc hsz
  go_enter Try.func58, Try.ntmps58
  go_wp2_with fail
  refine (open_any A len cap _ hk1 hk2 HK.out).mono ?_
  rintro e w1 ⟨rfl, hr, hb, hz⟩
  rw [HSZ.out] at hr hb hz
  have HR := Lib.hid hr
  have HW1 := Lib.hid (HW0.out.below hb (by omega))
  have HB1 := Lib.hid (HB0.out.trans (hb.mono (by omega)))
  clear hr hb
  rw [HSZ.out]
  go_wp2_with fail
  refine (box_draw (B + 1) 0 w1 HR.out (by omega)).mono ?_
  rintro e w2 ⟨n, A2, N2, cap2, L, q, rfl, hN, h1, h2, hq, hr, hown, hg⟩
  have HO := Lib.hid hown
  have HW2 := Lib.hid (HW1.out.grown hg (by simp))
  have HB2 := Lib.hid (below_gr HB1.out hg (by omega) (by omega))
  clear hr hown hg
  have r0 := HW2.out.cell 0
  have r1 := HW2.out.cell 1
  simp at r0 r1
  have g0 := HW2.out.free 0
  have g1 := HW2.out.free 1
  go_wp2
  refine bodyPost_ret (v := .agg #[.int .i64 n, .slice A2 N2 cap2]) (by simp [results, Try.results58, go_sem, r0, r1]) rfl ?_
  refine ⟨n, A2, N2, cap2, L, rfl, hN, h1, h2, ?_, ?_⟩
  · rw [hB]
    exact own_store HO.out (by omega) (by omega) _ _
  · rw [hB]
    exact below_store HB2.out _ _
/-- A mailbox, flags and a text that were drawn. -/
def DBA (w : World) (e : Ending) (w' : World) : Prop := ∃ (n : Int) (A : Option Addr) (N cap : Nat) (L : List ML) (f : Int) (t : List UInt8), e = .returned (.tuple #[.agg #[.int .i64 n, .slice A N cap], .int .i64 f, .string (sB t)]) ∧ N ≤ 14 ∧ -1 ≤ n ∧ n ≤ 200 ∧ t.length ≤ 30 ∧ ROwn mailR w' w.heap.size (.slice A N cap) L ∧ Below w.heap.size w w'
set_option maxRecDepth 20000 in
set_option maxHeartbeats 4000000 in
theorem draw_bappend (A : Option Addr) (len cap : Nat) (w : World) (h : Coded w A len cap) :
    Calls Try.prog 31 #[.slice A len cap] w (DBA w) := by
  obtain ⟨B, hB⟩ : ∃ B, w.heap.size = B := ⟨_, rfl⟩
  have hsz : (w.alloc (.cells #[.int .i64 0, .slice none 0 0] 25)).heap.size = B + 1 := by simp [hB]
  have HSZ := Lib.hid hsz
  have hc := coded_alloc h (.cells #[.int .i64 0, .slice none 0 0] 25)
  have HK := Lib.hid hc.2.2
  have hk1 := hc.1
  have hk2 := hc.2.1
  have HW0 := Lib.hid (hB ▸ Whole.made w 25 #[.int .i64 0, .slice none 0 0] : Whole (w.alloc (.cells #[.int .i64 0, .slice none 0 0] 25)) B 25 #[.int .i64 0, .slice none 0 0])
  have HB0 := Lib.hid (hB ▸ below_new w (.cells #[.int .i64 0, .slice none 0 0] 25) : Below B w (w.alloc (.cells #[.int .i64 0, .slice none 0 0] 25)))
  clear h hc hsz
  go_enter Try.func31, Try.ntmps31
  go_wp2_with fail
  refine (open_any A len cap _ hk1 hk2 HK.out).mono ?_
  rintro e w1 ⟨rfl, hr, hb, hz⟩
  rw [HSZ.out] at hr hb hz
  have HR := Lib.hid hr
  have HW1 := Lib.hid (HW0.out.below hb (by omega))
  have HB1 := Lib.hid (HB0.out.trans (hb.mono (by omega)))
  clear hr hb
  rw [HSZ.out]
  go_wp2_with fail
  refine (box_draw (B + 1) 0 w1 HR.out (by omega)).mono ?_
  rintro e w2 ⟨n, A2, N2, cap2, L, q, rfl, hN, h1, h2, hq, hr, hown, hg⟩
  obtain ⟨D, hD⟩ : ∃ D, w2.heap.size = D := ⟨_, rfl⟩
  have hDB : B + 1 < D := by rw [← hD]; exact Nat.lt_of_lt_of_le hz hg.size
  have HR2 := Lib.hid (hr.below (below_new w2 (.cells #[.int .i64 n, .slice A2 N2 cap2] 25)) hr.lt)
  have HO2 := Lib.hid ((hown.from (show B + 1 + 1 ≤ w1.heap.size by omega)).alloc (.cells #[.int .i64 n, .slice A2 N2 cap2] 25))
  have HW2 := Lib.hid ((HW1.out.grown hg (by simp)).alloc (.cells #[.int .i64 n, .slice A2 N2 cap2] 25))
  have HB2 := Lib.hid ((below_gr HB1.out hg (by omega) (by omega)).alloc (by omega) (.cells #[.int .i64 n, .slice A2 N2 cap2] 25))
  have HD2 := Lib.hid (hD ▸ Whole.made w2 25 #[.int .i64 n, .slice A2 N2 cap2] : Whole (w2.alloc (.cells #[.int .i64 n, .slice A2 N2 cap2] 25)) D 25 #[.int .i64 n, .slice A2 N2 cap2])
  clear hr hown hg HR HW1 HB1 HW0 HB0
  go_wp2_with fail
  refine (flags_draw (B + 1) q _ HR2.out (by omega)).mono ?_
  rintro e w4 ⟨f, q4, hf1, hf2, hq4, rfl, hr, hg⟩
  have HR4 := Lib.hid (show Rd w4.drew (B + 1) q4 from hr)
  have hd4 := (HD2.out.grown hg (by simp; omega)).drew
  have HW4 := Lib.hid (HW2.out.grown hg (by simp)).drew
  have ho4 := own_gr HO2.out hg (by omega)
  have HO4 := Lib.hid (show ROwn mailR w4.drew (B + 1 + 1) (.slice A2 N2 cap2) L from ho4)
  clear ho4
  have HB4 := Lib.hid (fbelow_drew (below_gr HB2.out hg (by simp; omega) (by omega)))
  have hz4 : D < w4.heap.size := hd4.lt
  have x0 := hd4.cell 0
  have x1 := hd4.cell 1
  simp at x0 x1
  have HD4 := Lib.hid hd4
  have hDB' : ¬ D = B := by omega
  clear hr hg hd4 HR2 HD2 HW2 HO2 HB2
  go_wp2
  go_region_with (go_at_call 72
                  refine (text_draw (B + 1) q4 _ HR4.out (by omega)).mono ?_
                  rintro e w5 ⟨t, q5, ht, hq5, rfl, hr, hg⟩
                  obtain ⟨v5, hv5⟩ : ∃ v, sB t = v := ⟨_, rfl⟩
                  rw [hv5]
                  have HV5 := Lib.hid hv5
                  have hd5 := HD4.out.grown hg (by simp; omega)
                  have hw5 := HW4.out.grown hg (by simp)
                  have HO5 := Lib.hid (own_gr HO4.out hg (by omega))
                  have HB5 := Lib.hid (below_gr HB4.out hg (by show B ≤ w4.heap.size; omega) (by omega))
                  have x05 := hd5.cell 0
                  have x15 := hd5.cell 1
                  have r0 := hw5.cell 0
                  have r1 := hw5.cell 1
                  simp at x05 x15 r0 r1
                  have g0 := hw5.free 0
                  have g1 := hw5.free 1
                  clear hr hg hd5 hw5 hv5)
  all_goals
    go_wp2
    refine bodyPost_ret (v := .tuple #[.agg #[.int .i64 n, .slice A2 N2 cap2], .int .i64 f, .string v5]) (by simp [results, Try.results31, go_sem, r0, r1]) rfl ?_
    refine ⟨n, A2, N2, cap2, L, f, t, by rw [HV5.out], hN, h1, h2, ht, ?_, ?_⟩
    · rw [hB]
      exact own_store HO5.out (by omega) (by omega) _ _
    · rw [hB]
      exact below_store HB5.out _ _
/-- A mailbox, places, a change and flags that were drawn. -/
def DBF (w : World) (e : Ending) (w' : World) : Prop := ∃ (n : Int) (A : Option Addr) (N cap : Nat) (L : List ML) (A2 : Option Addr) (N2 cap2 : Nat) (P : List Int) (h f : Int), e = .returned (.tuple #[.agg #[.int .i64 n, .slice A N cap], .slice A2 N2 cap2, .int .i64 h, .int .i64 f]) ∧ N ≤ 14 ∧ N2 ≤ 15 ∧ -1 ≤ n ∧ n ≤ 200 ∧ ROwn mailR w' w.heap.size (.slice A N cap) L ∧ ROwn intR w' w.heap.size (.slice A2 N2 cap2) P ∧ Below w.heap.size w w'
theorem pick_3 (b p : Nat) (w : World) (h : Rd w b p) (hp : p ≤ 1000000) : Calls Try.prog 84 #[.pointer (some ⟨b, 0, none⟩), .int .i64 3] w (Picked w b p 3) := pick_any b p 3 w h hp (by omega) (by omega)
theorem pick_24 (b p : Nat) (w : World) (h : Rd w b p) (hp : p ≤ 1000000) : Calls Try.prog 84 #[.pointer (some ⟨b, 0, none⟩), .int .i64 24] w (Picked w b p 24) := pick_any b p 24 w h hp (by omega) (by omega)
/-- What drawing holds: the reader, the result's block, the mailbox's block, the mailbox and the places. -/
structure Dk (w wr : World) (b B D q : Nat) (n : Int) (v : Value) (L : List ML) (u : Value) (P : List Int) : Prop where
  rd : Rd wr b q
  res : Whole wr B 25 #[.int .i64 0, .slice none 0 0]
  box : Whole wr D 25 #[.int .i64 n, v]
  own : ROwn mailR wr (b + 1) v L
  plc : ROwn intR wr (b + 1) u P
  bel : Below B w wr
  sz : D < wr.heap.size
theorem Dk.read {w wr w' : World} {b B D q q' : Nat} {n : Int} {v u : Value} {L : List ML} {P : List Int} (h : Dk w wr b B D q n v L u P) (hr : Rd w' b q') (hg : wr.grownBy w' (some b)) (hB : B < b) (hD : b < D) : Dk w w' b B D q' n v L u P :=
  ⟨hr, h.res.grown hg (by simp; omega), h.box.grown hg (by simp; omega), own_gr h.own hg (by omega), own_gr h.plc hg (by omega), below_gr h.bel hg (by have := h.sz; omega) (by omega), Nat.lt_of_lt_of_le h.sz hg.size⟩
set_option maxRecDepth 20000 in
set_option maxHeartbeats 8000000 in
theorem draw_bflags (A : Option Addr) (len cap : Nat) (w : World) (h : Coded w A len cap) :
    Calls Try.prog 40 #[.slice A len cap] w (DBF w) := by
  obtain ⟨B, hB⟩ : ∃ B, w.heap.size = B := ⟨_, rfl⟩
  have hsz : (w.alloc (.cells #[.int .i64 0, .slice none 0 0] 25)).heap.size = B + 1 := by simp [hB]
  have HSZ := Lib.hid hsz
  have hc := coded_alloc h (.cells #[.int .i64 0, .slice none 0 0] 25)
  have HK := Lib.hid hc.2.2
  have hk1 := hc.1
  have hk2 := hc.2.1
  have HW0 := Lib.hid (hB ▸ Whole.made w 25 #[.int .i64 0, .slice none 0 0] : Whole (w.alloc (.cells #[.int .i64 0, .slice none 0 0] 25)) B 25 #[.int .i64 0, .slice none 0 0])
  have HB0 := Lib.hid (hB ▸ below_new w (.cells #[.int .i64 0, .slice none 0 0] 25) : Below B w (w.alloc (.cells #[.int .i64 0, .slice none 0 0] 25)))
  clear h hc hsz
  go_enter Try.func40, Try.ntmps40
  go_wp2_with fail
  refine (open_any A len cap _ hk1 hk2 HK.out).mono ?_
  rintro e w1 ⟨rfl, hr, hb, hz⟩
  rw [HSZ.out] at hr hb hz
  have HR := Lib.hid hr
  have HW1 := Lib.hid (HW0.out.below hb (by omega))
  have HB1 := Lib.hid (HB0.out.trans (hb.mono (by omega)))
  clear hr hb
  rw [HSZ.out]
  go_wp2_with fail
  refine (box_draw (B + 1) 0 w1 HR.out (by omega)).mono ?_
  rintro e w2 ⟨n, A2, N2, cap2, L, q, rfl, hN, h1, h2, hq, hr, hown, hg⟩
  obtain ⟨D, hD⟩ : ∃ D, w2.heap.size = D := ⟨_, rfl⟩
  have hDB : B + 1 < D := by rw [← hD]; exact Nat.lt_of_lt_of_le hz hg.size
  have HR2 := Lib.hid (hr.below (below_new w2 (.cells #[.int .i64 n, .slice A2 N2 cap2] 25)) hr.lt)
  have HO2 := Lib.hid ((hown.from (show B + 1 + 1 ≤ w1.heap.size by omega)).alloc (.cells #[.int .i64 n, .slice A2 N2 cap2] 25))
  have HW2 := Lib.hid ((HW1.out.grown hg (by simp)).alloc (.cells #[.int .i64 n, .slice A2 N2 cap2] 25))
  have HB2 := Lib.hid ((below_gr HB1.out hg (by omega) (by omega)).alloc (by omega) (.cells #[.int .i64 n, .slice A2 N2 cap2] 25))
  have HD2 := Lib.hid (hD ▸ Whole.made w2 25 #[.int .i64 n, .slice A2 N2 cap2] : Whole (w2.alloc (.cells #[.int .i64 n, .slice A2 N2 cap2] 25)) D 25 #[.int .i64 n, .slice A2 N2 cap2])
  clear hr hown hg HR HW1 HB1 HW0 HB0
  have x0 := HD2.out.cell 0
  have x1 := HD2.out.cell 1
  simp at x0 x1
  go_wp2_with fail
  refine (places_draw (B + 1) q n A2 N2 cap2 _ HR2.out (by omega) hN).mono ?_
  rintro e w4 ⟨A4, N4, cap4, P, q4, rfl, hN4, hq4, hr, hown, hg⟩
  have hdk : Dk w w4 (B + 1) B D q4 n (.slice A2 N2 cap2) L (.slice A4 N4 cap4) P := ⟨hr, HW2.out.grown hg (by simp), HD2.out.grown hg (by simp; omega), own_gr HO2.out hg (by omega), hown.from (by simp; omega), below_gr HB2.out hg (by simp; omega) (by omega), (HD2.out.grown hg (by simp; omega)).lt⟩
  have hdd : Dk w w4.drew (B + 1) B D q4 n (.slice A2 N2 cap2) L (.slice A4 N4 cap4) P := ⟨hdk.rd, hdk.res.drew, hdk.box.drew, hdk.own, hdk.plc, fbelow_drew hdk.bel, hdk.sz⟩
  have HDK := Lib.hid hdd
  have y0 := hdk.box.cell 0
  have y1 := hdk.box.cell 1
  simp at y0 y1
  have hDB' : ¬ D = B := by omega
  clear hr hg hown hdk hdd HR2 HD2 HW2 HO2 HB2 x0 x1
  go_wp2
  go_region_with (first
    | (go_at_call 71
       refine (flags_draw (B + 1) (q4 + 1 + 1) _ HD6.out.rd (by omega)).mono ?_
       rintro e w7 ⟨f, q7, hf1, hf2, hq7, rfl, hr, hg⟩
       have hd7 := Dk.read HD6.out hr hg (by omega) (by omega)
       have y07 := hd7.box.cell 0
       have y17 := hd7.box.cell 1
       have r0 := hd7.res.cell 0
       have r1 := hd7.res.cell 1
       simp at y07 y17 r0 r1
       have g0 := hd7.res.free 0
       have g1 := hd7.res.free 1
       have HD7 := Lib.hid hd7
       clear hr hg hd7)
    | (go_at_call 84
       (with_reducible refine (pick_3 (B + 1) q4 _ HDK.out.rd (by omega)).mono ?_)
       rintro e w5 ⟨x, hx, rfl, hr, hg⟩
       obtain ⟨X, hX⟩ : ∃ X : Int, (x : Int) - 1 = X := ⟨_, rfl⟩
       have hX1 : -1 ≤ X := by omega
       have hX2 : X ≤ 1 := by omega
       have W1 : IntKind.i64.wrap ((x : Int) - 1) = X := (IntWalk.i64_in _ (by omega)).trans hX
       have hd5 := Dk.read HDK.out hr hg (by omega) (by omega)
       have y05 := hd5.box.cell 0
       have y15 := hd5.box.cell 1
       simp at y05 y15
       have HD5 := Lib.hid hd5
       clear hr hg hd5 hX)
    | (go_at_call 84
       (with_reducible refine (pick_24 (B + 1) (q4 + 1) _ HD5.out.rd (by omega)).mono ?_)
       rintro e w6 ⟨y, hy, rfl, hr, hg⟩
       obtain ⟨d, hd⟩ : ∃ d : Nat, y / 23 = d := ⟨_, rfl⟩
       have hd1 : d ≤ 1 := by omega
       have E1 : (y : Int).tdiv 23 = (d : Int) := by rw [← hd]; exact IntWalk.up_tdiv rfl rfl
       have E2 : (y : Int) / 23 = (d : Int) := by omega
       have W2 : IntKind.i64.wrap (d : Int) = (d : Int) := IntWalk.i64_in _ (by omega)
       obtain ⟨T, hT⟩ : ∃ T : Int, (d : Int) * 2 = T := ⟨_, rfl⟩
       have W3 : IntKind.i64.wrap ((d : Int) * 2) = T := (IntWalk.i64_in _ (by omega)).trans hT
       have W5 : IntKind.i64.wrap T = T := IntWalk.i64_in _ (by omega)
       obtain ⟨H, hH⟩ : ∃ H : Int, X + T = H := ⟨_, rfl⟩
       have W4 : IntKind.i64.wrap (X + T) = H := (IntWalk.i64_in _ (by omega)).trans hH
       have W6 : IntKind.i64.wrap H = H := IntWalk.i64_in _ (by omega)
       have hd6 := Dk.read HD5.out hr hg (by omega) (by omega)
       have y06 := hd6.box.cell 0
       have y16 := hd6.box.cell 1
       simp at y06 y16
       have HD6 := Lib.hid hd6
       clear hr hg hd6 hd))
  all_goals
    go_wp2
    refine bodyPost_ret (v := .tuple #[.agg #[.int .i64 n, .slice A2 N2 cap2], .slice A4 N4 cap4, .int .i64 H, .int .i64 f]) (by simp [results, Try.results40, go_sem, r0, r1]) rfl ?_
    clear E1 E2 W1 W2 W3 W4 W5 W6 hT hH
    refine ⟨n, A2, N2, cap2, L, A4, N4, cap4, P, H, f, rfl, hN, hN4, h1, h2, ?_, ?_, ?_⟩
    · rw [hB]
      exact own_store HD7.out.own (by omega) (by omega) _ _
    · rw [hB]
      exact own_store HD7.out.plc (by omega) (by omega) _ _
    · rw [hB]
      exact below_store HD7.out.bel _ _
end Go.Proofs.Ytiidlkbfjhgbaaa

namespace Go.Proofs.Ytiidlkbfjhgbaaa
open Go.RowKit
set_option linter.unusedVariables false

/-- Two mailboxes and places that were drawn. -/
def DBC (w : World) (e : Ending) (w' : World) : Prop := ∃ (n : Int) (A : Option Addr) (N cap : Nat) (L : List ML) (A2 : Option Addr) (N2 cap2 : Nat) (P : List Int) (m : Int) (A3 : Option Addr) (N3 cap3 : Nat) (M : List ML), e = .returned (.tuple #[.agg #[.int .i64 n, .slice A N cap], .slice A2 N2 cap2, .agg #[.int .i64 m, .slice A3 N3 cap3]]) ∧ N ≤ 14 ∧ N2 ≤ 15 ∧ N3 ≤ 14 ∧ -1 ≤ n ∧ n ≤ 200 ∧ -1 ≤ m ∧ m ≤ 200 ∧
  ROwn mailR w' w.heap.size (.slice A N cap) L ∧ ROwn intR w' w.heap.size (.slice A2 N2 cap2) P ∧ ROwn mailR w' w.heap.size (.slice A3 N3 cap3) M ∧ Below w.heap.size w w'
theorem own_store4 {α : Type} {R : RowT α} {w : World} {B B' r : Nat} {v : Value} {L : List α} (h : ROwn R w B' v L) (hB : r + 1 < B') (hb : B ≤ B') (u u2 u3 u4 : Value) : ROwn R ((((w.setCell ⟨r, 0, none⟩ u).setCell ⟨r, 1, none⟩ u2).setCell ⟨r + 1, 0, none⟩ u3).setCell ⟨r + 1, 1, none⟩ u4) B v L :=
  own_store (B := B) (own_store (B := B') h (by omega) (Nat.le_refl _) u u2) (by omega) hb u3 u4
set_option maxRecDepth 20000 in
set_option maxHeartbeats 8000000 in
theorem draw_bcopy (A : Option Addr) (len cap : Nat) (w : World) (h : Coded w A len cap) :
    Calls Try.prog 51 #[.slice A len cap] w (DBC w) := by
  obtain ⟨B, hB⟩ : ∃ B, w.heap.size = B := ⟨_, rfl⟩
  have hsz : ((w.alloc (.cells #[.int .i64 0, .slice none 0 0] 25)).alloc (.cells #[.int .i64 0, .slice none 0 0] 25)).heap.size = B + 1 + 1 := by simp [hB]
  have HSZ := Lib.hid hsz
  have hc := coded_alloc (coded_alloc h (.cells #[.int .i64 0, .slice none 0 0] 25)) (.cells #[.int .i64 0, .slice none 0 0] 25)
  have HK := Lib.hid hc.2.2
  have hk1 := hc.1
  have hk2 := hc.2.1
  have K0 := Lib.hid (kp_two w 25 25 #[.int .i64 0, .slice none 0 0] #[.int .i64 0, .slice none 0 0] hB)
  clear h hc hsz
  go_enter Try.func51, Try.ntmps51
  go_wp2_with fail
  refine (open_any A len cap _ hk1 hk2 HK.out).mono ?_
  rintro e w1 ⟨rfl, hr, hb, hz⟩
  rw [HSZ.out] at hr hz
  have HR := Lib.hid hr
  have K1 := Lib.hid (K0.out.move hb)
  clear hr hb
  rw [HSZ.out]
  go_wp2_with fail
  refine (box_draw (B + 1 + 1) 0 w1 HR.out (by omega)).mono ?_
  rintro e w2 ⟨n, A2, N2, cap2, L, q, rfl, hN, h1, h2, hq, hr, hown, hg⟩
  obtain ⟨D, hD⟩ : ∃ D, w2.heap.size = D := ⟨_, rfl⟩
  have hDB : B + 1 + 1 < D := by rw [← hD]; exact Nat.lt_of_lt_of_le hz hg.size
  have HR2 := Lib.hid (hr.below (below_new w2 (.cells #[.int .i64 n, .slice A2 N2 cap2] 25)) hr.lt)
  have HO2 := Lib.hid ((hown.from (show B + 1 + 1 + 1 ≤ w1.heap.size by omega)).alloc (.cells #[.int .i64 n, .slice A2 N2 cap2] 25))
  have HW2 := Lib.hid ((K1.out.here.2.1.grown hg (by simp <;> omega)).alloc (.cells #[.int .i64 n, .slice A2 N2 cap2] 25))
  have HV2 := Lib.hid ((K1.out.here.2.2.1.grown hg (by simp)).alloc (.cells #[.int .i64 n, .slice A2 N2 cap2] 25))
  have HB2 := Lib.hid ((below_gr K1.out.here.1 hg (by omega) (by omega)).alloc (by omega) (.cells #[.int .i64 n, .slice A2 N2 cap2] 25))
  have HD2 := Lib.hid (hD ▸ Whole.made w2 25 #[.int .i64 n, .slice A2 N2 cap2] : Whole (w2.alloc (.cells #[.int .i64 n, .slice A2 N2 cap2] 25)) D 25 #[.int .i64 n, .slice A2 N2 cap2])
  clear hr hown hg HR K0 K1
  have x0 := HD2.out.cell 0
  have x1 := HD2.out.cell 1
  simp at x0 x1
  go_wp2_with fail
  refine (places_draw (B + 1 + 1) q n A2 N2 cap2 _ HR2.out (by omega) hN).mono ?_
  rintro e w4 ⟨A4, N4, cap4, P, q4, rfl, hN4, hq4, hr, hown, hg⟩
  have hd4 := HD2.out.grown hg (by simp; omega)
  have hw4 := HW2.out.grown hg (by simp <;> omega)
  have hv4 := HV2.out.grown hg (by simp <;> omega)
  have ho4 := own_gr HO2.out hg (by omega)
  have hp4 := hown.from (show B + 1 + 1 + 1 ≤ _ by simp; omega)
  have hb4 := below_gr HB2.out hg (by simp; omega) (by omega)
  have y0 := hd4.cell 0
  have y1 := hd4.cell 1
  simp at y0 y1
  have HR4 := Lib.hid (show Rd w4.drew (B + 1 + 1) q4 from hr)
  have HD4 := Lib.hid hd4.drew
  have HW4 := Lib.hid hw4.drew
  have HV4 := Lib.hid hv4.drew
  have HO4 := Lib.hid (show ROwn mailR w4.drew (B + 1 + 1 + 1) (.slice A2 N2 cap2) L from ho4)
  have HP4 := Lib.hid (show ROwn intR w4.drew (B + 1 + 1 + 1) (.slice A4 N4 cap4) P from hp4)
  have HB4 := Lib.hid (fbelow_drew hb4)
  have hz4 : D < w4.heap.size := hd4.lt
  have hDB' : ¬ D = B := by omega
  have hDB'' : ¬ D = B + 1 := by omega
  clear hr hg hown hd4 hw4 hv4 ho4 hp4 hb4 HR2 HD2 HW2 HV2 HO2 HB2 x0 x1
  go_wp2
  go_region_with (go_at_call 70
                  refine (box_draw (B + 1 + 1) q4 _ HR4.out (by omega)).mono ?_
                  rintro e w5 ⟨m, A5, N5, cap5, M, q5, rfl, hN5, h15, h25, hq5, hr, hown, hg⟩
                  have hd5 := HD4.out.grown hg (by simp; omega)
                  have hw5 := HW4.out.grown hg (by simp <;> omega)
                  have hv5 := HV4.out.grown hg (by simp <;> omega)
                  have HO5 := Lib.hid (own_gr HO4.out hg (by omega))
                  have HP5 := Lib.hid (own_gr HP4.out hg (by omega))
                  have HM5 := Lib.hid (hown.from (show B + 1 + 1 + 1 ≤ w4.heap.size by omega))
                  have HB5 := Lib.hid (below_gr HB4.out hg (by show B ≤ w4.heap.size; omega) (by omega))
                  have x05 := hd5.cell 0
                  have x15 := hd5.cell 1
                  have r0 := hw5.cell 0
                  have r1 := hw5.cell 1
                  have s0 := hv5.cell 0
                  have s1 := hv5.cell 1
                  simp at x05 x15 r0 r1 s0 s1
                  have g0 := hw5.free 0
                  have g1 := hw5.free 1
                  have f0 := hv5.free 0
                  have f1 := hv5.free 1
                  clear hr hown hg hd5 hw5 hv5)
  all_goals
    go_wp2
    refine bodyPost_ret (v := .tuple #[.agg #[.int .i64 n, .slice A2 N2 cap2], .slice A4 N4 cap4, .agg #[.int .i64 m, .slice A5 N5 cap5]]) (by simp [results, Try.results51, go_sem, r0, r1, s0, s1]) rfl ?_
    refine ⟨n, A2, N2, cap2, L, A4, N4, cap4, P, m, A5, N5, cap5, M, rfl, hN, hN4, hN5, h1, h2, h15, h25, ?_, ?_, ?_, ?_⟩
    · rw [hB]
      exact own_store4 HO5.out (by omega) (by omega) _ _ _ _
    · rw [hB]
      exact own_store4 HP5.out (by omega) (by omega) _ _ _ _
    · rw [hB]
      exact own_store4 HM5.out (by omega) (by omega) _ _ _ _
    · rw [hB]
      exact ((below_store HB5.out _ _).setCell (p := ⟨B + 1, 0, none⟩) (Nat.le_succ _) _).setCell (p := ⟨B + 1, 1, none⟩) (Nat.le_succ _) _
end Go.Proofs.Ytiidlkbfjhgbaaa

namespace Go.Proofs.Ytiidlkbfjhgbaaa
open Go.RowKit
set_option linter.unusedVariables false

/-- A mailbox and numbers that were drawn. -/
def DBU (w : World) (e : Ending) (w' : World) : Prop := ∃ (n : Int) (A : Option Addr) (N cap : Nat) (L : List ML) (A2 : Option Addr) (N2 cap2 : Nat) (P : List Int), e = .returned (.tuple #[.agg #[.int .i64 n, .slice A N cap], .slice A2 N2 cap2]) ∧ N ≤ 14 ∧ N2 ≤ 15 ∧ -1 ≤ n ∧ n ≤ 200 ∧ ROwn mailR w' w.heap.size (.slice A N cap) L ∧ ROwn intR w' w.heap.size (.slice A2 N2 cap2) P ∧ Below w.heap.size w w'
/-- A number is put behind the others. -/
theorem Dk.push {w wr w' : World} {b B D q : Nat} {n x : Int} {v : Value} {L : List ML} {P : List Int} {A A' : Option Addr} {N cap N' cap' : Nat} (h : Dk w wr b B D q n v L (.slice A N cap) P) (hown : ROwn intR w' (b + 1) (.slice A' N' cap') (P ++ [x])) (hg : (wr.alloc (.cells #[.int .i64 x] 3)).grownBy w' (Value.slice A N cap).ownBlock) (hB : B < b) (hD : b < D) : N' = N + 1 ∧ Dk w w' b B D q n v L (.slice A' N' cap') (P ++ [x]) := by
  have hp := h.plc.alloc (.cells #[.int .i64 x] 3)
  have hrow : ∀ g, (Value.slice A N cap).ownBlock = some g → b + 1 ≤ g := fun g e => (World.ownsRow.lt hp g e).1
  have hz := hg.size
  simp at hz
  refine ⟨?_, rd_grown (h.rd.below (below_new wr (.cells #[.int .i64 x] 3)) h.rd.lt) hg hrow (Nat.lt_succ_self b), (h.res.alloc _).grown hg (fun e => by have := hrow _ e.symm; omega), (h.box.alloc _).grown hg (fun e => h.plc.whole h.box (by decide) e.symm), (h.own.alloc _).apart hg (own_apart h.own h.plc (by decide)), hown, (h.bel.alloc (by have := h.sz; omega) _).grown hg (by simp; have := h.sz; omega) (fun z hz => by have := hrow z hz; omega), by have := h.sz; omega⟩
  have h1 := hown.len.1
  have h2 := h.plc.len.1
  rw [List.length_append, List.length_singleton] at h1
  omega
set_option maxRecDepth 20000 in
set_option maxHeartbeats 8000000 in
theorem draw_buids (A : Option Addr) (len cap : Nat) (w : World) (h : Coded w A len cap) :
    Calls Try.prog 54 #[.slice A len cap] w (DBU w) := by
  obtain ⟨j0, hj, hp0, hp1, hp2⟩ := info_parts Try.infoNum
  obtain ⟨B, hB⟩ : ∃ B, w.heap.size = B := ⟨_, rfl⟩
  have hsz : (w.alloc (.cells #[.int .i64 0, .slice none 0 0] 25)).heap.size = B + 1 := by simp [hB]
  have HSZ := Lib.hid hsz
  have hc := coded_alloc h (.cells #[.int .i64 0, .slice none 0 0] 25)
  have HK := Lib.hid hc.2.2
  have hk1 := hc.1
  have hk2 := hc.2.1
  have HW0 := Lib.hid (hB ▸ Whole.made w 25 #[.int .i64 0, .slice none 0 0] : Whole (w.alloc (.cells #[.int .i64 0, .slice none 0 0] 25)) B 25 #[.int .i64 0, .slice none 0 0])
  have HB0 := Lib.hid (hB ▸ below_new w (.cells #[.int .i64 0, .slice none 0 0] 25) : Below B w (w.alloc (.cells #[.int .i64 0, .slice none 0 0] 25)))
  clear h hc hsz
  go_enter Try.func54, Try.ntmps54
  go_wp2_with fail
  refine (open_any A len cap _ hk1 hk2 HK.out).mono ?_
  rintro e w1 ⟨rfl, hr, hb, hz⟩
  rw [HSZ.out] at hr hb hz
  have HR := Lib.hid hr
  have HW1 := Lib.hid (HW0.out.below hb (by omega))
  have HB1 := Lib.hid (HB0.out.trans (hb.mono (by omega)))
  clear hr hb
  rw [HSZ.out]
  go_wp2_with fail
  refine (box_draw (B + 1) 0 w1 HR.out (by omega)).mono ?_
  rintro e w2 ⟨n, A2, N2, cap2, L, q, rfl, hN, h1, h2, hq, hr, hown, hg⟩
  obtain ⟨D, hD⟩ : ∃ D, w2.heap.size = D := ⟨_, rfl⟩
  have hDB : B + 1 < D := by rw [← hD]; exact Nat.lt_of_lt_of_le hz hg.size
  have HR2 := Lib.hid (hr.below (below_new w2 (.cells #[.int .i64 n, .slice A2 N2 cap2] 25)) hr.lt)
  have HO2 := Lib.hid ((hown.from (show B + 1 + 1 ≤ w1.heap.size by omega)).alloc (.cells #[.int .i64 n, .slice A2 N2 cap2] 25))
  have HW2 := Lib.hid ((HW1.out.grown hg (by simp)).alloc (.cells #[.int .i64 n, .slice A2 N2 cap2] 25))
  have HB2 := Lib.hid ((below_gr HB1.out hg (by omega) (by omega)).alloc (by omega) (.cells #[.int .i64 n, .slice A2 N2 cap2] 25))
  have HD2 := Lib.hid (hD ▸ Whole.made w2 25 #[.int .i64 n, .slice A2 N2 cap2] : Whole (w2.alloc (.cells #[.int .i64 n, .slice A2 N2 cap2] 25)) D 25 #[.int .i64 n, .slice A2 N2 cap2])
  clear hr hown hg HR HW1 HB1 HW0 HB0
  have hE : ROwn intR ((w2.alloc (.cells #[.int .i64 n, .slice A2 N2 cap2] 25)).alloc (.cells #[] 3)) (B + 1 + 1) (.slice (some ⟨D + 1, 0, none⟩) 0 0) [] := ROwn.lit (R := intR) (B := B + 1 + 1) (w2.alloc (.cells #[.int .i64 n, .slice A2 N2 cap2] 25)) (D + 1) (by simp; omega) (by simp; omega)
  have hdk : Dk w ((w2.alloc (.cells #[.int .i64 n, .slice A2 N2 cap2] 25)).alloc (.cells #[] 3)) (B + 1) B D q n (.slice A2 N2 cap2) L (.slice (some ⟨D + 1, 0, none⟩) 0 0) [] :=
    ⟨HR2.out.below (below_new _ (.cells #[] 3)) HR2.out.lt, HW2.out.alloc _, HD2.out.alloc _, HO2.out.alloc _, hE, HB2.out.alloc (by simp; omega) _, by simp; omega⟩
  have HDK := Lib.hid hdk
  clear hE hdk HR2 HD2 HW2 HO2 HB2
  have hform : (∃ g2, A2 = some ⟨g2, 0, none⟩) ∨ (A2 = none ∧ N2 = 0) := by
    obtain ⟨A', c', he, h1', h2', -, -, hne⟩ := HDK.out.own.form
    cases he
    cases L with
    | nil =>
      cases A2 with
      | none => exact .inr ⟨rfl, rfl⟩
      | some z =>
        obtain ⟨b', o', s'⟩ := z
        have hsp := HDK.out.own.spot _ rfl
        simp only at hsp
        subst hsp
        rcases HDK.out.own.2 with ⟨he, -⟩ | ⟨g, c, cur, he, -⟩
        · cases he
        · cases he
          exact .inl ⟨_, rfl⟩
    | cons x L => exact .inl (hne (by simp))
  rcases hform with ⟨g2, rfl⟩ | ⟨rfl, rfl⟩
  · go_wp2_with fail
    refine (pick_any (B + 1) q 5 _ HDK.out.rd (by omega) (by omega) (by omega)).mono ?_
    rintro e w4 ⟨k, hk, rfl, hr, hg⟩
    have HD4 := Lib.hid (Dk.read HDK.out hr hg (by omega) (by omega))
    clear hr hg HDK
    go_wp2
    go_loopg [6, 8] k (fun gk v i wr => ∃ (j q' : Nat) (A6 : Option Addr) (cap6 : Nat) (P : List Int), j + gk = k ∧ v = .slice A6 j cap6 ∧ i = .int .i64 (j : Int) ∧ q' ≤ q + 1 + 3 * j ∧ Hid (Dk w wr (B + 1) B D q' n (.slice (some ⟨g2, 0, none⟩) N2 cap2) L (.slice A6 j cap6) P))
    case atStart => exact ⟨0, q + 1, _, _, [], by omega, rfl, by go_num, by omega, HD4⟩
    case round =>
      clear HD4
      obtain ⟨j, q', A6, cap6, P, hjk, rfl, rfl, hq', HK⟩ := hrel
      have x0 := HK.out.box.cell 0
      have x1 := HK.out.box.cell 1
      simp at x0 x1
      by_cases hlt : j < k
      · have h5 : (j : Int) < (k : Int) := by omega
        by_cases hN0 : N2 = 0
        · subst hN0
          go_wp2_with fail
          refine (pick_any (B + 1) q' 20 _ HK.out.rd (by omega) (by omega) (by omega)).mono ?_
          rintro e w6 ⟨y, hy, rfl, hr, hg⟩
          have HK6 := Lib.hid (Dk.read HK.out hr hg (by omega) (by omega))
          obtain ⟨u, hu⟩ : ∃ u : Int, (y : Int) - 1 = u := ⟨_, rfl⟩
          have W1 : IntKind.i64.wrap ((y : Int) - 1) = u := (IntWalk.i64_in _ (by omega)).trans hu
          have hml : j + 1 ≤ maxLen := by unfold maxLen; omega
          have hby : (j + 1) * 8 ≤ 140737488355328 := by omega
          have hsz6 := HK6.out.sz
          have hown6 := HK6.out.plc.alloc (.cells #[.int .i64 u] 3)
          have hnew6 := RAt.made intR w6 [u] w6.heap.size rfl
          have HJ6 := Lib.hid HK6.out.plc.len.1.symm
          clear hr hg
          go_wp2_with (at_builtin; refine wpList_append_rows rfl (.tmp 43) (.tmp 47) 39 rfl intR (B + 1 + 1) j0 _ 8 Try.underlying39 hj hp0 hp1 hp2 rfl (by decide) _ P [u] j HJ6.out rfl hown6 (some ⟨w6.heap.size, 0, none⟩) 1 1 rfl rfl hnew6 (fun e => by cases e) (fun q e => by cases e; rfl) hml hby (by simp; omega) ?_)
          intro v' w7 hown hgrow hnn
          obtain ⟨A7, N7, cap7, rfl⟩ := hown.val
          obtain ⟨hn7, hk7⟩ := Dk.push HK6.out hown hgrow (by omega) (by omega)
          have HK7 := Lib.hid hk7
          clear hown hgrow hnn hk7 hu W1 hown6 hnew6
          subst hn7
          go_wp2
          go_roundg (gk - 1)
          case measure => omega
          case rel => exact ⟨j + 1, q' + 1, A7, cap7, P ++ [u], by omega, rfl, by go_num, by omega, HK7⟩
        · have hN0' : (0 : Int) < (N2 : Int) := by omega
          have hN1 : 0 < N2 := by omega
          go_wp2_with fail
          refine (pick_3 (B + 1) q' _ HK.out.rd (by omega)).mono ?_
          rintro e w5 ⟨x, hx, rfl, hr, hg⟩
          have HK5 := Lib.hid (Dk.read HK.out hr hg (by omega) (by omega))
          clear hr hg x0 x1
          have x0 := HK5.out.box.cell 0
          have x1 := HK5.out.box.cell 1
          simp at x0 x1
          by_cases hx0 : 0 < x
          · have hx0' : (0 : Int) < (x : Int) := by omega
            have hkd : Dk w w5.drew (B + 1) B D (q' + 1) n (.slice (some ⟨g2, 0, none⟩) N2 cap2) L (.slice A6 j cap6) P := ⟨HK5.out.rd, HK5.out.res.drew, HK5.out.box.drew, HK5.out.own, HK5.out.plc, fbelow_drew HK5.out.bel, HK5.out.sz⟩
            have HKD := Lib.hid hkd
            have HNL := Lib.hid HK5.out.own.len.1
            have hml : j + 1 ≤ maxLen := by unfold maxLen; omega
            have hby : (j + 1) * 8 ≤ 140737488355328 := by omega
            clear hkd
            go_wp2
            go_region_law (first
              | (refine step_append_rows rfl (.tmp 30) (.tmp 41) 39 rfl intR (B + 1 + 1) j0 _ 8 Try.underlying39 hj hp0 hp1 hp2 rfl (by decide) _ P [u] j HK6.out.plc.len.1.symm rfl (HK6.out.plc.alloc (.cells #[.int .i64 u] 3)) (some ⟨w6.heap.size, 0, none⟩) 1 1 rfl rfl (RAt.made intR w6 [u] _ rfl) (fun e => by cases e) (fun q e => by cases e; rfl) hml hby (by simp; omega) ?_
                 intro v' w7 hown hgrow hnn
                 obtain ⟨A7, N7, cap7, rfl⟩ := hown.val
                 obtain ⟨hn7, hk7⟩ := Dk.push HK6.out hown hgrow (by omega) (by omega)
                 have HK7 := Lib.hid hk7
                 clear hown hgrow hnn hk7)
              | (go_simp
                 go_at_call 84
                 refine (pick_any (B + 1) (q' + 1) N2 _ HKD.out.rd (by omega) (by omega) (by omega)).mono ?_
                 rintro e w6 ⟨y, hy, rfl, hr, hg⟩
                 obtain ⟨⟨u, f, t⟩, hx⟩ : ∃ x, L[y]? = some x := ⟨_, List.getElem?_eq_getElem (by rw [← HNL.out]; exact hy)⟩
                 have hk6 := Dk.read HKD.out hr hg (by omega) (by omega)
                 obtain ⟨bb, oo, hAe, hbb, d0, -, -⟩ := mail_at hk6.own.at hx
                 cases hAe
                 rw [Nat.zero_add] at d0
                 have y06 := hk6.box.cell 0
                 have y16 := hk6.box.cell 1
                 simp at y06 y16
                 have i0 : (0 : Int) ≤ (y : Int) := by omega
                 have i1 : (y : Int) < (N2 : Int) := by omega
                 have hsz6 := hk6.sz
                 have HK6 := Lib.hid hk6
                 clear hr hg hk6 hx))
            all_goals
              go_wp2
              subst hn7
              go_roundg (gk - 1)
              case measure => omega
              case rel => exact ⟨j + 1, q' + 1 + 1, A7, cap7, P ++ [u], by omega, rfl, by go_num, by omega, HK7⟩
          · have hx0' : ¬ (0 : Int) < (x : Int) := by omega
            clear hx0
            go_wp2_with fail
            refine (pick_any (B + 1) (q' + 1) 20 _ HK5.out.rd (by omega) (by omega) (by omega)).mono ?_
            rintro e w6 ⟨y, hy, rfl, hr, hg⟩
            have HK6 := Lib.hid (Dk.read HK5.out hr hg (by omega) (by omega))
            obtain ⟨u, hu⟩ : ∃ u : Int, (y : Int) - 1 = u := ⟨_, rfl⟩
            have W1 : IntKind.i64.wrap ((y : Int) - 1) = u := (IntWalk.i64_in _ (by omega)).trans hu
            have hml : j + 1 ≤ maxLen := by unfold maxLen; omega
            have hby : (j + 1) * 8 ≤ 140737488355328 := by omega
            have hsz6 := HK6.out.sz
            have hown6 := HK6.out.plc.alloc (.cells #[.int .i64 u] 3)
            have hnew6 := RAt.made intR w6 [u] w6.heap.size rfl
            have HJ6 := Lib.hid HK6.out.plc.len.1.symm
            clear hr hg
            go_wp2_with (at_builtin; refine wpList_append_rows rfl (.tmp 43) (.tmp 47) 39 rfl intR (B + 1 + 1) j0 _ 8 Try.underlying39 hj hp0 hp1 hp2 rfl (by decide) _ P [u] j HJ6.out rfl hown6 (some ⟨w6.heap.size, 0, none⟩) 1 1 rfl rfl hnew6 (fun e => by cases e) (fun q e => by cases e; rfl) hml hby (by simp; omega) ?_)
            intro v' w7 hown hgrow hnn
            obtain ⟨A7, N7, cap7, rfl⟩ := hown.val
            obtain ⟨hn7, hk7⟩ := Dk.push HK6.out hown hgrow (by omega) (by omega)
            have HK7 := Lib.hid hk7
            clear hown hgrow hnn hk7 hu W1 hown6 hnew6
            subst hn7
            go_wp2
            go_roundg (gk - 1)
            case measure => omega
            case rel => exact ⟨j + 1, (q' + 1) + 1, A7, cap7, P ++ [u], by omega, rfl, by go_num, by omega, HK7⟩
      · have h5 : ¬ (j : Int) < (k : Int) := by omega
        have r0 := HK.out.res.cell 0
        have r1 := HK.out.res.cell 1
        simp at r0 r1
        have g0 := HK.out.res.free 0
        have g1 := HK.out.res.free 1
        have hDB' : ¬ D = B := by omega
        have hj15 : j ≤ 15 := by omega
        go_wp2
        refine bodyPost_ret (v := .tuple #[.agg #[.int .i64 n, .slice (some ⟨g2, 0, none⟩) N2 cap2], .slice A6 j cap6]) (by simp [results, Try.results54, go_sem, r0, r1]) rfl ?_
        refine ⟨n, (some ⟨g2, 0, none⟩), N2, cap2, L, A6, j, cap6, P, rfl, hN, hj15, h1, h2, ?_, ?_, ?_⟩
        · rw [hB]
          exact own_store HK.out.own (by omega) (by omega) _ _
        · rw [hB]
          exact own_store HK.out.plc (by omega) (by omega) _ _
        · rw [hB]
          exact below_store HK.out.bel _ _
  · go_wp2_with fail
    refine (pick_any (B + 1) q 5 _ HDK.out.rd (by omega) (by omega) (by omega)).mono ?_
    rintro e w4 ⟨k, hk, rfl, hr, hg⟩
    have HD4 := Lib.hid (Dk.read HDK.out hr hg (by omega) (by omega))
    clear hr hg HDK
    go_wp2
    go_loopg [6, 8] k (fun gk v i wr => ∃ (j q' : Nat) (A6 : Option Addr) (cap6 : Nat) (P : List Int), j + gk = k ∧ v = .slice A6 j cap6 ∧ i = .int .i64 (j : Int) ∧ q' ≤ q + 1 + 3 * j ∧ Hid (Dk w wr (B + 1) B D q' n (.slice none 0 cap2) L (.slice A6 j cap6) P))
    case atStart => exact ⟨0, q + 1, _, _, [], by omega, rfl, by go_num, by omega, HD4⟩
    case round =>
      clear HD4
      obtain ⟨j, q', A6, cap6, P, hjk, rfl, rfl, hq', HK⟩ := hrel
      have x0 := HK.out.box.cell 0
      have x1 := HK.out.box.cell 1
      simp at x0 x1
      by_cases hlt : j < k
      · have h5 : (j : Int) < (k : Int) := by omega
        go_wp2_with fail
        refine (pick_any (B + 1) q' 20 _ HK.out.rd (by omega) (by omega) (by omega)).mono ?_
        rintro e w6 ⟨y, hy, rfl, hr, hg⟩
        have HK6 := Lib.hid (Dk.read HK.out hr hg (by omega) (by omega))
        obtain ⟨u, hu⟩ : ∃ u : Int, (y : Int) - 1 = u := ⟨_, rfl⟩
        have W1 : IntKind.i64.wrap ((y : Int) - 1) = u := (IntWalk.i64_in _ (by omega)).trans hu
        have hml : j + 1 ≤ maxLen := by unfold maxLen; omega
        have hby : (j + 1) * 8 ≤ 140737488355328 := by omega
        have hsz6 := HK6.out.sz
        have hown6 := HK6.out.plc.alloc (.cells #[.int .i64 u] 3)
        have hnew6 := RAt.made intR w6 [u] w6.heap.size rfl
        have HJ6 := Lib.hid HK6.out.plc.len.1.symm
        clear hr hg
        go_wp2_with (at_builtin; refine wpList_append_rows rfl (.tmp 43) (.tmp 47) 39 rfl intR (B + 1 + 1) j0 _ 8 Try.underlying39 hj hp0 hp1 hp2 rfl (by decide) _ P [u] j HJ6.out rfl hown6 (some ⟨w6.heap.size, 0, none⟩) 1 1 rfl rfl hnew6 (fun e => by cases e) (fun q e => by cases e; rfl) hml hby (by simp; omega) ?_)
        intro v' w7 hown hgrow hnn
        obtain ⟨A7, N7, cap7, rfl⟩ := hown.val
        obtain ⟨hn7, hk7⟩ := Dk.push HK6.out hown hgrow (by omega) (by omega)
        have HK7 := Lib.hid hk7
        clear hown hgrow hnn hk7 hu W1 hown6 hnew6
        subst hn7
        go_wp2
        go_roundg (gk - 1)
        case measure => omega
        case rel => exact ⟨j + 1, q' + 1, A7, cap7, P ++ [u], by omega, rfl, by go_num, by omega, HK7⟩
      · have h5 : ¬ (j : Int) < (k : Int) := by omega
        have r0 := HK.out.res.cell 0
        have r1 := HK.out.res.cell 1
        simp at r0 r1
        have g0 := HK.out.res.free 0
        have g1 := HK.out.res.free 1
        have hDB' : ¬ D = B := by omega
        have hj15 : j ≤ 15 := by omega
        go_wp2
        refine bodyPost_ret (v := .tuple #[.agg #[.int .i64 n, .slice none 0 cap2], .slice A6 j cap6]) (by simp [results, Try.results54, go_sem, r0, r1]) rfl ?_
        refine ⟨n, none, 0, cap2, L, A6, j, cap6, P, rfl, hN, hj15, h1, h2, ?_, ?_, ?_⟩
        · rw [hB]
          exact own_store HK.out.own (by omega) (by omega) _ _
        · rw [hB]
          exact own_store HK.out.plc (by omega) (by omega) _ _
        · rw [hB]
          exact below_store HK.out.bel _ _
end Go.Proofs.Ytiidlkbfjhgbaaa

namespace Go.Proofs.Ytiidlkbfjhgbaaa
open Go.RowKit
set_option linter.unusedVariables false

section
variable {n m n2 : Int} {L M L2 : List ML} {f h : Int} {t : List UInt8} {v : ByteArray} {ok : Bool} {P : List Int}
theorem bxAp_len (hr : bxAp n L f t = (n2, L2, ok)) : L2.length ≤ L.length + 1 := by
  unfold bxAp bxAdd at hr
  split at hr
  · split at hr
    · cases hr; omega
    · cases hr; simp
  · cases hr; simp
theorem bxFl_len (hr : bxFl n L P h f = (n2, L2, ok)) : L2.length ≤ L.length := by
  unfold bxFl at hr
  split at hr
  · cases hr; rw [flM_len]; exact Nat.le_refl _
  · cases hr; simp
theorem cpA_len : ∀ {X M M' : List ML} {n n' : Int}, cpA n M X = some (n', M') → M'.length = M.length + X.length
  | X, M, M', n, n', h => by
    obtain ⟨-, e⟩ := cpA_some h
    rw [e, List.length_append, nbM_len]
theorem bxCp_len (hr : bxCp n L P m M = (n2, L2, ok)) : L2.length ≤ M.length + P.length := by
  unfold bxCp at hr
  split at hr
  · split at hr
    · rename_i r hc
      cases hr
      have := cpA_len (n' := r.1) (M' := r.2) hc
      rw [atM_len] at this
      omega
    · cases hr; omega
  · cases hr; simp
theorem impl_append_at (hv : sB t = v) (hr : bxAp n L f t = (n2, L2, ok)) (A : Option Addr) (N cap : Nat) (w : World) (hM : MIn w A N cap L) : Calls Try.prog 32 #[.agg #[.int .i64 n, .slice A N cap], .int .i64 f, .string v] w (GivesBB w n2 L2 ok) := by
  subst hv
  have := impl_append n A N cap L f t w hM
  rw [hr] at this
  exact this
theorem spec_append_at (hv : sB t = v) (hr : bxAp n L f t = (n2, L2, ok)) (A : Option Addr) (N cap : Nat) (w : World) (hM : MIn w A N cap L) : Calls Try.prog 33 #[.agg #[.int .i64 n, .slice A N cap], .int .i64 f, .string v] w (GivesBB w n2 L2 ok) := by
  subst hv
  have := spec_append n A N cap L f t w hM
  rw [hr] at this
  exact this
theorem impl_flags_at (hr : bxFl n L P h f = (n2, L2, ok)) (A : Option Addr) (N cap : Nat) (A2 : Option Addr) (N2 cap2 : Nat) (w : World) (hM : MIn w A N cap L) (hI : IIn w A2 N2 cap2 P) : Calls Try.prog 41 #[.agg #[.int .i64 n, .slice A N cap], .slice A2 N2 cap2, .int .i64 h, .int .i64 f] w (GivesBB w n2 L2 ok) := by
  have := impl_flags n A N cap L A2 N2 cap2 P h f w hM hI
  rw [hr] at this
  exact this
theorem spec_flags_at (hr : bxFl n L P h f = (n2, L2, ok)) (A : Option Addr) (N cap : Nat) (A2 : Option Addr) (N2 cap2 : Nat) (w : World) (hM : MIn w A N cap L) (hI : IIn w A2 N2 cap2 P) : Calls Try.prog 42 #[.agg #[.int .i64 n, .slice A N cap], .slice A2 N2 cap2, .int .i64 h, .int .i64 f] w (GivesBB w n2 L2 ok) := by
  have := spec_flags n A N cap L A2 N2 cap2 P h f w hM hI
  rw [hr] at this
  exact this
theorem impl_copy_at (hr : bxCp n L P m M = (n2, L2, ok)) (A : Option Addr) (N cap : Nat) (A2 : Option Addr) (N2 cap2 : Nat) (A3 : Option Addr) (N3 cap3 : Nat) (w : World) (hM : MIn w A N cap L) (hI : IIn w A2 N2 cap2 P) (hM2 : MIn w A3 N3 cap3 M) : Calls Try.prog 52 #[.agg #[.int .i64 n, .slice A N cap], .slice A2 N2 cap2, .agg #[.int .i64 m, .slice A3 N3 cap3]] w (GivesBB w n2 L2 ok) := by
  have := impl_copy n A N cap L A2 N2 cap2 P m A3 N3 cap3 M w hM hI hM2
  rw [hr] at this
  exact this
theorem spec_copy_at (hr : bxCp n L P m M = (n2, L2, ok)) (A : Option Addr) (N cap : Nat) (A2 : Option Addr) (N2 cap2 : Nat) (A3 : Option Addr) (N3 cap3 : Nat) (w : World) (hM : MIn w A N cap L) (hI : IIn w A2 N2 cap2 P) (hM2 : MIn w A3 N3 cap3 M) : Calls Try.prog 53 #[.agg #[.int .i64 n, .slice A N cap], .slice A2 N2 cap2, .agg #[.int .i64 m, .slice A3 N3 cap3]] w (GivesBB w n2 L2 ok) := by
  have := spec_bcopy n A N cap L A2 N2 cap2 P m A3 N3 cap3 M w hM hI hM2
  rw [hr] at this
  exact this
/-- BoxExpunge, as numbers. -/
def bxEI (n : Int) (L : List ML) : Int × List ML × List Int := if bOk n L then (n, kpM L, gnI L) else (0, [], [])
theorem bxEI_len {G : List Int} (hr : bxEI n L = (n2, L2, G)) : L2.length ≤ L.length ∧ G.length ≤ L.length := by
  unfold bxEI at hr
  split at hr
  · cases hr
    refine ⟨kpM_le L, ?_⟩
    have := gnM_len 0 L
    unfold gnI
    rw [List.length_map]
    omega
  · cases hr; simp
theorem impl_expunge_at {G : List Int} (hr : bxEI n L = (n2, L2, G)) (A : Option Addr) (N cap : Nat) (w : World) (hM : MIn w A N cap L) : Calls Try.prog 46 #[.agg #[.int .i64 n, .slice A N cap]] w (GivesE w n2 L2 G) := by
  unfold bxEI at hr
  cases hv : bOk n L with
  | true => rw [hv] at hr; cases hr; exact impl_expunge_yes n A N cap L w hM hv
  | false => rw [hv] at hr; cases hr; exact impl_expunge_no n A N cap L w hM hv
theorem spec_expunge_at {G : List Int} (hr : bxEI n L = (n2, L2, G)) (A : Option Addr) (N cap : Nat) (w : World) (hM : MIn w A N cap L) : Calls Try.prog 47 #[.agg #[.int .i64 n, .slice A N cap]] w (GivesE w n2 L2 G) := by
  unfold bxEI at hr
  cases hv : bOk n L with
  | true => rw [hv] at hr; cases hr; exact spec_expunge_yes n A N cap L w hM hv
  | false => rw [hv] at hr; cases hr; exact spec_expunge_no n A N cap L w hM hv
theorem implvalid_at {b : Bool} (hb : bOk n L = b) (A : Option Addr) (N cap : Nat) (w : World) (hM : MIn w A N cap L) : Calls Try.prog 35 #[.agg #[.int .i64 n, .slice A N cap]] w (SaysB w b) := by
  subst hb
  exact impl_boxvalid n A N cap L w hM
theorem implsize_at {z : Int} (hz : bxSz n L = z) (A : Option Addr) (N cap : Nat) (w : World) (hM : MIn w A N cap L) : Calls Try.prog 57 #[.agg #[.int .i64 n, .slice A N cap]] w (SaysI w z) := by
  subst hz
  exact impl_size n A N cap L w hM
theorem specsize_at {z : Int} (hz : bxSz n L = z) (A : Option Addr) (N cap : Nat) (w : World) (hM : MIn w A N cap L) : Calls Try.prog 59 #[.agg #[.int .i64 n, .slice A N cap]] w (SaysI w z) := by
  subst hz
  exact spec_boxsize n w hM
theorem same_box_at {A A2 : Option Addr} {N N2 cap cap2 : Nat} {o : Bool} (n m : Int) (w : World) (h : MIn w A N cap L) (h2 : MIn w A2 N2 cap2 M) (ho : decide (n = m ∧ L = M) = o) :
    Calls Try.prog 34 #[.agg #[.int .i64 n, .slice A N cap], .agg #[.int .i64 m, .slice A2 N2 cap2]] w (SaysB w o) := by
  subst ho
  exact same_box n m w h h2
theorem same_mail_at {A A2 : Option Addr} {N N2 cap cap2 : Nat} {o : Bool} (w : World) (h : MIn w A N cap L) (h2 : MIn w A2 N2 cap2 M) (ho : decide (L = M) = o) :
    Calls Try.prog 36 #[.slice A N cap, .slice A2 N2 cap2] w (SaysB w o) := by
  subst ho
  exact same_mail w h h2
theorem same_nums_at {A A2 : Option Addr} {N N2 cap cap2 : Nat} {P Q : List Int} {o : Bool} (w : World) (h : IIn w A N cap P) (h2 : IIn w A2 N2 cap2 Q) (ho : decide (P = Q) = o) :
    Calls Try.prog 48 #[.slice A N cap, .slice A2 N2 cap2] w (SaysB w o) := by
  subst ho
  exact same_nums w h h2
theorem has_int_at {A : Option Addr} {N cap : Nat} {P : List Int} {x : Int} {o : Bool} (w : World) (h : IIn w A N cap P) (ho : hasI P x = o) :
    Calls Try.prog 43 #[.slice A N cap, .int .i64 x] w (SaysB w o) := by
  subst ho
  exact has_int x w h
/-- The first messages of a slice. -/
theorem MIn.take {w : World} {A : Option Addr} {N cap : Nat} {L : List ML} (h : MIn w A N cap L) {k : Nat} (hk : k ≤ N) : MIn w A k cap (L.take k) := ⟨by rw [List.length_take, h.1]; omega, by have := h.2.1; omega, h.2.2.1.take k, h.2.2.2⟩
end
end Go.Proofs.Ytiidlkbfjhgbaaa
