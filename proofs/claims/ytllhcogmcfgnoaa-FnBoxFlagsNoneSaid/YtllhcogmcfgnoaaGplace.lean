/-
  The contract of the model's l91Places, which draws places. Condition: the code can be read.
-/
import Derived.Test.YtllhcogmcfgnoaaGtext
namespace Go.Proofs.Ytllhcogmcfgnoaa
open Go.RowKit
set_option linter.unusedVariables false

theorem own_gr {α : Type} {R : RowT α} {w w' : World} {B b : Nat} {v : Value} {L : List α} (h : ROwn R w B v L) (hg : w.grownBy w' (some b)) (hb : b < B) : ROwn R w' B v L := h.grown hg hb
theorem rd_grown {w w' : World} {b p B : Nat} {row : Option Nat} (h : Rd w b p) (hg : w.grownBy w' row) (hr : ∀ g, row = some g → B ≤ g) (hb : b < B) : Rd w' b p := by
  cases row with
  | none => exact h.below ((Below.refl w.heap.size w).grown hg (Nat.le_refl _) (fun z hz => by cases hz)) h.lt
  | some g => exact h.grown hg (by have := hr g rfl; omega)
theorem gr_row {a w w' : World} {b : Nat} {row : Option Nat} (h : a.grownBy w (some b)) (hg : w.grownBy w' row) (hr : ∀ g, row = some g → a.heap.size ≤ g) : a.grownBy w' (some b) :=
  ⟨hg.os.trans h.os, hg.tape.trans h.tape, hg.output.trans h.output, Nat.le_trans h.size hg.size, fun i hi hn => (hg.block i (Nat.lt_of_lt_of_le hi h.size) (fun e => by have := hr i e.symm; omega)).trans (h.block i hi hn)⟩
theorem pick_2 (b p : Nat) (w : World) (h : Rd w b p) (hp : p ≤ 1000000) : Calls Try.prog 11 #[.pointer (some ⟨b, 0, none⟩), .int .i64 2] w (Picked w b p 2) := pick_any b p 2 w h hp (by omega) (by omega)
/-- Drawn places. -/
def DrewP (w : World) (b p : Nat) (e : Ending) (w' : World) : Prop := ∃ (A : Option Addr) (N cap : Nat) (P : List Int) (q : Nat), e = .returned (.slice A N cap) ∧ N ≤ 15 ∧ q ≤ p + 20 ∧ Rd w' b q ∧ ROwn intR w' w.heap.size (.slice A N cap) P ∧ w.grownBy w' (some b)
set_option maxRecDepth 20000 in
set_option maxHeartbeats 4000000 in
theorem places_draw (b p : Nat) (n : Int) (A : Option Addr) (N cap : Nat) (w : World) (h : Rd w b p) (hp : p ≤ 900000) (hN : N ≤ 14) :
    Calls Try.prog 10 #[.pointer (some ⟨b, 0, none⟩), .agg #[.int .i64 n, .slice A N cap]] w (DrewP w b p) := by
  obtain ⟨j0, hj, hp0, hp1, hp2⟩ := info_parts Try.infoNum
  obtain ⟨B, hB⟩ : ∃ B, w.heap.size = B := ⟨_, rfl⟩
  have hbB := h.lt
  rw [hB] at hbB
  have hsz : (w.alloc (.cells #[.int .i64 n, .slice A N cap] 25)).heap.size = B + 1 := by simp [hB]
  have hb2 := (below_new w (.cells #[.int .i64 n, .slice A N cap] 25)).alloc (by simp) (.cells #[] 3)
  have H1 := Lib.hid (h.below hb2 h.lt)
  have HG1 := Lib.hid (gr_below hb2 (some b))
  have HO1 := Lib.hid (show ROwn intR ((w.alloc (.cells #[.int .i64 n, .slice A N cap] 25)).alloc (.cells #[] 3)) B (.slice (some ⟨B + 1, 0, none⟩) 0 0) [] from ROwn.lit (R := intR) (B := B) (w.alloc (.cells #[.int .i64 n, .slice A N cap] 25)) (B + 1) (by omega) hsz)
  have HW1 := Lib.hid (hB ▸ (Whole.made w 25 #[.int .i64 n, .slice A N cap]).alloc (.cells #[] 3) : Whole ((w.alloc (.cells #[.int .i64 n, .slice A N cap] 25)).alloc (.cells #[] 3)) B 25 #[.int .i64 n, .slice A N cap])
  clear h hb2 hsz
  go_enter Try.func10, Try.ntmps10
  go_wp2
  obtain ⟨w1, hw1⟩ : ∃ w1, (w.alloc (.cells #[.int .i64 n, .slice A N cap] 25)).alloc (.cells #[] 3) = w1 := ⟨_, rfl⟩
  rw [hw1] at H1 HG1 HO1 HW1 ⊢
  clear hw1
  have hz1 := HW1.out.lt
  go_loopw [5, 6] (fun v i wr => ∃ (k q : Nat) (A3 : Option Addr) (N3 cap3 : Nat) (P : List Int), 1 ≤ k ∧ k ≤ N + 1 ∧ v = .slice A3 N3 cap3 ∧ i = .int .i64 (k : Int) ∧ N3 + 1 ≤ k ∧ q ≤ p + k ∧ B < wr.heap.size ∧ Hid (Rd wr b q) ∧ Hid (ROwn intR wr B (.slice A3 N3 cap3) P) ∧ Hid (Whole wr B 25 #[.int .i64 n, .slice A N cap]) ∧ Hid (w.grownBy wr (some b))) (fun _ i _ => N + 1 - (intOf i).toNat)
  case atStart => exact ⟨1, p, _, _, _, [], by omega, by omega, rfl, by go_num, by omega, by omega, hz1, H1, HO1, HW1, HG1⟩
  case round =>
    clear H1 HO1 HW1 HG1
    obtain ⟨k, q, A3, N3, cap3, P, hk1, hk, rfl, rfl, hN3, hq, hzr, HR, HO, HW, HG⟩ := hrel
    have x0 := HW.out.cell 0
    have x1 := HW.out.cell 1
    simp at x0 x1
    by_cases hlt : k ≤ N
    · have h5 : (k : Int) ≤ (N : Int) := by omega
      have h5' : k < N + 1 := by omega
      go_wp2_with fail
      refine (pick_2 b q _ HR.out (by omega)).mono ?_
      rintro e w4 ⟨x, hx, rfl, hr, hg⟩
      have HR4 := Lib.hid hr
      have HO4 := Lib.hid (own_gr HO.out hg hbB)
      have HW4 := Lib.hid (HW.out.grown hg (by simp; omega))
      have HG4 := Lib.hid (gr_trans HG.out hg)
      have hz4 := Nat.lt_of_lt_of_le hzr hg.size
      clear hr hg
      by_cases h0 : x = 0
      · subst h0
        have hnew : RAt intR (w4.alloc (.cells #[.int .i64 (k : Int)] 3)) (some ⟨w4.heap.size, 0, none⟩) [(k : Int)] := RAt.made intR w4 [(k : Int)] _ rfl
        have hown := HO4.out.alloc (.cells #[.int .i64 (k : Int)] 3)
        have HN3 := Lib.hid HO4.out.len.1.symm
        have hml : N3 + 1 ≤ maxLen := by unfold maxLen; omega
        have hby : (N3 + 1) * 8 ≤ 140737488355328 := by omega
        go_wp2_with (at_builtin; refine wpList_append_rows rfl (.tmp 18) (.tmp 20) 26 rfl intR B j0 _ 8 Try.underlying26 hj hp0 hp1 hp2 rfl (by decide) _ P [(k : Int)] N3 HN3.out rfl hown _ 1 1 rfl rfl hnew (fun e => by cases e) (fun q e => by cases e; rfl) hml hby (by simp; omega) ?_)
        intro v' w6 hown6 hgrow hnn
        obtain ⟨A6, N6, cap6, rfl⟩ := hown6.val
        have hrow : ∀ g, (Value.slice A3 N3 cap3).ownBlock = some g → B ≤ g := fun g e => (World.ownsRow.lt hown g e).1
        have HO6 := Lib.hid hown6
        have HR6 := Lib.hid (rd_grown (HR4.out.below (below_new w4 (.cells #[.int .i64 (k : Int)] 3)) HR4.out.lt) hgrow hrow hbB)
        have HW6 := Lib.hid ((HW4.out.alloc (.cells #[.int .i64 (k : Int)] 3)).grown hgrow (fun e => HO4.out.whole HW4.out (by decide) e.symm))
        have HG6 := Lib.hid (gr_row (gr_alloc HG4.out (.cells #[.int .i64 (k : Int)] 3)) hgrow (fun g e => by rw [hB]; exact hrow g e))
        have hz6 : B < w6.heap.size := HW6.out.lt
        have hn6 : N6 = N3 + 1 := by
          have h1 := HO6.out.len.1
          have h2 := HN3.out
          rw [List.length_append, List.length_singleton] at h1
          omega
        clear hown6 hgrow hown hnew hnn hml hby hrow
        subst hn6
        go_wp2
        go_roundw
        case rel => exact ⟨k + 1, q + 1, A6, N3 + 1, cap6, P ++ [(k : Int)], by omega, by omega, rfl, by go_num, by omega, by omega, hz6, HR6, HO6, HW6, HG6⟩
        case measure => simp [intOf]; omega
      · have h0' : ((x : Int) == 0) = false := beq_eq_false_iff_ne.2 (by omega)
        clear h0
        go_wp2
        go_roundw
        case rel => exact ⟨k + 1, q + 1, A3, N3, cap3, P, by omega, by omega, rfl, by go_num, by omega, by omega, hz4, HR4, HO4, HW4, HG4⟩
        case measure => simp [intOf]; omega
    · have h5 : ¬ (k : Int) ≤ (N : Int) := by omega
      have hN14 : N3 ≤ 14 := by omega
      have hq15 : q ≤ p + 15 := by omega
      clear hk hN3 hq
      go_wp2_with fail
      refine (pick_any b q 20 _ HR.out (by omega) (by omega) (by omega)).mono ?_
      rintro e w4 ⟨x, hx, rfl, hr, hg⟩
      have HR4 := Lib.hid hr
      have HO4 := Lib.hid (own_gr HO.out hg hbB)
      have HG4 := Lib.hid (gr_trans HG.out hg)
      clear hr hg
      by_cases h0 : x = 0
      · subst h0
        go_wp2_with fail
        refine (pick_any b (q + 1) 14 _ HR4.out (by omega) (by omega) (by omega)).mono ?_
        rintro e w5 ⟨y, hy, rfl, hr, hg⟩
        have HR5 := Lib.hid hr
        have HO5 := Lib.hid (own_gr HO4.out hg hbB)
        have HG5 := Lib.hid (gr_trans HG4.out hg)
        clear hr hg
        have hz5 : B ≤ w5.heap.size := by have := HG5.out.size; omega
        have hnew : RAt intR (w5.alloc (.cells #[.int .i64 (y : Int)] 3)) (some ⟨w5.heap.size, 0, none⟩) [(y : Int)] := RAt.made intR w5 [(y : Int)] _ rfl
        have hown := HO5.out.alloc (.cells #[.int .i64 (y : Int)] 3)
        have HN3 := Lib.hid HO5.out.len.1.symm
        have hml : N3 + 1 ≤ maxLen := by unfold maxLen; omega
        have hby : (N3 + 1) * 8 ≤ 140737488355328 := by omega
        go_wp2_with (at_builtin; refine wpList_append_rows rfl (.tmp 25) (.tmp 28) 26 rfl intR B j0 _ 8 Try.underlying26 hj hp0 hp1 hp2 rfl (by decide) _ P [(y : Int)] N3 HN3.out rfl hown _ 1 1 rfl rfl hnew (fun e => by cases e) (fun q e => by cases e; rfl) hml hby (by simp; omega) ?_)
        intro v' w6 hown6 hgrow hnn
        obtain ⟨A6, N6, cap6, rfl⟩ := hown6.val
        have hrow : ∀ g, (Value.slice A3 N3 cap3).ownBlock = some g → B ≤ g := fun g e => (World.ownsRow.lt hown g e).1
        have HO6 := Lib.hid hown6
        have HR6 := Lib.hid (rd_grown (HR5.out.below (below_new w5 (.cells #[.int .i64 (y : Int)] 3)) HR5.out.lt) hgrow hrow hbB)
        have HG6 := Lib.hid (gr_row (gr_alloc HG5.out (.cells #[.int .i64 (y : Int)] 3)) hgrow (fun g e => by rw [hB]; exact hrow g e))
        have hn6 : N6 = N3 + 1 := by
          have h1 := HO6.out.len.1
          have h2 := HN3.out
          rw [List.length_append, List.length_singleton] at h1
          omega
        clear hown6 hgrow hown hnew hnn hml hby hrow
        subst hn6
        go_wp2
        go_ret
        exact ⟨A6, N3 + 1, cap6, P ++ [(y : Int)], q + 1 + 1, rfl, by omega, by omega, HR6.out, by rw [hB]; exact HO6.out, HG6.out⟩
      · have h0' : ((x : Int) == 0) = false := beq_eq_false_iff_ne.2 (by omega)
        clear h0
        go_wp2
        go_ret
        exact ⟨A3, N3, cap3, P, q + 1, rfl, by omega, by omega, HR4.out, by rw [hB]; exact HO4.out, HG4.out⟩
end Go.Proofs.Ytllhcogmcfgnoaa
