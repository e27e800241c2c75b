/-
  The contracts of the code's spend and hasShape. Condition: the table keyShapes holds what the program lays there; the key can be read.
-/
import Derived.Test.YtnfigpknejmkmaaGreatDoorKw
namespace Go.Proofs.YtnfigpknejmkmaaGreatDoor
open Go.RowKit
set_option linter.unusedVariables false

/-- What the table of shapes holds. -/
def shapes : List Value := [.bool false, .bool false, .bool false, .int .i64 0, .bool true, .bool false, .bool false, .int .i64 0, .bool false, .bool true, .bool false, .int .i64 0, .bool false, .bool false, .bool true, .int .i64 0, .bool false, .bool false, .bool true, .int .i64 0, .bool false, .bool false, .bool false, .int .i64 1, .bool false, .bool false, .bool false, .int .i64 2, .bool false, .bool false, .bool false, .int .i64 2]
def Shp (w : World) : Prop := 0 < w.heap.size ∧ ∀ k, k < 32 → w.cell? ⟨0, k, none⟩ = shapes[k]?
theorem Shp.below {w w' : World} {B : Nat} (h : Shp w) (hb : Below B w w') (hB : w.heap.size ≤ B) : Shp w' :=
  ⟨Nat.lt_of_lt_of_le h.1 hb.size, fun k hk => (hb.cell (p := ⟨0, k, none⟩) (by have := h.1; simp; omega)).trans (h.2 k hk)⟩
/-- The fields that a node has are those of its kind. -/
def shapeB (kd f : Int) (t : ByteArray) (nS nK : Nat) : Bool :=
  if kd = 0 then f == 0 && t.size == 0 && nS == 0 && nK == 0
  else if kd = 1 then !(f == 0) && t.size == 0 && nS == 0 && nK == 0
  else if kd = 2 then f == 0 && !(t.size == 0) && nS == 0 && nK == 0
  else if kd = 3 ∨ kd = 4 then f == 0 && t.size == 0 && !(nS == 0) && nK == 0
  else if kd = 5 then f == 0 && t.size == 0 && nS == 0 && nK == 1
  else if kd = 6 ∨ kd = 7 then f == 0 && t.size == 0 && nS == 0 && nK == 2
  else false
set_option maxHeartbeats 1000000 in
theorem impl_spend (g m : Nat) (w : World) (h : Whole w g 65 #[.int .i64 (m : Int)]) (hm : m ≤ 9) :
    Calls Tryz.prog 60 #[.pointer (some ⟨g, 0, none⟩)] w fun e w' => e = .returned (.bool (decide (0 < m))) ∧ Whole w' g 65 #[.int .i64 ((m - 1 : Nat) : Int)] ∧ w.grownBy w' (some g) := by
  have H := Lib.hid h
  have c0 := h.cell 0
  simp at c0
  have f0 := h.free 0
  by_cases hz : m = 0
  · subst hz
    clear h
    go_enter Tryz.func60, Tryz.ntmps60
    go_wp2
    go_ret
    exact ⟨rfl, H.out, gr_refl _ _⟩
  · obtain ⟨q, rfl⟩ : ∃ q, m = q + 1 := ⟨m - 1, by omega⟩
    obtain ⟨p, hp⟩ : ∃ p, q + 1 = p := ⟨_, rfl⟩
    have hne : ((p : Int) == 0) = false := beq_eq_false_iff_ne.2 (by omega)
    have E1 : (p : Int) - 1 = (q : Int) := by omega
    have W1 : IntKind.i64.wrap ((p : Int) - 1) = (q : Int) := (IntWalk.i64_in _ (by omega)).trans E1
    have hd : decide (0 < q + 1) = true := decide_eq_true (by omega)
    rw [hd, Nat.add_sub_cancel]
    rw [hp] at c0 H hm
    have HS := Lib.hid (H.out.store 0 (.int .i64 (q : Int)))
    have HG : Hid (w.grownBy (w.setCell ⟨g, 0, none⟩ (.int .i64 (q : Int))) (some g)) := ⟨rfl, rfl, rfl, by simp [World.setCell], fun k hk hn => Below.heap_setCell w _ _ k (fun e => hn (by rw [e]))⟩
    clear h hz hp hd
    go_enter Tryz.func60, Tryz.ntmps60
    go_wp2
    go_ret
    exact ⟨rfl, HS.out, HG.out⟩

set_option maxHeartbeats 2000000 in
theorem impl_shape_0 (f : Int) (t : ByteArray) (AS : Option Addr) (nS cS : Nat) (AK : Option Addr) (nK cK : Nat) (w : World) (hw : Shp w) (o : Bool) (ho : shapeB 0 f t nS nK = o) :
    Calls Tryz.prog 94 #[.agg #[.int .i64 (0 : Int), .int .i64 f, .string t, .slice AS nS cS, .slice AK nK cK]] w fun e w' => e = .returned (.bool o) ∧ Below w.heap.size w w' := by
  have sz : 0 < w.heap.size := hw.1
  have s0 : w.cell? ⟨0, 0, none⟩ = some (.bool false) := hw.2 0 (by decide)
  have s1 : w.cell? ⟨0, 1, none⟩ = some (.bool false) := hw.2 1 (by decide)
  have s2 : w.cell? ⟨0, 2, none⟩ = some (.bool false) := hw.2 2 (by decide)
  have s3 : w.cell? ⟨0, 3, none⟩ = some (.int .i64 0) := hw.2 3 (by decide)
  clear hw
  by_cases hf : f = 0
  · have hf1 : (f != 0) = false := by rw [hf]; rfl
    by_cases hz : t.size = 0
    · have hz1 : t.toList.isEmpty = true := by rw [txt_empty, hz]; rfl
      by_cases hs0 : nS = 0
      · have hs1 : decide (0 < nS) = false := decide_eq_false (by omega)
        have hs2 : ¬ 0 < nS := by omega
        have hs3 : ¬ (0 : Int) < (nS : Int) := by omega
        have hoo : ((nK : Int) == 0) = o := by
          rw [← ho]
          unfold shapeB
          simp [hf, hz, hs0]
          try exact intbeq _ _
        clear ho
        go_enter Tryz.func94, Tryz.ntmps94
        go_wp2
        go_ret
        exact ⟨rfl, ((below_newK _ _).trans ((below_newK _ _).mono (by simp)))⟩
      · have hs1 : decide (0 < nS) = true := decide_eq_true (by omega)
        have hs2 : 0 < nS := by omega
        obtain rfl : o = false := by
          rw [← ho]
          unfold shapeB
          simp [hs0]
        clear ho
        go_enter Tryz.func94, Tryz.ntmps94
        go_wp2
        go_ret
        exact ⟨rfl, ((below_newK _ _).trans ((below_newK _ _).mono (by simp)))⟩
    · have hz1 : t.toList.isEmpty = false := by rw [txt_empty]; exact beq_eq_false_iff_ne.2 hz
      obtain rfl : o = false := by
        rw [← ho]
        unfold shapeB
        simp [hz]
      clear ho
      go_enter Tryz.func94, Tryz.ntmps94
      go_wp2
      go_ret
      exact ⟨rfl, ((below_newK _ _).trans ((below_newK _ _).mono (by simp)))⟩
  · have hf1 : (f != 0) = true := bne_iff_ne.2 hf
    obtain rfl : o = false := by
      rw [← ho]
      unfold shapeB
      simp [hf]
    clear ho
    go_enter Tryz.func94, Tryz.ntmps94
    go_wp2
    go_ret
    exact ⟨rfl, ((below_newK _ _).trans ((below_newK _ _).mono (by simp)))⟩

set_option maxHeartbeats 2000000 in
theorem impl_shape_1 (f : Int) (t : ByteArray) (AS : Option Addr) (nS cS : Nat) (AK : Option Addr) (nK cK : Nat) (w : World) (hw : Shp w) (o : Bool) (ho : shapeB 1 f t nS nK = o) :
    Calls Tryz.prog 94 #[.agg #[.int .i64 (1 : Int), .int .i64 f, .string t, .slice AS nS cS, .slice AK nK cK]] w fun e w' => e = .returned (.bool o) ∧ Below w.heap.size w w' := by
  have sz : 0 < w.heap.size := hw.1
  have s0 : w.cell? ⟨0, 4, none⟩ = some (.bool true) := hw.2 4 (by decide)
  have s1 : w.cell? ⟨0, 5, none⟩ = some (.bool false) := hw.2 5 (by decide)
  have s2 : w.cell? ⟨0, 6, none⟩ = some (.bool false) := hw.2 6 (by decide)
  have s3 : w.cell? ⟨0, 7, none⟩ = some (.int .i64 0) := hw.2 7 (by decide)
  clear hw
  by_cases hf : f = 0
  · have hf1 : (f != 0) = false := by rw [hf]; rfl
    obtain rfl : o = false := by
      rw [← ho]
      unfold shapeB
      simp [hf]
    clear ho
    go_enter Tryz.func94, Tryz.ntmps94
    go_wp2
    go_ret
    exact ⟨rfl, ((below_newK _ _).trans ((below_newK _ _).mono (by simp)))⟩
  · have hf1 : (f != 0) = true := bne_iff_ne.2 hf
    by_cases hz : t.size = 0
    · have hz1 : t.toList.isEmpty = true := by rw [txt_empty, hz]; rfl
      by_cases hs0 : nS = 0
      · have hs1 : decide (0 < nS) = false := decide_eq_false (by omega)
        have hs2 : ¬ 0 < nS := by omega
        have hs3 : ¬ (0 : Int) < (nS : Int) := by omega
        have hfb : (f == 0) = false := beq_eq_false_iff_ne.2 hf
        have hoo : ((nK : Int) == 0) = o := by
          rw [← ho]
          unfold shapeB
          simp [hfb, hz, hs0]
          try exact intbeq _ _
        clear ho
        go_enter Tryz.func94, Tryz.ntmps94
        go_wp2
        go_ret
        exact ⟨rfl, ((below_newK _ _).trans ((below_newK _ _).mono (by simp)))⟩
      · have hs1 : decide (0 < nS) = true := decide_eq_true (by omega)
        have hs2 : 0 < nS := by omega
        obtain rfl : o = false := by
          rw [← ho]
          unfold shapeB
          simp [hs0]
        clear ho
        go_enter Tryz.func94, Tryz.ntmps94
        go_wp2
        go_ret
        exact ⟨rfl, ((below_newK _ _).trans ((below_newK _ _).mono (by simp)))⟩
    · have hz1 : t.toList.isEmpty = false := by rw [txt_empty]; exact beq_eq_false_iff_ne.2 hz
      obtain rfl : o = false := by
        rw [← ho]
        unfold shapeB
        simp [hz]
      clear ho
      go_enter Tryz.func94, Tryz.ntmps94
      go_wp2
      go_ret
      exact ⟨rfl, ((below_newK _ _).trans ((below_newK _ _).mono (by simp)))⟩

set_option maxHeartbeats 2000000 in
theorem impl_shape_2 (f : Int) (t : ByteArray) (AS : Option Addr) (nS cS : Nat) (AK : Option Addr) (nK cK : Nat) (w : World) (hw : Shp w) (o : Bool) (ho : shapeB 2 f t nS nK = o) :
    Calls Tryz.prog 94 #[.agg #[.int .i64 (2 : Int), .int .i64 f, .string t, .slice AS nS cS, .slice AK nK cK]] w fun e w' => e = .returned (.bool o) ∧ Below w.heap.size w w' := by
  have sz : 0 < w.heap.size := hw.1
  have s0 : w.cell? ⟨0, 8, none⟩ = some (.bool false) := hw.2 8 (by decide)
  have s1 : w.cell? ⟨0, 9, none⟩ = some (.bool true) := hw.2 9 (by decide)
  have s2 : w.cell? ⟨0, 10, none⟩ = some (.bool false) := hw.2 10 (by decide)
  have s3 : w.cell? ⟨0, 11, none⟩ = some (.int .i64 0) := hw.2 11 (by decide)
  clear hw
  by_cases hf : f = 0
  · have hf1 : (f != 0) = false := by rw [hf]; rfl
    by_cases hz : t.size = 0
    · have hz1 : t.toList.isEmpty = true := by rw [txt_empty, hz]; rfl
      obtain rfl : o = false := by
        rw [← ho]
        unfold shapeB
        simp [hz]
      clear ho
      go_enter Tryz.func94, Tryz.ntmps94
      go_wp2
      go_ret
      exact ⟨rfl, ((below_newK _ _).trans ((below_newK _ _).mono (by simp)))⟩
    · have hz1 : t.toList.isEmpty = false := by rw [txt_empty]; exact beq_eq_false_iff_ne.2 hz
      by_cases hs0 : nS = 0
      · have hs1 : decide (0 < nS) = false := decide_eq_false (by omega)
        have hs2 : ¬ 0 < nS := by omega
        have hs3 : ¬ (0 : Int) < (nS : Int) := by omega
        have hzb : (t.size == 0) = false := beq_eq_false_iff_ne.2 hz
        have hoo : ((nK : Int) == 0) = o := by
          rw [← ho]
          unfold shapeB
          simp [hf, hzb, hs0]
          try exact intbeq _ _
        clear ho
        go_enter Tryz.func94, Tryz.ntmps94
        go_wp2
        go_ret
        exact ⟨rfl, ((below_newK _ _).trans ((below_newK _ _).mono (by simp)))⟩
      · have hs1 : decide (0 < nS) = true := decide_eq_true (by omega)
        have hs2 : 0 < nS := by omega
        obtain rfl : o = false := by
          rw [← ho]
          unfold shapeB
          simp [hs0]
        clear ho
        go_enter Tryz.func94, Tryz.ntmps94
        go_wp2
        go_ret
        exact ⟨rfl, ((below_newK _ _).trans ((below_newK _ _).mono (by simp)))⟩
  · have hf1 : (f != 0) = true := bne_iff_ne.2 hf
    obtain rfl : o = false := by
      rw [← ho]
      unfold shapeB
      simp [hf]
    clear ho
    go_enter Tryz.func94, Tryz.ntmps94
    go_wp2
    go_ret
    exact ⟨rfl, ((below_newK _ _).trans ((below_newK _ _).mono (by simp)))⟩

set_option maxHeartbeats 2000000 in
theorem impl_shape_3 (f : Int) (t : ByteArray) (AS : Option Addr) (nS cS : Nat) (AK : Option Addr) (nK cK : Nat) (w : World) (hw : Shp w) (o : Bool) (ho : shapeB 3 f t nS nK = o) :
    Calls Tryz.prog 94 #[.agg #[.int .i64 (3 : Int), .int .i64 f, .string t, .slice AS nS cS, .slice AK nK cK]] w fun e w' => e = .returned (.bool o) ∧ Below w.heap.size w w' := by
  have sz : 0 < w.heap.size := hw.1
  have s0 : w.cell? ⟨0, 12, none⟩ = some (.bool false) := hw.2 12 (by decide)
  have s1 : w.cell? ⟨0, 13, none⟩ = some (.bool false) := hw.2 13 (by decide)
  have s2 : w.cell? ⟨0, 14, none⟩ = some (.bool true) := hw.2 14 (by decide)
  have s3 : w.cell? ⟨0, 15, none⟩ = some (.int .i64 0) := hw.2 15 (by decide)
  clear hw
  by_cases hf : f = 0
  · have hf1 : (f != 0) = false := by rw [hf]; rfl
    by_cases hz : t.size = 0
    · have hz1 : t.toList.isEmpty = true := by rw [txt_empty, hz]; rfl
      by_cases hs0 : nS = 0
      · have hs1 : decide (0 < nS) = false := decide_eq_false (by omega)
        have hs2 : ¬ 0 < nS := by omega
        have hs3 : ¬ (0 : Int) < (nS : Int) := by omega
        obtain rfl : o = false := by
          rw [← ho]
          unfold shapeB
          simp [hs0]
        clear ho
        go_enter Tryz.func94, Tryz.ntmps94
        go_wp2
        go_ret
        exact ⟨rfl, ((below_newK _ _).trans ((below_newK _ _).mono (by simp)))⟩
      · have hs1 : decide (0 < nS) = true := decide_eq_true (by omega)
        have hs2 : 0 < nS := by omega
        have hsb : (nS == 0) = false := beq_eq_false_iff_ne.2 hs0
        have hoo : ((nK : Int) == 0) = o := by
          rw [← ho]
          unfold shapeB
          simp [hf, hz, hsb]
          try exact intbeq _ _
        clear ho
        go_enter Tryz.func94, Tryz.ntmps94
        go_wp2
        go_ret
        exact ⟨rfl, ((below_newK _ _).trans ((below_newK _ _).mono (by simp)))⟩
    · have hz1 : t.toList.isEmpty = false := by rw [txt_empty]; exact beq_eq_false_iff_ne.2 hz
      obtain rfl : o = false := by
        rw [← ho]
        unfold shapeB
        simp [hz]
      clear ho
      go_enter Tryz.func94, Tryz.ntmps94
      go_wp2
      go_ret
      exact ⟨rfl, ((below_newK _ _).trans ((below_newK _ _).mono (by simp)))⟩
  · have hf1 : (f != 0) = true := bne_iff_ne.2 hf
    obtain rfl : o = false := by
      rw [← ho]
      unfold shapeB
      simp [hf]
    clear ho
    go_enter Tryz.func94, Tryz.ntmps94
    go_wp2
    go_ret
    exact ⟨rfl, ((below_newK _ _).trans ((below_newK _ _).mono (by simp)))⟩

set_option maxHeartbeats 2000000 in
theorem impl_shape_4 (f : Int) (t : ByteArray) (AS : Option Addr) (nS cS : Nat) (AK : Option Addr) (nK cK : Nat) (w : World) (hw : Shp w) (o : Bool) (ho : shapeB 4 f t nS nK = o) :
    Calls Tryz.prog 94 #[.agg #[.int .i64 (4 : Int), .int .i64 f, .string t, .slice AS nS cS, .slice AK nK cK]] w fun e w' => e = .returned (.bool o) ∧ Below w.heap.size w w' := by
  have sz : 0 < w.heap.size := hw.1
  have s0 : w.cell? ⟨0, 16, none⟩ = some (.bool false) := hw.2 16 (by decide)
  have s1 : w.cell? ⟨0, 17, none⟩ = some (.bool false) := hw.2 17 (by decide)
  have s2 : w.cell? ⟨0, 18, none⟩ = some (.bool true) := hw.2 18 (by decide)
  have s3 : w.cell? ⟨0, 19, none⟩ = some (.int .i64 0) := hw.2 19 (by decide)
  clear hw
  by_cases hf : f = 0
  · have hf1 : (f != 0) = false := by rw [hf]; rfl
    by_cases hz : t.size = 0
    · have hz1 : t.toList.isEmpty = true := by rw [txt_empty, hz]; rfl
      by_cases hs0 : nS = 0
      · have hs1 : decide (0 < nS) = false := decide_eq_false (by omega)
        have hs2 : ¬ 0 < nS := by omega
        have hs3 : ¬ (0 : Int) < (nS : Int) := by omega
        obtain rfl : o = false := by
          rw [← ho]
          unfold shapeB
          simp [hs0]
        clear ho
        go_enter Tryz.func94, Tryz.ntmps94
        go_wp2
        go_ret
        exact ⟨rfl, ((below_newK _ _).trans ((below_newK _ _).mono (by simp)))⟩
      · have hs1 : decide (0 < nS) = true := decide_eq_true (by omega)
        have hs2 : 0 < nS := by omega
        have hsb : (nS == 0) = false := beq_eq_false_iff_ne.2 hs0
        have hoo : ((nK : Int) == 0) = o := by
          rw [← ho]
          unfold shapeB
          simp [hf, hz, hsb]
          try exact intbeq _ _
        clear ho
        go_enter Tryz.func94, Tryz.ntmps94
        go_wp2
        go_ret
        exact ⟨rfl, ((below_newK _ _).trans ((below_newK _ _).mono (by simp)))⟩
    · have hz1 : t.toList.isEmpty = false := by rw [txt_empty]; exact beq_eq_false_iff_ne.2 hz
      obtain rfl : o = false := by
        rw [← ho]
        unfold shapeB
        simp [hz]
      clear ho
      go_enter Tryz.func94, Tryz.ntmps94
      go_wp2
      go_ret
      exact ⟨rfl, ((below_newK _ _).trans ((below_newK _ _).mono (by simp)))⟩
  · have hf1 : (f != 0) = true := bne_iff_ne.2 hf
    obtain rfl : o = false := by
      rw [← ho]
      unfold shapeB
      simp [hf]
    clear ho
    go_enter Tryz.func94, Tryz.ntmps94
    go_wp2
    go_ret
    exact ⟨rfl, ((below_newK _ _).trans ((below_newK _ _).mono (by simp)))⟩

set_option maxHeartbeats 2000000 in
theorem impl_shape_5 (f : Int) (t : ByteArray) (AS : Option Addr) (nS cS : Nat) (AK : Option Addr) (nK cK : Nat) (w : World) (hw : Shp w) (o : Bool) (ho : shapeB 5 f t nS nK = o) :
    Calls Tryz.prog 94 #[.agg #[.int .i64 (5 : Int), .int .i64 f, .string t, .slice AS nS cS, .slice AK nK cK]] w fun e w' => e = .returned (.bool o) ∧ Below w.heap.size w w' := by
  have sz : 0 < w.heap.size := hw.1
  have s0 : w.cell? ⟨0, 20, none⟩ = some (.bool false) := hw.2 20 (by decide)
  have s1 : w.cell? ⟨0, 21, none⟩ = some (.bool false) := hw.2 21 (by decide)
  have s2 : w.cell? ⟨0, 22, none⟩ = some (.bool false) := hw.2 22 (by decide)
  have s3 : w.cell? ⟨0, 23, none⟩ = some (.int .i64 1) := hw.2 23 (by decide)
  clear hw
  by_cases hf : f = 0
  · have hf1 : (f != 0) = false := by rw [hf]; rfl
    by_cases hz : t.size = 0
    · have hz1 : t.toList.isEmpty = true := by rw [txt_empty, hz]; rfl
      by_cases hs0 : nS = 0
      · have hs1 : decide (0 < nS) = false := decide_eq_false (by omega)
        have hs2 : ¬ 0 < nS := by omega
        have hs3 : ¬ (0 : Int) < (nS : Int) := by omega
        have hoo : ((nK : Int) == 1) = o := by
          rw [← ho]
          unfold shapeB
          simp [hf, hz, hs0]
          try exact intbeq _ _
        clear ho
        go_enter Tryz.func94, Tryz.ntmps94
        go_wp2
        go_ret
        exact ⟨rfl, ((below_newK _ _).trans ((below_newK _ _).mono (by simp)))⟩
      · have hs1 : decide (0 < nS) = true := decide_eq_true (by omega)
        have hs2 : 0 < nS := by omega
        obtain rfl : o = false := by
          rw [← ho]
          unfold shapeB
          simp [hs0]
        clear ho
        go_enter Tryz.func94, Tryz.ntmps94
        go_wp2
        go_ret
        exact ⟨rfl, ((below_newK _ _).trans ((below_newK _ _).mono (by simp)))⟩
    · have hz1 : t.toList.isEmpty = false := by rw [txt_empty]; exact beq_eq_false_iff_ne.2 hz
      obtain rfl : o = false := by
        rw [← ho]
        unfold shapeB
        simp [hz]
      clear ho
      go_enter Tryz.func94, Tryz.ntmps94
      go_wp2
      go_ret
      exact ⟨rfl, ((below_newK _ _).trans ((below_newK _ _).mono (by simp)))⟩
  · have hf1 : (f != 0) = true := bne_iff_ne.2 hf
    obtain rfl : o = false := by
      rw [← ho]
      unfold shapeB
      simp [hf]
    clear ho
    go_enter Tryz.func94, Tryz.ntmps94
    go_wp2
    go_ret
    exact ⟨rfl, ((below_newK _ _).trans ((below_newK _ _).mono (by simp)))⟩

set_option maxHeartbeats 2000000 in
theorem impl_shape_6 (f : Int) (t : ByteArray) (AS : Option Addr) (nS cS : Nat) (AK : Option Addr) (nK cK : Nat) (w : World) (hw : Shp w) (o : Bool) (ho : shapeB 6 f t nS nK = o) :
    Calls Tryz.prog 94 #[.agg #[.int .i64 (6 : Int), .int .i64 f, .string t, .slice AS nS cS, .slice AK nK cK]] w fun e w' => e = .returned (.bool o) ∧ Below w.heap.size w w' := by
  have sz : 0 < w.heap.size := hw.1
  have s0 : w.cell? ⟨0, 24, none⟩ = some (.bool false) := hw.2 24 (by decide)
  have s1 : w.cell? ⟨0, 25, none⟩ = some (.bool false) := hw.2 25 (by decide)
  have s2 : w.cell? ⟨0, 26, none⟩ = some (.bool false) := hw.2 26 (by decide)
  have s3 : w.cell? ⟨0, 27, none⟩ = some (.int .i64 2) := hw.2 27 (by decide)
  clear hw
  by_cases hf : f = 0
  · have hf1 : (f != 0) = false := by rw [hf]; rfl
    by_cases hz : t.size = 0
    · have hz1 : t.toList.isEmpty = true := by rw [txt_empty, hz]; rfl
      by_cases hs0 : nS = 0
      · have hs1 : decide (0 < nS) = false := decide_eq_false (by omega)
        have hs2 : ¬ 0 < nS := by omega
        have hs3 : ¬ (0 : Int) < (nS : Int) := by omega
        have hoo : ((nK : Int) == 2) = o := by
          rw [← ho]
          unfold shapeB
          simp [hf, hz, hs0]
          try exact intbeq _ _
        clear ho
        go_enter Tryz.func94, Tryz.ntmps94
        go_wp2
        go_ret
        exact ⟨rfl, ((below_newK _ _).trans ((below_newK _ _).mono (by simp)))⟩
      · have hs1 : decide (0 < nS) = true := decide_eq_true (by omega)
        have hs2 : 0 < nS := by omega
        obtain rfl : o = false := by
          rw [← ho]
          unfold shapeB
          simp [hs0]
        clear ho
        go_enter Tryz.func94, Tryz.ntmps94
        go_wp2
        go_ret
        exact ⟨rfl, ((below_newK _ _).trans ((below_newK _ _).mono (by simp)))⟩
    · have hz1 : t.toList.isEmpty = false := by rw [txt_empty]; exact beq_eq_false_iff_ne.2 hz
      obtain rfl : o = false := by
        rw [← ho]
        unfold shapeB
        simp [hz]
      clear ho
      go_enter Tryz.func94, Tryz.ntmps94
      go_wp2
      go_ret
      exact ⟨rfl, ((below_newK _ _).trans ((below_newK _ _).mono (by simp)))⟩
  · have hf1 : (f != 0) = true := bne_iff_ne.2 hf
    obtain rfl : o = false := by
      rw [← ho]
      unfold shapeB
      simp [hf]
    clear ho
    go_enter Tryz.func94, Tryz.ntmps94
    go_wp2
    go_ret
    exact ⟨rfl, ((below_newK _ _).trans ((below_newK _ _).mono (by simp)))⟩

set_option maxHeartbeats 2000000 in
theorem impl_shape_7 (f : Int) (t : ByteArray) (AS : Option Addr) (nS cS : Nat) (AK : Option Addr) (nK cK : Nat) (w : World) (hw : Shp w) (o : Bool) (ho : shapeB 7 f t nS nK = o) :
    Calls Tryz.prog 94 #[.agg #[.int .i64 (7 : Int), .int .i64 f, .string t, .slice AS nS cS, .slice AK nK cK]] w fun e w' => e = .returned (.bool o) ∧ Below w.heap.size w w' := by
  have sz : 0 < w.heap.size := hw.1
  have s0 : w.cell? ⟨0, 28, none⟩ = some (.bool false) := hw.2 28 (by decide)
  have s1 : w.cell? ⟨0, 29, none⟩ = some (.bool false) := hw.2 29 (by decide)
  have s2 : w.cell? ⟨0, 30, none⟩ = some (.bool false) := hw.2 30 (by decide)
  have s3 : w.cell? ⟨0, 31, none⟩ = some (.int .i64 2) := hw.2 31 (by decide)
  clear hw
  by_cases hf : f = 0
  · have hf1 : (f != 0) = false := by rw [hf]; rfl
    by_cases hz : t.size = 0
    · have hz1 : t.toList.isEmpty = true := by rw [txt_empty, hz]; rfl
      by_cases hs0 : nS = 0
      · have hs1 : decide (0 < nS) = false := decide_eq_false (by omega)
        have hs2 : ¬ 0 < nS := by omega
        have hs3 : ¬ (0 : Int) < (nS : Int) := by omega
        have hoo : ((nK : Int) == 2) = o := by
          rw [← ho]
          unfold shapeB
          simp [hf, hz, hs0]
          try exact intbeq _ _
        clear ho
        go_enter Tryz.func94, Tryz.ntmps94
        go_wp2
        go_ret
        exact ⟨rfl, ((below_newK _ _).trans ((below_newK _ _).mono (by simp)))⟩
      · have hs1 : decide (0 < nS) = true := decide_eq_true (by omega)
        have hs2 : 0 < nS := by omega
        obtain rfl : o = false := by
          rw [← ho]
          unfold shapeB
          simp [hs0]
        clear ho
        go_enter Tryz.func94, Tryz.ntmps94
        go_wp2
        go_ret
        exact ⟨rfl, ((below_newK _ _).trans ((below_newK _ _).mono (by simp)))⟩
    · have hz1 : t.toList.isEmpty = false := by rw [txt_empty]; exact beq_eq_false_iff_ne.2 hz
      obtain rfl : o = false := by
        rw [← ho]
        unfold shapeB
        simp [hz]
      clear ho
      go_enter Tryz.func94, Tryz.ntmps94
      go_wp2
      go_ret
      exact ⟨rfl, ((below_newK _ _).trans ((below_newK _ _).mono (by simp)))⟩
  · have hf1 : (f != 0) = true := bne_iff_ne.2 hf
    obtain rfl : o = false := by
      rw [← ho]
      unfold shapeB
      simp [hf]
    clear ho
    go_enter Tryz.func94, Tryz.ntmps94
    go_wp2
    go_ret
    exact ⟨rfl, ((below_newK _ _).trans ((below_newK _ _).mono (by simp)))⟩

set_option maxHeartbeats 1000000 in
theorem impl_shape_o (kd f : Int) (t : ByteArray) (AS : Option Addr) (nS cS : Nat) (AK : Option Addr) (nK cK : Nat) (w : World) (hk : kd < 0 ∨ 7 < kd) :
    Calls Tryz.prog 94 #[.agg #[.int .i64 kd, .int .i64 f, .string t, .slice AS nS cS, .slice AK nK cK]] w fun e w' => e = .returned (.bool false) ∧ Below w.heap.size w w' := by
  by_cases h0 : kd < 0
  · have h1 : decide (kd < 0) = true := decide_eq_true h0
    clear hk
    go_enter Tryz.func94, Tryz.ntmps94
    go_wp2
    go_ret
    exact ⟨rfl, below_newK _ _⟩
  · have h7 : 7 < kd := by omega
    have h1 : decide (kd < 0) = false := decide_eq_false h0
    have h2 : decide (7 < kd) = true := decide_eq_true h7
    clear hk
    go_enter Tryz.func94, Tryz.ntmps94
    go_wp2
    go_ret
    exact ⟨rfl, below_newK _ _⟩
theorem impl_shape {kd f : Int} {t : ByteArray} {nS nK : Nat} {o : Bool} (ho : shapeB kd f t nS nK = o) (AS : Option Addr) (cS : Nat) (AK : Option Addr) (cK : Nat) (w : World) (hw : Shp w) :
    Calls Tryz.prog 94 #[.agg #[.int .i64 kd, .int .i64 f, .string t, .slice AS nS cS, .slice AK nK cK]] w fun e w' => e = .returned (.bool o) ∧ Below w.heap.size w w' := by
  by_cases k0 : kd = 0
  · subst k0; exact impl_shape_0 f t AS nS cS AK nK cK w hw o ho
  by_cases k1 : kd = 1
  · subst k1; exact impl_shape_1 f t AS nS cS AK nK cK w hw o ho
  by_cases k2 : kd = 2
  · subst k2; exact impl_shape_2 f t AS nS cS AK nK cK w hw o ho
  by_cases k3 : kd = 3
  · subst k3; exact impl_shape_3 f t AS nS cS AK nK cK w hw o ho
  by_cases k4 : kd = 4
  · subst k4; exact impl_shape_4 f t AS nS cS AK nK cK w hw o ho
  by_cases k5 : kd = 5
  · subst k5; exact impl_shape_5 f t AS nS cS AK nK cK w hw o ho
  by_cases k6 : kd = 6
  · subst k6; exact impl_shape_6 f t AS nS cS AK nK cK w hw o ho
  by_cases k7 : kd = 7
  · subst k7; exact impl_shape_7 f t AS nS cS AK nK cK w hw o ho
  have hof : o = false := by
    rw [← ho]
    unfold shapeB
    simp [k0, k1, k2, k3, k4, k5, k6, k7]
  subst hof
  exact impl_shape_o kd f t AS nS cS AK nK cK w (by omega)
end Go.Proofs.YtnfigpknejmkmaaGreatDoor
