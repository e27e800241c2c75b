/-
  The contracts of the code's keyQuery and KeyValid. Condition: the key lies in memory; the tables hold what the program lays there.
-/
import Derived.Test.YtnfigpknejmkmaaGreatDoorKy
namespace Go.Proofs.YtnfigpknejmkmaaGreatDoor
open Go.RowKit
set_option linter.unusedVariables false

def KQ (w : World) (k : KT) (e : Ending) (w' : World) : Prop := ∃ (q : Value) (o : Bool), e = .returned (.tuple #[q, .bool o]) ∧ keyB k = o ∧ (o = true → QV w k q) ∧ Below w.heap.size w w'
set_option maxRecDepth 20000 in
set_option maxHeartbeats 4000000 in
theorem impl_keyquery {k : KT} {v : Value} (w : World) (hSh : Shp w) (hLs : Lst w) (h : KV w k v) : Calls Tryz.prog 37 #[v] w (KQ w k) := by
  obtain ⟨kd, f, t, S, ks⟩ := k
  obtain ⟨AS, nS, cS, AK, nK, cK, rfl, -⟩ := h.open
  have HV := Lib.hid h
  obtain ⟨B, hB⟩ : ∃ B, w.heap.size = B := ⟨_, rfl⟩
  have HBB := Lib.hid hB
  obtain ⟨wa, hwa⟩ : ∃ wa, w.alloc (.cells #[.int .i64 kd, .int .i64 f, .string t, .slice AS nS cS, .slice AK nK cK] 27) = wa := ⟨_, rfl⟩
  have hsa : wa.heap.size = B + 1 := by rw [← hwa, ← hB]; simp
  obtain ⟨wb, hwb⟩ : ∃ wb, wa.alloc (.cells #[.int .i64 9] 65) = wb := ⟨_, rfl⟩
  have HWA := Lib.hid hwa
  have HWB := Lib.hid hwb
  have HBa : Hid (Below w.heap.size w wa) := Lib.hid (by rw [← hwa]; exact (Below.refl _ _).alloc (Nat.le_refl _) _)
  have HBb : Hid (Below w.heap.size w wb) := Lib.hid (by rw [← hwb]; exact HBa.out.alloc HBa.out.size _)
  have HKa : Hid (Whole wa B 27 #[.int .i64 kd, .int .i64 f, .string t, .slice AS nS cS, .slice AK nK cK]) := Lib.hid (by rw [← hwa, ← hB]; exact Whole.made w _ _)
  have HKb : Hid (Whole wb B 27 #[.int .i64 kd, .int .i64 f, .string t, .slice AS nS cS, .slice AK nK cK]) := Lib.hid (by rw [← hwb]; exact HKa.out.alloc _)
  have HGb : Hid (Whole wb (B + 1) 65 #[.int .i64 ((9 : Nat) : Int)]) := Lib.hid (by rw [← hwb, ← hsa]; exact Whole.made wa _ _)
  have HC := Lib.hid (impl_query_n w (B + 1) hSh hLs (by omega) (nodesT (.mk kd f t S ks)) _ _ wb 9 (Nat.le_refl _) h HBb.out HGb.out (by omega))
  have z0 := HKb.out.cell 0
  have z1 := HKb.out.cell 1
  have z2 := HKb.out.cell 2
  have z3 := HKb.out.cell 3
  have z4 := HKb.out.cell 4
  simp at z0 z1 z2 z3 z4
  clear h hwa hwb hSh hLs hB
  go_enter Tryz.func37, Tryz.ntmps37
  go_wp2_with fail
  rw [HWA.out, HBB.out, HWB.out]
  refine HC.out.mono ?_
  rintro e w2 ⟨q, o, m', rfl, ho, hm', hW, hG, hY⟩
  have HO := Lib.hid ho
  have HY := Lib.hid hY
  have HB2 := Lib.hid (below_gr HBb.out hG HBb.out.size (by rw [HBB.out]; omega))
  clear ho hW hG hY
  go_wp2
  go_ret2
  exact ⟨q, o, rfl, HO.out, fun e => (HY.out e).2, HB2.out⟩
end Go.Proofs.YtnfigpknejmkmaaGreatDoor
