/-
  The contracts of the code's ends, markSet and SetNumbers. Condition: the spans can be read.
-/
import Derived.Test.YtnfigpknejmkmaaGreatDoorSnum
import Derived.Deep.WholeRow
import Derived.Deep.MidRow
namespace Go.Proofs.YtnfigpknejmkmaaGreatDoor
open Go.RowKit
set_option linter.unusedVariables false

theorem low_of {last x1 x2 a b : Int} (h1 : (if x1 = 0 then last else x1) = a) (h2 : (if x2 = 0 then last else x2) = b) : lowE last (x1, x2) = min a b ∧ highE last (x1, x2) = max a b := by
  unfold lowE highE
  simp only [h1, h2]
  exact ⟨trivial, trivial⟩
theorem ret_ends {a b c d : Int} (h1 : a = c) (h2 : b = d) : Ending.returned (.tuple #[.int .i64 a, .int .i64 b]) = .returned (.tuple #[.int .i64 c, .int .i64 d]) := by rw [h1, h2]
set_option maxHeartbeats 2000000 in
theorem ends_any (x1 x2 last : Int) (w : World) :
    Calls Tryz.prog 111 #[.agg #[.int .i64 x1, .int .i64 x2], .int .i64 last] w fun e w' => e = .returned (.tuple #[.int .i64 (lowE last (x1, x2)), .int .i64 (highE last (x1, x2))]) ∧ Below w.heap.size w w' := by
  by_cases e1 : x1 = 0 <;> by_cases e2 : x2 = 0
  · subst e1
    subst e2
    have HL := Lib.hid (low_of (last := last) (x1 := 0) (x2 := 0) (if_pos rfl) (if_pos rfl))
    go_enter Tryz.func111, Tryz.ntmps111
    go_wp2
    go_quiet (fail)
    go_wp2
    go_ret2
    exact ⟨ret_ends (by rw [HL.out.1, Int.min_self]) (by rw [HL.out.2, Int.max_self]), below_drewN' ((Below.refl _ _).alloc (Nat.le_refl _) _) _⟩
  · subst e1
    have f2 := eq0_no e2
    have E2 := Lib.hid e2
    clear e2
    have HL := Lib.hid (low_of (last := last) (x1 := 0) (x2 := x2) (if_pos rfl) (if_neg E2.out))
    go_enter Tryz.func111, Tryz.ntmps111
    go_wp2
    go_quiet (fail)
    go_wp2
    go_ret2
    exact ⟨ret_ends HL.out.1.symm HL.out.2.symm, below_drewN' ((Below.refl _ _).alloc (Nat.le_refl _) _) _⟩
  · have f1 := eq0_no e1
    have E1 := Lib.hid e1
    clear e1
    subst e2
    have HL := Lib.hid (low_of (last := last) (x1 := x1) (x2 := 0) (if_neg E1.out) (if_pos rfl))
    go_enter Tryz.func111, Tryz.ntmps111
    go_wp2
    go_quiet (fail)
    go_wp2
    go_ret2
    exact ⟨ret_ends HL.out.1.symm HL.out.2.symm, below_drewN' ((Below.refl _ _).alloc (Nat.le_refl _) _) _⟩
  · have f1 := eq0_no e1
    have E1 := Lib.hid e1
    clear e1
    have f2 := eq0_no e2
    have E2 := Lib.hid e2
    clear e2
    have HL := Lib.hid (low_of (last := last) (x1 := x1) (x2 := x2) (if_neg E1.out) (if_neg E2.out))
    go_enter Tryz.func111, Tryz.ntmps111
    go_wp2
    go_quiet (fail)
    go_wp2
    go_ret2
    exact ⟨ret_ends HL.out.1.symm HL.out.2.symm, below_drewN' ((Below.refl _ _).alloc (Nat.le_refl _) _) _⟩

/-- An array of marks. -/
def mkA (f : Nat → Bool) : Array Value := (Array.range 100).map fun i => Value.bool (f i)
theorem mkA_size (f : Nat → Bool) : (mkA f).size = 100 := by unfold mkA; simp
theorem mkA_get (f : Nat → Bool) {i : Nat} (h : i < 100) : (mkA f)[i]? = some (.bool (f i)) := by
  unfold mkA
  rw [Array.getElem?_map, Array.getElem?_range]
  simp [h]
theorem mkA_set (f : Nat → Bool) {j : Nat} (h : j < 100) : (mkA f).setIfInBounds j (.bool true) = mkA (fun i => f i || i == j) := by
  apply Array.ext_getElem?
  intro i
  rw [Array.getElem?_setIfInBounds]
  by_cases hj : j = i
  · subst hj
    rw [if_pos rfl, if_pos (by rw [mkA_size]; exact h), mkA_get _ h]
    simp
  · rw [if_neg hj]
    by_cases hi : i < 100
    · rw [mkA_get _ hi, mkA_get _ hi]
      have : (i == j) = false := by simpa using fun e => hj e.symm
      rw [this, Bool.or_false]
    · rw [Array.getElem?_eq_none (by rw [mkA_size]; omega), Array.getElem?_eq_none (by rw [mkA_size]; omega)]
theorem mkA_one (f : Nat → Bool) : (mkA f).all (·.oneCell') = true := by
  rw [Array.all_eq_true]
  intro i hi
  rw [mkA_size] at hi
  have := mkA_get f hi
  rw [Array.getElem?_eq_getElem (by rw [mkA_size]; exact hi)] at this
  rw [Option.some.inj this]
  rfl
theorem Tryz.infoMarks : (Tryz.prog.info? 152).map (fun i => (i.zero, i.size)) = some (some (.agg (mkA fun _ => false)), 100) := by kernel_rfl
theorem zero_marks (w : World) : (zeroValue 152).run Tryz.prog w = .ok (.agg (mkA fun _ => false)) w := (zero_of_info Tryz.infoMarks).1 w
theorem load_whole {w : World} {b : Nat} {t : TypeId} {cs : Array Value} (h : Whole w b t cs) (n : Nat) (hn : cs.size = n) : (loadCellsFrom ⟨b, 0, none⟩ 0 n #[]).run Tryz.prog w = .ok cs w := by
  subst hn
  have := run_loadCells_list (P := Tryz.prog) w ⟨b, 0, none⟩ cs.toList (fun j v hv => by
    rw [add_none, Nat.zero_add, h.cell j]
    simpa using hv)
  simpa [loadCells] using this
theorem store_whole {w : World} {b : Nat} {cs c' : Array Value} (h : Whole w b 152 cs) (hn : cs.size = 100) (hn' : c'.size = 100) (h1 : c'.all (·.oneCell') = true) : (storeCells ⟨b, 0, none⟩ c'.toList 0).run Tryz.prog w = .ok () (w.setRow b c') := by
  have hi : (Tryz.prog.info? 152).map (·.size) = some c'.size := by rw [hn']; exact (zero_of_info Tryz.infoMarks).2
  have := run_storeVar_row (P := Tryz.prog) w b 152 152 cs c' h hi (by rw [hn, hn']) h1
  cases hq : Tryz.prog.info? 152 with
  | none => simp [hq] at hi
  | some i =>
    have hs : c'.size = i.size := by simp [hq] at hi; omega
    simpa [storeVar, sizeOf, typeInfo, hq, Value.cells, hs] using this
theorem marks_size {c : Array Value} (h : c.size = 100) : (Tryz.prog.info? 152).map (·.size) = some c.size := by rw [h]; exact (zero_of_info Tryz.infoMarks).2
theorem wpList_load_row {ops : Array Oper} {rest : List Oper} {op : Oper} {a : Act} {w : World} {Q : Exit → Act → World → Prop} (hgd : op.guard = none) (x : Operand) (ho : op.op = .load 152 x)
    (b : Nat) (hx : a.eval x = .pointer (some ⟨b, 0, none⟩)) (c : Array Value) (hc : Whole w b 152 c) (hn : c.size = 100)
    (h : wpList Tryz.prog ops Q rest (a.put op.dst (.agg c)) w) : wpList Tryz.prog ops Q (op :: rest) a w :=
  wpList_load_mid hgd 152 x ho b 0 hx c.toList _ (fun j v hv => by rw [Nat.zero_add, hc.cell j]; simpa using hv) Tryz.underlying152 rfl (by rw [Array.length_toList]; exact marks_size hn) h
theorem wpList_store_row {ops : Array Oper} {rest : List Oper} {op : Oper} {a : Act} {w : World} {Q : Exit → Act → World → Prop} (hgd : op.guard = none) (x y : Operand) (ho : op.op = .store 152 x y)
    (b : Nat) (c old : Array Value) (hx : a.eval x = .pointer (some ⟨b, 0, none⟩)) (hy : a.eval y = .agg c) (hc : Whole w b 152 old) (hn : old.size = 100) (hn' : c.size = 100) (h1 : c.all (·.oneCell') = true)
    (h : wpList Tryz.prog ops Q rest (a.put op.dst undef) (w.setRow b c)) : wpList Tryz.prog ops Q (op :: rest) a w := by
  refine wpList_plain hgd fun _ hK => ?_
  unfold Oper.wp execOp
  simp only [ho, hx, hy, Instr.storeAt, Instr.sureAddr, Sem.run_bind, Sem.run_pure, Result.andThen_ok, run_storeVar_row (P := Tryz.prog) w b 152 152 old c hc (marks_size hn') (by rw [hn, hn']) h1]
  exact hK _ _ h
theorem below_setRow {B : Nat} {a w : World} (h : Below B a w) {b : Nat} (hb : B ≤ b) (c : Array Value) : Below B a (w.setRow b c) :=
  ⟨h.os, h.tape, h.output, by simpa [World.setRow] using h.size, fun k hk => (setRow_other w b k c (by omega)).trans (h.block k hk)⟩
theorem whole_setRow {w : World} {b : Nat} {t : TypeId} {cs : Array Value} (h : Whole w b t cs) (c : Array Value) : Whole (w.setRow b c) b t c := setRow_heap w b cs c t _ h
theorem low_high {last : Int} {x : Int × Int} (hx : spanB x = true) (h1 : 1 ≤ last) (h2 : last ≤ 99) : ∃ a b : Nat, lowE last x = (a : Int) ∧ highE last x = (b : Int) ∧ 1 ≤ a ∧ a ≤ b ∧ b ≤ 99 := by
  obtain ⟨⟨a1, a2⟩, b1, b2⟩ := spanB_iff.1 hx
  have hl : 1 ≤ lowE last x ∧ lowE last x ≤ highE last x ∧ highE last x ≤ 99 := by
    unfold lowE highE
    split <;> split <;> omega
  exact ⟨(lowE last x).toNat, (highE last x).toNat, by omega, by omega, by omega, by omega, by omega⟩
theorem has_nat {last : Int} {x : Int × Int} {a b : Nat} (ha : lowE last x = (a : Int)) (hb : highE last x = (b : Int)) (n : Nat) : hasE last (n : Int) x = (decide (a ≤ n) && decide (n ≤ b)) := by
  unfold hasE inB
  rw [ha, hb, Bool.eq_iff_iff]
  simp
set_option maxHeartbeats 4000000 in
theorem mark_any (A : Option Addr) (cap : Nat) (L : List (Int × Int)) (last : Int) (w : World) (h : SpA w A L) (hl : L.length ≤ 33554432) (hs : setB L = true) (h1 : 1 ≤ last) (h2 : last ≤ 99) :
    Calls Tryz.prog 101 #[.slice A L.length cap, .int .i64 last] w fun e w' => e = .returned (.agg (mkA fun n => hasB L last (n : Int))) ∧ Below w.heap.size w w' := by
  obtain ⟨Z, hZ⟩ : ∃ Z, mkA (fun _ => false) = Z := ⟨_, rfl⟩
  have hv : ∀ w, (zeroValue 152).run Tryz.prog w = .ok (.agg Z) w := fun w => by rw [← hZ]; exact zero_marks w
  obtain ⟨m, hm⟩ : ∃ m, L.length = m := ⟨_, rfl⟩
  have H := Lib.hid h
  have HS := Lib.hid hs
  have HZ := Lib.hid hZ
  have HM := Lib.hid hm
  have HLA : Hid (1 ≤ last ∧ last ≤ 99) := ⟨h1, h2⟩
  rw [hm] at hl ⊢
  clear h hs hZ hm h1 h2
  go_enter Tryz.func101, Tryz.ntmps101
  go_wp2
  go_loopg [13] m (fun g i wr => ∃ k : Nat, k ≤ m ∧ g = m - k ∧ i = .int .i64 (k : Int) ∧ Hid (Below w.heap.size w wr) ∧ Hid (Whole wr w.heap.size 152 Z) ∧ Hid (Whole wr (w.heap.size + 1) 152 (mkA fun n => (L.take k).any (hasE last (n : Int)))))
  case atStart =>
    refine ⟨0, Nat.zero_le _, rfl, by go_num, ((Below.refl _ _).alloc (Nat.le_refl _) _).alloc (by simp) _, (Whole.made w _ _).alloc _, ?_⟩
    have := Whole.made (w.alloc (.cells Z 152)) 152 Z
    have e : (mkA fun n => (L.take 0).any (hasE last (n : Int))) = Z := by rw [← HZ.out]; simp
    rw [e]
    show Whole _ _ _ _
    simpa using this
  case round =>
    obtain ⟨k, hk, hg, rfl, HB, HW4, HW5⟩ := hrel
    have HG := Lib.hid hg
    clear hg
    have hbz := HB.out.size
    by_cases hlt : k < m
    · have h0 : (0 : Int) ≤ (k : Int) := by omega
      have h5 : (k : Int) < (m : Int) := by omega
      obtain ⟨⟨x1, x2⟩, hx⟩ : ∃ x, L[k]? = some x := ⟨_, List.getElem?_eq_getElem (by rw [HM.out]; exact hlt)⟩
      obtain ⟨b, o, rfl, hb, c1, c2⟩ := (H.out.below HB.out (Nat.le_refl _)) k _ hx
      have HX := Lib.hid hx
      clear hx
      obtain ⟨lo, hi, hlo, hhi, l1, l2, l3⟩ := low_high ((setB_iff.1 HS.out).1 _ (List.mem_of_getElem? HX.out)) HLA.out.1 HLA.out.2
      have HLO : Hid (lowE last (x1, x2) = (lo : Int) ∧ highE last (x1, x2) = (hi : Int)) := ⟨hlo, hhi⟩
      clear hlo hhi
      go_wp2_with fail
      refine (ends_any x1 x2 last _).mono ?_
      rintro e w2 ⟨rfl, hb2⟩
      rw [HLO.out.1, HLO.out.2]
      have hsz : (wr.alloc (.cells #[.int .i64 x1, .int .i64 x2] 108)).heap.size = wr.heap.size + 1 := by simp
      rw [hsz] at hb2
      have hl4 := HW4.out.lt
      have hl5 := HW5.out.lt
      have HB2 := Lib.hid ((HB.out.alloc hbz (.cells #[.int .i64 x1, .int .i64 x2] 108)).trans (hb2.mono (by omega)))
      have HW42 := Lib.hid ((HW4.out.alloc (.cells #[.int .i64 x1, .int .i64 x2] 108)).below hb2 (by omega))
      have HW52 := Lib.hid ((HW5.out.alloc (.cells #[.int .i64 x1, .int .i64 x2] 108)).below hb2 (by omega))
      clear hb2 hsz
      go_wp2
      go_loopg [10] (hi + 1 - lo) (fun g v wq => ∃ j : Nat, lo ≤ j ∧ j ≤ hi + 1 ∧ g = hi + 1 - j ∧ v = .int .i64 (j : Int) ∧ Hid (Below w.heap.size w wq) ∧ Hid (Whole wq w.heap.size 152 Z) ∧ Hid (Whole wq (w.heap.size + 1) 152 (mkA fun n => (L.take k).any (hasE last (n : Int)) || (decide (lo ≤ n) && decide (n < j)))))
      case atStart =>
        refine ⟨lo, Nat.le_refl _, by omega, rfl, rfl, HB2.out, HW42.out, ?_⟩
        have e : (fun n : Nat => (L.take k).any (hasE last (n : Int)) || (decide (lo ≤ n) && decide (n < lo))) = fun n : Nat => (L.take k).any (hasE last (n : Int)) := by
          funext n
          have : (decide (lo ≤ n) && decide (n < lo)) = false := by
            rw [← Bool.not_eq_true, Bool.and_eq_true, decide_eq_true_eq, decide_eq_true_eq]
            omega
          rw [this, Bool.or_false]
        rw [e]
        exact HW52.out
      case round =>
        obtain ⟨j, j1, j2, hgj, rfl, HBj, HW4j, HW5j⟩ := hrel
        have HGJ := Lib.hid hgj
        clear hgj
        by_cases hj : j ≤ hi
        · have q0 : (0 : Int) ≤ (j : Int) := by omega
          have q1 : (j : Int) ≤ (hi : Int) := by omega
          have q2 : (j : Int) < 100 := by omega
          have q3 : j < 100 := by omega
          obtain ⟨u, hu⟩ : ∃ u, (mkA fun n => (L.take k).any (hasE last (n : Int)) || (decide (lo ≤ n) && decide (n < j)))[j]? = some u := ⟨_, mkA_get _ q3⟩
          have hcell : wr.cell? ⟨w.heap.size + 1, j, none⟩ = some u := (HW5j.out.cell j).trans hu
          have hfree := HW5j.out.free j
          clear hu
          go_wp2
          go_roundg (hi + 1 - (j + 1))
          case measure => have := HGJ.out; omega
          case rel =>
            refine ⟨j + 1, by omega, by omega, rfl, by go_num, HBj.out.setCell (p := ⟨w.heap.size + 1, j, none⟩) (by simp) _, HW4j.out.apart (by simp) _, ?_⟩
            have := HW5j.out.store j (.bool true)
            rw [mkA_set _ q3] at this
            show Whole _ _ _ _
            have e : (fun n : Nat => ((L.take k).any (hasE last (n : Int)) || (decide (lo ≤ n) && decide (n < j))) || n == j) = fun n : Nat => (L.take k).any (hasE last (n : Int)) || (decide (lo ≤ n) && decide (n < j + 1)) := by
              funext n
              rw [Bool.or_assoc]
              congr 1
              rw [Bool.eq_iff_iff]
              simp
              omega
            rw [e] at this
            exact this
        · have hjj : j = hi + 1 := by omega
          have q1 : ¬ (j : Int) ≤ (hi : Int) := by omega
          have HJ := Lib.hid hjj
          clear hj hjj
          go_wp2
          go_roundg (m - (k + 1))
          case measure => have := HG.out; omega
          case rel =>
            refine ⟨k + 1, by omega, rfl, by go_num, HBj.out, HW4j.out, ?_⟩
            have := HW5j.out
            show Whole _ _ _ _
            have e : (fun n : Nat => (L.take k).any (hasE last (n : Int)) || (decide (lo ≤ n) && decide (n < j))) = fun n : Nat => (L.take (k + 1)).any (hasE last (n : Int)) := by
              funext n
              rw [List.take_add_one, HX.out, List.any_append, HJ.out]
              congr 1
              simp only [Option.toList, List.any_cons, List.any_nil, Bool.or_false]
              rw [has_nat HLO.out.1 HLO.out.2 n]
              congr 1
              rw [Bool.eq_iff_iff]
              simp
              omega
            rw [e] at this
            exact this
    · have h5 : ¬ (k : Int) < (m : Int) := by omega
      have hall : (mkA fun n => (L.take k).any (hasE last (n : Int))) = mkA fun n => hasB L last (n : Int) := by
        rw [List.take_of_length_le (by rw [HM.out]; omega)]
        rfl
      obtain ⟨M, hM⟩ : ∃ M, mkA (fun n => hasB L last (n : Int)) = M := ⟨_, rfl⟩
      rw [hM] at hall
      rw [hall] at HW5
      have HMM := Lib.hid hM
      have hMs : M.size = 100 := by rw [← hM]; exact mkA_size _
      have hM1 : M.all (·.oneCell') = true := by rw [← hM]; exact mkA_one _
      have hZs : Z.size = 100 := by rw [← HZ.out]; exact mkA_size _
      have HBR := Lib.hid (below_setRow HB.out (Nat.le_refl _) M)
      clear hall hM
      go_wp2_with (first
        | (with_reducible refine wpList_load_row (op := ⟨some 32, _, _, _, _, _⟩) rfl _ rfl (w.heap.size + 1) rfl M HW5.out hMs ?_)
        | (with_reducible refine wpList_store_row (op := ⟨none, _, _, _, _, _⟩) rfl _ _ rfl w.heap.size M Z rfl rfl HW4.out hZs hMs hM1 ?_))
      refine bodyPost_ret (v := .agg M) (results_cell_row Tryz.results101 _ _ w.heap.size _ M (0, 0) _ rfl (whole_setRow HW4.out M) Tryz.underlying152 rfl (marks_size hMs)) rfl ?_
      exact ⟨by rw [HMM.out], HBR.out⟩

theorem impl_setvalid_at {A : Option Addr} {cap : Nat} {L : List (Int × Int)} {o : Bool} (ho : setB L = o) (w : World) (h : SpA w A L) (hl : L.length ≤ 33554432) :
    Calls Tryz.prog 96 #[.slice A L.length cap] w fun e w' => e = .returned (.bool o) ∧ Below w.heap.size w w' := ho ▸ impl_setvalid A cap L w h hl
theorem lists_mk {w w' : World} {l m : List Nat} {v : Value} (h : l = m) (hv : OwnI w' w.heap.size v m) (hb : Below w.heap.size w w') : Lists w l (.returned v) w' := by
  subst h
  exact ⟨v, rfl, hv, hb⟩
set_option maxRecDepth 20000 in
set_option maxHeartbeats 4000000 in
theorem impl_setnumbers (A : Option Addr) (cap : Nat) (L : List (Int × Int)) (last : Int) (w : World) (h : SpA w A L) (hl : L.length ≤ 33554432) :
    Calls Tryz.prog 83 #[.slice A L.length cap, .int .i64 last] w (Lists w (numsB L last)) := by
  obtain ⟨i0, hi, hq0, hq1, hq2⟩ := info_parts Tryz.infoInt
  have H := Lib.hid h
  have HLL := Lib.hid hl
  clear h hl
  by_cases hs : setB L = true
  · have HS := Lib.hid hs
    by_cases hlast : 1 ≤ last
    · have hlast' : ¬ last < 1 := by omega
      obtain ⟨t, ht⟩ : ∃ t, min last 99 = t := ⟨_, rfl⟩
      have ht' : lst last = t := ht
      obtain ⟨p1, p2, p3⟩ := lst_pos hlast
      rw [ht'] at p1 p2 p3
      obtain ⟨K, hK⟩ : ∃ K, t.toNat = K := ⟨_, rfl⟩
      rw [hK] at p2
      have hK99 : K ≤ 99 := by omega
      have hK1 : 1 ≤ K := by omega
      have HN : Hid (numsB L last = cnt (fun n => hasB L t n) K) := by
        show _ = _
        rw [numsB_yes hs hlast, ht', hK]
      obtain ⟨Z, hZ⟩ : ∃ Z, mkA (fun _ => false) = Z := ⟨_, rfl⟩
      have hv : ∀ w, (zeroValue 152).run Tryz.prog w = .ok (.agg Z) w := fun w => by rw [← hZ]; exact zero_marks w
      have hZs : Z.size = 100 := by rw [← hZ]; exact mkA_size _
      clear hs hK p1 p3 ht' hlast hZ
      subst p2
      obtain ⟨M, hM⟩ : ∃ M, mkA (fun n => hasB L (K : Int) (n : Int)) = M := ⟨_, rfl⟩
      have HM := Lib.hid hM
      have hMs : M.size = 100 := by rw [← hM]; exact mkA_size _
      have hM1 : M.all (·.oneCell') = true := by rw [← hM]; exact mkA_one _
      clear hM
      go_enter Tryz.func83, Tryz.ntmps83
      go_wp2_with fail
      refine (impl_setvalid_at HS.out _ H.out HLL.out).mono ?_
      rintro e w1 ⟨rfl, hb⟩
      have HB1 := Lib.hid hb
      clear hb
      go_wp2_with fail
      refine (mark_any A cap L (K : Int) _ (H.out.below HB1.out (Nat.le_refl _)) HLL.out HS.out (by omega) (by omega)).mono ?_
      rintro e w2 ⟨rfl, hb⟩
      rw [HM.out]
      have HB2 := Lib.hid (HB1.out.trans (hb.mono HB1.out.size))
      clear hb
      have hz2 := HB2.out.size
      have hW := Whole.made w2 152 Z
      go_wp2_with (first
        | (with_reducible refine wpList_store_row (op := ⟨none, _, _, _, _, _⟩) rfl _ _ rfl w2.heap.size M Z rfl rfl hW hZs hMs hM1 ?_))
      have HB3 := Lib.hid (below_setRow (HB2.out.alloc hz2 (.cells Z 152)) (b := w2.heap.size) hz2 M)
      have HW3 := Lib.hid (whole_setRow hW M)
      clear hW hMs hM1 hZs
      go_loopw [6, 7] (fun v i wr => ∃ j : Nat, 1 ≤ j ∧ j ≤ K + 1 ∧ i = .int .i64 (j : Int) ∧ Hid (Below w.heap.size w wr) ∧ Hid (Whole wr w2.heap.size 152 M) ∧ Hid (OwnI wr (w2.heap.size + 1) v (cnt (fun n => hasB L (K : Int) n) (j - 1)))) (fun _ i _ => K + 2 - (intOf i).toNat)
      case atStart => exact ⟨1, by omega, by omega, by go_num, HB3.out, HW3.out, OwnI.nil _ _⟩
      case round =>
        obtain ⟨j, j1, j2, rfl, HB, HW, HO⟩ := hrel
        have hwl := HW.out.lt
        have hbz := HB.out.size
        by_cases hj : j ≤ K
        · have q0 : (0 : Int) ≤ (j : Int) := by omega
          have q1 : (j : Int) ≤ (K : Int) := by omega
          have q2 : (j : Int) < 100 := by omega
          obtain ⟨k, hk⟩ : ∃ k, j = k + 1 := ⟨j - 1, by omega⟩
          have HK := Lib.hid hk
          have hjk : j - 1 = k := by omega
          rw [hjk] at HO
          clear hk hjk
          have hc : M[j]? = some (.bool (hasB L (K : Int) (j : Int))) := by rw [← HM.out]; exact mkA_get _ (by omega)
          have hcell := (HW.out.cell j).trans hc
          clear hc
          cases hb : hasB L (K : Int) (j : Int)
          · rw [hb] at hcell
            have HH := Lib.hid hb
            clear hb
            go_wp2
            go_roundw
            case rel => exact ⟨j + 1, by omega, by omega, by go_num, HB.out, HW.out, by
              have e : j + 1 - 1 = k + 1 := by have := HK.out; omega
              rw [e, cnt_no (by rw [← HK.out]; exact HH.out)]
              exact HO⟩
            case measure => simp [intOf]; omega
          · rw [hb] at hcell
            have HH := Lib.hid hb
            clear hb
            have hown := HO.out.alloc (.cells #[.int .i64 (j : Int)] 3)
            have hnews := one_new' wr (.int .i64 (j : Int)) 3 wr.heap.size rfl
            have hcl := cnt_len (fun n => hasB L (K : Int) n) k
            obtain ⟨C, hC⟩ : ∃ C, cnt (fun n => hasB L (K : Int) n) k = C := ⟨_, rfl⟩
            have HC := Lib.hid hC
            rw [hC] at hown hcl
            have hkl : k ≤ 99 := by have := HK.out; omega
            have hml : C.length + 1 ≤ maxLen := by unfold maxLen; omega
            have hby : (C.length + 1) * 8 ≤ 140737488355328 := by omega
            have hba : w2.heap.size + 1 ≤ (wr.alloc (.cells #[.int .i64 (j : Int)] 3)).heap.size := by simp; omega
            clear hC
            go_wp2_with (at_builtin; refine wpList_append_own _ rfl _ _ 44 rfl (w2.heap.size + 1) 3 i0 (.int .i64 0) 1 8 Tryz.underlying44 hi hq0 hq1 hq2 rfl (by decide) _ _ _ rfl (hown.row rfl) ⟨wr.heap.size, 0, none⟩ 1 1 [.int .i64 (j : Int)] rfl rfl hnews (one_one _) hml hby hba ?_)
            intro v' w5 hown2 hgrow _
            have hrow : ∀ z, Value.ownBlock _ = some z → w2.heap.size + 1 ≤ z := fun z hz => (World.ownsRow.lt hown z hz).1
            have HB5 := Lib.hid ((HB.out.alloc hbz (.cells #[.int .i64 (j : Int)] 3)).grown hgrow (by simp; omega) (fun z hz => by have := hrow z hz; omega))
            have HW5 := Lib.hid (Whole.grown (HW.out.alloc (.cells #[.int .i64 (j : Int)] 3)) hgrow (fun e => by have := hrow _ e.symm; omega))
            have hO5 : OwnI w5 (w2.heap.size + 1) v' (C ++ [j]) := OwnI.push hown2 rfl
            have HO5 := Lib.hid hO5
            clear hO5 hown hown2 hgrow hnews hml hby hba hrow
            go_wp2
            go_roundw
            case rel => exact ⟨j + 1, by omega, by omega, by go_num, HB5.out, HW5.out, by
              have e : j + 1 - 1 = k + 1 := by have := HK.out; omega
              rw [e, cnt_yes (by rw [← HK.out]; exact HH.out), HC.out, ← HK.out]
              exact HO5⟩
            case measure => simp [intOf]; omega
        · have hjj : j - 1 = K := by omega
          have q1 : ¬ (j : Int) ≤ (K : Int) := by omega
          have hf := HO.out
          rw [hjj] at hf
          have HF := Lib.hid (hf.from (B' := w.heap.size) (by omega))
          clear hjj hj HO hf
          go_wp2
          go_ret
          exact lists_mk HN.out HF.out HB.out
    · have hlast' : last < 1 := by omega
      have HN := Lib.hid (numsB_low L hlast')
      clear hs hlast
      go_enter Tryz.func83, Tryz.ntmps83
      go_wp2_with fail
      refine (impl_setvalid_at HS.out _ H.out HLL.out).mono ?_
      rintro e w1 ⟨rfl, hb⟩
      have HB1 := Lib.hid hb
      clear hb
      go_wp2
      go_ret
      exact lists_mk HN.out (OwnI.nil _ _) HB1.out
  · have HS := Lib.hid (Bool.eq_false_iff.2 hs)
    have HN := Lib.hid (numsB_bad last HS.out)
    clear hs
    go_enter Tryz.func83, Tryz.ntmps83
    go_wp2_with fail
    refine (impl_setvalid_at HS.out _ H.out HLL.out).mono ?_
    rintro e w1 ⟨rfl, hb⟩
    have HB1 := Lib.hid hb
    clear hb
    go_wp2
    go_ret
    exact lists_mk HN.out (OwnI.nil _ _) HB1.out
end Go.Proofs.YtnfigpknejmkmaaGreatDoor
