/-
  The contract of the code's iterator over the groups of a text. Conditions: a group has one to four bytes, the text is not too long, and a round leaves the two blocks that the iterator reads.
-/
import Derived.RangeFuncNested
import Derived.RangeFuncBound
import Derived.RangeFuncCalls
import Derived.RangeFuncLeaves
import Derived.RangeFuncBox
import Derived.Shelf.Abstract
import Derived.Shelf.RegionOpen
import Derived.WalkKit
import Derived.OwnWalkIn
import Derived.TacticsInMore
import Derived.LoopNIn
import Derived.LoopIn
import Derived.Test.YtmangdkaklnpdaaDmath
import Derived.Test.YtmangdkaklnpdaaBenc
namespace Go.Proofs.Ytmangdkaklnpdaa
open Go.RowKit Go.Shelf
set_option linter.unusedVariables false
attribute [local go_sem] Oper.semAt_some

/-- A group of one to 'n' bytes. -/
abbrev Gn (n : Nat) := { x : ByteArray // 1 ≤ x.size ∧ x.size ≤ n }
/-- Two blocks stand. -/
def Two (a b : Nat) (W W' : World) : Prop := W'.heap[a]? = W.heap[a]? ∧ W'.heap[b]? = W.heap[b]?
theorem two_t {a b : Nat} {X Y Z : World} (h : Two a b X Y) (k : Two a b Y Z) : Two a b X Z := ⟨k.1.trans h.1, k.2.trans h.2⟩
theorem two_b {a b : Nat} {w : World} (ha : a < w.heap.size) (hb : b < w.heap.size) (W : World) (l : Nat) (o o' : Obj) (hl : w.heap.size ≤ l) (h : W.heap[l]? = some o) (_ : o.isCells = false) (_ : o.isWalk = false) : Two a b W (W.putObj l o') :=
  ⟨World.putObj_heap_other (by omega), World.putObj_heap_other (by omega)⟩
/-- The lists of bytes of groups. -/
def gl {n : Nat} (xs : List (Gn n)) : List (List UInt8) := xs.map fun x => x.1.data.toList
theorem gl_snoc {n : Nat} (xs : List (Gn n)) (x : Gn n) : gl (xs ++ [x]) = gl xs ++ [x.1.data.toList] := by simp [gl]

set_option maxHeartbeats 1000000 in
theorem groups_in (s : ByteArray) (n : Int) (w : World) :
    Calls Try.prog 56 #[.string s, .int .i64 n] w fun e w' => e = .returned (.func (.func 67) #[] #[.pointer (some ⟨w.heap.size, 0, none⟩), .pointer (some ⟨w.heap.size + 1, 0, none⟩)]) ∧ w' = (w.alloc (.cells #[.string s] 9)).alloc (.cells #[.int .i64 n] 3) := by
  go_enter Try.func56, Try.ntmps56
  go_wp2
  go_ret
  exact ⟨rfl, rfl⟩

set_option maxRecDepth 100000 in
set_option maxHeartbeats 2000000 in
theorem groups1_in (m l c1 c2 n : Nat) (hm : 1 ≤ m) (hn1 : 1 ≤ n) (hn4 : n ≤ 4) (s : ByteArray) (hs : s.size ≤ 16777216) (J Jx : List (Gn n) → World → Prop)
    (hY : ∀ pre x W, J pre W → pre.length < s.size → YieldAt Fence.wide (m - 1) Try.prog l #[.string x.1] W fun e W' =>
      (e = .returned (.bool true) ∧ J (pre ++ [x]) W' ∧ Two c1 c2 W W') ∨ (e = .returned (.bool false) ∧ Jx (pre ++ [x]) W'))
    (W : World) (h1 : Whole W c1 9 #[.string s]) (h2 : Whole W c2 3 #[.int .i64 (n : Int)]) (h0 : J [] W) :
    CallsIn Fence.wide m Try.prog 67 #[.func (.yield l) #[] #[], .pointer (some ⟨c1, 0, none⟩), .pointer (some ⟨c2, 0, none⟩)] W fun e W' => (∃ v, e = .returned v) ∧
      ((∃ ys, Grp n (gl ys) s.data.toList ∧ J ys W') ∨ (∃ pre, True ∧ Jx pre W')) := by
  have hl : s.data.toList.length = s.size := by simp
  have HL := Lib.hid hl
  have H1 := Lib.hid h1
  have H2 := Lib.hid h2
  clear h1 h2 hl
  have n1 : (1 : Int) ≤ (n : Int) := by omega
  have n4 : (n : Int) ≤ 4 := by omega
  refine callsIn_of_wp Try.func67 rfl trivial ?_ rfl
  simp only [Try.ntmps67, List.size_toArray, List.length_cons, List.length_nil, Nat.reduceAdd, Nat.reduceSub, Array.replicate_succ, Array.replicate_zero, List.push_toArray, List.append_toArray, List.nil_append, List.cons_append]
  gi_wp2
  gi_loopw [4, 5] (fun i j wr => ∃ (k : Nat) (pre : List (Gn n)), k ≤ s.size + 4 ∧ i = .int .i64 (k : Int) ∧ pre.length ≤ k ∧ Hid (J pre wr) ∧ Hid (Whole wr c1 9 #[.string s]) ∧ Hid (Whole wr c2 3 #[.int .i64 (n : Int)]) ∧ Hid (∀ xs, Grp n xs (s.data.toList.drop k) → Grp n (gl pre ++ xs) s.data.toList))
    (fun i _ _ => s.size + 4 - (intOf i).toNat)
  case atStart => exact ⟨0, [], by omega, by go_num, Nat.zero_le _, Lib.hid h0, H1, H2, Lib.hid (fun xs h => h)⟩
  case round =>
    obtain ⟨k, pre, hk, rfl, hp, HJ, HA, HB, HG⟩ := hrel
    have ha : wr.cell? ⟨c1, 0, none⟩ = some (.string s) := HA.out.cell 0
    have hb : wr.cell? ⟨c2, 0, none⟩ = some (.int .i64 (n : Int)) := HB.out.cell 0
    have i0 : (0 : Int) ≤ (k : Int) := by omega
    by_cases hlt : k < s.size
    · have i1 : (k : Int) < (s.size : Int) := by omega
      by_cases hkn : k + n ≤ s.size
      · have e1 : (k : Int) + (n : Int) ≤ (s.size : Int) := by omega
        have e1' : ¬ (s.size : Int) < (k : Int) + (n : Int) := by omega
        have e2 : (k : Int) ≤ (k : Int) + (n : Int) := by omega
        have e3 : (0 : Int) ≤ (k : Int) + (n : Int) := by omega
        obtain ⟨fn, tmps, assign, body, hy, hR⟩ := hY pre ⟨s.extract k (k + n), by rw [ByteArray.size_extract]; omega, by rw [ByteArray.size_extract]; omega⟩ wr HJ.out (by omega)
        dsimp only at hy
        gi_wp2
        refine hR.mono ?_
        rintro e4 W3 (⟨rfl, hJ3, hk3⟩ | ⟨rfl, hJx3⟩)
        · have HJ3 := Lib.hid hJ3
          have HA3 := Lib.hid (show Whole W3 c1 9 #[.string s] from hk3.1.trans HA.out)
          have HB3 := Lib.hid (show Whole W3 c2 3 #[.int .i64 (n : Int)] from hk3.2.trans HB.out)
          have ha3 : W3.cell? ⟨c1, 0, none⟩ = some (.string s) := HA3.out.cell 0
          have hb3 : W3.cell? ⟨c2, 0, none⟩ = some (.int .i64 (n : Int)) := HB3.out.cell 0
          clear hk3 hJ3
          gi_wp2
          go_roundw
          case rel =>
            refine ⟨k + n, _, by omega, by go_num, ?_, HJ3, HA3, HB3, Lib.hid (fun xs h => ?_)⟩
            · rw [List.length_append]; simp; omega
            · rw [gl_snoc, List.append_assoc]
              refine HG.out _ ⟨?_, ?_, ?_⟩
              · rw [extract_list]; congr 1; omega
              · intro h0
                have := congrArg List.length h0
                rw [List.length_drop, HL.out] at this
                simp at this
                omega
              · rw [List.drop_drop]
                exact h
          case measure => simp [intOf]; omega
        · gi_wp2
          refine bodyPost_ret (results_none rfl _ _ _) rfl ?_
          exact ⟨⟨_, rfl⟩, .inr ⟨_, trivial, hJx3⟩⟩
      · have e1 : ¬ (k : Int) + (n : Int) ≤ (s.size : Int) := by omega
        have e1' : (s.size : Int) < (k : Int) + (n : Int) := by omega
        have e2 : (k : Int) ≤ (s.size : Int) := by omega
        obtain ⟨fn, tmps, assign, body, hy, hR⟩ := hY pre ⟨s.extract k s.size, by rw [ByteArray.size_extract]; omega, by rw [ByteArray.size_extract]; omega⟩ wr HJ.out (by omega)
        dsimp only at hy
        gi_wp2
        refine hR.mono ?_
        rintro e4 W3 (⟨rfl, hJ3, hk3⟩ | ⟨rfl, hJx3⟩)
        · have HJ3 := Lib.hid hJ3
          have HA3 := Lib.hid (show Whole W3 c1 9 #[.string s] from hk3.1.trans HA.out)
          have HB3 := Lib.hid (show Whole W3 c2 3 #[.int .i64 (n : Int)] from hk3.2.trans HB.out)
          have ha3 : W3.cell? ⟨c1, 0, none⟩ = some (.string s) := HA3.out.cell 0
          have hb3 : W3.cell? ⟨c2, 0, none⟩ = some (.int .i64 (n : Int)) := HB3.out.cell 0
          clear hk3 hJ3
          gi_wp2
          go_roundw
          case rel =>
            refine ⟨k + n, _, by omega, by go_num, ?_, HJ3, HA3, HB3, Lib.hid (fun xs h => ?_)⟩
            · rw [List.length_append]; simp; omega
            · rw [gl_snoc, List.append_assoc]
              refine HG.out _ ⟨?_, ?_, ?_⟩
              · rw [extract_list, List.take_of_length_le (by rw [List.length_drop, HL.out]; omega), List.take_of_length_le (by rw [List.length_drop, HL.out]; omega)]
              · intro h0
                have := congrArg List.length h0
                rw [List.length_drop, HL.out] at this
                simp at this
                omega
              · rw [List.drop_drop]
                exact h
          case measure => simp [intOf]; omega
        · gi_wp2
          refine bodyPost_ret (results_none rfl _ _ _) rfl ?_
          exact ⟨⟨_, rfl⟩, .inr ⟨_, trivial, hJx3⟩⟩
    · have i1 : ¬ (k : Int) < (s.size : Int) := by omega
      have HF := Lib.hid (HG.out [] (List.drop_eq_nil_of_le (by rw [HL.out]; omega)))
      gi_wp2
      go_end0
      exact ⟨⟨_, rfl⟩, .inl ⟨pre, by have h := HF.out; rw [List.append_nil] at h; exact h, HJ.out⟩⟩
theorem groups_stops (m c1 c2 n : Nat) (hm : 1 ≤ m) (hn1 : 1 ≤ n) (hn4 : n ≤ 4) (s : ByteArray) (hs : s.size ≤ 16777216) (w : World) (h1 : Whole w c1 9 #[.string s]) (h2 : Whole w c2 3 #[.int .i64 (n : Int)]) :
    SeqStopsK Fence.wide m Try.prog 67 #[.pointer (some ⟨c1, 0, none⟩), .pointer (some ⟨c2, 0, none⟩)] (fun x : Gn n => #[Value.string x.1]) (Two c1 c2) (fun ys => Grp n (gl ys) s.data.toList) (fun _ => True) s.size w := fun l J Jx W hW _ _ hY h0 =>
  groups1_in m l c1 c2 n hm hn1 hn4 s hs J Jx hY W (h1.below hW h1.lt) (h2.below hW h2.lt) h0
end Go.Proofs.Ytmangdkaklnpdaa
