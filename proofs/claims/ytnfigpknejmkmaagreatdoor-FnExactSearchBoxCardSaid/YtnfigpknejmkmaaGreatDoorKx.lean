/-
  The contract of the code's (*keyBudget).query: a query for a valid key that the budget is enough for. Condition: the key lies in memory; the tables hold what the program lays there.
-/
import Derived.Test.YtnfigpknejmkmaaGreatDoorKf
import Derived.Test.YtnfigpknejmkmaaGreatDoorLat
import Derived.Test.YtnfigpknejmkmaaGreatDoorRow
namespace Go.Proofs.YtnfigpknejmkmaaGreatDoor
open Go.RowKit
set_option linter.unusedVariables false

abbrev QT := TypeId × Array Value
abbrev qv (x : QT) : Value := .iface x.1 (.agg x.2)
def qR : RowT QT where
  t := 75
  sz := 1
  enc := fun x => [.iface x.1 (.agg x.2)]
  len := fun _ => rfl
  one := fun x u hu => by
    simp at hu
    subst hu
    rfl
theorem Tryz.infoQuery : (Tryz.prog.info? 75).map (fun i => (i.zero, i.size, i.bytes)) = some (some .nilIface, 1, 16) := by kernel_rfl
theorem QV.one {w : World} : ∀ {k : KT} {q : Value}, QV w k q → ∃ t a, q = .iface t (.agg a)
  | .mk kd f t S ks, q, h => by
    rw [QV] at h
    rcases h with h | h | h | ⟨_, AS, cS, h1, h2⟩ | ⟨_, AS, cS, h1, h2⟩ | ⟨_, q1, h1, h2⟩ | ⟨_, q1, q2, h1, h2⟩ | ⟨_, q1, q2, h1, h2⟩
    · exact ⟨_, _, h.2⟩
    · exact ⟨_, _, h.2⟩
    · exact ⟨_, _, h.2⟩
    all_goals exact ⟨_, _, h1⟩

/-- How a call of query ends. -/
def QEnd (w0 w : World) (g m : Nat) (k : KT) (e : Ending) (w' : World) : Prop :=
  ∃ (q : Value) (o : Bool) (m' : Nat), e = .returned (.tuple #[q, .bool o]) ∧ (allT k && decide (nodesT k ≤ m)) = o ∧ m' ≤ m ∧ Whole w' g 65 #[.int .i64 (m' : Int)] ∧ w.grownBy w' (some g) ∧ (o = true → m' + nodesT k = m ∧ QV w0 k q)
theorem qend_no {w0 w w' : World} {g m m1 : Nat} {k : KT} (h : (allT k && decide (nodesT k ≤ m)) = false) (hm : m1 ≤ m) (hW : Whole w' g 65 #[.int .i64 (m1 : Int)]) (hG : w.grownBy w' (some g)) : QEnd w0 w g m k (.returned (.tuple #[.nilIface, .bool false])) w' :=
  ⟨_, false, m1, rfl, h, hm, hW, hG, fun h => by cases h⟩
theorem qend {w0 w w' : World} {g m m1 : Nat} {kd f : Int} {t : ByteArray} {S : List (Int × Int)} {ks : List KT} {q : Value} {o : Bool} {nS nK : Nat} (hq : QV w0 (.mk kd f t S ks) q) (ho : leafB kd f t S = o) (hS : S.length = nS) (hK : ks.length = nK) (hs : shapeB kd f t nS nK = true) (ha : allL ks = true) (hm : m1 + nodesL ks + 1 = m)
    (hW : Whole w' g 65 #[.int .i64 (m1 : Int)]) (hG : w.grownBy w' (some g)) : QEnd w0 w g m (.mk kd f t S ks) (.returned (.tuple #[q, .bool o])) w' := by
  refine ⟨q, o, m1, rfl, ?_, by omega, hW, hG, fun _ => ⟨by rw [nodesT]; omega, hq⟩⟩
  rw [allT, ha, node_shape, hS, hK, hs, ho, nodesT, decide_eq_true (by omega)]
  simp
theorem no_zero (k : KT) : (allT k && decide (nodesT k ≤ 0)) = false := by
  have := nodesT_pos k
  rw [decide_eq_false (by omega), Bool.and_false]
theorem no_shape {kd f : Int} {t : ByteArray} {S : List (Int × Int)} {ks : List KT} {nS nK m : Nat} (hS : S.length = nS) (hK : ks.length = nK) (hs : shapeB kd f t nS nK = false) : (allT (.mk kd f t S ks) && decide (nodesT (.mk kd f t S ks) ≤ m)) = false := by
  rw [allT, node_shape, hS, hK, hs]
  simp
theorem no_part {kd f : Int} {t : ByteArray} {S : List (Int × Int)} {ks : List KT} {m m1 i : Nat} {k : KT} (hk : ks[i]? = some k) (hm : m1 + nodesL (ks.take i) + 1 = m) (h : (allT k && decide (nodesT k ≤ m1)) = false) : (allT (.mk kd f t S ks) && decide (nodesT (.mk kd f t S ks) ≤ m)) = false := by
  rw [Bool.and_eq_false_iff] at h ⊢
  rcases h with h | h
  · left
    rw [allT, allL_no hk h, Bool.false_and]
  · right
    have := of_decide_eq_false h
    have := nodesL_lt hk
    rw [nodesT]
    exact decide_eq_false (by omega)
theorem shape_yes {kd f : Int} {t : ByteArray} {nS nK : Nat} (h : shapeB kd f t nS nK = true) : ((kd = 0 ∨ kd = 1 ∨ kd = 2 ∨ kd = 3 ∨ kd = 4) ∧ nK = 0) ∨ (kd = 5 ∧ nK = 1) ∨ ((kd = 6 ∨ kd = 7) ∧ nK = 2) := by
  unfold shapeB at h
  by_cases k0 : kd = 0
  · subst k0; simp at h; omega
  by_cases k1 : kd = 1
  · subst k1; simp at h; omega
  by_cases k2 : kd = 2
  · subst k2; simp at h; omega
  by_cases k34 : kd = 3 ∨ kd = 4
  · rw [if_neg k0, if_neg k1, if_neg k2, if_pos k34] at h; simp at h; omega
  by_cases k5 : kd = 5
  · subst k5; simp at h; omega
  by_cases k67 : kd = 6 ∨ kd = 7
  · rw [if_neg k0, if_neg k1, if_neg k2, if_neg k34, if_neg k5, if_pos k67] at h; simp at h; omega
  · rw [if_neg k0, if_neg k1, if_neg k2, if_neg k34, if_neg k5, if_neg k67] at h; cases h
theorem wB_empty {f : Int} {b : Bool} (h : flag1 f = b) : (wB (fwL f)).toList.isEmpty = !b := by
  rw [ByteArray.toList_eq, ← h]
  exact fw_flag f
theorem spend_yes {g m p : Nat} (h1 : p + 1 = m) (w : World) (h : Whole w g 65 #[.int .i64 (m : Int)]) (hm : m ≤ 9) :
    Calls Tryz.prog 60 #[.pointer (some ⟨g, 0, none⟩)] w fun e w' => e = .returned (.bool true) ∧ Whole w' g 65 #[.int .i64 (p : Int)] ∧ w.grownBy w' (some g) := by
  subst h1
  refine (impl_spend g (p + 1) w h hm).mono ?_
  rintro e w' ⟨rfl, h2, h3⟩
  exact ⟨by rw [decide_eq_true (by omega)], by simpa using h2, h3⟩
theorem spend_no (g : Nat) (w : World) (h : Whole w g 65 #[.int .i64 (0 : Int)]) :
    Calls Tryz.prog 60 #[.pointer (some ⟨g, 0, none⟩)] w fun e w' => e = .returned (.bool false) ∧ Whole w' g 65 #[.int .i64 (0 : Int)] ∧ w.grownBy w' (some g) := impl_spend g 0 w h (by omega)
/-- Calls in a later world. -/
theorem flagword_later {G : Nat} {wo : World} {f : Int} {z : ByteArray} (hz : wB (fwL f) = z) (hL : Lst wo) (hG : wo.heap.size ≤ G) (x : Later G wo) : Calls Tryz.prog 86 #[.int .i64 f] x.v fun e w' => e = .returned (.string z) ∧ Below x.v.heap.size x.v w' := by
  subst hz
  exact impl_flagword f x.v (hL.below x.h hG)
theorem name_later {G : Nat} {wo : World} {t : ByteArray} {z : Bool} (hz : nameB t.data.toList = z) (ht : t.size ≤ 16777216) (x : Later G wo) : Calls Tryz.prog 95 #[.string t] x.v fun e w' => e = .returned (.bool z) ∧ Below x.v.heap.size x.v w' := by
  subst hz
  exact impl_name t x.v ht
theorem set_later {G : Nat} {wo : World} {A : Option Addr} {n c : Nat} {S : List (Int × Int)} {z : Bool} (hn : S.length = n) (hz : setB S = z) (hl : n ≤ 33554432) (h : SpA wo A S) (hG : wo.heap.size ≤ G) (x : Later G wo) : Calls Tryz.prog 96 #[.slice A n c] x.v fun e w' => e = .returned (.bool z) ∧ Below x.v.heap.size x.v w' := by
  subst hz hn
  exact impl_setvalid A c S x.v (h.below x.h hG) hl
end Go.Proofs.YtnfigpknejmkmaaGreatDoor
