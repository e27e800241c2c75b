/-
  My texts Ke, Sdrk, Ka, Kh in one, so that a claim holds fewer files. Conditions: each contract's own.
-/
import Derived.Test.YtpihibconbejlaaDoorQf
import Derived.Deep.RegionHeld3
import Derived.OwnWalk
import Derived.Laws.OwnMore
import Derived.Deep.RegionWith
namespace Go.Proofs.YtpihibconbejlaaDoor
open Go.RowKit
set_option linter.unusedVariables false

/-- What is known of a mailbox that came in. -/
abbrev boxV (n : Int) (A : Option Addr) (N cap : Nat) : Value := .agg #[.int .i64 n, .slice A N cap]
/-- The fields of a valid node. -/
theorem all_node {kd f : Int} {t : ByteArray} {S : List (Int × Int)} {ks : List KT} (h : allT (.mk kd f t S ks) = true) : allL ks = true ∧ leafB kd f t S = true ∧ shapeB kd f t S.length ks.length = true := by
  rw [allT, Bool.and_eq_true] at h
  have h2 := h.2
  rw [node_shape, Bool.and_eq_true] at h2
  exact ⟨h.1, h2.2, h2.1⟩
theorem allL_one {k : KT} (h : allL [k] = true) : allT k = true := by
  rw [allL, Bool.and_eq_true] at h
  exact h.1
theorem allL_two {k k2 : KT} (h : allL [k, k2] = true) : allT k = true ∧ allT k2 = true := by
  rw [allL, Bool.and_eq_true, allL, Bool.and_eq_true] at h
  exact ⟨h.1, h.2.1⟩
theorem qvs_one {w : World} {ks : List KT} {q : Value} (h : QVs w ks [q]) : ∃ k, ks = [k] ∧ QV w k q := by
  cases ks with
  | nil => rw [QVs] at h; cases h
  | cons k r =>
    rw [QVs] at h
    obtain ⟨q', s, h1, h2, h3⟩ := h
    cases h1
    cases r with
    | nil => exact ⟨k, rfl, h2⟩
    | cons k' r' => rw [QVs] at h3; obtain ⟨_, _, h4, _⟩ := h3; cases h4
theorem qvs_two {w : World} {ks : List KT} {q q2 : Value} (h : QVs w ks [q, q2]) : ∃ k k2, ks = [k, k2] ∧ QV w k q ∧ QV w k2 q2 := by
  cases ks with
  | nil => rw [QVs] at h; cases h
  | cons k r =>
    rw [QVs] at h
    obtain ⟨q', s, h1, h2, h3⟩ := h
    cases h1
    obtain ⟨k2, rfl, h4⟩ := qvs_one h3
    exact ⟨k, k2, rfl, h2, h4⟩
theorem find_not {L : List ML} {m : ML} {i : Nat} {f : Int} {t : ByteArray} {S : List (Int × Int)} {k : KT} {a : Bool} (h : findT L m i k = a) : findT L m i (.mk 5 f t S [k]) = !a := by
  rw [findT]; simp [findL, h]
theorem find_and {L : List ML} {m : ML} {i : Nat} {f : Int} {t : ByteArray} {S : List (Int × Int)} {k k2 : KT} {a b : Bool} (h : findT L m i k = a) (h2 : findT L m i k2 = b) : findT L m i (.mk 6 f t S [k, k2]) = (a && b) := by
  rw [findT]; simp [findL, h, h2]
theorem find_or {L : List ML} {m : ML} {i : Nat} {f : Int} {t : ByteArray} {S : List (Int × Int)} {k k2 : KT} {a b : Bool} (h : findT L m i k = a) (h2 : findT L m i k2 = b) : findT L m i (.mk 7 f t S [k, k2]) = (a || b) := by
  rw [findT]; simp [findL, h, h2]
theorem nodes_one (kd f : Int) (t : ByteArray) (S : List (Int × Int)) (k : KT) : nodesT (.mk kd f t S [k]) = nodesT k + 1 := by simp [nodesT, nodesL]
theorem nodes_two (kd f : Int) (t : ByteArray) (S : List (Int × Int)) (k k2 : KT) : nodesT (.mk kd f t S [k, k2]) = nodesT k + nodesT k2 + 1 := by simp [nodesT, nodesL]
theorem as_0y (v : Value) (w : World) : (Instr.typeAssert (.iface 116 v) 65 116 true).run Tryd.prog w = .ok (.tuple #[v, .bool true]) w := by kernel_rfl
theorem as_1y (v : Value) (w : World) : (Instr.typeAssert (.iface 118 v) 65 118 true).run Tryd.prog w = .ok (.tuple #[v, .bool true]) w := by kernel_rfl
theorem as_10 (v : Value) (w : World) : (Instr.typeAssert (.iface 118 v) 65 116 true).run Tryd.prog w = .ok (.tuple #[.agg #[], .bool false]) w := by kernel_rfl
theorem as_2y (v : Value) (w : World) : (Instr.typeAssert (.iface 120 v) 65 120 true).run Tryd.prog w = .ok (.tuple #[v, .bool true]) w := by kernel_rfl
theorem as_20 (v : Value) (w : World) : (Instr.typeAssert (.iface 120 v) 65 116 true).run Tryd.prog w = .ok (.tuple #[.agg #[], .bool false]) w := by kernel_rfl
theorem as_21 (v : Value) (w : World) : (Instr.typeAssert (.iface 120 v) 65 118 true).run Tryd.prog w = .ok (.tuple #[.agg #[.int .i64 0], .bool false]) w := by kernel_rfl
theorem as_3y (v : Value) (w : World) : (Instr.typeAssert (.iface 122 v) 65 122 true).run Tryd.prog w = .ok (.tuple #[v, .bool true]) w := by kernel_rfl
theorem as_30 (v : Value) (w : World) : (Instr.typeAssert (.iface 122 v) 65 116 true).run Tryd.prog w = .ok (.tuple #[.agg #[], .bool false]) w := by kernel_rfl
theorem as_31 (v : Value) (w : World) : (Instr.typeAssert (.iface 122 v) 65 118 true).run Tryd.prog w = .ok (.tuple #[.agg #[.int .i64 0], .bool false]) w := by kernel_rfl
theorem as_32 (v : Value) (w : World) : (Instr.typeAssert (.iface 122 v) 65 120 true).run Tryd.prog w = .ok (.tuple #[.agg #[.string ⟨#[]⟩], .bool false]) w := by kernel_rfl
theorem as_4y (v : Value) (w : World) : (Instr.typeAssert (.iface 123 v) 65 123 true).run Tryd.prog w = .ok (.tuple #[v, .bool true]) w := by kernel_rfl
theorem as_40 (v : Value) (w : World) : (Instr.typeAssert (.iface 123 v) 65 116 true).run Tryd.prog w = .ok (.tuple #[.agg #[], .bool false]) w := by kernel_rfl
theorem as_41 (v : Value) (w : World) : (Instr.typeAssert (.iface 123 v) 65 118 true).run Tryd.prog w = .ok (.tuple #[.agg #[.int .i64 0], .bool false]) w := by kernel_rfl
theorem as_42 (v : Value) (w : World) : (Instr.typeAssert (.iface 123 v) 65 120 true).run Tryd.prog w = .ok (.tuple #[.agg #[.string ⟨#[]⟩], .bool false]) w := by kernel_rfl
theorem as_43 (v : Value) (w : World) : (Instr.typeAssert (.iface 123 v) 65 122 true).run Tryd.prog w = .ok (.tuple #[.agg #[.slice none 0 0], .bool false]) w := by kernel_rfl
theorem as_5y (v : Value) (w : World) : (Instr.typeAssert (.iface 125 v) 65 125 true).run Tryd.prog w = .ok (.tuple #[v, .bool true]) w := by kernel_rfl
theorem as_50 (v : Value) (w : World) : (Instr.typeAssert (.iface 125 v) 65 116 true).run Tryd.prog w = .ok (.tuple #[.agg #[], .bool false]) w := by kernel_rfl
theorem as_51 (v : Value) (w : World) : (Instr.typeAssert (.iface 125 v) 65 118 true).run Tryd.prog w = .ok (.tuple #[.agg #[.int .i64 0], .bool false]) w := by kernel_rfl
theorem as_52 (v : Value) (w : World) : (Instr.typeAssert (.iface 125 v) 65 120 true).run Tryd.prog w = .ok (.tuple #[.agg #[.string ⟨#[]⟩], .bool false]) w := by kernel_rfl
theorem as_53 (v : Value) (w : World) : (Instr.typeAssert (.iface 125 v) 65 122 true).run Tryd.prog w = .ok (.tuple #[.agg #[.slice none 0 0], .bool false]) w := by kernel_rfl
theorem as_54 (v : Value) (w : World) : (Instr.typeAssert (.iface 125 v) 65 123 true).run Tryd.prog w = .ok (.tuple #[.agg #[.slice none 0 0], .bool false]) w := by kernel_rfl
theorem as_6y (v : Value) (w : World) : (Instr.typeAssert (.iface 127 v) 65 127 true).run Tryd.prog w = .ok (.tuple #[v, .bool true]) w := by kernel_rfl
theorem as_60 (v : Value) (w : World) : (Instr.typeAssert (.iface 127 v) 65 116 true).run Tryd.prog w = .ok (.tuple #[.agg #[], .bool false]) w := by kernel_rfl
theorem as_61 (v : Value) (w : World) : (Instr.typeAssert (.iface 127 v) 65 118 true).run Tryd.prog w = .ok (.tuple #[.agg #[.int .i64 0], .bool false]) w := by kernel_rfl
theorem as_62 (v : Value) (w : World) : (Instr.typeAssert (.iface 127 v) 65 120 true).run Tryd.prog w = .ok (.tuple #[.agg #[.string ⟨#[]⟩], .bool false]) w := by kernel_rfl
theorem as_63 (v : Value) (w : World) : (Instr.typeAssert (.iface 127 v) 65 122 true).run Tryd.prog w = .ok (.tuple #[.agg #[.slice none 0 0], .bool false]) w := by kernel_rfl
theorem as_64 (v : Value) (w : World) : (Instr.typeAssert (.iface 127 v) 65 123 true).run Tryd.prog w = .ok (.tuple #[.agg #[.slice none 0 0], .bool false]) w := by kernel_rfl
theorem as_65 (v : Value) (w : World) : (Instr.typeAssert (.iface 127 v) 65 125 true).run Tryd.prog w = .ok (.tuple #[.agg #[.nilIface], .bool false]) w := by kernel_rfl
theorem as_7y (v : Value) (w : World) : (Instr.typeAssert (.iface 128 v) 65 128 true).run Tryd.prog w = .ok (.tuple #[v, .bool true]) w := by kernel_rfl
theorem as_70 (v : Value) (w : World) : (Instr.typeAssert (.iface 128 v) 65 116 true).run Tryd.prog w = .ok (.tuple #[.agg #[], .bool false]) w := by kernel_rfl
theorem as_71 (v : Value) (w : World) : (Instr.typeAssert (.iface 128 v) 65 118 true).run Tryd.prog w = .ok (.tuple #[.agg #[.int .i64 0], .bool false]) w := by kernel_rfl
theorem as_72 (v : Value) (w : World) : (Instr.typeAssert (.iface 128 v) 65 120 true).run Tryd.prog w = .ok (.tuple #[.agg #[.string ⟨#[]⟩], .bool false]) w := by kernel_rfl
theorem as_73 (v : Value) (w : World) : (Instr.typeAssert (.iface 128 v) 65 122 true).run Tryd.prog w = .ok (.tuple #[.agg #[.slice none 0 0], .bool false]) w := by kernel_rfl
theorem as_74 (v : Value) (w : World) : (Instr.typeAssert (.iface 128 v) 65 123 true).run Tryd.prog w = .ok (.tuple #[.agg #[.slice none 0 0], .bool false]) w := by kernel_rfl
theorem as_75 (v : Value) (w : World) : (Instr.typeAssert (.iface 128 v) 65 125 true).run Tryd.prog w = .ok (.tuple #[.agg #[.nilIface], .bool false]) w := by kernel_rfl
theorem as_76 (v : Value) (w : World) : (Instr.typeAssert (.iface 128 v) 65 127 true).run Tryd.prog w = .ok (.tuple #[.agg #[.nilIface, .nilIface], .bool false]) w := by kernel_rfl
/-- The contract for fewer nodes. -/
def FindsI (n : Int) (A : Option Addr) (N cap : Nat) (L : List ML) (m : ML) (i z : Nat) : Prop :=
  ∀ (k : KT) (q : Value) (w : World), nodesT k ≤ z → allT k = true → QV w k q → MIn w A N cap L → MxL w → Calls Tryd.prog 53 #[q, boxV n A N cap, .int .i64 (i : Int)] w (SaysB w (findT L m i k))
theorem whole_made1 {w : World} {t : TypeId} {cs : Array Value} {B : Nat} (h : w.heap.size = B) : Whole (w.alloc (.cells cs t)) B t cs := by subst h; exact Whole.made w t cs
theorem below_three {w : World} (a b c : Obj) : Below w.heap.size w (((w.alloc a).alloc b).alloc c) := (((Below.refl _ _).alloc (Nat.le_refl _) _).alloc (by simp) _).alloc (by simp; omega) _
theorem find_is {L : List ML} {m : ML} {i : Nat} {f : Int} {t : ByteArray} {S : List (Int × Int)} {ks : List KT} : findT L m i (.mk 0 f t S ks) = true ∧ findT L m i (.mk 1 f t S ks) = hvI m.2.1 f ∧ findT L m i (.mk 2 f t S ks) = Lib.contains m.2.2 t.data.toList ∧ findT L m i (.mk 3 f t S ks) = hasB S (L.length : Int) ((i : Int) + 1) ∧ findT L m i (.mk 4 f t S ks) = hasB S (lastU L) m.1 := by
  refine ⟨?_, ?_, ?_, ?_, ?_⟩ <;> (rw [findT]; simp)
set_option maxRecDepth 20000 in
set_option maxHeartbeats 4000000 in
theorem finds_all {n : Int} {A : Option Addr} {N cap : Nat} {L : List ML} {m : ML} {i z : Nat} (IH : FindsI n A N cap L m i z) (hb : bOk n L = true) (hi : L[i]? = some m) {f : Int} {t : ByteArray} {S : List (Int × Int)} {ks : List KT} (w : World)
    (hn : nodesT (.mk 0 f t S ks) ≤ z + 1) (ha : allT (.mk 0 f t S ks) = true) (hM : MIn w A N cap L) (hx : MxL w)  :
    Calls Tryd.prog 53 #[.iface 116 (.agg #[]), boxV n A N cap, .int .i64 (i : Int)] w (SaysB w (findT L m i (.mk 0 f t S ks))) := by
  obtain ⟨u, fl, tx⟩ := m
  have HI := Lib.hid hi
  have HM := Lib.hid hM
  have HX := Lib.hid hx
  have HBO := Lib.hid hb
  have HIH := Lib.hid IH
  have hiN : i < N := by rw [← hM.1]; exact (List.getElem?_eq_some_iff.1 hi).1
  have i0 : (0 : Int) ≤ (i : Int) := by omega
  have i1 : (i : Int) < (N : Int) := by omega
  have hN10 : N ≤ 10 := by rw [← hM.1]; exact (bOk_iff.1 hb).2.2.2.2
  have hmo := (bOk_get hb hi).1
  obtain ⟨b, o, rfl, hbz, c0, c1, c2⟩ := mail_at hM.2.2.1 hi
  obtain ⟨hal, hlf, hsh⟩ := all_node ha
  have HE := Lib.hid (find_is (L := L) (m := (u, fl, tx)) (i := i) (f := f) (t := t) (S := S) (ks := ks)).1
  clear hi hM hx hb IH hmo hal hlf hsh hn ha
  have asy := as_0y
  go_enter Tryd.func53, Tryd.ntmps53
  go_wp2
  go_ret
  exact ⟨ret_bool HE.out.symm, below_three _ _ _⟩
set_option maxRecDepth 20000 in
set_option maxHeartbeats 4000000 in
theorem finds_flag {n : Int} {A : Option Addr} {N cap : Nat} {L : List ML} {m : ML} {i z : Nat} (IH : FindsI n A N cap L m i z) (hb : bOk n L = true) (hi : L[i]? = some m) {f : Int} {t : ByteArray} {S : List (Int × Int)} {ks : List KT} (w : World)
    (hn : nodesT (.mk 1 f t S ks) ≤ z + 1) (ha : allT (.mk 1 f t S ks) = true) (hM : MIn w A N cap L) (hx : MxL w)  :
    Calls Tryd.prog 53 #[.iface 118 (.agg #[.int .i64 f]), boxV n A N cap, .int .i64 (i : Int)] w (SaysB w (findT L m i (.mk 1 f t S ks))) := by
  obtain ⟨u, fl, tx⟩ := m
  have HI := Lib.hid hi
  have HM := Lib.hid hM
  have HX := Lib.hid hx
  have HBO := Lib.hid hb
  have HIH := Lib.hid IH
  have hiN : i < N := by rw [← hM.1]; exact (List.getElem?_eq_some_iff.1 hi).1
  have i0 : (0 : Int) ≤ (i : Int) := by omega
  have i1 : (i : Int) < (N : Int) := by omega
  have hN10 : N ≤ 10 := by rw [← hM.1]; exact (bOk_iff.1 hb).2.2.2.2
  have hmo := (bOk_get hb hi).1
  obtain ⟨b, o, rfl, hbz, c0, c1, c2⟩ := mail_at hM.2.2.1 hi
  obtain ⟨hal, hlf, hsh⟩ := all_node ha
  have HE := Lib.hid (find_is (L := L) (m := (u, fl, tx)) (i := i) (f := f) (t := t) (S := S) (ks := ks)).2.1
  clear hi hM hx hb IH hmo hal hlf hsh hn ha
  obtain ⟨B, hB⟩ : ∃ B, w.heap.size = B := ⟨_, rfl⟩
  obtain ⟨w3, hw3⟩ : ∃ w3, (((w.alloc (.cells #[.int .i64 n, .slice (some ⟨b, o, none⟩) N cap] 37)).alloc (.cells #[.int .i64 u, .int .i64 fl, .string (sB tx)] 48)).alloc (.cells #[.int .i64 f] 118)) = w3 := ⟨_, rfl⟩
  have HB3 := Lib.hid (show Below B w w3 by rw [← hw3, ← hB]; exact (((Below.refl _ _).alloc (Nat.le_refl _) _).alloc (by simp) _).alloc (by simp; omega) _)
  have HWX := Lib.hid (show Whole w3 B 37 #[.int .i64 n, .slice (some ⟨b, o, none⟩) N cap] by rw [← hw3, ← hB]; exact ((Whole.made w _ _).alloc _).alloc _)
  have HWM := Lib.hid (show Whole w3 (B + 1) 48 #[.int .i64 u, .int .i64 fl, .string (sB tx)] by rw [← hw3, ← hB]; exact (whole_made1 (by simp)).alloc _)
  have HWQ := Lib.hid (show Whole w3 (B + 1 + 1) 118 #[.int .i64 f] by rw [← hw3, ← hB]; exact whole_made1 (by simp))
  have HMM := Lib.hid (HM.out.below HB3.out (Nat.le_of_eq hB))
  have HXX := Lib.hid (HX.out.below HB3.out (Nat.le_of_eq hB))
  have HW3 := Lib.hid hw3
  have HBB := Lib.hid hB
  clear hw3 hB
  have as0 := as_10
  have asy := as_1y
  go_enter Tryd.func53, Tryd.ntmps53
  go_wp2_with fail
  rw [HW3.out, HBB.out]
  refine (impl_have fl f _).mono ?_
  rintro e w4 ⟨rfl, j, rfl⟩
  go_wp2
  go_ret
  exact ⟨ret_bool HE.out.symm, below_drewN' (HBB.out.symm ▸ HB3.out) j⟩
set_option maxRecDepth 20000 in
set_option maxHeartbeats 4000000 in
theorem finds_text {n : Int} {A : Option Addr} {N cap : Nat} {L : List ML} {m : ML} {i z : Nat} (IH : FindsI n A N cap L m i z) (hb : bOk n L = true) (hi : L[i]? = some m) {f : Int} {t : ByteArray} {S : List (Int × Int)} {ks : List KT} (w : World)
    (hn : nodesT (.mk 2 f t S ks) ≤ z + 1) (ha : allT (.mk 2 f t S ks) = true) (hM : MIn w A N cap L) (hx : MxL w)  :
    Calls Tryd.prog 53 #[.iface 120 (.agg #[.string t]), boxV n A N cap, .int .i64 (i : Int)] w (SaysB w (findT L m i (.mk 2 f t S ks))) := by
  obtain ⟨u, fl, tx⟩ := m
  have HI := Lib.hid hi
  have HM := Lib.hid hM
  have HX := Lib.hid hx
  have HBO := Lib.hid hb
  have HIH := Lib.hid IH
  have hiN : i < N := by rw [← hM.1]; exact (List.getElem?_eq_some_iff.1 hi).1
  have i0 : (0 : Int) ≤ (i : Int) := by omega
  have i1 : (i : Int) < (N : Int) := by omega
  have hN10 : N ≤ 10 := by rw [← hM.1]; exact (bOk_iff.1 hb).2.2.2.2
  have hmo := (bOk_get hb hi).1
  obtain ⟨b, o, rfl, hbz, c0, c1, c2⟩ := mail_at hM.2.2.1 hi
  obtain ⟨hal, hlf, hsh⟩ := all_node ha
  have HE := Lib.hid (find_is (L := L) (m := (u, fl, tx)) (i := i) (f := f) (t := t) (S := S) (ks := ks)).2.2.1
  have htx : (sB tx).size ≤ 16777216 := by rw [sB_size]; have h2 : tx.length ≤ 20 := (mOk_iff.1 hmo).2.2; omega
  obtain ⟨z2, hz2⟩ : ∃ z, Lib.contains (sB tx).data.toList t.data.toList = z := ⟨_, rfl⟩
  have HZ := Lib.hid hz2
  have HE2 : Hid (findT L (u, fl, tx) i (.mk 2 f t S ks) = z2) := Lib.hid (HE.out.trans (by rw [← hz2, sB_list]))
  clear hi hM hx hb IH hmo hal hlf hsh hn ha hz2
  obtain ⟨B, hB⟩ : ∃ B, w.heap.size = B := ⟨_, rfl⟩
  obtain ⟨w3, hw3⟩ : ∃ w3, (((w.alloc (.cells #[.int .i64 n, .slice (some ⟨b, o, none⟩) N cap] 37)).alloc (.cells #[.int .i64 u, .int .i64 fl, .string (sB tx)] 48)).alloc (.cells #[.string t] 120)) = w3 := ⟨_, rfl⟩
  have HB3 := Lib.hid (show Below B w w3 by rw [← hw3, ← hB]; exact (((Below.refl _ _).alloc (Nat.le_refl _) _).alloc (by simp) _).alloc (by simp; omega) _)
  have HWX := Lib.hid (show Whole w3 B 37 #[.int .i64 n, .slice (some ⟨b, o, none⟩) N cap] by rw [← hw3, ← hB]; exact ((Whole.made w _ _).alloc _).alloc _)
  have HWM := Lib.hid (show Whole w3 (B + 1) 48 #[.int .i64 u, .int .i64 fl, .string (sB tx)] by rw [← hw3, ← hB]; exact (whole_made1 (by simp)).alloc _)
  have HWQ := Lib.hid (show Whole w3 (B + 1 + 1) 120 #[.string t] by rw [← hw3, ← hB]; exact whole_made1 (by simp))
  have HMM := Lib.hid (HM.out.below HB3.out (Nat.le_of_eq hB))
  have HXX := Lib.hid (HX.out.below HB3.out (Nat.le_of_eq hB))
  have HW3 := Lib.hid hw3
  have HBB := Lib.hid hB
  clear hw3 hB
  have as0 := as_20
  have as1 := as_21
  have asy := as_2y
  go_enter Tryd.func53, Tryd.ntmps53
  go_wp2_with fail
  rw [HW3.out, HBB.out]
  refine (lib_contains HZ.out _ htx HXX.out).mono ?_
  rintro e w4 ⟨rfl, rfl⟩
  go_wp2
  go_ret
  exact ⟨ret_bool HE2.out.symm, HBB.out.symm ▸ HB3.out⟩
set_option maxRecDepth 20000 in
set_option maxHeartbeats 4000000 in
theorem finds_place {n : Int} {A : Option Addr} {N cap : Nat} {L : List ML} {m : ML} {i z : Nat} (IH : FindsI n A N cap L m i z) (hb : bOk n L = true) (hi : L[i]? = some m) {f : Int} {t : ByteArray} {S : List (Int × Int)} {ks : List KT} (w : World)
    (hn : nodesT (.mk 3 f t S ks) ≤ z + 1) (ha : allT (.mk 3 f t S ks) = true) (hM : MIn w A N cap L) (hx : MxL w) {AS : Option Addr} {cS : Nat} (hsp : SpA w AS S) :
    Calls Tryd.prog 53 #[.iface 122 (.agg #[.slice AS S.length cS]), boxV n A N cap, .int .i64 (i : Int)] w (SaysB w (findT L m i (.mk 3 f t S ks))) := by
  obtain ⟨u, fl, tx⟩ := m
  have HI := Lib.hid hi
  have HM := Lib.hid hM
  have HX := Lib.hid hx
  have HBO := Lib.hid hb
  have HIH := Lib.hid IH
  have hiN : i < N := by rw [← hM.1]; exact (List.getElem?_eq_some_iff.1 hi).1
  have i0 : (0 : Int) ≤ (i : Int) := by omega
  have i1 : (i : Int) < (N : Int) := by omega
  have hN10 : N ≤ 10 := by rw [← hM.1]; exact (bOk_iff.1 hb).2.2.2.2
  have hmo := (bOk_get hb hi).1
  obtain ⟨b, o, rfl, hbz, c0, c1, c2⟩ := mail_at hM.2.2.1 hi
  obtain ⟨hal, hlf, hsh⟩ := all_node ha
  have HE := Lib.hid (find_is (L := L) (m := (u, fl, tx)) (i := i) (f := f) (t := t) (S := S) (ks := ks)).2.2.2.1
  have hsb : setB S = true := by have := hlf; unfold leafB at this; simpa using this
  have HSB := Lib.hid hsb
  have hsl : S.length ≤ 6 := (setB_iff.1 hsb).2.2
  have HS := Lib.hid hsp
  have hh := nums_has (S := S) (last := (N : Int)) (x := (i : Int) + 1) hsb (by omega) (by omega) (by omega)
  have HE2 : Hid (hasI ((numsB S (N : Int)).map fun (n : Nat) => (n : Int)) ((i : Int) + 1) = findT L (u, fl, tx) i (.mk 3 f t S ks)) := Lib.hid (by rw [HE.out, HM.out.1]; exact hh)
  have W1 : IntKind.i64.wrap ((i : Int) + 1) = (i : Int) + 1 := IntWalk.i64_in _ (by omega)
  have hsl2 : S.length ≤ 33554432 := by omega
  clear hi hM hx hb IH hmo hal hlf hsh hn ha hh hsb hsp
  obtain ⟨B, hB⟩ : ∃ B, w.heap.size = B := ⟨_, rfl⟩
  obtain ⟨w3, hw3⟩ : ∃ w3, (((w.alloc (.cells #[.int .i64 n, .slice (some ⟨b, o, none⟩) N cap] 37)).alloc (.cells #[.int .i64 u, .int .i64 fl, .string (sB tx)] 48)).alloc (.cells #[.slice AS S.length cS] 122)) = w3 := ⟨_, rfl⟩
  have HB3 := Lib.hid (show Below B w w3 by rw [← hw3, ← hB]; exact (((Below.refl _ _).alloc (Nat.le_refl _) _).alloc (by simp) _).alloc (by simp; omega) _)
  have HWX := Lib.hid (show Whole w3 B 37 #[.int .i64 n, .slice (some ⟨b, o, none⟩) N cap] by rw [← hw3, ← hB]; exact ((Whole.made w _ _).alloc _).alloc _)
  have HWM := Lib.hid (show Whole w3 (B + 1) 48 #[.int .i64 u, .int .i64 fl, .string (sB tx)] by rw [← hw3, ← hB]; exact (whole_made1 (by simp)).alloc _)
  have HWQ := Lib.hid (show Whole w3 (B + 1 + 1) 122 #[.slice AS S.length cS] by rw [← hw3, ← hB]; exact whole_made1 (by simp))
  have HMM := Lib.hid (HM.out.below HB3.out (Nat.le_of_eq hB))
  have HXX := Lib.hid (HX.out.below HB3.out (Nat.le_of_eq hB))
  have HW3 := Lib.hid hw3
  have HBB := Lib.hid hB
  clear hw3 hB
  have HSS := Lib.hid (HS.out.below HB3.out (Nat.le_of_eq HBB.out))
  have as0 := as_30
  have as1 := as_31
  have as2 := as_32
  have asy := as_3y
  go_enter Tryd.func53, Tryd.ntmps53
  go_wp2_with fail
  rw [HW3.out, HBB.out]
  refine (impl_setnumbers AS cS S (N : Int) _ HSS.out hsl2).mono ?_
  rintro e w4 ⟨v, rfl, ho, hb4⟩
  have hr := ownI_row ho
  obtain ⟨A4, N4, cap4, rfl⟩ := hr.val
  have hl4 := hr.len.1
  have hll := numsB_len S (N : Int)
  rw [List.length_map] at hl4
  have HI4 := Lib.hid (IIn.of hr (by omega))
  have HB4 := Lib.hid (HB3.out.trans (hb4.mono (by have := HWX.out.lt; omega)))
  have HWX4 := Lib.hid (HWX.out.below hb4 HWX.out.lt)
  have HWM4 := Lib.hid (HWM.out.below hb4 HWM.out.lt)
  have HWQ4 := Lib.hid (HWQ.out.below hb4 HWQ.out.lt)
  clear ho hr hb4 hl4 hll
  go_wp2_with fail
  refine (lib_has ((i : Int) + 1) _ HI4.out).mono ?_
  rintro e w5 ⟨rfl, hb5⟩
  have HB5 := Lib.hid (HB4.out.trans (hb5.mono (by have := HWX4.out.lt; omega)))
  clear hb5
  go_wp2
  go_ret
  exact ⟨ret_bool HE2.out, HBB.out.symm ▸ HB5.out⟩
set_option maxRecDepth 20000 in
set_option maxHeartbeats 4000000 in
theorem finds_uid {n : Int} {A : Option Addr} {N cap : Nat} {L : List ML} {m : ML} {i z : Nat} (IH : FindsI n A N cap L m i z) (hb : bOk n L = true) (hi : L[i]? = some m) {f : Int} {t : ByteArray} {S : List (Int × Int)} {ks : List KT} (w : World)
    (hn : nodesT (.mk 4 f t S ks) ≤ z + 1) (ha : allT (.mk 4 f t S ks) = true) (hM : MIn w A N cap L) (hx : MxL w) {AS : Option Addr} {cS : Nat} (hsp : SpA w AS S) :
    Calls Tryd.prog 53 #[.iface 123 (.agg #[.slice AS S.length cS]), boxV n A N cap, .int .i64 (i : Int)] w (SaysB w (findT L m i (.mk 4 f t S ks))) := by
  obtain ⟨u, fl, tx⟩ := m
  have HI := Lib.hid hi
  have HM := Lib.hid hM
  have HX := Lib.hid hx
  have HBO := Lib.hid hb
  have HIH := Lib.hid IH
  have hiN : i < N := by rw [← hM.1]; exact (List.getElem?_eq_some_iff.1 hi).1
  have i0 : (0 : Int) ≤ (i : Int) := by omega
  have i1 : (i : Int) < (N : Int) := by omega
  have hN10 : N ≤ 10 := by rw [← hM.1]; exact (bOk_iff.1 hb).2.2.2.2
  have hmo := (bOk_get hb hi).1
  obtain ⟨b, o, rfl, hbz, c0, c1, c2⟩ := mail_at hM.2.2.1 hi
  obtain ⟨hal, hlf, hsh⟩ := all_node ha
  have HE := Lib.hid (find_is (L := L) (m := (u, fl, tx)) (i := i) (f := f) (t := t) (S := S) (ks := ks)).2.2.2.2
  have hsb : setB S = true := by have := hlf; unfold leafB at this; simpa using this
  have HSB := Lib.hid hsb
  have hsl : S.length ≤ 6 := (setB_iff.1 hsb).2.2
  have HS := Lib.hid hsp
  obtain ⟨⟨lu, lf, lt⟩, hlx, hlu, hl1, hl2, hl3⟩ := last_is hb hi
  have hh := nums_has (S := S) (last := lu) (x := u) hsb hl1 hl2 hl3
  have HE2 : Hid (hasI ((numsB S lu).map fun (n : Nat) => (n : Int)) u = findT L (u, fl, tx) i (.mk 4 f t S ks)) := Lib.hid (by rw [HE.out, hlu]; exact hh)
  rw [hM.1] at hlx
  obtain ⟨b', o', he, _, d0, d1, d2⟩ := mail_at hM.2.2.1 hlx
  cases he
  obtain ⟨N1, hN1⟩ : ∃ N1, N - 1 = N1 := ⟨_, rfl⟩
  rw [hN1] at d0 d1 d2
  have W1 : IntKind.i64.wrap ((N : Int) - 1) = (N1 : Int) := by rw [IntWalk.i64_in _ (by omega)]; omega
  have n0 : (0 : Int) ≤ (N1 : Int) := by omega
  have n1 : (N1 : Int) < (N : Int) := by omega
  have hsl2 : S.length ≤ 33554432 := by omega
  clear hi hM hx hb IH hmo hal hlf hsh hn ha hh hsb hsp hlx hlu hl1 hl2 hl3 hN1 d1 d2
  obtain ⟨B, hB⟩ : ∃ B, w.heap.size = B := ⟨_, rfl⟩
  obtain ⟨w3, hw3⟩ : ∃ w3, (((w.alloc (.cells #[.int .i64 n, .slice (some ⟨b, o, none⟩) N cap] 37)).alloc (.cells #[.int .i64 u, .int .i64 fl, .string (sB tx)] 48)).alloc (.cells #[.slice AS S.length cS] 123)) = w3 := ⟨_, rfl⟩
  have HB3 := Lib.hid (show Below B w w3 by rw [← hw3, ← hB]; exact (((Below.refl _ _).alloc (Nat.le_refl _) _).alloc (by simp) _).alloc (by simp; omega) _)
  have HWX := Lib.hid (show Whole w3 B 37 #[.int .i64 n, .slice (some ⟨b, o, none⟩) N cap] by rw [← hw3, ← hB]; exact ((Whole.made w _ _).alloc _).alloc _)
  have HWM := Lib.hid (show Whole w3 (B + 1) 48 #[.int .i64 u, .int .i64 fl, .string (sB tx)] by rw [← hw3, ← hB]; exact (whole_made1 (by simp)).alloc _)
  have HWQ := Lib.hid (show Whole w3 (B + 1 + 1) 123 #[.slice AS S.length cS] by rw [← hw3, ← hB]; exact whole_made1 (by simp))
  have HMM := Lib.hid (HM.out.below HB3.out (Nat.le_of_eq hB))
  have HXX := Lib.hid (HX.out.below HB3.out (Nat.le_of_eq hB))
  have HW3 := Lib.hid hw3
  have HBB := Lib.hid hB
  clear hw3 hB
  have HSS := Lib.hid (HS.out.below HB3.out (Nat.le_of_eq HBB.out))
  have HSD : Hid (SpA w3.drew AS S) := HSS
  have k0 : w3.cell? ⟨B + 1 + 1, 0, none⟩ = some (.slice AS S.length cS) := HWQ.out.cell 0
  have k1 : w3.cell? ⟨B + 1, 0, none⟩ = some (.int .i64 u) := HWM.out.cell 0
  have kr : (((w.alloc (.cells #[.int .i64 n, .slice (some ⟨b, o, none⟩) N cap] 37)).alloc (.cells #[.int .i64 u, .int .i64 fl, .string (sB tx)] 48)).alloc (.cells #[.slice AS S.length cS] 123)).cell? ⟨b, o + N1 * 3, none⟩ = some (.int .i64 lu) := by rw [HW3.out]; exact (HB3.out.cell (by show b < B; rw [← HBB.out]; exact hbz)).trans d0
  clear d0
  have as0 := as_40
  have as1 := as_41
  have as2 := as_42
  have as3 := as_43
  have asy := as_4y
  go_enter Tryd.func53, Tryd.ntmps53
  go_wp2
  rw [HW3.out, HBB.out]
  go_region_held3 (fun w' => w'.cell? ⟨B + 1 + 1, 0, none⟩ = some (.slice AS S.length cS) ∧ w'.cell? ⟨B + 1, 0, none⟩ = some (.int .i64 u)) (go_keep) (first
    | (go_at_call 37
       refine (impl_setnumbers AS cS S lu _ HSD.out hsl2).mono ?_
       rintro e w4 ⟨v, rfl, ho, hb4⟩
       have hr := ownI_row ho
       obtain ⟨A4, N4, cap4, rfl⟩ := hr.val
       have hl4 := hr.len.1
       have hll := numsB_len S lu
       rw [List.length_map] at hl4
       have HI4 := Lib.hid (IIn.of hr (by omega))
       have hb40 : Below w3.heap.size w3 w4 := (below_drew1 w3).trans hb4
       have HB4 := Lib.hid (HB3.out.trans (hb40.mono (by have := HWX.out.lt; omega)))
       have HWQ4 := Lib.hid (HWQ.out.below hb40 HWQ.out.lt)
       have HWM4 := Lib.hid (HWM.out.below hb40 HWM.out.lt)
       have k3 : w4.cell? ⟨B + 1 + 1, 0, none⟩ = some (.slice AS S.length cS) := (HWQ.out.below hb40 HWQ.out.lt).cell 0
       have k4 : w4.cell? ⟨B + 1, 0, none⟩ = some (.int .i64 u) := (HWM.out.below hb40 HWM.out.lt).cell 0
       clear ho hr hb4 hb40 hl4 hll)
    | (go_at_call 61
       refine (lib_has u _ HI4.out).mono ?_
       rintro e w5 ⟨rfl, hb5⟩
       have HB5 := Lib.hid (HB4.out.trans (hb5.mono (by have := HB4.out.size; have := HBB.out; omega)))
       have k5 : w5.cell? ⟨B + 1 + 1, 0, none⟩ = some (.slice AS S.length cS) := (HWQ4.out.below hb5 HWQ4.out.lt).cell 0
       have k6 : w5.cell? ⟨B + 1, 0, none⟩ = some (.int .i64 u) := (HWM4.out.below hb5 HWM4.out.lt).cell 0
       clear hb5))
  all_goals (
    go_wp2
    go_ret
    exact ⟨ret_bool HE2.out, HBB.out.symm ▸ HB5.out⟩)
set_option maxRecDepth 20000 in
set_option maxHeartbeats 4000000 in
theorem finds_not {n : Int} {A : Option Addr} {N cap : Nat} {L : List ML} {m : ML} {i z : Nat} (IH : FindsI n A N cap L m i z) (hb : bOk n L = true) (hi : L[i]? = some m) {f : Int} {t : ByteArray} {S : List (Int × Int)} {ks : List KT} (w : World)
    (hn : nodesT (.mk 5 f t S ks) ≤ z + 1) (ha : allT (.mk 5 f t S ks) = true) (hM : MIn w A N cap L) (hx : MxL w) {q1 : TypeId} {a1 : Array Value} (hq : QVs w ks [.iface q1 (.agg a1)]) :
    Calls Tryd.prog 53 #[.iface 125 (.agg #[.iface q1 (.agg a1)]), boxV n A N cap, .int .i64 (i : Int)] w (SaysB w (findT L m i (.mk 5 f t S ks))) := by
  obtain ⟨u, fl, tx⟩ := m
  have HI := Lib.hid hi
  have HM := Lib.hid hM
  have HX := Lib.hid hx
  have HBO := Lib.hid hb
  have HIH := Lib.hid IH
  have hiN : i < N := by rw [← hM.1]; exact (List.getElem?_eq_some_iff.1 hi).1
  have i0 : (0 : Int) ≤ (i : Int) := by omega
  have i1 : (i : Int) < (N : Int) := by omega
  have hN10 : N ≤ 10 := by rw [← hM.1]; exact (bOk_iff.1 hb).2.2.2.2
  have hmo := (bOk_get hb hi).1
  obtain ⟨b, o, rfl, hbz, c0, c1, c2⟩ := mail_at hM.2.2.1 hi
  obtain ⟨hal, hlf, hsh⟩ := all_node ha
  obtain ⟨k, rfl, hk⟩ := qvs_one hq
  rw [nodes_one] at hn
  have HK := Lib.hid hk
  have HA := Lib.hid (allL_one hal)
  obtain ⟨r, hr⟩ : ∃ r, findT L (u, fl, tx) i k = r := ⟨_, rfl⟩
  have HR := Lib.hid hr
  have hnz : nodesT k ≤ z := by omega
  clear hi hM hx hb IH hmo hal hlf hsh hn ha hq hk hr
  obtain ⟨B, hB⟩ : ∃ B, w.heap.size = B := ⟨_, rfl⟩
  obtain ⟨w3, hw3⟩ : ∃ w3, (((w.alloc (.cells #[.int .i64 n, .slice (some ⟨b, o, none⟩) N cap] 37)).alloc (.cells #[.int .i64 u, .int .i64 fl, .string (sB tx)] 48)).alloc (.cells #[.iface q1 (.agg a1)] 125)) = w3 := ⟨_, rfl⟩
  have HB3 := Lib.hid (show Below B w w3 by rw [← hw3, ← hB]; exact (((Below.refl _ _).alloc (Nat.le_refl _) _).alloc (by simp) _).alloc (by simp; omega) _)
  have HWX := Lib.hid (show Whole w3 B 37 #[.int .i64 n, .slice (some ⟨b, o, none⟩) N cap] by rw [← hw3, ← hB]; exact ((Whole.made w _ _).alloc _).alloc _)
  have HWM := Lib.hid (show Whole w3 (B + 1) 48 #[.int .i64 u, .int .i64 fl, .string (sB tx)] by rw [← hw3, ← hB]; exact (whole_made1 (by simp)).alloc _)
  have HWQ := Lib.hid (show Whole w3 (B + 1 + 1) 125 #[.iface q1 (.agg a1)] by rw [← hw3, ← hB]; exact whole_made1 (by simp))
  have HMM := Lib.hid (HM.out.below HB3.out (Nat.le_of_eq hB))
  have HXX := Lib.hid (HX.out.below HB3.out (Nat.le_of_eq hB))
  have HW3 := Lib.hid hw3
  have HBB := Lib.hid hB
  clear hw3 hB
  have HKK := Lib.hid (QV.below HB3.out (Nat.le_of_eq HBB.out) k _ HK.out)
  have HC := Lib.hid (HIH.out k _ w3 hnz HA.out HKK.out HMM.out HXX.out)
  rw [HR.out] at HC
  have x1 : w3.cell? ⟨B, 1, none⟩ = some (.slice (some ⟨b, o, none⟩) N cap) := HWX.out.cell 1
  have x0 : w3.cell? ⟨B, 0, none⟩ = some (.int .i64 n) := HWX.out.cell 0
  have q0 : w3.cell? ⟨B + 1 + 1, 0, none⟩ = some (.iface q1 (.agg a1)) := HWQ.out.cell 0
  have as0 := as_50
  have as1 := as_51
  have as2 := as_52
  have as3 := as_53
  have as4 := as_54
  have asy := as_5y
  go_enter Tryd.func53, Tryd.ntmps53
  go_wp2_with fail
  rw [HW3.out, HBB.out]
  refine HC.out.mono ?_
  rintro e w4 ⟨rfl, hb4⟩
  have HB4 := Lib.hid (HB3.out.trans (hb4.mono (by have := HWX.out.lt; omega)))
  clear hb4
  go_wp2
  go_ret
  exact ⟨ret_bool (find_not HR.out).symm, HBB.out.symm ▸ HB4.out⟩
set_option maxRecDepth 20000 in
set_option maxHeartbeats 4000000 in
theorem finds_and {n : Int} {A : Option Addr} {N cap : Nat} {L : List ML} {m : ML} {i z : Nat} (IH : FindsI n A N cap L m i z) (hb : bOk n L = true) (hi : L[i]? = some m) {f : Int} {t : ByteArray} {S : List (Int × Int)} {ks : List KT} (w : World)
    (hn : nodesT (.mk 6 f t S ks) ≤ z + 1) (ha : allT (.mk 6 f t S ks) = true) (hM : MIn w A N cap L) (hx : MxL w) {q1 q2 : TypeId} {a1 a2 : Array Value} (hq : QVs w ks [.iface q1 (.agg a1), .iface q2 (.agg a2)]) :
    Calls Tryd.prog 53 #[.iface 127 (.agg #[.iface q1 (.agg a1), .iface q2 (.agg a2)]), boxV n A N cap, .int .i64 (i : Int)] w (SaysB w (findT L m i (.mk 6 f t S ks))) := by
  obtain ⟨u, fl, tx⟩ := m
  have HI := Lib.hid hi
  have HM := Lib.hid hM
  have HX := Lib.hid hx
  have HBO := Lib.hid hb
  have HIH := Lib.hid IH
  have hiN : i < N := by rw [← hM.1]; exact (List.getElem?_eq_some_iff.1 hi).1
  have i0 : (0 : Int) ≤ (i : Int) := by omega
  have i1 : (i : Int) < (N : Int) := by omega
  have hN10 : N ≤ 10 := by rw [← hM.1]; exact (bOk_iff.1 hb).2.2.2.2
  have hmo := (bOk_get hb hi).1
  obtain ⟨b, o, rfl, hbz, c0, c1, c2⟩ := mail_at hM.2.2.1 hi
  obtain ⟨hal, hlf, hsh⟩ := all_node ha
  obtain ⟨k, k2, rfl, hk, hk2⟩ := qvs_two hq
  rw [nodes_two] at hn
  have HK := Lib.hid hk
  have HK2 := Lib.hid hk2
  have HA := Lib.hid (allL_two hal)
  obtain ⟨r, hr⟩ : ∃ r, findT L (u, fl, tx) i k = r := ⟨_, rfl⟩
  obtain ⟨s, hs⟩ : ∃ s, findT L (u, fl, tx) i k2 = s := ⟨_, rfl⟩
  have HR := Lib.hid hr
  have HS := Lib.hid hs
  have hnz : nodesT k ≤ z := by omega
  have hnz2 : nodesT k2 ≤ z := by omega
  clear hi hM hx hb IH hmo hal hlf hsh hn ha hq hk hk2 hr hs
  obtain ⟨B, hB⟩ : ∃ B, w.heap.size = B := ⟨_, rfl⟩
  obtain ⟨w3, hw3⟩ : ∃ w3, (((w.alloc (.cells #[.int .i64 n, .slice (some ⟨b, o, none⟩) N cap] 37)).alloc (.cells #[.int .i64 u, .int .i64 fl, .string (sB tx)] 48)).alloc (.cells #[.iface q1 (.agg a1), .iface q2 (.agg a2)] 127)) = w3 := ⟨_, rfl⟩
  have HB3 := Lib.hid (show Below B w w3 by rw [← hw3, ← hB]; exact (((Below.refl _ _).alloc (Nat.le_refl _) _).alloc (by simp) _).alloc (by simp; omega) _)
  have HWX := Lib.hid (show Whole w3 B 37 #[.int .i64 n, .slice (some ⟨b, o, none⟩) N cap] by rw [← hw3, ← hB]; exact ((Whole.made w _ _).alloc _).alloc _)
  have HWM := Lib.hid (show Whole w3 (B + 1) 48 #[.int .i64 u, .int .i64 fl, .string (sB tx)] by rw [← hw3, ← hB]; exact (whole_made1 (by simp)).alloc _)
  have HWQ := Lib.hid (show Whole w3 (B + 1 + 1) 127 #[.iface q1 (.agg a1), .iface q2 (.agg a2)] by rw [← hw3, ← hB]; exact whole_made1 (by simp))
  have HMM := Lib.hid (HM.out.below HB3.out (Nat.le_of_eq hB))
  have HXX := Lib.hid (HX.out.below HB3.out (Nat.le_of_eq hB))
  have HW3 := Lib.hid hw3
  have HBB := Lib.hid hB
  clear hw3 hB
  have HKK := Lib.hid (QV.below HB3.out (Nat.le_of_eq HBB.out) k _ HK.out)
  have HKK2 := Lib.hid (QV.below HB3.out (Nat.le_of_eq HBB.out) k2 _ HK2.out)
  have HC := Lib.hid (HIH.out k _ w3 hnz HA.out.1 HKK.out HMM.out HXX.out)
  rw [HR.out] at HC
  have x1 : w3.cell? ⟨B, 1, none⟩ = some (.slice (some ⟨b, o, none⟩) N cap) := HWX.out.cell 1
  have x0 : w3.cell? ⟨B, 0, none⟩ = some (.int .i64 n) := HWX.out.cell 0
  have q0 : w3.cell? ⟨B + 1 + 1, 0, none⟩ = some (.iface q1 (.agg a1)) := HWQ.out.cell 0
  have as0 := as_60
  have as1 := as_61
  have as2 := as_62
  have as3 := as_63
  have as4 := as_64
  have as5 := as_65
  have asy := as_6y
  cases r with
  | false =>
    go_enter Tryd.func53, Tryd.ntmps53
    go_wp2_with fail
    rw [HW3.out, HBB.out]
    refine HC.out.mono ?_
    rintro e w4 ⟨rfl, hb4⟩
    have HB4 := Lib.hid (HB3.out.trans (hb4.mono (by have := HWX.out.lt; omega)))
    clear hb4
    go_wp2
    go_ret
    exact ⟨ret_bool ((find_and HR.out HS.out).trans (by simp)).symm, HBB.out.symm ▸ HB4.out⟩
  | true =>
    go_enter Tryd.func53, Tryd.ntmps53
    go_wp2_with fail
    rw [HW3.out, HBB.out]
    refine HC.out.mono ?_
    rintro e w4 ⟨rfl, hb4⟩
    have HB4 := Lib.hid (HB3.out.trans (hb4.mono (by have := HWX.out.lt; omega)))
    have HWX4 := Lib.hid (HWX.out.below hb4 HWX.out.lt)
    have HWQ4 := Lib.hid (HWQ.out.below hb4 HWQ.out.lt)
    have HKK4 := Lib.hid (QV.below hb4 (Nat.le_refl _) k2 _ HKK2.out)
    have HM4 := Lib.hid (HMM.out.below hb4 (Nat.le_refl _))
    have HX4 := Lib.hid (HXX.out.below hb4 (Nat.le_refl _))
    have HC2 := Lib.hid (HIH.out k2 _ w4 hnz2 HA.out.2 HKK4.out HM4.out HX4.out)
    rw [HS.out] at HC2
    have x14 : w4.cell? ⟨B, 1, none⟩ = some (.slice (some ⟨b, o, none⟩) N cap) := HWX4.out.cell 1
    have x04 : w4.cell? ⟨B, 0, none⟩ = some (.int .i64 n) := HWX4.out.cell 0
    have q1' : w4.cell? ⟨B + 1 + 1, 1, none⟩ = some (.iface q2 (.agg a2)) := HWQ4.out.cell 1
    clear hb4 x0 x1 q0
    go_wp2_with fail
    refine HC2.out.mono ?_
    rintro e w5 ⟨rfl, hb5⟩
    have HB5 := Lib.hid (HB4.out.trans (hb5.mono (by have := HWX4.out.lt; omega)))
    clear hb5
    go_wp2
    go_ret
    exact ⟨ret_bool ((find_and HR.out HS.out).trans (by simp)).symm, HBB.out.symm ▸ HB5.out⟩
set_option maxRecDepth 20000 in
set_option maxHeartbeats 4000000 in
theorem finds_or {n : Int} {A : Option Addr} {N cap : Nat} {L : List ML} {m : ML} {i z : Nat} (IH : FindsI n A N cap L m i z) (hb : bOk n L = true) (hi : L[i]? = some m) {f : Int} {t : ByteArray} {S : List (Int × Int)} {ks : List KT} (w : World)
    (hn : nodesT (.mk 7 f t S ks) ≤ z + 1) (ha : allT (.mk 7 f t S ks) = true) (hM : MIn w A N cap L) (hx : MxL w) {q1 q2 : TypeId} {a1 a2 : Array Value} (hq : QVs w ks [.iface q1 (.agg a1), .iface q2 (.agg a2)]) :
    Calls Tryd.prog 53 #[.iface 128 (.agg #[.iface q1 (.agg a1), .iface q2 (.agg a2)]), boxV n A N cap, .int .i64 (i : Int)] w (SaysB w (findT L m i (.mk 7 f t S ks))) := by
  obtain ⟨u, fl, tx⟩ := m
  have HI := Lib.hid hi
  have HM := Lib.hid hM
  have HX := Lib.hid hx
  have HBO := Lib.hid hb
  have HIH := Lib.hid IH
  have hiN : i < N := by rw [← hM.1]; exact (List.getElem?_eq_some_iff.1 hi).1
  have i0 : (0 : Int) ≤ (i : Int) := by omega
  have i1 : (i : Int) < (N : Int) := by omega
  have hN10 : N ≤ 10 := by rw [← hM.1]; exact (bOk_iff.1 hb).2.2.2.2
  have hmo := (bOk_get hb hi).1
  obtain ⟨b, o, rfl, hbz, c0, c1, c2⟩ := mail_at hM.2.2.1 hi
  obtain ⟨hal, hlf, hsh⟩ := all_node ha
  obtain ⟨k, k2, rfl, hk, hk2⟩ := qvs_two hq
  rw [nodes_two] at hn
  have HK := Lib.hid hk
  have HK2 := Lib.hid hk2
  have HA := Lib.hid (allL_two hal)
  obtain ⟨r, hr⟩ : ∃ r, findT L (u, fl, tx) i k = r := ⟨_, rfl⟩
  obtain ⟨s, hs⟩ : ∃ s, findT L (u, fl, tx) i k2 = s := ⟨_, rfl⟩
  have HR := Lib.hid hr
  have HS := Lib.hid hs
  have hnz : nodesT k ≤ z := by omega
  have hnz2 : nodesT k2 ≤ z := by omega
  clear hi hM hx hb IH hmo hal hlf hsh hn ha hq hk hk2 hr hs
  obtain ⟨B, hB⟩ : ∃ B, w.heap.size = B := ⟨_, rfl⟩
  obtain ⟨w3, hw3⟩ : ∃ w3, (((w.alloc (.cells #[.int .i64 n, .slice (some ⟨b, o, none⟩) N cap] 37)).alloc (.cells #[.int .i64 u, .int .i64 fl, .string (sB tx)] 48)).alloc (.cells #[.iface q1 (.agg a1), .iface q2 (.agg a2)] 128)) = w3 := ⟨_, rfl⟩
  have HB3 := Lib.hid (show Below B w w3 by rw [← hw3, ← hB]; exact (((Below.refl _ _).alloc (Nat.le_refl _) _).alloc (by simp) _).alloc (by simp; omega) _)
  have HWX := Lib.hid (show Whole w3 B 37 #[.int .i64 n, .slice (some ⟨b, o, none⟩) N cap] by rw [← hw3, ← hB]; exact ((Whole.made w _ _).alloc _).alloc _)
  have HWM := Lib.hid (show Whole w3 (B + 1) 48 #[.int .i64 u, .int .i64 fl, .string (sB tx)] by rw [← hw3, ← hB]; exact (whole_made1 (by simp)).alloc _)
  have HWQ := Lib.hid (show Whole w3 (B + 1 + 1) 128 #[.iface q1 (.agg a1), .iface q2 (.agg a2)] by rw [← hw3, ← hB]; exact whole_made1 (by simp))
  have HMM := Lib.hid (HM.out.below HB3.out (Nat.le_of_eq hB))
  have HXX := Lib.hid (HX.out.below HB3.out (Nat.le_of_eq hB))
  have HW3 := Lib.hid hw3
  have HBB := Lib.hid hB
  clear hw3 hB
  have HKK := Lib.hid (QV.below HB3.out (Nat.le_of_eq HBB.out) k _ HK.out)
  have HKK2 := Lib.hid (QV.below HB3.out (Nat.le_of_eq HBB.out) k2 _ HK2.out)
  have HC := Lib.hid (HIH.out k _ w3 hnz HA.out.1 HKK.out HMM.out HXX.out)
  rw [HR.out] at HC
  have x1 : w3.cell? ⟨B, 1, none⟩ = some (.slice (some ⟨b, o, none⟩) N cap) := HWX.out.cell 1
  have x0 : w3.cell? ⟨B, 0, none⟩ = some (.int .i64 n) := HWX.out.cell 0
  have q0 : w3.cell? ⟨B + 1 + 1, 0, none⟩ = some (.iface q1 (.agg a1)) := HWQ.out.cell 0
  have as0 := as_70
  have as1 := as_71
  have as2 := as_72
  have as3 := as_73
  have as4 := as_74
  have as5 := as_75
  have as6 := as_76
  have asy := as_7y
  cases r with
  | true =>
    go_enter Tryd.func53, Tryd.ntmps53
    go_wp2_with fail
    rw [HW3.out, HBB.out]
    refine HC.out.mono ?_
    rintro e w4 ⟨rfl, hb4⟩
    have HB4 := Lib.hid (HB3.out.trans (hb4.mono (by have := HWX.out.lt; omega)))
    clear hb4
    go_wp2
    go_ret
    exact ⟨ret_bool ((find_or HR.out HS.out).trans (by simp)).symm, HBB.out.symm ▸ HB4.out⟩
  | false =>
    go_enter Tryd.func53, Tryd.ntmps53
    go_wp2_with fail
    rw [HW3.out, HBB.out]
    refine HC.out.mono ?_
    rintro e w4 ⟨rfl, hb4⟩
    have HB4 := Lib.hid (HB3.out.trans (hb4.mono (by have := HWX.out.lt; omega)))
    have HWX4 := Lib.hid (HWX.out.below hb4 HWX.out.lt)
    have HWQ4 := Lib.hid (HWQ.out.below hb4 HWQ.out.lt)
    have HKK4 := Lib.hid (QV.below hb4 (Nat.le_refl _) k2 _ HKK2.out)
    have HM4 := Lib.hid (HMM.out.below hb4 (Nat.le_refl _))
    have HX4 := Lib.hid (HXX.out.below hb4 (Nat.le_refl _))
    have HC2 := Lib.hid (HIH.out k2 _ w4 hnz2 HA.out.2 HKK4.out HM4.out HX4.out)
    rw [HS.out] at HC2
    have x14 : w4.cell? ⟨B, 1, none⟩ = some (.slice (some ⟨b, o, none⟩) N cap) := HWX4.out.cell 1
    have x04 : w4.cell? ⟨B, 0, none⟩ = some (.int .i64 n) := HWX4.out.cell 0
    have q1' : w4.cell? ⟨B + 1 + 1, 1, none⟩ = some (.iface q2 (.agg a2)) := HWQ4.out.cell 1
    clear hb4 x0 x1 q0
    go_wp2_with fail
    refine HC2.out.mono ?_
    rintro e w5 ⟨rfl, hb5⟩
    have HB5 := Lib.hid (HB4.out.trans (hb5.mono (by have := HWX4.out.lt; omega)))
    clear hb5
    go_wp2
    go_ret
    exact ⟨ret_bool ((find_or HR.out HS.out).trans (by simp)).symm, HBB.out.symm ▸ HB5.out⟩
end Go.Proofs.YtpihibconbejlaaDoor
namespace Go.Proofs.YtpihibconbejlaaDoor
open Go.RowKit
set_option linter.unusedVariables false

theorem sgrow_own {w w1 w2 : World} {b : Nat} {row : Option Nat} (h : w.grownBy w1 (some b)) (hg : w1.grownBy w2 row) (hr : ∀ g, row = some g → w.heap.size ≤ g) : w.grownBy w2 (some b) :=
  ⟨hg.os.trans h.os, hg.tape.trans h.tape, hg.output.trans h.output, Nat.le_trans h.size hg.size, fun i hi hn => (hg.block i (Nat.lt_of_lt_of_le hi h.size) (fun e => by have := hr i e.symm; omega)).trans (h.block i hi hn)⟩
theorem Rd.keptRow {w w' : World} {b p : Nat} {row : Option Nat} (h : Rd w b p) (hg : w.grownBy w' row) (hb : ∀ g, row = some g → b < g) : Rd w' b p := by
  cases row with
  | none => exact h.below ⟨hg.os, hg.tape, hg.output, hg.size, fun k hk => hg.block k hk (by simp)⟩ h.lt
  | some g => exact h.grown hg (hb g rfl)
/-- A drawn number. -/
def DrewN (w : World) (b p : Nat) (e : Ending) (w' : World) : Prop := ∃ (z : Int) (q : Nat), -1 ≤ z ∧ z ≤ 100 ∧ q ≤ p + 2 ∧ e = .returned (.int .i64 z) ∧ Rd w' b q ∧ w.grownBy w' (some b)
theorem five_at {y : Nat} (h : y < 5) : ∃ z : Int, -1 ≤ z ∧ z ≤ 100 ∧ (#[Value.int .i64 0, .int .i64 99, .int .i64 100, .int .i64 (-1), .int .i64 50] : Array Value)[y]? = some (.int .i64 z) := by
  match y, h with
  | 0, _ => exact ⟨0, by omega, by omega, rfl⟩
  | 1, _ => exact ⟨99, by omega, by omega, rfl⟩
  | 2, _ => exact ⟨100, by omega, by omega, rfl⟩
  | 3, _ => exact ⟨-1, by omega, by omega, rfl⟩
  | 4, _ => exact ⟨50, by omega, by omega, rfl⟩
set_option maxHeartbeats 2000000 in
theorem number_draw (b p : Nat) (w : World) (h : Rd w b p) (hp : p ≤ 900000) :
    Calls Tryd.prog 88 #[.pointer (some ⟨b, 0, none⟩)] w (DrewN w b p) := by
  have H := Lib.hid h
  clear h
  go_enter Tryd.func88, Tryd.ntmps88
  go_wp2_with fail
  refine (pick_any b p 10 w H.out (by omega) (by omega) (by omega)).mono ?_
  rintro e w1 ⟨x, hx, rfl, hr, hg⟩
  have HR := Lib.hid hr
  have HG := Lib.hid hg
  clear hr hg
  by_cases h0 : x = 0
  · subst h0
    go_wp2_with fail
    refine (pick_any b (p + 1) 5 _ (HR.out.below ((Below.refl w1.heap.size w1).alloc (Nat.le_refl _) _) HR.out.lt) (by omega) (by omega) (by omega)).mono ?_
    rintro e w2 ⟨y, hy, rfl, hr, hg⟩
    obtain ⟨z, z1, z2, hz⟩ := five_at hy
    have hbl := HR.out.lt
    have hc : w2.cell? ⟨w1.heap.size, y, none⟩ = some (.int .i64 z) := (((Whole.made w1 3 #[.int .i64 0, .int .i64 99, .int .i64 100, .int .i64 (-1), .int .i64 50]).grown hg (by simp; omega)).cell y).trans hz
    have y0 : (0 : Int) ≤ (y : Int) := by omega
    have y5 : (y : Int) < 5 := by omega
    have H2 := Lib.hid (And.intro hr (gr_trans (gr_alloc HG.out _) hg))
    clear hr hg hz
    go_wp2_with fail
    go_ret
    exact ⟨z, _, z1, z2, by omega, rfl, H2.out.1, H2.out.2⟩
  · have h0' : ((x : Int) == 0) = false := beq_eq_false_iff_ne.2 (by omega)
    clear h0
    go_wp2_with fail
    refine (pick_any b (p + 1) 12 _ HR.out (by omega) (by omega) (by omega)).mono ?_
    rintro e w2 ⟨y, hy, rfl, hr, hg⟩
    have H2 := Lib.hid (And.intro hr (gr_trans HG.out hg))
    clear hr hg
    go_wp2_with fail
    go_ret
    exact ⟨y, _, by omega, by omega, by omega, rfl, H2.out.1, H2.out.2⟩
theorem own_ne {w : World} {B : Nat} {v : Value} {L : List (Int × Int)} (h : Own w B v L) : v.ownBlock ≠ some w.heap.size := fun e => by
  have := (World.ownsRow.lt h _ e).2
  omega
theorem own_store {w : World} {B : Nat} {v : Value} {L : List (Int × Int)} (h : Own w B v L) {p : Addr} (hne : v.ownBlock ≠ some p.block) (u : Value) : Own (w.setCell p u) B v L :=
  World.ownsRow.kept (row := some p.block) h ⟨rfl, rfl, rfl, by simp [World.setCell], fun k hk hn => Below.heap_setCell w p u k (fun e => hn (by rw [e]))⟩ (.inr hne)
theorem gr_store' {a w : World} {g : Nat} (h : a.grownBy w (some g)) {p : Addr} (hp : a.heap.size ≤ p.block) (u : Value) : a.grownBy (w.setCell p u) (some g) := gr_store h (.inr hp) u
/-- A drawn set. -/
def DrewS (w : World) (b p : Nat) (e : Ending) (w' : World) : Prop := ∃ (v : Value) (L : List (Int × Int)) (q : Nat), L.length ≤ 8 ∧ q ≤ p + 50 ∧ e = .returned v ∧ Rd w' b q ∧ w.grownBy w' (some b) ∧ Own w' w.heap.size v L
set_option maxRecDepth 20000 in
set_option maxHeartbeats 4000000 in
theorem set_draw (b p : Nat) (w : World) (h : Rd w b p) (hp : p ≤ 800000) :
    Calls Tryd.prog 58 #[.pointer (some ⟨b, 0, none⟩)] w (DrewS w b p) := by
  obtain ⟨i0, hi, hq0, hq1, hq2⟩ := info_parts Tryd.infoSpan
  have hbl := h.lt
  have H := Lib.hid (h.below ((Below.refl w.heap.size w).alloc (Nat.le_refl _) (.cells #[] 108)) hbl)
  have HO := Lib.hid (Own.lit w (Nat.le_refl w.heap.size))
  clear h
  go_enter Tryd.func58, Tryd.ntmps58
  go_wp2_with fail
  refine (pick_any b p 3 _ H.out (by omega) (by omega) (by omega)).mono ?_
  rintro e w1 ⟨n0, hn0, rfl, hr, hg⟩
  have HR1 := Lib.hid hr
  have HG1 := Lib.hid (gr_trans (gr_alloc (gr_refl w (some b)) (.cells #[] 108)) hg)
  have HO1 := Lib.hid (HO.out.grown hg hbl)
  clear hr hg
  obtain ⟨n1, hn1⟩ : ∃ n1, 1 + n0 = n1 := ⟨_, rfl⟩
  have E1 : (1 : Int) + (n0 : Int) = (n1 : Int) := by omega
  have hn1' : n1 ≤ 8 := by omega
  clear hn1
  go_wp2_with fail
  refine (pick_any b (p + 1) 16 _ HR1.out (by omega) (by omega) (by omega)).mono ?_
  rintro e w2 ⟨x0, hx0, rfl, hr, hg⟩
  have HR2 := Lib.hid hr
  have HG2 := Lib.hid (gr_trans HG1.out hg)
  have HO2 := Lib.hid (HO1.out.grown hg hbl)
  clear hr hg HR1 HG1 HO1
  by_cases h0 : x0 = 0
  · subst h0
    clear hn1'
    go_wp2_with fail
    refine (pick_any b (p + 1 + 1) 9 _ HR2.out (by omega) (by omega) (by omega)).mono ?_
    rintro e w3 ⟨n2, hn2, rfl, hr, hg⟩
    have HR3 := Lib.hid hr
    have HG3 := Lib.hid (gr_trans HG2.out hg)
    have HO3 := Lib.hid (HO2.out.grown hg hbl)
    clear hr hg HR2 HG2 HO2
    have HR2 := HR3
    have HG2 := HG3
    have HO2 := HO3
    clear HR3 HG3 HO3
    go_wp2
    go_loopw [3, 5] (fun v i wr => ∃ (q : Nat) (L : List (Int × Int)), L.length ≤ n2 ∧ i = .int .i64 (L.length : Int) ∧ q ≤ p + 3 + 5 * L.length ∧ Hid (Rd wr b q) ∧ Hid (w.grownBy wr (some b)) ∧ Hid (Own wr w.heap.size v L)) (fun _ i _ => n2 - (intOf i).toNat)
    case atStart => exact ⟨_, [], Nat.zero_le _, by go_num, by simp only [List.length_nil]; omega, HR2, HG2, HO2⟩
    case round =>
      obtain ⟨q, L, hk, rfl, hq, HR, HG, HO⟩ := hrel
      by_cases hlt : L.length < n2
      · have i1 : (L.length : Int) < (n2 : Int) := by omega
        go_wp2_with fail
        refine (number_draw b q _ HR.out (by omega)).mono ?_
        rintro e wa ⟨x, qa, hx1, hx2, hqa, rfl, hr, hg⟩
        have HRa := Lib.hid hr
        have HGa := Lib.hid (gr_trans HG.out hg)
        have HOa := Lib.hid (HO.out.grown hg hbl)
        have hza := HGa.out.size
        have hla := hr.lt
        clear hr hg HR HG HO
        go_wp2_with fail
        refine (pick_any b qa 2 _ (HRa.out.below ((Below.refl wa.heap.size wa).alloc (Nat.le_refl _) (.cells #[.int .i64 x, .int .i64 x] 108)) HRa.out.lt) (by omega) (by omega) (by omega)).mono ?_
        rintro e wb ⟨y, hy, rfl, hr, hg⟩
        have HW := Lib.hid ((Whole.made wa 108 #[.int .i64 x, .int .i64 x]).grown hg (by simp; omega))
        have HRb := Lib.hid hr
        have HGb := Lib.hid (gr_trans (gr_alloc HGa.out _) hg)
        have HNE := Lib.hid (own_ne HOa.out)
        have HOb := Lib.hid ((HOa.out.alloc (.cells #[.int .i64 x, .int .i64 x] 108)).grown hg hbl)
        clear hr hg HRa HOa
        have hml : L.length + 1 ≤ maxLen := by unfold maxLen; omega
        have hby : (L.length + 1) * 16 ≤ 140737488355328 := by omega
        by_cases hy0 : y = 0
        · subst hy0
          go_wp2_with fail
          refine (number_draw b (qa + 1) _ HRb.out (by omega)).mono ?_
          rintro e wc ⟨z, qc, hz1, hz2, hqc, rfl, hr, hg⟩
          have hW := HW.out.grown hg (by simp; omega)
          have hc0 : wc.cell? ⟨wa.heap.size, 0, none⟩ = some (.int .i64 x) := hW.cell 0
          have hc1 : wc.cell? ⟨wa.heap.size, 1, none⟩ = some (.int .i64 x) := hW.cell 1
          have hf1 := hW.free 1
          have HRc := Lib.hid (show Rd (wc.setCell ⟨wa.heap.size, 1, none⟩ (.int .i64 z)) b qc from hr.below ((Below.refl (b + 1) wc).setCell (p := ⟨wa.heap.size, 1, none⟩) (by simp; omega) _) (Nat.lt_succ_self b))
          have HGc := Lib.hid (gr_store' (gr_trans HGb.out hg) (p := ⟨wa.heap.size, 1, none⟩) (by simp; omega) (.int .i64 z))
          have HOc := Lib.hid (own_store (HOb.out.grown hg hbl) (p := ⟨wa.heap.size, 1, none⟩) HNE.out (.int .i64 z))
          clear hr hg hW HRb HGb HOb HW HNE
          have hown := HOc.out.alloc (.cells #[.int .i64 x, .int .i64 z] 108)
          have hnews := two_new' (wc.setCell ⟨wa.heap.size, 1, none⟩ (.int .i64 z)) (.int .i64 x) (.int .i64 z) 108 wc.heap.size (by simp [World.setCell])
          have hba : w.heap.size ≤ ((wc.setCell ⟨wa.heap.size, 1, none⟩ (.int .i64 z)).alloc (.cells #[.int .i64 x, .int .i64 z] 108)).heap.size := by have := HGc.out.size; simp at this ⊢; omega
          go_wp2_with (at_builtin; refine wpList_append_own _ rfl _ _ 23 rfl w.heap.size 108 i0 (.agg #[.int .i64 0, .int .i64 0]) 2 16 Tryd.underlying23 hi hq0 hq1 hq2 rfl (by decide) _ _ _ rfl (hown.row rfl) _ 1 1 [.int .i64 x, .int .i64 z] rfl rfl hnews (two_one _ _) hml hby hba ?_)
          intro v' wd hown2 hgrow _
          have hrow : ∀ g, Value.ownBlock _ = some g → w.heap.size ≤ g := fun g e => (World.ownsRow.lt hown g e).1
          have HGd := Lib.hid (sgrow_own (gr_alloc HGc.out _) hgrow hrow)
          have HRd := Lib.hid ((HRc.out.below ((Below.refl _ _).alloc (Nat.le_refl _) _) HRc.out.lt).keptRow hgrow (fun g e => by have := hrow g e; omega))
          have HOd := Lib.hid (Own.push hown2 rfl)
          clear hown hnews hba hown2 hgrow hrow hml hby
          go_wp2
          go_roundw
          case rel => exact ⟨qc, L ++ [(x, z)], by rw [List.length_append, List.length_singleton]; omega, by rw [List.length_append, List.length_singleton]; go_num, by rw [List.length_append, List.length_singleton]; omega, HRd, HGd, HOd⟩
          case measure => simp [intOf]; omega
        · have hy0' : ((y : Int) == 0) = false := beq_eq_false_iff_ne.2 (by omega)
          have hc0 : wb.cell? ⟨wa.heap.size, 0, none⟩ = some (.int .i64 x) := HW.out.cell 0
          have hc1 : wb.cell? ⟨wa.heap.size, 1, none⟩ = some (.int .i64 x) := HW.out.cell 1
          clear hy0 HW HNE
          have hown := HOb.out.alloc (.cells #[.int .i64 x, .int .i64 x] 108)
          have hnews := two_new' wb (.int .i64 x) (.int .i64 x) 108 wb.heap.size rfl
          have hba : w.heap.size ≤ (wb.alloc (.cells #[.int .i64 x, .int .i64 x] 108)).heap.size := by have := HGb.out.size; simp at this ⊢; omega
          go_wp2_with (at_builtin; refine wpList_append_own _ rfl _ _ 23 rfl w.heap.size 108 i0 (.agg #[.int .i64 0, .int .i64 0]) 2 16 Tryd.underlying23 hi hq0 hq1 hq2 rfl (by decide) _ _ _ rfl (hown.row rfl) _ 1 1 [.int .i64 x, .int .i64 x] rfl rfl hnews (two_one _ _) hml hby hba ?_)
          intro v' wd hown2 hgrow _
          have hrow : ∀ g, Value.ownBlock _ = some g → w.heap.size ≤ g := fun g e => (World.ownsRow.lt hown g e).1
          have HGd := Lib.hid (sgrow_own (gr_alloc HGb.out _) hgrow hrow)
          have HRd := Lib.hid ((HRb.out.below ((Below.refl _ _).alloc (Nat.le_refl _) _) HRb.out.lt).keptRow hgrow (fun g e => by have := hrow g e; omega))
          have HOd := Lib.hid (Own.push hown2 rfl)
          clear hown hnews hba hown2 hgrow hrow hml hby
          go_wp2
          go_roundw
          case rel => exact ⟨(qa + 1), L ++ [(x, x)], by rw [List.length_append, List.length_singleton]; omega, by rw [List.length_append, List.length_singleton]; go_num, by rw [List.length_append, List.length_singleton]; omega, HRd, HGd, HOd⟩
          case measure => simp [intOf]; omega
      · have i1 : ¬ (L.length : Int) < (n2 : Int) := by omega
        go_wp2
        go_ret
        exact ⟨_, L, q, by omega, by omega, rfl, HR.out, HG.out, HO.out⟩
  · have h0' : ((x0 : Int) == 0) = false := beq_eq_false_iff_ne.2 (by omega)
    clear h0
    go_wp2
    go_loopw [3, 5] (fun v i wr => ∃ (q : Nat) (L : List (Int × Int)), L.length ≤ n1 ∧ i = .int .i64 (L.length : Int) ∧ q ≤ p + 3 + 5 * L.length ∧ Hid (Rd wr b q) ∧ Hid (w.grownBy wr (some b)) ∧ Hid (Own wr w.heap.size v L)) (fun _ i _ => n1 - (intOf i).toNat)
    case atStart => exact ⟨_, [], Nat.zero_le _, by go_num, by simp only [List.length_nil]; omega, HR2, HG2, HO2⟩
    case round =>
      obtain ⟨q, L, hk, rfl, hq, HR, HG, HO⟩ := hrel
      by_cases hlt : L.length < n1
      · have i1 : (L.length : Int) < (n1 : Int) := by omega
        go_wp2_with fail
        refine (number_draw b q _ HR.out (by omega)).mono ?_
        rintro e wa ⟨x, qa, hx1, hx2, hqa, rfl, hr, hg⟩
        have HRa := Lib.hid hr
        have HGa := Lib.hid (gr_trans HG.out hg)
        have HOa := Lib.hid (HO.out.grown hg hbl)
        have hza := HGa.out.size
        have hla := hr.lt
        clear hr hg HR HG HO
        go_wp2_with fail
        refine (pick_any b qa 2 _ (HRa.out.below ((Below.refl wa.heap.size wa).alloc (Nat.le_refl _) (.cells #[.int .i64 x, .int .i64 x] 108)) HRa.out.lt) (by omega) (by omega) (by omega)).mono ?_
        rintro e wb ⟨y, hy, rfl, hr, hg⟩
        have HW := Lib.hid ((Whole.made wa 108 #[.int .i64 x, .int .i64 x]).grown hg (by simp; omega))
        have HRb := Lib.hid hr
        have HGb := Lib.hid (gr_trans (gr_alloc HGa.out _) hg)
        have HNE := Lib.hid (own_ne HOa.out)
        have HOb := Lib.hid ((HOa.out.alloc (.cells #[.int .i64 x, .int .i64 x] 108)).grown hg hbl)
        clear hr hg HRa HOa
        have hml : L.length + 1 ≤ maxLen := by unfold maxLen; omega
        have hby : (L.length + 1) * 16 ≤ 140737488355328 := by omega
        by_cases hy0 : y = 0
        · subst hy0
          go_wp2_with fail
          refine (number_draw b (qa + 1) _ HRb.out (by omega)).mono ?_
          rintro e wc ⟨z, qc, hz1, hz2, hqc, rfl, hr, hg⟩
          have hW := HW.out.grown hg (by simp; omega)
          have hc0 : wc.cell? ⟨wa.heap.size, 0, none⟩ = some (.int .i64 x) := hW.cell 0
          have hc1 : wc.cell? ⟨wa.heap.size, 1, none⟩ = some (.int .i64 x) := hW.cell 1
          have hf1 := hW.free 1
          have HRc := Lib.hid (show Rd (wc.setCell ⟨wa.heap.size, 1, none⟩ (.int .i64 z)) b qc from hr.below ((Below.refl (b + 1) wc).setCell (p := ⟨wa.heap.size, 1, none⟩) (by simp; omega) _) (Nat.lt_succ_self b))
          have HGc := Lib.hid (gr_store' (gr_trans HGb.out hg) (p := ⟨wa.heap.size, 1, none⟩) (by simp; omega) (.int .i64 z))
          have HOc := Lib.hid (own_store (HOb.out.grown hg hbl) (p := ⟨wa.heap.size, 1, none⟩) HNE.out (.int .i64 z))
          clear hr hg hW HRb HGb HOb HW HNE
          have hown := HOc.out.alloc (.cells #[.int .i64 x, .int .i64 z] 108)
          have hnews := two_new' (wc.setCell ⟨wa.heap.size, 1, none⟩ (.int .i64 z)) (.int .i64 x) (.int .i64 z) 108 wc.heap.size (by simp [World.setCell])
          have hba : w.heap.size ≤ ((wc.setCell ⟨wa.heap.size, 1, none⟩ (.int .i64 z)).alloc (.cells #[.int .i64 x, .int .i64 z] 108)).heap.size := by have := HGc.out.size; simp at this ⊢; omega
          go_wp2_with (at_builtin; refine wpList_append_own _ rfl _ _ 23 rfl w.heap.size 108 i0 (.agg #[.int .i64 0, .int .i64 0]) 2 16 Tryd.underlying23 hi hq0 hq1 hq2 rfl (by decide) _ _ _ rfl (hown.row rfl) _ 1 1 [.int .i64 x, .int .i64 z] rfl rfl hnews (two_one _ _) hml hby hba ?_)
          intro v' wd hown2 hgrow _
          have hrow : ∀ g, Value.ownBlock _ = some g → w.heap.size ≤ g := fun g e => (World.ownsRow.lt hown g e).1
          have HGd := Lib.hid (sgrow_own (gr_alloc HGc.out _) hgrow hrow)
          have HRd := Lib.hid ((HRc.out.below ((Below.refl _ _).alloc (Nat.le_refl _) _) HRc.out.lt).keptRow hgrow (fun g e => by have := hrow g e; omega))
          have HOd := Lib.hid (Own.push hown2 rfl)
          clear hown hnews hba hown2 hgrow hrow hml hby
          go_wp2
          go_roundw
          case rel => exact ⟨qc, L ++ [(x, z)], by rw [List.length_append, List.length_singleton]; omega, by rw [List.length_append, List.length_singleton]; go_num, by rw [List.length_append, List.length_singleton]; omega, HRd, HGd, HOd⟩
          case measure => simp [intOf]; omega
        · have hy0' : ((y : Int) == 0) = false := beq_eq_false_iff_ne.2 (by omega)
          have hc0 : wb.cell? ⟨wa.heap.size, 0, none⟩ = some (.int .i64 x) := HW.out.cell 0
          have hc1 : wb.cell? ⟨wa.heap.size, 1, none⟩ = some (.int .i64 x) := HW.out.cell 1
          clear hy0 HW HNE
          have hown := HOb.out.alloc (.cells #[.int .i64 x, .int .i64 x] 108)
          have hnews := two_new' wb (.int .i64 x) (.int .i64 x) 108 wb.heap.size rfl
          have hba : w.heap.size ≤ (wb.alloc (.cells #[.int .i64 x, .int .i64 x] 108)).heap.size := by have := HGb.out.size; simp at this ⊢; omega
          go_wp2_with (at_builtin; refine wpList_append_own _ rfl _ _ 23 rfl w.heap.size 108 i0 (.agg #[.int .i64 0, .int .i64 0]) 2 16 Tryd.underlying23 hi hq0 hq1 hq2 rfl (by decide) _ _ _ rfl (hown.row rfl) _ 1 1 [.int .i64 x, .int .i64 x] rfl rfl hnews (two_one _ _) hml hby hba ?_)
          intro v' wd hown2 hgrow _
          have hrow : ∀ g, Value.ownBlock _ = some g → w.heap.size ≤ g := fun g e => (World.ownsRow.lt hown g e).1
          have HGd := Lib.hid (sgrow_own (gr_alloc HGb.out _) hgrow hrow)
          have HRd := Lib.hid ((HRb.out.below ((Below.refl _ _).alloc (Nat.le_refl _) _) HRb.out.lt).keptRow hgrow (fun g e => by have := hrow g e; omega))
          have HOd := Lib.hid (Own.push hown2 rfl)
          clear hown hnews hba hown2 hgrow hrow hml hby
          go_wp2
          go_roundw
          case rel => exact ⟨(qa + 1), L ++ [(x, x)], by rw [List.length_append, List.length_singleton]; omega, by rw [List.length_append, List.length_singleton]; go_num, by rw [List.length_append, List.length_singleton]; omega, HRd, HGd, HOd⟩
          case measure => simp [intOf]; omega
      · have i1 : ¬ (L.length : Int) < (n1 : Int) := by omega
        go_wp2
        go_ret
        exact ⟨_, L, q, by omega, by omega, rfl, HR.out, HG.out, HO.out⟩
end Go.Proofs.YtpihibconbejlaaDoor
namespace Go.Proofs.YtpihibconbejlaaDoor
open Go.RowKit
set_option linter.unusedVariables false

/-- A world of which only the blocks of a window can be read. -/
def low (lo hi : Nat) (w : World) : World := { w with heap := w.heap.mapIdx fun i o => if lo ≤ i ∧ i < hi then o else .cells #[] 0 (0, 0) }
theorem low_size (lo hi : Nat) (w : World) : (low lo hi w).heap.size = w.heap.size := by simp [low]
theorem low_in {lo hi : Nat} {w : World} {p : Addr} (h1 : lo ≤ p.block) (h2 : p.block < hi) : (low lo hi w).cell? p = w.cell? p := by
  unfold World.cell? low
  simp only [Array.getElem?_mapIdx]
  cases w.heap[p.block]? with
  | none => rfl
  | some o => simp [h1, h2]
theorem low_out {lo hi : Nat} {w : World} {p : Addr} {u : Value} (h : (low lo hi w).cell? p = some u) : lo ≤ p.block ∧ p.block < hi ∧ p.block < w.heap.size ∧ w.cell? p = some u := by
  by_cases hh : lo ≤ p.block ∧ p.block < hi
  · rw [low_in hh.1 hh.2] at h
    refine ⟨hh.1, hh.2, ?_, h⟩
    unfold World.cell? at h
    by_cases hs : p.block < w.heap.size
    · exact hs
    · rw [Array.getElem?_eq_none (by omega)] at h
      cases h
  · unfold World.cell? low at h
    simp only [Array.getElem?_mapIdx] at h
    cases hw : w.heap[p.block]? with
    | none => rw [hw] at h; cases h
    | some o =>
      rw [hw] at h
      simp [hh] at h
theorem SpA.mono {w w' : World} {A : Option Addr} {L : List (Int × Int)} (hz : w.heap.size ≤ w'.heap.size) (hc : ∀ p u, w.cell? p = some u → w'.cell? p = some u) (h : SpA w A L) : SpA w' A L := fun i x hx => by
  obtain ⟨b, o, hA, hb, h1, h2⟩ := h i x hx
  exact ⟨b, o, hA, by omega, hc _ _ h1, hc _ _ h2⟩
mutual
theorem KV.mono {w w' : World} (hz : w.heap.size ≤ w'.heap.size) (hc : ∀ p u, w.cell? p = some u → w'.cell? p = some u) : ∀ (k : KT) (v : Value), KV w k v → KV w' k v
  | .mk kd f t S ks, v, h => by
    rw [KV] at h ⊢
    obtain ⟨AS, nS, cS, AK, nK, cK, h1, h2, h3, h4, h5, h6, h7⟩ := h
    exact ⟨AS, nS, cS, AK, nK, cK, h1, h2, h3, h4, h5.mono hz hc, h6, KVs.mono hz hc AK 0 ks h7⟩
theorem KVs.mono {w w' : World} (hz : w.heap.size ≤ w'.heap.size) (hc : ∀ p u, w.cell? p = some u → w'.cell? p = some u) (AK : Option Addr) : ∀ (i : Nat) (ks : List KT), KVs w AK i ks → KVs w' AK i ks
  | i, [], h => by rw [KVs]; trivial
  | i, k :: r, h => by
    rw [KVs] at h ⊢
    obtain ⟨⟨b, o, v0, v1, v2, v3, v4, h1, h2, c0, c1, c2, c3, c4, h3⟩, h4⟩ := h
    exact ⟨⟨b, o, v0, v1, v2, v3, v4, h1, Nat.lt_of_lt_of_le h2 hz, hc _ _ c0, hc _ _ c1, hc _ _ c2, hc _ _ c3, hc _ _ c4, KV.mono hz hc k _ h3⟩, KVs.mono hz hc AK (i + 1) r h4⟩
end
/-- A key whose memory lies in a window. -/
def KA (lo hi : Nat) (w : World) (k : KT) (v : Value) : Prop := KV (low lo hi w) k v
theorem KA.kv {lo hi : Nat} {w : World} {k : KT} {v : Value} (h : KA lo hi w k v) : KV w k v := KV.mono (Nat.le_of_eq (low_size _ _ _)) (fun p u hp => (low_out hp).2.2.2) k v h
theorem KA.grown {lo hi : Nat} {w w' : World} {row : Option Nat} {k : KT} {v : Value} (h : KA lo hi w k v) (hg : w.grownBy w' row) (hr : ∀ g, row = some g → g < lo ∨ hi ≤ g) : KA lo hi w' k v :=
  KV.mono (by rw [low_size, low_size]; exact hg.size) (fun p u hp => by
    obtain ⟨h1, h2, h3, h4⟩ := low_out hp
    rw [low_in h1 h2]
    exact (World.cell?_of_block (hg.block p.block h3 (fun e => by have := hr p.block e.symm; omega))).trans h4) k v h
theorem KA.widen {lo hi lo' hi' : Nat} {w : World} {k : KT} {v : Value} (h : KA lo hi w k v) (h1 : lo' ≤ lo) (h2 : hi ≤ hi') : KA lo' hi' w k v :=
  KV.mono (by rw [low_size, low_size]; exact Nat.le_refl _) (fun p u hp => by
    obtain ⟨h3, h4, h5, h6⟩ := low_out hp
    rw [low_in (by omega) (by omega)]
    exact h6) k v h

/-- A row of a key's cells. -/
abbrev KR := Int × Int × ByteArray × (Option Addr × Nat × Nat) × (Option Addr × Nat × Nat)
abbrev kcells (x : KR) : List Value := [.int .i64 x.1, .int .i64 x.2.1, .string x.2.2.1, .slice x.2.2.2.1.1 x.2.2.2.1.2.1 x.2.2.2.1.2.2, .slice x.2.2.2.2.1 x.2.2.2.2.2.1 x.2.2.2.2.2.2]
abbrev kval (x : KR) : Value := .agg #[.int .i64 x.1, .int .i64 x.2.1, .string x.2.2.1, .slice x.2.2.2.1.1 x.2.2.2.1.2.1 x.2.2.2.1.2.2, .slice x.2.2.2.2.1 x.2.2.2.2.2.1 x.2.2.2.2.2.2]
def keyR : RowT KR where
  t := 26
  sz := 5
  enc := kcells
  len := fun _ => rfl
  one := fun x u hu => by
    simp at hu
    rcases hu with rfl | rfl | rfl | rfl | rfl <;> rfl
theorem Tryd.infoKey : (Tryd.prog.info? 26).map (fun i => (i.zero, i.size, i.bytes)) = some (some (.agg #[.int .i64 0, .int .i64 0, .string ⟨#[]⟩, .slice none 0 0, .slice none 0 0]), 5, 80) := by kernel_rfl
/-- Rows that hold keys. -/
def KRs (P : KT → Value → Prop) : List KT → List KR → Prop
  | [], rs => rs = []
  | k :: ks, rs => ∃ r s, rs = r :: s ∧ P k (kval r) ∧ KRs P ks s
theorem KRs.imp {P Q : KT → Value → Prop} (hi : ∀ k v, P k v → Q k v) : ∀ {ks : List KT} {rs : List KR}, KRs P ks rs → KRs Q ks rs
  | [], rs, h => h
  | k :: ks, rs, ⟨r, s, h1, h2, h3⟩ => ⟨r, s, h1, hi _ _ h2, KRs.imp hi h3⟩
theorem KRs.len {P : KT → Value → Prop} : ∀ {ks : List KT} {rs : List KR}, KRs P ks rs → ks.length = rs.length
  | [], rs, h => by rw [show rs = [] from h]; rfl
  | k :: ks, rs, ⟨r, s, h1, h2, h3⟩ => by rw [h1, List.length_cons, List.length_cons, KRs.len h3]
theorem KRs.push {P : KT → Value → Prop} : ∀ {ks : List KT} {rs : List KR} {k : KT} {r : KR}, KRs P ks rs → P k (kval r) → KRs P (ks ++ [k]) (rs ++ [r])
  | [], rs, k, r, h, hp => by
    rw [show rs = [] from h]
    exact ⟨r, [], rfl, hp, rfl⟩
  | x :: ks, rs, k, r, ⟨r0, s, h1, h2, h3⟩, hp => by
    subst h1
    exact ⟨r0, s ++ [r], rfl, h2, KRs.push h3 hp⟩
theorem RAt.kvs {w : World} {A : Option Addr} : ∀ {ks : List KT} {rs all : List KR} {i : Nat}, RAt keyR w A all → (∀ j r, rs[j]? = some r → all[i + j]? = some r) → KRs (KV w) ks rs → KVs w A i ks
  | [], rs, all, i, _, _, _ => by rw [KVs]; trivial
  | k :: ks, rs, all, i, hat, hall, ⟨r, s, h1, h2, h3⟩ => by
    subst h1
    rw [KVs]
    obtain ⟨b, o, hA, hb, hc⟩ := hat i r (hall 0 r rfl)
    refine ⟨⟨b, o, _, _, _, _, _, hA, hb, hc 0 _ rfl, hc 1 _ rfl, hc 2 _ rfl, hc 3 _ rfl, hc 4 _ rfl, h2⟩, RAt.kvs hat (fun j x hx => ?_) h3⟩
    have := hall (j + 1) x hx
    rw [show i + 1 + j = i + (j + 1) by omega]
    exact this
theorem kvs_rows {w : World} {A : Option Addr} : ∀ {ks : List KT} {i : Nat}, KVs w A i ks → ∃ rs : List KR, KRs (KV w) ks rs ∧ ∀ j r, rs[j]? = some r → ∃ b o, A = some ⟨b, o, none⟩ ∧ b < w.heap.size ∧ ∀ l u, (kcells r)[l]? = some u → w.cell? ⟨b, o + (i + j) * 5 + l, none⟩ = some u
  | [], i, h => ⟨[], rfl, fun j r hj => by simp at hj⟩
  | k :: ks, i, h => by
    rw [KVs] at h
    obtain ⟨⟨b, o, v0, v1, v2, v3, v4, hA, hb, c0, c1, c2, c3, c4, hv⟩, h4⟩ := h
    obtain ⟨a0, a1, a2, a3, a4, a5, a6, a7, a8, rfl, rfl, rfl, rfl, rfl⟩ := kv_five hv
    obtain ⟨rs, h5, h6⟩ := kvs_rows h4
    refine ⟨(a0, a1, a2, (a3, a4, a5), (a6, a7, a8)) :: rs, ⟨_, _, rfl, hv, h5⟩, fun j r hj => ?_⟩
    cases j with
    | zero =>
      simp at hj
      subst hj
      refine ⟨b, o, hA, hb, fun l u hl => ?_⟩
      match l, hl with
      | 0, hl => simp at hl; subst hl; simpa using c0
      | 1, hl => simp at hl; subst hl; simpa using c1
      | 2, hl => simp at hl; subst hl; simpa using c2
      | 3, hl => simp at hl; subst hl; simpa using c3
      | 4, hl => simp at hl; subst hl; simpa using c4
      | l + 5, hl => simp at hl
    | succ j =>
      obtain ⟨b2, o2, hA2, hb2, hc⟩ := h6 j r (by simpa using hj)
      refine ⟨b2, o2, hA2, hb2, fun l u hl => ?_⟩
      have := hc l u hl
      rw [show i + 1 + j = i + (j + 1) by omega] at this
      exact this
theorem kvs_at {w : World} {A : Option Addr} {ks : List KT} (h : KVs w A 0 ks) : ∃ rs : List KR, KRs (KV w) ks rs ∧ RAt keyR w A rs := by
  obtain ⟨rs, h1, h2⟩ := kvs_rows h
  refine ⟨rs, h1, fun j r hj => ?_⟩
  obtain ⟨b, o, hA, hb, hc⟩ := h2 j r hj
  refine ⟨b, o, hA, hb, fun l u hl => ?_⟩
  have := hc l u hl
  rw [Nat.zero_add] at this
  exact this
/-- An own slice of keys in a window. -/
theorem kvs_own {w : World} {S B hi n cap : Nat} {A : Option Addr} {ks : List KT} {rs : List KR} (ho : ROwn keyR w B (.slice A n cap) rs) (hB : S ≤ B) (hk : KRs (KA S hi w) ks rs) (hw : hi ≤ w.heap.size) : KVs (low S w.heap.size w) A 0 ks := by
  have hat := ho.at
  have hat2 : RAt keyR (low S w.heap.size w) A rs := fun i x hx => by
    obtain ⟨b, o, hA, hb, hc⟩ := hat i x hx
    have hbb : B ≤ b := by
      subst hA
      exact (World.ownsRow.lt ho b rfl).1
    refine ⟨b, o, hA, by rw [low_size]; exact hb, fun j u hj => ?_⟩
    rw [low_in (by show S ≤ b; omega) hb]
    exact hc j u hj
  exact RAt.kvs (i := 0) hat2 (fun j r hj => by rw [Nat.zero_add]; exact hj) (KRs.imp (fun k v h => KA.widen h (Nat.le_refl _) hw) hk)
theorem spa_own {w : World} {S B n cap : Nat} {A : Option Addr} {L : List (Int × Int)} (ho : Own w B (.slice A n cap) L) (hB : S ≤ B) : SpA (low S w.heap.size w) A L := by
  obtain ⟨A2, c2, he, -, -, hs⟩ := ho.form
  simp at he
  obtain ⟨rfl, -, -⟩ := he
  intro i x hx
  obtain ⟨b, o, hA, hb, h1, h2⟩ := hs i x hx
  have hbb : B ≤ b := by
    subst hA
    exact (World.ownsRow.lt ho b (by obtain ⟨g, hg⟩ : ∃ g, (Value.slice (some ⟨b, o, none⟩) n cap).ownBlock = some g := ⟨_, rfl⟩; exact rfl)).1
  refine ⟨b, o, hA, by rw [low_size]; exact hb, ?_, ?_⟩
  · rw [low_in (by show S ≤ b; omega) hb]; exact h1
  · rw [low_in (by show S ≤ b; omega) hb]; exact h2
end Go.Proofs.YtpihibconbejlaaDoor
namespace Go.Proofs.YtpihibconbejlaaDoor
open Go.RowKit
set_option linter.unusedVariables false

theorem finds_zero {n : Int} {A : Option Addr} {N cap : Nat} {L : List ML} {m : ML} {i : Nat} : FindsI n A N cap L m i 0 := fun k q w hn => by
  have := nodesT_pos k
  omega
theorem finds_succ {n : Int} {A : Option Addr} {N cap : Nat} {L : List ML} {m : ML} {i z : Nat} (IH : FindsI n A N cap L m i z) (hb : bOk n L = true) (hi : L[i]? = some m) : FindsI n A N cap L m i (z + 1) := fun k q w hn ha hq hM hx => by
  obtain ⟨kd, f, t, S, ks⟩ := k
  rw [QV] at hq
  rcases hq with ⟨rfl, rfl⟩ | ⟨rfl, rfl⟩ | ⟨rfl, rfl⟩ | ⟨rfl, AS, cS, rfl, h2⟩ | ⟨rfl, AS, cS, rfl, h2⟩ | ⟨rfl, q1, rfl, h2⟩ | ⟨rfl, q1, q2, rfl, h2⟩ | ⟨rfl, q1, q2, rfl, h2⟩
  · exact finds_all IH hb hi w hn ha hM hx
  · exact finds_flag IH hb hi w hn ha hM hx
  · exact finds_text IH hb hi w hn ha hM hx
  · exact finds_place IH hb hi w hn ha hM hx h2
  · exact finds_uid IH hb hi w hn ha hM hx h2
  · obtain ⟨k, rfl, hk⟩ := qvs_one h2
    obtain ⟨t1, a1, rfl⟩ := hk.one
    exact finds_not IH hb hi w hn ha hM hx h2
  · obtain ⟨k, k2, rfl, hk, hk2⟩ := qvs_two h2
    obtain ⟨t1, a1, rfl⟩ := hk.one
    obtain ⟨t2, a2, rfl⟩ := hk2.one
    exact finds_and IH hb hi w hn ha hM hx h2
  · obtain ⟨k, k2, rfl, hk, hk2⟩ := qvs_two h2
    obtain ⟨t1, a1, rfl⟩ := hk.one
    obtain ⟨t2, a2, rfl⟩ := hk2.one
    exact finds_or IH hb hi w hn ha hM hx h2
theorem impl_finds_n {n : Int} {A : Option Addr} {N cap : Nat} {L : List ML} {m : ML} {i : Nat} (hb : bOk n L = true) (hi : L[i]? = some m) : ∀ z : Nat, FindsI n A N cap L m i z
  | 0 => finds_zero
  | z + 1 => finds_succ (impl_finds_n hb hi z) hb hi
theorem impl_finds {n : Int} {A : Option Addr} {N cap : Nat} {L : List ML} {m : ML} {i : Nat} {k : KT} {q : Value} {o : Bool} (ho : findT L m i k = o) (w : World) (hb : bOk n L = true) (hi : L[i]? = some m) (ha : allT k = true) (hq : QV w k q) (hM : MIn w A N cap L) (hx : MxL w) :
    Calls Tryd.prog 53 #[q, boxV n A N cap, .int .i64 (i : Int)] w (SaysB w o) := by
  subst ho
  exact impl_finds_n hb hi (nodesT k) k q w (Nat.le_refl _) ha hq hM hx
theorem key_all {k : KT} (h : keyB k = true) : allT k = true := by
  unfold keyB at h
  rw [Bool.and_eq_true] at h
  exact h.1
theorem plT_yes {L : List ML} {k : KT} {i : Nat} {m : ML} (hi : L[i]? = some m) (h : findT L m i k = true) : plT L k (i + 1) = plT L k i ++ [(i : Int) + 1] := by
  rw [plT, List.getD_eq_getElem?_getD, hi]
  show (if findT L m i k = true then _ else _) = _
  rw [if_pos h]
theorem plT_no {L : List ML} {k : KT} {i : Nat} {m : ML} (hi : L[i]? = some m) (h : findT L m i k = false) : plT L k (i + 1) = plT L k i := by
  rw [plT, List.getD_eq_getElem?_getD, hi]
  show (if findT L m i k = true then _ else _) = _
  rw [if_neg (by rw [h]; simp)]
/-- Places of the call's own. -/
theorem gives_n {w w' : World} {B : Nat} {G P : List Int} {A : Option Addr} {N cap : Nat} (h : ROwn intR w' B (.slice A N cap) P) (hB : w.heap.size ≤ B) (he : P = G) (hb : Below w.heap.size w w') : GivesN w G (.returned (.slice A N cap)) w' := by
  subst he
  exact ⟨A, N, cap, rfl, h.from hB, hb⟩
set_option maxRecDepth 20000 in
set_option maxHeartbeats 8000000 in
theorem impl_search {n : Int} {A : Option Addr} {N cap : Nat} {L : List ML} {k : KT} {r : KR} {G : List Int} (hG : srT n L k = G) (w : World) (hM : MIn w A N cap L) (hk : KV w k (kval r)) (hSh : Shp w) (hLs : Lst w) (hx : MxL w) :
    Calls Tryd.prog 29 #[boxV n A N cap, kval r] w (GivesN w G) := by
  obtain ⟨j0, hj, hp0, hp1, hp2⟩ := info_parts Tryd.infoNum
  obtain ⟨a0, a1, a2, ⟨a3, a4, a5⟩, ⟨a6, a7, a8⟩⟩ := r
  have HM := Lib.hid hM
  have HK := Lib.hid hk
  have HSh := Lib.hid hSh
  have HLs := Lib.hid hLs
  have HX := Lib.hid hx
  have HG := Lib.hid hG
  have hN := hM.2.1
  obtain ⟨B, hB⟩ : ∃ B, w.heap.size = B := ⟨_, rfl⟩
  obtain ⟨w2, hw2⟩ : ∃ w2, ((w.alloc (.cells #[.int .i64 n, .slice A N cap] 37)).alloc (.cells #[.int .i64 a0, .int .i64 a1, .string a2, .slice a3 a4 a5, .slice a6 a7 a8] 26)) = w2 := ⟨_, rfl⟩
  have hb2 : Below B w w2 := by rw [← hw2, ← hB]; exact ((Below.refl _ _).alloc (Nat.le_refl _) _).alloc (by simp) _
  have HB2 := Lib.hid hb2
  have HWX2 := Lib.hid (show Whole w2 B 37 #[.int .i64 n, .slice A N cap] by rw [← hw2, ← hB]; exact (Whole.made w _ _).alloc _)
  have HWK2 := Lib.hid (show Whole w2 (B + 1) 26 #[.int .i64 a0, .int .i64 a1, .string a2, .slice a3 a4 a5, .slice a6 a7 a8] by rw [← hw2, ← hB]; exact whole_made1 (by simp))
  have HQ := Lib.hid (impl_keyquery w2 (hSh.below hb2 (Nat.le_of_eq hB)) (hLs.below hb2 (Nat.le_of_eq hB)) (KV.below hb2 (Nat.le_of_eq hB) _ _ hk))
  have HW2 := Lib.hid hw2
  have HBB := Lib.hid hB
  clear hM hk hSh hLs hx hG hB hw2 hb2
  go_enter Tryd.func29, Tryd.ntmps29
  go_wp2_with fail
  rw [HW2.out, HBB.out]
  refine HQ.out.mono ?_
  rintro e w3 ⟨q, o, rfl, hko, hqv, hb⟩
  have HWX3 := Lib.hid (HWX2.out.below hb HWX2.out.lt)
  have HB3 := Lib.hid (HB2.out.trans (hb.mono (Nat.le_of_lt HWX2.out.lt)))
  have HM3 := Lib.hid (HM.out.below HB3.out (Nat.le_of_eq HBB.out))
  have HX3 := Lib.hid (HX.out.below HB3.out (Nat.le_of_eq HBB.out))
  have HKO := Lib.hid hko
  have HQV := Lib.hid (fun h : o = true => QV.below hb (Nat.le_refl _) k q (hqv h))
  have x0 : w3.cell? ⟨B, 0, none⟩ = some (.int .i64 n) := HWX3.out.cell 0
  have x1 : w3.cell? ⟨B, 1, none⟩ = some (.slice A N cap) := HWX3.out.cell 1
  clear hb hqv
  cases o with
  | false =>
    have HE : Hid (([] : List Int) = G) := Lib.hid (by rw [← HG.out, srT_nokey HKO.out])
    go_wp2
    go_ret
    exact gives_n (ROwn.nil w3 B) (Nat.le_of_eq HBB.out) HE.out (HBB.out.symm ▸ HB3.out)
  | true =>
    obtain ⟨z, hz⟩ : ∃ z, bOk n L = z := ⟨_, rfl⟩
    have HV := Lib.hid (impl_boxvalid n A N cap L w3 HM3.out)
    rw [hz] at HV
    have HZ := Lib.hid hz
    obtain ⟨tq, aq, rfl⟩ := (HQV.out (by simp)).one
    clear hko hz
    go_wp2_with fail
    refine HV.out.mono ?_
    rintro e w4 ⟨rfl, hb4⟩
    have HWX4 := Lib.hid (HWX3.out.below hb4 HWX3.out.lt)
    have HB4 := Lib.hid (HB3.out.trans (hb4.mono (Nat.le_of_lt HWX3.out.lt)))
    have HM4 := Lib.hid (HM3.out.below hb4 (Nat.le_refl _))
    have HX4 := Lib.hid (HX3.out.below hb4 (Nat.le_refl _))
    have HQ4 := Lib.hid (QV.below hb4 (Nat.le_refl _) k _ (HQV.out (by simp)))
    have y0 : w4.cell? ⟨B, 0, none⟩ = some (.int .i64 n) := HWX4.out.cell 0
    have y1 : w4.cell? ⟨B, 1, none⟩ = some (.slice A N cap) := HWX4.out.cell 1
    clear hb4 x0 x1
    cases z with
    | false =>
      have HE : Hid (([] : List Int) = G) := Lib.hid (by rw [← HG.out, srT_nobox HZ.out])
      go_wp2
      go_ret
      exact gives_n (ROwn.nil w4 B) (Nat.le_of_eq HBB.out) HE.out (HBB.out.symm ▸ HB4.out)
    | true =>
      have HE : Hid (plT L k L.length = G) := Lib.hid (by rw [← HG.out, srT_yes HKO.out HZ.out])
      have hN10 : N ≤ 10 := by rw [← HM4.out.1]; exact (bOk_iff.1 HZ.out).2.2.2.2
      have HAL := Lib.hid (key_all HKO.out)
      obtain ⟨D, hD⟩ : ∃ D, w4.heap.size = D := ⟨_, rfl⟩
      have HDD := Lib.hid hD
      have hBD : B ≤ D := by have := HWX4.out.lt; omega
      have HON : Hid (ROwn intR w4 D (.slice none 0 0) []) := Lib.hid (ROwn.nil w4 D)
      clear hD
      go_wp2
      clear y0 y1
      go_loopw [7, 24] (fun v iv wr => ∃ (i P : Nat) (AP : Option Addr) (cP : Nat), i ≤ N ∧ P ≤ i ∧ v = .slice AP P cP ∧ iv = .int .i64 (i : Int) ∧ Hid (ROwn intR wr D (.slice AP P cP) (plT L k i)) ∧ Hid (Below D w4 wr)) (fun _ iv _ => N - (intOf iv).toNat)
      case atStart => exact ⟨0, 0, none, 0, Nat.zero_le _, Nat.le_refl _, rfl, by go_num, HON, Below.refl _ _⟩
      case round =>
        obtain ⟨i, P, AP, cP, hi, hPi, rfl, rfl, HO, HBr⟩ := hrel
        have HWXr := Lib.hid (HWX4.out.below HBr.out (by have := HWX4.out.lt; have := HDD.out; omega))
        have HMr := Lib.hid (HM4.out.below HBr.out (Nat.le_of_eq HDD.out))
        have HXr := Lib.hid (HX4.out.below HBr.out (Nat.le_of_eq HDD.out))
        have HQr := Lib.hid (QV.below HBr.out (Nat.le_of_eq HDD.out) k _ HQ4.out)
        have y0 : wr.cell? ⟨B, 0, none⟩ = some (.int .i64 n) := HWXr.out.cell 0
        have y1 : wr.cell? ⟨B, 1, none⟩ = some (.slice A N cap) := HWXr.out.cell 1
        by_cases hlt : i < N
        · have i0 : (0 : Int) ≤ (i : Int) := by omega
          have i1 : (i : Int) < (N : Int) := by omega
          obtain ⟨m, hm⟩ : ∃ m, L[i]? = some m := ⟨_, List.getElem?_eq_getElem (by rw [HMr.out.1]; exact hlt)⟩
          have HMI := Lib.hid hm
          obtain ⟨g, hg⟩ : ∃ g, findT L m i k = g := ⟨_, rfl⟩
          have HGG := Lib.hid hg
          clear hm hg
          go_wp2_with fail
          refine (impl_finds HGG.out wr HZ.out HMI.out HAL.out HQr.out HMr.out HXr.out).mono ?_
          rintro e w5 ⟨rfl, hb5⟩
          have HB5 := Lib.hid (HBr.out.trans (hb5.mono (by have := HBr.out.size; have := HDD.out; omega)))
          have HO5 := Lib.hid (HO.out.kept hb5)
          clear hb5
          cases g with
          | false =>
            have HP2 : Hid (ROwn intR w5 D (.slice AP P cP) (plT L k (i + 1))) := Lib.hid (by rw [plT_no HMI.out HGG.out]; exact HO5.out)
            go_wp2
            go_roundw
            case rel => exact ⟨i + 1, P, AP, cP, by omega, by omega, rfl, by go_num, HP2, HB5⟩
            case measure => simp [intOf]; omega
          | true =>
            have W1 : IntKind.i64.wrap ((i : Int) + 1) = (i : Int) + 1 := IntWalk.i64_in _ (by omega)
            have hml : P + 1 ≤ maxLen := by unfold maxLen; omega
            have hby : (P + 1) * 8 ≤ 140737488355328 := by omega
            have HPL := Lib.hid HO5.out.len.1.symm
            have hown5 := HO5.out.alloc (.cells #[.int .i64 ((i : Int) + 1)] 3)
            have hnew5 := RAt.made intR w5 [(i : Int) + 1] w5.heap.size rfl
            have hDs : D ≤ (w5.alloc (.cells #[.int .i64 ((i : Int) + 1)] 3)).heap.size := by have := HB5.out.size; have := HDD.out; simp; omega
            go_wp2_with (at_builtin; refine wpList_append_rows rfl (.tmp 31) (.tmp 34) 40 rfl intR D j0 _ 8 Tryd.underlying40 hj hp0 hp1 hp2 rfl (by decide) _ (plT L k i) [(i : Int) + 1] P HPL.out rfl hown5 (some ⟨w5.heap.size, 0, none⟩) 1 1 rfl rfl hnew5 (fun e => by cases e) (fun q e => by cases e; rfl) hml hby hDs ?_)
            intro v' w6 ho hgr _
            obtain ⟨A6, N6, cap6, rfl⟩ := ho.val
            have hN6 : N6 = P + 1 := by have h1 := ho.len.1; rw [List.length_append, List.length_singleton, HPL.out] at h1; exact h1
            subst hN6
            have HB6 := Lib.hid ((HB5.out.alloc (by have := HB5.out.size; have := HDD.out; omega) (.cells #[.int .i64 ((i : Int) + 1)] 3)).grown hgr hDs (fun z hz => (World.ownsRow.lt HO5.out z hz).1))
            have HP2 : Hid (ROwn intR w6 D (.slice A6 (P + 1) cap6) (plT L k (i + 1))) := Lib.hid (by rw [plT_yes HMI.out HGG.out]; exact ho)
            clear ho hgr hown5 hnew5 hDs
            go_wp2
            go_roundw
            case rel => exact ⟨i + 1, P + 1, A6, cap6, by omega, by omega, rfl, by go_num, HP2, HB6⟩
            case measure => simp [intOf]; omega
        · have i1 : ¬ (i : Int) < (N : Int) := by omega
          have HE2 : Hid (plT L k i = G) := Lib.hid (by rw [← HE.out, HMr.out.1, show i = N by omega])
          have HBe := Lib.hid (HB4.out.trans (HBr.out.mono hBD))
          go_wp2
          go_ret
          exact gives_n HO.out (by have := HBB.out; omega) HE2.out (HBB.out.symm ▸ HBe.out)
end Go.Proofs.YtpihibconbejlaaDoor
