/-
  Km, Ke, Kh, Kj, Kk, Kdn in one text. Conditions: each contract's own.
-/
import Derived.Test.YtnfigpknejmkmaaGreatDoorKz
import Derived.Test.YtnfigpknejmkmaaGreatDoorKpa
import Derived.Test.YtnfigpknejmkmaaGreatDoorSnum
import Derived.Test.YtnfigpknejmkmaaGreatDoorSmark
import Derived.Lib.IndexLaws
import Derived.Lib.IndexMore
import Derived.Deep.RegionHeld3
import Derived.Test.YtnfigpknejmkmaaGreatDoorKa
import Derived.Test.YtnfigpknejmkmaaGreatDoorKw
import Derived.BigQuiet
import Derived.Shelf.Vars
namespace Go.Proofs.YtnfigpknejmkmaaGreatDoor
open Go.RowKit
set_option linter.unusedVariables false

/-- The number of the last message. -/
def lastU (L : List ML) : Int := (L.getD (L.length - 1) (0, 0, [])).1
mutual
/-- A key finds the message 'm' at the index 'i'. -/
def findT (L : List ML) (m : ML) (i : Nat) : KT → Bool
  | .mk kd f t S ks =>
    if kd = 1 then hvI m.2.1 f else if kd = 2 then Lib.contains m.2.2 t.data.toList
    else if kd = 3 then hasB S (L.length : Int) ((i : Int) + 1) else if kd = 4 then hasB S (lastU L) m.1
    else if kd = 5 then !((findL L m i ks).getD 0 false)
    else if kd = 6 then (findL L m i ks).getD 0 false && (findL L m i ks).getD 1 false
    else if kd = 7 then (findL L m i ks).getD 0 false || (findL L m i ks).getD 1 false
    else true
def findL (L : List ML) (m : ML) (i : Nat) : List KT → List Bool
  | [] => []
  | k :: r => findT L m i k :: findL L m i r
end
/-- The places among the first 'n' messages that a key finds. -/
def plT (L : List ML) (k : KT) : Nat → List Int
  | 0 => []
  | n + 1 => if findT L (L.getD n (0, 0, [])) n k then plT L k n ++ [(n : Int) + 1] else plT L k n
/-- What SearchBox answers. -/
def srT (n : Int) (L : List ML) (k : KT) : List Int := if keyB k && bOk n L then plT L k L.length else []
theorem srT_yes {n : Int} {L : List ML} {k : KT} (h1 : keyB k = true) (h2 : bOk n L = true) : srT n L k = plT L k L.length := by unfold srT; rw [h1, h2]; rfl
theorem srT_nokey {n : Int} {L : List ML} {k : KT} (h1 : keyB k = false) : srT n L k = [] := by unfold srT; rw [h1]; rfl
theorem srT_nobox {n : Int} {L : List ML} {k : KT} (h1 : bOk n L = false) : srT n L k = [] := by unfold srT; rw [h1, Bool.and_false]; rfl
theorem plT_len (L : List ML) (k : KT) : ∀ n : Nat, (plT L k n).length ≤ n
  | 0 => Nat.le_refl _
  | n + 1 => by
    have := plT_len L k n
    rw [plT]
    split
    · rw [List.length_append, List.length_singleton]; omega
    · omega
theorem plT_mem (L : List ML) (k : KT) : ∀ (n : Nat) {x : Int}, x ∈ plT L k n → 1 ≤ x ∧ x ≤ (n : Int)
  | 0, x, h => by cases h
  | n + 1, x, h => by
    rw [plT] at h
    split at h
    · rcases List.mem_append.1 h with h1 | h1
      · have := plT_mem L k n h1; omega
      · simp at h1; omega
    · have := plT_mem L k n h; omega
theorem plT_asc (L : List ML) (k : KT) : ∀ n : Nat, (plT L k n).Pairwise (· < ·)
  | 0 => List.Pairwise.nil
  | n + 1 => by
    rw [plT]
    split
    · rw [List.pairwise_append]
      refine ⟨plT_asc L k n, by simp, fun a ha b hb => ?_⟩
      have := plT_mem L k n ha
      simp at hb
      omega
    · exact plT_asc L k n
theorem plT_has (L : List ML) (k : KT) : ∀ (n j : Nat), hasI (plT L k n) ((j : Int) + 1) = (decide (j < n) && findT L (L.getD j (0, 0, [])) j k)
  | 0, j => by simp [plT, hasI]
  | n + 1, j => by
    have ih := plT_has L k n j
    unfold hasI at ih ⊢
    by_cases hj : j = n
    · subst hj
      rw [plT]
      cases hf : findT L (L.getD j (0, 0, [])) j k with
      | true =>
        rw [if_pos rfl]
        simp
      | false =>
        rw [if_neg (by simp), ih, hf]
        simp
    · have e1 : decide (j < n + 1) = decide (j < n) := by rw [decide_eq_decide]; omega
      rw [e1, plT]
      split
      · rw [← ih]
        simp
        intro h
        omega
      · exact ih

/-- internal/bytealg.MaxLen holds some number. -/
def MxL (w : World) : Prop := ∃ m : Int, w.cell? ⟨2, 0, none⟩ = some (.int .i64 m)
theorem MxL.below {w w' : World} {B : Nat} (h : MxL w) (hb : Below B w w') (hB : w.heap.size ≤ B) : MxL w' := by
  obtain ⟨m, hm⟩ := h
  exact ⟨m, (hb.cell (Nat.lt_of_lt_of_le (block_lt_of_cell hm) hB)).trans hm⟩
theorem lib_contains {s sub : ByteArray} {o : Bool} (ho : Lib.contains s.data.toList sub.data.toList = o) (w : World) (hs : s.size ≤ 16777216) (hm : MxL w) : Calls Tryz.prog 81 #[.string s, .string sub] w fun e w' => e = .returned (.bool o) ∧ w' = w := by
  subst ho
  obtain ⟨m, hm⟩ := hm
  exact shl_Contains s sub m w (by omega) hm

theorem ext_occ {s sub : ByteArray} {i j : Nat} (hj : i + sub.size = j) (h : j ≤ s.size) : (s.extract i j = sub) ↔ Lib.occAt s.data.toList sub.data.toList i = true := by
  have e1 : (s.extract i j).data.toList = (s.data.toList.drop i).take sub.size := by
    rw [ByteArray.data_extract, Array.toList_extract, List.extract_eq_take_drop]
    congr 1
    omega
  unfold Lib.occAt
  rw [List.isPrefixOf_iff_prefix, List.prefix_iff_eq_take]
  have e2 : sub.data.toList.length = sub.size := by simp
  rw [e2, ← e1]
  constructor
  · intro he; rw [he]
  · intro he
    have : s.extract i j = sub := by
      have h3 := Array.toList_inj.1 he
      cases hx : s.extract i j
      rw [hx] at h3
      cases sub
      simp at h3
      rw [h3]
    exact this
theorem occ_no {s sub : ByteArray} {i j : Nat} (hj : i + sub.size = j) (h : j ≤ s.size) (hne : s.extract i j ≠ sub) : Lib.occAt s.data.toList sub.data.toList i = false := by
  cases ho : Lib.occAt s.data.toList sub.data.toList i with
  | false => rfl
  | true => exact absurd ((ext_occ hj h).2 ho) hne
theorem cont_hit {s sub : ByteArray} {i : Nat} (h : Lib.NoOcc s.data.toList sub.data.toList i) (hi : i ≤ s.size) (ho : Lib.occAt s.data.toList sub.data.toList i = true) : Lib.contains s.data.toList sub.data.toList = true := by
  unfold Lib.contains
  rw [Lib.index_hit h (by simpa using hi) ho]
  exact decide_eq_true (by omega)
theorem cont_past {s sub : ByteArray} {i : Nat} (h0 : sub.size ≠ 0) (h : Lib.NoOcc s.data.toList sub.data.toList i) (hi : s.size < i + sub.size) : Lib.contains s.data.toList sub.data.toList = false := by
  unfold Lib.contains
  rw [Lib.index_past (fun e => h0 (by have := congrArg List.length e; simpa using this)) h (by simpa using hi)]
  rfl
theorem nekb {a b : ByteArray} (h : a ≠ b) : (a.toList == b.toList) = false ∧ ¬ a.toList = b.toList := by
  have h2 : ¬ a.toList = b.toList := by
    rw [ByteArray.toList_eq, ByteArray.toList_eq]
    intro e
    exact h (by cases a; cases b; congr; exact Array.toList_inj.1 e)
  exact ⟨beq_eq_false_iff_ne.2 h2, h2⟩
set_option maxHeartbeats 2000000 in
theorem spec_contains_ {s sub : ByteArray} (w : World) (hs : s.size ≤ 16777216) (h0 : sub.size ≠ 0) (h1 : sub.size ≤ 16777216) : Calls Tryz.prog 75 #[.string s, .string sub] w fun e w' => e = .returned (.bool (Lib.contains s.data.toList sub.data.toList)) ∧ w' = w := by
  go_enter Tryz.func75, Tryz.ntmps75
  go_wp2
  go_loopw [5] (fun i wr => ∃ k : Nat, k ≤ s.size ∧ i = .int .i64 (k : Int) ∧ Hid (Lib.NoOcc s.data.toList sub.data.toList k) ∧ wr = w) (fun i _ => s.size + 1 - (intOf i).toNat)
  case atStart => exact ⟨0, Nat.zero_le _, by go_num, Lib.NoOcc.zero _ _, rfl⟩
  case round =>
    obtain ⟨k, hk, rfl, HN, rfl⟩ := hrel
    obtain ⟨j, hj⟩ : ∃ j, k + sub.size = j := ⟨_, rfl⟩
    have E1 : (k : Int) + (sub.size : Int) = (j : Int) := by omega
    have W1 : IntKind.i64.wrap ((k : Int) + (sub.size : Int)) = (j : Int) := (IntWalk.i64_in _ (by omega)).trans E1
    have k0 : (0 : Int) ≤ (k : Int) := by omega
    have k1 : (k : Int) ≤ (j : Int) := by omega
    have HJ := Lib.hid hj
    by_cases hlt : j ≤ s.size
    · have h5 : (j : Int) ≤ (s.size : Int) := by omega
      by_cases he : s.extract k j = sub
      · have HE : Hid (Lib.contains s.data.toList sub.data.toList = true) := Lib.hid (cont_hit HN.out hk ((ext_occ hj hlt).1 he))
        clear hj
        go_wp2
        go_ret
        exact ⟨ret_bool HE.out.symm, rfl⟩
      · have HN2 := Lib.hid (HN.out.succ (occ_no hj hlt he))
        obtain ⟨v1, v2⟩ := nekb he
        have hk1 : k + 1 ≤ s.size := by omega
        clear hj he
        go_wp2
        go_roundw
        case rel => exact ⟨k + 1, hk1, by go_num, HN2.out, trivial⟩
        case measure => simp [intOf]; omega
    · have h5 : ¬ (j : Int) ≤ (s.size : Int) := by omega
      have HE : Hid (Lib.contains s.data.toList sub.data.toList = false) := Lib.hid (cont_past h0 HN.out (by omega))
      clear hj
      go_wp2
      go_ret
      exact ⟨ret_bool HE.out.symm, rfl⟩
theorem spec_contains {s sub : ByteArray} {o : Bool} (ho : Lib.contains s.data.toList sub.data.toList = o) (w : World) (hs : s.size ≤ 16777216) (h0 : sub.size ≠ 0) (h1 : sub.size ≤ 16777216) : Calls Tryz.prog 75 #[.string s, .string sub] w fun e w' => e = .returned (.bool o) ∧ w' = w := by
  subst ho
  exact spec_contains_ w hs h0 h1
/-- The numbers of a set, asked by one. -/
theorem nums_has {S : List (Int × Int)} {last x : Int} (hs : setB S = true) (h1 : 1 ≤ x) (h2 : x ≤ last) (h3 : last ≤ 99) : hasI ((numsB S last).map fun (n : Nat) => (n : Int)) x = hasB S last x := by
  have hl : lst last = last := by unfold lst; omega
  obtain ⟨n, rfl⟩ : ∃ n : Nat, x = (n : Int) := ⟨x.toNat, by omega⟩
  rw [numsB_yes hs (by omega), hl]
  unfold hasI
  rw [Bool.eq_iff_iff, List.contains_iff_mem, List.mem_map]
  constructor
  · rintro ⟨a, ha, he⟩
    have : a = n := by omega
    subst this
    exact (cnt_mem.1 ha).2.2
  · intro h
    exact ⟨n, cnt_mem.2 ⟨by omega, by omega, h⟩, rfl⟩
theorem ownI_row {w : World} {B : Nat} {v : Value} {l : List Nat} (h : OwnI w B v l) : ROwn intR w B v (l.map fun (n : Nat) => (n : Int)) := by
  have e : rcells intR (l.map fun (n : Nat) => (n : Int)) = nms l := by
    unfold rcells nms
    clear h
    induction l with
    | nil => rfl
    | cons a l ih =>
      rw [List.map_cons, List.flatMap_cons, List.map_cons, ih]
      rfl
  unfold ROwn
  rw [e, List.length_map]
  exact h
/-- The fields of a valid mailbox. -/
theorem last_is {n : Int} {L : List ML} {i : Nat} {m : ML} (hb : bOk n L = true) (hi : L[i]? = some m) : ∃ x : ML, L[L.length - 1]? = some x ∧ lastU L = x.1 ∧ 1 ≤ m.1 ∧ m.1 ≤ x.1 ∧ x.1 ≤ 99 := by
  have hl := (List.getElem?_eq_some_iff.1 hi).1
  obtain ⟨x, hx⟩ : ∃ x, L[L.length - 1]? = some x := ⟨_, List.getElem?_eq_getElem (by omega)⟩
  have hm := (bOk_get hb hi).1
  have hmx := (bOk_get hb hx).1
  have h1 := (mOk_iff.1 hm).1
  have h2 := (mOk_iff.1 hmx).1
  refine ⟨x, hx, ?_, h1.1, ?_, h2.2⟩
  · unfold lastU
    rw [List.getD_eq_getElem?_getD, hx]
    rfl
  · by_cases he : i = L.length - 1
    · subst he
      rw [hi] at hx
      cases hx
      exact Int.le_refl _
    · exact Int.le_of_lt (asc_get (bOk_iff.1 hb).2.1 (i := i) (j := L.length - 1) (by omega) hi hx)
end Go.Proofs.YtnfigpknejmkmaaGreatDoor
namespace Go.Proofs.YtnfigpknejmkmaaGreatDoor
open Go.RowKit
set_option linter.unusedVariables false

/-- What is known of a mailbox that came in. -/
abbrev boxV (n : Int) (A : Option Addr) (N cap : Nat) : Value := .agg #[.int .i64 n, .slice A N cap]
/-- The fields of a valid node. -/
theorem all_node {kd f : Int} {t : ByteArray} {S : List (Int × Int)} {ks : List KT} (h : allT (.mk kd f t S ks) = true) : allL ks = true ∧ leafB kd f t S = true ∧ shapeB kd f t S.length ks.length = true := by
  rw [allT, Bool.and_eq_true] at h
  have h2 := h.2
  rw [node_shape, Bool.and_eq_true] at h2
  exact ⟨h.1, h2.2, h2.1⟩
theorem allL_one {k : KT} (h : allL [k] = true) : allT k = true := by
  rw [allL, Bool.and_eq_true] at h
  exact h.1
theorem allL_two {k k2 : KT} (h : allL [k, k2] = true) : allT k = true ∧ allT k2 = true := by
  rw [allL, Bool.and_eq_true, allL, Bool.and_eq_true] at h
  exact ⟨h.1, h.2.1⟩
theorem find_not {L : List ML} {m : ML} {i : Nat} {f : Int} {t : ByteArray} {S : List (Int × Int)} {k : KT} {a : Bool} (h : findT L m i k = a) : findT L m i (.mk 5 f t S [k]) = !a := by
  rw [findT]; simp [findL, h]
theorem find_and {L : List ML} {m : ML} {i : Nat} {f : Int} {t : ByteArray} {S : List (Int × Int)} {k k2 : KT} {a b : Bool} (h : findT L m i k = a) (h2 : findT L m i k2 = b) : findT L m i (.mk 6 f t S [k, k2]) = (a && b) := by
  rw [findT]; simp [findL, h, h2]
theorem find_or {L : List ML} {m : ML} {i : Nat} {f : Int} {t : ByteArray} {S : List (Int × Int)} {k k2 : KT} {a b : Bool} (h : findT L m i k = a) (h2 : findT L m i k2 = b) : findT L m i (.mk 7 f t S [k, k2]) = (a || b) := by
  rw [findT]; simp [findL, h, h2]
theorem nodes_one (kd f : Int) (t : ByteArray) (S : List (Int × Int)) (k : KT) : nodesT (.mk kd f t S [k]) = nodesT k + 1 := by simp [nodesT, nodesL]
theorem nodes_two (kd f : Int) (t : ByteArray) (S : List (Int × Int)) (k k2 : KT) : nodesT (.mk kd f t S [k, k2]) = nodesT k + nodesT k2 + 1 := by simp [nodesT, nodesL]
theorem as_0y (v : Value) (w : World) : (Instr.typeAssert (.iface 124 v) 75 124 true).run Tryz.prog w = .ok (.tuple #[v, .bool true]) w := by kernel_rfl
theorem as_1y (v : Value) (w : World) : (Instr.typeAssert (.iface 126 v) 75 126 true).run Tryz.prog w = .ok (.tuple #[v, .bool true]) w := by kernel_rfl
theorem as_10 (v : Value) (w : World) : (Instr.typeAssert (.iface 126 v) 75 124 true).run Tryz.prog w = .ok (.tuple #[.agg #[], .bool false]) w := by kernel_rfl
theorem as_2y (v : Value) (w : World) : (Instr.typeAssert (.iface 129 v) 75 129 true).run Tryz.prog w = .ok (.tuple #[v, .bool true]) w := by kernel_rfl
theorem as_20 (v : Value) (w : World) : (Instr.typeAssert (.iface 129 v) 75 124 true).run Tryz.prog w = .ok (.tuple #[.agg #[], .bool false]) w := by kernel_rfl
theorem as_21 (v : Value) (w : World) : (Instr.typeAssert (.iface 129 v) 75 126 true).run Tryz.prog w = .ok (.tuple #[.agg #[.int .i64 0], .bool false]) w := by kernel_rfl
theorem as_3y (v : Value) (w : World) : (Instr.typeAssert (.iface 131 v) 75 131 true).run Tryz.prog w = .ok (.tuple #[v, .bool true]) w := by kernel_rfl
theorem as_30 (v : Value) (w : World) : (Instr.typeAssert (.iface 131 v) 75 124 true).run Tryz.prog w = .ok (.tuple #[.agg #[], .bool false]) w := by kernel_rfl
theorem as_31 (v : Value) (w : World) : (Instr.typeAssert (.iface 131 v) 75 126 true).run Tryz.prog w = .ok (.tuple #[.agg #[.int .i64 0], .bool false]) w := by kernel_rfl
theorem as_32 (v : Value) (w : World) : (Instr.typeAssert (.iface 131 v) 75 129 true).run Tryz.prog w = .ok (.tuple #[.agg #[.string ⟨#[]⟩], .bool false]) w := by kernel_rfl
theorem as_4y (v : Value) (w : World) : (Instr.typeAssert (.iface 134 v) 75 134 true).run Tryz.prog w = .ok (.tuple #[v, .bool true]) w := by kernel_rfl
theorem as_40 (v : Value) (w : World) : (Instr.typeAssert (.iface 134 v) 75 124 true).run Tryz.prog w = .ok (.tuple #[.agg #[], .bool false]) w := by kernel_rfl
theorem as_41 (v : Value) (w : World) : (Instr.typeAssert (.iface 134 v) 75 126 true).run Tryz.prog w = .ok (.tuple #[.agg #[.int .i64 0], .bool false]) w := by kernel_rfl
theorem as_42 (v : Value) (w : World) : (Instr.typeAssert (.iface 134 v) 75 129 true).run Tryz.prog w = .ok (.tuple #[.agg #[.string ⟨#[]⟩], .bool false]) w := by kernel_rfl
theorem as_43 (v : Value) (w : World) : (Instr.typeAssert (.iface 134 v) 75 131 true).run Tryz.prog w = .ok (.tuple #[.agg #[.slice none 0 0], .bool false]) w := by kernel_rfl
theorem as_5y (v : Value) (w : World) : (Instr.typeAssert (.iface 136 v) 75 136 true).run Tryz.prog w = .ok (.tuple #[v, .bool true]) w := by kernel_rfl
theorem as_50 (v : Value) (w : World) : (Instr.typeAssert (.iface 136 v) 75 124 true).run Tryz.prog w = .ok (.tuple #[.agg #[], .bool false]) w := by kernel_rfl
theorem as_51 (v : Value) (w : World) : (Instr.typeAssert (.iface 136 v) 75 126 true).run Tryz.prog w = .ok (.tuple #[.agg #[.int .i64 0], .bool false]) w := by kernel_rfl
theorem as_52 (v : Value) (w : World) : (Instr.typeAssert (.iface 136 v) 75 129 true).run Tryz.prog w = .ok (.tuple #[.agg #[.string ⟨#[]⟩], .bool false]) w := by kernel_rfl
theorem as_53 (v : Value) (w : World) : (Instr.typeAssert (.iface 136 v) 75 131 true).run Tryz.prog w = .ok (.tuple #[.agg #[.slice none 0 0], .bool false]) w := by kernel_rfl
theorem as_54 (v : Value) (w : World) : (Instr.typeAssert (.iface 136 v) 75 134 true).run Tryz.prog w = .ok (.tuple #[.agg #[.slice none 0 0], .bool false]) w := by kernel_rfl
theorem as_6y (v : Value) (w : World) : (Instr.typeAssert (.iface 138 v) 75 138 true).run Tryz.prog w = .ok (.tuple #[v, .bool true]) w := by kernel_rfl
theorem as_60 (v : Value) (w : World) : (Instr.typeAssert (.iface 138 v) 75 124 true).run Tryz.prog w = .ok (.tuple #[.agg #[], .bool false]) w := by kernel_rfl
theorem as_61 (v : Value) (w : World) : (Instr.typeAssert (.iface 138 v) 75 126 true).run Tryz.prog w = .ok (.tuple #[.agg #[.int .i64 0], .bool false]) w := by kernel_rfl
theorem as_62 (v : Value) (w : World) : (Instr.typeAssert (.iface 138 v) 75 129 true).run Tryz.prog w = .ok (.tuple #[.agg #[.string ⟨#[]⟩], .bool false]) w := by kernel_rfl
theorem as_63 (v : Value) (w : World) : (Instr.typeAssert (.iface 138 v) 75 131 true).run Tryz.prog w = .ok (.tuple #[.agg #[.slice none 0 0], .bool false]) w := by kernel_rfl
theorem as_64 (v : Value) (w : World) : (Instr.typeAssert (.iface 138 v) 75 134 true).run Tryz.prog w = .ok (.tuple #[.agg #[.slice none 0 0], .bool false]) w := by kernel_rfl
theorem as_65 (v : Value) (w : World) : (Instr.typeAssert (.iface 138 v) 75 136 true).run Tryz.prog w = .ok (.tuple #[.agg #[.nilIface], .bool false]) w := by kernel_rfl
theorem as_7y (v : Value) (w : World) : (Instr.typeAssert (.iface 139 v) 75 139 true).run Tryz.prog w = .ok (.tuple #[v, .bool true]) w := by kernel_rfl
theorem as_70 (v : Value) (w : World) : (Instr.typeAssert (.iface 139 v) 75 124 true).run Tryz.prog w = .ok (.tuple #[.agg #[], .bool false]) w := by kernel_rfl
theorem as_71 (v : Value) (w : World) : (Instr.typeAssert (.iface 139 v) 75 126 true).run Tryz.prog w = .ok (.tuple #[.agg #[.int .i64 0], .bool false]) w := by kernel_rfl
theorem as_72 (v : Value) (w : World) : (Instr.typeAssert (.iface 139 v) 75 129 true).run Tryz.prog w = .ok (.tuple #[.agg #[.string ⟨#[]⟩], .bool false]) w := by kernel_rfl
theorem as_73 (v : Value) (w : World) : (Instr.typeAssert (.iface 139 v) 75 131 true).run Tryz.prog w = .ok (.tuple #[.agg #[.slice none 0 0], .bool false]) w := by kernel_rfl
theorem as_74 (v : Value) (w : World) : (Instr.typeAssert (.iface 139 v) 75 134 true).run Tryz.prog w = .ok (.tuple #[.agg #[.slice none 0 0], .bool false]) w := by kernel_rfl
theorem as_75 (v : Value) (w : World) : (Instr.typeAssert (.iface 139 v) 75 136 true).run Tryz.prog w = .ok (.tuple #[.agg #[.nilIface], .bool false]) w := by kernel_rfl
theorem as_76 (v : Value) (w : World) : (Instr.typeAssert (.iface 139 v) 75 138 true).run Tryz.prog w = .ok (.tuple #[.agg #[.nilIface, .nilIface], .bool false]) w := by kernel_rfl
/-- The contract for fewer nodes. -/
def FindsI (n : Int) (A : Option Addr) (N cap : Nat) (L : List ML) (m : ML) (i z : Nat) : Prop :=
  ∀ (k : KT) (q : Value) (w : World), nodesT k ≤ z → allT k = true → QV w k q → MIn w A N cap L → MxL w → Calls Tryz.prog 53 #[q, boxV n A N cap, .int .i64 (i : Int)] w (SaysB w (findT L m i k))
theorem whole_made1 {w : World} {t : TypeId} {cs : Array Value} {B : Nat} (h : w.heap.size = B) : Whole (w.alloc (.cells cs t)) B t cs := by subst h; exact Whole.made w t cs
theorem below_three {w : World} (a b c : Obj) : Below w.heap.size w (((w.alloc a).alloc b).alloc c) := (((Below.refl _ _).alloc (Nat.le_refl _) _).alloc (by simp) _).alloc (by simp; omega) _
theorem find_is {L : List ML} {m : ML} {i : Nat} {f : Int} {t : ByteArray} {S : List (Int × Int)} {ks : List KT} : findT L m i (.mk 0 f t S ks) = true ∧ findT L m i (.mk 1 f t S ks) = hvI m.2.1 f ∧ findT L m i (.mk 2 f t S ks) = Lib.contains m.2.2 t.data.toList ∧ findT L m i (.mk 3 f t S ks) = hasB S (L.length : Int) ((i : Int) + 1) ∧ findT L m i (.mk 4 f t S ks) = hasB S (lastU L) m.1 := by
  refine ⟨?_, ?_, ?_, ?_, ?_⟩ <;> (rw [findT]; simp)
set_option maxRecDepth 20000 in
set_option maxHeartbeats 4000000 in
theorem finds_all {n : Int} {A : Option Addr} {N cap : Nat} {L : List ML} {m : ML} {i z : Nat} (IH : FindsI n A N cap L m i z) (hb : bOk n L = true) (hi : L[i]? = some m) {f : Int} {t : ByteArray} {S : List (Int × Int)} {ks : List KT} (w : World)
    (hn : nodesT (.mk 0 f t S ks) ≤ z + 1) (ha : allT (.mk 0 f t S ks) = true) (hM : MIn w A N cap L) (hx : MxL w)  :
    Calls Tryz.prog 53 #[.iface 124 (.agg #[]), boxV n A N cap, .int .i64 (i : Int)] w (SaysB w (findT L m i (.mk 0 f t S ks))) := by
  obtain ⟨u, fl, tx⟩ := m
  have HI := Lib.hid hi
  have HM := Lib.hid hM
  have HX := Lib.hid hx
  have HBO := Lib.hid hb
  have HIH := Lib.hid IH
  have hiN : i < N := by rw [← hM.1]; exact (List.getElem?_eq_some_iff.1 hi).1
  have i0 : (0 : Int) ≤ (i : Int) := by omega
  have i1 : (i : Int) < (N : Int) := by omega
  have hN10 : N ≤ 10 := by rw [← hM.1]; exact (bOk_iff.1 hb).2.2.2.2
  have hmo := (bOk_get hb hi).1
  obtain ⟨b, o, rfl, hbz, c0, c1, c2⟩ := mail_at hM.2.2.1 hi
  obtain ⟨hal, hlf, hsh⟩ := all_node ha
  have HE := Lib.hid (find_is (L := L) (m := (u, fl, tx)) (i := i) (f := f) (t := t) (S := S) (ks := ks)).1
  clear hi hM hx hb IH hmo hal hlf hsh hn ha
  have asy := as_0y
  go_enter Tryz.func53, Tryz.ntmps53
  go_wp2
  go_ret
  exact ⟨ret_bool HE.out.symm, below_three _ _ _⟩
set_option maxRecDepth 20000 in
set_option maxHeartbeats 4000000 in
theorem finds_flag {n : Int} {A : Option Addr} {N cap : Nat} {L : List ML} {m : ML} {i z : Nat} (IH : FindsI n A N cap L m i z) (hb : bOk n L = true) (hi : L[i]? = some m) {f : Int} {t : ByteArray} {S : List (Int × Int)} {ks : List KT} (w : World)
    (hn : nodesT (.mk 1 f t S ks) ≤ z + 1) (ha : allT (.mk 1 f t S ks) = true) (hM : MIn w A N cap L) (hx : MxL w)  :
    Calls Tryz.prog 53 #[.iface 126 (.agg #[.int .i64 f]), boxV n A N cap, .int .i64 (i : Int)] w (SaysB w (findT L m i (.mk 1 f t S ks))) := by
  obtain ⟨u, fl, tx⟩ := m
  have HI := Lib.hid hi
  have HM := Lib.hid hM
  have HX := Lib.hid hx
  have HBO := Lib.hid hb
  have HIH := Lib.hid IH
  have hiN : i < N := by rw [← hM.1]; exact (List.getElem?_eq_some_iff.1 hi).1
  have i0 : (0 : Int) ≤ (i : Int) := by omega
  have i1 : (i : Int) < (N : Int) := by omega
  have hN10 : N ≤ 10 := by rw [← hM.1]; exact (bOk_iff.1 hb).2.2.2.2
  have hmo := (bOk_get hb hi).1
  obtain ⟨b, o, rfl, hbz, c0, c1, c2⟩ := mail_at hM.2.2.1 hi
  obtain ⟨hal, hlf, hsh⟩ := all_node ha
  have HE := Lib.hid (find_is (L := L) (m := (u, fl, tx)) (i := i) (f := f) (t := t) (S := S) (ks := ks)).2.1
  clear hi hM hx hb IH hmo hal hlf hsh hn ha
  obtain ⟨B, hB⟩ : ∃ B, w.heap.size = B := ⟨_, rfl⟩
  obtain ⟨w3, hw3⟩ : ∃ w3, (((w.alloc (.cells #[.int .i64 n, .slice (some ⟨b, o, none⟩) N cap] 48)).alloc (.cells #[.int .i64 u, .int .i64 fl, .string (sB tx)] 115)).alloc (.cells #[.int .i64 f] 126)) = w3 := ⟨_, rfl⟩
  have HB3 := Lib.hid (show Below B w w3 by rw [← hw3, ← hB]; exact (((Below.refl _ _).alloc (Nat.le_refl _) _).alloc (by simp) _).alloc (by simp; omega) _)
  have HWX := Lib.hid (show Whole w3 B 48 #[.int .i64 n, .slice (some ⟨b, o, none⟩) N cap] by rw [← hw3, ← hB]; exact ((Whole.made w _ _).alloc _).alloc _)
  have HWM := Lib.hid (show Whole w3 (B + 1) 115 #[.int .i64 u, .int .i64 fl, .string (sB tx)] by rw [← hw3, ← hB]; exact (whole_made1 (by simp)).alloc _)
  have HWQ := Lib.hid (show Whole w3 (B + 1 + 1) 126 #[.int .i64 f] by rw [← hw3, ← hB]; exact whole_made1 (by simp))
  have HMM := Lib.hid (HM.out.below HB3.out (Nat.le_of_eq hB))
  have HXX := Lib.hid (HX.out.below HB3.out (Nat.le_of_eq hB))
  have HW3 := Lib.hid hw3
  have HBB := Lib.hid hB
  clear hw3 hB
  have as0 := as_10
  have asy := as_1y
  go_enter Tryz.func53, Tryz.ntmps53
  go_wp2_with fail
  rw [HW3.out, HBB.out]
  refine (impl_have fl f _).mono ?_
  rintro e w4 ⟨rfl, j, rfl⟩
  go_wp2
  go_ret
  exact ⟨ret_bool HE.out.symm, below_drewN' (HBB.out.symm ▸ HB3.out) j⟩
set_option maxRecDepth 20000 in
set_option maxHeartbeats 4000000 in
theorem finds_text {n : Int} {A : Option Addr} {N cap : Nat} {L : List ML} {m : ML} {i z : Nat} (IH : FindsI n A N cap L m i z) (hb : bOk n L = true) (hi : L[i]? = some m) {f : Int} {t : ByteArray} {S : List (Int × Int)} {ks : List KT} (w : World)
    (hn : nodesT (.mk 2 f t S ks) ≤ z + 1) (ha : allT (.mk 2 f t S ks) = true) (hM : MIn w A N cap L) (hx : MxL w)  :
    Calls Tryz.prog 53 #[.iface 129 (.agg #[.string t]), boxV n A N cap, .int .i64 (i : Int)] w (SaysB w (findT L m i (.mk 2 f t S ks))) := by
  obtain ⟨u, fl, tx⟩ := m
  have HI := Lib.hid hi
  have HM := Lib.hid hM
  have HX := Lib.hid hx
  have HBO := Lib.hid hb
  have HIH := Lib.hid IH
  have hiN : i < N := by rw [← hM.1]; exact (List.getElem?_eq_some_iff.1 hi).1
  have i0 : (0 : Int) ≤ (i : Int) := by omega
  have i1 : (i : Int) < (N : Int) := by omega
  have hN10 : N ≤ 10 := by rw [← hM.1]; exact (bOk_iff.1 hb).2.2.2.2
  have hmo := (bOk_get hb hi).1
  obtain ⟨b, o, rfl, hbz, c0, c1, c2⟩ := mail_at hM.2.2.1 hi
  obtain ⟨hal, hlf, hsh⟩ := all_node ha
  have HE := Lib.hid (find_is (L := L) (m := (u, fl, tx)) (i := i) (f := f) (t := t) (S := S) (ks := ks)).2.2.1
  have htx : (sB tx).size ≤ 16777216 := by rw [sB_size]; have h2 : tx.length ≤ 20 := (mOk_iff.1 hmo).2.2; omega
  obtain ⟨z2, hz2⟩ : ∃ z, Lib.contains (sB tx).data.toList t.data.toList = z := ⟨_, rfl⟩
  have HZ := Lib.hid hz2
  have HE2 : Hid (findT L (u, fl, tx) i (.mk 2 f t S ks) = z2) := Lib.hid (HE.out.trans (by rw [← hz2, sB_list]))
  clear hi hM hx hb IH hmo hal hlf hsh hn ha hz2
  obtain ⟨B, hB⟩ : ∃ B, w.heap.size = B := ⟨_, rfl⟩
  obtain ⟨w3, hw3⟩ : ∃ w3, (((w.alloc (.cells #[.int .i64 n, .slice (some ⟨b, o, none⟩) N cap] 48)).alloc (.cells #[.int .i64 u, .int .i64 fl, .string (sB tx)] 115)).alloc (.cells #[.string t] 129)) = w3 := ⟨_, rfl⟩
  have HB3 := Lib.hid (show Below B w w3 by rw [← hw3, ← hB]; exact (((Below.refl _ _).alloc (Nat.le_refl _) _).alloc (by simp) _).alloc (by simp; omega) _)
  have HWX := Lib.hid (show Whole w3 B 48 #[.int .i64 n, .slice (some ⟨b, o, none⟩) N cap] by rw [← hw3, ← hB]; exact ((Whole.made w _ _).alloc _).alloc _)
  have HWM := Lib.hid (show Whole w3 (B + 1) 115 #[.int .i64 u, .int .i64 fl, .string (sB tx)] by rw [← hw3, ← hB]; exact (whole_made1 (by simp)).alloc _)
  have HWQ := Lib.hid (show Whole w3 (B + 1 + 1) 129 #[.string t] by rw [← hw3, ← hB]; exact whole_made1 (by simp))
  have HMM := Lib.hid (HM.out.below HB3.out (Nat.le_of_eq hB))
  have HXX := Lib.hid (HX.out.below HB3.out (Nat.le_of_eq hB))
  have HW3 := Lib.hid hw3
  have HBB := Lib.hid hB
  clear hw3 hB
  have as0 := as_20
  have as1 := as_21
  have asy := as_2y
  go_enter Tryz.func53, Tryz.ntmps53
  go_wp2_with fail
  rw [HW3.out, HBB.out]
  refine (lib_contains HZ.out _ htx HXX.out).mono ?_
  rintro e w4 ⟨rfl, rfl⟩
  go_wp2
  go_ret
  exact ⟨ret_bool HE2.out.symm, HBB.out.symm ▸ HB3.out⟩
set_option maxRecDepth 20000 in
set_option maxHeartbeats 4000000 in
theorem finds_place {n : Int} {A : Option Addr} {N cap : Nat} {L : List ML} {m : ML} {i z : Nat} (IH : FindsI n A N cap L m i z) (hb : bOk n L = true) (hi : L[i]? = some m) {f : Int} {t : ByteArray} {S : List (Int × Int)} {ks : List KT} (w : World)
    (hn : nodesT (.mk 3 f t S ks) ≤ z + 1) (ha : allT (.mk 3 f t S ks) = true) (hM : MIn w A N cap L) (hx : MxL w) {AS : Option Addr} {cS : Nat} (hsp : SpA w AS S) :
    Calls Tryz.prog 53 #[.iface 131 (.agg #[.slice AS S.length cS]), boxV n A N cap, .int .i64 (i : Int)] w (SaysB w (findT L m i (.mk 3 f t S ks))) := by
  obtain ⟨u, fl, tx⟩ := m
  have HI := Lib.hid hi
  have HM := Lib.hid hM
  have HX := Lib.hid hx
  have HBO := Lib.hid hb
  have HIH := Lib.hid IH
  have hiN : i < N := by rw [← hM.1]; exact (List.getElem?_eq_some_iff.1 hi).1
  have i0 : (0 : Int) ≤ (i : Int) := by omega
  have i1 : (i : Int) < (N : Int) := by omega
  have hN10 : N ≤ 10 := by rw [← hM.1]; exact (bOk_iff.1 hb).2.2.2.2
  have hmo := (bOk_get hb hi).1
  obtain ⟨b, o, rfl, hbz, c0, c1, c2⟩ := mail_at hM.2.2.1 hi
  obtain ⟨hal, hlf, hsh⟩ := all_node ha
  have HE := Lib.hid (find_is (L := L) (m := (u, fl, tx)) (i := i) (f := f) (t := t) (S := S) (ks := ks)).2.2.2.1
  have hsb : setB S = true := by have := hlf; unfold leafB at this; simpa using this
  have HSB := Lib.hid hsb
  have hsl : S.length ≤ 6 := (setB_iff.1 hsb).2.2
  have HS := Lib.hid hsp
  have hh := nums_has (S := S) (last := (N : Int)) (x := (i : Int) + 1) hsb (by omega) (by omega) (by omega)
  have HE2 : Hid (hasI ((numsB S (N : Int)).map fun (n : Nat) => (n : Int)) ((i : Int) + 1) = findT L (u, fl, tx) i (.mk 3 f t S ks)) := Lib.hid (by rw [HE.out, HM.out.1]; exact hh)
  have W1 : IntKind.i64.wrap ((i : Int) + 1) = (i : Int) + 1 := IntWalk.i64_in _ (by omega)
  have hsl2 : S.length ≤ 33554432 := by omega
  clear hi hM hx hb IH hmo hal hlf hsh hn ha hh hsb hsp
  obtain ⟨B, hB⟩ : ∃ B, w.heap.size = B := ⟨_, rfl⟩
  obtain ⟨w3, hw3⟩ : ∃ w3, (((w.alloc (.cells #[.int .i64 n, .slice (some ⟨b, o, none⟩) N cap] 48)).alloc (.cells #[.int .i64 u, .int .i64 fl, .string (sB tx)] 115)).alloc (.cells #[.slice AS S.length cS] 131)) = w3 := ⟨_, rfl⟩
  have HB3 := Lib.hid (show Below B w w3 by rw [← hw3, ← hB]; exact (((Below.refl _ _).alloc (Nat.le_refl _) _).alloc (by simp) _).alloc (by simp; omega) _)
  have HWX := Lib.hid (show Whole w3 B 48 #[.int .i64 n, .slice (some ⟨b, o, none⟩) N cap] by rw [← hw3, ← hB]; exact ((Whole.made w _ _).alloc _).alloc _)
  have HWM := Lib.hid (show Whole w3 (B + 1) 115 #[.int .i64 u, .int .i64 fl, .string (sB tx)] by rw [← hw3, ← hB]; exact (whole_made1 (by simp)).alloc _)
  have HWQ := Lib.hid (show Whole w3 (B + 1 + 1) 131 #[.slice AS S.length cS] by rw [← hw3, ← hB]; exact whole_made1 (by simp))
  have HMM := Lib.hid (HM.out.below HB3.out (Nat.le_of_eq hB))
  have HXX := Lib.hid (HX.out.below HB3.out (Nat.le_of_eq hB))
  have HW3 := Lib.hid hw3
  have HBB := Lib.hid hB
  clear hw3 hB
  have HSS := Lib.hid (HS.out.below HB3.out (Nat.le_of_eq HBB.out))
  have as0 := as_30
  have as1 := as_31
  have as2 := as_32
  have asy := as_3y
  go_enter Tryz.func53, Tryz.ntmps53
  go_wp2_with fail
  rw [HW3.out, HBB.out]
  refine (impl_setnumbers AS cS S (N : Int) _ HSS.out hsl2).mono ?_
  rintro e w4 ⟨v, rfl, ho, hb4⟩
  have hr := ownI_row ho
  obtain ⟨A4, N4, cap4, rfl⟩ := hr.val
  have hl4 := hr.len.1
  have hll := numsB_len S (N : Int)
  rw [List.length_map] at hl4
  have HI4 := Lib.hid (IIn.of hr (by omega))
  have HB4 := Lib.hid (HB3.out.trans (hb4.mono (by have := HWX.out.lt; omega)))
  have HWX4 := Lib.hid (HWX.out.below hb4 HWX.out.lt)
  have HWM4 := Lib.hid (HWM.out.below hb4 HWM.out.lt)
  have HWQ4 := Lib.hid (HWQ.out.below hb4 HWQ.out.lt)
  clear ho hr hb4 hl4 hll
  go_wp2_with fail
  refine (lib_has ((i : Int) + 1) _ HI4.out).mono ?_
  rintro e w5 ⟨rfl, hb5⟩
  have HB5 := Lib.hid (HB4.out.trans (hb5.mono (by have := HWX4.out.lt; omega)))
  clear hb5
  go_wp2
  go_ret
  exact ⟨ret_bool HE2.out, HBB.out.symm ▸ HB5.out⟩
set_option maxRecDepth 20000 in
set_option maxHeartbeats 4000000 in
theorem finds_uid {n : Int} {A : Option Addr} {N cap : Nat} {L : List ML} {m : ML} {i z : Nat} (IH : FindsI n A N cap L m i z) (hb : bOk n L = true) (hi : L[i]? = some m) {f : Int} {t : ByteArray} {S : List (Int × Int)} {ks : List KT} (w : World)
    (hn : nodesT (.mk 4 f t S ks) ≤ z + 1) (ha : allT (.mk 4 f t S ks) = true) (hM : MIn w A N cap L) (hx : MxL w) {AS : Option Addr} {cS : Nat} (hsp : SpA w AS S) :
    Calls Tryz.prog 53 #[.iface 134 (.agg #[.slice AS S.length cS]), boxV n A N cap, .int .i64 (i : Int)] w (SaysB w (findT L m i (.mk 4 f t S ks))) := by
  obtain ⟨u, fl, tx⟩ := m
  have HI := Lib.hid hi
  have HM := Lib.hid hM
  have HX := Lib.hid hx
  have HBO := Lib.hid hb
  have HIH := Lib.hid IH
  have hiN : i < N := by rw [← hM.1]; exact (List.getElem?_eq_some_iff.1 hi).1
  have i0 : (0 : Int) ≤ (i : Int) := by omega
  have i1 : (i : Int) < (N : Int) := by omega
  have hN10 : N ≤ 10 := by rw [← hM.1]; exact (bOk_iff.1 hb).2.2.2.2
  have hmo := (bOk_get hb hi).1
  obtain ⟨b, o, rfl, hbz, c0, c1, c2⟩ := mail_at hM.2.2.1 hi
  obtain ⟨hal, hlf, hsh⟩ := all_node ha
  have HE := Lib.hid (find_is (L := L) (m := (u, fl, tx)) (i := i) (f := f) (t := t) (S := S) (ks := ks)).2.2.2.2
  have hsb : setB S = true := by have := hlf; unfold leafB at this; simpa using this
  have HSB := Lib.hid hsb
  have hsl : S.length ≤ 6 := (setB_iff.1 hsb).2.2
  have HS := Lib.hid hsp
  obtain ⟨⟨lu, lf, lt⟩, hlx, hlu, hl1, hl2, hl3⟩ := last_is hb hi
  have hh := nums_has (S := S) (last := lu) (x := u) hsb hl1 hl2 hl3
  have HE2 : Hid (hasI ((numsB S lu).map fun (n : Nat) => (n : Int)) u = findT L (u, fl, tx) i (.mk 4 f t S ks)) := Lib.hid (by rw [HE.out, hlu]; exact hh)
  rw [hM.1] at hlx
  obtain ⟨b', o', he, _, d0, d1, d2⟩ := mail_at hM.2.2.1 hlx
  cases he
  obtain ⟨N1, hN1⟩ : ∃ N1, N - 1 = N1 := ⟨_, rfl⟩
  rw [hN1] at d0 d1 d2
  have W1 : IntKind.i64.wrap ((N : Int) - 1) = (N1 : Int) := by rw [IntWalk.i64_in _ (by omega)]; omega
  have n0 : (0 : Int) ≤ (N1 : Int) := by omega
  have n1 : (N1 : Int) < (N : Int) := by omega
  have hsl2 : S.length ≤ 33554432 := by omega
  clear hi hM hx hb IH hmo hal hlf hsh hn ha hh hsb hsp hlx hlu hl1 hl2 hl3 hN1 d1 d2
  obtain ⟨B, hB⟩ : ∃ B, w.heap.size = B := ⟨_, rfl⟩
  obtain ⟨w3, hw3⟩ : ∃ w3, (((w.alloc (.cells #[.int .i64 n, .slice (some ⟨b, o, none⟩) N cap] 48)).alloc (.cells #[.int .i64 u, .int .i64 fl, .string (sB tx)] 115)).alloc (.cells #[.slice AS S.length cS] 134)) = w3 := ⟨_, rfl⟩
  have HB3 := Lib.hid (show Below B w w3 by rw [← hw3, ← hB]; exact (((Below.refl _ _).alloc (Nat.le_refl _) _).alloc (by simp) _).alloc (by simp; omega) _)
  have HWX := Lib.hid (show Whole w3 B 48 #[.int .i64 n, .slice (some ⟨b, o, none⟩) N cap] by rw [← hw3, ← hB]; exact ((Whole.made w _ _).alloc _).alloc _)
  have HWM := Lib.hid (show Whole w3 (B + 1) 115 #[.int .i64 u, .int .i64 fl, .string (sB tx)] by rw [← hw3, ← hB]; exact (whole_made1 (by simp)).alloc _)
  have HWQ := Lib.hid (show Whole w3 (B + 1 + 1) 134 #[.slice AS S.length cS] by rw [← hw3, ← hB]; exact whole_made1 (by simp))
  have HMM := Lib.hid (HM.out.below HB3.out (Nat.le_of_eq hB))
  have HXX := Lib.hid (HX.out.below HB3.out (Nat.le_of_eq hB))
  have HW3 := Lib.hid hw3
  have HBB := Lib.hid hB
  clear hw3 hB
  have HSS := Lib.hid (HS.out.below HB3.out (Nat.le_of_eq HBB.out))
  have HSD : Hid (SpA w3.drew AS S) := HSS
  have k0 : w3.cell? ⟨B + 1 + 1, 0, none⟩ = some (.slice AS S.length cS) := HWQ.out.cell 0
  have k1 : w3.cell? ⟨B + 1, 0, none⟩ = some (.int .i64 u) := HWM.out.cell 0
  have kr : (((w.alloc (.cells #[.int .i64 n, .slice (some ⟨b, o, none⟩) N cap] 48)).alloc (.cells #[.int .i64 u, .int .i64 fl, .string (sB tx)] 115)).alloc (.cells #[.slice AS S.length cS] 134)).cell? ⟨b, o + N1 * 3, none⟩ = some (.int .i64 lu) := by rw [HW3.out]; exact (HB3.out.cell (by show b < B; rw [← HBB.out]; exact hbz)).trans d0
  clear d0
  have as0 := as_40
  have as1 := as_41
  have as2 := as_42
  have as3 := as_43
  have asy := as_4y
  go_enter Tryz.func53, Tryz.ntmps53
  go_wp2
  rw [HW3.out, HBB.out]
  go_region_held3 (fun w' => w'.cell? ⟨B + 1 + 1, 0, none⟩ = some (.slice AS S.length cS) ∧ w'.cell? ⟨B + 1, 0, none⟩ = some (.int .i64 u)) (go_keep) (first
    | (go_at_call 83
       refine (impl_setnumbers AS cS S lu _ HSD.out hsl2).mono ?_
       rintro e w4 ⟨v, rfl, ho, hb4⟩
       have hr := ownI_row ho
       obtain ⟨A4, N4, cap4, rfl⟩ := hr.val
       have hl4 := hr.len.1
       have hll := numsB_len S lu
       rw [List.length_map] at hl4
       have HI4 := Lib.hid (IIn.of hr (by omega))
       have hb40 : Below w3.heap.size w3 w4 := (below_drew1 w3).trans hb4
       have HB4 := Lib.hid (HB3.out.trans (hb40.mono (by have := HWX.out.lt; omega)))
       have HWQ4 := Lib.hid (HWQ.out.below hb40 HWQ.out.lt)
       have HWM4 := Lib.hid (HWM.out.below hb40 HWM.out.lt)
       have k3 : w4.cell? ⟨B + 1 + 1, 0, none⟩ = some (.slice AS S.length cS) := (HWQ.out.below hb40 HWQ.out.lt).cell 0
       have k4 : w4.cell? ⟨B + 1, 0, none⟩ = some (.int .i64 u) := (HWM.out.below hb40 HWM.out.lt).cell 0
       clear ho hr hb4 hb40 hl4 hll)
    | (go_at_call 82
       refine (lib_has u _ HI4.out).mono ?_
       rintro e w5 ⟨rfl, hb5⟩
       have HB5 := Lib.hid (HB4.out.trans (hb5.mono (by have := HB4.out.size; have := HBB.out; omega)))
       have k5 : w5.cell? ⟨B + 1 + 1, 0, none⟩ = some (.slice AS S.length cS) := (HWQ4.out.below hb5 HWQ4.out.lt).cell 0
       have k6 : w5.cell? ⟨B + 1, 0, none⟩ = some (.int .i64 u) := (HWM4.out.below hb5 HWM4.out.lt).cell 0
       clear hb5))
  all_goals (
    go_wp2
    go_ret
    exact ⟨ret_bool HE2.out, HBB.out.symm ▸ HB5.out⟩)
set_option maxRecDepth 20000 in
set_option maxHeartbeats 4000000 in
theorem finds_not {n : Int} {A : Option Addr} {N cap : Nat} {L : List ML} {m : ML} {i z : Nat} (IH : FindsI n A N cap L m i z) (hb : bOk n L = true) (hi : L[i]? = some m) {f : Int} {t : ByteArray} {S : List (Int × Int)} {ks : List KT} (w : World)
    (hn : nodesT (.mk 5 f t S ks) ≤ z + 1) (ha : allT (.mk 5 f t S ks) = true) (hM : MIn w A N cap L) (hx : MxL w) {q1 : TypeId} {a1 : Array Value} (hq : QVs w ks [.iface q1 (.agg a1)]) :
    Calls Tryz.prog 53 #[.iface 136 (.agg #[.iface q1 (.agg a1)]), boxV n A N cap, .int .i64 (i : Int)] w (SaysB w (findT L m i (.mk 5 f t S ks))) := by
  obtain ⟨u, fl, tx⟩ := m
  have HI := Lib.hid hi
  have HM := Lib.hid hM
  have HX := Lib.hid hx
  have HBO := Lib.hid hb
  have HIH := Lib.hid IH
  have hiN : i < N := by rw [← hM.1]; exact (List.getElem?_eq_some_iff.1 hi).1
  have i0 : (0 : Int) ≤ (i : Int) := by omega
  have i1 : (i : Int) < (N : Int) := by omega
  have hN10 : N ≤ 10 := by rw [← hM.1]; exact (bOk_iff.1 hb).2.2.2.2
  have hmo := (bOk_get hb hi).1
  obtain ⟨b, o, rfl, hbz, c0, c1, c2⟩ := mail_at hM.2.2.1 hi
  obtain ⟨hal, hlf, hsh⟩ := all_node ha
  obtain ⟨k, rfl, hk⟩ := qvs_one hq
  rw [nodes_one] at hn
  have HK := Lib.hid hk
  have HA := Lib.hid (allL_one hal)
  obtain ⟨r, hr⟩ : ∃ r, findT L (u, fl, tx) i k = r := ⟨_, rfl⟩
  have HR := Lib.hid hr
  have hnz : nodesT k ≤ z := by omega
  clear hi hM hx hb IH hmo hal hlf hsh hn ha hq hk hr
  obtain ⟨B, hB⟩ : ∃ B, w.heap.size = B := ⟨_, rfl⟩
  obtain ⟨w3, hw3⟩ : ∃ w3, (((w.alloc (.cells #[.int .i64 n, .slice (some ⟨b, o, none⟩) N cap] 48)).alloc (.cells #[.int .i64 u, .int .i64 fl, .string (sB tx)] 115)).alloc (.cells #[.iface q1 (.agg a1)] 136)) = w3 := ⟨_, rfl⟩
  have HB3 := Lib.hid (show Below B w w3 by rw [← hw3, ← hB]; exact (((Below.refl _ _).alloc (Nat.le_refl _) _).alloc (by simp) _).alloc (by simp; omega) _)
  have HWX := Lib.hid (show Whole w3 B 48 #[.int .i64 n, .slice (some ⟨b, o, none⟩) N cap] by rw [← hw3, ← hB]; exact ((Whole.made w _ _).alloc _).alloc _)
  have HWM := Lib.hid (show Whole w3 (B + 1) 115 #[.int .i64 u, .int .i64 fl, .string (sB tx)] by rw [← hw3, ← hB]; exact (whole_made1 (by simp)).alloc _)
  have HWQ := Lib.hid (show Whole w3 (B + 1 + 1) 136 #[.iface q1 (.agg a1)] by rw [← hw3, ← hB]; exact whole_made1 (by simp))
  have HMM := Lib.hid (HM.out.below HB3.out (Nat.le_of_eq hB))
  have HXX := Lib.hid (HX.out.below HB3.out (Nat.le_of_eq hB))
  have HW3 := Lib.hid hw3
  have HBB := Lib.hid hB
  clear hw3 hB
  have HKK := Lib.hid (QV.below HB3.out (Nat.le_of_eq HBB.out) k _ HK.out)
  have HC := Lib.hid (HIH.out k _ w3 hnz HA.out HKK.out HMM.out HXX.out)
  rw [HR.out] at HC
  have x1 : w3.cell? ⟨B, 1, none⟩ = some (.slice (some ⟨b, o, none⟩) N cap) := HWX.out.cell 1
  have x0 : w3.cell? ⟨B, 0, none⟩ = some (.int .i64 n) := HWX.out.cell 0
  have q0 : w3.cell? ⟨B + 1 + 1, 0, none⟩ = some (.iface q1 (.agg a1)) := HWQ.out.cell 0
  have as0 := as_50
  have as1 := as_51
  have as2 := as_52
  have as3 := as_53
  have as4 := as_54
  have asy := as_5y
  go_enter Tryz.func53, Tryz.ntmps53
  go_wp2_with fail
  rw [HW3.out, HBB.out]
  refine HC.out.mono ?_
  rintro e w4 ⟨rfl, hb4⟩
  have HB4 := Lib.hid (HB3.out.trans (hb4.mono (by have := HWX.out.lt; omega)))
  clear hb4
  go_wp2
  go_ret
  exact ⟨ret_bool (find_not HR.out).symm, HBB.out.symm ▸ HB4.out⟩
set_option maxRecDepth 20000 in
set_option maxHeartbeats 4000000 in
theorem finds_and {n : Int} {A : Option Addr} {N cap : Nat} {L : List ML} {m : ML} {i z : Nat} (IH : FindsI n A N cap L m i z) (hb : bOk n L = true) (hi : L[i]? = some m) {f : Int} {t : ByteArray} {S : List (Int × Int)} {ks : List KT} (w : World)
    (hn : nodesT (.mk 6 f t S ks) ≤ z + 1) (ha : allT (.mk 6 f t S ks) = true) (hM : MIn w A N cap L) (hx : MxL w) {q1 q2 : TypeId} {a1 a2 : Array Value} (hq : QVs w ks [.iface q1 (.agg a1), .iface q2 (.agg a2)]) :
    Calls Tryz.prog 53 #[.iface 138 (.agg #[.iface q1 (.agg a1), .iface q2 (.agg a2)]), boxV n A N cap, .int .i64 (i : Int)] w (SaysB w (findT L m i (.mk 6 f t S ks))) := by
  obtain ⟨u, fl, tx⟩ := m
  have HI := Lib.hid hi
  have HM := Lib.hid hM
  have HX := Lib.hid hx
  have HBO := Lib.hid hb
  have HIH := Lib.hid IH
  have hiN : i < N := by rw [← hM.1]; exact (List.getElem?_eq_some_iff.1 hi).1
  have i0 : (0 : Int) ≤ (i : Int) := by omega
  have i1 : (i : Int) < (N : Int) := by omega
  have hN10 : N ≤ 10 := by rw [← hM.1]; exact (bOk_iff.1 hb).2.2.2.2
  have hmo := (bOk_get hb hi).1
  obtain ⟨b, o, rfl, hbz, c0, c1, c2⟩ := mail_at hM.2.2.1 hi
  obtain ⟨hal, hlf, hsh⟩ := all_node ha
  obtain ⟨k, k2, rfl, hk, hk2⟩ := qvs_two hq
  rw [nodes_two] at hn
  have HK := Lib.hid hk
  have HK2 := Lib.hid hk2
  have HA := Lib.hid (allL_two hal)
  obtain ⟨r, hr⟩ : ∃ r, findT L (u, fl, tx) i k = r := ⟨_, rfl⟩
  obtain ⟨s, hs⟩ : ∃ s, findT L (u, fl, tx) i k2 = s := ⟨_, rfl⟩
  have HR := Lib.hid hr
  have HS := Lib.hid hs
  have hnz : nodesT k ≤ z := by omega
  have hnz2 : nodesT k2 ≤ z := by omega
  clear hi hM hx hb IH hmo hal hlf hsh hn ha hq hk hk2 hr hs
  obtain ⟨B, hB⟩ : ∃ B, w.heap.size = B := ⟨_, rfl⟩
  obtain ⟨w3, hw3⟩ : ∃ w3, (((w.alloc (.cells #[.int .i64 n, .slice (some ⟨b, o, none⟩) N cap] 48)).alloc (.cells #[.int .i64 u, .int .i64 fl, .string (sB tx)] 115)).alloc (.cells #[.iface q1 (.agg a1), .iface q2 (.agg a2)] 138)) = w3 := ⟨_, rfl⟩
  have HB3 := Lib.hid (show Below B w w3 by rw [← hw3, ← hB]; exact (((Below.refl _ _).alloc (Nat.le_refl _) _).alloc (by simp) _).alloc (by simp; omega) _)
  have HWX := Lib.hid (show Whole w3 B 48 #[.int .i64 n, .slice (some ⟨b, o, none⟩) N cap] by rw [← hw3, ← hB]; exact ((Whole.made w _ _).alloc _).alloc _)
  have HWM := Lib.hid (show Whole w3 (B + 1) 115 #[.int .i64 u, .int .i64 fl, .string (sB tx)] by rw [← hw3, ← hB]; exact (whole_made1 (by simp)).alloc _)
  have HWQ := Lib.hid (show Whole w3 (B + 1 + 1) 138 #[.iface q1 (.agg a1), .iface q2 (.agg a2)] by rw [← hw3, ← hB]; exact whole_made1 (by simp))
  have HMM := Lib.hid (HM.out.below HB3.out (Nat.le_of_eq hB))
  have HXX := Lib.hid (HX.out.below HB3.out (Nat.le_of_eq hB))
  have HW3 := Lib.hid hw3
  have HBB := Lib.hid hB
  clear hw3 hB
  have HKK := Lib.hid (QV.below HB3.out (Nat.le_of_eq HBB.out) k _ HK.out)
  have HKK2 := Lib.hid (QV.below HB3.out (Nat.le_of_eq HBB.out) k2 _ HK2.out)
  have HC := Lib.hid (HIH.out k _ w3 hnz HA.out.1 HKK.out HMM.out HXX.out)
  rw [HR.out] at HC
  have x1 : w3.cell? ⟨B, 1, none⟩ = some (.slice (some ⟨b, o, none⟩) N cap) := HWX.out.cell 1
  have x0 : w3.cell? ⟨B, 0, none⟩ = some (.int .i64 n) := HWX.out.cell 0
  have q0 : w3.cell? ⟨B + 1 + 1, 0, none⟩ = some (.iface q1 (.agg a1)) := HWQ.out.cell 0
  have as0 := as_60
  have as1 := as_61
  have as2 := as_62
  have as3 := as_63
  have as4 := as_64
  have as5 := as_65
  have asy := as_6y
  cases r with
  | false =>
    go_enter Tryz.func53, Tryz.ntmps53
    go_wp2_with fail
    rw [HW3.out, HBB.out]
    refine HC.out.mono ?_
    rintro e w4 ⟨rfl, hb4⟩
    have HB4 := Lib.hid (HB3.out.trans (hb4.mono (by have := HWX.out.lt; omega)))
    clear hb4
    go_wp2
    go_ret
    exact ⟨ret_bool ((find_and HR.out HS.out).trans (by simp)).symm, HBB.out.symm ▸ HB4.out⟩
  | true =>
    go_enter Tryz.func53, Tryz.ntmps53
    go_wp2_with fail
    rw [HW3.out, HBB.out]
    refine HC.out.mono ?_
    rintro e w4 ⟨rfl, hb4⟩
    have HB4 := Lib.hid (HB3.out.trans (hb4.mono (by have := HWX.out.lt; omega)))
    have HWX4 := Lib.hid (HWX.out.below hb4 HWX.out.lt)
    have HWQ4 := Lib.hid (HWQ.out.below hb4 HWQ.out.lt)
    have HKK4 := Lib.hid (QV.below hb4 (Nat.le_refl _) k2 _ HKK2.out)
    have HM4 := Lib.hid (HMM.out.below hb4 (Nat.le_refl _))
    have HX4 := Lib.hid (HXX.out.below hb4 (Nat.le_refl _))
    have HC2 := Lib.hid (HIH.out k2 _ w4 hnz2 HA.out.2 HKK4.out HM4.out HX4.out)
    rw [HS.out] at HC2
    have x14 : w4.cell? ⟨B, 1, none⟩ = some (.slice (some ⟨b, o, none⟩) N cap) := HWX4.out.cell 1
    have x04 : w4.cell? ⟨B, 0, none⟩ = some (.int .i64 n) := HWX4.out.cell 0
    have q1' : w4.cell? ⟨B + 1 + 1, 1, none⟩ = some (.iface q2 (.agg a2)) := HWQ4.out.cell 1
    clear hb4 x0 x1 q0
    go_wp2_with fail
    refine HC2.out.mono ?_
    rintro e w5 ⟨rfl, hb5⟩
    have HB5 := Lib.hid (HB4.out.trans (hb5.mono (by have := HWX4.out.lt; omega)))
    clear hb5
    go_wp2
    go_ret
    exact ⟨ret_bool ((find_and HR.out HS.out).trans (by simp)).symm, HBB.out.symm ▸ HB5.out⟩
set_option maxRecDepth 20000 in
set_option maxHeartbeats 4000000 in
theorem finds_or {n : Int} {A : Option Addr} {N cap : Nat} {L : List ML} {m : ML} {i z : Nat} (IH : FindsI n A N cap L m i z) (hb : bOk n L = true) (hi : L[i]? = some m) {f : Int} {t : ByteArray} {S : List (Int × Int)} {ks : List KT} (w : World)
    (hn : nodesT (.mk 7 f t S ks) ≤ z + 1) (ha : allT (.mk 7 f t S ks) = true) (hM : MIn w A N cap L) (hx : MxL w) {q1 q2 : TypeId} {a1 a2 : Array Value} (hq : QVs w ks [.iface q1 (.agg a1), .iface q2 (.agg a2)]) :
    Calls Tryz.prog 53 #[.iface 139 (.agg #[.iface q1 (.agg a1), .iface q2 (.agg a2)]), boxV n A N cap, .int .i64 (i : Int)] w (SaysB w (findT L m i (.mk 7 f t S ks))) := by
  obtain ⟨u, fl, tx⟩ := m
  have HI := Lib.hid hi
  have HM := Lib.hid hM
  have HX := Lib.hid hx
  have HBO := Lib.hid hb
  have HIH := Lib.hid IH
  have hiN : i < N := by rw [← hM.1]; exact (List.getElem?_eq_some_iff.1 hi).1
  have i0 : (0 : Int) ≤ (i : Int) := by omega
  have i1 : (i : Int) < (N : Int) := by omega
  have hN10 : N ≤ 10 := by rw [← hM.1]; exact (bOk_iff.1 hb).2.2.2.2
  have hmo := (bOk_get hb hi).1
  obtain ⟨b, o, rfl, hbz, c0, c1, c2⟩ := mail_at hM.2.2.1 hi
  obtain ⟨hal, hlf, hsh⟩ := all_node ha
  obtain ⟨k, k2, rfl, hk, hk2⟩ := qvs_two hq
  rw [nodes_two] at hn
  have HK := Lib.hid hk
  have HK2 := Lib.hid hk2
  have HA := Lib.hid (allL_two hal)
  obtain ⟨r, hr⟩ : ∃ r, findT L (u, fl, tx) i k = r := ⟨_, rfl⟩
  obtain ⟨s, hs⟩ : ∃ s, findT L (u, fl, tx) i k2 = s := ⟨_, rfl⟩
  have HR := Lib.hid hr
  have HS := Lib.hid hs
  have hnz : nodesT k ≤ z := by omega
  have hnz2 : nodesT k2 ≤ z := by omega
  clear hi hM hx hb IH hmo hal hlf hsh hn ha hq hk hk2 hr hs
  obtain ⟨B, hB⟩ : ∃ B, w.heap.size = B := ⟨_, rfl⟩
  obtain ⟨w3, hw3⟩ : ∃ w3, (((w.alloc (.cells #[.int .i64 n, .slice (some ⟨b, o, none⟩) N cap] 48)).alloc (.cells #[.int .i64 u, .int .i64 fl, .string (sB tx)] 115)).alloc (.cells #[.iface q1 (.agg a1), .iface q2 (.agg a2)] 139)) = w3 := ⟨_, rfl⟩
  have HB3 := Lib.hid (show Below B w w3 by rw [← hw3, ← hB]; exact (((Below.refl _ _).alloc (Nat.le_refl _) _).alloc (by simp) _).alloc (by simp; omega) _)
  have HWX := Lib.hid (show Whole w3 B 48 #[.int .i64 n, .slice (some ⟨b, o, none⟩) N cap] by rw [← hw3, ← hB]; exact ((Whole.made w _ _).alloc _).alloc _)
  have HWM := Lib.hid (show Whole w3 (B + 1) 115 #[.int .i64 u, .int .i64 fl, .string (sB tx)] by rw [← hw3, ← hB]; exact (whole_made1 (by simp)).alloc _)
  have HWQ := Lib.hid (show Whole w3 (B + 1 + 1) 139 #[.iface q1 (.agg a1), .iface q2 (.agg a2)] by rw [← hw3, ← hB]; exact whole_made1 (by simp))
  have HMM := Lib.hid (HM.out.below HB3.out (Nat.le_of_eq hB))
  have HXX := Lib.hid (HX.out.below HB3.out (Nat.le_of_eq hB))
  have HW3 := Lib.hid hw3
  have HBB := Lib.hid hB
  clear hw3 hB
  have HKK := Lib.hid (QV.below HB3.out (Nat.le_of_eq HBB.out) k _ HK.out)
  have HKK2 := Lib.hid (QV.below HB3.out (Nat.le_of_eq HBB.out) k2 _ HK2.out)
  have HC := Lib.hid (HIH.out k _ w3 hnz HA.out.1 HKK.out HMM.out HXX.out)
  rw [HR.out] at HC
  have x1 : w3.cell? ⟨B, 1, none⟩ = some (.slice (some ⟨b, o, none⟩) N cap) := HWX.out.cell 1
  have x0 : w3.cell? ⟨B, 0, none⟩ = some (.int .i64 n) := HWX.out.cell 0
  have q0 : w3.cell? ⟨B + 1 + 1, 0, none⟩ = some (.iface q1 (.agg a1)) := HWQ.out.cell 0
  have as0 := as_70
  have as1 := as_71
  have as2 := as_72
  have as3 := as_73
  have as4 := as_74
  have as5 := as_75
  have as6 := as_76
  have asy := as_7y
  cases r with
  | true =>
    go_enter Tryz.func53, Tryz.ntmps53
    go_wp2_with fail
    rw [HW3.out, HBB.out]
    refine HC.out.mono ?_
    rintro e w4 ⟨rfl, hb4⟩
    have HB4 := Lib.hid (HB3.out.trans (hb4.mono (by have := HWX.out.lt; omega)))
    clear hb4
    go_wp2
    go_ret
    exact ⟨ret_bool ((find_or HR.out HS.out).trans (by simp)).symm, HBB.out.symm ▸ HB4.out⟩
  | false =>
    go_enter Tryz.func53, Tryz.ntmps53
    go_wp2_with fail
    rw [HW3.out, HBB.out]
    refine HC.out.mono ?_
    rintro e w4 ⟨rfl, hb4⟩
    have HB4 := Lib.hid (HB3.out.trans (hb4.mono (by have := HWX.out.lt; omega)))
    have HWX4 := Lib.hid (HWX.out.below hb4 HWX.out.lt)
    have HWQ4 := Lib.hid (HWQ.out.below hb4 HWQ.out.lt)
    have HKK4 := Lib.hid (QV.below hb4 (Nat.le_refl _) k2 _ HKK2.out)
    have HM4 := Lib.hid (HMM.out.below hb4 (Nat.le_refl _))
    have HX4 := Lib.hid (HXX.out.below hb4 (Nat.le_refl _))
    have HC2 := Lib.hid (HIH.out k2 _ w4 hnz2 HA.out.2 HKK4.out HM4.out HX4.out)
    rw [HS.out] at HC2
    have x14 : w4.cell? ⟨B, 1, none⟩ = some (.slice (some ⟨b, o, none⟩) N cap) := HWX4.out.cell 1
    have x04 : w4.cell? ⟨B, 0, none⟩ = some (.int .i64 n) := HWX4.out.cell 0
    have q1' : w4.cell? ⟨B + 1 + 1, 1, none⟩ = some (.iface q2 (.agg a2)) := HWQ4.out.cell 1
    clear hb4 x0 x1 q0
    go_wp2_with fail
    refine HC2.out.mono ?_
    rintro e w5 ⟨rfl, hb5⟩
    have HB5 := Lib.hid (HB4.out.trans (hb5.mono (by have := HWX4.out.lt; omega)))
    clear hb5
    go_wp2
    go_ret
    exact ⟨ret_bool ((find_or HR.out HS.out).trans (by simp)).symm, HBB.out.symm ▸ HB5.out⟩
end Go.Proofs.YtnfigpknejmkmaaGreatDoor
namespace Go.Proofs.YtnfigpknejmkmaaGreatDoor
open Go.RowKit
set_option linter.unusedVariables false

theorem finds_zero {n : Int} {A : Option Addr} {N cap : Nat} {L : List ML} {m : ML} {i : Nat} : FindsI n A N cap L m i 0 := fun k q w hn => by
  have := nodesT_pos k
  omega
theorem finds_succ {n : Int} {A : Option Addr} {N cap : Nat} {L : List ML} {m : ML} {i z : Nat} (IH : FindsI n A N cap L m i z) (hb : bOk n L = true) (hi : L[i]? = some m) : FindsI n A N cap L m i (z + 1) := fun k q w hn ha hq hM hx => by
  obtain ⟨kd, f, t, S, ks⟩ := k
  rw [QV] at hq
  rcases hq with ⟨rfl, rfl⟩ | ⟨rfl, rfl⟩ | ⟨rfl, rfl⟩ | ⟨rfl, AS, cS, rfl, h2⟩ | ⟨rfl, AS, cS, rfl, h2⟩ | ⟨rfl, q1, rfl, h2⟩ | ⟨rfl, q1, q2, rfl, h2⟩ | ⟨rfl, q1, q2, rfl, h2⟩
  · exact finds_all IH hb hi w hn ha hM hx
  · exact finds_flag IH hb hi w hn ha hM hx
  · exact finds_text IH hb hi w hn ha hM hx
  · exact finds_place IH hb hi w hn ha hM hx h2
  · exact finds_uid IH hb hi w hn ha hM hx h2
  · obtain ⟨k, rfl, hk⟩ := qvs_one h2
    obtain ⟨t1, a1, rfl⟩ := hk.one
    exact finds_not IH hb hi w hn ha hM hx h2
  · obtain ⟨k, k2, rfl, hk, hk2⟩ := qvs_two h2
    obtain ⟨t1, a1, rfl⟩ := hk.one
    obtain ⟨t2, a2, rfl⟩ := hk2.one
    exact finds_and IH hb hi w hn ha hM hx h2
  · obtain ⟨k, k2, rfl, hk, hk2⟩ := qvs_two h2
    obtain ⟨t1, a1, rfl⟩ := hk.one
    obtain ⟨t2, a2, rfl⟩ := hk2.one
    exact finds_or IH hb hi w hn ha hM hx h2
theorem impl_finds_n {n : Int} {A : Option Addr} {N cap : Nat} {L : List ML} {m : ML} {i : Nat} (hb : bOk n L = true) (hi : L[i]? = some m) : ∀ z : Nat, FindsI n A N cap L m i z
  | 0 => finds_zero
  | z + 1 => finds_succ (impl_finds_n hb hi z) hb hi
theorem impl_finds {n : Int} {A : Option Addr} {N cap : Nat} {L : List ML} {m : ML} {i : Nat} {k : KT} {q : Value} {o : Bool} (ho : findT L m i k = o) (w : World) (hb : bOk n L = true) (hi : L[i]? = some m) (ha : allT k = true) (hq : QV w k q) (hM : MIn w A N cap L) (hx : MxL w) :
    Calls Tryz.prog 53 #[q, boxV n A N cap, .int .i64 (i : Int)] w (SaysB w o) := by
  subst ho
  exact impl_finds_n hb hi (nodesT k) k q w (Nat.le_refl _) ha hq hM hx
theorem key_all {k : KT} (h : keyB k = true) : allT k = true := by
  unfold keyB at h
  rw [Bool.and_eq_true] at h
  exact h.1
theorem plT_yes {L : List ML} {k : KT} {i : Nat} {m : ML} (hi : L[i]? = some m) (h : findT L m i k = true) : plT L k (i + 1) = plT L k i ++ [(i : Int) + 1] := by
  rw [plT, List.getD_eq_getElem?_getD, hi]
  show (if findT L m i k = true then _ else _) = _
  rw [if_pos h]
theorem plT_no {L : List ML} {k : KT} {i : Nat} {m : ML} (hi : L[i]? = some m) (h : findT L m i k = false) : plT L k (i + 1) = plT L k i := by
  rw [plT, List.getD_eq_getElem?_getD, hi]
  show (if findT L m i k = true then _ else _) = _
  rw [if_neg (by rw [h]; simp)]
/-- Places of the call's own. -/
theorem gives_n {w w' : World} {B : Nat} {G P : List Int} {A : Option Addr} {N cap : Nat} (h : ROwn intR w' B (.slice A N cap) P) (hB : w.heap.size ≤ B) (he : P = G) (hb : Below w.heap.size w w') : GivesN w G (.returned (.slice A N cap)) w' := by
  subst he
  exact ⟨A, N, cap, rfl, h.from hB, hb⟩
set_option maxRecDepth 20000 in
set_option maxHeartbeats 8000000 in
theorem impl_search {n : Int} {A : Option Addr} {N cap : Nat} {L : List ML} {k : KT} {r : KR} {G : List Int} (hG : srT n L k = G) (w : World) (hM : MIn w A N cap L) (hk : KV w k (kval r)) (hSh : Shp w) (hLs : Lst w) (hx : MxL w) :
    Calls Tryz.prog 20 #[boxV n A N cap, kval r] w (GivesN w G) := by
  obtain ⟨j0, hj, hp0, hp1, hp2⟩ := info_parts Tryz.infoNum
  obtain ⟨a0, a1, a2, ⟨a3, a4, a5⟩, ⟨a6, a7, a8⟩⟩ := r
  have HM := Lib.hid hM
  have HK := Lib.hid hk
  have HSh := Lib.hid hSh
  have HLs := Lib.hid hLs
  have HX := Lib.hid hx
  have HG := Lib.hid hG
  have hN := hM.2.1
  obtain ⟨B, hB⟩ : ∃ B, w.heap.size = B := ⟨_, rfl⟩
  obtain ⟨w2, hw2⟩ : ∃ w2, ((w.alloc (.cells #[.int .i64 n, .slice A N cap] 48)).alloc (.cells #[.int .i64 a0, .int .i64 a1, .string a2, .slice a3 a4 a5, .slice a6 a7 a8] 27)) = w2 := ⟨_, rfl⟩
  have hb2 : Below B w w2 := by rw [← hw2, ← hB]; exact ((Below.refl _ _).alloc (Nat.le_refl _) _).alloc (by simp) _
  have HB2 := Lib.hid hb2
  have HWX2 := Lib.hid (show Whole w2 B 48 #[.int .i64 n, .slice A N cap] by rw [← hw2, ← hB]; exact (Whole.made w _ _).alloc _)
  have HWK2 := Lib.hid (show Whole w2 (B + 1) 27 #[.int .i64 a0, .int .i64 a1, .string a2, .slice a3 a4 a5, .slice a6 a7 a8] by rw [← hw2, ← hB]; exact whole_made1 (by simp))
  have HQ := Lib.hid (impl_keyquery w2 (hSh.below hb2 (Nat.le_of_eq hB)) (hLs.below hb2 (Nat.le_of_eq hB)) (KV.below hb2 (Nat.le_of_eq hB) _ _ hk))
  have HW2 := Lib.hid hw2
  have HBB := Lib.hid hB
  clear hM hk hSh hLs hx hG hB hw2 hb2
  go_enter Tryz.func20, Tryz.ntmps20
  go_wp2_with fail
  rw [HW2.out, HBB.out]
  refine HQ.out.mono ?_
  rintro e w3 ⟨q, o, rfl, hko, hqv, hb⟩
  have HWX3 := Lib.hid (HWX2.out.below hb HWX2.out.lt)
  have HB3 := Lib.hid (HB2.out.trans (hb.mono (Nat.le_of_lt HWX2.out.lt)))
  have HM3 := Lib.hid (HM.out.below HB3.out (Nat.le_of_eq HBB.out))
  have HX3 := Lib.hid (HX.out.below HB3.out (Nat.le_of_eq HBB.out))
  have HKO := Lib.hid hko
  have HQV := Lib.hid (fun h : o = true => QV.below hb (Nat.le_refl _) k q (hqv h))
  have x0 : w3.cell? ⟨B, 0, none⟩ = some (.int .i64 n) := HWX3.out.cell 0
  have x1 : w3.cell? ⟨B, 1, none⟩ = some (.slice A N cap) := HWX3.out.cell 1
  clear hb hqv
  cases o with
  | false =>
    have HE : Hid (([] : List Int) = G) := Lib.hid (by rw [← HG.out, srT_nokey HKO.out])
    go_wp2
    go_ret
    exact gives_n (ROwn.nil w3 B) (Nat.le_of_eq HBB.out) HE.out (HBB.out.symm ▸ HB3.out)
  | true =>
    obtain ⟨z, hz⟩ : ∃ z, bOk n L = z := ⟨_, rfl⟩
    have HV := Lib.hid (impl_boxvalid n A N cap L w3 HM3.out)
    rw [hz] at HV
    have HZ := Lib.hid hz
    obtain ⟨tq, aq, rfl⟩ := (HQV.out (by simp)).one
    clear hko hz
    go_wp2_with fail
    refine HV.out.mono ?_
    rintro e w4 ⟨rfl, hb4⟩
    have HWX4 := Lib.hid (HWX3.out.below hb4 HWX3.out.lt)
    have HB4 := Lib.hid (HB3.out.trans (hb4.mono (Nat.le_of_lt HWX3.out.lt)))
    have HM4 := Lib.hid (HM3.out.below hb4 (Nat.le_refl _))
    have HX4 := Lib.hid (HX3.out.below hb4 (Nat.le_refl _))
    have HQ4 := Lib.hid (QV.below hb4 (Nat.le_refl _) k _ (HQV.out (by simp)))
    have y0 : w4.cell? ⟨B, 0, none⟩ = some (.int .i64 n) := HWX4.out.cell 0
    have y1 : w4.cell? ⟨B, 1, none⟩ = some (.slice A N cap) := HWX4.out.cell 1
    clear hb4 x0 x1
    cases z with
    | false =>
      have HE : Hid (([] : List Int) = G) := Lib.hid (by rw [← HG.out, srT_nobox HZ.out])
      go_wp2
      go_ret
      exact gives_n (ROwn.nil w4 B) (Nat.le_of_eq HBB.out) HE.out (HBB.out.symm ▸ HB4.out)
    | true =>
      have HE : Hid (plT L k L.length = G) := Lib.hid (by rw [← HG.out, srT_yes HKO.out HZ.out])
      have hN10 : N ≤ 10 := by rw [← HM4.out.1]; exact (bOk_iff.1 HZ.out).2.2.2.2
      have HAL := Lib.hid (key_all HKO.out)
      obtain ⟨D, hD⟩ : ∃ D, w4.heap.size = D := ⟨_, rfl⟩
      have HDD := Lib.hid hD
      have hBD : B ≤ D := by have := HWX4.out.lt; omega
      have HON : Hid (ROwn intR w4 D (.slice none 0 0) []) := Lib.hid (ROwn.nil w4 D)
      clear hD
      go_wp2
      clear y0 y1
      go_loopw [7, 24] (fun v iv wr => ∃ (i P : Nat) (AP : Option Addr) (cP : Nat), i ≤ N ∧ P ≤ i ∧ v = .slice AP P cP ∧ iv = .int .i64 (i : Int) ∧ Hid (ROwn intR wr D (.slice AP P cP) (plT L k i)) ∧ Hid (Below D w4 wr)) (fun _ iv _ => N - (intOf iv).toNat)
      case atStart => exact ⟨0, 0, none, 0, Nat.zero_le _, Nat.le_refl _, rfl, by go_num, HON, Below.refl _ _⟩
      case round =>
        obtain ⟨i, P, AP, cP, hi, hPi, rfl, rfl, HO, HBr⟩ := hrel
        have HWXr := Lib.hid (HWX4.out.below HBr.out (by have := HWX4.out.lt; have := HDD.out; omega))
        have HMr := Lib.hid (HM4.out.below HBr.out (Nat.le_of_eq HDD.out))
        have HXr := Lib.hid (HX4.out.below HBr.out (Nat.le_of_eq HDD.out))
        have HQr := Lib.hid (QV.below HBr.out (Nat.le_of_eq HDD.out) k _ HQ4.out)
        have y0 : wr.cell? ⟨B, 0, none⟩ = some (.int .i64 n) := HWXr.out.cell 0
        have y1 : wr.cell? ⟨B, 1, none⟩ = some (.slice A N cap) := HWXr.out.cell 1
        by_cases hlt : i < N
        · have i0 : (0 : Int) ≤ (i : Int) := by omega
          have i1 : (i : Int) < (N : Int) := by omega
          obtain ⟨m, hm⟩ : ∃ m, L[i]? = some m := ⟨_, List.getElem?_eq_getElem (by rw [HMr.out.1]; exact hlt)⟩
          have HMI := Lib.hid hm
          obtain ⟨g, hg⟩ : ∃ g, findT L m i k = g := ⟨_, rfl⟩
          have HGG := Lib.hid hg
          clear hm hg
          go_wp2_with fail
          refine (impl_finds HGG.out wr HZ.out HMI.out HAL.out HQr.out HMr.out HXr.out).mono ?_
          rintro e w5 ⟨rfl, hb5⟩
          have HB5 := Lib.hid (HBr.out.trans (hb5.mono (by have := HBr.out.size; have := HDD.out; omega)))
          have HO5 := Lib.hid (HO.out.kept hb5)
          clear hb5
          cases g with
          | false =>
            have HP2 : Hid (ROwn intR w5 D (.slice AP P cP) (plT L k (i + 1))) := Lib.hid (by rw [plT_no HMI.out HGG.out]; exact HO5.out)
            go_wp2
            go_roundw
            case rel => exact ⟨i + 1, P, AP, cP, by omega, by omega, rfl, by go_num, HP2, HB5⟩
            case measure => simp [intOf]; omega
          | true =>
            have W1 : IntKind.i64.wrap ((i : Int) + 1) = (i : Int) + 1 := IntWalk.i64_in _ (by omega)
            have hml : P + 1 ≤ maxLen := by unfold maxLen; omega
            have hby : (P + 1) * 8 ≤ 140737488355328 := by omega
            have HPL := Lib.hid HO5.out.len.1.symm
            have hown5 := HO5.out.alloc (.cells #[.int .i64 ((i : Int) + 1)] 3)
            have hnew5 := RAt.made intR w5 [(i : Int) + 1] w5.heap.size rfl
            have hDs : D ≤ (w5.alloc (.cells #[.int .i64 ((i : Int) + 1)] 3)).heap.size := by have := HB5.out.size; have := HDD.out; simp; omega
            go_wp2_with (at_builtin; refine wpList_append_rows rfl (.tmp 31) (.tmp 34) 44 rfl intR D j0 _ 8 Tryz.underlying44 hj hp0 hp1 hp2 rfl (by decide) _ (plT L k i) [(i : Int) + 1] P HPL.out rfl hown5 (some ⟨w5.heap.size, 0, none⟩) 1 1 rfl rfl hnew5 (fun e => by cases e) (fun q e => by cases e; rfl) hml hby hDs ?_)
            intro v' w6 ho hgr _
            obtain ⟨A6, N6, cap6, rfl⟩ := ho.val
            have hN6 : N6 = P + 1 := by have h1 := ho.len.1; rw [List.length_append, List.length_singleton, HPL.out] at h1; exact h1
            subst hN6
            have HB6 := Lib.hid ((HB5.out.alloc (by have := HB5.out.size; have := HDD.out; omega) (.cells #[.int .i64 ((i : Int) + 1)] 3)).grown hgr hDs (fun z hz => (World.ownsRow.lt HO5.out z hz).1))
            have HP2 : Hid (ROwn intR w6 D (.slice A6 (P + 1) cap6) (plT L k (i + 1))) := Lib.hid (by rw [plT_yes HMI.out HGG.out]; exact ho)
            clear ho hgr hown5 hnew5 hDs
            go_wp2
            go_roundw
            case rel => exact ⟨i + 1, P + 1, A6, cap6, by omega, by omega, rfl, by go_num, HP2, HB6⟩
            case measure => simp [intOf]; omega
        · have i1 : ¬ (i : Int) < (N : Int) := by omega
          have HE2 : Hid (plT L k i = G) := Lib.hid (by rw [← HE.out, HMr.out.1, show i = N by omega])
          have HBe := Lib.hid (HB4.out.trans (HBr.out.mono hBD))
          go_wp2
          go_ret
          exact gives_n HO.out (by have := HBB.out; omega) HE2.out (HBB.out.symm ▸ HBe.out)
end Go.Proofs.YtnfigpknejmkmaaGreatDoor
namespace Go.Proofs.YtnfigpknejmkmaaGreatDoor
open Go.RowKit
set_option linter.unusedVariables false

/-- The contract for fewer nodes. -/
def FindsS (n : Int) (A : Option Addr) (N cap : Nat) (L : List ML) (m : ML) (i z : Nat) : Prop :=
  ∀ (k : KT) (r : KR) (w : World), nodesT k ≤ z → allT k = true → KV w k (kval r) → MIn w A N cap L → Calls Tryz.prog 48 #[boxV n A N cap, kval r, .int .i64 (i : Int)] w (SaysB w (findT L m i k))
theorem hvI_one : ∀ (a : Fin 32) (j : Fin 5), hvI (a.1 : Int) ((2 ^ j.1 : Nat) : Int) = (a.1 / 2 ^ j.1 % 2 == 1) := by decide +kernel
theorem flag_five {f : Int} (h : flag1 f = true) : f = 1 ∨ f = 2 ∨ f = 4 ∨ f = 8 ∨ f = 16 := by
  unfold flag1 at h
  simp at h
  omega
theorem has_at {A : Option Addr} {n c : Nat} {S : List (Int × Int)} {last x : Int} {o : Bool} (ho : hasB S last x = o) (hn : S.length = n) (w : World) (h : SpA w A S) (hl : n ≤ 33554432) :
    Calls Tryz.prog 76 #[.slice A n c, .int .i64 last, .int .i64 x] w fun e w' => e = .returned (.bool o) ∧ w' = w := by
  subst ho
  subst hn
  exact (spec_has A c S last x w h hl).mono fun e w' h => ⟨h.1, h.2.symm⟩
/-- A row of a key's keys. -/
theorem kvs_row {w : World} {AK : Option Addr} {ks : List KT} {j : Nat} {k : KT} (h : KVs w AK 0 ks) (hk : ks[j]? = some k) :
    ∃ (b o : Nat) (a0 a1 : Int) (a2 : ByteArray) (a3 : Option Addr) (a4 a5 : Nat) (a6 : Option Addr) (a7 a8 : Nat), AK = some ⟨b, o, none⟩ ∧ b < w.heap.size ∧ w.cell? ⟨b, o + j * 5, none⟩ = some (.int .i64 a0) ∧ w.cell? ⟨b, o + j * 5 + 1, none⟩ = some (.int .i64 a1) ∧ w.cell? ⟨b, o + j * 5 + 2, none⟩ = some (.string a2) ∧
      w.cell? ⟨b, o + j * 5 + 3, none⟩ = some (.slice a3 a4 a5) ∧ w.cell? ⟨b, o + j * 5 + 4, none⟩ = some (.slice a6 a7 a8) ∧ KV w k (kval (a0, a1, a2, (a3, a4, a5), (a6, a7, a8))) := by
  obtain ⟨b, o, v0, v1, v2, v3, v4, h1, h2, c0, c1, c2, c3, c4, hkv⟩ := h.get hk
  rw [Nat.zero_add] at c0 c1 c2 c3 c4
  obtain ⟨a0, a1, a2, a3, a4, a5, a6, a7, a8, rfl, rfl, rfl, rfl, rfl⟩ := kv_five hkv
  exact ⟨b, o, a0, a1, a2, a3, a4, a5, a6, a7, a8, h1, h2, c0, c1, c2, c3, c4, hkv⟩
set_option maxRecDepth 20000 in
set_option maxHeartbeats 4000000 in
theorem sfinds_all {n : Int} {A : Option Addr} {N cap : Nat} {L : List ML} {m : ML} {i z : Nat} (IH : FindsS n A N cap L m i z) (hb : bOk n L = true) (hi : L[i]? = some m) {f : Int} {t : ByteArray} {S : List (Int × Int)} {ks : List KT} {AS AK : Option Addr} {nS cS nK cK : Nat} (w : World)
    (hn : nodesT (.mk 0 f t S ks) ≤ z + 1) (ha : allT (.mk 0 f t S ks) = true) (hM : MIn w A N cap L) (hS : S.length = nS) (hnS : nS ≤ 33554432) (ht : t.size ≤ 16777216) (hsp : SpA w AS S) (hnK : ks.length = nK) (hks : KVs w AK 0 ks) :
    Calls Tryz.prog 48 #[boxV n A N cap, .agg #[.int .i64 0, .int .i64 f, .string t, .slice AS nS cS, .slice AK nK cK], .int .i64 (i : Int)] w (SaysB w (findT L m i (.mk 0 f t S ks))) := by
  obtain ⟨u, fl, tx⟩ := m
  have HM := Lib.hid hM
  have HBO := Lib.hid hb
  have HIH := Lib.hid IH
  have HS := Lib.hid hS
  have HSP := Lib.hid hsp
  have HKS := Lib.hid hks
  have hiN : i < N := by rw [← hM.1]; exact (List.getElem?_eq_some_iff.1 hi).1
  have i0 : (0 : Int) ≤ (i : Int) := by omega
  have i1 : (i : Int) < (N : Int) := by omega
  have hN10 : N ≤ 10 := by rw [← hM.1]; exact (bOk_iff.1 hb).2.2.2.2
  have hmo := (bOk_get hb hi).1
  obtain ⟨b, o, rfl, hbz, c0, c1, c2⟩ := mail_at hM.2.2.1 hi
  obtain ⟨hal, hlf, hsh⟩ := all_node ha
  have HE := Lib.hid (find_is (L := L) (m := (u, fl, tx)) (i := i) (f := f) (t := t) (S := S) (ks := ks)).1
  clear hi hM hb IH hmo hal hlf hsh hn ha hS hsp hks
  go_enter Tryz.func48, Tryz.ntmps48
  go_wp2
  go_ret
  exact ⟨ret_bool HE.out.symm, below_three _ _ _⟩
set_option maxRecDepth 20000 in
set_option maxHeartbeats 4000000 in
theorem sfinds_flag {n : Int} {A : Option Addr} {N cap : Nat} {L : List ML} {m : ML} {i z : Nat} (IH : FindsS n A N cap L m i z) (hb : bOk n L = true) (hi : L[i]? = some m) {f : Int} {t : ByteArray} {S : List (Int × Int)} {ks : List KT} {AS AK : Option Addr} {nS cS nK cK : Nat} (w : World)
    (hn : nodesT (.mk 1 f t S ks) ≤ z + 1) (ha : allT (.mk 1 f t S ks) = true) (hM : MIn w A N cap L) (hS : S.length = nS) (hnS : nS ≤ 33554432) (ht : t.size ≤ 16777216) (hsp : SpA w AS S) (hnK : ks.length = nK) (hks : KVs w AK 0 ks) :
    Calls Tryz.prog 48 #[boxV n A N cap, .agg #[.int .i64 1, .int .i64 f, .string t, .slice AS nS cS, .slice AK nK cK], .int .i64 (i : Int)] w (SaysB w (findT L m i (.mk 1 f t S ks))) := by
  obtain ⟨u, fl, tx⟩ := m
  have HM := Lib.hid hM
  have HBO := Lib.hid hb
  have HIH := Lib.hid IH
  have HS := Lib.hid hS
  have HSP := Lib.hid hsp
  have HKS := Lib.hid hks
  have hiN : i < N := by rw [← hM.1]; exact (List.getElem?_eq_some_iff.1 hi).1
  have i0 : (0 : Int) ≤ (i : Int) := by omega
  have i1 : (i : Int) < (N : Int) := by omega
  have hN10 : N ≤ 10 := by rw [← hM.1]; exact (bOk_iff.1 hb).2.2.2.2
  have hmo := (bOk_get hb hi).1
  obtain ⟨b, o, rfl, hbz, c0, c1, c2⟩ := mail_at hM.2.2.1 hi
  obtain ⟨hal, hlf, hsh⟩ := all_node ha
  have HE := Lib.hid (find_is (L := L) (m := (u, fl, tx)) (i := i) (f := f) (t := t) (S := S) (ks := ks)).2.1
  have hff : flag1 f = true := by have := hlf; unfold leafB at this; simpa using this
  obtain ⟨a, ha32, hfa⟩ := isF_nat (mOk_iff.1 hmo).2.1
  obtain rfl : fl = (a : Int) := hfa
  have hcases := flag_five hff
  clear hi hM hb IH hmo hal hsh hn ha hS hsp hks hlf hff
  rcases hcases with rfl | rfl | rfl | rfl | rfl
  · obtain ⟨d, hd⟩ : ∃ d, a / 1 = d := ⟨_, rfl⟩
    obtain ⟨c, hc⟩ : ∃ c, d % 2 = c := ⟨_, rfl⟩
    have hH : hvI (a : Int) 1 = (c == 1) := by
      have h := hvI_one ⟨a, ha32⟩ ⟨0, by decide⟩
      rw [← hc, ← hd]
      exact h
    have HE2 := Lib.hid (HE.out.trans hH)
    have E1 : (a : Int).tdiv 1 = (d : Int) := by rw [Int.tdiv_eq_ediv_of_nonneg (by omega)]; omega
    have E2 : (a : Int) / 1 = (d : Int) := by omega
    have W1 : IntKind.i64.wrap (d : Int) = (d : Int) := IntWalk.i64_in _ (by omega)
    have E3 : (d : Int).tmod 2 = (c : Int) := by rw [Int.tmod_eq_emod_of_nonneg (by omega)]; omega
    have E4 : (d : Int) % 2 = (c : Int) := by omega
    have W2 : IntKind.i64.wrap (c : Int) = (c : Int) := IntWalk.i64_in _ (by omega)
    have hc2 : c = 0 ∨ c = 1 := by omega
    clear hd hc hH
    rcases hc2 with rfl | rfl
    all_goals (
      go_enter Tryz.func48, Tryz.ntmps48
      go_wp2
      go_ret
      exact ⟨ret_bool HE2.out.symm, below_three _ _ _⟩)
  · obtain ⟨d, hd⟩ : ∃ d, a / 2 = d := ⟨_, rfl⟩
    obtain ⟨c, hc⟩ : ∃ c, d % 2 = c := ⟨_, rfl⟩
    have hH : hvI (a : Int) 2 = (c == 1) := by
      have h := hvI_one ⟨a, ha32⟩ ⟨1, by decide⟩
      rw [← hc, ← hd]
      exact h
    have HE2 := Lib.hid (HE.out.trans hH)
    have E1 : (a : Int).tdiv 2 = (d : Int) := by rw [Int.tdiv_eq_ediv_of_nonneg (by omega)]; omega
    have E2 : (a : Int) / 2 = (d : Int) := by omega
    have W1 : IntKind.i64.wrap (d : Int) = (d : Int) := IntWalk.i64_in _ (by omega)
    have E3 : (d : Int).tmod 2 = (c : Int) := by rw [Int.tmod_eq_emod_of_nonneg (by omega)]; omega
    have E4 : (d : Int) % 2 = (c : Int) := by omega
    have W2 : IntKind.i64.wrap (c : Int) = (c : Int) := IntWalk.i64_in _ (by omega)
    have hc2 : c = 0 ∨ c = 1 := by omega
    clear hd hc hH
    rcases hc2 with rfl | rfl
    all_goals (
      go_enter Tryz.func48, Tryz.ntmps48
      go_wp2
      go_ret
      exact ⟨ret_bool HE2.out.symm, below_three _ _ _⟩)
  · obtain ⟨d, hd⟩ : ∃ d, a / 4 = d := ⟨_, rfl⟩
    obtain ⟨c, hc⟩ : ∃ c, d % 2 = c := ⟨_, rfl⟩
    have hH : hvI (a : Int) 4 = (c == 1) := by
      have h := hvI_one ⟨a, ha32⟩ ⟨2, by decide⟩
      rw [← hc, ← hd]
      exact h
    have HE2 := Lib.hid (HE.out.trans hH)
    have E1 : (a : Int).tdiv 4 = (d : Int) := by rw [Int.tdiv_eq_ediv_of_nonneg (by omega)]; omega
    have E2 : (a : Int) / 4 = (d : Int) := by omega
    have W1 : IntKind.i64.wrap (d : Int) = (d : Int) := IntWalk.i64_in _ (by omega)
    have E3 : (d : Int).tmod 2 = (c : Int) := by rw [Int.tmod_eq_emod_of_nonneg (by omega)]; omega
    have E4 : (d : Int) % 2 = (c : Int) := by omega
    have W2 : IntKind.i64.wrap (c : Int) = (c : Int) := IntWalk.i64_in _ (by omega)
    have hc2 : c = 0 ∨ c = 1 := by omega
    clear hd hc hH
    rcases hc2 with rfl | rfl
    all_goals (
      go_enter Tryz.func48, Tryz.ntmps48
      go_wp2
      go_ret
      exact ⟨ret_bool HE2.out.symm, below_three _ _ _⟩)
  · obtain ⟨d, hd⟩ : ∃ d, a / 8 = d := ⟨_, rfl⟩
    obtain ⟨c, hc⟩ : ∃ c, d % 2 = c := ⟨_, rfl⟩
    have hH : hvI (a : Int) 8 = (c == 1) := by
      have h := hvI_one ⟨a, ha32⟩ ⟨3, by decide⟩
      rw [← hc, ← hd]
      exact h
    have HE2 := Lib.hid (HE.out.trans hH)
    have E1 : (a : Int).tdiv 8 = (d : Int) := by rw [Int.tdiv_eq_ediv_of_nonneg (by omega)]; omega
    have E2 : (a : Int) / 8 = (d : Int) := by omega
    have W1 : IntKind.i64.wrap (d : Int) = (d : Int) := IntWalk.i64_in _ (by omega)
    have E3 : (d : Int).tmod 2 = (c : Int) := by rw [Int.tmod_eq_emod_of_nonneg (by omega)]; omega
    have E4 : (d : Int) % 2 = (c : Int) := by omega
    have W2 : IntKind.i64.wrap (c : Int) = (c : Int) := IntWalk.i64_in _ (by omega)
    have hc2 : c = 0 ∨ c = 1 := by omega
    clear hd hc hH
    rcases hc2 with rfl | rfl
    all_goals (
      go_enter Tryz.func48, Tryz.ntmps48
      go_wp2
      go_ret
      exact ⟨ret_bool HE2.out.symm, below_three _ _ _⟩)
  · obtain ⟨d, hd⟩ : ∃ d, a / 16 = d := ⟨_, rfl⟩
    obtain ⟨c, hc⟩ : ∃ c, d % 2 = c := ⟨_, rfl⟩
    have hH : hvI (a : Int) 16 = (c == 1) := by
      have h := hvI_one ⟨a, ha32⟩ ⟨4, by decide⟩
      rw [← hc, ← hd]
      exact h
    have HE2 := Lib.hid (HE.out.trans hH)
    have E1 : (a : Int).tdiv 16 = (d : Int) := by rw [Int.tdiv_eq_ediv_of_nonneg (by omega)]; omega
    have E2 : (a : Int) / 16 = (d : Int) := by omega
    have W1 : IntKind.i64.wrap (d : Int) = (d : Int) := IntWalk.i64_in _ (by omega)
    have E3 : (d : Int).tmod 2 = (c : Int) := by rw [Int.tmod_eq_emod_of_nonneg (by omega)]; omega
    have E4 : (d : Int) % 2 = (c : Int) := by omega
    have W2 : IntKind.i64.wrap (c : Int) = (c : Int) := IntWalk.i64_in _ (by omega)
    have hc2 : c = 0 ∨ c = 1 := by omega
    clear hd hc hH
    rcases hc2 with rfl | rfl
    all_goals (
      go_enter Tryz.func48, Tryz.ntmps48
      go_wp2
      go_ret
      exact ⟨ret_bool HE2.out.symm, below_three _ _ _⟩)
set_option maxRecDepth 20000 in
set_option maxHeartbeats 4000000 in
theorem sfinds_text {n : Int} {A : Option Addr} {N cap : Nat} {L : List ML} {m : ML} {i z : Nat} (IH : FindsS n A N cap L m i z) (hb : bOk n L = true) (hi : L[i]? = some m) {f : Int} {t : ByteArray} {S : List (Int × Int)} {ks : List KT} {AS AK : Option Addr} {nS cS nK cK : Nat} (w : World)
    (hn : nodesT (.mk 2 f t S ks) ≤ z + 1) (ha : allT (.mk 2 f t S ks) = true) (hM : MIn w A N cap L) (hS : S.length = nS) (hnS : nS ≤ 33554432) (ht : t.size ≤ 16777216) (hsp : SpA w AS S) (hnK : ks.length = nK) (hks : KVs w AK 0 ks) :
    Calls Tryz.prog 48 #[boxV n A N cap, .agg #[.int .i64 2, .int .i64 f, .string t, .slice AS nS cS, .slice AK nK cK], .int .i64 (i : Int)] w (SaysB w (findT L m i (.mk 2 f t S ks))) := by
  obtain ⟨u, fl, tx⟩ := m
  have HM := Lib.hid hM
  have HBO := Lib.hid hb
  have HIH := Lib.hid IH
  have HS := Lib.hid hS
  have HSP := Lib.hid hsp
  have HKS := Lib.hid hks
  have hiN : i < N := by rw [← hM.1]; exact (List.getElem?_eq_some_iff.1 hi).1
  have i0 : (0 : Int) ≤ (i : Int) := by omega
  have i1 : (i : Int) < (N : Int) := by omega
  have hN10 : N ≤ 10 := by rw [← hM.1]; exact (bOk_iff.1 hb).2.2.2.2
  have hmo := (bOk_get hb hi).1
  obtain ⟨b, o, rfl, hbz, c0, c1, c2⟩ := mail_at hM.2.2.1 hi
  obtain ⟨hal, hlf, hsh⟩ := all_node ha
  have HE := Lib.hid (find_is (L := L) (m := (u, fl, tx)) (i := i) (f := f) (t := t) (S := S) (ks := ks)).2.2.1
  have htx : (sB tx).size ≤ 16777216 := by rw [sB_size]; have h2 : tx.length ≤ 20 := (mOk_iff.1 hmo).2.2; omega
  have htn : t.size ≠ 0 := by
    have h2 : nameB t.data.toList = true := by have := hlf; unfold leafB at this; simpa using this
    have := name_ne h2
    simpa using this
  obtain ⟨z2, hz2⟩ : ∃ z, Lib.contains (sB tx).data.toList t.data.toList = z := ⟨_, rfl⟩
  have HZ := Lib.hid hz2
  have HE2 : Hid (findT L (u, fl, tx) i (.mk 2 f t S ks) = z2) := Lib.hid (HE.out.trans (by rw [← hz2, sB_list]))
  have HTN := Lib.hid htn
  clear hz2 htn
  clear hi hM hb IH hmo hal hlf hsh hn ha hS hsp hks
  obtain ⟨B, hB⟩ : ∃ B, w.heap.size = B := ⟨_, rfl⟩
  obtain ⟨w3, hw3⟩ : ∃ w3, (((w.alloc (.cells #[.int .i64 n, .slice (some ⟨b, o, none⟩) N cap] 48)).alloc (.cells #[.int .i64 2, .int .i64 f, .string t, .slice AS nS cS, .slice AK nK cK] 27)).alloc (.cells #[.int .i64 u, .int .i64 fl, .string (sB tx)] 115)) = w3 := ⟨_, rfl⟩
  have HB3 := Lib.hid (show Below B w w3 by rw [← hw3, ← hB]; exact (((Below.refl _ _).alloc (Nat.le_refl _) _).alloc (by simp) _).alloc (by simp; omega) _)
  have HWX := Lib.hid (show Whole w3 B 48 #[.int .i64 n, .slice (some ⟨b, o, none⟩) N cap] by rw [← hw3, ← hB]; exact ((Whole.made w _ _).alloc _).alloc _)
  have HWK := Lib.hid (show Whole w3 (B + 1) 27 #[.int .i64 2, .int .i64 f, .string t, .slice AS nS cS, .slice AK nK cK] by rw [← hw3, ← hB]; exact (whole_made1 (by simp)).alloc _)
  have HWM := Lib.hid (show Whole w3 (B + 1 + 1) 115 #[.int .i64 u, .int .i64 fl, .string (sB tx)] by rw [← hw3, ← hB]; exact whole_made1 (by simp))
  have HMM := Lib.hid (HM.out.below HB3.out (Nat.le_of_eq hB))
  have HSS := Lib.hid (HSP.out.below HB3.out (Nat.le_of_eq hB))
  have HKK := Lib.hid (KVs.below HB3.out (Nat.le_of_eq hB) AK 0 _ HKS.out)
  have HW3 := Lib.hid hw3
  have HBB := Lib.hid hB
  clear hw3 hB
  go_enter Tryz.func48, Tryz.ntmps48
  go_wp2_with fail
  rw [HW3.out, HBB.out]
  refine (spec_contains HZ.out _ htx HTN.out ht).mono ?_
  rintro e w4 ⟨rfl, rfl⟩
  go_wp2
  go_ret
  exact ⟨ret_bool HE2.out.symm, HBB.out.symm ▸ HB3.out⟩
set_option maxRecDepth 20000 in
set_option maxHeartbeats 4000000 in
theorem sfinds_place {n : Int} {A : Option Addr} {N cap : Nat} {L : List ML} {m : ML} {i z : Nat} (IH : FindsS n A N cap L m i z) (hb : bOk n L = true) (hi : L[i]? = some m) {f : Int} {t : ByteArray} {S : List (Int × Int)} {ks : List KT} {AS AK : Option Addr} {nS cS nK cK : Nat} (w : World)
    (hn : nodesT (.mk 3 f t S ks) ≤ z + 1) (ha : allT (.mk 3 f t S ks) = true) (hM : MIn w A N cap L) (hS : S.length = nS) (hnS : nS ≤ 33554432) (ht : t.size ≤ 16777216) (hsp : SpA w AS S) (hnK : ks.length = nK) (hks : KVs w AK 0 ks) :
    Calls Tryz.prog 48 #[boxV n A N cap, .agg #[.int .i64 3, .int .i64 f, .string t, .slice AS nS cS, .slice AK nK cK], .int .i64 (i : Int)] w (SaysB w (findT L m i (.mk 3 f t S ks))) := by
  obtain ⟨u, fl, tx⟩ := m
  have HM := Lib.hid hM
  have HBO := Lib.hid hb
  have HIH := Lib.hid IH
  have HS := Lib.hid hS
  have HSP := Lib.hid hsp
  have HKS := Lib.hid hks
  have hiN : i < N := by rw [← hM.1]; exact (List.getElem?_eq_some_iff.1 hi).1
  have i0 : (0 : Int) ≤ (i : Int) := by omega
  have i1 : (i : Int) < (N : Int) := by omega
  have hN10 : N ≤ 10 := by rw [← hM.1]; exact (bOk_iff.1 hb).2.2.2.2
  have hmo := (bOk_get hb hi).1
  obtain ⟨b, o, rfl, hbz, c0, c1, c2⟩ := mail_at hM.2.2.1 hi
  obtain ⟨hal, hlf, hsh⟩ := all_node ha
  have HE := Lib.hid (find_is (L := L) (m := (u, fl, tx)) (i := i) (f := f) (t := t) (S := S) (ks := ks)).2.2.2.1
  have HE2 : Hid (hasB S (N : Int) ((i : Int) + 1) = findT L (u, fl, tx) i (.mk 3 f t S ks)) := Lib.hid (by rw [HE.out, HM.out.1])
  have W1 : IntKind.i64.wrap ((i : Int) + 1) = (i : Int) + 1 := IntWalk.i64_in _ (by omega)
  clear hi hM hb IH hmo hal hlf hsh hn ha hS hsp hks
  obtain ⟨B, hB⟩ : ∃ B, w.heap.size = B := ⟨_, rfl⟩
  obtain ⟨w3, hw3⟩ : ∃ w3, (((w.alloc (.cells #[.int .i64 n, .slice (some ⟨b, o, none⟩) N cap] 48)).alloc (.cells #[.int .i64 3, .int .i64 f, .string t, .slice AS nS cS, .slice AK nK cK] 27)).alloc (.cells #[.int .i64 u, .int .i64 fl, .string (sB tx)] 115)) = w3 := ⟨_, rfl⟩
  have HB3 := Lib.hid (show Below B w w3 by rw [← hw3, ← hB]; exact (((Below.refl _ _).alloc (Nat.le_refl _) _).alloc (by simp) _).alloc (by simp; omega) _)
  have HWX := Lib.hid (show Whole w3 B 48 #[.int .i64 n, .slice (some ⟨b, o, none⟩) N cap] by rw [← hw3, ← hB]; exact ((Whole.made w _ _).alloc _).alloc _)
  have HWK := Lib.hid (show Whole w3 (B + 1) 27 #[.int .i64 3, .int .i64 f, .string t, .slice AS nS cS, .slice AK nK cK] by rw [← hw3, ← hB]; exact (whole_made1 (by simp)).alloc _)
  have HWM := Lib.hid (show Whole w3 (B + 1 + 1) 115 #[.int .i64 u, .int .i64 fl, .string (sB tx)] by rw [← hw3, ← hB]; exact whole_made1 (by simp))
  have HMM := Lib.hid (HM.out.below HB3.out (Nat.le_of_eq hB))
  have HSS := Lib.hid (HSP.out.below HB3.out (Nat.le_of_eq hB))
  have HKK := Lib.hid (KVs.below HB3.out (Nat.le_of_eq hB) AK 0 _ HKS.out)
  have HW3 := Lib.hid hw3
  have HBB := Lib.hid hB
  clear hw3 hB
  go_enter Tryz.func48, Tryz.ntmps48
  go_wp2_with fail
  rw [HW3.out, HBB.out]
  refine (has_at HE2.out HS.out _ HSS.out hnS).mono ?_
  rintro e w4 ⟨rfl, rfl⟩
  go_wp2
  go_ret
  exact ⟨rfl, HBB.out.symm ▸ HB3.out⟩
set_option maxRecDepth 20000 in
set_option maxHeartbeats 4000000 in
theorem sfinds_uid {n : Int} {A : Option Addr} {N cap : Nat} {L : List ML} {m : ML} {i z : Nat} (IH : FindsS n A N cap L m i z) (hb : bOk n L = true) (hi : L[i]? = some m) {f : Int} {t : ByteArray} {S : List (Int × Int)} {ks : List KT} {AS AK : Option Addr} {nS cS nK cK : Nat} (w : World)
    (hn : nodesT (.mk 4 f t S ks) ≤ z + 1) (ha : allT (.mk 4 f t S ks) = true) (hM : MIn w A N cap L) (hS : S.length = nS) (hnS : nS ≤ 33554432) (ht : t.size ≤ 16777216) (hsp : SpA w AS S) (hnK : ks.length = nK) (hks : KVs w AK 0 ks) :
    Calls Tryz.prog 48 #[boxV n A N cap, .agg #[.int .i64 4, .int .i64 f, .string t, .slice AS nS cS, .slice AK nK cK], .int .i64 (i : Int)] w (SaysB w (findT L m i (.mk 4 f t S ks))) := by
  obtain ⟨u, fl, tx⟩ := m
  have HM := Lib.hid hM
  have HBO := Lib.hid hb
  have HIH := Lib.hid IH
  have HS := Lib.hid hS
  have HSP := Lib.hid hsp
  have HKS := Lib.hid hks
  have hiN : i < N := by rw [← hM.1]; exact (List.getElem?_eq_some_iff.1 hi).1
  have i0 : (0 : Int) ≤ (i : Int) := by omega
  have i1 : (i : Int) < (N : Int) := by omega
  have hN10 : N ≤ 10 := by rw [← hM.1]; exact (bOk_iff.1 hb).2.2.2.2
  have hmo := (bOk_get hb hi).1
  obtain ⟨b, o, rfl, hbz, c0, c1, c2⟩ := mail_at hM.2.2.1 hi
  obtain ⟨hal, hlf, hsh⟩ := all_node ha
  have HE := Lib.hid (find_is (L := L) (m := (u, fl, tx)) (i := i) (f := f) (t := t) (S := S) (ks := ks)).2.2.2.2
  obtain ⟨⟨lu, lf, lt⟩, hlx, hlu, hl1, hl2, hl3⟩ := last_is hb hi
  have HE2 : Hid (hasB S lu u = findT L (u, fl, tx) i (.mk 4 f t S ks)) := Lib.hid (by rw [HE.out, hlu])
  rw [hM.1] at hlx
  obtain ⟨b', o', he, _, d0, d1, d2⟩ := mail_at hM.2.2.1 hlx
  cases he
  obtain ⟨N1, hN1⟩ : ∃ N1, N - 1 = N1 := ⟨_, rfl⟩
  rw [hN1] at d0 d1 d2
  have W1 : IntKind.i64.wrap ((N : Int) - 1) = (N1 : Int) := by rw [IntWalk.i64_in _ (by omega)]; omega
  have n0 : (0 : Int) ≤ (N1 : Int) := by omega
  have n1 : (N1 : Int) < (N : Int) := by omega
  clear hlx hlu hl1 hl2 hl3 hN1 d1 d2
  clear hi hM hb IH hmo hal hlf hsh hn ha hS hsp hks
  obtain ⟨B, hB⟩ : ∃ B, w.heap.size = B := ⟨_, rfl⟩
  obtain ⟨w3, hw3⟩ : ∃ w3, (((w.alloc (.cells #[.int .i64 n, .slice (some ⟨b, o, none⟩) N cap] 48)).alloc (.cells #[.int .i64 4, .int .i64 f, .string t, .slice AS nS cS, .slice AK nK cK] 27)).alloc (.cells #[.int .i64 u, .int .i64 fl, .string (sB tx)] 115)) = w3 := ⟨_, rfl⟩
  have HB3 := Lib.hid (show Below B w w3 by rw [← hw3, ← hB]; exact (((Below.refl _ _).alloc (Nat.le_refl _) _).alloc (by simp) _).alloc (by simp; omega) _)
  have HWX := Lib.hid (show Whole w3 B 48 #[.int .i64 n, .slice (some ⟨b, o, none⟩) N cap] by rw [← hw3, ← hB]; exact ((Whole.made w _ _).alloc _).alloc _)
  have HWK := Lib.hid (show Whole w3 (B + 1) 27 #[.int .i64 4, .int .i64 f, .string t, .slice AS nS cS, .slice AK nK cK] by rw [← hw3, ← hB]; exact (whole_made1 (by simp)).alloc _)
  have HWM := Lib.hid (show Whole w3 (B + 1 + 1) 115 #[.int .i64 u, .int .i64 fl, .string (sB tx)] by rw [← hw3, ← hB]; exact whole_made1 (by simp))
  have HMM := Lib.hid (HM.out.below HB3.out (Nat.le_of_eq hB))
  have HSS := Lib.hid (HSP.out.below HB3.out (Nat.le_of_eq hB))
  have HKK := Lib.hid (KVs.below HB3.out (Nat.le_of_eq hB) AK 0 _ HKS.out)
  have HW3 := Lib.hid hw3
  have HBB := Lib.hid hB
  clear hw3 hB
  have hbB : b < B := by rw [← HBB.out]; exact hbz
  have hBw : B < w3.heap.size := HWX.out.lt
  have dr : w3.cell? ⟨b, o + N1 * 3, none⟩ = some (.int .i64 lu) := (HB3.out.cell hbB).trans d0
  have l0 : ∀ x : Later w3.heap.size w3, x.v.cell? ⟨B, 1, none⟩ = some (.slice (some ⟨b, o, none⟩) N cap) := fun x => x.cell hBw (HWX.out.cell 1)
  have l1 : ∀ x : Later w3.heap.size w3, x.v.cell? ⟨B + 1, 3, none⟩ = some (.slice AS nS cS) := fun x => x.cell HWK.out.lt (HWK.out.cell 3)
  have l2 : ∀ x : Later w3.heap.size w3, x.v.cell? ⟨B + 1 + 1, 0, none⟩ = some (.int .i64 u) := fun x => x.cell HWM.out.lt (HWM.out.cell 0)
  have l3 : ∀ x : Later w3.heap.size w3, x.v.cell? ⟨b, o + N1 * 3, none⟩ = some (.int .i64 lu) := fun x => x.cell (Nat.lt_trans hbB hBw) dr
  have HHA : Hid (∀ x : Later w3.heap.size w3, SpA x.v AS S) := Lib.hid (fun x => HSS.out.below x.h (Nat.le_refl _))
  clear d0 dr
  go_enter Tryz.func48, Tryz.ntmps48
  go_wp2
  rw [HW3.out, HBB.out]
  refine wp_region_later w3.heap.size w3 (by kernel_rfl) (by kernel_rfl) ?_
  repeat (go_big_quiet_step ((go_at_call 76; refine (has_at HE2.out HS.out _ (HHA.out _) hnS).mono ?_; rintro e w2 ⟨rfl, rfl⟩; exact ⟨rfl, _, rfl⟩)))
  refine wpQuiet_nil ?_
  intro _ hw'
  obtain ⟨⟨w9, hb9⟩, rfl⟩ := hw'
  have HB9 := Lib.hid (HB3.out.trans (hb9.mono (by have := HWX.out.lt; omega)))
  clear hb9
  go_wp2
  go_ret
  exact ⟨rfl, HBB.out.symm ▸ HB9.out⟩
set_option maxRecDepth 20000 in
set_option maxHeartbeats 4000000 in
theorem sfinds_not {n : Int} {A : Option Addr} {N cap : Nat} {L : List ML} {m : ML} {i z : Nat} (IH : FindsS n A N cap L m i z) (hb : bOk n L = true) (hi : L[i]? = some m) {f : Int} {t : ByteArray} {S : List (Int × Int)} {ks : List KT} {AS AK : Option Addr} {nS cS nK cK : Nat} (w : World)
    (hn : nodesT (.mk 5 f t S ks) ≤ z + 1) (ha : allT (.mk 5 f t S ks) = true) (hM : MIn w A N cap L) (hS : S.length = nS) (hnS : nS ≤ 33554432) (ht : t.size ≤ 16777216) (hsp : SpA w AS S) (hnK : ks.length = nK) (hks : KVs w AK 0 ks) :
    Calls Tryz.prog 48 #[boxV n A N cap, .agg #[.int .i64 5, .int .i64 f, .string t, .slice AS nS cS, .slice AK nK cK], .int .i64 (i : Int)] w (SaysB w (findT L m i (.mk 5 f t S ks))) := by
  obtain ⟨u, fl, tx⟩ := m
  have HM := Lib.hid hM
  have HBO := Lib.hid hb
  have HIH := Lib.hid IH
  have HS := Lib.hid hS
  have HSP := Lib.hid hsp
  have HKS := Lib.hid hks
  have hiN : i < N := by rw [← hM.1]; exact (List.getElem?_eq_some_iff.1 hi).1
  have i0 : (0 : Int) ≤ (i : Int) := by omega
  have i1 : (i : Int) < (N : Int) := by omega
  have hN10 : N ≤ 10 := by rw [← hM.1]; exact (bOk_iff.1 hb).2.2.2.2
  have hmo := (bOk_get hb hi).1
  obtain ⟨b, o, rfl, hbz, c0, c1, c2⟩ := mail_at hM.2.2.1 hi
  obtain ⟨hal, hlf, hsh⟩ := all_node ha
  have h1 : ks.length = 1 := by have := hsh; unfold shapeB at this; simp at this; omega
  obtain ⟨k, rfl⟩ : ∃ k, ks = [k] := by
    match ks, h1 with
    | [k], _ => exact ⟨k, rfl⟩
  rw [nodes_one] at hn
  obtain rfl : 1 = nK := hnK
  have HA := Lib.hid (allL_one hal)
  obtain ⟨r, hr⟩ : ∃ r, findT L (u, fl, tx) i k = r := ⟨_, rfl⟩
  have HR := Lib.hid hr
  have hnz : nodesT k ≤ z := by omega
  obtain ⟨bp, op, p0, p1, p2, p3, p4, p5, p6, p7, p8, hep, hbp, ep0, ep1, ep2, ep3, ep4, hkvp⟩ := kvs_row hks (j := 0) rfl
  subst hep
  simp only [Nat.zero_mul, Nat.add_zero] at ep0 ep1 ep2 ep3 ep4
  have HKVp := Lib.hid hkvp
  have z1 : (0 : Int) < ((1 : Nat) : Int) := by omega
  clear h1 hr hkvp
  clear hi hM hb IH hmo hal hlf hsh hn ha hS hsp hks
  obtain ⟨B, hB⟩ : ∃ B, w.heap.size = B := ⟨_, rfl⟩
  obtain ⟨w3, hw3⟩ : ∃ w3, (((w.alloc (.cells #[.int .i64 n, .slice (some ⟨b, o, none⟩) N cap] 48)).alloc (.cells #[.int .i64 5, .int .i64 f, .string t, .slice AS nS cS, .slice (some ⟨bp, op, none⟩) 1 cK] 27)).alloc (.cells #[.int .i64 u, .int .i64 fl, .string (sB tx)] 115)) = w3 := ⟨_, rfl⟩
  have HB3 := Lib.hid (show Below B w w3 by rw [← hw3, ← hB]; exact (((Below.refl _ _).alloc (Nat.le_refl _) _).alloc (by simp) _).alloc (by simp; omega) _)
  have HWX := Lib.hid (show Whole w3 B 48 #[.int .i64 n, .slice (some ⟨b, o, none⟩) N cap] by rw [← hw3, ← hB]; exact ((Whole.made w _ _).alloc _).alloc _)
  have HWK := Lib.hid (show Whole w3 (B + 1) 27 #[.int .i64 5, .int .i64 f, .string t, .slice AS nS cS, .slice (some ⟨bp, op, none⟩) 1 cK] by rw [← hw3, ← hB]; exact (whole_made1 (by simp)).alloc _)
  have HWM := Lib.hid (show Whole w3 (B + 1 + 1) 115 #[.int .i64 u, .int .i64 fl, .string (sB tx)] by rw [← hw3, ← hB]; exact whole_made1 (by simp))
  have HMM := Lib.hid (HM.out.below HB3.out (Nat.le_of_eq hB))
  have HSS := Lib.hid (HSP.out.below HB3.out (Nat.le_of_eq hB))
  have HKK := Lib.hid (KVs.below HB3.out (Nat.le_of_eq hB) (some ⟨bp, op, none⟩) 0 _ HKS.out)
  have HW3 := Lib.hid hw3
  have HBB := Lib.hid hB
  clear hw3 hB
  have hpB : bp < B := by rw [← HBB.out]; exact hbp
  have hBw : B < w3.heap.size := HWX.out.lt
  have l0 : ∀ x : Later w3.heap.size w3, x.v.cell? ⟨B, 0, none⟩ = some (.int .i64 n) := fun x => x.cell hBw (HWX.out.cell 0)
  have l1 : ∀ x : Later w3.heap.size w3, x.v.cell? ⟨B, 1, none⟩ = some (.slice (some ⟨b, o, none⟩) N cap) := fun x => x.cell hBw (HWX.out.cell 1)
  have l2 : ∀ x : Later w3.heap.size w3, x.v.cell? ⟨B + 1, 4, none⟩ = some (.slice (some ⟨bp, op, none⟩) 1 cK) := fun x => x.cell HWK.out.lt (HWK.out.cell 4)
  have lp0 : ∀ x : Later w3.heap.size w3, x.v.cell? ⟨bp, op, none⟩ = some (.int .i64 p0) := fun x => x.cell (Nat.lt_trans hpB hBw) ((HB3.out.cell hpB).trans ep0)
  have lp1 : ∀ x : Later w3.heap.size w3, x.v.cell? ⟨bp, op + 1, none⟩ = some (.int .i64 p1) := fun x => x.cell (Nat.lt_trans hpB hBw) ((HB3.out.cell hpB).trans ep1)
  have lp2 : ∀ x : Later w3.heap.size w3, x.v.cell? ⟨bp, op + 2, none⟩ = some (.string p2) := fun x => x.cell (Nat.lt_trans hpB hBw) ((HB3.out.cell hpB).trans ep2)
  have lp3 : ∀ x : Later w3.heap.size w3, x.v.cell? ⟨bp, op + 3, none⟩ = some (.slice p3 p4 p5) := fun x => x.cell (Nat.lt_trans hpB hBw) ((HB3.out.cell hpB).trans ep3)
  have lp4 : ∀ x : Later w3.heap.size w3, x.v.cell? ⟨bp, op + 4, none⟩ = some (.slice p6 p7 p8) := fun x => x.cell (Nat.lt_trans hpB hBw) ((HB3.out.cell hpB).trans ep4)
  have HCp : Hid (∀ x : Later w3.heap.size w3, Calls Tryz.prog 48 #[.agg #[.int .i64 n, .slice (some ⟨b, o, none⟩) N cap], .agg #[.int .i64 p0, .int .i64 p1, .string p2, .slice p3 p4 p5, .slice p6 p7 p8], .int .i64 (i : Int)] x.v (SaysB x.v r)) := Lib.hid (fun x => by
    have h := HIH.out k (p0, p1, p2, (p3, p4, p5), (p6, p7, p8)) x.v hnz HA.out (KV.below x.h (Nat.le_refl _) _ _ (KV.below HB3.out (Nat.le_of_eq HBB.out) _ _ HKVp.out)) (HMM.out.below x.h (Nat.le_refl _))
    rw [HR.out] at h
    exact h)
  clear ep0 ep1 ep2 ep3 ep4
  go_enter Tryz.func48, Tryz.ntmps48
  go_wp2
  rw [HW3.out, HBB.out]
  refine wp_region_later w3.heap.size w3 (by kernel_rfl) (by kernel_rfl) ?_
  repeat (go_big_quiet_step ((go_at_call 48; refine (HCp.out _).mono ?_; rintro e w2 ⟨rfl, hb2⟩; exact ⟨rfl, Later.call _ hb2 (Nat.le_refl _)⟩)))
  refine wpQuiet_nil ?_
  intro _ hw'
  obtain ⟨⟨w9, hb9⟩, rfl⟩ := hw'
  have HB9 := Lib.hid (HB3.out.trans (hb9.mono (by have := HWX.out.lt; omega)))
  clear hb9
  go_wp2
  go_ret
  exact ⟨ret_bool (find_not HR.out).symm, HBB.out.symm ▸ HB9.out⟩
set_option maxRecDepth 20000 in
set_option maxHeartbeats 4000000 in
theorem sfinds_and {n : Int} {A : Option Addr} {N cap : Nat} {L : List ML} {m : ML} {i z : Nat} (IH : FindsS n A N cap L m i z) (hb : bOk n L = true) (hi : L[i]? = some m) {f : Int} {t : ByteArray} {S : List (Int × Int)} {ks : List KT} {AS AK : Option Addr} {nS cS nK cK : Nat} (w : World)
    (hn : nodesT (.mk 6 f t S ks) ≤ z + 1) (ha : allT (.mk 6 f t S ks) = true) (hM : MIn w A N cap L) (hS : S.length = nS) (hnS : nS ≤ 33554432) (ht : t.size ≤ 16777216) (hsp : SpA w AS S) (hnK : ks.length = nK) (hks : KVs w AK 0 ks) :
    Calls Tryz.prog 48 #[boxV n A N cap, .agg #[.int .i64 6, .int .i64 f, .string t, .slice AS nS cS, .slice AK nK cK], .int .i64 (i : Int)] w (SaysB w (findT L m i (.mk 6 f t S ks))) := by
  obtain ⟨u, fl, tx⟩ := m
  have HM := Lib.hid hM
  have HBO := Lib.hid hb
  have HIH := Lib.hid IH
  have HS := Lib.hid hS
  have HSP := Lib.hid hsp
  have HKS := Lib.hid hks
  have hiN : i < N := by rw [← hM.1]; exact (List.getElem?_eq_some_iff.1 hi).1
  have i0 : (0 : Int) ≤ (i : Int) := by omega
  have i1 : (i : Int) < (N : Int) := by omega
  have hN10 : N ≤ 10 := by rw [← hM.1]; exact (bOk_iff.1 hb).2.2.2.2
  have hmo := (bOk_get hb hi).1
  obtain ⟨b, o, rfl, hbz, c0, c1, c2⟩ := mail_at hM.2.2.1 hi
  obtain ⟨hal, hlf, hsh⟩ := all_node ha
  have h1 : ks.length = 2 := by have := hsh; unfold shapeB at this; simp at this; omega
  obtain ⟨k, k2, rfl⟩ : ∃ k k2, ks = [k, k2] := by
    match ks, h1 with
    | [k, k2], _ => exact ⟨k, k2, rfl⟩
  rw [nodes_two] at hn
  obtain rfl : 2 = nK := hnK
  have HA := Lib.hid (allL_two hal)
  obtain ⟨r, hr⟩ : ∃ r, findT L (u, fl, tx) i k = r := ⟨_, rfl⟩
  obtain ⟨s, hs⟩ : ∃ s, findT L (u, fl, tx) i k2 = s := ⟨_, rfl⟩
  have HR := Lib.hid hr
  have HR2 := Lib.hid hs
  have hnz : nodesT k ≤ z := by omega
  have hnz2 : nodesT k2 ≤ z := by omega
  obtain ⟨bp, op, p0, p1, p2, p3, p4, p5, p6, p7, p8, hep, hbp, ep0, ep1, ep2, ep3, ep4, hkvp⟩ := kvs_row hks (j := 0) rfl
  obtain ⟨bq, oq, q0, q1, q2, q3, q4, q5, q6, q7, q8, heq, hbq, eq0, eq1, eq2, eq3, eq4, hkvq⟩ := kvs_row hks (j := 1) rfl
  subst hep
  cases heq
  simp only [Nat.zero_mul, Nat.add_zero, Nat.one_mul] at ep0 ep1 ep2 ep3 ep4 eq0 eq1 eq2 eq3 eq4
  have HKVp := Lib.hid hkvp
  have HKVq := Lib.hid hkvq
  have z1 : (0 : Int) < ((2 : Nat) : Int) := by omega
  have z2 : (1 : Int) < ((2 : Nat) : Int) := by omega
  clear h1 hr hs hkvp hkvq
  clear hi hM hb IH hmo hal hlf hsh hn ha hS hsp hks
  obtain ⟨B, hB⟩ : ∃ B, w.heap.size = B := ⟨_, rfl⟩
  obtain ⟨w3, hw3⟩ : ∃ w3, (((w.alloc (.cells #[.int .i64 n, .slice (some ⟨b, o, none⟩) N cap] 48)).alloc (.cells #[.int .i64 6, .int .i64 f, .string t, .slice AS nS cS, .slice (some ⟨bp, op, none⟩) 2 cK] 27)).alloc (.cells #[.int .i64 u, .int .i64 fl, .string (sB tx)] 115)) = w3 := ⟨_, rfl⟩
  have HB3 := Lib.hid (show Below B w w3 by rw [← hw3, ← hB]; exact (((Below.refl _ _).alloc (Nat.le_refl _) _).alloc (by simp) _).alloc (by simp; omega) _)
  have HWX := Lib.hid (show Whole w3 B 48 #[.int .i64 n, .slice (some ⟨b, o, none⟩) N cap] by rw [← hw3, ← hB]; exact ((Whole.made w _ _).alloc _).alloc _)
  have HWK := Lib.hid (show Whole w3 (B + 1) 27 #[.int .i64 6, .int .i64 f, .string t, .slice AS nS cS, .slice (some ⟨bp, op, none⟩) 2 cK] by rw [← hw3, ← hB]; exact (whole_made1 (by simp)).alloc _)
  have HWM := Lib.hid (show Whole w3 (B + 1 + 1) 115 #[.int .i64 u, .int .i64 fl, .string (sB tx)] by rw [← hw3, ← hB]; exact whole_made1 (by simp))
  have HMM := Lib.hid (HM.out.below HB3.out (Nat.le_of_eq hB))
  have HSS := Lib.hid (HSP.out.below HB3.out (Nat.le_of_eq hB))
  have HKK := Lib.hid (KVs.below HB3.out (Nat.le_of_eq hB) (some ⟨bp, op, none⟩) 0 _ HKS.out)
  have HW3 := Lib.hid hw3
  have HBB := Lib.hid hB
  clear hw3 hB
  have hpB : bp < B := by rw [← HBB.out]; exact hbp
  have hBw : B < w3.heap.size := HWX.out.lt
  have l0 : ∀ x : Later w3.heap.size w3, x.v.cell? ⟨B, 0, none⟩ = some (.int .i64 n) := fun x => x.cell hBw (HWX.out.cell 0)
  have l1 : ∀ x : Later w3.heap.size w3, x.v.cell? ⟨B, 1, none⟩ = some (.slice (some ⟨b, o, none⟩) N cap) := fun x => x.cell hBw (HWX.out.cell 1)
  have l2 : ∀ x : Later w3.heap.size w3, x.v.cell? ⟨B + 1, 4, none⟩ = some (.slice (some ⟨bp, op, none⟩) 2 cK) := fun x => x.cell HWK.out.lt (HWK.out.cell 4)
  have lp0 : ∀ x : Later w3.heap.size w3, x.v.cell? ⟨bp, op, none⟩ = some (.int .i64 p0) := fun x => x.cell (Nat.lt_trans hpB hBw) ((HB3.out.cell hpB).trans ep0)
  have lp1 : ∀ x : Later w3.heap.size w3, x.v.cell? ⟨bp, op + 1, none⟩ = some (.int .i64 p1) := fun x => x.cell (Nat.lt_trans hpB hBw) ((HB3.out.cell hpB).trans ep1)
  have lp2 : ∀ x : Later w3.heap.size w3, x.v.cell? ⟨bp, op + 2, none⟩ = some (.string p2) := fun x => x.cell (Nat.lt_trans hpB hBw) ((HB3.out.cell hpB).trans ep2)
  have lp3 : ∀ x : Later w3.heap.size w3, x.v.cell? ⟨bp, op + 3, none⟩ = some (.slice p3 p4 p5) := fun x => x.cell (Nat.lt_trans hpB hBw) ((HB3.out.cell hpB).trans ep3)
  have lp4 : ∀ x : Later w3.heap.size w3, x.v.cell? ⟨bp, op + 4, none⟩ = some (.slice p6 p7 p8) := fun x => x.cell (Nat.lt_trans hpB hBw) ((HB3.out.cell hpB).trans ep4)
  have lq0 : ∀ x : Later w3.heap.size w3, x.v.cell? ⟨bp, op + 5, none⟩ = some (.int .i64 q0) := fun x => x.cell (Nat.lt_trans hpB hBw) ((HB3.out.cell hpB).trans eq0)
  have lq1 : ∀ x : Later w3.heap.size w3, x.v.cell? ⟨bp, op + 5 + 1, none⟩ = some (.int .i64 q1) := fun x => x.cell (Nat.lt_trans hpB hBw) ((HB3.out.cell hpB).trans eq1)
  have lq2 : ∀ x : Later w3.heap.size w3, x.v.cell? ⟨bp, op + 5 + 2, none⟩ = some (.string q2) := fun x => x.cell (Nat.lt_trans hpB hBw) ((HB3.out.cell hpB).trans eq2)
  have lq3 : ∀ x : Later w3.heap.size w3, x.v.cell? ⟨bp, op + 5 + 3, none⟩ = some (.slice q3 q4 q5) := fun x => x.cell (Nat.lt_trans hpB hBw) ((HB3.out.cell hpB).trans eq3)
  have lq4 : ∀ x : Later w3.heap.size w3, x.v.cell? ⟨bp, op + 5 + 4, none⟩ = some (.slice q6 q7 q8) := fun x => x.cell (Nat.lt_trans hpB hBw) ((HB3.out.cell hpB).trans eq4)
  have HCp : Hid (∀ x : Later w3.heap.size w3, Calls Tryz.prog 48 #[.agg #[.int .i64 n, .slice (some ⟨b, o, none⟩) N cap], .agg #[.int .i64 p0, .int .i64 p1, .string p2, .slice p3 p4 p5, .slice p6 p7 p8], .int .i64 (i : Int)] x.v (SaysB x.v r)) := Lib.hid (fun x => by
    have h := HIH.out k (p0, p1, p2, (p3, p4, p5), (p6, p7, p8)) x.v hnz HA.out.1 (KV.below x.h (Nat.le_refl _) _ _ (KV.below HB3.out (Nat.le_of_eq HBB.out) _ _ HKVp.out)) (HMM.out.below x.h (Nat.le_refl _))
    rw [HR.out] at h
    exact h)
  have HCq : Hid (∀ x : Later w3.heap.size w3, Calls Tryz.prog 48 #[.agg #[.int .i64 n, .slice (some ⟨b, o, none⟩) N cap], .agg #[.int .i64 q0, .int .i64 q1, .string q2, .slice q3 q4 q5, .slice q6 q7 q8], .int .i64 (i : Int)] x.v (SaysB x.v s)) := Lib.hid (fun x => by
    have h := HIH.out k2 (q0, q1, q2, (q3, q4, q5), (q6, q7, q8)) x.v hnz2 HA.out.2 (KV.below x.h (Nat.le_refl _) _ _ (KV.below HB3.out (Nat.le_of_eq HBB.out) _ _ HKVq.out)) (HMM.out.below x.h (Nat.le_refl _))
    rw [HR2.out] at h
    exact h)
  clear ep0 ep1 ep2 ep3 ep4 eq0 eq1 eq2 eq3 eq4
  cases r with
  | false =>
    go_enter Tryz.func48, Tryz.ntmps48
    go_wp2
    rw [HW3.out, HBB.out]
    refine wp_region_later w3.heap.size w3 (by kernel_rfl) (by kernel_rfl) ?_
    repeat (go_big_quiet_step ((go_at_call 48; refine (HCp.out _).mono ?_; rintro e w2 ⟨rfl, hb2⟩; exact ⟨rfl, Later.call _ hb2 (Nat.le_refl _)⟩)))
    refine wpQuiet_nil ?_
    intro _ hw'
    obtain ⟨⟨w9, hb9⟩, rfl⟩ := hw'
    have HB9 := Lib.hid (HB3.out.trans (hb9.mono (by have := HWX.out.lt; omega)))
    clear hb9
    go_wp2
    go_ret
    exact ⟨ret_bool ((find_and HR.out HR2.out).trans (by simp)).symm, HBB.out.symm ▸ HB9.out⟩
  | true =>
    go_enter Tryz.func48, Tryz.ntmps48
    go_wp2
    rw [HW3.out, HBB.out]
    refine wp_region_later w3.heap.size w3 (by kernel_rfl) (by kernel_rfl) ?_
    iterate 7 (go_big_quiet_step ((go_at_call 48; refine (HCp.out _).mono ?_; rintro e w2 ⟨rfl, hb2⟩; exact ⟨rfl, Later.call _ hb2 (Nat.le_refl _)⟩)))
    repeat (go_big_quiet_step ((go_at_call 48; refine (HCq.out _).mono ?_; rintro e w2 ⟨rfl, hb2⟩; exact ⟨rfl, Later.call _ hb2 (Nat.le_refl _)⟩)))
    refine wpQuiet_nil ?_
    intro _ hw'
    obtain ⟨⟨w9, hb9⟩, rfl⟩ := hw'
    have HB9 := Lib.hid (HB3.out.trans (hb9.mono (by have := HWX.out.lt; omega)))
    clear hb9
    go_wp2
    go_ret
    exact ⟨ret_bool ((find_and HR.out HR2.out).trans (by simp)).symm, HBB.out.symm ▸ HB9.out⟩
set_option maxRecDepth 20000 in
set_option maxHeartbeats 4000000 in
theorem sfinds_or {n : Int} {A : Option Addr} {N cap : Nat} {L : List ML} {m : ML} {i z : Nat} (IH : FindsS n A N cap L m i z) (hb : bOk n L = true) (hi : L[i]? = some m) {f : Int} {t : ByteArray} {S : List (Int × Int)} {ks : List KT} {AS AK : Option Addr} {nS cS nK cK : Nat} (w : World)
    (hn : nodesT (.mk 7 f t S ks) ≤ z + 1) (ha : allT (.mk 7 f t S ks) = true) (hM : MIn w A N cap L) (hS : S.length = nS) (hnS : nS ≤ 33554432) (ht : t.size ≤ 16777216) (hsp : SpA w AS S) (hnK : ks.length = nK) (hks : KVs w AK 0 ks) :
    Calls Tryz.prog 48 #[boxV n A N cap, .agg #[.int .i64 7, .int .i64 f, .string t, .slice AS nS cS, .slice AK nK cK], .int .i64 (i : Int)] w (SaysB w (findT L m i (.mk 7 f t S ks))) := by
  obtain ⟨u, fl, tx⟩ := m
  have HM := Lib.hid hM
  have HBO := Lib.hid hb
  have HIH := Lib.hid IH
  have HS := Lib.hid hS
  have HSP := Lib.hid hsp
  have HKS := Lib.hid hks
  have hiN : i < N := by rw [← hM.1]; exact (List.getElem?_eq_some_iff.1 hi).1
  have i0 : (0 : Int) ≤ (i : Int) := by omega
  have i1 : (i : Int) < (N : Int) := by omega
  have hN10 : N ≤ 10 := by rw [← hM.1]; exact (bOk_iff.1 hb).2.2.2.2
  have hmo := (bOk_get hb hi).1
  obtain ⟨b, o, rfl, hbz, c0, c1, c2⟩ := mail_at hM.2.2.1 hi
  obtain ⟨hal, hlf, hsh⟩ := all_node ha
  have h1 : ks.length = 2 := by have := hsh; unfold shapeB at this; simp at this; omega
  obtain ⟨k, k2, rfl⟩ : ∃ k k2, ks = [k, k2] := by
    match ks, h1 with
    | [k, k2], _ => exact ⟨k, k2, rfl⟩
  rw [nodes_two] at hn
  obtain rfl : 2 = nK := hnK
  have HA := Lib.hid (allL_two hal)
  obtain ⟨r, hr⟩ : ∃ r, findT L (u, fl, tx) i k = r := ⟨_, rfl⟩
  obtain ⟨s, hs⟩ : ∃ s, findT L (u, fl, tx) i k2 = s := ⟨_, rfl⟩
  have HR := Lib.hid hr
  have HR2 := Lib.hid hs
  have hnz : nodesT k ≤ z := by omega
  have hnz2 : nodesT k2 ≤ z := by omega
  obtain ⟨bp, op, p0, p1, p2, p3, p4, p5, p6, p7, p8, hep, hbp, ep0, ep1, ep2, ep3, ep4, hkvp⟩ := kvs_row hks (j := 0) rfl
  obtain ⟨bq, oq, q0, q1, q2, q3, q4, q5, q6, q7, q8, heq, hbq, eq0, eq1, eq2, eq3, eq4, hkvq⟩ := kvs_row hks (j := 1) rfl
  subst hep
  cases heq
  simp only [Nat.zero_mul, Nat.add_zero, Nat.one_mul] at ep0 ep1 ep2 ep3 ep4 eq0 eq1 eq2 eq3 eq4
  have HKVp := Lib.hid hkvp
  have HKVq := Lib.hid hkvq
  have z1 : (0 : Int) < ((2 : Nat) : Int) := by omega
  have z2 : (1 : Int) < ((2 : Nat) : Int) := by omega
  clear h1 hr hs hkvp hkvq
  clear hi hM hb IH hmo hal hlf hsh hn ha hS hsp hks
  obtain ⟨B, hB⟩ : ∃ B, w.heap.size = B := ⟨_, rfl⟩
  obtain ⟨w3, hw3⟩ : ∃ w3, (((w.alloc (.cells #[.int .i64 n, .slice (some ⟨b, o, none⟩) N cap] 48)).alloc (.cells #[.int .i64 7, .int .i64 f, .string t, .slice AS nS cS, .slice (some ⟨bp, op, none⟩) 2 cK] 27)).alloc (.cells #[.int .i64 u, .int .i64 fl, .string (sB tx)] 115)) = w3 := ⟨_, rfl⟩
  have HB3 := Lib.hid (show Below B w w3 by rw [← hw3, ← hB]; exact (((Below.refl _ _).alloc (Nat.le_refl _) _).alloc (by simp) _).alloc (by simp; omega) _)
  have HWX := Lib.hid (show Whole w3 B 48 #[.int .i64 n, .slice (some ⟨b, o, none⟩) N cap] by rw [← hw3, ← hB]; exact ((Whole.made w _ _).alloc _).alloc _)
  have HWK := Lib.hid (show Whole w3 (B + 1) 27 #[.int .i64 7, .int .i64 f, .string t, .slice AS nS cS, .slice (some ⟨bp, op, none⟩) 2 cK] by rw [← hw3, ← hB]; exact (whole_made1 (by simp)).alloc _)
  have HWM := Lib.hid (show Whole w3 (B + 1 + 1) 115 #[.int .i64 u, .int .i64 fl, .string (sB tx)] by rw [← hw3, ← hB]; exact whole_made1 (by simp))
  have HMM := Lib.hid (HM.out.below HB3.out (Nat.le_of_eq hB))
  have HSS := Lib.hid (HSP.out.below HB3.out (Nat.le_of_eq hB))
  have HKK := Lib.hid (KVs.below HB3.out (Nat.le_of_eq hB) (some ⟨bp, op, none⟩) 0 _ HKS.out)
  have HW3 := Lib.hid hw3
  have HBB := Lib.hid hB
  clear hw3 hB
  have hpB : bp < B := by rw [← HBB.out]; exact hbp
  have hBw : B < w3.heap.size := HWX.out.lt
  have l0 : ∀ x : Later w3.heap.size w3, x.v.cell? ⟨B, 0, none⟩ = some (.int .i64 n) := fun x => x.cell hBw (HWX.out.cell 0)
  have l1 : ∀ x : Later w3.heap.size w3, x.v.cell? ⟨B, 1, none⟩ = some (.slice (some ⟨b, o, none⟩) N cap) := fun x => x.cell hBw (HWX.out.cell 1)
  have l2 : ∀ x : Later w3.heap.size w3, x.v.cell? ⟨B + 1, 4, none⟩ = some (.slice (some ⟨bp, op, none⟩) 2 cK) := fun x => x.cell HWK.out.lt (HWK.out.cell 4)
  have lp0 : ∀ x : Later w3.heap.size w3, x.v.cell? ⟨bp, op, none⟩ = some (.int .i64 p0) := fun x => x.cell (Nat.lt_trans hpB hBw) ((HB3.out.cell hpB).trans ep0)
  have lp1 : ∀ x : Later w3.heap.size w3, x.v.cell? ⟨bp, op + 1, none⟩ = some (.int .i64 p1) := fun x => x.cell (Nat.lt_trans hpB hBw) ((HB3.out.cell hpB).trans ep1)
  have lp2 : ∀ x : Later w3.heap.size w3, x.v.cell? ⟨bp, op + 2, none⟩ = some (.string p2) := fun x => x.cell (Nat.lt_trans hpB hBw) ((HB3.out.cell hpB).trans ep2)
  have lp3 : ∀ x : Later w3.heap.size w3, x.v.cell? ⟨bp, op + 3, none⟩ = some (.slice p3 p4 p5) := fun x => x.cell (Nat.lt_trans hpB hBw) ((HB3.out.cell hpB).trans ep3)
  have lp4 : ∀ x : Later w3.heap.size w3, x.v.cell? ⟨bp, op + 4, none⟩ = some (.slice p6 p7 p8) := fun x => x.cell (Nat.lt_trans hpB hBw) ((HB3.out.cell hpB).trans ep4)
  have lq0 : ∀ x : Later w3.heap.size w3, x.v.cell? ⟨bp, op + 5, none⟩ = some (.int .i64 q0) := fun x => x.cell (Nat.lt_trans hpB hBw) ((HB3.out.cell hpB).trans eq0)
  have lq1 : ∀ x : Later w3.heap.size w3, x.v.cell? ⟨bp, op + 5 + 1, none⟩ = some (.int .i64 q1) := fun x => x.cell (Nat.lt_trans hpB hBw) ((HB3.out.cell hpB).trans eq1)
  have lq2 : ∀ x : Later w3.heap.size w3, x.v.cell? ⟨bp, op + 5 + 2, none⟩ = some (.string q2) := fun x => x.cell (Nat.lt_trans hpB hBw) ((HB3.out.cell hpB).trans eq2)
  have lq3 : ∀ x : Later w3.heap.size w3, x.v.cell? ⟨bp, op + 5 + 3, none⟩ = some (.slice q3 q4 q5) := fun x => x.cell (Nat.lt_trans hpB hBw) ((HB3.out.cell hpB).trans eq3)
  have lq4 : ∀ x : Later w3.heap.size w3, x.v.cell? ⟨bp, op + 5 + 4, none⟩ = some (.slice q6 q7 q8) := fun x => x.cell (Nat.lt_trans hpB hBw) ((HB3.out.cell hpB).trans eq4)
  have HCp : Hid (∀ x : Later w3.heap.size w3, Calls Tryz.prog 48 #[.agg #[.int .i64 n, .slice (some ⟨b, o, none⟩) N cap], .agg #[.int .i64 p0, .int .i64 p1, .string p2, .slice p3 p4 p5, .slice p6 p7 p8], .int .i64 (i : Int)] x.v (SaysB x.v r)) := Lib.hid (fun x => by
    have h := HIH.out k (p0, p1, p2, (p3, p4, p5), (p6, p7, p8)) x.v hnz HA.out.1 (KV.below x.h (Nat.le_refl _) _ _ (KV.below HB3.out (Nat.le_of_eq HBB.out) _ _ HKVp.out)) (HMM.out.below x.h (Nat.le_refl _))
    rw [HR.out] at h
    exact h)
  have HCq : Hid (∀ x : Later w3.heap.size w3, Calls Tryz.prog 48 #[.agg #[.int .i64 n, .slice (some ⟨b, o, none⟩) N cap], .agg #[.int .i64 q0, .int .i64 q1, .string q2, .slice q3 q4 q5, .slice q6 q7 q8], .int .i64 (i : Int)] x.v (SaysB x.v s)) := Lib.hid (fun x => by
    have h := HIH.out k2 (q0, q1, q2, (q3, q4, q5), (q6, q7, q8)) x.v hnz2 HA.out.2 (KV.below x.h (Nat.le_refl _) _ _ (KV.below HB3.out (Nat.le_of_eq HBB.out) _ _ HKVq.out)) (HMM.out.below x.h (Nat.le_refl _))
    rw [HR2.out] at h
    exact h)
  clear ep0 ep1 ep2 ep3 ep4 eq0 eq1 eq2 eq3 eq4
  cases r with
  | true =>
    go_enter Tryz.func48, Tryz.ntmps48
    go_wp2
    rw [HW3.out, HBB.out]
    refine wp_region_later w3.heap.size w3 (by kernel_rfl) (by kernel_rfl) ?_
    repeat (go_big_quiet_step ((go_at_call 48; refine (HCp.out _).mono ?_; rintro e w2 ⟨rfl, hb2⟩; exact ⟨rfl, Later.call _ hb2 (Nat.le_refl _)⟩)))
    refine wpQuiet_nil ?_
    intro _ hw'
    obtain ⟨⟨w9, hb9⟩, rfl⟩ := hw'
    have HB9 := Lib.hid (HB3.out.trans (hb9.mono (by have := HWX.out.lt; omega)))
    clear hb9
    go_wp2
    go_ret
    exact ⟨ret_bool ((find_or HR.out HR2.out).trans (by simp)).symm, HBB.out.symm ▸ HB9.out⟩
  | false =>
    go_enter Tryz.func48, Tryz.ntmps48
    go_wp2
    rw [HW3.out, HBB.out]
    refine wp_region_later w3.heap.size w3 (by kernel_rfl) (by kernel_rfl) ?_
    iterate 7 (go_big_quiet_step ((go_at_call 48; refine (HCp.out _).mono ?_; rintro e w2 ⟨rfl, hb2⟩; exact ⟨rfl, Later.call _ hb2 (Nat.le_refl _)⟩)))
    repeat (go_big_quiet_step ((go_at_call 48; refine (HCq.out _).mono ?_; rintro e w2 ⟨rfl, hb2⟩; exact ⟨rfl, Later.call _ hb2 (Nat.le_refl _)⟩)))
    refine wpQuiet_nil ?_
    intro _ hw'
    obtain ⟨⟨w9, hb9⟩, rfl⟩ := hw'
    have HB9 := Lib.hid (HB3.out.trans (hb9.mono (by have := HWX.out.lt; omega)))
    clear hb9
    go_wp2
    go_ret
    exact ⟨ret_bool ((find_or HR.out HR2.out).trans (by simp)).symm, HBB.out.symm ▸ HB9.out⟩
theorem sfinds_zero {n : Int} {A : Option Addr} {N cap : Nat} {L : List ML} {m : ML} {i : Nat} : FindsS n A N cap L m i 0 := fun k q w hn => by
  have := nodesT_pos k
  omega
theorem sfinds_succ {n : Int} {A : Option Addr} {N cap : Nat} {L : List ML} {m : ML} {i z : Nat} (IH : FindsS n A N cap L m i z) (hb : bOk n L = true) (hi : L[i]? = some m) : FindsS n A N cap L m i (z + 1) := fun k r w hn ha hk hM => by
  obtain ⟨kd, f, t, S, ks⟩ := k
  obtain ⟨AS, nS, cS, AK, nK, cK, he, h2, h3, h4, h5, h6, h7⟩ := hk.open
  rw [he]
  have hsh := (all_node ha).2.2
  have hkd : kd = 0 ∨ kd = 1 ∨ kd = 2 ∨ kd = 3 ∨ kd = 4 ∨ kd = 5 ∨ kd = 6 ∨ kd = 7 := by
    rcases shape_yes hsh with ⟨h, _⟩ | ⟨h, _⟩ | ⟨h, _⟩ <;> omega
  rcases hkd with rfl | rfl | rfl | rfl | rfl | rfl | rfl | rfl
  · exact sfinds_all IH hb hi w hn ha hM h2 h3 h4 h5 h6 h7
  · exact sfinds_flag IH hb hi w hn ha hM h2 h3 h4 h5 h6 h7
  · exact sfinds_text IH hb hi w hn ha hM h2 h3 h4 h5 h6 h7
  · exact sfinds_place IH hb hi w hn ha hM h2 h3 h4 h5 h6 h7
  · exact sfinds_uid IH hb hi w hn ha hM h2 h3 h4 h5 h6 h7
  · exact sfinds_not IH hb hi w hn ha hM h2 h3 h4 h5 h6 h7
  · exact sfinds_and IH hb hi w hn ha hM h2 h3 h4 h5 h6 h7
  · exact sfinds_or IH hb hi w hn ha hM h2 h3 h4 h5 h6 h7
theorem spec_finds_n {n : Int} {A : Option Addr} {N cap : Nat} {L : List ML} {m : ML} {i : Nat} (hb : bOk n L = true) (hi : L[i]? = some m) : ∀ z : Nat, FindsS n A N cap L m i z
  | 0 => sfinds_zero
  | z + 1 => sfinds_succ (spec_finds_n hb hi z) hb hi
theorem spec_finds {n : Int} {A : Option Addr} {N cap : Nat} {L : List ML} {m : ML} {i : Nat} {k : KT} {r : KR} {o : Bool} (ho : findT L m i k = o) (w : World) (hb : bOk n L = true) (hi : L[i]? = some m) (ha : allT k = true) (hk : KV w k (kval r)) (hM : MIn w A N cap L) :
    Calls Tryz.prog 48 #[boxV n A N cap, kval r, .int .i64 (i : Int)] w (SaysB w o) := by
  subst ho
  exact spec_finds_n hb hi (nodesT k) k r w (Nat.le_refl _) ha hk hM
end Go.Proofs.YtnfigpknejmkmaaGreatDoor
namespace Go.Proofs.YtnfigpknejmkmaaGreatDoor
open Go.RowKit
set_option linter.unusedVariables false

theorem spec_boxv {n : Int} {A : Option Addr} {N cap : Nat} {L : List ML} {z : Bool} (hz : bOk n L = z) (w : World) (h : MIn w A N cap L) : Calls Tryz.prog 47 #[boxV n A N cap] w (SaysB w z) := by
  subst hz
  exact spec_boxvalid n A N cap L w h.1 h.2.2.1 h.2.1
set_option maxRecDepth 20000 in
set_option maxHeartbeats 8000000 in
theorem spec_search {n : Int} {A : Option Addr} {N cap : Nat} {L : List ML} {k : KT} {r : KR} {G : List Int} (hG : srT n L k = G) (w : World) (hM : MIn w A N cap L) (hk : KV w k (kval r)) (hnk : nodesT k ≤ 4000000) :
    Calls Tryz.prog 17 #[boxV n A N cap, kval r] w (GivesN w G) := by
  obtain ⟨j0, hj, hp0, hp1, hp2⟩ := info_parts Tryz.infoNum
  obtain ⟨a0, a1, a2, ⟨a3, a4, a5⟩, ⟨a6, a7, a8⟩⟩ := r
  have HM := Lib.hid hM
  have HK := Lib.hid hk
  have HG := Lib.hid hG
  have HNK := Lib.hid hnk
  have hN := hM.2.1
  obtain ⟨B, hB⟩ : ∃ B, w.heap.size = B := ⟨_, rfl⟩
  obtain ⟨w2, hw2⟩ : ∃ w2, (((w.alloc (.cells #[.int .i64 n, .slice A N cap] 48)).alloc (.cells #[.int .i64 a0, .int .i64 a1, .string a2, .slice a3 a4 a5, .slice a6 a7 a8] 27)).alloc (.cells #[] 3)) = w2 := ⟨_, rfl⟩
  have HB2 := Lib.hid (show Below B w w2 by rw [← hw2, ← hB]; exact (((Below.refl _ _).alloc (Nat.le_refl _) _).alloc (by simp) _).alloc (by simp; omega) _)
  have HWX2 := Lib.hid (show Whole w2 B 48 #[.int .i64 n, .slice A N cap] by rw [← hw2, ← hB]; exact ((Whole.made w _ _).alloc _).alloc _)
  have HWK2 := Lib.hid (show Whole w2 (B + 1) 27 #[.int .i64 a0, .int .i64 a1, .string a2, .slice a3 a4 a5, .slice a6 a7 a8] by rw [← hw2, ← hB]; exact (whole_made1 (by simp)).alloc _)
  have hsz2 : B + 1 + 1 < w2.heap.size := by rw [← hw2, ← hB]; simp
  have HSZ := Lib.hid hsz2
  have HON : Hid (ROwn intR w2 (B + 1 + 1) (.slice (some ⟨B + 1 + 1, 0, none⟩) 0 0) []) := Lib.hid (by rw [← hw2, ← hB]; exact ROwn.lit _ _ (by simp) (by simp))
  have HW2 := Lib.hid hw2
  have HBB := Lib.hid hB
  clear hM hk hG hnk hB hw2 hsz2
  go_enter Tryz.func17, Tryz.ntmps17
  go_wp2
  rw [HW2.out, HBB.out]
  go_loopw [5, 6] (fun v iv wr => ∃ (i P : Nat) (AP : Option Addr) (cP : Nat), i ≤ N ∧ P ≤ i ∧ v = .slice AP P cP ∧ iv = .int .i64 (i : Int) ∧ Hid (ROwn intR wr (B + 1 + 1) (.slice AP P cP) (plT L k i)) ∧ Hid (Below (B + 1 + 1) w2 wr) ∧ Hid (i = 0 ∨ (keyB k = true ∧ bOk n L = true))) (fun _ iv _ => N - (intOf iv).toNat)
  case atStart => exact ⟨0, 0, _, 0, Nat.zero_le _, Nat.le_refl _, rfl, by go_num, HON, Below.refl _ _, .inl rfl⟩
  case round =>
    obtain ⟨i, P, AP, cP, hi, hPi, rfl, rfl, HO, HBr, HV⟩ := hrel
    have hBw : Below B w wr := HB2.out.trans (HBr.out.mono (by omega))
    have HBw := Lib.hid hBw
    have HWXr := Lib.hid (HWX2.out.below HBr.out (by omega))
    have HWKr := Lib.hid (HWK2.out.below HBr.out (by omega))
    have HMr := Lib.hid (HM.out.below hBw (Nat.le_of_eq HBB.out))
    have HKr := Lib.hid (KV.below hBw (Nat.le_of_eq HBB.out) _ _ HK.out)
    have y0 : wr.cell? ⟨B, 0, none⟩ = some (.int .i64 n) := HWXr.out.cell 0
    have y1 : wr.cell? ⟨B, 1, none⟩ = some (.slice A N cap) := HWXr.out.cell 1
    have HSr : Hid (B + 1 + 1 < wr.heap.size) := Lib.hid (Nat.lt_of_lt_of_le HSZ.out HBr.out.size)
    clear hBw
    by_cases hlt : i < N
    · have i0 : (0 : Int) ≤ (i : Int) := by omega
      have i1 : (i : Int) < (N : Int) := by omega
      obtain ⟨z, hz⟩ : ∃ z, bOk n L = z := ⟨_, rfl⟩
      have HZ := Lib.hid hz
      have HBV := Lib.hid (spec_boxv hz wr HMr.out)
      clear hz
      go_wp2_with fail
      refine HBV.out.mono ?_
      rintro e w4 ⟨rfl, hb4⟩
      have HB4 := Lib.hid (HBr.out.trans (hb4.mono (Nat.le_of_lt HSr.out)))
      have HO4 := Lib.hid (HO.out.kept hb4)
      have HWX4 := Lib.hid (HWXr.out.below hb4 HWXr.out.lt)
      have HWK4 := Lib.hid (HWKr.out.below hb4 HWKr.out.lt)
      have HM4 := Lib.hid (HMr.out.below hb4 (Nat.le_refl _))
      have HK4 := Lib.hid (KV.below hb4 (Nat.le_refl _) _ _ HKr.out)
      have HS4 : Hid (B + 1 + 1 < w4.heap.size) := Lib.hid (Nat.lt_of_lt_of_le HSr.out hb4.size)
      clear hb4 y0 y1
      cases z with
      | false =>
        have HE : Hid (plT L k i = G) := Lib.hid (by
          rw [← HG.out, srT_nobox HZ.out]
          rcases HV.out with h | h
          · subst h; rfl
          · have h2 := h.2; rw [HZ.out] at h2; cases h2)
        have HBe : Hid (Below B w w4) := Lib.hid (HB2.out.trans (HB4.out.mono (by omega)))
        go_wp2
        go_ret
        exact gives_n HO4.out (by have := HBB.out; omega) HE.out (HBB.out.symm ▸ HBe.out)
      | true =>
        obtain ⟨y, hy⟩ : ∃ y, keyB k = y := ⟨_, rfl⟩
        have HY := Lib.hid hy
        have HKV := Lib.hid (spec_key (w := w4) HK4.out (Nat.le_trans HNK.out (by omega)) hy)
        have x0 : w4.cell? ⟨B + 1, 0, none⟩ = some (.int .i64 a0) := HWK4.out.cell 0
        have x1 : w4.cell? ⟨B + 1, 1, none⟩ = some (.int .i64 a1) := HWK4.out.cell 1
        have x2 : w4.cell? ⟨B + 1, 2, none⟩ = some (.string a2) := HWK4.out.cell 2
        have x3 : w4.cell? ⟨B + 1, 3, none⟩ = some (.slice a3 a4 a5) := HWK4.out.cell 3
        have x4 : w4.cell? ⟨B + 1, 4, none⟩ = some (.slice a6 a7 a8) := HWK4.out.cell 4
        clear hy
        go_wp2_with fail
        refine HKV.out.mono ?_
        rintro e w5 ⟨rfl, hb5⟩
        have HB5 := Lib.hid (HB4.out.trans (hb5.mono (Nat.le_of_lt HS4.out)))
        have HO5 := Lib.hid (HO4.out.kept hb5)
        have HWX5 := Lib.hid (HWX4.out.below hb5 HWX4.out.lt)
        have HWK5 := Lib.hid (HWK4.out.below hb5 HWK4.out.lt)
        have HM5 := Lib.hid (HM4.out.below hb5 (Nat.le_refl _))
        have HK5 := Lib.hid (KV.below hb5 (Nat.le_refl _) _ _ HK4.out)
        have HS5 : Hid (B + 1 + 1 < w5.heap.size) := Lib.hid (Nat.lt_of_lt_of_le HS4.out hb5.size)
        clear hb5 x0 x1 x2 x3 x4
        cases y with
        | false =>
          have HE : Hid (plT L k i = G) := Lib.hid (by
            rw [← HG.out, srT_nokey HY.out]
            rcases HV.out with h | h
            · subst h; rfl
            · have h2 := h.1; rw [HY.out] at h2; cases h2)
          have HBe : Hid (Below B w w5) := Lib.hid (HB2.out.trans (HB5.out.mono (by omega)))
          go_wp2
          go_ret
          exact gives_n HO5.out (by have := HBB.out; omega) HE.out (HBB.out.symm ▸ HBe.out)
        | true =>
          have hN10 : N ≤ 10 := by rw [← HM5.out.1]; exact (bOk_iff.1 HZ.out).2.2.2.2
          obtain ⟨m, hm⟩ : ∃ m, L[i]? = some m := ⟨_, List.getElem?_eq_getElem (by rw [HM5.out.1]; exact hlt)⟩
          have HMI := Lib.hid hm
          obtain ⟨g, hg⟩ : ∃ g, findT L m i k = g := ⟨_, rfl⟩
          have HGG := Lib.hid hg
          have HF := Lib.hid (spec_finds hg w5 HZ.out hm (key_all HY.out) HK5.out HM5.out)
          have y0 : w5.cell? ⟨B, 0, none⟩ = some (.int .i64 n) := HWX5.out.cell 0
          have y1 : w5.cell? ⟨B, 1, none⟩ = some (.slice A N cap) := HWX5.out.cell 1
          have x0 : w5.cell? ⟨B + 1, 0, none⟩ = some (.int .i64 a0) := HWK5.out.cell 0
          have x1 : w5.cell? ⟨B + 1, 1, none⟩ = some (.int .i64 a1) := HWK5.out.cell 1
          have x2 : w5.cell? ⟨B + 1, 2, none⟩ = some (.string a2) := HWK5.out.cell 2
          have x3 : w5.cell? ⟨B + 1, 3, none⟩ = some (.slice a3 a4 a5) := HWK5.out.cell 3
          have x4 : w5.cell? ⟨B + 1, 4, none⟩ = some (.slice a6 a7 a8) := HWK5.out.cell 4
          clear hm hg
          go_wp2_with fail
          refine HF.out.mono ?_
          rintro e w6 ⟨rfl, hb6⟩
          have HB6 := Lib.hid (HB5.out.trans (hb6.mono (Nat.le_of_lt HS5.out)))
          have HO6 := Lib.hid (HO5.out.kept hb6)
          have HS6 : Hid (B + 1 + 1 < w6.heap.size) := Lib.hid (Nat.lt_of_lt_of_le HS5.out hb6.size)
          have HV2 : Hid (i + 1 = 0 ∨ (keyB k = true ∧ bOk n L = true)) := Lib.hid (.inr ⟨HY.out, HZ.out⟩)
          clear hb6 y0 y1 x0 x1 x2 x3 x4
          cases g with
          | false =>
            have HP2 : Hid (ROwn intR w6 (B + 1 + 1) (.slice AP P cP) (plT L k (i + 1))) := Lib.hid (by rw [plT_no HMI.out HGG.out]; exact HO6.out)
            go_wp2
            go_roundw
            case rel => exact ⟨i + 1, P, AP, cP, by omega, by omega, rfl, by go_num, HP2, HB6, HV2⟩
            case measure => simp [intOf]; omega
          | true =>
            have W1 : IntKind.i64.wrap ((i : Int) + 1) = (i : Int) + 1 := IntWalk.i64_in _ (by omega)
            have hml : P + 1 ≤ maxLen := by unfold maxLen; omega
            have hby : (P + 1) * 8 ≤ 140737488355328 := by omega
            have HPL := Lib.hid HO6.out.len.1.symm
            have hown6 := HO6.out.alloc (.cells #[.int .i64 ((i : Int) + 1)] 3)
            have hnew6 := RAt.made intR w6 [(i : Int) + 1] w6.heap.size rfl
            have hDs : B + 1 + 1 ≤ (w6.alloc (.cells #[.int .i64 ((i : Int) + 1)] 3)).heap.size := by have := HS6.out; simp; omega
            go_wp2_with (at_builtin; refine wpList_append_rows rfl (.tmp 27) (.tmp 30) 44 rfl intR (B + 1 + 1) j0 _ 8 Tryz.underlying44 hj hp0 hp1 hp2 rfl (by decide) _ (plT L k i) [(i : Int) + 1] P HPL.out rfl hown6 (some ⟨w6.heap.size, 0, none⟩) 1 1 rfl rfl hnew6 (fun e => by cases e) (fun q e => by cases e; rfl) hml hby hDs ?_)
            intro v' w7 ho hgr _
            obtain ⟨A7, N7, cap7, rfl⟩ := ho.val
            have hN7 : N7 = P + 1 := by have h1 := ho.len.1; rw [List.length_append, List.length_singleton, HPL.out] at h1; exact h1
            subst hN7
            have HB7 := Lib.hid ((HB6.out.alloc (Nat.le_of_lt HS6.out) (.cells #[.int .i64 ((i : Int) + 1)] 3)).grown hgr hDs (fun z hz => (World.ownsRow.lt HO6.out z hz).1))
            have HP2 : Hid (ROwn intR w7 (B + 1 + 1) (.slice A7 (P + 1) cap7) (plT L k (i + 1))) := Lib.hid (by rw [plT_yes HMI.out HGG.out]; exact ho)
            clear ho hgr hown6 hnew6 hDs
            go_wp2
            go_roundw
            case rel => exact ⟨i + 1, P + 1, A7, cap7, by omega, by omega, rfl, by go_num, HP2, HB7, HV2⟩
            case measure => simp [intOf]; omega
    · have i1 : ¬ (i : Int) < (N : Int) := by omega
      have HE : Hid (plT L k i = G) := Lib.hid (by
        rw [← HG.out]
        have hiN : i = L.length := by rw [HMr.out.1]; omega
        rcases HV.out with h | h
        · have h0 : L.length = 0 := by omega
          unfold srT
          rw [h0, h]
          split <;> rfl
        · rw [srT_yes h.1 h.2, hiN])
      go_wp2
      go_ret
      exact gives_n HO.out (by have := HBB.out; omega) HE.out (HBB.out.symm ▸ HBw.out)
end Go.Proofs.YtnfigpknejmkmaaGreatDoor
namespace Go.Proofs.YtnfigpknejmkmaaGreatDoor
open Go.RowKit
set_option linter.unusedVariables false

theorem mxl_of {w : World} (h : w.ShapedOpen Tryz.prog) : MxL w :=
  cell_of_shapedOpen_int (g := 2) (t := 3) (zero := #[.int .i64 0]) (k := .i64) h (of_decide_eq_true (by kernel_rfl)) (by kernel_rfl) rfl (by kernel_rfl) (by kernel_rfl) Tryz.underlying3
end Go.Proofs.YtnfigpknejmkmaaGreatDoor
