/-
  Slices of numbers in memory; the contracts of the model's l3Has and SetNumbers. Condition: the spans can be read.
-/
import Derived.Test.YtnfigpknejmkmaaGreatDoorSspec
import Derived.Lib.MinMax
namespace Go.Proofs.YtnfigpknejmkmaaGreatDoor
open Go.RowKit
set_option linter.unusedVariables false

/-- The cells of numbers. -/
def nms (l : List Nat) : List Value := l.map fun (k : Nat) => Value.int IntKind.i64 (k : Int)
theorem nms_len (l : List Nat) : (nms l).length = l.length := by unfold nms; rw [List.length_map]
/-- A slice of numbers of the call's own. -/
def OwnI (w : World) (B : Nat) (v : Value) (l : List Nat) : Prop := w.ownsRow B 3 1 v l.length (nms l)
/-- The numbers of a list can be read behind an address. -/
def IntA (w : World) (A : Option Addr) (l : List Nat) : Prop :=
  ∀ (i n : Nat), l[i]? = some n → ∃ b o, A = some ⟨b, o, none⟩ ∧ b < w.heap.size ∧ w.cell? ⟨b, o + i, none⟩ = some (.int .i64 (n : Int))
theorem IntA.kept {w w' : World} {A : Option Addr} {l : List Nat} (h : IntA w A l) (hz : w.heap.size ≤ w'.heap.size) (hk : ∀ p : Addr, p.block < w.heap.size → w'.cell? p = w.cell? p) : IntA w' A l := fun i x hx => by
  obtain ⟨b, o, hA, hb, h1⟩ := h i x hx
  exact ⟨b, o, hA, by omega, (hk _ hb).trans h1⟩
theorem IntA.below {w w' : World} {B : Nat} {A : Option Addr} {l : List Nat} (h : IntA w A l) (hb : Below B w w') (hB : w.heap.size ≤ B) : IntA w' A l :=
  h.kept hb.size fun p hp => hb.cell (by omega)
theorem OwnI.form {w : World} {B : Nat} {v : Value} {l : List Nat} (h : OwnI w B v l) : ∃ A cap, v = .slice A l.length cap ∧ l.length ≤ cap ∧ cap ≤ maxLen ∧ IntA w A l := by
  have hc : ∀ g, v.ownBlock = some g → ∀ j u, (nms l)[j]? = some u → w.cell? ((⟨g, 0, none⟩ : Addr).add j) = some u := fun g hg => World.ownsRow.cells h hg
  have h2 := World.ownsRow.lt h
  rcases h.2 with ⟨rfl, h0⟩ | ⟨g, cap, cur, rfl, hB, hg, hn, hm, hs, ht⟩
  · refine ⟨none, 0, by rw [h0], by omega, by unfold maxLen; omega, ?_⟩
    rw [List.eq_nil_of_length_eq_zero h0]
    exact fun i x hx => by simp at hx
  · refine ⟨_, cap, rfl, hn, hm, fun i x hx => ⟨g, 0, rfl, (h2 g rfl).2, ?_⟩⟩
    have := hc g rfl i (.int .i64 (x : Int)) (by unfold nms; rw [List.getElem?_map, hx]; rfl)
    rw [add_none] at this
    exact this
theorem OwnI.kept {w w' : World} {B : Nat} {v : Value} {l : List Nat} (h : OwnI w B v l) (hb : Below w.heap.size w w') : OwnI w' B v l := by
  unfold OwnI
  refine World.ownsRow.kept (row := none) h ⟨hb.os, hb.tape, hb.output, hb.size, fun k hk _ => hb.block k hk⟩ ?_
  cases hv : v.ownBlock <;> simp
theorem OwnI.from {w : World} {B B' : Nat} {v : Value} {l : List Nat} (h : OwnI w B v l) (hb : B' ≤ B) : OwnI w B' v l := by
  refine ⟨h.1, ?_⟩
  rcases h.2 with h2 | ⟨g, cap, cur, hv, hB, rest⟩
  · exact .inl h2
  · exact .inr ⟨g, cap, cur, hv, by omega, rest⟩
theorem OwnI.alloc {w : World} {B : Nat} {v : Value} {l : List Nat} (h : OwnI w B v l) (o : Obj) : OwnI (w.alloc o) B v l := World.ownsRow.alloc h o
theorem OwnI.nil (w : World) (B : Nat) : OwnI w B (.slice none 0 0) [] := World.ownsRow_nil w B _ 1
theorem OwnI.lit' (w : World) {B : Nat} (N : Nat) (hB : B ≤ w.heap.size) (hN : w.heap.size = N) : OwnI (w.alloc (.cells #[] 3)) B (.slice (some ⟨N, 0, none⟩) 0 0) [] := by
  subst hN
  exact World.ownsRow_lit w #[] 0 hB (by unfold maxLen; omega) rfl
theorem OwnI.row {w : World} {B : Nat} {v : Value} {l : List Nat} {n : Nat} (h : OwnI w B v l) (hn : n = l.length) : w.ownsRow B 3 1 v n (nms l) := by subst hn; exact h
theorem OwnI.push {w : World} {B : Nat} {v : Value} {l : List Nat} {x n : Nat} (h : w.ownsRow B 3 1 v n (nms l ++ [.int .i64 (x : Int)])) (hn : n = l.length + 1) : OwnI w B v (l ++ [x]) := by
  unfold OwnI
  have e : nms (l ++ [x]) = nms l ++ [.int .i64 (x : Int)] := by unfold nms; rw [List.map_append]; rfl
  rw [e, List.length_append, List.length_singleton, ← hn]
  exact h
theorem one_new' (w : World) (x : Value) (t : TypeId) (N : Nat) (hN : w.heap.size = N) : ∀ j u, [x][j]? = some u → (w.alloc (.cells #[x] t)).cell? ((⟨N, 0, none⟩ : Addr).add j) = some u := hN ▸ cell_one_new w x t
theorem one_one (x : Int) : ∀ u ∈ [Value.int .i64 x], u.oneCell' = true := by
  intro u hu
  simp at hu
  rw [hu]
  rfl
theorem Tryz.infoInt : (Tryz.prog.info? 3).map (fun i => (i.zero, i.size, i.bytes)) = some (some (.int .i64 0), 1, 8) := by kernel_rfl

theorem any_tk' {α : Type} (f : α → Bool) (L : List α) (k : Nat) (x : α) (hx : L[k]? = some x) (h : (L.take k).any f = false) (hf : f x = false) : (L.take (k + 1)).any f = false := by
  rw [List.take_add_one, hx, List.any_append, h]
  simp [hf]
theorem any_yes' {α : Type} (f : α → Bool) (L : List α) (k : Nat) (x : α) (hx : L[k]? = some x) (h : f x = true) : L.any f = true := List.any_eq_true.2 ⟨x, List.mem_of_getElem? hx, h⟩

theorem eq0_yes {x : Int} (h : x = 0) : (x == 0) = true := by rw [h]; rfl
theorem eq0_no {x : Int} (h : ¬ x = 0) : (x == 0) = false := beq_eq_false_iff_ne.2 h
theorem has_of {last n x1 x2 a b : Int} {o : Bool} (h : hasE last n (x1, x2) = o) (h1 : (if x1 = 0 then last else x1) = a) (h2 : (if x2 = 0 then last else x2) = b) : inB n (min a b) (max a b) = o := by
  rw [← h]
  unfold hasE lowE highE
  simp only [h1, h2]
theorem has_same {last n : Int} {o : Bool} (h : hasE last n (0, 0) = o) : inB n last last = o := by
  have := has_of (a := last) (b := last) h (if_pos rfl) (if_pos rfl)
  rw [Int.min_self, Int.max_self] at this
  exact this

set_option maxHeartbeats 2000000 in
theorem spec_has (A : Option Addr) (cap : Nat) (L : List (Int × Int)) (last n : Int) (w : World) (h : SpA w A L) (hl : L.length ≤ 33554432) :
    Calls Tryz.prog 76 #[.slice A L.length cap, .int .i64 last, .int .i64 n] w fun e w' => e = .returned (.bool (hasB L last n)) ∧ w = w' := by
  obtain ⟨m, hm⟩ : ∃ m, L.length = m := ⟨_, rfl⟩
  rw [hm] at hl ⊢
  have HM := Lib.hid hm
  have H := Lib.hid h
  clear hm h
  go_enter Tryz.func76, Tryz.ntmps76
  go_wp2
  go_loop [7] (fun i => ∃ k : Nat, k ≤ m ∧ i = .int .i64 (k : Int) ∧ Hid ((L.take k).any (hasE last n) = false)) (fun i => m - (intOf i).toNat)
  case atStart => exact ⟨0, Nat.zero_le _, by go_num, rfl⟩
  case round =>
    obtain ⟨k, hk, rfl, HA⟩ := hrel
    by_cases hlt : k < m
    · have h0 : (0 : Int) ≤ (k : Int) := by omega
      have h5 : (k : Int) < (m : Int) := by omega
      obtain ⟨⟨x1, x2⟩, hx⟩ : ∃ x, L[k]? = some x := ⟨_, List.getElem?_eq_getElem (by rw [HM.out]; exact hlt)⟩
      obtain ⟨b, o, rfl, hb, c1, c2⟩ := H.out k _ hx
      have HX := Lib.hid hx
      clear hx
      cases hh : hasE last n (x1, x2)
      · have HN := Lib.hid hh
        clear hh
        by_cases e1 : x1 = 0 <;> by_cases e2 : x2 = 0
        · subst e1
          subst e2
          go_wp2_with fail
          refine (in_any _ _ _ _).mono ?_
          rintro e w1 ⟨rfl, rfl⟩
          rw [has_same HN.out]
          go_wp2
          go_round
          case rel => exact ⟨k + 1, by omega, by go_num, any_tk' _ L k _ HX.out HA.out HN.out⟩
          case measure => simp [intOf]; omega
        · subst e1
          have f2 := eq0_no e2
          have E2 := Lib.hid e2
          clear e2
          go_wp2_with fail
          refine (in_any _ _ _ _).mono ?_
          rintro e w1 ⟨rfl, rfl⟩
          rw [has_of HN.out (if_pos rfl) (if_neg E2.out)]
          go_wp2
          go_round
          case rel => exact ⟨k + 1, by omega, by go_num, any_tk' _ L k _ HX.out HA.out HN.out⟩
          case measure => simp [intOf]; omega
        · have f1 := eq0_no e1
          have E1 := Lib.hid e1
          subst e2
          clear e1
          go_wp2_with fail
          refine (in_any _ _ _ _).mono ?_
          rintro e w1 ⟨rfl, rfl⟩
          rw [has_of HN.out (if_neg E1.out) (if_pos rfl)]
          go_wp2
          go_round
          case rel => exact ⟨k + 1, by omega, by go_num, any_tk' _ L k _ HX.out HA.out HN.out⟩
          case measure => simp [intOf]; omega
        · have f1 := eq0_no e1
          have E1 := Lib.hid e1
          have f2 := eq0_no e2
          have E2 := Lib.hid e2
          clear e1
          clear e2
          go_wp2_with fail
          refine (in_any _ _ _ _).mono ?_
          rintro e w1 ⟨rfl, rfl⟩
          rw [has_of HN.out (if_neg E1.out) (if_neg E2.out)]
          go_wp2
          go_round
          case rel => exact ⟨k + 1, by omega, by go_num, any_tk' _ L k _ HX.out HA.out HN.out⟩
          case measure => simp [intOf]; omega
      · have HN := Lib.hid hh
        clear hh
        by_cases e1 : x1 = 0 <;> by_cases e2 : x2 = 0
        · subst e1
          subst e2
          go_wp2_with fail
          refine (in_any _ _ _ _).mono ?_
          rintro e w1 ⟨rfl, rfl⟩
          rw [has_same HN.out]
          go_wp2
          go_ret
          exact ⟨ret_bool (any_yes' _ L k _ HX.out HN.out).symm, rfl⟩
        · subst e1
          have f2 := eq0_no e2
          have E2 := Lib.hid e2
          clear e2
          go_wp2_with fail
          refine (in_any _ _ _ _).mono ?_
          rintro e w1 ⟨rfl, rfl⟩
          rw [has_of HN.out (if_pos rfl) (if_neg E2.out)]
          go_wp2
          go_ret
          exact ⟨ret_bool (any_yes' _ L k _ HX.out HN.out).symm, rfl⟩
        · have f1 := eq0_no e1
          have E1 := Lib.hid e1
          subst e2
          clear e1
          go_wp2_with fail
          refine (in_any _ _ _ _).mono ?_
          rintro e w1 ⟨rfl, rfl⟩
          rw [has_of HN.out (if_neg E1.out) (if_pos rfl)]
          go_wp2
          go_ret
          exact ⟨ret_bool (any_yes' _ L k _ HX.out HN.out).symm, rfl⟩
        · have f1 := eq0_no e1
          have E1 := Lib.hid e1
          have f2 := eq0_no e2
          have E2 := Lib.hid e2
          clear e1
          clear e2
          go_wp2_with fail
          refine (in_any _ _ _ _).mono ?_
          rintro e w1 ⟨rfl, rfl⟩
          rw [has_of HN.out (if_neg E1.out) (if_neg E2.out)]
          go_wp2
          go_ret
          exact ⟨ret_bool (any_yes' _ L k _ HX.out HN.out).symm, rfl⟩
    · have ha : Hid (hasB L last n = false) := by
        have h1 := HA.out
        rw [List.take_of_length_le (by rw [HM.out]; omega)] at h1
        exact h1
      have h5 : ¬ (k : Int) < (m : Int) := by omega
      clear HA
      go_wp2
      go_ret
      exact ⟨ret_bool ha.out.symm, rfl⟩
theorem spec_has_at {A : Option Addr} {cap : Nat} {L : List (Int × Int)} {last n : Int} {o : Bool} (ho : hasB L last n = o) (w : World) (h : SpA w A L) (hl : L.length ≤ 33554432) :
    Calls Tryz.prog 76 #[.slice A L.length cap, .int .i64 last, .int .i64 n] w fun e w' => e = .returned (.bool o) ∧ w = w' := ho ▸ spec_has A cap L last n w h hl
theorem spec_setvalid_at {A : Option Addr} {cap : Nat} {L : List (Int × Int)} {o : Bool} (ho : setB L = o) (w : World) (h : SpA w A L) (hl : L.length ≤ 33554432) :
    Calls Tryz.prog 92 #[.slice A L.length cap] w fun e w' => e = .returned (.bool o) ∧ w = w' := ho ▸ spec_setvalid A cap L w h hl

/-- What a function that lists numbers leaves. -/
def Lists (w : World) (l : List Nat) (e : Ending) (w' : World) : Prop := ∃ v : Value, e = .returned v ∧ OwnI w' w.heap.size v l ∧ Below w.heap.size w w'
theorem min_lst (last : Int) : min last 99 = lst last := rfl

end Go.Proofs.YtnfigpknejmkmaaGreatDoor
