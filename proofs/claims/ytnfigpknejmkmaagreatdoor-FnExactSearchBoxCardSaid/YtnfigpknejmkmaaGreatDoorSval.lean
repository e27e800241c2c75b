/-
  Slices of spans in memory; the contracts of SetValid, the model's and the code's. Condition: the spans can be read.
-/
import Derived.Test.YtnfigpknejmkmaaGreatDoorDraws
import Derived.Test.YtnfigpknejmkmaaGreatDoorNmath
import Derived.Test.YtnfigpknejmkmaaGreatDoorEq
import Derived.Maps.AppendAt
namespace Go.Proofs.YtnfigpknejmkmaaGreatDoor
open Go.RowKit
set_option linter.unusedVariables false

/-- The spans of a list can be read behind an address. -/
def SpA (w : World) (A : Option Addr) (L : List (Int × Int)) : Prop :=
  ∀ i x, L[i]? = some x → ∃ b o, A = some ⟨b, o, none⟩ ∧ b < w.heap.size ∧ w.cell? ⟨b, o + i * 2, none⟩ = some (.int .i64 x.1) ∧ w.cell? ⟨b, o + i * 2 + 1, none⟩ = some (.int .i64 x.2)
theorem SpA.kept {w w' : World} {A : Option Addr} {L : List (Int × Int)} (h : SpA w A L) (hz : w.heap.size ≤ w'.heap.size) (hk : ∀ p : Addr, p.block < w.heap.size → w'.cell? p = w.cell? p) : SpA w' A L := fun i x hx => by
  obtain ⟨b, o, hA, hb, h1, h2⟩ := h i x hx
  exact ⟨b, o, hA, by omega, (hk _ hb).trans h1, (hk _ hb).trans h2⟩
theorem SpA.below {w w' : World} {B : Nat} {A : Option Addr} {L : List (Int × Int)} (h : SpA w A L) (hb : Below B w w') (hB : w.heap.size ≤ B) : SpA w' A L :=
  h.kept hb.size fun p hp => hb.cell (by omega)
theorem SpA.drewN {w : World} {A : Option Addr} {L : List (Int × Int)} (h : SpA w A L) (n : Nat) : SpA (w.drewN n) A L := h
theorem SpA.drew {w : World} {A : Option Addr} {L : List (Int × Int)} (h : SpA w A L) : SpA w.drew A L := h
theorem SpA.nil (w : World) (A : Option Addr) : SpA w A [] := fun i x hx => by simp at hx
/-- The cells of spans. -/
def spn (L : List (Int × Int)) : List Value := L.flatMap fun x => [.int .i64 x.1, .int .i64 x.2]
theorem spn_len : ∀ L : List (Int × Int), (spn L).length = L.length * 2
  | [] => rfl
  | x :: L => by
    have := spn_len L
    unfold spn at this ⊢
    rw [List.flatMap_cons, List.length_append, this, List.length_cons]
    simp only [List.length_cons, List.length_nil]
    omega
theorem spn_app (L M : List (Int × Int)) : spn (L ++ M) = spn L ++ spn M := by unfold spn; rw [List.flatMap_append]
theorem spn_one (x : Int × Int) : spn [x] = [.int .i64 x.1, .int .i64 x.2] := rfl
theorem spn_get : ∀ (L : List (Int × Int)) (i : Nat) (x : Int × Int), L[i]? = some x → (spn L)[i * 2]? = some (.int .i64 x.1) ∧ (spn L)[i * 2 + 1]? = some (.int .i64 x.2)
  | [], i, x, h => by simp at h
  | y :: L, 0, x, h => by
    simp at h
    subst h
    exact ⟨rfl, rfl⟩
  | y :: L, i + 1, x, h => by
    have ih := spn_get L i x (by simpa using h)
    have e : spn (y :: L) = .int .i64 y.1 :: .int .i64 y.2 :: spn L := rfl
    rw [e, show (i + 1) * 2 = i * 2 + 1 + 1 by omega]
    simpa using ih
theorem spn_cells (L : List (Int × Int)) : ∀ u ∈ spn L, u.oneCell' = true := by
  intro u hu
  unfold spn at hu
  rw [List.mem_flatMap] at hu
  obtain ⟨x, _, hx⟩ := hu
  simp at hx
  rcases hx with rfl | rfl <;> rfl
/-- A slice of spans of the call's own. -/
def Own (w : World) (B : Nat) (v : Value) (L : List (Int × Int)) : Prop := w.ownsRow B 108 2 v L.length (spn L)
theorem add_none (b o n : Nat) : (⟨b, o, none⟩ : Addr).add n = ⟨b, o + n, none⟩ := by unfold Addr.add; split <;> simp_all
theorem Own.form {w : World} {B : Nat} {v : Value} {L : List (Int × Int)} (h : Own w B v L) : ∃ A cap, v = .slice A L.length cap ∧ L.length ≤ cap ∧ cap ≤ maxLen ∧ SpA w A L := by
  have hc : ∀ g, v.ownBlock = some g → ∀ j u, (spn L)[j]? = some u → w.cell? ((⟨g, 0, none⟩ : Addr).add j) = some u := fun g hg => World.ownsRow.cells h hg
  have h2 := World.ownsRow.lt h
  rcases h.2 with ⟨rfl, h0⟩ | ⟨g, cap, cur, rfl, hB, hg, hn, hm, hs, ht⟩
  · refine ⟨none, 0, by rw [h0], by omega, by unfold maxLen; omega, ?_⟩
    rw [List.eq_nil_of_length_eq_zero h0]
    exact SpA.nil _ _
  · refine ⟨_, cap, rfl, hn, hm, fun i x hx => ⟨g, 0, rfl, (h2 g rfl).2, ?_, ?_⟩⟩
    · obtain ⟨e1, e2⟩ := spn_get L i x hx
      have := hc g rfl _ _ e1
      rw [add_none] at this
      exact this
    · obtain ⟨e1, e2⟩ := spn_get L i x hx
      have := hc g rfl _ _ e2
      rw [add_none] at this
      exact this
theorem Own.kept {w w' : World} {B : Nat} {v : Value} {L : List (Int × Int)} (h : Own w B v L) (hb : Below w.heap.size w w') : Own w' B v L := by
  unfold Own
  refine World.ownsRow.kept (row := none) h ⟨hb.os, hb.tape, hb.output, hb.size, fun k hk _ => hb.block k hk⟩ ?_
  cases hv : v.ownBlock <;> simp
theorem Own.from {w : World} {B B' : Nat} {v : Value} {L : List (Int × Int)} (h : Own w B v L) (hb : B' ≤ B) : Own w B' v L := by
  refine ⟨h.1, ?_⟩
  rcases h.2 with h2 | ⟨g, cap, cur, hv, hB, rest⟩
  · exact .inl h2
  · exact .inr ⟨g, cap, cur, hv, by omega, rest⟩

theorem all_tk' {α : Type} (f : α → Bool) (L : List α) (k : Nat) (x : α) (hx : L[k]? = some x) (h : (L.take k).all f = true) (hf : f x = true) : (L.take (k + 1)).all f = true := by
  obtain ⟨hk, e⟩ := List.getElem?_eq_some_iff.1 hx
  exact all_tk f L k hk h (by rw [e]; exact hf)
theorem all_no' {α : Type} (f : α → Bool) (L : List α) (k : Nat) (x : α) (hx : L[k]? = some x) (h : f x = false) : L.all f = false := by
  obtain ⟨hk, e⟩ := List.getElem?_eq_some_iff.1 hx
  exact all_no f L k hk (by rw [e]; exact h)

set_option maxHeartbeats 1000000 in
theorem spec_setvalid (A : Option Addr) (cap : Nat) (L : List (Int × Int)) (w : World) (h : SpA w A L) (hl : L.length ≤ 33554432) :
    Calls Tryz.prog 92 #[.slice A L.length cap] w fun e w' => e = .returned (.bool (setB L)) ∧ w = w' := by
  obtain ⟨n, hn⟩ : ∃ n, L.length = n := ⟨_, rfl⟩
  rw [hn] at hl ⊢
  have HN := Lib.hid hn
  have H := Lib.hid h
  clear hn h
  go_enter Tryz.func92, Tryz.ntmps92
  go_wp2
  go_loop [3] (fun i => ∃ k : Nat, k ≤ n ∧ i = .int .i64 (k : Int) ∧ Hid ((L.take k).all spanB = true)) (fun i => n - (intOf i).toNat)
  case atStart => exact ⟨0, Nat.zero_le _, by go_num, rfl⟩
  case round =>
    obtain ⟨k, hk, rfl, HA⟩ := hrel
    by_cases hlt : k < n
    · have h0 : (0 : Int) ≤ (k : Int) := by omega
      have h5 : (k : Int) < (n : Int) := by omega
      obtain ⟨⟨x1, x2⟩, hx⟩ : ∃ x, L[k]? = some x := ⟨_, List.getElem?_eq_getElem (by rw [HN.out]; exact hlt)⟩
      obtain ⟨b, o, rfl, hb, c1, c2⟩ := H.out k _ hx
      have HX := Lib.hid hx
      clear hx
      cases hs1 : inB x1 0 99
      · have HS := Lib.hid hs1
        clear hs1
        go_wp2_with fail
        refine (in_any _ _ _ _).mono ?_
        rintro e w1 ⟨rfl, rfl⟩
        rw [HS.out]
        go_wp2
        go_ret
        refine ⟨ret_bool ?_, rfl⟩
        unfold setB
        rw [all_no' spanB L k _ HX.out (by unfold spanB; rw [HS.out]; rfl)]
        rfl
      · cases hs2 : inB x2 0 99
        · have HS := Lib.hid hs1
          have HS2 := Lib.hid hs2
          clear hs1 hs2
          go_wp2_with fail
          refine (in_any _ _ _ _).mono ?_
          rintro e w1 ⟨rfl, rfl⟩
          rw [HS.out]
          go_wp2_with fail
          refine (in_any _ _ _ _).mono ?_
          rintro e w1 ⟨rfl, rfl⟩
          rw [HS2.out]
          go_wp2
          go_ret
          refine ⟨ret_bool ?_, rfl⟩
          unfold setB
          rw [all_no' spanB L k _ HX.out (by unfold spanB; rw [HS2.out, Bool.and_false])]
          rfl
        · have HS := Lib.hid hs1
          have HS2 := Lib.hid hs2
          clear hs1 hs2
          go_wp2_with fail
          refine (in_any _ _ _ _).mono ?_
          rintro e w1 ⟨rfl, rfl⟩
          rw [HS.out]
          go_wp2_with fail
          refine (in_any _ _ _ _).mono ?_
          rintro e w1 ⟨rfl, rfl⟩
          rw [HS2.out]
          go_wp2
          go_round
          case rel => exact ⟨k + 1, by omega, by go_num, all_tk' spanB L k _ HX.out HA.out (by unfold spanB; rw [HS.out, HS2.out]; rfl)⟩
          case measure => simp [intOf]; omega
    · have ha : Hid (L.all spanB = true) := by
        have h1 := HA.out
        rw [List.take_of_length_le (by rw [HN.out]; omega)] at h1
        exact h1
      clear HA
      go_wp2_with fail
      refine (in_any _ _ _ _).mono ?_
      rintro e w1 ⟨rfl, rfl⟩
      go_wp2
      go_ret
      refine ⟨ret_bool ?_, rfl⟩
      show inB _ _ _ = _
      unfold setB
      rw [ha.out, HN.out]
      rfl

set_option maxHeartbeats 400000 in
theorem isnum_any (n : Int) (w : World) : Calls Tryz.prog 109 #[.int .i64 n] w fun e w' => e = .returned (.bool (inB n 0 99)) ∧ w = w' := by
  by_cases h1 : 0 ≤ n <;> by_cases h2 : n ≤ 99
  all_goals
    go_enter Tryz.func109, Tryz.ntmps109
    go_wp2
    go_ret
    refine ⟨ret_bool ?_, rfl⟩
    unfold inB
    first
      | exact (decide_eq_true (by omega)).symm
      | exact (decide_eq_false (by omega)).symm

theorem setB_no0 {L : List (Int × Int)} (h : L.length = 0) : setB L = false := by
  rw [← Bool.not_eq_true]
  intro hs
  have := (setB_iff.1 hs).2.1
  omega
set_option maxHeartbeats 1000000 in
theorem impl_setvalid (A : Option Addr) (cap : Nat) (L : List (Int × Int)) (w : World) (h : SpA w A L) (hl : L.length ≤ 33554432) :
    Calls Tryz.prog 96 #[.slice A L.length cap] w fun e w' => e = .returned (.bool (setB L)) ∧ Below w.heap.size w w' := by
  obtain ⟨n, hn⟩ : ∃ n, L.length = n := ⟨_, rfl⟩
  rw [hn] at hl ⊢
  have HN := Lib.hid hn
  have H := Lib.hid h
  clear hn h
  by_cases h0 : n = 0
  · have h0' : ((n : Int) == 0) = true := by rw [h0]; rfl
    have HS := Lib.hid (setB_no0 (L := L) (by rw [HN.out, h0]))
    have HZ := Lib.hid h0
    clear h0
    go_enter Tryz.func96, Tryz.ntmps96
    go_wp2
    go_ret
    exact ⟨ret_bool HS.out.symm, Below.refl _ _⟩
  · have h0' : ((n : Int) == 0) = false := beq_eq_false_iff_ne.2 (by omega)
    by_cases h6 : n ≤ 6
    · have h6' : ¬ (6 : Int) < (n : Int) := by omega
      have HP := Lib.hid h0
      clear h0
      go_enter Tryz.func96, Tryz.ntmps96
      go_wp2
      go_loopw [15] (fun i wr => ∃ k : Nat, k ≤ n ∧ i = .int .i64 (k : Int) ∧ Hid ((L.take k).all spanB = true) ∧ Hid (Below w.heap.size w wr)) (fun i _ => n - (intOf i).toNat)
      case atStart => exact ⟨0, Nat.zero_le _, by go_num, rfl, Below.refl _ _⟩
      case round =>
        obtain ⟨k, hk, rfl, HA, HB⟩ := hrel
        by_cases hlt : k < n
        · have h0 : (0 : Int) ≤ (k : Int) := by omega
          have h5 : (k : Int) < (n : Int) := by omega
          obtain ⟨⟨x1, x2⟩, hx⟩ : ∃ x, L[k]? = some x := ⟨_, List.getElem?_eq_getElem (by rw [HN.out]; exact hlt)⟩
          obtain ⟨b, o, rfl, hb, c1, c2⟩ := (H.out.below HB.out (Nat.le_refl _)) k _ hx
          have HX := Lib.hid hx
          clear hx
          cases hs1 : inB x1 0 99
          · have HS := Lib.hid hs1
            clear hs1
            go_wp2_with fail
            refine (isnum_any _ _).mono ?_
            rintro e w1 ⟨rfl, rfl⟩
            rw [HS.out]
            go_wp2
            go_ret
            refine ⟨ret_bool ?_, HB.out.alloc HB.out.size _⟩
            unfold setB
            rw [all_no' spanB L k _ HX.out (by unfold spanB; rw [HS.out]; rfl)]
            rfl
          · cases hs2 : inB x2 0 99
            · have HS := Lib.hid hs1
              have HS2 := Lib.hid hs2
              clear hs1 hs2
              go_wp2_with fail
              refine (isnum_any _ _).mono ?_
              rintro e w1 ⟨rfl, rfl⟩
              rw [HS.out]
              go_wp2_with fail
              refine (isnum_any _ _).mono ?_
              rintro e w1 ⟨rfl, rfl⟩
              rw [HS2.out]
              go_wp2
              go_ret
              refine ⟨ret_bool ?_, HB.out.alloc HB.out.size _⟩
              unfold setB
              rw [all_no' spanB L k _ HX.out (by unfold spanB; rw [HS2.out, Bool.and_false])]
              rfl
            · have HS := Lib.hid hs1
              have HS2 := Lib.hid hs2
              clear hs1 hs2
              go_wp2_with fail
              refine (isnum_any _ _).mono ?_
              rintro e w1 ⟨rfl, rfl⟩
              rw [HS.out]
              go_wp2_with fail
              refine (isnum_any _ _).mono ?_
              rintro e w1 ⟨rfl, rfl⟩
              rw [HS2.out]
              go_wp2
              go_roundw
              case rel => exact ⟨k + 1, by omega, by go_num, all_tk' spanB L k _ HX.out HA.out (by unfold spanB; rw [HS.out, HS2.out]; rfl), HB.out.alloc HB.out.size _⟩
              case measure => simp [intOf]; omega
        · have ha : Hid (setB L = true) := by
            have h1 := HA.out
            rw [List.take_of_length_le (by rw [HN.out]; omega)] at h1
            show setB L = true
            unfold setB
            rw [h1, HN.out]
            exact inB_yes (by have := HP.out; omega) (by omega)
          clear HA
          have hge : (n : Int) ≤ (k : Int) := by omega
          go_wp2
          go_ret
          exact ⟨ret_bool ha.out.symm, HB.out⟩
    · have h6' : (6 : Int) < (n : Int) := by omega
      have HS := Lib.hid (setB_long (L := L) (by rw [HN.out]; omega))
      go_enter Tryz.func96, Tryz.ntmps96
      go_wp2
      go_ret
      exact ⟨ret_bool HS.out.symm, Below.refl _ _⟩
end Go.Proofs.YtnfigpknejmkmaaGreatDoor
