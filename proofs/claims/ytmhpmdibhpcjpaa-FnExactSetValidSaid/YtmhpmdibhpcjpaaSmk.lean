/-
  The laws' own helpers that mark lists of spans and of numbers, and look whether the marks still stand. Condition: the list is the call's own (marking), can be read (looking).
-/
import Derived.Test.YtmhpmdibhpcjpaaSto
namespace Go.Proofs.Ytmhpmdibhpcjpaa
open Go.RowKit
set_option linter.unusedVariables false

/-- The marks on spans. -/
def mks (n : Nat) : List (Int × Int) := (List.range n).map fun (i : Nat) => (1 + 2 * (i : Int), 1 + 2 * (i : Int) + 1)
theorem mks_len (n : Nat) : (mks n).length = n := by unfold mks; simp
theorem mks_succ (n : Nat) : mks (n + 1) = mks n ++ [(1 + 2 * (n : Int), 1 + 2 * (n : Int) + 1)] := by unfold mks; rw [List.range_succ, List.map_append]; rfl
theorem mks_at {n i : Nat} (h : i < n) : (mks n)[i]? = some (1 + 2 * (i : Int), 1 + 2 * (i : Int) + 1) := by unfold mks; simp [h]
/-- The marks on numbers. -/
def mki (n : Nat) : List Nat := (List.range n).map fun i => 1 + i
theorem mki_len (n : Nat) : (mki n).length = n := by unfold mki; simp
theorem mki_succ (n : Nat) : mki (n + 1) = mki n ++ [1 + n] := by unfold mki; rw [List.range_succ, List.map_append]; rfl
theorem mki_at {n i : Nat} (h : i < n) : (mki n)[i]? = some (1 + i) := by unfold mki; simp [h]
theorem set_mid {α : Type} {P L : List α} {i : Nat} (x : α) (hp : P.length = i) (hi : i < L.length) : (P ++ L.drop i).set i x = P ++ [x] ++ L.drop (i + 1) := by
  rw [List.set_append_right _ _ (by omega), hp, Nat.sub_self, List.drop_eq_getElem_cons hi, List.set_cons_zero, List.append_assoc]
  rfl
theorem mid_some {α : Type} {P L : List α} {i : Nat} (hp : P.length = i) (hi : i < L.length) : ∃ y, (P ++ L.drop i)[i]? = some y :=
  ⟨_, List.getElem?_eq_getElem (by rw [List.length_append, List.length_drop]; omega)⟩
theorem nms_set (l : List Nat) (k x : Nat) : (nms l).set k (.int .i64 (x : Int)) = nms (l.set k x) := by unfold nms; rw [List.map_set]
theorem OwnI.row' {w : World} {B n cap : Nat} {A : Option Addr} {l : List Nat} (h : OwnI w B (.slice A n cap) l) : n = l.length ∧ w.ownsRow B 3 1 (.slice A n cap) n (nms l) := by
  have hn : n = l.length := by
    obtain ⟨A, c, he, _⟩ := h.form
    cases he
    rfl
  subst hn
  exact ⟨rfl, h⟩
theorem OwnI.stored {w : World} {B g n cap : Nat} {l : List Nat} (h : OwnI w B (.slice (some ⟨g, 0, none⟩) n cap) l) (k x : Nat) :
    OwnI (w.setCell ⟨g, k, none⟩ (.int .i64 (x : Int))) B (.slice (some ⟨g, 0, none⟩) n cap) (l.set k x) ∧ w.grownBy (w.setCell ⟨g, k, none⟩ (.int .i64 (x : Int))) (some g) := by
  obtain ⟨hn, h1⟩ := h.row'
  obtain ⟨h2, g2⟩ := World.ownsRow.stored h1 k (.int .i64 (x : Int))
  refine ⟨?_, g2⟩
  rw [nms_set] at h2
  unfold OwnI
  rw [List.length_set, ← hn]
  exact h2
theorem OwnI.cells {w : World} {B n cap g k x : Nat} {l : List Nat} (h : OwnI w B (.slice (some ⟨g, 0, none⟩) n cap) l) (hx : l[k]? = some x) : w.cell? ⟨g, k, none⟩ = some (.int .i64 (x : Int)) := by
  obtain ⟨A, c, he, _, _, hs⟩ := h.form
  cases he
  obtain ⟨b, o, he, _, h1⟩ := hs k x hx
  cases he
  rw [Nat.zero_add] at h1
  exact h1

theorem own_split {w : World} {B n cap size : Nat} {e : TypeId} {A : Option Addr} {xs : List Value} (h : w.ownsRow B e size (.slice A n cap) n xs) (h0 : 0 < n) : ∃ g, A = some ⟨g, 0, none⟩ := by
  rcases h.2 with ⟨he, hn⟩ | ⟨g, c, cur, he, -⟩
  · omega
  · cases he
    exact ⟨g, rfl⟩

set_option maxHeartbeats 4000000 in
theorem mark_spans (A : Option Addr) (cap n B : Nat) (L : List (Int × Int)) (w : World) (hn : L.length = n) (h : Own w B (.slice A n cap) L) (hl : n ≤ 33554432) :
    Calls Try.prog 33 #[.slice A n cap, .int .i64 1] w fun e w' => e = .returned (.int .i64 (1 + 2 * (n : Int))) ∧ Own w' B (.slice A n cap) (mks n) ∧ w.grownBy w' (Value.slice A n cap).ownBlock := by
  have HN := Lib.hid hn
  have HO := Lib.hid h
  clear h hn
  go_enter Try.func33, Try.ntmps33
  go_wp2
  go_loopw [1, 5] (fun m i wr => ∃ k : Nat, k ≤ n ∧ m = .int .i64 (1 + 2 * (k : Int)) ∧ i = .int .i64 (k : Int) ∧ Hid (w.grownBy wr (Value.slice A n cap).ownBlock) ∧ Hid (Own wr B (.slice A n cap) (mks k ++ L.drop k))) (fun _ i _ => n - (intOf i).toNat)
  case atStart => exact ⟨0, Nat.zero_le _, by go_num, by go_num, gr_refl _ _, HO.out⟩
  case round =>
    obtain ⟨k, hk, rfl, rfl, HG, HW⟩ := hrel
    obtain ⟨z, hz⟩ : ∃ z : Int, 1 + 2 * (k : Int) = z := ⟨_, rfl⟩
    have HZ := Lib.hid hz
    rw [hz]
    by_cases hlt : k < n
    · have h0 : (0 : Int) ≤ (k : Int) := by omega
      have h5 : (k : Int) < (n : Int) := by omega
      have z0 : 0 ≤ z := by omega
      have z1 : z ≤ 100000000 := by omega
      have W1 : IntKind.i64.wrap (z + 1) = z + 1 := IntWalk.i64_in _ (by omega)
      have W2 : IntKind.i64.wrap (z + 1 + 1) = z + 1 + 1 := IntWalk.i64_in _ (by omega)
      obtain ⟨g, rfl⟩ := own_split (own_row' HW.out) (by omega)
      obtain ⟨y, hy⟩ := mid_some (mks_len k) (L := L) (by rw [HN.out]; exact hlt)
      obtain ⟨d1, d2⟩ := own_cells HW.out hy
      have d3 := World.ownsRow.frozenAt (own_row' HW.out) (k * 2)
      have d4 := World.ownsRow.frozenAt (own_row' HW.out) (k * 2 + 1)
      have HST := Lib.hid (HW.out.stored (k := k) (List.getElem?_eq_some_iff.1 hy).1 (z, z + 1))
      clear hy hz
      go_wp2
      go_roundw
      case rel =>
        refine ⟨k + 1, by omega, ?_, by go_num, gr_trans HG.out HST.out.2, ?_⟩
        · have := HZ.out; congr 1; omega
        · have h1 := HST.out.1
          rw [set_mid _ (mks_len k) (by rw [HN.out]; exact hlt)] at h1
          rw [mks_succ, HZ.out]
          exact h1
      case measure => simp [intOf]; omega
    · have h5 : ¬ (k : Int) < (n : Int) := by omega
      have hkn : k = n := by omega
      have ho := HW.out
      rw [hkn, List.drop_of_length_le (by rw [HN.out]; exact Nat.le_refl _), List.append_nil] at ho
      have HOE := Lib.hid ho
      have hz2 : z = 1 + 2 * (n : Int) := by rw [← hz, hkn]
      have HZ2 := Lib.hid hz2
      clear ho hkn hz hz2
      go_wp2
      go_ret
      refine ⟨?_, HOE.out, HG.out⟩
      rw [← HZ2.out]
      rfl

set_option maxHeartbeats 4000000 in
theorem held_spans (A : Option Addr) (cap n : Nat) (w : World) (h : SpA w A (mks n)) (hl : n ≤ 33554432) :
    Calls Try.prog 34 #[.slice A n cap, .int .i64 1] w fun e w' => e = .returned (.int .i64 (1 + 2 * (n : Int))) ∧ w = w' := by
  have H := Lib.hid h
  clear h
  go_enter Try.func34, Try.ntmps34
  go_wp2
  go_loop [1, 5] (fun m i => ∃ k : Nat, k ≤ n ∧ m = .int .i64 (1 + 2 * (k : Int)) ∧ i = .int .i64 (k : Int)) (fun _ i => n - (intOf i).toNat)
  case atStart => exact ⟨0, Nat.zero_le _, by go_num, by go_num⟩
  case round =>
    obtain ⟨k, hk, rfl, rfl⟩ := hrel
    obtain ⟨z, hz⟩ : ∃ z : Int, 1 + 2 * (k : Int) = z := ⟨_, rfl⟩
    have HZ := Lib.hid hz
    rw [hz]
    by_cases hlt : k < n
    · have h0 : (0 : Int) ≤ (k : Int) := by omega
      have h5 : (k : Int) < (n : Int) := by omega
      have z0 : 0 ≤ z := by omega
      have z1 : z ≤ 100000000 := by omega
      have W1 : IntKind.i64.wrap (z + 1) = z + 1 := IntWalk.i64_in _ (by omega)
      have W2 : IntKind.i64.wrap (z + 1 + 1) = z + 1 + 1 := IntWalk.i64_in _ (by omega)
      have hx := mks_at hlt
      rw [hz] at hx
      obtain ⟨b, o, rfl, hbz, c1, c2⟩ := H.out k _ hx
      clear hx hz
      go_wp2
      go_round
      case rel =>
        refine ⟨k + 1, by omega, ?_, by go_num⟩
        have := HZ.out
        congr 1
        omega
      case measure => simp [intOf]; omega
    · have h5 : ¬ (k : Int) < (n : Int) := by omega
      have hz2 : z = 1 + 2 * (n : Int) := by rw [← hz, show k = n by omega]
      have HZ2 := Lib.hid hz2
      clear hz hz2
      go_wp2
      go_ret
      refine ⟨?_, rfl⟩
      rw [← HZ2.out]
      rfl

set_option maxHeartbeats 4000000 in
theorem mark_ints (A : Option Addr) (cap n B : Nat) (l : List Nat) (w : World) (hn : l.length = n) (h : OwnI w B (.slice A n cap) l) (hl : n ≤ 33554432) :
    Calls Try.prog 36 #[.slice A n cap, .int .i64 1] w fun e w' => e = .returned (.int .i64 (1 + (n : Int))) ∧ OwnI w' B (.slice A n cap) (mki n) ∧ w.grownBy w' (Value.slice A n cap).ownBlock := by
  have HN := Lib.hid hn
  have HO := Lib.hid h
  clear h hn
  go_enter Try.func36, Try.ntmps36
  go_wp2
  go_loopw [1, 5] (fun m i wr => ∃ k z : Nat, k ≤ n ∧ z = 1 + k ∧ m = .int .i64 (z : Int) ∧ i = .int .i64 (k : Int) ∧ Hid (w.grownBy wr (Value.slice A n cap).ownBlock) ∧ Hid (OwnI wr B (.slice A n cap) (mki k ++ l.drop k))) (fun _ i _ => n - (intOf i).toNat)
  case atStart => exact ⟨0, 1, Nat.zero_le _, rfl, by go_num, by go_num, gr_refl _ _, HO.out⟩
  case round =>
    obtain ⟨k, z, hk, hz, rfl, rfl, HG, HW⟩ := hrel
    have HZ := Lib.hid hz
    by_cases hlt : k < n
    · have h0 : (0 : Int) ≤ (k : Int) := by omega
      have h5 : (k : Int) < (n : Int) := by omega
      have z1 : z ≤ 100000000 := by omega
      obtain ⟨g, rfl⟩ := own_split HW.out.row'.2 (by omega)
      obtain ⟨y, hy⟩ := mid_some (mki_len k) (L := l) (by rw [HN.out]; exact hlt)
      have d1 := HW.out.cells hy
      have d3 := World.ownsRow.frozenAt HW.out.row'.2 k
      have HST := Lib.hid (HW.out.stored k z)
      clear hy hz
      go_wp2
      go_roundw
      case rel =>
        refine ⟨k + 1, z + 1, by omega, by have := HZ.out; omega, by go_num, by go_num, gr_trans HG.out HST.out.2, ?_⟩
        have h1 := HST.out.1
        rw [set_mid _ (mki_len k) (by rw [HN.out]; exact hlt)] at h1
        rw [mki_succ, ← HZ.out]
        exact h1
      case measure => simp [intOf]; omega
    · have h5 : ¬ (k : Int) < (n : Int) := by omega
      have hkn : k = n := by omega
      have ho := HW.out
      rw [hkn, List.drop_of_length_le (by rw [HN.out]; exact Nat.le_refl _), List.append_nil] at ho
      have HOE := Lib.hid ho
      have HZ2 := Lib.hid (show (z : Int) = 1 + (n : Int) by omega)
      clear ho hkn hz
      go_wp2
      go_ret
      refine ⟨?_, HOE.out, HG.out⟩
      rw [← HZ2.out]
      rfl

set_option maxHeartbeats 4000000 in
theorem held_ints (A : Option Addr) (cap n : Nat) (w : World) (h : IntA w A (mki n)) (hl : n ≤ 33554432) :
    Calls Try.prog 37 #[.slice A n cap, .int .i64 1] w fun e w' => e = .returned (.int .i64 (1 + (n : Int))) ∧ w = w' := by
  have H := Lib.hid h
  clear h
  go_enter Try.func37, Try.ntmps37
  go_wp2
  go_loop [1, 5] (fun m i => ∃ k z : Nat, k ≤ n ∧ z = 1 + k ∧ m = .int .i64 (z : Int) ∧ i = .int .i64 (k : Int)) (fun _ i => n - (intOf i).toNat)
  case atStart => exact ⟨0, 1, Nat.zero_le _, rfl, by go_num, by go_num⟩
  case round =>
    obtain ⟨k, z, hk, hz, rfl, rfl⟩ := hrel
    have HZ := Lib.hid hz
    by_cases hlt : k < n
    · have h0 : (0 : Int) ≤ (k : Int) := by omega
      have h5 : (k : Int) < (n : Int) := by omega
      have z1 : z ≤ 100000000 := by omega
      have hx := mki_at hlt
      rw [← hz] at hx
      obtain ⟨b, o, rfl, hbz, c1⟩ := H.out k _ hx
      have hne : ((z : Int) != (z : Int)) = false := by simp
      clear hx hz
      go_wp2
      go_round
      case rel => exact ⟨k + 1, z + 1, by omega, by have := HZ.out; omega, by go_num, by go_num⟩
      case measure => simp [intOf]; omega
    · have h5 : ¬ (k : Int) < (n : Int) := by omega
      have HZ2 := Lib.hid (show (z : Int) = 1 + (n : Int) by omega)
      clear hz
      go_wp2
      go_ret
      refine ⟨?_, rfl⟩
      rw [← HZ2.out]
      rfl
end Go.Proofs.Ytmhpmdibhpcjpaa
