/-
  My texts Hm, Hc, Hd, He, Hf, Hg, Hh, Hi, Tsp, Tshl, Tsh, Lat, Ta, Tb, Tc, Ya in one, so that a claim holds fewer files. Conditions: each contract's own.
-/
import Derived.Test.YtinbdibenbplnaaQc
import Derived.KernelRfl
import Derived.BigQuiet
import Derived.BigRegion
import Derived.Lib.Hide
import Derived.Deep.DeepCutAuto
import Derived.WalkSmall
import Derived.Deep.RegionLaw
import Derived.Shelf.Strings.Split
import Derived.Shelf.Slices.Turned
import Derived.Ground.Names2Prog
import Derived.Shelf.Slices.Clone
import Derived.Test.YtinbdibenbplnaaProg
import Derived.Deep.RegionHeld3
import Derived.OwnWalk
import Derived.Laws.OwnMore
import Derived.Deep.Slices
import Derived.ChangeArms
import Derived.Lib.SmallJoins
namespace Go.Proofs.Ytinbdibenbplnaa
set_option linter.unusedVariables false

/-- The number at a place. -/
def hat (H : List Int) (i : Nat) : Int := H.getD i 0
/-- Two numbers change places. -/
def hsw (H : List Int) (i j : Nat) : List Int := (H.set i (hat H j)).set j (hat H i)
theorem hsw_len (H : List Int) (i j : Nat) : (hsw H i j).length = H.length := by unfold hsw; simp
theorem hat_set {H : List Int} {i k : Nat} {v : Int} (hi : i < H.length) : hat (H.set i v) k = if k = i then v else hat H k := by
  unfold hat
  rw [List.getD_eq_getElem?_getD, List.getD_eq_getElem?_getD, List.getElem?_set]
  by_cases h : i = k
  · subst h
    rw [if_pos rfl, if_pos hi, if_pos rfl]
    rfl
  · rw [if_neg h, if_neg (fun e => h e.symm)]
theorem hat_sw {H : List Int} {i j k : Nat} (hi : i < H.length) (hj : j < H.length) : hat (hsw H i j) k = if k = j then hat H i else if k = i then hat H j else hat H k := by
  unfold hsw
  rw [hat_set (by rw [List.length_set]; exact hj), hat_set hi]
theorem hat_some {H : List Int} {i : Nat} (hi : i < H.length) : H[i]? = some (hat H i) := by
  unfold hat
  rw [List.getD_eq_getElem?_getD, List.getElem?_eq_getElem hi]
  rfl
theorem list_ext_hat {H K : List Int} (hl : H.length = K.length) (h : ∀ i, i < H.length → hat H i = hat K i) : H = K := by
  apply List.ext_getElem? 
  intro i
  by_cases hi : i < H.length
  · rw [hat_some hi, hat_some (hl ▸ hi), h i hi]
  · rw [List.getElem?_eq_none (by omega), List.getElem?_eq_none (by omega)]
theorem hsw_perm {H : List Int} {i j : Nat} (hi : i < H.length) (hj : j < H.length) : (hsw H i j).Perm H := by
  have h1 := Array.swap_perm (xs := H.toArray) (i := i) (j := j) (by simpa using hi) (by simpa using hj)
  have h2 := h1.toList
  rw [Array.toList_swap] at h2
  have e : hsw H i j = (H.toArray.toList.set i (H.toArray)[j]).set j (H.toArray)[i] := by
    unfold hsw hat
    rw [List.getD_eq_getElem?_getD, List.getD_eq_getElem?_getD, List.getElem?_eq_getElem hi, List.getElem?_eq_getElem hj]
    simp
  rw [e]
  exact h2
/-- Up to 'n', each number is at least its parent's. -/
def HeapTo (H : List Int) (n : Nat) : Prop := ∀ k, 0 < k → k < n → hat H ((k - 1) / 2) ≤ hat H k
/-- .. but for the number at 'j', which may be too small. -/
def UpI (H : List Int) (n j : Nat) : Prop := (∀ k, 0 < k → k < n → k ≠ j → hat H ((k - 1) / 2) ≤ hat H k) ∧ (0 < j → ∀ k, 0 < k → k < n → (k - 1) / 2 = j → hat H ((j - 1) / 2) ≤ hat H k)
theorem up_end {H : List Int} {n j : Nat} (h : UpI H n j) (he : j = 0 ∨ ¬ hat H j < hat H ((j - 1) / 2)) : HeapTo H n := fun k h0 hk => by
  by_cases hkj : k = j
  · subst hkj
    rcases he with he | he
    · omega
    · omega
  · exact h.1 k h0 hk hkj
theorem up_step {H : List Int} {n j : Nat} (hn : n ≤ H.length) (hj : j < n) (h : UpI H n j) (h0 : 0 < j) (hlt : hat H j < hat H ((j - 1) / 2)) : UpI (hsw H ((j - 1) / 2) j) n ((j - 1) / 2) := by
  have hi : (j - 1) / 2 < j := by omega
  have hil : (j - 1) / 2 < H.length := by omega
  have hjl : j < H.length := by omega
  refine ⟨fun k k0 hk hne => ?_, fun i0 k k0 hk hp => ?_⟩
  · rw [hat_sw hil hjl, hat_sw hil hjl]
    by_cases hkj : k = j
    · subst hkj
      rw [if_pos rfl, if_neg (by omega), if_pos rfl]
      omega
    · rw [if_neg hkj, if_neg hne]
      by_cases hpj : (k - 1) / 2 = j
      · rw [if_pos hpj]
        exact h.2 h0 k k0 hk hpj
      · rw [if_neg hpj]
        by_cases hpi : (k - 1) / 2 = (j - 1) / 2
        · rw [if_pos hpi]
          have := h.1 k k0 hk hkj
          rw [hpi] at this
          omega
        · rw [if_neg hpi]
          exact h.1 k k0 hk hkj
  · have hpp : ((j - 1) / 2 - 1) / 2 < (j - 1) / 2 := by omega
    rw [hat_sw hil hjl, hat_sw hil hjl, if_neg (by omega), if_neg (by omega)]
    have h1 := h.1 ((j - 1) / 2) i0 (by omega) (by omega)
    by_cases hkj : k = j
    · rw [if_pos hkj]
      exact h1
    · rw [if_neg hkj, if_neg (by omega)]
      have := h.1 k k0 hk hkj
      rw [hp] at this
      omega
/-- Up to 'n', each number is at least its parent's, but for the children of 'i', and for 'i' itself where nothing has moved yet. -/
def DnI (H : List Int) (n i0 i : Nat) : Prop :=
  (∀ k, 0 < k → k < n → (k - 1) / 2 ≠ i → k ≠ i → hat H ((k - 1) / 2) ≤ hat H k) ∧ (0 < i → ∀ k, 0 < k → k < n → (k - 1) / 2 = i → hat H ((i - 1) / 2) ≤ hat H k) ∧ (i ≠ i0 → 0 < i → hat H ((i - 1) / 2) ≤ hat H i)
/-- 'j' is the child of 'i' with the smaller number. -/
def Least (H : List Int) (n i j : Nat) : Prop := j < n ∧ (j - 1) / 2 = i ∧ 0 < j ∧ ∀ k, 0 < k → k < n → (k - 1) / 2 = i → hat H j ≤ hat H k
theorem dn_step {H : List Int} {n i0 i j : Nat} (hn : n ≤ H.length) (h : DnI H n i0 i) (hl : Least H n i j) (hlt : hat H j < hat H i) : DnI (hsw H i j) n i0 j := by
  obtain ⟨hj, hp, h0, hmin⟩ := hl
  have hij : i < j := by omega
  have hil : i < H.length := by omega
  have hjl : j < H.length := by omega
  refine ⟨fun k k0 hk hpk hkj => ?_, fun _ k k0 hk hpk => ?_, fun _ _ => ?_⟩
  · rw [hat_sw hil hjl, hat_sw hil hjl, if_neg hpk, if_neg hkj]
    by_cases hki : k = i
    · subst hki
      rw [if_neg (by omega), if_pos rfl]
      exact h.2.1 k0 j h0 hj hp
    · rw [if_neg hki]
      by_cases hpi : (k - 1) / 2 = i
      · rw [if_pos hpi]
        exact hmin k k0 hk hpi
      · rw [if_neg hpi]
        exact h.1 k k0 hk hpi hki
  · rw [hat_sw hil hjl, hat_sw hil hjl, hp, if_neg (by omega), if_pos rfl, if_neg (by omega), if_neg (by omega)]
    have := h.1 k k0 hk (by omega) (by omega)
    rw [hpk] at this
    exact this
  · rw [hat_sw hil hjl, hat_sw hil hjl, hp, if_neg (by omega), if_pos rfl, if_pos rfl]
    omega
/-- Nothing below 'i' is smaller. -/
theorem dn_end {H : List Int} {n i0 i : Nat} (h : DnI H n i0 i) (he : ∀ k, 0 < k → k < n → (k - 1) / 2 = i → hat H i ≤ hat H k) : (i ≠ i0 → HeapTo H n) ∧ (i = i0 → UpI H n i0) := by
  refine ⟨fun hi k k0 hk => ?_, fun hi => ⟨fun k k0 hk hne => ?_, fun i0' k k0 hk hp => ?_⟩⟩
  · by_cases hki : k = i
    · subst hki
      exact h.2.2 hi k0
    · by_cases hpi : (k - 1) / 2 = i
      · rw [hpi]; exact he k k0 hk hpi
      · exact h.1 k k0 hk hpi hki
  · subst hi
    by_cases hpi : (k - 1) / 2 = i
    · rw [hpi]; exact he k k0 hk hpi
    · exact h.1 k k0 hk hpi hne
  · subst hi
    exact h.2.1 i0' k k0 hk hp
theorem up0_heap {H : List Int} {n : Nat} (h : UpI H n 0) : HeapTo H n := up_end h (.inl rfl)
theorem least_end {H : List Int} {n i j : Nat} (hl : Least H n i j) (hlt : ¬ hat H j < hat H i) : ∀ k, 0 < k → k < n → (k - 1) / 2 = i → hat H i ≤ hat H k := fun k k0 hk hp => by
  have := hl.2.2.2 k k0 hk hp
  omega
theorem none_end {H : List Int} {n i : Nat} (h : n ≤ 2 * i + 1) : ∀ k, 0 < k → k < n → (k - 1) / 2 = i → hat H i ≤ hat H k := fun k k0 hk hp => by omega
theorem least_one {H : List Int} {n i : Nat} (h1 : 2 * i + 1 < n) (h2 : ¬ 2 * i + 2 < n) : Least H n i (2 * i + 1) := ⟨h1, by omega, by omega, fun k k0 hk hp => by
  obtain rfl : k = 2 * i + 1 := by omega
  exact Int.le_refl _⟩
theorem least_left {H : List Int} {n i : Nat} (h2 : 2 * i + 2 < n) (hlt : ¬ hat H (2 * i + 2) < hat H (2 * i + 1)) : Least H n i (2 * i + 1) := ⟨by omega, by omega, by omega, fun k k0 hk hp => by
  rcases (show k = 2 * i + 1 ∨ k = 2 * i + 2 by omega) with rfl | rfl <;> omega⟩
theorem least_right {H : List Int} {n i : Nat} (h2 : 2 * i + 2 < n) (hlt : hat H (2 * i + 2) < hat H (2 * i + 1)) : Least H n i (2 * i + 2) := ⟨by omega, by omega, by omega, fun k k0 hk hp => by
  rcases (show k = 2 * i + 1 ∨ k = 2 * i + 2 by omega) with rfl | rfl <;> omega⟩
/-- The first number of a heap is the least. -/
theorem heap_min {H : List Int} {n : Nat} (h : HeapTo H n) : ∀ k, k < n → hat H 0 ≤ hat H k := by
  intro k
  induction k using Nat.strongRecOn with
  | ind k ih =>
    intro hk
    by_cases h0 : k = 0
    · subst h0; exact Int.le_refl _
    · have h1 := h k (by omega) hk
      have h2 := ih ((k - 1) / 2) (by omega) (by omega)
      omega
/-- A new last number. -/
theorem up_push {H : List Int} {x : Int} (h : HeapTo H H.length) : UpI (H ++ [x]) (H.length + 1) H.length := by
  have e : ∀ k, k < H.length → hat (H ++ [x]) k = hat H k := fun k hk => by
    unfold hat
    rw [List.getD_eq_getElem?_getD, List.getD_eq_getElem?_getD, List.getElem?_append_left hk]
  refine ⟨fun k k0 hk hne => ?_, fun _ k k0 hk hp => by omega⟩
  rw [e _ (by omega), e _ (by omega)]
  exact h k k0 (by omega)
/-- The first and the last change places. -/
theorem dn_pop {H : List Int} {n : Nat} (hn : H.length = n + 1) (h : HeapTo H (n + 1)) : DnI (hsw H 0 n) n 0 0 := by
  refine ⟨fun k k0 hk hp hk0 => ?_, fun h0 => absurd h0 (by omega), fun h0 => absurd rfl h0⟩
  rw [hat_sw (by omega) (by omega), hat_sw (by omega) (by omega), if_neg (by omega), if_neg hp, if_neg (by omega), if_neg hk0]
  exact h k k0 (by omega)
/-- Some number and the last change places. -/
theorem dn_remove {H : List Int} {n i : Nat} (hn : H.length = n + 1) (hi : i < n) (h : HeapTo H (n + 1)) : DnI (hsw H i n) n i i := by
  refine ⟨fun k k0 hk hp hki => ?_, fun h0 k k0 hk hp => ?_, fun h0 => absurd rfl h0⟩
  · rw [hat_sw (by omega) (by omega), hat_sw (by omega) (by omega), if_neg (by omega), if_neg hp, if_neg (by omega), if_neg hki]
    exact h k k0 (by omega)
  · rw [hat_sw (by omega) (by omega), hat_sw (by omega) (by omega), if_neg (by omega), if_neg (by omega), if_neg (by omega), if_neg (by omega)]
    have h1 := h k k0 (by omega)
    have h2 := h i h0 (by omega)
    rw [hp] at h1
    omega
/-- What the last number leaves. -/
theorem heap_take {H : List Int} {n : Nat} (hn : n ≤ H.length) (h : HeapTo H n) : HeapTo (H.take n) (H.take n).length := by
  have hl : (H.take n).length = n := by rw [List.length_take]; omega
  have e : ∀ k, k < n → hat (H.take n) k = hat H k := fun k hk => by
    unfold hat
    rw [List.getD_eq_getElem?_getD, List.getD_eq_getElem?_getD, List.getElem?_take_of_lt hk]
  intro k k0 hk
  rw [hl] at hk
  rw [e _ (by omega), e _ hk]
  exact h k k0 hk
end Go.Proofs.Ytinbdibenbplnaa
namespace Go.Proofs.Ytinbdibenbplnaa
open Go.RowKit
set_option linter.unusedVariables false

def iR : RowT Int where
  t := 3
  sz := 1
  enc := fun g => [.int .i64 g]
  len := fun _ => rfl
  one := fun x u hu => by
    simp at hu
    subst hu
    rfl
/-- A heap's slice lies in the variable at 'a', its numbers in a block of the call's own. -/
def HP (w : World) (a : Addr) (B : Nat) (v : Value) (H : List Int) : Prop := w.cell? a = some v ∧ ROwn iR w B v H ∧ v.ownBlock ≠ some a.block ∧ w.frozen? a = false
section
set_option maxRecDepth 20000
theorem fuel_eq : Try.prog.types.size + 100 = 249 := by kernel_rfl
theorem mf_push (a : Addr) (w : World) : (method 249 103 (.pointer (some a)) "Push").run Try.prog w = .ok (118, .pointer (some a)) w := by kernel_rfl
theorem mf_pop (a : Addr) (w : World) : (method 249 103 (.pointer (some a)) "Pop").run Try.prog w = .ok (117, .pointer (some a)) w := by kernel_rfl
theorem mf_len0 (a : Addr) (w : World) : (method (Try.prog.types.size + 100) 103 (.pointer (some a)) "Len").run Try.prog w = ((loadVar 98 a).bind fun v => .pure (114, v)).run Try.prog w := by kernel_rfl
theorem mf_less0 (a : Addr) (w : World) : (method (Try.prog.types.size + 100) 103 (.pointer (some a)) "Less").run Try.prog w = ((loadVar 98 a).bind fun v => .pure (115, v)).run Try.prog w := by kernel_rfl
theorem mf_swap0 (a : Addr) (w : World) : (method (Try.prog.types.size + 100) 103 (.pointer (some a)) "Swap").run Try.prog w = ((loadVar 98 a).bind fun v => .pure (116, v)).run Try.prog w := by kernel_rfl
theorem load_heap (a : Addr) (v : Value) (w : World) (hc : w.cell? a = some v) {β : Type} (k : Value → Sem β) : ((loadVar 98 a).bind k).run Try.prog w = (k v).run Try.prog w := by
  have h1 : (loadVar 98 a).run Try.prog w = .ok v w := by simp [loadVar, go_sem, hc]
  show ((loadVar 98 a) >>= k).run Try.prog w = _
  rw [Sem.run_bind, h1]
  rfl
theorem mf_len {a : Addr} {v : Value} {w : World} (hc : w.cell? a = some v) : (method 249 103 (.pointer (some a)) "Len").run Try.prog w = .ok (114, v) w := by rw [← fuel_eq, mf_len0, load_heap a v w hc]; rfl
theorem mf_less {a : Addr} {v : Value} {w : World} (hc : w.cell? a = some v) : (method 249 103 (.pointer (some a)) "Less").run Try.prog w = .ok (115, v) w := by rw [← fuel_eq, mf_less0, load_heap a v w hc]; rfl
theorem mf_swap {a : Addr} {v : Value} {w : World} (hc : w.cell? a = some v) : (method 249 103 (.pointer (some a)) "Swap").run Try.prog w = .ok (116, v) w := by rw [← fuel_eq, mf_swap0, load_heap a v w hc]; rfl
end
theorem iown_cell {w : World} {B n cap i : Nat} {A : Option Addr} {H : List Int} (h : ROwn iR w B (.slice A n cap) H) (hi : i < H.length) : ∃ g, A = some ⟨g, 0, none⟩ ∧ w.cell? ⟨g, i, none⟩ = some (.int .i64 (hat H i)) ∧ w.frozen? ⟨g, i, none⟩ = false := by
  obtain ⟨b, o, hA, hb, h1⟩ := h.at i _ (hat_some hi)
  have hf := h.form
  obtain ⟨A', c', he, _, _, _, h2, _⟩ := hf
  cases he
  obtain ⟨rfl, _, _⟩ := h2 b o hA
  have h3 := h1 0 _ rfl
  simp only [iR, Nat.mul_one, Nat.zero_add, Nat.add_zero] at h3
  subst hA
  exact ⟨b, rfl, h3, h.free i⟩
set_option maxHeartbeats 1000000 in
theorem heap_len (A : Option Addr) (n cap : Nat) (w : World) : Calls Try.prog 114 #[.slice A n cap] w fun e w' => e = .returned (.int .i64 (n : Int)) ∧ w' = w := by
  go_enter Try.func114, Try.ntmps114
  go_wp2
  go_ret
  exact ⟨rfl, rfl⟩
set_option maxRecDepth 20000 in
set_option maxHeartbeats 2000000 in
theorem heap_less {B n cap i j : Nat} {A : Option Addr} {H : List Int} {z : Bool} (w : World) (h : ROwn iR w B (.slice A n cap) H) (hi : i < H.length) (hj : j < H.length) (hz : decide (hat H i < hat H j) = z) : Calls Try.prog 115 #[.slice A n cap, .int .i64 (i : Int), .int .i64 (j : Int)] w fun e w' => e = .returned (.bool z) ∧ ∃ m, w' = w.drewN m := by
  obtain ⟨g, rfl, c0, _⟩ := iown_cell h hi
  obtain ⟨g', hg, d0, _⟩ := iown_cell h hj
  cases hg
  have hn := h.len.1
  have HZ := Lib.hid hz
  have i0 : (0 : Int) ≤ (i : Int) := by omega
  have i1 : (i : Int) < (n : Int) := by omega
  have j0 : (0 : Int) ≤ (j : Int) := by omega
  have j1 : (j : Int) < (n : Int) := by omega
  clear h hz hn
  go_enter Try.func115, Try.ntmps115
  go_wp2
  go_quiet (fail)
  go_wp2
  go_ret
  exact ⟨ret_bl HZ.out, _, rfl⟩
theorem hsw_own {w : World} {B n cap g i j : Nat} {H : List Int} (h : ROwn iR w B (.slice (some ⟨g, 0, none⟩) n cap) H) (hi : i < H.length) (hj : j < H.length) :
    ROwn iR ((w.setCell ⟨g, i, none⟩ (.int .i64 (hat H j))).setCell ⟨g, j, none⟩ (.int .i64 (hat H i))) B (.slice (some ⟨g, 0, none⟩) n cap) (hsw H i j) ∧ w.grownBy ((w.setCell ⟨g, i, none⟩ (.int .i64 (hat H j))).setCell ⟨g, j, none⟩ (.int .i64 (hat H i))) (some g) := by
  obtain ⟨h1, g1⟩ := h.stored (k := i) (y := hat H j) (j := 0) (u := .int .i64 (hat H j)) (hat_some hi) (by decide) rfl
  have hj2 : (H.set i (hat H j))[j]? = some (hat (H.set i (hat H j)) j) := hat_some (by rw [List.length_set]; exact hj)
  obtain ⟨h2, g2⟩ := h1.stored (k := j) (y := hat H i) (j := 0) (u := .int .i64 (hat H i)) hj2 (by decide) rfl
  simp only [iR, Nat.mul_one, Nat.add_zero] at h2 g1 g2
  exact ⟨h2, gr_trans g1 g2⟩
set_option maxRecDepth 20000 in
set_option maxHeartbeats 4000000 in
theorem heap_swap {B n cap i j : Nat} {A : Option Addr} {H : List Int} (w : World) (h : ROwn iR w B (.slice A n cap) H) (hi : i < H.length) (hj : j < H.length) : Calls Try.prog 116 #[.slice A n cap, .int .i64 (i : Int), .int .i64 (j : Int)] w fun e w' => e = .returned (.tuple #[]) ∧ ROwn iR w' B (.slice A n cap) (hsw H i j) ∧ w.grownBy w' (Value.slice A n cap).ownBlock := by
  obtain ⟨g, rfl, c0, f0⟩ := iown_cell h hi
  obtain ⟨g', hg, d0, f1⟩ := iown_cell h hj
  cases hg
  have hn := h.len.1
  have i0 : (0 : Int) ≤ (i : Int) := by omega
  have i1 : (i : Int) < (n : Int) := by omega
  have j0 : (0 : Int) ≤ (j : Int) := by omega
  have j1 : (j : Int) < (n : Int) := by omega
  have ho := hsw_own h hi hj
  obtain ⟨h1, g1⟩ := h.stored (k := i) (y := hat H j) (j := 0) (u := .int .i64 (hat H j)) (hat_some hi) (by decide) rfl
  simp only [iR, Nat.mul_one, Nat.add_zero] at h1
  obtain ⟨g2, hg2, d1, f2⟩ := iown_cell h1 (i := j) (by rw [List.length_set]; exact hj)
  cases hg2
  have HO : Hid (ROwn iR ((w.setCell ⟨g, i, none⟩ (.int .i64 (hat H j))).setCell ⟨g, j, none⟩ (.int .i64 (hat H i))).drew B (.slice (some ⟨g, 0, none⟩) n cap) (hsw H i j) ∧ w.grownBy ((w.setCell ⟨g, i, none⟩ (.int .i64 (hat H j))).setCell ⟨g, j, none⟩ (.int .i64 (hat H i))).drew (some g)) := Lib.hid ⟨ho.1.drewN 1, gr_drew ho.2⟩
  clear h1 g1 ho
  clear h hn
  go_enter Try.func116, Try.ntmps116
  go_wp2
  go_region
  all_goals
    go_wp2
    refine bodyPost_end (v := .tuple #[]) (by simp [results, Try.results116]) rfl ?_
    exact ⟨rfl, HO.out⟩
end Go.Proofs.Ytinbdibenbplnaa
namespace Go.Proofs.Ytinbdibenbplnaa
open Go.RowKit
set_option linter.unusedVariables false

section
variable {w w' : World} {a : Addr} {B : Nat} {v : Value} {H : List Int}
theorem HP.drewN (h : HP w a B v H) (m : Nat) : HP (w.drewN m) a B v H := ⟨h.1, h.2.1.drewN m, h.2.2.1, h.2.2.2⟩
theorem HP.form (h : HP w a B v H) : ∃ A cap, v = .slice A H.length cap := by
  obtain ⟨A, cap, he, _⟩ := h.2.1.form
  exact ⟨A, cap, he⟩
/-- What only the heap's own block has turned. -/
theorem HP.move {A : Option Addr} {n cap : Nat} {K : List Int} (h : HP w a B (.slice A n cap) H) (ho : ROwn iR w' B (.slice A n cap) K) (hg : w.grownBy w' (Value.slice A n cap).ownBlock) : HP w' a B (.slice A n cap) K :=
  ⟨(World.cell?_of_block (hg.block a.block (block_lt_of_cell h.1) (fun e => h.2.2.1 e.symm))).trans h.1, ho, h.2.2.1, by
    have hb := hg.block a.block (block_lt_of_cell h.1) (fun e => h.2.2.1 e.symm)
    have hf := h.2.2.2
    unfold World.frozen? at hf ⊢
    rw [hb]
    exact hf⟩
end
set_option maxRecDepth 20000 in
set_option maxHeartbeats 8000000 in
theorem heap_up {a : Addr} {B : Nat} {v : Value} {H : List Int} {n j : Nat} (w : World) (h : HP w a B v H) (hj : j < n) (hn : n ≤ H.length) (hl : H.length ≤ 100000) (hi : UpI H n j) :
    Calls Try.prog 97 #[.iface 103 (.pointer (some a)), .int .i64 (j : Int)] w fun e w' => ∃ H', e = .returned (.tuple #[]) ∧ H'.Perm H ∧ HeapTo H' n ∧ (∀ k, n ≤ k → hat H' k = hat H k) ∧ HP w' a B v H' ∧ w.grownBy w' v.ownBlock := by
  have HH := Lib.hid h
  have HI := Lib.hid hi
  have HL := Lib.hid hl
  have HN := Lib.hid hn
  clear h hi
  obtain ⟨A, cap, rfl⟩ := HH.out.form
  obtain ⟨len, hlen⟩ : ∃ n, H.length = n := ⟨_, rfl⟩
  have HLN := Lib.hid hlen
  rw [hlen] at HH hn hl ⊢
  clear hlen
  go_enter Try.func97, Try.ntmps97
  go_wp2
  go_loopw [1] (fun jv wr => ∃ (H' : List Int) (k : Nat), jv = .int .i64 (k : Int) ∧ k < n ∧ Hid (UpI H' n k) ∧ Hid (H'.Perm H) ∧ Hid (∀ i, n ≤ i → hat H' i = hat H i) ∧ Hid (HP wr a B (.slice A len cap) H') ∧ Hid (w.grownBy wr (Value.slice A len cap).ownBlock)) (fun jv _ => (intOf jv).toNat)
  case atStart => exact ⟨H, j, rfl, hj, HI.out, List.Perm.refl _, fun i hi => rfl, HH, gr_refl _ _⟩
  case round =>
    obtain ⟨H', k, rfl, hk, HU, HPM, HT, HW, HG⟩ := hrel
    have hl' : H'.length = len := HPM.out.length_eq.trans HLN.out
    have HLP := Lib.hid hl'
    by_cases h0 : k = 0
    · subst h0
      go_wp2
      refine bodyPost_end (v := .tuple #[]) (by simp [results, Try.results97]) rfl ?_
      exact ⟨H', rfl, HPM.out, up_end HU.out (.inl rfl), HT.out, HW.out, HG.out⟩
    · obtain ⟨p, hp⟩ : ∃ p, (k - 1) / 2 = p := ⟨_, rfl⟩
      have HP0 := Lib.hid hp
      have HK0 : Hid (0 < k) := Lib.hid (by omega)
      have hpk : p < k := by omega
      have e1 : (k : Int) - 1 = ((k - 1 : Nat) : Int) := by omega
      have e2 : ((k - 1 : Nat) : Int).tdiv 2 = (p : Int) := by rw [Int.tdiv_eq_ediv_of_nonneg (by omega)]; omega
      have e3 : ((p : Int) == (k : Int)) = false := beq_eq_false_iff_ne.2 (by omega)
      have HKL : Hid (k < H'.length) := Lib.hid (by omega)
      have HPL : Hid (p < H'.length) := Lib.hid (by omega)
      have m1 := mf_less HW.out.1
      clear hp h0 hl'
      cases hz : decide (hat H' k < hat H' p) with
      | false =>
        have HZ := Lib.hid hz
        clear hz
        go_wp2_with fail
        refine (heap_less wr HW.out.2.1 HKL.out HPL.out HZ.out).mono ?_
        rintro e w2 ⟨rfl, m, rfl⟩
        clear m1
        go_wp2
        refine bodyPost_end (v := .tuple #[]) (by simp [results, Try.results97]) rfl ?_
        exact ⟨H', rfl, HPM.out, up_end HU.out (.inr (by rw [HP0.out]; exact of_decide_eq_false HZ.out)), HT.out, HW.out.drewN m, gr_drewN HG.out m⟩
      | true =>
        have HZ := Lib.hid hz
        clear hz
        go_wp2_with fail
        refine (heap_less wr HW.out.2.1 HKL.out HPL.out HZ.out).mono ?_
        rintro e w2 ⟨rfl, m, rfl⟩
        clear m1
        have HWd := Lib.hid (HW.out.drewN m)
        have HGd := Lib.hid (gr_drewN HG.out m)
        obtain ⟨wd, hwd⟩ : ∃ wd, wr.drewN m = wd := ⟨_, rfl⟩
        rw [hwd] at HWd HGd
        have m2 := mf_swap HWd.out.1
        go_wp2_with fail
        try rw [hwd]
        refine (heap_swap wd HWd.out.2.1 HPL.out HKL.out).mono ?_
        rintro e w3 ⟨rfl, ho, hg⟩
        have HW3 := Lib.hid (HWd.out.move ho hg)
        have HG3 := Lib.hid (gr_trans HGd.out hg)
        have HU3 : Hid (UpI (hsw H' p k) n p) := Lib.hid (by have h := up_step (by rw [HLP.out]; have := HN.out; rw [HLN.out] at this; exact this) hk HU.out HK0.out (by rw [HP0.out]; exact of_decide_eq_true HZ.out); rw [HP0.out] at h; exact h)
        have HPM3 : Hid ((hsw H' p k).Perm H) := Lib.hid ((hsw_perm HPL.out HKL.out).trans HPM.out)
        have HT3 : Hid (∀ i, n ≤ i → hat (hsw H' p k) i = hat H i) := Lib.hid (fun i hi => by rw [hat_sw HPL.out HKL.out, if_neg (by omega), if_neg (by omega)]; exact HT.out i hi)
        clear ho hg m2
        go_wp2
        go_roundw
        case rel => exact ⟨hsw H' p k, p, rfl, by omega, HU3, HPM3, HT3, HW3, HG3⟩
        case measure => simp [intOf]; omega
end Go.Proofs.Ytinbdibenbplnaa
namespace Go.Proofs.Ytinbdibenbplnaa
open Go.RowKit
set_option linter.unusedVariables false

/-- What down leaves. -/
def DownPost (w : World) (a : Addr) (B : Nat) (v : Value) (H : List Int) (n i0 : Nat) (e : Ending) (w' : World) : Prop :=
  ∃ (H' : List Int) (moved : Bool), e = .returned (.bool moved) ∧ H'.Perm H ∧ (moved = true → HeapTo H' n) ∧ (moved = false → UpI H' n i0) ∧ (∀ k, n ≤ k → hat H' k = hat H k) ∧ HP w' a B v H' ∧ w.grownBy w' v.ownBlock
set_option maxRecDepth 20000 in
set_option maxHeartbeats 16000000 in
theorem heap_down {a : Addr} {B : Nat} {v : Value} {H : List Int} {n i0 : Nat} (w : World) (h : HP w a B v H) (hj : i0 ≤ n) (hn : n ≤ H.length) (hl : H.length ≤ 100000) (hi : DnI H n i0 i0) :
    Calls Try.prog 94 #[.iface 103 (.pointer (some a)), .int .i64 (i0 : Int), .int .i64 (n : Int)] w (DownPost w a B v H n i0) := by
  have HH := Lib.hid h
  have HI := Lib.hid hi
  have HN := Lib.hid hn
  clear h hi
  obtain ⟨A, cap, rfl⟩ := HH.out.form
  obtain ⟨len, hlen⟩ : ∃ n, H.length = n := ⟨_, rfl⟩
  have HLN := Lib.hid hlen
  rw [hlen] at HH hn hl HN ⊢
  clear hlen
  go_enter Try.func94, Try.ntmps94
  go_wp2
  go_loopw [7] (fun iv wr => ∃ (H' : List Int) (i : Nat), iv = .int .i64 (i : Int) ∧ i ≤ n ∧ i0 ≤ i ∧ Hid (DnI H' n i0 i) ∧ Hid (H'.Perm H) ∧ Hid (∀ k, n ≤ k → hat H' k = hat H k) ∧ Hid (HP wr a B (.slice A len cap) H') ∧ Hid (w.grownBy wr (Value.slice A len cap).ownBlock)) (fun iv _ => n - (intOf iv).toNat)
  case atStart => exact ⟨H, i0, rfl, hj, Nat.le_refl _, HI.out, List.Perm.refl _, fun i hi => rfl, HH, gr_refl _ _⟩
  case round =>
    obtain ⟨H', i, rfl, hin, hi0, HU, HPM, HT, HW, HG⟩ := hrel
    have hl' : H'.length = len := HPM.out.length_eq.trans HLN.out
    have HLP := Lib.hid hl'
    obtain ⟨j, hj1⟩ : ∃ j, 2 * i + 1 = j := ⟨_, rfl⟩
    obtain ⟨k, hk1⟩ : ∃ k, j + 1 = k := ⟨_, rfl⟩
    have HJ := Lib.hid hj1
    have HK := Lib.hid hk1
    have e1 : 2 * (i : Int) + 1 = (j : Int) := by omega
    have e2 : (j : Int) + 1 = (k : Int) := by omega
    have e3 : ¬ (j : Int) < 0 := by omega
    have eb : (decide ((i0 : Int) < (i : Int))) = decide (i0 < i) := by rw [decide_eq_decide]; omega
    have EB := Lib.hid eb
    have HI0 := Lib.hid hi0
    have w1 : IntKind.i64.wrap (2 * (i : Int)) = 2 * (i : Int) := IntWalk.i64_in _ (by omega)
    have w2 : IntKind.i64.wrap (j : Int) = (j : Int) := IntWalk.i64_in _ (by omega)
    have w3 : IntKind.i64.wrap (k : Int) = (k : Int) := IntWalk.i64_in _ (by omega)
    clear eb
    by_cases hjn : n ≤ j
    · have hjI : (n : Int) ≤ (j : Int) := by omega
      clear hj1 hk1
      go_wp2
      go_ret
      by_cases hmv : i0 < i
      · exact ⟨H', true, by show Ending.returned (.bool (decide (i0 < i))) = _; rw [decide_eq_true hmv], HPM.out, fun _ => (dn_end HU.out (none_end (by have := HJ.out; omega))).1 (by omega), fun h => (by cases h), HT.out, HW.out, HG.out⟩
      · exact ⟨H', false, by show Ending.returned (.bool (decide (i0 < i))) = _; rw [decide_eq_false hmv], HPM.out, fun h => (by cases h), fun _ => (dn_end HU.out (none_end (by have := HJ.out; omega))).2 (by have := HI0.out; omega), HT.out, HW.out, HG.out⟩
    · have hjI : ¬ (n : Int) ≤ (j : Int) := by omega
      have HJL : Hid (j < H'.length) := Lib.hid (by omega)
      have HIL : Hid (i < H'.length) := Lib.hid (by omega)
      by_cases hkn : k < n
      · have hkI : (k : Int) < (n : Int) := by omega
        have HKL : Hid (k < H'.length) := Lib.hid (by omega)
        have m1 := mf_less HW.out.1
        cases hz : decide (hat H' k < hat H' j) with
        | false =>
          have HZ := Lib.hid hz
          have HLE : Hid (Least H' n i j) := Lib.hid (by have h := least_left (H := H') (n := n) (i := i) (by omega) (by rw [show 2 * i + 2 = k by omega, show 2 * i + 1 = j by omega]; exact of_decide_eq_false hz); rw [show 2 * i + 1 = j by omega] at h; exact h)
          clear hz hj1 hk1
          go_wp2_with fail
          refine (heap_less wr HW.out.2.1 HKL.out HJL.out HZ.out).mono ?_
          rintro e w2 ⟨rfl, m, rfl⟩
          clear m1
          obtain ⟨wd, hwd⟩ : ∃ wd, wr.drewN m = wd := ⟨_, rfl⟩
          have HWd := Lib.hid (HW.out.drewN m)
          have HGd := Lib.hid (gr_drewN HG.out m)
          rw [hwd] at HWd HGd
          have m2 := mf_less HWd.out.1
          cases hy : decide (hat H' j < hat H' i) with
          | false =>
            have HY := Lib.hid hy
            clear hy
            go_wp2_with fail
            try rw [hwd]
            refine (heap_less wd HWd.out.2.1 HJL.out HIL.out HY.out).mono ?_
            rintro e w4 ⟨rfl, m4, rfl⟩
            clear m2
            go_wp2
            go_ret
            by_cases hmv : i0 < i
            · exact ⟨H', true, by show Ending.returned (.bool (decide (i0 < i))) = _; rw [decide_eq_true hmv], HPM.out, fun _ => (dn_end HU.out (least_end HLE.out (of_decide_eq_false HY.out))).1 (by omega), fun h => (by cases h), HT.out, HWd.out.drewN m4, gr_drewN HGd.out m4⟩
            · exact ⟨H', false, by show Ending.returned (.bool (decide (i0 < i))) = _; rw [decide_eq_false hmv], HPM.out, fun h => (by cases h), fun _ => (dn_end HU.out (least_end HLE.out (of_decide_eq_false HY.out))).2 (by have := HI0.out; omega), HT.out, HWd.out.drewN m4, gr_drewN HGd.out m4⟩
          | true =>
            have HY := Lib.hid hy
            clear hy
            go_wp2_with fail
            try rw [hwd]
            refine (heap_less wd HWd.out.2.1 HJL.out HIL.out HY.out).mono ?_
            rintro e w4 ⟨rfl, m4, rfl⟩
            clear m2
            obtain ⟨we, hwe⟩ : ∃ we, wd.drewN m4 = we := ⟨_, rfl⟩
            have HWe := Lib.hid (HWd.out.drewN m4)
            have HGe := Lib.hid (gr_drewN HGd.out m4)
            rw [hwe] at HWe HGe
            have m3 := mf_swap HWe.out.1
            go_wp2_with fail
            try rw [hwe]
            refine (heap_swap we HWe.out.2.1 HIL.out HJL.out).mono ?_
            rintro e w5 ⟨rfl, ho, hg⟩
            have HW5 := Lib.hid (HWe.out.move ho hg)
            have HG5 := Lib.hid (gr_trans HGe.out hg)
            have HU5 : Hid (DnI (hsw H' i j) n i0 j) := Lib.hid (dn_step (by rw [HLP.out]; exact HN.out) HU.out HLE.out (of_decide_eq_true HY.out))
            have HPM5 : Hid ((hsw H' i j).Perm H) := Lib.hid ((hsw_perm HIL.out HJL.out).trans HPM.out)
            have HT5 : Hid (∀ x, n ≤ x → hat (hsw H' i j) x = hat H x) := Lib.hid (fun x hx => by rw [hat_sw HIL.out HJL.out, if_neg (by omega), if_neg (by omega)]; exact HT.out x hx)
            have hci : i < j := by have := HJ.out; have := HK.out; omega
            have hcn : j < n := HLE.out.1
            clear ho hg m3
            go_wp2
            go_roundw
            case rel => exact ⟨hsw H' i j, j, rfl, by omega, by omega, HU5, HPM5, HT5, HW5, HG5⟩
            case measure => simp [intOf]; omega
        | true =>
          have HZ := Lib.hid hz
          have HLE : Hid (Least H' n i k) := Lib.hid (by have h := least_right (H := H') (n := n) (i := i) (by omega) (by rw [show 2 * i + 2 = k by omega, show 2 * i + 1 = j by omega]; exact of_decide_eq_true hz); rw [show 2 * i + 2 = k by omega] at h; exact h)
          clear hz hj1 hk1
          go_wp2_with fail
          refine (heap_less wr HW.out.2.1 HKL.out HJL.out HZ.out).mono ?_
          rintro e w2 ⟨rfl, m, rfl⟩
          clear m1
          obtain ⟨wd, hwd⟩ : ∃ wd, wr.drewN m = wd := ⟨_, rfl⟩
          have HWd := Lib.hid (HW.out.drewN m)
          have HGd := Lib.hid (gr_drewN HG.out m)
          rw [hwd] at HWd HGd
          have m2 := mf_less HWd.out.1
          cases hy : decide (hat H' k < hat H' i) with
          | false =>
            have HY := Lib.hid hy
            clear hy
            go_wp2_with fail
            try rw [hwd]
            refine (heap_less wd HWd.out.2.1 HKL.out HIL.out HY.out).mono ?_
            rintro e w4 ⟨rfl, m4, rfl⟩
            clear m2
            go_wp2
            go_ret
            by_cases hmv : i0 < i
            · exact ⟨H', true, by show Ending.returned (.bool (decide (i0 < i))) = _; rw [decide_eq_true hmv], HPM.out, fun _ => (dn_end HU.out (least_end HLE.out (of_decide_eq_false HY.out))).1 (by omega), fun h => (by cases h), HT.out, HWd.out.drewN m4, gr_drewN HGd.out m4⟩
            · exact ⟨H', false, by show Ending.returned (.bool (decide (i0 < i))) = _; rw [decide_eq_false hmv], HPM.out, fun h => (by cases h), fun _ => (dn_end HU.out (least_end HLE.out (of_decide_eq_false HY.out))).2 (by have := HI0.out; omega), HT.out, HWd.out.drewN m4, gr_drewN HGd.out m4⟩
          | true =>
            have HY := Lib.hid hy
            clear hy
            go_wp2_with fail
            try rw [hwd]
            refine (heap_less wd HWd.out.2.1 HKL.out HIL.out HY.out).mono ?_
            rintro e w4 ⟨rfl, m4, rfl⟩
            clear m2
            obtain ⟨we, hwe⟩ : ∃ we, wd.drewN m4 = we := ⟨_, rfl⟩
            have HWe := Lib.hid (HWd.out.drewN m4)
            have HGe := Lib.hid (gr_drewN HGd.out m4)
            rw [hwe] at HWe HGe
            have m3 := mf_swap HWe.out.1
            go_wp2_with fail
            try rw [hwe]
            refine (heap_swap we HWe.out.2.1 HIL.out HKL.out).mono ?_
            rintro e w5 ⟨rfl, ho, hg⟩
            have HW5 := Lib.hid (HWe.out.move ho hg)
            have HG5 := Lib.hid (gr_trans HGe.out hg)
            have HU5 : Hid (DnI (hsw H' i k) n i0 k) := Lib.hid (dn_step (by rw [HLP.out]; exact HN.out) HU.out HLE.out (of_decide_eq_true HY.out))
            have HPM5 : Hid ((hsw H' i k).Perm H) := Lib.hid ((hsw_perm HIL.out HKL.out).trans HPM.out)
            have HT5 : Hid (∀ x, n ≤ x → hat (hsw H' i k) x = hat H x) := Lib.hid (fun x hx => by rw [hat_sw HIL.out HKL.out, if_neg (by omega), if_neg (by omega)]; exact HT.out x hx)
            have hci : i < k := by have := HJ.out; have := HK.out; omega
            have hcn : k < n := HLE.out.1
            clear ho hg m3
            go_wp2
            go_roundw
            case rel => exact ⟨hsw H' i k, k, rfl, by omega, by omega, HU5, HPM5, HT5, HW5, HG5⟩
            case measure => simp [intOf]; omega
      · have hkI : ¬ (k : Int) < (n : Int) := by omega
        have HLE : Hid (Least H' n i j) := Lib.hid (by have h := least_one (H := H') (n := n) (i := i) (by omega) (by omega); rw [show 2 * i + 1 = j by omega] at h; exact h)
        clear hj1 hk1
        obtain ⟨wd, hwd⟩ : ∃ wd, wr = wd := ⟨_, rfl⟩
        have HWd := HW
        have HGd := HG
        subst hwd
        have m2 := mf_less HWd.out.1
        cases hy : decide (hat H' j < hat H' i) with
        | false =>
          have HY := Lib.hid hy
          clear hy
          go_wp2_with fail
          refine (heap_less wr HWd.out.2.1 HJL.out HIL.out HY.out).mono ?_
          rintro e w4 ⟨rfl, m4, rfl⟩
          clear m2
          go_wp2
          go_ret
          by_cases hmv : i0 < i
          · exact ⟨H', true, by show Ending.returned (.bool (decide (i0 < i))) = _; rw [decide_eq_true hmv], HPM.out, fun _ => (dn_end HU.out (least_end HLE.out (of_decide_eq_false HY.out))).1 (by omega), fun h => (by cases h), HT.out, HWd.out.drewN m4, gr_drewN HGd.out m4⟩
          · exact ⟨H', false, by show Ending.returned (.bool (decide (i0 < i))) = _; rw [decide_eq_false hmv], HPM.out, fun h => (by cases h), fun _ => (dn_end HU.out (least_end HLE.out (of_decide_eq_false HY.out))).2 (by have := HI0.out; omega), HT.out, HWd.out.drewN m4, gr_drewN HGd.out m4⟩
        | true =>
          have HY := Lib.hid hy
          clear hy
          go_wp2_with fail
          refine (heap_less wr HWd.out.2.1 HJL.out HIL.out HY.out).mono ?_
          rintro e w4 ⟨rfl, m4, rfl⟩
          clear m2
          obtain ⟨we, hwe⟩ : ∃ we, wr.drewN m4 = we := ⟨_, rfl⟩
          have HWe := Lib.hid (HWd.out.drewN m4)
          have HGe := Lib.hid (gr_drewN HGd.out m4)
          rw [hwe] at HWe HGe
          have m3 := mf_swap HWe.out.1
          go_wp2_with fail
          try rw [hwe]
          refine (heap_swap we HWe.out.2.1 HIL.out HJL.out).mono ?_
          rintro e w5 ⟨rfl, ho, hg⟩
          have HW5 := Lib.hid (HWe.out.move ho hg)
          have HG5 := Lib.hid (gr_trans HGe.out hg)
          have HU5 : Hid (DnI (hsw H' i j) n i0 j) := Lib.hid (dn_step (by rw [HLP.out]; exact HN.out) HU.out HLE.out (of_decide_eq_true HY.out))
          have HPM5 : Hid ((hsw H' i j).Perm H) := Lib.hid ((hsw_perm HIL.out HJL.out).trans HPM.out)
          have HT5 : Hid (∀ x, n ≤ x → hat (hsw H' i j) x = hat H x) := Lib.hid (fun x hx => by rw [hat_sw HIL.out HJL.out, if_neg (by omega), if_neg (by omega)]; exact HT.out x hx)
          have hci : i < j := by have := HJ.out; have := HK.out; omega
          have hcn : j < n := HLE.out.1
          clear ho hg m3
          go_wp2
          go_roundw
          case rel => exact ⟨hsw H' i j, j, rfl, by omega, by omega, HU5, HPM5, HT5, HW5, HG5⟩
          case measure => simp [intOf]; omega
end Go.Proofs.Ytinbdibenbplnaa
namespace Go.Proofs.Ytinbdibenbplnaa
open Go.RowKit
set_option linter.unusedVariables false

/-- What a call leaves that has moved numbers, and perhaps the slice, of a heap. -/
def HStep (w : World) (a : Addr) (v : Value) (w' : World) (v' : Value) : Prop := ∃ wm m, w.grownBy wm v.ownBlock ∧ ((wm.setCell a v').drewN m).grownBy w' v'.ownBlock ∧ ∀ (g : Nat) (t : TypeId) (cs : Array Value), Whole w g t cs → t ≠ 3 → v'.ownBlock ≠ some g
theorem ta_int (x : Int) (w : World) : (Instr.typeAssert (.iface 3 (.int .i64 x)) 20 3 false).run Try.prog w = .ok (.int .i64 x) w := by kernel_rfl
theorem Try.infoNum : (Try.prog.info? 3).map (fun i => (i.zero, i.size, i.bytes)) = some (some (.int .i64 0), 1, 8) := by kernel_rfl
set_option maxRecDepth 20000 in
set_option maxHeartbeats 8000000 in
theorem heap_pushm {a : Addr} {B : Nat} {v : Value} {H : List Int} {x : Int} {t : TypeId} {cs : Array Value} (w : World) (h : HP w a B v H) (hB : B ≤ w.heap.size) (hl : H.length ≤ 100000) (hW : Whole w a.block t cs) (ht : t ≠ 3) :
    Calls Try.prog 118 #[.pointer (some a), .iface 3 (.int .i64 x)] w fun e w' => ∃ v' wm m, e = .returned (.tuple #[]) ∧ w' = (wm.setCell a v').drewN m ∧ w.grownBy wm v.ownBlock ∧ ROwn iR wm B v' (H ++ [x]) ∧ v'.ownBlock ≠ some a.block := by
  have HH := Lib.hid h
  have HWW := Lib.hid hW
  have HT := Lib.hid ht
  have HBB := Lib.hid hB
  clear h hW ht
  obtain ⟨A, cap, rfl⟩ := HH.out.form
  obtain ⟨n, hn⟩ : ∃ n, H.length = n := ⟨_, rfl⟩
  have HN := Lib.hid hn
  rw [hn] at HH hl ⊢
  clear hn hB
  obtain ⟨i0, hi0, hq0, hq1, hq2⟩ := info_parts Try.infoNum
  have c0 := HH.out.1
  have f0 := HH.out.2.2.2
  have hml2 : n + 1 ≤ maxLen := by unfold maxLen; omega
  have hby2 : (n + 1) * 8 ≤ 140737488355328 := by omega
  have HOa : Hid (ROwn iR (w.drew.alloc (.cells #[.int .i64 x] 3)) B (.slice A n cap) H) := Lib.hid (ROwn.alloc (show ROwn iR w.drew B (.slice A n cap) H from HH.out.2.1) _)
  have t0 := ta_int x w.drew
  have ca : (w.alloc (.cells #[.int .i64 x] 3)).cell? a = some (.slice A n cap) := (World.cell?_of_block (Below.heap_alloc w _ a.block HWW.out.lt)).trans c0
  go_enter Try.func118, Try.ntmps118
  go_wp2
  go_region_law (
  (refine step_append_rows rfl (.tmp 7) (.tmp 10) 98 rfl iR B i0 _ 8 Try.underlying98 hi0 hq0 hq1 hq2 rfl (by decide) _ H [x] n HN.out rfl HOa.out (some ⟨w.heap.size, 0, none⟩) 1 1 rfl rfl (RAt.made iR w.drew [x] _ rfl) (fun e => by cases e) (fun q e => by cases e; rfl) hml2 hby2 (by simp; have := HBB.out; omega) ?_
   intro v' w7 hown hgrow hnn
   obtain ⟨A7, N7, cap7, rfl⟩ := hown.val
   have hN7 : N7 = n + 1 := hown.len.1.trans (by rw [List.length_append, HN.out]; rfl)
   subst hN7
   have HO7 := Lib.hid hown
   have HG7 : Hid (w.grownBy w7 (Value.slice A n cap).ownBlock) := Lib.hid (gr_trans (gr_alloc (gr_drew (gr_refl w _)) _) hgrow)
   have HW7 := Lib.hid (HWW.out.grown HG7.out (fun e => HH.out.2.2.1 e.symm))
   have HE7 := Lib.hid (HO7.out.whole HW7.out HT.out)
   have f7 : w7.frozen? a = false := by
     have hb := HG7.out.block a.block HWW.out.lt (fun e => HH.out.2.2.1 e.symm)
     rw [World.frozen?_of_block hb]
     exact HH.out.2.2.2
   have c7 : w7.cell? a = some (.slice A n cap) := by
     have hb := HG7.out.block a.block HWW.out.lt (fun e => HH.out.2.2.1 e.symm)
     rw [World.cell?_of_block hb]
     exact HH.out.1
   clear hown hgrow hnn))
  all_goals
    go_wp2
    refine bodyPost_end (v := .tuple #[]) (by simp [results, Try.results118]) rfl ?_
    exact ⟨_, w7, 0, rfl, rfl, HG7.out, HO7.out, HE7.out⟩
end Go.Proofs.Ytinbdibenbplnaa
namespace Go.Proofs.Ytinbdibenbplnaa
open Go.RowKit
set_option linter.unusedVariables false

theorem own_pop {w : World} {A : Option Addr} {B n cap : Nat} {H : List Int} (h : ROwn iR w B (.slice A (n + 1) cap) H) : ROwn iR w B (.slice A n cap) (H.take n) := by
  have hn := h.len.1
  have hne : n < H.length := by omega
  obtain ⟨g, hA, _⟩ := iown_cell h hne
  subst hA
  have hs : H = H.take n ++ H.drop n := (List.take_append_drop n H).symm
  have hl : (H.take n).length = n := by rw [List.length_take]; omega
  have h1 := ROwn.row h hn.symm
  rw [hs, rcells_app] at h1
  refine ROwn.of (ownsRow_pop ?_ h1) hl.symm
  rw [rcells_len, hl]
theorem HStep.whole {w w' : World} {D k : Nat} {v v' : Value} {t : TypeId} {cs : Array Value} (h : HStep w ⟨D, k, none⟩ v w' v') (hW : Whole w D t cs) (h0 : v.ownBlock ≠ some D) (h1 : v'.ownBlock ≠ some D) : Whole w' D t (cs.setIfInBounds k v') := by
  obtain ⟨wm, m, hg, hg2, _⟩ := h
  exact (((hW.grown hg (fun e => h0 e.symm)).store k v').drewN m).grown hg2 (fun e => h1 e.symm)
set_option maxRecDepth 20000 in
set_option maxHeartbeats 8000000 in
theorem heap_popm {a : Addr} {A : Option Addr} {B n cap : Nat} {H : List Int} (w : World) (h : HP w a B (.slice A (n + 1) cap) H) (hl : H.length ≤ 100000) :
    Calls Try.prog 117 #[.pointer (some a)] w fun e w' => e = .returned (.iface 3 (.int .i64 (hat H n))) ∧ w' = w.setCell a (.slice A n cap) := by
  have hn := h.2.1.len
  obtain ⟨g, rfl, d0, f1⟩ := iown_cell h.2.1 (i := n) (by omega)
  have c0 := h.1
  have f0 := h.2.2.2
  obtain ⟨n1, hq⟩ : ∃ n1, n + 1 = n1 := ⟨_, rfl⟩
  rw [hq] at c0 hn
  have e1 : (n1 : Int) - 1 = (n : Int) := by omega
  have w1 : IntKind.i64.wrap (n : Int) = (n : Int) := IntWalk.i64_in _ (by have := hn.2.2; unfold maxLen at this; omega)
  have i0 : (0 : Int) ≤ (n : Int) := by omega
  have i1 : (n : Int) < (n1 : Int) := by omega
  have i2 : (n : Int) ≤ (cap : Int) := by omega
  have i3 : n ≤ cap := by omega
  have i4 : n < n1 := by omega
  clear h hn hl hq
  go_enter Try.func117, Try.ntmps117
  go_wp2
  go_ret
  exact ⟨rfl, rfl⟩
set_option maxRecDepth 20000 in
set_option maxHeartbeats 8000000 in
theorem heap_push {D k : Nat} {B : Nat} {v : Value} {H : List Int} {x : Int} {t : TypeId} {cs : Array Value} (w : World) (h : HP w ⟨D, k, none⟩ B v H) (hB : B ≤ w.heap.size) (hl : H.length < 100000) (hW : Whole w D t cs) (ht : t ≠ 3) (hp : HeapTo H H.length) :
    Calls Try.prog 93 #[.iface 103 (.pointer (some ⟨D, k, none⟩)), .iface 3 (.int .i64 x)] w fun e w' => ∃ H' v', e = .returned (.tuple #[]) ∧ H'.Perm (H ++ [x]) ∧ HeapTo H' H'.length ∧ HP w' ⟨D, k, none⟩ B v' H' ∧ HStep w ⟨D, k, none⟩ v w' v' := by
  have HH := Lib.hid h
  have HWW := Lib.hid hW
  have HT := Lib.hid ht
  have HBB := Lib.hid hB
  have HP0 := Lib.hid hp
  have m0 := mf_push ⟨D, k, none⟩ w
  clear h hW ht hB hp
  go_enter Try.func93, Try.ntmps93
  go_wp2_with fail
  refine (heap_pushm w HH.out HBB.out (by omega) HWW.out HT.out).mono ?_
  rintro e w2 ⟨v', wm, m, rfl, hw2, hg, ho, hne⟩
  have c2 : w2.cell? ⟨D, k, none⟩ = some v' := by
    subst hw2
    have hb := hg.block D HWW.out.lt (fun e => HH.out.2.2.1 e.symm)
    exact World.cell?_setCell_same' wm _ v' (by rw [World.cell?_of_block (a := ⟨D, k, none⟩) hb, HH.out.1]; rfl)
  have hh : HP w2 ⟨D, k, none⟩ B v' (H ++ [x]) := by
    refine ⟨c2, ?_, hne, ?_⟩
    · subst hw2
      exact (ho.store (p := ⟨D, k, none⟩) hne v').drewN m
    · subst hw2
      show (wm.setCell ⟨D, k, none⟩ v').frozen? ⟨D, k, none⟩ = false
      rw [World.frozen?_setCell, World.frozen?_of_block (hg.block D HWW.out.lt (fun e => HH.out.2.2.1 e.symm))]
      exact HH.out.2.2.2
  have HH2 := Lib.hid hh
  have HG := Lib.hid hg
  have HE := Lib.hid hw2
  have HO1 := Lib.hid ho
  obtain ⟨A, cap, hv⟩ := hh.form
  obtain ⟨n, hn⟩ : ∃ n, (H ++ [x]).length = n := ⟨_, rfl⟩
  have HN := Lib.hid hn
  rw [hn] at hv
  have hln : n = H.length + 1 := by rw [← hn]; simp
  have HLN := Lib.hid hln
  subst hv
  have m1 := mf_len c2
  have e1 : (n : Int) - 1 = (H.length : Int) := by omega
  have w1 : IntKind.i64.wrap (H.length : Int) = (H.length : Int) := IntWalk.i64_in _ (by omega)
  clear hh hg ho hw2 hne hn hln m0
  go_wp2_with fail
  refine (heap_len A n cap w2).mono ?_
  rintro e w3 ⟨rfl, rfl⟩
  go_wp2_with fail
  refine (heap_up w3 HH2.out (n := n) (j := H.length) (by rw [HLN.out]; omega) (by rw [HN.out]; exact Nat.le_refl _) (by rw [HN.out, HLN.out]; omega) (by rw [HLN.out]; exact up_push HP0.out)).mono ?_
  rintro e w4 ⟨H', rfl, hpm, hto, hsm, hhp, hgr⟩
  have HR : Hid (∃ H' v', H'.Perm (H ++ [x]) ∧ HeapTo H' H'.length ∧ HP w4 ⟨D, k, none⟩ B v' H' ∧ HStep w ⟨D, k, none⟩ v w4 v') := Lib.hid ⟨H', _, hpm, by rw [hpm.length_eq, HN.out]; exact hto, hhp, wm, m, HG.out, by rw [← HE.out]; exact hgr, fun g t cs hw hti => ROwn.whole HO1.out (Whole.grown hw HG.out (fun e => ROwn.whole HH.out.2.1 hw hti e.symm)) hti⟩
  clear hpm hto hsm hhp hgr
  go_wp2
  refine bodyPost_end (v := .tuple #[]) (by simp [results, Try.results93]) rfl ?_
  obtain ⟨H', v', h1, h2, h3, h4⟩ := HR.out
  exact ⟨H', v', rfl, h1, h2, h3, h4⟩
end Go.Proofs.Ytinbdibenbplnaa
namespace Go.Proofs.Ytinbdibenbplnaa
open Go.RowKit
set_option linter.unusedVariables false

theorem take_snoc {H : List Int} {n : Nat} (hn : H.length = n + 1) : H = H.take n ++ [hat H n] := by
  have h1 : n < H.length := by omega
  have h2 : H.drop n = [hat H n] := by
    rw [List.drop_eq_getElem_cons h1, List.drop_eq_nil_of_le (by omega)]
    have h3 := hat_some h1
    rw [List.getElem?_eq_getElem h1] at h3
    rw [Option.some.inj h3]
  calc H = H.take n ++ H.drop n := (List.take_append_drop n H).symm
    _ = _ := by rw [h2]
/-- What the last step of Pop and Remove leaves. -/
theorem pop_leave {w w' : World} {D k : Nat} {A : Option Addr} {B n cap : Nat} {H K : List Int} {y : Int} (h0 : ROwn iR w B (.slice A (n + 1) cap) H) (h : HP w' ⟨D, k, none⟩ B (.slice A (n + 1) cap) K) (hp : K.Perm H) (ht : HeapTo K n) (hy : hat K n = y) (hg : w.grownBy w' (Value.slice A (n + 1) cap).ownBlock) :
    ∃ (H' : List Int), (y :: H').Perm H ∧ HeapTo H' H'.length ∧ HP (w'.setCell ⟨D, k, none⟩ (.slice A n cap)) ⟨D, k, none⟩ B (.slice A n cap) H' ∧ HStep w ⟨D, k, none⟩ (.slice A (n + 1) cap) (w'.setCell ⟨D, k, none⟩ (.slice A n cap)) (.slice A n cap) := by
  have hl := h.2.1.len.1
  have ho : (Value.slice A n cap).ownBlock = (Value.slice A (n + 1) cap).ownBlock := by cases A <;> rfl
  have hne : (Value.slice A n cap).ownBlock ≠ some D := by rw [ho]; exact h.2.2.1
  refine ⟨K.take n, ?_, heap_take (by omega) ht, ⟨?_, ?_, hne, ?_⟩, w', 0, hg, gr_refl _ _, fun g t cs hw hti => by rw [ho]; exact ROwn.whole h0 hw hti⟩
  · refine List.Perm.trans ?_ hp
    rw [← hy]
    exact (List.perm_append_comm (l₁ := [hat K n]) (l₂ := K.take n)).trans (by rw [← take_snoc hl.symm])
  · exact World.cell?_setCell_same' w' _ _ (by rw [h.1]; rfl)
  · exact (own_pop h.2.1).store (p := ⟨D, k, none⟩) hne _
  · rw [World.frozen?_setCell]
    exact h.2.2.2
set_option maxRecDepth 20000 in
set_option maxHeartbeats 8000000 in
theorem heap_pop {D k : Nat} {B n cap : Nat} {A : Option Addr} {H : List Int} (w : World) (h : HP w ⟨D, k, none⟩ B (.slice A (n + 1) cap) H) (hl : n < 100000) (hp : HeapTo H H.length) :
    Calls Try.prog 79 #[.iface 103 (.pointer (some ⟨D, k, none⟩))] w fun e w' => ∃ H', e = .returned (.iface 3 (.int .i64 (hat H 0))) ∧ (hat H 0 :: H').Perm H ∧ HeapTo H' H'.length ∧ HP w' ⟨D, k, none⟩ B (.slice A n cap) H' ∧ HStep w ⟨D, k, none⟩ (.slice A (n + 1) cap) w' (.slice A n cap) := by
  have HH := Lib.hid h
  have HRO := Lib.hid h.2.1
  have HP0 := Lib.hid hp
  have hlen := h.2.1.len.1
  have HL := Lib.hid hlen
  have HLT := Lib.hid hl
  obtain ⟨n1, hq⟩ : ∃ n1, n + 1 = n1 := ⟨_, rfl⟩
  have HQ := Lib.hid hq
  rw [hq] at HH ⊢
  have m1 := mf_len HH.out.1
  have m2 := mf_swap HH.out.1
  have e1 : (n1 : Int) - 1 = (n : Int) := by omega
  have w1 : IntKind.i64.wrap (n : Int) = (n : Int) := IntWalk.i64_in _ (by omega)
  clear h hp hlen hl hq
  go_enter Try.func79, Try.ntmps79
  go_wp2_with fail
  refine (heap_len A n1 cap w).mono ?_
  rintro e w3 ⟨rfl, rfl⟩
  go_wp2_with fail
  refine (heap_swap (i := 0) (j := n) w3 HH.out.2.1 (by rw [← HL.out]; omega) (by rw [← HL.out]; omega)).mono ?_
  rintro e w4 ⟨rfl, ho, hg⟩
  have HH4 := Lib.hid (HH.out.move ho hg)
  have HG4 := Lib.hid hg
  clear ho hg m1 m2
  go_wp2_with fail
  refine (heap_down (i0 := 0) (n := n) w4 HH4.out (by omega) (by rw [hsw_len, ← HL.out]; omega) (by rw [hsw_len, ← HL.out]; have := HLT.out; omega) (dn_pop HL.out.symm (by rw [HL.out]; exact HP0.out))).mono ?_
  rintro e w5 ⟨K, mv, rfl, hpm, hm1, hm0, hsm, hhp, hgr⟩
  have HPM : Hid (K.Perm H) := Lib.hid (hpm.trans (hsw_perm (by rw [← HL.out]; omega) (by rw [← HL.out]; omega)))
  have HTO : Hid (HeapTo K n) := Lib.hid (by cases mv with
    | true => exact hm1 rfl
    | false => exact up0_heap (hm0 rfl))
  have HY : Hid (hat K n = hat H 0) := Lib.hid (by rw [hsm n (Nat.le_refl _), hat_sw (by rw [← HL.out]; omega) (by rw [← HL.out]; omega), if_pos rfl])
  have HH5 := Lib.hid hhp
  have HG5 := Lib.hid (gr_trans HG4.out hgr)
  have m3 := mf_pop ⟨D, k, none⟩ w5
  clear hpm hm1 hm0 hsm hhp hgr
  rw [← HQ.out] at HH5 HG5
  go_wp2_with fail
  refine (heap_popm w5 HH5.out (by rw [HPM.out.length_eq, ← HL.out]; have := HLT.out; omega)).mono ?_
  rintro e w6 ⟨rfl, rfl⟩
  clear m3
  go_wp2
  go_ret
  obtain ⟨H', h1, h2, h3, h4⟩ := pop_leave HRO.out HH5.out HPM.out HTO.out HY.out HG5.out
  rw [HY.out]
  rw [HQ.out] at h4
  exact ⟨H', rfl, h1, h2, h3, h4⟩
set_option maxRecDepth 20000 in
set_option maxHeartbeats 8000000 in
theorem heap_remove {D k i : Nat} {B n cap : Nat} {A : Option Addr} {H : List Int} (w : World) (h : HP w ⟨D, k, none⟩ B (.slice A (n + 1) cap) H) (hl : n < 100000) (hi : i < n + 1) (hp : HeapTo H H.length) :
    Calls Try.prog 95 #[.iface 103 (.pointer (some ⟨D, k, none⟩)), .int .i64 (i : Int)] w fun e w' => ∃ H', e = .returned (.iface 3 (.int .i64 (hat H i))) ∧ (hat H i :: H').Perm H ∧ HeapTo H' H'.length ∧ HP w' ⟨D, k, none⟩ B (.slice A n cap) H' ∧ HStep w ⟨D, k, none⟩ (.slice A (n + 1) cap) w' (.slice A n cap) := by
  have HH := Lib.hid h
  have HRO := Lib.hid h.2.1
  have HP0 := Lib.hid hp
  have hlen := h.2.1.len.1
  have HL := Lib.hid hlen
  have HLT := Lib.hid hl
  have HI := Lib.hid hi
  obtain ⟨n1, hq⟩ : ∃ n1, n + 1 = n1 := ⟨_, rfl⟩
  have HQ := Lib.hid hq
  rw [hq] at HH ⊢
  have m1 := mf_len HH.out.1
  have m2 := mf_swap HH.out.1
  have e1 : (n1 : Int) - 1 = (n : Int) := by omega
  have w1 : IntKind.i64.wrap (n : Int) = (n : Int) := IntWalk.i64_in _ (by omega)
  clear h hp hlen hl hq hi
  by_cases hni : n = i
  · have t1 : ((n : Int) == (i : Int)) = true := by rw [beq_iff_eq]; omega
    have HNI := Lib.hid hni
    have m3 := mf_pop ⟨D, k, none⟩ w
    clear hni m2
    go_enter Try.func95, Try.ntmps95
    go_wp2_with fail
    refine (heap_len A n1 cap w).mono ?_
    rintro e w3 ⟨rfl, rfl⟩
    rw [← HQ.out] at HH
    go_wp2_with fail
    refine (heap_popm w3 HH.out (by rw [← HL.out]; have := HLT.out; omega)).mono ?_
    rintro e w6 ⟨rfl, rfl⟩
    clear m3
    go_wp2
    go_ret
    obtain ⟨H', h1, h2, h3, h4⟩ := pop_leave HRO.out HH.out (List.Perm.refl _) (fun k k0 hk => HP0.out k k0 (by rw [← HL.out]; omega)) rfl (gr_refl _ _)
    rw [HQ.out] at h4
    rw [← HNI.out]
    exact ⟨H', rfl, h1, h2, h3, h4⟩
  · have t1 : ((n : Int) == (i : Int)) = false := beq_eq_false_iff_ne.2 (by omega)
    have HIN : Hid (i < n) := Lib.hid (by have := HI.out; omega)
    clear hni
    go_enter Try.func95, Try.ntmps95
    go_wp2_with fail
    refine (heap_len A n1 cap w).mono ?_
    rintro e w3 ⟨rfl, rfl⟩
    go_wp2_with fail
    refine (heap_swap (i := i) (j := n) w3 HH.out.2.1 (by rw [← HL.out]; have := HIN.out; omega) (by rw [← HL.out]; omega)).mono ?_
    rintro e w4 ⟨rfl, ho, hg⟩
    have HH4 := Lib.hid (HH.out.move ho hg)
    have HG4 := Lib.hid hg
    clear ho hg m1 m2
    go_wp2_with fail
    refine (heap_down (i0 := i) (n := n) w4 HH4.out (by have := HIN.out; omega) (by rw [hsw_len, ← HL.out]; omega) (by rw [hsw_len, ← HL.out]; have := HLT.out; omega) (dn_remove HL.out.symm HIN.out (by rw [HL.out]; exact HP0.out))).mono ?_
    rintro e w5 ⟨K, mv, rfl, hpm, hm1, hm0, hsm, hhp, hgr⟩
    have HPM : Hid (K.Perm H) := Lib.hid (hpm.trans (hsw_perm (by rw [← HL.out]; have := HIN.out; omega) (by rw [← HL.out]; omega)))
    have HY : Hid (hat K n = hat H i) := Lib.hid (by rw [hsm n (Nat.le_refl _), hat_sw (by rw [← HL.out]; have := HIN.out; omega) (by rw [← HL.out]; omega), if_pos rfl])
    have HG5 := Lib.hid (gr_trans HG4.out hgr)
    cases mv with
    | true =>
      have HTO : Hid (HeapTo K n) := Lib.hid (hm1 rfl)
      have HH5 := Lib.hid hhp
      have m3 := mf_pop ⟨D, k, none⟩ w5
      clear hpm hm1 hm0 hsm hhp hgr
      rw [← HQ.out] at HH5 HG5
      go_wp2_with fail
      refine (heap_popm w5 HH5.out (by rw [HPM.out.length_eq, ← HL.out]; have := HLT.out; omega)).mono ?_
      rintro e w6 ⟨rfl, rfl⟩
      clear m3
      go_wp2
      go_ret
      obtain ⟨H', h1, h2, h3, h4⟩ := pop_leave HRO.out HH5.out HPM.out HTO.out HY.out HG5.out
      rw [HY.out]
      rw [HQ.out] at h4
      exact ⟨H', rfl, h1, h2, h3, h4⟩
    | false =>
      have HU : Hid (UpI K n i) := Lib.hid (hm0 rfl)
      have HH5 := Lib.hid hhp
      clear hpm hm1 hm0 hsm hhp hgr
      go_wp2_with fail
      refine (heap_up (j := i) (n := n) w5 HH5.out HIN.out (by rw [HPM.out.length_eq, ← HL.out]; omega) (by rw [HPM.out.length_eq, ← HL.out]; have := HLT.out; omega) HU.out).mono ?_
      rintro e w6 ⟨K2, rfl, hpm, hto, hsm, hhp, hgr⟩
      have HPM6 : Hid (K2.Perm H) := Lib.hid (hpm.trans HPM.out)
      have HTO : Hid (HeapTo K2 n) := Lib.hid hto
      have HY6 : Hid (hat K2 n = hat H i) := Lib.hid (by rw [hsm n (Nat.le_refl _), HY.out])
      have HH6 := Lib.hid hhp
      have HG6 := Lib.hid (gr_trans HG5.out hgr)
      have m3 := mf_pop ⟨D, k, none⟩ w6
      clear hpm hto hsm hhp hgr
      rw [← HQ.out] at HH6 HG6
      go_wp2_with fail
      refine (heap_popm w6 HH6.out (by rw [HPM6.out.length_eq, ← HL.out]; have := HLT.out; omega)).mono ?_
      rintro e w7 ⟨rfl, rfl⟩
      clear m3
      go_wp2
      go_ret
      obtain ⟨H', h1, h2, h3, h4⟩ := pop_leave HRO.out HH6.out HPM6.out HTO.out HY6.out HG6.out
      rw [HY6.out]
      rw [HQ.out] at h4
      exact ⟨H', rfl, h1, h2, h3, h4⟩
end Go.Proofs.Ytinbdibenbplnaa
namespace Go.Proofs.Ytinbdibenbplnaa
open Go.RowKit
set_option linter.unusedVariables false
set_option maxRecDepth 20000 in
set_option maxHeartbeats 8000000 in
theorem heap_index {B n cap : Nat} {A : Option Addr} {H : List Int} {x : Int} (w : World) (h : ROwn iR w B (.slice A n cap) H) (hn : n ≤ 100000) :
    Calls Try.prog 96 #[.slice A n cap, .int .i64 x] w fun e w' => w' = w ∧ ((∃ i : Nat, e = .returned (.int .i64 (i : Int)) ∧ i < n ∧ hat H i = x) ∨ (e = .returned (.int .i64 (-1)) ∧ x ∉ H)) := by
  have HH := Lib.hid h
  have hl := h.len.1
  have HL := Lib.hid hl
  clear h hl
  go_enter Try.func96, Try.ntmps96
  go_wp2
  go_loopw [8] (fun iv wr => ∃ (i : Nat), iv = .int .i64 (i : Int) ∧ i ≤ n ∧ wr = w ∧ Hid (∀ k, k < i → hat H k ≠ x)) (fun iv _ => n - (intOf iv).toNat)
  case atStart => exact ⟨0, rfl, Nat.zero_le _, rfl, fun k hk => by omega⟩
  case round =>
    obtain ⟨i, rfl, hin, rfl, HK⟩ := hrel
    by_cases hi : i < n
    · have i0 : (0 : Int) ≤ (i : Int) := by omega
      have i1 : (i : Int) < (n : Int) := by omega
      obtain ⟨g, rfl, d0, f1⟩ := iown_cell HH.out (i := i) (by rw [← HL.out]; exact hi)
      obtain ⟨j, hj⟩ : ∃ j, i + 1 = j := ⟨_, rfl⟩
      have HJ := Lib.hid hj
      have e2 : (i : Int) + 1 = (j : Int) := by omega
      have w2 : IntKind.i64.wrap (j : Int) = (j : Int) := IntWalk.i64_in _ (by omega)
      clear hj
      by_cases hx : hat H i = x
      · have HX := Lib.hid hx
        have t0 : ((x : Int) == hat H i) = true := by rw [hx]; simp
        clear hx
        go_wp2
        go_ret
        exact ⟨rfl, .inl ⟨i, rfl, hi, HX.out⟩⟩
      · have t0 : ((x : Int) == hat H i) = false := beq_eq_false_iff_ne.2 (fun e => hx e.symm)
        have HX := Lib.hid hx
        clear hx
        go_wp2
        go_roundw
        case rel => exact ⟨j, rfl, by have := HJ.out; omega, trivial, fun k hk => by
          have hj := HJ.out
          rcases Nat.lt_or_ge k i with h1 | h1
          · exact HK.out k h1
          · rw [show k = i by omega]; exact HX.out⟩
        case measure => have hj := HJ.out; simp [intOf]; omega
    · have hi' : ¬ (i : Int) < (n : Int) := by omega
      have hin2 : i = n := by omega
      have HI := Lib.hid hin2
      clear hin2 hi
      go_wp2
      go_ret
      refine ⟨rfl, .inr ⟨rfl, fun hm => ?_⟩⟩
      obtain ⟨k, hk, he⟩ := List.getElem_of_mem hm
      refine HK.out k (by rw [HI.out, HL.out]; exact hk) ?_
      have h3 := hat_some hk
      rw [List.getElem?_eq_getElem hk] at h3
      rw [← Option.some.inj h3]
      exact he
end Go.Proofs.Ytinbdibenbplnaa
namespace Go.Proofs.Ytinbdibenbplnaa
set_option linter.unusedVariables false

theorem splitK_one (c : UInt8) (l : List UInt8) : ∃ p ps, Lib.splitK [c] 0 (l.count c) l = p :: ps ∧ ∀ cur, cutGo c cur l = (cur ++ p) :: ps := by
  induction l with
  | nil => exact ⟨[], [], rfl, fun cur => by simp [cutGo]⟩
  | cons x l ih =>
    obtain ⟨p, ps, h1, h2⟩ := ih
    by_cases hx : x = c
    · subst hx
      refine ⟨[], p :: ps, ?_, fun cur => ?_⟩
      · have hi : Lib.index (x :: l) [x] = 0 := by
          rw [Lib.index_one]
          unfold Lib.indexByte
          simp
        rw [List.count_cons_self, Lib.splitK, hi]
        simp [h1]
      · have := h2 []
        rw [List.nil_append] at this
        rw [cutGo, if_pos rfl, this, List.append_nil]
    · refine ⟨x :: p, ps, ?_, fun cur => ?_⟩
      · rw [List.count_cons_of_ne (by simpa using hx)]
        cases hk : l.count c with
        | zero =>
          rw [hk, Lib.splitK] at h1
          rw [Lib.splitK]
          simp at h1 ⊢
          exact ⟨h1.1, h1.2⟩
        | succ k =>
          rw [hk, Lib.splitK] at h1
          rw [Lib.splitK]
          rw [Lib.index_one] at h1 ⊢
          have hb : Lib.indexByte (x :: l) c = if Lib.indexByte l c == -1 then -1 else Lib.indexByte l c + 1 := by
            rw [Lib.indexByte, if_neg (by simpa using hx)]
          have hge := Lib.indexByte_ge l c
          rw [hb]
          by_cases hm : Lib.indexByte l c = -1
          · rw [hm] at h1 ⊢
            simp at h1 ⊢
            exact ⟨h1.1, h1.2⟩
          · have hm' : (Lib.indexByte l c == -1) = false := beq_eq_false_iff_ne.2 hm
            rw [hm'] at h1 ⊢
            obtain ⟨i, hi⟩ : ∃ i : Nat, Lib.indexByte l c = (i : Int) := ⟨(Lib.indexByte l c).toNat, by omega⟩
            rw [hi] at h1 ⊢
            have e1 : (((i : Int) + 1) == -1) = false := beq_eq_false_iff_ne.2 (by omega)
            have e2 : ((i : Int) + 1).toNat = i + 1 := by omega
            have e3 : ((i : Int)).toNat = i := by omega
            simp only [Bool.false_eq_true, if_false, e1, e2, e3, List.length_cons, List.length_nil, Nat.zero_add, Nat.add_zero] at h1 ⊢
            rw [List.take_succ_cons, List.drop_succ_cons]
            simp only [List.cons.injEq] at h1 ⊢
            first
              | exact ⟨⟨rfl, h1.1⟩, h1.2⟩
              | exact ⟨⟨trivial, h1.1⟩, h1.2⟩
              | exact ⟨h1.1, h1.2⟩
      · rw [cutGo, if_neg hx, h2]
        simp
theorem cutGo_part (c : UInt8) (l : List UInt8) : ∀ cur p, p ∈ cutGo c cur l → p.length ≤ cur.length + l.length := by
  induction l with
  | nil => intro cur p hp; simp [cutGo] at hp; subst hp; simp
  | cons x l ih =>
    intro cur p hp
    rw [cutGo] at hp
    split at hp
    · rcases List.mem_cons.1 hp with h | h
      · rw [h, List.length_cons]; omega
      · have := ih [] p h; simp at this; rw [List.length_cons]; omega
    · have := ih _ p hp; simp at this; rw [List.length_cons]; omega
theorem cut_part {c : UInt8} {l p : List UInt8} (hp : p ∈ cut c l) : p.length ≤ l.length := by
  have := cutGo_part c l [] p hp
  simpa using this
theorem split_words (s : ByteArray) : Lib.splitB ⟨#[32]⟩ 0 (Lib.countB s ⟨#[32]⟩) s = wdsF s := by
  have h1 : Lib.countB s ⟨#[32]⟩ = (kb s).count 32 := Lib.count_one 32 s.data.toList
  have h2 := Lib.splitB_data ⟨#[32]⟩ 0 (Lib.countB s ⟨#[32]⟩) s
  obtain ⟨p, ps, h3, h4⟩ := splitK_one 32 (kb s)
  have h5 : (Lib.splitB ⟨#[32]⟩ 0 (Lib.countB s ⟨#[32]⟩) s).map (·.data.toList) = cut 32 (kb s) := by
    rw [h2, h1]
    unfold cut
    rw [h4 []]
    exact h3
  unfold wdsF
  rw [← h5, List.map_map]
  conv => lhs; rw [← List.map_id (Lib.splitB ⟨#[32]⟩ 0 (Lib.countB s ⟨#[32]⟩) s)]
  exact List.map_congr_left fun x _ => (rB_of x).symm
theorem split_count (s : ByteArray) : Lib.countB s ⟨#[32]⟩ + 1 = (wdsF s).length := by
  rw [← split_words]
  exact (Lib.splitB_all ⟨#[32]⟩ (by decide) 0 _ s rfl).symm
end Go.Proofs.Ytinbdibenbplnaa
namespace Go.Proofs.Ytinbdibenbplnaa
open Go.Shelf
def Try.lays110_ren : Go.Shelf.Ren := ⟨fun | 110 => 57 | 109 => 81 | n => n, fun | 31 => 23 | 9 => 9 | 4 => 4 | 3 => 3 | 0 => 0 | n => n, fun | n => n⟩
theorem Try.lays110 : Go.Proofs.Lays.n110 Try.prog Try.lays110_ren := {
  mixed := by kernel_rfl
  f109 := Try.func81.trans (congrArg some (by kernel_rfl))
  f110 := Try.func57.trans (congrArg some (by kernel_rfl))
  t0 := Try.underlying0
  a0 := Try.isAgg0
  z0 := Try.sizeOf0
  v0 := Try.zeroValue0
  t3 := Try.underlying3
  a3 := Try.isAgg3
  z3 := Try.sizeOf3
  v3 := Try.zeroValue3
  t4 := Try.underlying4
  a4 := Try.isAgg4
  z4 := Try.sizeOf4
  v4 := Try.zeroValue4
  t9 := Try.underlying9
  a9 := Try.isAgg9
  z9 := Try.sizeOf9
  v9 := Try.zeroValue9
  t31 := Try.underlying23
  a31 := Try.isAgg23
  z31 := Try.sizeOf23
  v31 := Try.zeroValue23 }
open Go.Lib in
/-- slices.Contains at []string: "Contains reports whether v is present in s.": IT RETURNS 'Lib.containsS (the elements) v', which is true just where v is among them ('Lib.containsS_iff'); the world is as it was. ITS CALLEE slices.Index IS MET BY ITS OWN CONTRACT OFF THE SHELF (lay that first): no loop is walked here. (LAID: no walk: one application.) -/
theorem Try.slices_Contains_string (b off n c : Nat) (zs : List ByteArray) (x : ByteArray) (w : World) (hz : n ≤ zs.length) (hbig : n ≤ 9223372036854775807) (hc : ∀ j, j < zs.length → w.cell? ⟨b, off + j, none⟩ = some (.string (zs.getD j ByteArray.empty))) :
    Calls Try.prog 57 #[.slice (some ⟨b, off, none⟩) n c, .string x] w fun e w' => e = .returned (.bool (Lib.containsS (zs.take n) x)) ∧ w' = w := Any.slices_Contains_string Try.lays110 b off n c zs x w hz hbig hc
open Go.Lib in
/-- The same at a slice of length 0, a nil one too. (LAID: no walk: one application.) -/
theorem Try.slices_Contains_string_empty (a : Option Addr) (c : Nat) (x : ByteArray) (w : World) :
    Calls Try.prog 57 #[.slice a 0 c, .string x] w fun e w' => e = .returned (.bool false) ∧ w' = w := Any.slices_Contains_string_empty Try.lays110 a c x w
def Try.laysNm216_ren : Go.Shelf.Ren := ⟨fun | 16 => 92 | n => n, fun | 24 => 23 | 9 => 9 | 4 => 4 | n => n, fun | n => n⟩
theorem Try.laysNm216 : Go.Proofs.Lays2.n16 Try.prog Try.laysNm216_ren := {
  mixed := by kernel_rfl
  f16 := Try.func92.trans (congrArg some (by kernel_rfl))
  t4 := Try.underlying4
  a4 := Try.isAgg4
  z4 := Try.sizeOf4
  v4 := Try.zeroValue4
  t9 := Try.underlying9
  a9 := Try.isAgg9
  z9 := Try.sizeOf9
  v9 := Try.zeroValue9
  t24 := Try.underlying23
  a24 := Try.isAgg23
  z24 := Try.sizeOf23
  v24 := Try.zeroValue23
  i9 := by kernel_rfl }
open Go.RowKit Go.Lib in
/-- slices.Clone at []string: "Clone returns a copy of the slice. The elements are copied using assignment, so this is a shallow clone. The result may have additional unused capacity. The result preserves the nilness of s.": OF A SLICE THAT IS NOT nil IT RETURNS A SLICE THAT IS NOT nil, OF THE SAME ELEMENTS, IN MEMORY OF THE CALL's OWN: in the how-to's words (6f): 'w'.ownsRow B e 1 v' n cells': v' begins at the head of a row among the blocks from B on (B: the heap's size at the call), not frozen, whose first cells are the elements · 'Below B w w'': below B all is as it was. The capacity is whatever the run-time gives. 'zs': what the cells behind the slice's address hold; 'zs.take n': its elements. (LAID: no walk: one application.) -/
theorem Try.slices_Clone_string (b off n c : Nat) (zs : List ByteArray) (w : World) (hz : n ≤ zs.length) (hbig : n * 16 ≤ 140737488355328) (hc : ∀ j, j < zs.length → w.cell? ⟨b, off + j, none⟩ = some (.string (zs.getD j ByteArray.empty))) :
    Calls Try.prog 92 #[.slice (some ⟨b, off, none⟩) n c] w fun e w' => ∃ v', e = .returned v' ∧ w'.ownsRow w.heap.size 9 1 v' n ((zs.take n).map (Value.string)) ∧ v' ≠ .slice none 0 0 ∧ Below w.heap.size w w' := Any.slices_Clone_string Try.laysNm216 b off n c zs w hz hbig hc
open Go.RowKit Go.Lib in
/-- The same at nil: nil comes back; the world is as it was. (LAID: no walk: one application.) -/
theorem Try.slices_Clone_string_nil (n c : Nat) (w : World) :
    Calls Try.prog 92 #[.slice none n c] w fun e w' => e = .returned (.slice none 0 0) ∧ w' = w := Any.slices_Clone_string_nil Try.laysNm216 n c w
open Go.RowKit Go.Lib in
/-- The same at a slice of length 0 that is not nil, WHATEVER ITS ADDRESS (no cell is asked for): a slice that is not nil and owns nothing comes back. (LAID: no walk: one application.) -/
theorem Try.slices_Clone_string_zero (a : Addr) (c : Nat) (w : World) :
    Calls Try.prog 92 #[.slice (some a) 0 c] w fun e w' => ∃ v', e = .returned v' ∧ w'.ownsRow w.heap.size 9 1 v' 0 [] ∧ v' ≠ .slice none 0 0 ∧ Below w.heap.size w w' := Any.slices_Clone_string_zero Try.laysNm216 a c w
end Go.Proofs.Ytinbdibenbplnaa
namespace Go.Proofs.Ytinbdibenbplnaa
open Go.RowKit
set_option linter.unusedVariables false

theorem contains_mem {L : List ByteArray} {x : ByteArray} {z : Bool} (h : decide (x ∈ L) = z) : Lib.containsS L x = z := by
  subst h
  cases hc : Lib.containsS L x with
  | true => exact (decide_eq_true ((Lib.containsS_iff L x).1 hc)).symm
  | false =>
    symm
    refine decide_eq_false fun hm => ?_
    rw [(Lib.containsS_iff L x).2 hm] at hc
    cases hc
theorem txt_cells {w : World} {A : Option Addr} {N cap : Nat} {L : List ByteArray} (h : SIn w A N cap L) (h0 : N ≠ 0) : ∃ b o, A = some ⟨b, o, none⟩ ∧ ∀ j, j < L.length → w.cell? ⟨b, o + j, none⟩ = some (.string (L.getD j ByteArray.empty)) := by
  obtain ⟨x, hx⟩ : ∃ x, L[0]? = some x := ⟨_, List.getElem?_eq_getElem (by rw [h.1]; omega)⟩
  obtain ⟨b, o, hA, _, _⟩ := str_at h.2.2.1 hx
  refine ⟨b, o, hA, fun j hj => ?_⟩
  obtain ⟨b', o', hA', _, hc⟩ := str_at h.2.2.1 (List.getElem?_eq_getElem hj)
  rw [hA] at hA'
  cases hA'
  rw [hc, List.getD_eq_getElem?_getD, List.getElem?_eq_getElem hj]
  rfl
theorem lib_has {A : Option Addr} {N cap : Nat} {L : List ByteArray} {n : ByteArray} {z : Bool} (hz : decide (n ∈ L) = z) (w : World) (h : SIn w A N cap L) : Calls Try.prog 57 #[.slice A N cap, .string n] w fun e w' => e = .returned (.bool z) ∧ w' = w := by
  by_cases h0 : N = 0
  · have e : z = false := by
      rw [← hz]
      have : L = [] := List.eq_nil_of_length_eq_zero (by rw [h.1]; exact h0)
      subst this
      rfl
    subst h0
    rw [e]
    exact Try.slices_Contains_string_empty A cap n w
  · obtain ⟨b, o, rfl, hc⟩ := txt_cells h h0
    have c := Try.slices_Contains_string b o N cap L n w (by rw [h.1]; exact Nat.le_refl _) (by have := h.2.1; omega) hc
    rw [List.take_of_length_le (by rw [h.1]; exact Nat.le_refl _), contains_mem hz] at c
    exact c
theorem rcells_str (L : List ByteArray) : rcells stR L = L.map Value.string := by
  induction L with
  | nil => rfl
  | cons x L ih =>
    unfold rcells at ih ⊢
    rw [List.flatMap_cons, ih]
    rfl
/-- A copy of a slice of texts. -/
def Cloned (w : World) (L : List ByteArray) (e : Ending) (w' : World) : Prop := ∃ v, e = .returned v ∧ ROwn stR w' w.heap.size v L ∧ Below w.heap.size w w'
theorem lib_clone {A : Option Addr} {N cap : Nat} {L : List ByteArray} (w : World) (h : SIn w A N cap L) : Calls Try.prog 92 #[.slice A N cap] w (Cloned w L) := by
  by_cases h0 : N = 0
  · subst h0
    have : L = [] := List.eq_nil_of_length_eq_zero h.1
    subst this
    cases A with
    | none => exact (Try.slices_Clone_string_nil 0 cap w).mono fun e w' ⟨he, hw⟩ => ⟨_, he, by rw [hw]; exact ROwn.nil w _, by rw [hw]; exact Below.refl _ _⟩
    | some a => exact (Try.slices_Clone_string_zero a cap w).mono fun e w' ⟨v, he, ho, _, hb⟩ => ⟨v, he, ho, hb⟩
  · obtain ⟨b, o, rfl, hc⟩ := txt_cells h h0
    have hN := h.2.1
    refine (Try.slices_Clone_string b o N cap L w (by rw [h.1]; exact Nat.le_refl _) (by omega) hc).mono ?_
    rintro e w' ⟨v, he, ho, _, hb⟩
    refine ⟨v, he, ?_, hb⟩
    rw [List.take_of_length_le (by rw [h.1]; exact Nat.le_refl _), ← rcells_str] at ho
    exact ROwn.of ho h.1.symm
/-- The words of a line, in memory. -/
def Worded (w : World) (l : ByteArray) (e : Ending) (w' : World) : Prop := ∃ g N, e = .returned (.slice (some ⟨g, 0, none⟩) N N) ∧ SIn w' (some ⟨g, 0, none⟩) N N (wdsF l) ∧ Below w.heap.size w w'
theorem wdsF_sizes (l : ByteArray) : ∀ x ∈ wdsF l, x.size ≤ l.size := by
  intro x hx
  unfold wdsF at hx
  obtain ⟨p, hp, rfl⟩ := List.mem_map.1 hx
  rw [rB_size]
  have := cut_part (c := 32) hp
  have e : (kb l).length = l.size := by unfold kb; simp
  omega
theorem pre_has (b l : ByteArray) : Lib.hasPrefix l.data.toList b.data.toList = preB b l := by
  unfold Lib.hasPrefix preB kb
  rw [Bool.eq_iff_iff]
  rw [List.isPrefixOf_iff_prefix, List.prefix_iff_eq_take, decide_eq_true_eq]
  exact eq_comm
end Go.Proofs.Ytinbdibenbplnaa
namespace Go.Proofs.Ytinbdibenbplnaa
open Go.RowKit
set_option linter.unusedVariables false

/-- A world in which nothing of 'w' below 'G' has changed. -/
structure Later (G : Nat) (w : World) where
  v : World
  h : Below G w v
instance (G : Nat) (w : World) : Nonempty (Later G w) := ⟨⟨w, Below.refl G w⟩⟩
theorem Later.cell {G : Nat} {w : World} (x : Later G w) {p : Addr} {u : Value} (hp : p.block < G) (h : w.cell? p = some u) : x.v.cell? p = some u := (x.h.cell hp).trans h
theorem Later.call {G : Nat} {w : World} (x : Later G w) {w' : World} (hb : Below x.v.heap.size x.v w') (hG : G ≤ w.heap.size) : ∃ y : Later G w, w' = y.v := ⟨⟨w', x.h.trans (hb.mono (Nat.le_trans hG x.h.size))⟩, rfl⟩
theorem wp_region_later {P : Program} {id : Nat} {Q : Exit → Act → World → Prop} {a : Act} {l : List Oper} (G : Nat) (w : World) (hm : P.follows .mixedOrders = true) (hB : Region.lexB .any l.toArray = true)
    (h : wpQuiet P l.toArray (fun w' => ∃ x : Later G w, w' = x.v) (fun a' => ∀ w', (∃ x : Later G w, w' = x.v) → Q .normal a' w') l a) : (Code.region id l.toArray true).wp P Q a w :=
  wp_region_quiet (C := fun w' => ∃ x : Later G w, w' = x.v) hm hB ⟨⟨w.drew, ⟨(Below.refl G w).os, (Below.refl G w).tape, (Below.refl G w).output, (Below.refl G w).size, (Below.refl G w).block⟩⟩, rfl⟩ (by simpa using h)
end Go.Proofs.Ytinbdibenbplnaa
namespace Go.Proofs.Ytinbdibenbplnaa
open Go.RowKit
set_option linter.unusedVariables false

set_option maxHeartbeats 1000000 in
theorem spec_has {A : Option Addr} {N cap : Nat} {L : List ByteArray} {n : ByteArray} {z : Bool} (hz : decide (n ∈ L) = z) (w : World) (h : SIn w A N cap L) : Calls Try.prog 63 #[.slice A N cap, .string n] w fun e w' => e = .returned (.bool z) ∧ w' = w := by
  have H := Lib.hid h
  have HZ := Lib.hid hz
  have hl := h.2.1
  clear h hz
  go_enter Try.func63, Try.ntmps63
  go_wp2
  go_loopw [5] (fun i wr => ∃ k : Nat, k ≤ N ∧ i = .int .i64 (k : Int) ∧ Hid (¬ n ∈ L.take k) ∧ wr = w) (fun i _ => N - (intOf i).toNat)
  case atStart => exact ⟨0, Nat.zero_le _, by go_num, Lib.hid (by simp), rfl⟩
  case round =>
    obtain ⟨k, hk, rfl, HG, rfl⟩ := hrel
    by_cases hlt : k < N
    · have h0 : (0 : Int) ≤ (k : Int) := by omega
      have h5 : (k : Int) < (N : Int) := by omega
      obtain ⟨x, hx⟩ : ∃ x, L[k]? = some x := ⟨_, List.getElem?_eq_getElem (by rw [H.out.1]; exact hlt)⟩
      obtain ⟨b, o, rfl, hb, c0⟩ := str_at H.out.2.2.1 hx
      by_cases hn : x = n
      · have HE := Lib.hid (HZ.out.symm.trans (mem_here hx hn))
        subst hn
        clear hx
        go_wp2
        go_ret
        exact ⟨ret_bl HE.out.symm, rfl⟩
      · have HE := Lib.hid (mem_step HG.out hx hn)
        obtain ⟨v1, v2⟩ := ne_walk hn
        clear hx hn
        go_wp2
        go_roundw
        case rel => exact ⟨k + 1, by omega, by go_num, HE, trivial⟩
        case measure => simp [intOf]; omega
    · have h5 : ¬ (k : Int) < (N : Int) := by omega
      have HE : Hid (z = false) := Lib.hid (HZ.out.symm.trans (decide_eq_false (by have := HG.out; rw [List.take_of_length_le (by rw [H.out.1]; omega)] at this; exact this)))
      go_wp2
      go_ret
      exact ⟨ret_bl HE.out.symm, rfl⟩
set_option maxRecDepth 20000 in
set_option maxHeartbeats 2000000 in
theorem spec_names {A : Option Addr} {N cap : Nat} {T : List ByteArray} (w : World) (h : SIn w A N cap T) : Calls Try.prog 50 #[.slice A N cap] w (SayB w (n21 T)) := by
  have H := Lib.hid h
  have hl := h.2.1
  have hcap := h.2.2.2.2.2.2.1
  clear h
  go_enter Try.func50, Try.ntmps50
  go_wp2
  go_loopw [3] (fun i wr => ∃ k : Nat, k ≤ N ∧ i = .int .i64 (k : Int) ∧ Hid (namesB (T.take k) = true) ∧ Hid (Below w.heap.size w wr)) (fun i _ => N - (intOf i).toNat)
  case atStart => exact ⟨0, Nat.zero_le _, by go_num, Lib.hid (by rw [List.take_zero]; exact namesB_nil), Below.refl _ _⟩
  case round =>
    obtain ⟨k, hk, rfl, HG, HB⟩ := hrel
    by_cases hlt : k < N
    · have h0 : (0 : Int) ≤ (k : Int) := by omega
      have h5 : (k : Int) < (N : Int) := by omega
      have h6 : (k : Int) ≤ (cap : Int) := by omega
      obtain ⟨x, hx⟩ : ∃ x, T[k]? = some x := ⟨_, List.getElem?_eq_getElem (by rw [H.out.1]; exact hlt)⟩
      have hxs : x.size ≤ 16777216 := H.out.2.2.2.2.2.1 x (List.mem_of_getElem? hx)
      have HW := Lib.hid (H.out.below HB.out (Nat.le_refl _))
      obtain ⟨b, o, rfl, hb, c0⟩ := str_at HW.out.2.2.1 hx
      have HX := Lib.hid hx
      have l0 : ∀ y : Later wr.heap.size wr, y.v.cell? ⟨b, o + k, none⟩ = some (.string x) := fun y => y.cell hb c0
      have HF := Lib.hid (HW.out.front (show k ≤ N by omega))
      clear hx
      cases hn : nameB (kb x) with
      | false =>
        have HN := Lib.hid hn
        have HE := Lib.hid (n21_bad (namesB_bad HX.out hn))
        clear hn
        go_wp2
        refine wp_region_later wr.heap.size wr (by kernel_rfl) (by kernel_rfl) ?_
        repeat (go_big_quiet_step ((go_at_call 49; refine (sname_at HN.out hxs _).mono ?_; rintro e w2 ⟨rfl, rfl⟩; exact ⟨rfl, _, rfl⟩)))
        refine wpQuiet_nil ?_
        intro _ hw'
        obtain ⟨⟨w2, hb2⟩, rfl⟩ := hw'
        have H6 := Lib.hid (HB.out.trans (hb2.mono HB.out.size))
        clear hb2
        go_wp2
        go_ret
        exact says_b HE.out H6.out
      | true =>
        have HN := Lib.hid hn
        clear hn
        cases hm : decide (x ∈ T.take k) with
        | true =>
          have HM := Lib.hid hm
          have HE := Lib.hid (n21_bad (namesB_twice HX.out hm))
          clear hm
          go_wp2
          refine wp_region_later wr.heap.size wr (by kernel_rfl) (by kernel_rfl) ?_
          have HL : ∀ y : Later wr.heap.size wr, Calls Try.prog 63 #[.slice (some ⟨b, o, none⟩) k cap, .string x] y.v fun e w' => e = .returned (.bool true) ∧ w' = y.v := fun y => spec_has HM.out y.v (HF.out.below y.h (Nat.le_refl _))
          repeat (go_big_quiet_step (first | (go_at_call 49; refine (sname_at HN.out hxs _).mono ?_; rintro e w2 ⟨rfl, rfl⟩; exact ⟨rfl, _, rfl⟩) | (go_at_call 63; refine (HL _).mono ?_; rintro e w2 ⟨rfl, rfl⟩; exact ⟨rfl, _, rfl⟩)))
          refine wpQuiet_nil ?_
          intro _ hw'
          obtain ⟨⟨w2, hb2⟩, rfl⟩ := hw'
          have H6 := Lib.hid (HB.out.trans (hb2.mono HB.out.size))
          clear hb2 HL
          go_wp2
          go_ret
          exact says_b HE.out H6.out
        | false =>
          have HM := Lib.hid hm
          have HE := Lib.hid (namesB_next HG.out HX.out HN.out hm)
          clear hm
          go_wp2
          refine wp_region_later wr.heap.size wr (by kernel_rfl) (by kernel_rfl) ?_
          have HL : ∀ y : Later wr.heap.size wr, Calls Try.prog 63 #[.slice (some ⟨b, o, none⟩) k cap, .string x] y.v fun e w' => e = .returned (.bool false) ∧ w' = y.v := fun y => spec_has HM.out y.v (HF.out.below y.h (Nat.le_refl _))
          repeat (go_big_quiet_step (first | (go_at_call 49; refine (sname_at HN.out hxs _).mono ?_; rintro e w2 ⟨rfl, rfl⟩; exact ⟨rfl, _, rfl⟩) | (go_at_call 63; refine (HL _).mono ?_; rintro e w2 ⟨rfl, rfl⟩; exact ⟨rfl, _, rfl⟩)))
          refine wpQuiet_nil ?_
          intro _ hw'
          obtain ⟨⟨w2, hb2⟩, rfl⟩ := hw'
          have H6 := Lib.hid (HB.out.trans (hb2.mono HB.out.size))
          clear hb2 HL
          go_wp2
          go_roundw
          case rel => exact ⟨k + 1, by omega, by go_num, HE, H6⟩
          case measure => simp [intOf]; omega
    · have h5 : ¬ (k : Int) < (N : Int) := by omega
      have HE : Hid (n21 T = decide (N ≤ 3)) := Lib.hid ((n21_all HG.out (by rw [H.out.1]; omega)).trans (by rw [H.out.1]))
      by_cases h3 : N ≤ 3
      · have h3' : (N : Int) ≤ 3 := by omega
        go_wp2
        go_ret
        exact says_b (HE.out.trans (decide_eq_true h3)) HB.out
      · have h3' : ¬ (N : Int) ≤ 3 := by omega
        go_wp2
        go_ret
        exact says_b (HE.out.trans (decide_eq_false h3)) HB.out
theorem names_at {A : Option Addr} {N cap : Nat} {T : List ByteArray} {z : Bool} (hz : n21 T = z) (w : World) (h : SIn w A N cap T) : Calls Try.prog 50 #[.slice A N cap] w (SayB w z) := by
  subst hz
  exact spec_names w h
set_option maxRecDepth 20000 in
set_option maxHeartbeats 2000000 in
theorem impl_receivers {A : Option Addr} {N cap : Nat} {T : List ByteArray} (w : World) (h : SIn w A N cap T) : Calls Try.prog 48 #[.slice A N cap] w (SayB w (recB T)) := by
  have H := Lib.hid h
  have hl := h.2.1
  have hcap := h.2.2.2.2.2.2.1
  clear h
  by_cases h0N : N = 0
  · subst h0N
    have HE : Hid (recB T = false) := Lib.hid (recB_long (by rw [H.out.1]; omega))
    go_enter Try.func48, Try.ntmps48
    go_wp2
    go_ret
    exact says_b HE.out (Below.refl _ _)
  have hN0 : ((N : Int) == 0) = false := beq_eq_false_iff_ne.2 (by omega)
  have hN1 : 1 ≤ N := by omega
  clear h0N
  by_cases h3 : N ≤ 3
  · have h3' : ¬ (3 : Int) < (N : Int) := by omega
    go_enter Try.func48, Try.ntmps48
    go_wp2
    go_loopw [15] (fun i wr => ∃ k : Nat, k ≤ N ∧ i = .int .i64 (k : Int) ∧ Hid (namesB (T.take k) = true) ∧ Hid (Below w.heap.size w wr)) (fun i _ => N - (intOf i).toNat)
    case atStart => exact ⟨0, Nat.zero_le _, by go_num, Lib.hid (by rw [List.take_zero]; exact namesB_nil), Below.refl _ _⟩
    case round =>
      obtain ⟨k, hk, rfl, HG, HB⟩ := hrel
      by_cases hlt : k < N
      · have h0 : (0 : Int) ≤ (k : Int) := by omega
        have h5 : (k : Int) < (N : Int) := by omega
        have h6 : (k : Int) ≤ (cap : Int) := by omega
        obtain ⟨x, hx⟩ : ∃ x, T[k]? = some x := ⟨_, List.getElem?_eq_getElem (by rw [H.out.1]; exact hlt)⟩
        have hxs : x.size ≤ 16777216 := H.out.2.2.2.2.2.1 x (List.mem_of_getElem? hx)
        have HW := Lib.hid (H.out.below HB.out (Nat.le_refl _))
        obtain ⟨b, o, rfl, hb, c0⟩ := str_at HW.out.2.2.1 hx
        have HX := Lib.hid hx
        have HF := Lib.hid (HW.out.front (show k ≤ N by omega))
        clear hx
        cases hn : nameB (kb x) with
        | false =>
          have HN := Lib.hid hn
          have HE := Lib.hid (recB_bad (namesB_bad HX.out hn))
          clear hn
          go_wp2_with fail
          refine (iname_at HN.out hxs _).mono ?_
          rintro e w2 ⟨rfl, hb2⟩
          have H6 := Lib.hid (HB.out.trans (hb2.mono HB.out.size))
          clear hb2
          go_wp2
          go_ret
          exact says_b HE.out H6.out
        | true =>
          have HN := Lib.hid hn
          clear hn
          cases hm : decide (x ∈ T.take k) with
          | true =>
            have HM := Lib.hid hm
            have HE := Lib.hid (recB_bad (namesB_twice HX.out hm))
            clear hm
            go_wp2_with fail
            refine (iname_at HN.out hxs _).mono ?_
            rintro e w2 ⟨rfl, hb2⟩
            have H6 := Lib.hid (HB.out.trans (hb2.mono HB.out.size))
            have HF2 := Lib.hid (HF.out.below hb2 (Nat.le_refl _))
            clear hb2
            go_wp2_with fail
            refine (lib_has HM.out _ HF2.out).mono ?_
            rintro e w3 ⟨rfl, rfl⟩
            go_wp2
            go_ret
            exact says_b HE.out H6.out
          | false =>
            have HM := Lib.hid hm
            have HE := Lib.hid (namesB_next HG.out HX.out HN.out hm)
            clear hm
            go_wp2_with fail
            refine (iname_at HN.out hxs _).mono ?_
            rintro e w2 ⟨rfl, hb2⟩
            have H6 := Lib.hid (HB.out.trans (hb2.mono HB.out.size))
            have HF2 := Lib.hid (HF.out.below hb2 (Nat.le_refl _))
            clear hb2
            go_wp2_with fail
            refine (lib_has HM.out _ HF2.out).mono ?_
            rintro e w3 ⟨rfl, rfl⟩
            go_wp2
            go_roundw
            case rel => exact ⟨k + 1, by omega, by go_num, HE, H6⟩
            case measure => simp [intOf]; omega
      · have h5 : ¬ (k : Int) < (N : Int) := by omega
        have HE : Hid (recB T = true) := Lib.hid (recB_all HG.out (by rw [H.out.1]; omega) (by rw [H.out.1]; exact hN1) (by rw [H.out.1]; exact h3))
        go_wp2
        go_ret
        exact says_b HE.out HB.out
  · have h3' : (3 : Int) < (N : Int) := by omega
    have HE : Hid (recB T = false) := Lib.hid (recB_long (by rw [H.out.1]; omega))
    go_enter Try.func48, Try.ntmps48
    go_wp2
    go_ret
    exact says_b HE.out (Below.refl _ _)
theorem receivers_at {A : Option Addr} {N cap : Nat} {T : List ByteArray} {z : Bool} (hz : recB T = z) (w : World) (h : SIn w A N cap T) : Calls Try.prog 48 #[.slice A N cap] w (SayB w z) := by
  subst hz
  exact impl_receivers w h
end Go.Proofs.Ytinbdibenbplnaa
namespace Go.Proofs.Ytinbdibenbplnaa
open Go.RowKit
set_option linter.unusedVariables false

theorem sz_eB {v : ByteArray} (h : v.size = 0) : v = eB := by
  refine rB_ext ?_
  have : v.data.toList.length = 0 := by simpa using h
  rw [List.eq_nil_of_length_eq_zero this]
  rfl
theorem ne_eB {v : ByteArray} (h : v.size ≠ 0) : decide (v = eB) = false := decide_eq_false fun e => h (by rw [e]; rfl)
theorem ne_nil {L : List ByteArray} (h : L.length ≠ 0) : decide (L = []) = false := decide_eq_false fun e => h (by rw [e]; rfl)
theorem recB_n21 {L : List ByteArray} (h : n21 L = true) (h1 : L.length ≠ 0) : recB L = true := by unfold recB; rw [h, decide_eq_true (show 1 ≤ L.length by omega)]; rfl
theorem recB_zero {L : List ByteArray} (h : L.length = 0) : recB L = false := recB_long (by omega)
theorem sbV_names {s : Sb} (h : n21 s.to = false) : sbV s = false := by
  cases hv : sbV s with
  | false => rfl
  | true =>
    exfalso
    obtain ⟨h0, h6⟩ := sbV_range hv
    have hnil : s.to = [] → False := fun e => by rw [e] at h; cases h
    have hrec : recB s.to = true → False := fun e => by unfold recB at e; rw [h] at e; cases e
    rcases (show (s.st = 0 ∨ s.st = 1 ∨ s.st = 6) ∨ (s.st = 2 ∨ s.st = 3) ∨ s.st = 4 ∨ s.st = 5 by omega) with h1 | h1 | h1 | h1
    · rw [sbV_low h1] at hv; simp at hv; exact hnil hv.2.1
    · rw [sbV_mid h1] at hv; simp at hv; exact hnil hv.2.1
    · rw [sbV_to h1] at hv; simp at hv; exact hrec hv.2.1
    · rw [sbV_data h1] at hv; simp at hv; exact hrec hv.2.1
theorem sbV_long {s : Sb} (h : ¬ s.tx.size ≤ 21) : sbV s = false := by
  cases hv : sbV s with
  | false => rfl
  | true => exact absurd (sbV_has hv).2.2.2.1 h
theorem two_in {a b x : Int} {z : Bool} (h : (decide (a ≤ x) && decide (x ≤ b)) = z) : (decide (a ≤ x) && decide (x ≤ b)) = z := h
end Go.Proofs.Ytinbdibenbplnaa
namespace Go.Proofs.Ytinbdibenbplnaa
open Go.RowKit
set_option linter.unusedVariables false

end Go.Proofs.Ytinbdibenbplnaa
namespace Go.Proofs.Ytinbdibenbplnaa
open Go.RowKit Go.ChangeShapes Go.WideShapes
set_option linter.unusedVariables false

/-- What is left of a bound behind texts, or -1. -/
def szT : List ByteArray → Int → Int
  | [], z => z
  | m :: L, z => if z - (m.size : Int) < 0 then -1 else szT L (z - (m.size : Int))
theorem szT_le : ∀ {L : List ByteArray} {z : Int}, 0 ≤ z → szT L z ≤ z ∧ (0 ≤ szT L z → ∀ g ∈ L, (g.size : Int) ≤ z)
  | [], z, _ => ⟨Int.le_refl _, fun _ g hg => by cases hg⟩
  | m :: L, z, h => by
    rw [szT]
    split
    · exact ⟨by omega, fun h2 => by omega⟩
    · have := szT_le (L := L) (z := z - (m.size : Int)) (by omega)
      refine ⟨by omega, fun h2 g hg => ?_⟩
      rcases List.mem_cons.1 hg with rfl | hg
      · omega
      · have := this.2 h2 g hg
        omega
def szL (L : List ByteArray) (z : Int) : Int := if z - (L.length : Int) < 0 then -1 else szT L (z - (L.length : Int))
theorem szL_le {L : List ByteArray} {z : Int} (h : 0 ≤ z) : szL L z ≤ z ∧ (0 ≤ szL L z → (L.length : Int) ≤ z ∧ ∀ g ∈ L, (g.size : Int) ≤ z) := by
  unfold szL
  split
  · exact ⟨by omega, fun h2 => by omega⟩
  · have := szT_le (L := L) (z := z - (L.length : Int)) (by omega)
    exact ⟨by omega, fun h2 => ⟨by omega, fun g hg => by have := this.2 h2 g hg; omega⟩⟩
/-- The same of a text, a list of texts and a text. -/
def szM (a : ByteArray) (L : List ByteArray) (c : ByteArray) (z : Int) : Int :=
  if z - (a.size : Int) < 0 then -1 else if szL L (z - (a.size : Int)) < 0 then -1 else if szL L (z - (a.size : Int)) - (c.size : Int) < 0 then -1 else szL L (z - (a.size : Int)) - (c.size : Int)
theorem szM_ok {a c : ByteArray} {L : List ByteArray} {z : Int} (h : 0 ≤ z) (h2 : 0 ≤ szM a L c z) : (a.size : Int) ≤ z ∧ (L.length : Int) ≤ z ∧ (c.size : Int) ≤ z ∧ ∀ g ∈ L, (g.size : Int) ≤ z := by
  unfold szM at h2
  split at h2
  · omega
  · split at h2
    · omega
    · split at h2
      · omega
      · have := szL_le (L := L) (z := z - (a.size : Int)) (by omega)
        have h3 := this.2 (by omega)
        exact ⟨by omega, by omega, by omega, fun g hg => by have := h3.2 g hg; omega⟩
/-- A list of texts that was handed in. -/
def StrA (w : World) (A : Option Addr) (n cap : Nat) (L : List ByteArray) : Prop := L.length = n ∧ n ≤ cap ∧ cap ≤ maxLen ∧ RAt stR w A L ∧ ∀ g ∈ L, g.size ≤ maxLen
theorem StrA.below {w w' : World} {A : Option Addr} {n cap B : Nat} {L : List ByteArray} (h : StrA w A n cap L) (hb : Below B w w') (hB : w.heap.size ≤ B) : StrA w' A n cap L := ⟨h.1, h.2.1, h.2.2.1, h.2.2.2.1.below hb hB, h.2.2.2.2⟩
set_option maxHeartbeats 2000000 in
theorem sz_strs (A : Option Addr) (n cap : Nat) (left r : Int) (L : List ByteArray) (w : World) (h : StrA w A n cap L) (hl : 0 ≤ left) (hl2 : left ≤ 1048576) (hr : szL L left = r) :
    Calls Try.prog 65 #[.slice A n cap, .int .i64 left] w fun e w' => e = .returned (.int .i64 r) ∧ Below w.heap.size w w' := by
  have H := Lib.hid h.2.2.2.1
  have HN := Lib.hid h.1
  have HT := Lib.hid h.2.2.2.2
  have hm2 : n ≤ 9223372036854775807 := by have := h.2.1; have := h.2.2.1; unfold maxLen at this; omega
  have hr2 := hr
  unfold szL at hr2
  rw [h.1] at hr2
  clear h hr
  by_cases hle : left - (n : Int) < 0
  · rw [if_pos hle] at hr2
    subst hr2
    have h3 : IntKind.i64.wrap (left - (n : Int)) = left - (n : Int) := IntWalk.i64_in _ (by omega)
    go_enter Try.func65, Try.ntmps65
    go_wp2
    go_ret
    exact ⟨rfl, Below.refl _ _⟩
  rw [if_neg hle] at hr2
  obtain ⟨z0, hz0⟩ : ∃ z, left - (n : Int) = z := ⟨_, rfl⟩
  have W1 : IntKind.i64.wrap (left - (n : Int)) = z0 := (IntWalk.i64_in _ (by omega)).trans hz0
  have hz00 : 0 ≤ z0 := by omega
  have hz0f : ¬ z0 < 0 := by omega
  have hz01 : z0 ≤ 1048576 := by omega
  rw [hz0] at hr2
  have HR := Lib.hid hr2
  clear hr2 hz0 hle
  go_enter Try.func65, Try.ntmps65
  go_wp2
  go_loopw [1, 5] (fun zv i wr => ∃ (k : Nat) (z : Int), k ≤ n ∧ 0 ≤ z ∧ z ≤ 1048576 ∧ zv = .int .i64 z ∧ i = .int .i64 (k : Int) ∧ Hid (szT (L.drop k) z = r) ∧ Hid (Below w.heap.size w wr)) (fun _ i _ => n - (intOf i).toNat)
  case atStart => exact ⟨0, z0, Nat.zero_le _, hz00, hz01, rfl, by go_num, HR.out, Below.refl _ _⟩
  case round =>
    obtain ⟨k, z, hk, hzp, hz1, rfl, rfl, HZ, HB⟩ := hrel
    by_cases hlt : k < n
    · have h0 : (0 : Int) ≤ (k : Int) := by omega
      have h5 : (k : Int) < (n : Int) := by omega
      have hkl : k < L.length := by rw [HN.out]; exact hlt
      obtain ⟨m, hx⟩ : ∃ x, L[k]? = some x := ⟨_, List.getElem?_eq_getElem hkl⟩
      obtain ⟨b, o, rfl, hb, c0⟩ := str_at (H.out.below HB.out (Nat.le_refl _)) hx
      have hml : m.size ≤ 9223372036854775807 := by have := HT.out _ (List.mem_of_getElem? hx); unfold maxLen at this; omega
      have hd : L.drop k = m :: L.drop (k + 1) := by rw [List.drop_eq_getElem_cons hkl, (List.getElem?_eq_some_iff.1 hx).2]
      have hz2 := HZ.out
      rw [hd, szT] at hz2
      clear hx hd hkl
      by_cases hs : z - (m.size : Int) < 0
      · rw [if_pos hs] at hz2
        subst hz2
        have W1 : IntKind.i64.wrap (z - (m.size : Int)) = z - (m.size : Int) := IntWalk.i64_in _ (by omega)
        go_wp2
        go_ret
        exact ⟨rfl, HB.out⟩
      · rw [if_neg hs] at hz2
        obtain ⟨y, hy⟩ : ∃ y, z - (m.size : Int) = y := ⟨_, rfl⟩
        rw [hy] at hz2
        have HZ2 := Lib.hid hz2
        have W1 : IntKind.i64.wrap (z - (m.size : Int)) = y := (IntWalk.i64_in _ (by omega)).trans hy
        have hs0 : 0 ≤ y := by omega
        have hs2 : ¬ y < 0 := by omega
        have hs1 : y ≤ 1048576 := by omega
        clear hz2 hy hs
        go_wp2
        go_roundw
        case rel => exact ⟨k + 1, y, by omega, hs0, hs1, rfl, by go_num, HZ2.out, HB⟩
        case measure => simp [intOf]; omega
    · have h5 : ¬ (k : Int) < (n : Int) := by omega
      obtain rfl : k = n := by omega
      have hz2 := HZ.out
      rw [List.drop_of_length_le (Nat.le_of_eq HN.out)] at hz2
      obtain rfl : z = r := hz2
      go_wp2
      go_ret
      exact ⟨rfl, HB.out⟩
set_option maxHeartbeats 2000000 in
theorem to_strs (A : Option Addr) (n cap : Nat) (P : List ByteArray) (w : World) (hn : P.length = n) (h : RAt stR w A P) (hl : n ≤ 1048576) :
    Calls Try.prog 67 #[.slice A n cap] w fun e w' => ∃ g, e = .returned (.slice (some ⟨g, 0, none⟩) n n) ∧ ROwn stR w' w.heap.size (.slice (some ⟨g, 0, none⟩) n n) P ∧ Below w.heap.size w w' := by
  obtain ⟨i0, hi, hq0, hq1, hq2⟩ := info_parts Try.infoString
  have HN := Lib.hid hn
  have H := Lib.hid h
  clear hn h
  have hb2 : i0.bytes * n ≤ 281474976710656 := by rw [hq2]; omega
  have hb3 : n ≤ maxLen := by unfold maxLen; omega
  go_enter Try.func67, Try.ntmps67
  go_wp2_with (at_make; refine wpList_make_full _ rfl _ _ 23 rfl w.heap.size 9 i0 (.string ⟨#[]⟩) 1 Try.underlying23 hi hq0 hq1 .i64 .i64 (n : Int) (n : Int) n rfl rfl rfl rfl hb2 hb3 (Nat.le_refl _) ?_)
  intro w1 hown hgrow
  obtain ⟨N, hN⟩ : ∃ N, w.heap.size = N := ⟨_, rfl⟩
  have HNN := Lib.hid hN
  have HB1 : Hid (Below N w w1) := hN ▸ (Below.refl _ _).grown hgrow (Nat.le_refl _) (fun z hz => by cases hz)
  have hN1 : N ≤ w1.heap.size := hN ▸ hgrow.size
  have ho1 : ROwn stR w1 N (.slice (some ⟨N, 0, none⟩) n n) (List.replicate n (⟨#[]⟩ : ByteArray)) := by
    unfold ROwn
    rw [List.length_replicate, ← made_rows stR (.string ⟨#[]⟩) ⟨#[]⟩ rfl (by decide), show n * stR.sz = n from Nat.mul_one n, ← hN]
    exact hown
  have HO1 := Lib.hid ho1
  rw [hN]
  clear hown hgrow ho1 hN
  go_wp2
  go_loopw [4] (fun i wr => ∃ k : Nat, k ≤ n ∧ i = .int .i64 (k : Int) ∧ N ≤ wr.heap.size ∧ Hid (Below N w wr) ∧ Hid (ROwn stR wr N (.slice (some ⟨N, 0, none⟩) n n) (P.take k ++ List.replicate (n - k) (⟨#[]⟩ : ByteArray)))) (fun i _ => n - (intOf i).toNat)
  case atStart => exact ⟨0, Nat.zero_le _, by go_num, hN1, HB1, by rw [List.take_zero, List.nil_append, Nat.sub_zero]; exact HO1⟩
  case round =>
    obtain ⟨k, hk, rfl, hNr, HB, HO⟩ := hrel
    by_cases hlt : k < n
    · have h0 : (0 : Int) ≤ (k : Int) := by omega
      have h5 : (k : Int) < (n : Int) := by omega
      obtain ⟨x, hx⟩ : ∃ x, P[k]? = some x := ⟨_, List.getElem?_eq_getElem (by rw [HN.out]; omega)⟩
      obtain ⟨b, o, rfl, hbz, c0⟩ := str_at (H.out.below HB.out (Nat.le_of_eq HNN.out)) hx
      obtain ⟨y, hy⟩ : ∃ y, (P.take k ++ List.replicate (n - k) (⟨#[]⟩ : ByteArray))[k]? = some y := ⟨_, List.getElem?_eq_getElem (by rw [List.length_append, List.length_take, List.length_replicate, HN.out]; omega)⟩
      have d0 := HO.out.cell hy (j := 0) rfl
      have f0 := HO.out.free k
      have h1 := HO.out.stored (y := x) (j := 0) (u := .string x) hy (by decide) rfl
      simp only [stR, Nat.mul_one, Nat.add_zero] at d0 h1
      have HST := Lib.hid h1
      have HX := Lib.hid hx
      clear hx hy h1
      go_wp2
      go_roundw
      case rel =>
        refine ⟨k + 1, by omega, by go_num, by simpa using hNr, HB.out.setCell (Nat.le_refl _) _, ?_⟩
        rw [← set_next HN.out HX.out]
        exact HST.out.1
      case measure => simp [intOf]; omega
    · have h5 : ¬ (k : Int) < (n : Int) := by omega
      have hkn : k = n := by omega
      have ho := HO.out
      rw [hkn, List.take_of_length_le (by rw [HN.out]; exact Nat.le_refl _), Nat.sub_self, List.replicate_zero, List.append_nil] at ho
      have HOE := Lib.hid ho
      clear ho hkn
      go_wp2
      go_ret
      exact ⟨N, rfl, HNN.out ▸ HOE.out, HNN.out ▸ HB.out⟩
set_option maxHeartbeats 2000000 in
theorem eq_strs (A A2 : Option Addr) (n cap cap2 : Nat) (P : List ByteArray) (w : World) (h : SIn w A n cap P) (h2 : SIn w A2 n cap2 P) :
    Calls Try.prog 69 #[.slice A n cap, .slice A2 n cap2] w fun e w' => e = .returned (.bool true) ∧ Below w.heap.size w w' := by
  have H := Lib.hid h
  have H2 := Lib.hid h2
  have hl := h.2.1
  clear h h2
  have hlb : ((n : Int) != (n : Int)) = false := by simp
  go_enter Try.func69, Try.ntmps69
  go_wp2
  go_loopw [5] (fun i wr => ∃ k : Nat, k ≤ n ∧ i = .int .i64 (k : Int) ∧ Hid (Below w.heap.size w wr)) (fun i _ => n - (intOf i).toNat)
  case atStart => exact ⟨0, Nat.zero_le _, by go_num, Below.refl _ _⟩
  case round =>
    obtain ⟨k, hk, rfl, HB⟩ := hrel
    by_cases hlt : k < n
    · have h0 : (0 : Int) ≤ (k : Int) := by omega
      have h5 : (k : Int) < (n : Int) := by omega
      obtain ⟨x, hx⟩ : ∃ x, P[k]? = some x := ⟨_, List.getElem?_eq_getElem (by rw [H.out.1]; exact hlt)⟩
      obtain ⟨b, o, rfl, hb, c0⟩ := str_at (H.out.2.2.1.below HB.out (Nat.le_refl _)) hx
      obtain ⟨b', o', rfl, hb', d0⟩ := str_at (H2.out.2.2.1.below HB.out (Nat.le_refl _)) hx
      clear hx
      go_wp2
      go_quiet (fail)
      go_wp2
      go_roundw
      case rel => exact ⟨k + 1, by omega, by go_num, below_drewN' HB.out _⟩
      case measure => simp [intOf]; omega
    · have h5 : ¬ (k : Int) < (n : Int) := by omega
      go_wp2
      go_ret
      exact ⟨rfl, HB.out⟩
set_option maxHeartbeats 2000000 in
theorem sz_letter (us tx : ByteArray) (T : List ByteArray) (A : Option Addr) (N cap : Nat) (z r : Int) (w : World) (h : StrA w A N cap T) (hus : us.size ≤ maxLen) (htx : tx.size ≤ maxLen) (hz : 0 ≤ z) (hz2 : z ≤ 1048576) (hr : szM us T tx z = r) :
    Calls Try.prog 37 #[.agg #[.string us, .slice A N cap, .string tx], .int .i64 z] w fun e w' => e = .returned (.int .i64 r) ∧ Below w.heap.size w w' := by
  have hus2 : us.size ≤ 9223372036854775807 := by unfold maxLen at hus; omega
  have htx2 : tx.size ≤ 9223372036854775807 := by unfold maxLen at htx; omega
  have hW := Whole.made w 55 #[.string us, .slice A N cap, .string tx]
  have HW := Lib.hid hW
  have HB := Lib.hid ((Below.refl w.heap.size w).alloc (Nat.le_refl _) (.cells #[.string us, .slice A N cap, .string tx] 55))
  have H := Lib.hid (h.below HB.out (Nat.le_refl _))
  have c1 := hW.cell 0
  have c2 := hW.cell 1
  simp at c1 c2
  unfold szM at hr
  clear h hW hus htx
  by_cases h1 : z - (us.size : Int) < 0
  · rw [if_pos h1] at hr
    subst hr
    have W1 : IntKind.i64.wrap (z - (us.size : Int)) = z - (us.size : Int) := IntWalk.i64_in _ (by omega)
    go_enter Try.func37, Try.ntmps37
    go_wp2
    go_ret
    exact ⟨rfl, HB.out⟩
  · rw [if_neg h1] at hr
    obtain ⟨y, hy⟩ : ∃ y, z - (us.size : Int) = y := ⟨_, rfl⟩
    rw [hy] at hr
    have hy0 : 0 ≤ y := by omega
    have hyf : ¬ y < 0 := by omega
    have hy1 : y ≤ 1048576 := by omega
    have W1 : IntKind.i64.wrap (z - (us.size : Int)) = y := (IntWalk.i64_in _ (by omega)).trans hy
    obtain ⟨v, hv⟩ : ∃ v, szL T y = v := ⟨_, rfl⟩
    have hv1 := (szL_le (L := T) hy0).1
    rw [hv] at hr hv1
    have HV := Lib.hid hv
    clear hy h1 hv
    by_cases h2 : v < 0
    · rw [if_pos h2] at hr
      subst hr
      go_enter Try.func37, Try.ntmps37
      go_wp2_with fail
      refine (sz_strs A N cap y v T _ H.out hy0 hy1 HV.out).mono ?_
      rintro e w1 ⟨rfl, hb⟩
      have HB1 := Lib.hid (HB.out.trans (hb.mono HB.out.size))
      clear hb
      go_wp2
      go_ret
      exact ⟨rfl, HB1.out⟩
    · rw [if_neg h2] at hr
      have WW : Hid (∀ q : Int, v - (tx.size : Int) = q → IntKind.i64.wrap (v - (tx.size : Int)) = q) := Lib.hid (fun q hq => (IntWalk.i64_in _ (by omega)).trans hq)
      have hc : (v - (tx.size : Int) < 0 ∧ r = -1) ∨ (¬ r < 0 ∧ v - (tx.size : Int) = r) := by
        by_cases h3 : v - (tx.size : Int) < 0
        · rw [if_pos h3] at hr; exact .inl ⟨h3, hr.symm⟩
        · rw [if_neg h3] at hr; exact .inr ⟨by omega, hr⟩
      clear hr
      rcases hc with ⟨h3, rfl⟩ | ⟨h3, h4⟩
      · have W2 := WW.out _ rfl
        go_enter Try.func37, Try.ntmps37
        go_wp2_with fail
        refine (sz_strs A N cap y v T _ H.out hy0 hy1 HV.out).mono ?_
        rintro e w1 ⟨rfl, hb⟩
        have HB1 := Lib.hid (HB.out.trans (hb.mono HB.out.size))
        have d3 := (HW.out.below hb HW.out.lt).cell 2
        simp at d3
        clear hb
        go_wp2
        go_ret
        exact ⟨rfl, HB1.out⟩
      · have W2 := WW.out _ h4
        clear h4
        go_enter Try.func37, Try.ntmps37
        go_wp2_with fail
        refine (sz_strs A N cap y v T _ H.out hy0 hy1 HV.out).mono ?_
        rintro e w1 ⟨rfl, hb⟩
        have HB1 := Lib.hid (HB.out.trans (hb.mono HB.out.size))
        have d3 := (HW.out.below hb HW.out.lt).cell 2
        simp at d3
        clear hb
        go_wp2
        go_ret
        exact ⟨rfl, HB1.out⟩
set_option maxHeartbeats 2000000 in
theorem to_letter (us tx : ByteArray) (T : List ByteArray) (A : Option Addr) (N cap : Nat) (w : World) (h : StrA w A N cap T) (hl : N ≤ 1048576) :
    Calls Try.prog 39 #[.agg #[.string us, .slice A N cap, .string tx]] w fun e w' => ∃ g, e = .returned (.agg #[.string us, .slice (some ⟨g, 0, none⟩) N N, .string tx]) ∧ ROwn stR w' w.heap.size (.slice (some ⟨g, 0, none⟩) N N) T ∧ Below w.heap.size w w' := by
  have H := Lib.hid h
  clear h
  obtain ⟨S, hS⟩ : ∃ S, w.heap.size = S := ⟨_, rfl⟩
  have HS := Lib.hid hS
  obtain ⟨wq, hwq⟩ : ∃ wq, (((w.alloc (.cells #[.string us, .slice A N cap, .string tx] 55)).alloc (.cells #[.string ⟨#[]⟩, .slice none 0 0, .string ⟨#[]⟩] 25)).alloc (.cells #[.string us, .slice none 0 0, .string ⟨#[]⟩] 25)) = wq := ⟨_, rfl⟩
  have HBA : Hid (Below S w wq) := by rw [← hwq, ← hS]; exact (((Below.refl _ _).alloc (Nat.le_refl _) _).alloc (by simp) _).alloc (by simp; omega) _
  have HW0 : Hid (Whole wq S 55 #[.string us, .slice A N cap, .string tx]) := by
    rw [← hwq, ← hS]
    exact ((Whole.made w 55 #[.string us, .slice A N cap, .string tx]).alloc _).alloc _
  have HW1 : Hid (Whole wq (S + 1) 25 #[.string ⟨#[]⟩, .slice none 0 0, .string ⟨#[]⟩]) := by
    rw [← hwq, ← hS]
    have h2 := Whole.made (w.alloc (.cells #[.string us, .slice A N cap, .string tx] 55)) 25 #[.string ⟨#[]⟩, .slice none 0 0, .string ⟨#[]⟩]
    rw [show (w.alloc (.cells #[.string us, .slice A N cap, .string tx] 55)).heap.size = w.heap.size + 1 by simp] at h2
    exact h2.alloc _
  have HW2 : Hid (Whole wq (S + 1 + 1) 25 #[.string us, .slice none 0 0, .string ⟨#[]⟩]) := by
    rw [← hwq, ← hS]
    have h2 := Whole.made ((w.alloc (.cells #[.string us, .slice A N cap, .string tx] 55)).alloc (.cells #[.string ⟨#[]⟩, .slice none 0 0, .string ⟨#[]⟩] 25)) 25 #[.string us, .slice none 0 0, .string ⟨#[]⟩]
    rw [show ((w.alloc (.cells #[.string us, .slice A N cap, .string tx] 55)).alloc (.cells #[.string ⟨#[]⟩, .slice none 0 0, .string ⟨#[]⟩] 25)).heap.size = w.heap.size + 1 + 1 by simp] at h2
    exact h2
  have hzq : S + 1 + 1 < wq.heap.size := HW2.out.lt
  have HA := Lib.hid (H.out.below HBA.out (Nat.le_of_eq hS))
  have c2 := HW0.out.cell 1
  simp at c2
  go_enter Try.func39, Try.ntmps39
  go_wp2_with fail
  refine (to_strs A N cap T _ H.out.1 HA.out.2.2.2.1 hl).mono ?_
  rintro e w2 ⟨g, rfl, hown, hb⟩
  have hzS : S ≤ wq.heap.size := by omega
  have HO2 := Lib.hid (hown.from hzS)
  have HB2 := Lib.hid (HBA.out.trans (hb.mono hzS))
  have HV0 := Lib.hid (HW0.out.below hb HW0.out.lt)
  have HV1 := Lib.hid (HW1.out.below hb HW1.out.lt)
  have HV2 := Lib.hid (HW2.out.below hb HW2.out.lt)
  clear hb hown c2
  have a3 := HV0.out.cell 2
  have b0 := HV1.out.cell 0
  have e0 := HV1.out.free 0
  have g0 := HV2.out.cell 0
  have k0 := HV2.out.free 0
  have b1 := HV1.out.cell 1
  have e1 := HV1.out.free 1
  have g1 := HV2.out.cell 1
  have k1 := HV2.out.free 1
  have b2 := HV1.out.cell 2
  have e2 := HV1.out.free 2
  have g2 := HV2.out.cell 2
  have k2 := HV2.out.free 2
  simp at a3 b0 g0 b1 g1 b2 g2
  go_wp2
  refine bodyPost_ret (v := .agg #[.string us, .slice (some ⟨g, 0, none⟩) N N, .string tx]) (by simp [results, Try.results39, go_sem, *]) rfl ?_
  refine ⟨g, rfl, ?_, ?_⟩
  · rw [HS.out]
    refine ROwn.store (ROwn.store (ROwn.store (ROwn.store (ROwn.store HO2.out ?_ _) ?_ _) ?_ _) ?_ _) ?_ _ <;> first | exact HO2.out.whole HV2.out (by decide) | exact HO2.out.whole HV1.out (by decide)
  · rw [HS.out]
    refine (((((HB2.out.setCell ?_ _).setCell ?_ _).setCell ?_ _).setCell ?_ _).setCell ?_ _) <;> (simp <;> try omega)
set_option maxHeartbeats 1000000 in
theorem eq_letter (us tx : ByteArray) (T : List ByteArray) (A A2 : Option Addr) (N cap cap2 : Nat) (w : World) (h : SIn w A N cap T) (h2 : SIn w A2 N cap2 T) :
    Calls Try.prog 41 #[.agg #[.string us, .slice A N cap, .string tx], .agg #[.string us, .slice A2 N cap2, .string tx]] w fun e w' => e = .returned (.bool true) ∧ Below w.heap.size w w' := by
  obtain ⟨wq, hwq⟩ : ∃ wq, ((w.alloc (.cells #[.string us, .slice A N cap, .string tx] 25)).alloc (.cells #[.string us, .slice A2 N cap2, .string tx] 25)) = wq := ⟨_, rfl⟩
  have HBA : Hid (Below w.heap.size w wq) := by rw [← hwq]; exact ((Below.refl w.heap.size w).alloc (Nat.le_refl _) _).alloc (by simp) _
  have HW0 : Hid (Whole wq w.heap.size 25 #[.string us, .slice A N cap, .string tx]) := by
    rw [← hwq]
    exact (Whole.made w 25 #[.string us, .slice A N cap, .string tx]).alloc _
  have HW1 : Hid (Whole wq (w.heap.size + 1) 25 #[.string us, .slice A2 N cap2, .string tx]) := by
    rw [← hwq]
    have h3 := Whole.made (w.alloc (.cells #[.string us, .slice A N cap, .string tx] 25)) 25 #[.string us, .slice A2 N cap2, .string tx]
    rw [show (w.alloc (.cells #[.string us, .slice A N cap, .string tx] 25)).heap.size = w.heap.size + 1 by simp] at h3
    exact h3
  have H := Lib.hid (h.below HBA.out (Nat.le_refl _))
  have H2 := Lib.hid (h2.below HBA.out (Nat.le_refl _))

  clear h h2
  have x0 := HW0.out.cell 0
  have y0 := HW1.out.cell 0
  have x1 := HW0.out.cell 1
  have y1 := HW1.out.cell 1
  simp at x0 y0 x1 y1
  go_enter Try.func41, Try.ntmps41
  go_wp2_with fail
  refine (eq_strs A A2 N cap cap2 T _ H.out H2.out).mono ?_
  rintro e w2 ⟨rfl, hb⟩
  have HB2 := Lib.hid (HBA.out.trans (hb.mono HBA.out.size))
  have x3 := (HW0.out.below hb HW0.out.lt).cell 2
  have y3 := (HW1.out.below hb HW1.out.lt).cell 2
  simp at x3 y3
  clear hb x0 y0 x1 y1
  go_wp2
  go_ret
  exact ⟨rfl, HB2.out⟩
section
variable {H : Type} {enc : TypeId × Value → H} {w : World} {base : Nat} {spare : Nat → Bool} {held : Bool}
def StrArg (w : World) (A : Option Addr) (n cap : Nat) : Prop := ∃ L, StrA w A n cap L
theorem open_strs {fuel : Nat} {cs : List Value} {x : DataW H × List MemPlace} (h : DataW.trod enc Try.prog w base spare held fuel 23 cs = some x) :
    ∃ A len cap, cs = [.slice A len cap] ∧ StrArg w A len cap := by
  rcases Deep.open_slice1 Try.underlying23 (by kernel_rfl) h with ⟨hcs, _⟩ | ⟨a, len, cap, m, n, V, D, Pl, hcs, hb, hl, hm, hmm, _, hx⟩
  · exact ⟨none, 0, 0, hcs, [], rfl, Nat.le_refl _, by unfold maxLen; omega, RAt.nil _ _, fun g hg => by cases hg⟩
  · have each : ∀ i, i < len → ∃ q : ByteArray, w.cell? (a.add i) = some (.string q) ∧ q.size ≤ maxLen := by
      intro i hi
      obtain ⟨h1, h2⟩ := hx i (by rw [hmm]; split <;> omega)
      obtain ⟨u, hu, _, hsz⟩ := DataW.trod_string Try.underlying9 h2
      simp only [List.cons.injEq, and_true] at hu
      exact ⟨u, by rw [h1, hu], hsz⟩
    obtain ⟨q, hq⟩ := Deep.choose_lt each
    refine ⟨some a, len, cap, hcs, (List.range len).map q, by simp, hl, hm, ?_, ?_⟩
    · intro i y hy
      have hi : i < len := by have := (List.getElem?_eq_some_iff.1 hy).1; simpa using this
      have e0 := (hq i hi).1
      have hs : a.spot = none := by
        have := World.cell?_spot (hq 0 (by omega)).1
        simpa [Addr.add] using this
      obtain ⟨xb, xo, spot⟩ := a
      simp only at hs
      subst hs
      have he : y = q i := by simp [hi] at hy; exact hy.symm
      subst he
      rw [radd] at e0
      refine ⟨xb, xo, rfl, by simpa using block_lt_of_cell e0, fun j u hu => ?_⟩
      match j, hu with
      | 0, hu => cases hu; show w.cell? ⟨xb, xo + i * 1 + 0, none⟩ = _; rw [Nat.mul_one, Nat.add_zero]; exact e0
      | j + 1, hu => simp [stR] at hu
    · intro m hm2
      obtain ⟨i, hi, rfl⟩ := List.mem_map.1 hm2
      exact (hq i (List.mem_range.1 hi)).2
end
end Go.Proofs.Ytinbdibenbplnaa
