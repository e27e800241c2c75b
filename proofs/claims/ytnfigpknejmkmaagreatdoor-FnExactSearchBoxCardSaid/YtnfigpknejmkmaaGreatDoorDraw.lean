/-
  The contracts of the reader of codes (spec.l6Open, pick, of). Condition: the code's bytes can be read below the reader's own block, and the place is small.
-/
import Derived.Test.YtnfigpknejmkmaaGreatDoorCut
namespace Go.Proofs.YtnfigpknejmkmaaGreatDoor
open Go.RowKit
set_option linter.unusedVariables false

/-- The bytes of a code: 'len' of them lie below block 'B', each from 0 to 255. -/
def Bytes (w : World) (B : Nat) (A : Option Addr) (len : Nat) : Prop :=
  len ≤ 2000 ∧ (0 < len → ∃ (xb xo : Nat) (f : Nat → Int), A = some ⟨xb, xo, none⟩ ∧ xb < B ∧ ∀ i, i < len → w.cell? ⟨xb, xo + i, none⟩ = some (.int .u8 (f i)) ∧ 0 ≤ f i ∧ f i ≤ 255)
theorem Bytes.kept {w w' : World} {B len : Nat} {A : Option Addr} (h : Bytes w B A len) (hk : ∀ p : Addr, p.block < B → w'.cell? p = w.cell? p) : Bytes w' B A len :=
  ⟨h.1, fun hl => by
    obtain ⟨xb, xo, f, hA, hb, hc⟩ := h.2 hl
    exact ⟨xb, xo, f, hA, hb, fun i hi => ⟨(hk _ hb).trans (hc i hi).1, (hc i hi).2⟩⟩⟩
/-- A reader of codes, in block 'b', at place 'p'. -/
def Rd (w : World) (b p : Nat) : Prop := ∃ (A : Option Addr) (len cap : Nat), Whole w b 94 #[.slice A len cap, .int .i64 (p : Int)] ∧ Bytes w b A len
theorem Rd.lt {w : World} {b p : Nat} (h : Rd w b p) : b < w.heap.size := by
  obtain ⟨_, _, _, h, _⟩ := h
  exact h.lt
theorem Rd.drewN {w : World} {b p : Nat} (h : Rd w b p) (n : Nat) : Rd (w.drewN n) b p := h
theorem Rd.grown {w w' : World} {b p g : Nat} (h : Rd w b p) (hg : w.grownBy w' (some g)) (hb : b < g) : Rd w' b p := by
  obtain ⟨A, len, cap, hW, hB⟩ := h
  have hl := hW.lt
  exact ⟨A, len, cap, hW.grown hg (by simp; omega), hB.kept fun q hq => World.cell?_of_block (hg.block q.block (by omega) (by simp; omega))⟩
theorem Rd.below {w w' : World} {b p B : Nat} (h : Rd w b p) (hg : Below B w w') (hb : b < B) : Rd w' b p := by
  obtain ⟨A, len, cap, hW, hB⟩ := h
  have hl := hW.lt
  exact ⟨A, len, cap, hW.below hg hb, hB.kept fun q hq => hg.cell (by omega)⟩

theorem xor_nonneg (a b : Int) (ha : 0 ≤ a) (ha' : a < 9223372036854775808) (hb : 0 ≤ b) (hb' : b < 9223372036854775808) : 0 ≤ bits .xor .i64 a b := by
  obtain ⟨x, rfl⟩ : ∃ x : Nat, a = x := ⟨a.toNat, by omega⟩
  obtain ⟨y, rfl⟩ : ∃ y : Nat, b = y := ⟨b.toNat, by omega⟩
  have hx : (BitVec.ofInt 64 (x : Int)).toNat = x := by rw [BitVec.ofInt_natCast, BitVec.toNat_ofNat]; exact Nat.mod_eq_of_lt (by omega)
  have hy : (BitVec.ofInt 64 (y : Int)).toNat = y := by rw [BitVec.ofInt_natCast, BitVec.toNat_ofNat]; exact Nat.mod_eq_of_lt (by omega)
  have hlt : x ^^^ y < 2 ^ 63 := Nat.xor_lt_two_pow (by omega) (by omega)
  show 0 ≤ IntKind.i64.wrap ((BitVec.ofInt 64 (x : Int) ^^^ BitVec.ofInt 64 (y : Int)).toNat : Int)
  rw [BitVec.toNat_xor, hx, hy, IntKind.wrap_i64]
  omega
theorem rem_nat (x : Int) (n : Nat) (hx : 0 ≤ x) (hn : 1 ≤ n) : ∃ r : Nat, r < n ∧ x % (n : Int) = (r : Int) := by
  have h1 : 0 ≤ x % (n : Int) := Int.emod_nonneg _ (by omega)
  have h2 : x % (n : Int) < (n : Int) := Int.emod_lt_of_pos _ (by omega)
  exact ⟨(x % (n : Int)).toNat, by omega, by omega⟩

theorem ret_int {k : IntKind} {a b : Int} (h : a = b) : Ending.returned (.int k a) = .returned (.int k b) := by rw [h]
theorem rd_next {w : World} {b p len cap : Nat} {A : Option Addr} (h : Whole w b 94 #[.slice A len cap, .int .i64 (p : Int)]) (hB : Bytes w b A len) : Rd (w.setCell ⟨b, 1, none⟩ (.int .i64 ((p : Int) + 1))) b (p + 1) :=
  ⟨A, len, cap, by have := h.store 1 (.int .i64 ((p : Int) + 1)); exact this, hB.kept fun q hq => World.cell?_setCell_other w _ q _ (fun e => by subst e; simp at hq)⟩
/-- What 'pick' leaves. -/
def Picked (w : World) (b p : Nat) (n : Nat) (e : Ending) (w' : World) : Prop := ∃ x : Nat, x < n ∧ e = .returned (.int .i64 (x : Int)) ∧ Rd w' b (p + 1) ∧ w.grownBy w' (some b)

set_option maxHeartbeats 2000000 in
theorem pick_any (b p n : Nat) (w : World) (h : Rd w b p) (hp : p ≤ 1000000) (hn : 1 ≤ n) (hn' : n ≤ 1000000) :
    Calls Tryz.prog 29 #[.pointer (some ⟨b, 0, none⟩), .int .i64 (n : Int)] w (Picked w b p n) := by
  obtain ⟨A, len, cap, hW, hB⟩ := h
  have h0 : w.cell? ⟨b, 0, none⟩ = some (.slice A len cap) := hW.cell 0
  have h1 : w.cell? ⟨b, 1, none⟩ = some (.int .i64 (p : Int)) := hW.cell 1
  have hf := hW.free 1
  have HW := Lib.hid hW
  have hl := hB.1
  have HB := Lib.hid hB
  clear hW hB
  have hn1 : ¬ (n : Int) < 1 := by omega
  by_cases hz : len = 0
  · subst hz
    go_enter Tryz.func29, Tryz.ntmps29
    go_wp2
    go_ret
    exact ⟨0, by omega, rfl, rd_next HW.out HB.out, gr_store (gr_refl _ _) (.inl rfl) _⟩
  · obtain ⟨xb, xo, f, rfl, hxb, hc⟩ := HB.out.2 (by omega)
    have hlz : ((len : Int) == 0) = false := by simp; omega
    by_cases hlt : p < len
    · obtain ⟨hcp, hf0, hf1⟩ := hc p hlt
      have HCC := Lib.hid hc
      clear hc
      go_enter Tryz.func29, Tryz.ntmps29
      go_wp2
      go_ret
      obtain ⟨r, hr, he⟩ := rem_nat (f p) n hf0 hn
      exact ⟨r, hr, ret_int he, rd_next HW.out HB.out, gr_store (gr_refl _ _) (.inl rfl) _⟩
    · obtain ⟨q1, hq1⟩ : ∃ q, p % len = q := ⟨_, rfl⟩
      obtain ⟨q2, hq2⟩ : ∃ q, (p * 7 + 3) % len = q := ⟨_, rfl⟩
      obtain ⟨d, hd⟩ : ∃ q, p / len = q := ⟨_, rfl⟩
      have l1 : q1 < len := hq1 ▸ Nat.mod_lt _ (by omega)
      have l2 : q2 < len := hq2 ▸ Nat.mod_lt _ (by omega)
      have ld : d ≤ p := hd ▸ Nat.div_le_self _ _
      obtain ⟨c1, a1, b1⟩ := hc q1 l1
      obtain ⟨c2, a2, b2⟩ := hc q2 l2
      obtain ⟨v1, hv1⟩ : ∃ v, f q1 = v := ⟨_, rfl⟩
      obtain ⟨v2, hv2⟩ : ∃ v, f q2 = v := ⟨_, rfl⟩
      rw [hv1] at c1 a1 b1
      rw [hv2] at c2 a2 b2
      have E1 : (p : Int).tmod (len : Int) = (q1 : Int) := by rw [← hq1]; exact IntWalk.up_tmod rfl rfl
      have E2 : ((p : Int) * 7 + 3).tmod (len : Int) = (q2 : Int) := by rw [← hq2]; exact IntWalk.up_tmod (by omega) rfl
      have E3 : (p : Int).tdiv (len : Int) = (d : Int) := by rw [← hd]; exact IntWalk.up_tdiv rfl rfl
      have W1 : IntKind.i64.wrap ((p : Int) * 7) = (p : Int) * 7 := IntWalk.i64_in _ (by omega)
      have W2 : IntKind.i64.wrap ((p : Int) * 7 + 3) = (p : Int) * 7 + 3 := IntWalk.i64_in _ (by omega)
      have W3 : IntKind.i64.wrap v1 = v1 := IntWalk.i64_in _ (by omega)
      have W4 : IntKind.i64.wrap v2 = v2 := IntWalk.i64_in _ (by omega)
      have W5 : IntKind.i64.wrap (v1 * 131) = v1 * 131 := IntWalk.i64_in _ (by omega)
      have W6 : IntKind.i64.wrap (v2 * 1117) = v2 * 1117 := IntWalk.i64_in _ (by omega)
      have W7 : IntKind.i64.wrap (v1 * 131 + v2 * 1117) = v1 * 131 + v2 * 1117 := IntWalk.i64_in _ (by omega)
      have W8 : IntKind.i64.wrap ((p : Int) * 29) = (p : Int) * 29 := IntWalk.i64_in _ (by omega)
      have W9 : IntKind.i64.wrap (v1 * 131 + v2 * 1117 + (p : Int) * 29) = v1 * 131 + v2 * 1117 + (p : Int) * 29 := IntWalk.i64_in _ (by omega)
      have Wa : IntKind.i64.wrap (d : Int) = (d : Int) := IntWalk.i64_in _ (by omega)
      have Wb : IntKind.i64.wrap ((d : Int) * 53) = (d : Int) * 53 := IntWalk.i64_in _ (by omega)
      have Wc : IntKind.i64.wrap (v1 * 131 + v2 * 1117 + (p : Int) * 29 + (d : Int) * 53) = v1 * 131 + v2 * 1117 + (p : Int) * 29 + (d : Int) * 53 := IntWalk.i64_in _ (by omega)
      have i1 : (0 : Int) ≤ (q1 : Int) := by omega
      have i2 : (0 : Int) ≤ (q2 : Int) := by omega
      have i3 : (q1 : Int) < (len : Int) := by omega
      have i4 : (q2 : Int) < (len : Int) := by omega
      clear hq1 hq2 hd hv1 hv2 hc
      go_enter Tryz.func29, Tryz.ntmps29
      go_wp2
      go_quiet (fail)
      obtain ⟨X, hX, x1, x2⟩ : ∃ X : Int, v1 * 131 + v2 * 1117 + (p : Int) * 29 + (d : Int) * 53 = X ∧ 0 ≤ X ∧ X ≤ 1000000000 := ⟨_, rfl, by omega, by omega⟩
      rw [hX]
      clear hX E1 E2 E3 W1 W2 W3 W4 W5 W6 W7 W8 W9 Wa Wb Wc
      have hx := xor_nonneg X (X / 64) (by omega) (by omega) (by omega) (by omega)
      go_wp2
      go_ret
      obtain ⟨r, hr, he⟩ := rem_nat (bits .xor .i64 X (X / 64)) n hx hn
      exact ⟨r, hr, ret_int he, (rd_next HW.out HB.out).drewN _, gr_drewN (gr_store (gr_refl _ _) (.inl rfl) _) _⟩

/-- What 'of' leaves: one of the texts. -/
def Chosen (w : World) (b p : Nat) (ls : List (List UInt8)) (e : Ending) (w' : World) : Prop := ∃ l, l ∈ ls ∧ e = .returned (str l) ∧ Rd w' b (p + 1) ∧ w.grownBy w' (some b)

theorem ret_val {a b : Value} (h : a = b) : Ending.returned a = .returned b := by rw [h]
set_option maxHeartbeats 1000000 in
theorem of_any (b p g cap : Nat) (ls : List (List UInt8)) (w : World) (h : Rd w b p) (hp : p ≤ 1000000) (hn : 1 ≤ ls.length) (hn' : ls.length ≤ 1000000) (hg : g ≠ b) (hgl : g < w.heap.size)
    (hc : ∀ j, j < ls.length → w.cell? ⟨g, j, none⟩ = some (str (ls.getD j []))) :
    Calls Tryz.prog 30 #[.pointer (some ⟨b, 0, none⟩), .slice (some ⟨g, 0, none⟩) ls.length cap] w (Chosen w b p ls) := by
  have HC := Lib.hid hc
  have H := Lib.hid h
  clear hc h
  obtain ⟨n, hln⟩ : ∃ n, ls.length = n := ⟨_, rfl⟩
  rw [hln] at hn hn' ⊢
  have HN := Lib.hid hln
  clear hln
  go_enter Tryz.func30, Tryz.ntmps30
  go_wp2_with fail
  refine (pick_any b p n w H.out hp hn hn').mono ?_
  rintro e w1 ⟨x, hx, rfl, hr, hgr⟩
  have hcx : w1.cell? ⟨g, x, none⟩ = some (str (ls.getD x [])) := (World.cell?_of_block (hgr.block g hgl (by simp; omega))).trans (HC.out x (by rw [HN.out]; exact hx))
  have HR := Lib.hid hr
  have HG := Lib.hid hgr
  clear hr hgr
  have i0 : (0 : Int) ≤ (x : Int) := by omega
  have i1 : (x : Int) < (n : Int) := by omega
  go_wp2
  go_ret
  refine ⟨ls.getD x [], ?_, rfl, HR.out, HG.out⟩
  rw [List.getD_eq_getElem?_getD, List.getElem?_eq_getElem (by rw [HN.out]; exact hx)]
  exact List.getElem_mem _

set_option maxHeartbeats 1000000 in
theorem open_any (A : Option Addr) (len cap : Nat) (w : World) (hc : len ≤ cap) (hcap : cap ≤ maxLen)
    (h : 0 < len → ∃ (xb xo : Nat) (f : Nat → Int), A = some ⟨xb, xo, none⟩ ∧ xb < w.heap.size ∧ ∀ i, i < len → w.cell? ⟨xb, xo + i, none⟩ = some (.int .u8 (f i)) ∧ 0 ≤ f i ∧ f i ≤ 255) :
    Calls Tryz.prog 26 #[.slice A len cap] w fun e w' => e = .returned (.pointer (some ⟨w.heap.size, 0, none⟩)) ∧ Rd w' w.heap.size 0 ∧ Below w.heap.size w w' ∧ w.heap.size < w'.heap.size := by
  unfold maxLen at hcap
  have fin : ∀ (l : Nat), l ≤ 2000 → l ≤ len → Rd (w.alloc (.cells #[.slice A l cap, .int .i64 0] 94)) w.heap.size 0 := by
    intro l h1 h2
    refine ⟨A, l, cap, Whole.made w _ _, h1, fun hl => ?_⟩
    obtain ⟨xb, xo, f, hA, hb, hcc⟩ := h (by omega)
    exact ⟨xb, xo, f, hA, hb, fun i hi => ⟨(World.cell?_alloc_lt w _ ⟨xb, xo + i, none⟩ hb).trans (hcc i (by omega)).1, (hcc i (by omega)).2⟩⟩
  have F := Lib.hid fin
  clear fin h
  by_cases hl : len ≤ 2000
  · have hl' : ¬ (2000 : Int) < (len : Int) := by omega
    go_enter Tryz.func26, Tryz.ntmps26
    go_wp2
    go_ret
    exact ⟨rfl, F.out len hl (Nat.le_refl _), (Below.refl _ _).alloc (Nat.le_refl _) _, by simp⟩
  · have hl' : (2000 : Int) < (len : Int) := by omega
    have hl2 : (2000 : Int) ≤ (len : Int) := by omega
    have hl3 : (2000 : Int) ≤ (cap : Int) := by omega
    go_enter Tryz.func26, Tryz.ntmps26
    go_wp2
    go_ret
    exact ⟨rfl, F.out 2000 (Nat.le_refl _) (by omega), (Below.refl _ _).alloc (Nat.le_refl _) _, by simp⟩
end Go.Proofs.YtnfigpknejmkmaaGreatDoor
