/-
  Marks on users, marks that are held in a submission; facts that stand whatever is made later. Condition: what comes in can be read, and is not too long.
-/
import Derived.Test.YtichajalinkcdaaGreatDoorZyd
import Derived.Test.YtichajalinkcdaaGreatDoorZue
import Derived.Test.YtichajalinkcdaaGreatDoorQk
namespace Go.Proofs.YtichajalinkcdaaGreatDoor
open Go.RowKit
set_option linter.unusedVariables false

theorem kp_madeT (w : World) (t : TypeId) (cs : Array Value) {B : Nat} (hB : w.heap.size = B) : Kp (w.alloc (.cells cs t)) fun w' => Below B w w' ∧ Whole w' B t cs := fun w2 h2 => by
  subst hB
  exact ⟨(below_new w _).trans (h2.mono (by simp)), (Whole.made w t cs).below h2 (by simp)⟩
theorem sin_keepT {w : World} {A : Option Addr} {n cap : Nat} {L : List ByteArray} (h : SIn w A n cap L) : Kp w fun w' => SIn w' A n cap L := fun w2 h2 => h.below h2 (Nat.le_refl _)
theorem stra_keepT {w : World} {A : Option Addr} {n cap : Nat} {L : List ByteArray} (h : StrA w A n cap L) : Kp w fun w' => StrA w' A n cap L := fun w2 h2 => h.below h2 (Nat.le_refl _)
theorem rat_keepT {α : Type} {R : RowT α} {w : World} {A : Option Addr} {L : List α} (h : RAt R w A L) : Kp w fun w' => RAt R w' A L := fun w2 h2 => h.below h2 (Nat.le_refl _)
theorem rown_blkT {α : Type} {R : RowT α} {w : World} {B n cap : Nat} {A : Option Addr} {L : List α} (h : ROwn R w B (.slice A n cap) L) : ∀ g, (Value.slice A n cap).ownBlock = some g → B ≤ g ∧ g < w.heap.size := fun g e => World.ownsRow.lt h g e
theorem own_apT {v1 v2 : Value} {P Q : Nat → Prop} (h1 : ∀ g, v1.ownBlock = some g → P g) (h2 : ∀ g, v2.ownBlock = some g → Q g) (hd : ∀ g, P g → Q g → False) : v1.ownBlock = none ∨ v1.ownBlock ≠ v2.ownBlock := by
  cases h : v1.ownBlock with
  | none => exact .inl rfl
  | some g => exact .inr fun e => hd g (h1 g h) (h2 g e.symm)
theorem set_len {L : List Us} {k n : Nat} {x : Us} (h : L.length = n) : (L.set k x).length = n := by rw [List.length_set, h]
set_option maxRecDepth 20000 in
set_option maxHeartbeats 4000000 in
theorem mark_users (s r : Nat) (A : Option Addr) (cap n B : Nat) (P : List Us) (w : World) (hn : P.length = n) (h : ROwn usR w B (.slice A n cap) P) (hl : n ≤ 4000000) (hs : 0 < s) (hs2 : s ≤ 100000000) (hr : s + 3 * n = r) :
    Calls Tryz.prog 37 #[.slice A n cap, .int .i64 (s : Int)] w fun e w' => e = .returned (.int .i64 (r : Int)) ∧ w.grownBy w' (Value.slice A n cap).ownBlock := by
  have HN := Lib.hid hn
  have HO := Lib.hid h
  have HR := Lib.hid hr
  clear h hn hr
  go_enter Tryz.func37, Tryz.ntmps37
  go_wp2
  go_loopw [1, 5] (fun m i wr => ∃ (k z : Nat) (Q : List Us), k ≤ n ∧ z = s + 3 * k ∧ m = .int .i64 (z : Int) ∧ i = .int .i64 (k : Int) ∧ Hid (Q.length = n) ∧ Hid (w.grownBy wr (Value.slice A n cap).ownBlock) ∧ Hid (ROwn usR wr B (.slice A n cap) Q)) (fun _ i _ => n - (intOf i).toNat)
  case atStart => exact ⟨0, s, P, Nat.zero_le _, rfl, by go_num, by go_num, HN, ⟨rfl, rfl, rfl, Nat.le_refl _, fun _ _ _ => rfl⟩, HO.out⟩
  case round =>
    obtain ⟨k, z, Q, hk, hz, rfl, rfl, HQ, HG, HW⟩ := hrel
    have HZ := Lib.hid hz
    by_cases hlt : k < n
    · have h0 : (0 : Int) ≤ (k : Int) := by omega
      have h5 : (k : Int) < (n : Int) := by omega
      have z1 : z ≤ 200000000 := by omega
      have z0 : 0 < z := by omega
      obtain ⟨zb, hzb⟩ : ∃ zb, z + 1 = zb := ⟨_, rfl⟩
      have e1 : (z : Int) + 1 = (zb : Int) := by omega
      obtain ⟨zc, hzc⟩ : ∃ zc, zb + 1 = zc := ⟨_, rfl⟩
      have e2 : (zb : Int) + 1 = (zc : Int) := by omega
      have zb1 : zb ≤ 200000001 := by omega
      have zc1 : zc ≤ 200000002 := by omega
      obtain ⟨g, rfl⟩ := own_blockY HW.out (by omega)
      obtain ⟨⟨y0, y1, y2⟩, hy⟩ : ∃ y, Q[k]? = some y := ⟨_, List.getElem?_eq_getElem (by rw [HQ.out]; exact hlt)⟩
      have HY := Lib.hid hy
      have HKQ : Hid (k < Q.length) := Lib.hid (by rw [HQ.out]; exact hlt)
      have HZB := Lib.hid hzb
      have HZC := Lib.hid hzc
      clear hz hy hzb hzc
      go_wp2_with fail
      refine (mark_text z _ z0 (by omega)).mono ?_
      rintro e w5 ⟨rfl, hb⟩
      have HO5 := Lib.hid (HW.out.kept hb)
      have HG5 := Lib.hid (gr_trans HG.out (gr_belowY (row := (Value.slice (some ⟨g, 0, none⟩) n cap).ownBlock) hb))
      obtain ⟨v, hv⟩ : ∃ v, rB (mt z) = v := ⟨_, rfl⟩
      have d0 := HO5.out.cell HY.out (j := 0) rfl
      have f0 := HO5.out.free (k * 3)
      have h1 := HO5.out.stored (y := (v, y1, y2)) (j := 0) (u := .string v) HY.out (by decide) rfl
      simp only [usR, Nat.add_zero] at d0 h1
      have HST := Lib.hid h1
      obtain ⟨wa, hwa⟩ : ∃ wa, w5.setCell ⟨g, k * 3, none⟩ (.string v) = wa := ⟨_, rfl⟩
      rw [hwa] at HST
      rw [hv]
      clear h1 hb hv
      go_wp2_with fail
      refine (mark_text zb _ (by omega) (by omega)).mono ?_
      rintro e w6 ⟨rfl, hb⟩
      have HO6 := Lib.hid (HST.out.1.kept hb)
      have HG6 := Lib.hid (gr_trans (gr_trans HG5.out HST.out.2) (gr_belowY (row := (Value.slice (some ⟨g, 0, none⟩) n cap).ownBlock) hb))
      obtain ⟨v2, hv2⟩ : ∃ v, rB (mt zb) = v := ⟨_, rfl⟩
      have hy2 : (Q.set k (v, y1, y2))[k]? = some (v, y1, y2) := List.getElem?_set_self HKQ.out
      have HY2 := Lib.hid hy2
      have d1 := HO6.out.cell hy2 (j := 1) rfl
      have f1 := HO6.out.free (k * 3 + 1)
      have h2 := HO6.out.stored (y := (v, v2, y2)) (j := 1) (u := .string v2) hy2 (by decide) rfl
      simp only at d1 h2
      rw [List.set_set] at h2
      have hy3 : (Q.set k (v, v2, y2))[k]? = some (v, v2, y2) := List.getElem?_set_self HKQ.out
      have h3 := h2.1.stored (y := (v, v2, (zc : Int))) (j := 2) (u := .int .i64 (zc : Int)) hy3 (by decide) rfl
      have d2 := h2.1.cell hy3 (j := 2) rfl
      have f2 := h2.1.free (k * 3 + 2)
      simp only at d2 h3
      rw [List.set_set] at h3
      have HST2 := Lib.hid h2
      have HST3 := Lib.hid h3
      rw [hv2]
      clear h2 h3 hb hv2 hy2 hy3 d0 f0
      go_wp2
      go_roundw
      case rel => exact ⟨k + 1, zc + 1, _, by omega, by have := HZ.out; have := HZB.out; have := HZC.out; omega, by go_num, by go_num, set_len HQ.out, gr_trans (gr_trans HG6.out HST2.out.2) HST3.out.2, HST3.out.1⟩
      case measure => simp [intOf]; omega
    · have h5 : ¬ (k : Int) < (n : Int) := by omega
      have HZ2 := Lib.hid (show r = z by have := HR.out; omega)
      clear hz
      go_wp2
      go_ret
      refine ⟨?_, HG.out⟩
      rw [HZ2.out]
      rfl
set_option maxHeartbeats 1000000 in
theorem held_submission (s r : Nat) (st : Int) (us tx : ByteArray) (A : Option Addr) (cap n : Nat) (w : World) (h : RAt stR w A (mks s n)) (hl : n ≤ 4000000) (hs : 0 < s) (hs2 : s ≤ 100000000) (hr : s + n = r) :
    Calls Tryz.prog 38 #[.agg #[.int .i64 st, .string us, .slice A n cap, .string tx], .int .i64 (s : Int)] w fun e w' => e = .returned (.int .i64 (r : Int)) ∧ Below w.heap.size w w' := by
  have HB := Lib.hid ((Below.refl w.heap.size w).alloc (Nat.le_refl _) (.cells #[.int .i64 st, .string us, .slice A n cap, .string tx] 25))
  have H := Lib.hid (h.below HB.out (Nat.le_refl _))
  have hr0 : ¬ (r : Int) < 0 := by omega
  clear h
  go_enter Tryz.func38, Tryz.ntmps38
  go_wp2_with fail
  refine (held_strs s r A cap n _ H.out hl hs hs2 hr).mono ?_
  rintro e w2 ⟨rfl, hb⟩
  have HB2 := Lib.hid (HB.out.trans (hb.mono HB.out.size))
  clear hb
  go_wp2
  go_ret
  exact ⟨rfl, HB2.out⟩
end Go.Proofs.YtichajalinkcdaaGreatDoor
