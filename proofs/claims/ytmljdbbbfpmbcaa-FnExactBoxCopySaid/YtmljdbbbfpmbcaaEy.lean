/-
  The exact laws' own helpers, second part: lists of messages that are equal, marked, looked at; lists of numbers. Condition: the list can be read (marking: it is the call's own).
-/
import Derived.Test.YtmljdbbbfpmbcaaEx
namespace Go.Proofs.Ytmljdbbbfpmbcaa
open Go.RowKit
set_option linter.unusedVariables false

set_option maxHeartbeats 2000000 in
theorem eq_mails (A A2 : Option Addr) (n cap cap2 : Nat) (L : List ML) (w : World) (h : MIn w A n cap L) (h2 : MIn w A2 n cap2 L) :
    Calls Try.prog 65 #[.slice A n cap, .slice A2 n cap2] w fun e w' => e = .returned (.bool true) ∧ Below w.heap.size w w' := by
  have H := Lib.hid h
  have H2 := Lib.hid h2
  have hl := h.2.1
  clear h h2
  have hlb : ((n : Int) != (n : Int)) = false := by simp
  go_enter Try.func65, Try.ntmps65
  go_wp2
  go_loopw [5] (fun i wr => ∃ k : Nat, k ≤ n ∧ i = .int .i64 (k : Int) ∧ Hid (Below w.heap.size w wr)) (fun i _ => n - (intOf i).toNat)
  case atStart => exact ⟨0, Nat.zero_le _, by go_num, Below.refl _ _⟩
  case round =>
    obtain ⟨k, hk, rfl, HB⟩ := hrel
    by_cases hlt : k < n
    · have h0 : (0 : Int) ≤ (k : Int) := by omega
      have h5 : (k : Int) < (n : Int) := by omega
      obtain ⟨⟨u, f, t⟩, hx⟩ : ∃ x, L[k]? = some x := ⟨_, List.getElem?_eq_getElem (by rw [H.out.1]; exact hlt)⟩
      obtain ⟨b, o, rfl, hb, c0, c1, c2⟩ := mail_at (H.out.2.2.1.below HB.out (Nat.le_refl _)) hx
      obtain ⟨b', o', rfl, hb', d0, d1, d2⟩ := mail_at (H2.out.2.2.1.below HB.out (Nat.le_refl _)) hx
      obtain ⟨v, hv⟩ : ∃ v, sB t = v := ⟨_, rfl⟩
      rw [hv] at c2 d2
      clear hx hv
      have HBD : Hid (Below w.heap.size w wr.drew) := HB.out.drew
      have HSZ := Lib.hid HBD.out.size
      go_wp2
      go_region_held3 (fun w' => w'.cell? ⟨b, o + k * 3, none⟩ = some (.int .i64 u) ∧ w'.cell? ⟨b, o + k * 3 + 1, none⟩ = some (.int .i64 f) ∧ w'.cell? ⟨b, o + k * 3 + 2, none⟩ = some (.string v) ∧ w'.cell? ⟨b', o' + k * 3, none⟩ = some (.int .i64 u) ∧ w'.cell? ⟨b', o' + k * 3 + 1, none⟩ = some (.int .i64 f) ∧ w'.cell? ⟨b', o' + k * 3 + 2, none⟩ = some (.string v)) (go_keep)
        ((go_at_call 82; refine (eq_mail_same u f v _).mono ?_; rintro e w2 ⟨rfl, hb2⟩; have HB2 := Lib.hid (HBD.out.trans (hb2.mono HSZ.out)); have hc2 := fun (p : Addr) (hp : p.block < wr.drew.heap.size) => hb2.cell hp; have e0 := (hc2 ⟨b, o + k * 3, none⟩ hb).trans c0; have e1 := (hc2 ⟨b, o + k * 3 + 1, none⟩ hb).trans c1; have e2 := (hc2 ⟨b, o + k * 3 + 2, none⟩ hb).trans c2; have e3 := (hc2 ⟨b', o' + k * 3, none⟩ hb').trans d0; have e4 := (hc2 ⟨b', o' + k * 3 + 1, none⟩ hb').trans d1; have e5 := (hc2 ⟨b', o' + k * 3 + 2, none⟩ hb').trans d2; clear hb2 hc2))
      all_goals
        go_wp2
        go_roundw
        case rel => exact ⟨k + 1, by omega, by go_num, HB2⟩
        case measure => simp [intOf]; omega
    · have h5 : ¬ (k : Int) < (n : Int) := by omega
      go_wp2
      go_ret
      exact ⟨rfl, HB.out⟩

/-- The marks on messages, from a number on. -/
def mkm (s n : Nat) : List ML := (List.range n).map fun i => (((s + 3 * i : Nat) : Int), ((s + 3 * i + 1 : Nat) : Int), mt (s + 3 * i + 2))
theorem mkm_len (s n : Nat) : (mkm s n).length = n := by unfold mkm; simp
theorem mkm_succ (s n : Nat) : mkm s (n + 1) = mkm s n ++ [(((s + 3 * n : Nat) : Int), ((s + 3 * n + 1 : Nat) : Int), mt (s + 3 * n + 2))] := by unfold mkm; rw [List.range_succ, List.map_append]; rfl
theorem mkm_at {s n i : Nat} (h : i < n) : (mkm s n)[i]? = some (((s + 3 * i : Nat) : Int), ((s + 3 * i + 1 : Nat) : Int), mt (s + 3 * i + 2)) := by unfold mkm; simp [h]
theorem gr_belowE {w w' : World} {row : Option Nat} (h : Below w.heap.size w w') : w.grownBy w' row := ⟨h.os, h.tape, h.output, h.size, fun b hb _ => h.block b hb⟩
theorem own_block {α : Type} {R : RowT α} {w : World} {B n cap : Nat} {A : Option Addr} {L : List α} (h : ROwn R w B (.slice A n cap) L) (h0 : 0 < n) : ∃ g, A = some ⟨g, 0, none⟩ := by
  have hl := h.len.1
  obtain ⟨A', c, he, _, _, _, _, hne⟩ := h.form
  cases he
  exact hne (by intro e; rw [hl, e] at h0; simp at h0)

set_option maxHeartbeats 4000000 in
theorem mark_mails (s r : Nat) (A : Option Addr) (cap n B : Nat) (L : List ML) (w : World) (hn : L.length = n) (h : ROwn mailR w B (.slice A n cap) L) (hl : n ≤ 4000000) (hs : 0 < s) (hs2 : s ≤ 100000000) (hr : s + 3 * n = r) :
    Calls Try.prog 68 #[.slice A n cap, .int .i64 (s : Int)] w fun e w' => e = .returned (.int .i64 (r : Int)) ∧ ROwn mailR w' B (.slice A n cap) (mkm s n) ∧ w.grownBy w' (Value.slice A n cap).ownBlock := by
  have HN := Lib.hid hn
  have HO := Lib.hid h
  have HR := Lib.hid hr
  clear h hn hr
  go_enter Try.func68, Try.ntmps68
  go_wp2
  go_loopw [1, 5] (fun m i wr => ∃ k z : Nat, k ≤ n ∧ z = s + 3 * k ∧ m = .int .i64 (z : Int) ∧ i = .int .i64 (k : Int) ∧ Hid (w.grownBy wr (Value.slice A n cap).ownBlock) ∧ Hid (ROwn mailR wr B (.slice A n cap) (mkm s k ++ L.drop k))) (fun _ i _ => n - (intOf i).toNat)
  case atStart => exact ⟨0, s, Nat.zero_le _, rfl, by go_num, by go_num, gr_refl _ _, HO.out⟩
  case round =>
    obtain ⟨k, z, hk, hz, rfl, rfl, HG, HW⟩ := hrel
    have HZ := Lib.hid hz
    by_cases hlt : k < n
    · have h0 : (0 : Int) ≤ (k : Int) := by omega
      have h5 : (k : Int) < (n : Int) := by omega
      obtain ⟨z1, hz1⟩ : ∃ y, z + 1 = y := ⟨_, rfl⟩
      obtain ⟨z2, hz2⟩ : ∃ y, z1 + 1 = y := ⟨_, rfl⟩
      obtain ⟨z3, hz3⟩ : ∃ y, z2 + 1 = y := ⟨_, rfl⟩
      have E1 : (z : Int) + 1 = (z1 : Int) := by omega
      have E2 : (z1 : Int) + 1 = (z2 : Int) := by omega
      have E3 : (z2 : Int) + 1 = (z3 : Int) := by omega
      have hzb : z3 ≤ 200000000 := by omega
      have W1 : IntKind.i64.wrap ((z : Int) + 1) = (z1 : Int) := (IntWalk.i64_in _ (by omega)).trans E1
      have W2 : IntKind.i64.wrap ((z1 : Int) + 1) = (z2 : Int) := (IntWalk.i64_in _ (by omega)).trans E2
      have W3 : IntKind.i64.wrap ((z2 : Int) + 1) = (z3 : Int) := (IntWalk.i64_in _ (by omega)).trans E3
      obtain ⟨g, rfl⟩ := own_block HW.out (by omega)
      have hkl : k < L.length := by rw [HN.out]; exact hlt
      obtain ⟨⟨yu, yf, yt⟩, hy⟩ : ∃ y, (mkm s k ++ L.drop k)[k]? = some y := ⟨_, front_some (mkm_len s k) hkl⟩
      have d0 := HW.out.cell hy (j := 0) rfl
      have d1 := HW.out.cell hy (j := 1) rfl
      have d2 := HW.out.cell hy (j := 2) rfl
      have f0 := HW.out.free (k * 3)
      have f1 := HW.out.free (k * 3 + 1)
      have f2 := HW.out.free (k * 3 + 2)
      simp only [mailR, Nat.add_zero] at d0 d1 d2
      obtain ⟨h1, g1⟩ := HW.out.stored (y := ((z : Int), yf, yt)) (j := 0) (u := .int .i64 (z : Int)) hy (by decide) rfl
      have hkk : k < (mkm s k ++ L.drop k).length := (List.getElem?_eq_some_iff.1 hy).1
      have hy1 : ((mkm s k ++ L.drop k).set k ((z : Int), yf, yt))[k]? = some ((z : Int), yf, yt) := by rw [List.getElem?_set_self hkk]
      obtain ⟨h2, g2⟩ := h1.stored (y := ((z : Int), (z1 : Int), yt)) (j := 1) (u := .int .i64 (z1 : Int)) hy1 (by decide) rfl
      rw [List.set_set] at h2
      have hy2 : ((mkm s k ++ L.drop k).set k ((z : Int), (z1 : Int), yt))[k]? = some ((z : Int), (z1 : Int), yt) := by rw [List.getElem?_set_self hkk]
      have HO2 := Lib.hid h2
      have HG2 := Lib.hid (gr_trans HG.out (gr_trans g1 g2))
      have HY2 := Lib.hid hy2
      have HMM : Hid ((((mkm s k ++ L.drop k).set k ((z : Int), (z1 : Int), yt)).set k ((z : Int), (z1 : Int), mt z2)) = mkm s (k + 1) ++ L.drop (k + 1)) := by
        show _ = _
        rw [List.set_set, set_front _ (mkm_len s k) hkl, mkm_succ, ← hz, ← hz2, ← hz1]
      have HZ3 : Hid (z3 = s + 3 * (k + 1)) := by show _ = _; omega
      clear hy hy1 hy2 h1 h2 g1 g2 hz hz1 hz2 hz3
      go_wp2_with fail
      refine (mark_text z2 _ (by omega) (by omega)).mono ?_
      rintro e w5 ⟨rfl, hb⟩
      have HO5 := Lib.hid (HO2.out.kept hb)
      have HG5 := Lib.hid (gr_trans HG2.out (gr_belowE (row := (Value.slice (some ⟨g, 0, none⟩) n cap).ownBlock) hb))
      obtain ⟨v, hv⟩ : ∃ v, sB (mt z2) = v := ⟨_, rfl⟩
      have i0 := HO5.out.cell HY2.out (j := 0) rfl
      have i1 := HO5.out.cell HY2.out (j := 1) rfl
      have i2 := HO5.out.cell HY2.out (j := 2) rfl
      have j2 := HO5.out.free (k * 3 + 2)
      simp only [mailR, Nat.add_zero] at i0 i1 i2
      obtain ⟨h3, g3⟩ := HO5.out.stored (y := ((z : Int), (z1 : Int), mt z2)) (j := 2) (u := .string (sB (mt z2))) HY2.out (by decide) rfl
      rw [HMM.out, hv] at h3
      rw [hv] at g3 ⊢
      have HO6 := Lib.hid h3
      have HG6 := Lib.hid (gr_trans HG5.out g3)
      clear h3 g3 hb hv
      go_wp2
      go_roundw
      case rel => exact ⟨k + 1, z3, by omega, HZ3.out, rfl, by go_num, HG6, HO6⟩
      case measure => simp [intOf]; omega
    · have h5 : ¬ (k : Int) < (n : Int) := by omega
      have hkn : k = n := by omega
      have ho := HW.out
      rw [hkn, List.drop_of_length_le (by rw [HN.out]; exact Nat.le_refl _), List.append_nil] at ho
      have HOE := Lib.hid ho
      have HZ2 := Lib.hid (show r = z by have := HR.out; omega)
      clear ho hkn hz
      go_wp2
      go_ret
      refine ⟨?_, HOE.out, HG.out⟩
      rw [HZ2.out]
      rfl

set_option maxHeartbeats 4000000 in
theorem held_mails (s r : Nat) (A : Option Addr) (cap n : Nat) (w : World) (h : RAt mailR w A (mkm s n)) (hl : n ≤ 4000000) (hs : 0 < s) (hs2 : s ≤ 100000000) (hr : s + 3 * n = r) :
    Calls Try.prog 69 #[.slice A n cap, .int .i64 (s : Int)] w fun e w' => e = .returned (.int .i64 (r : Int)) ∧ Below w.heap.size w w' := by
  have H := Lib.hid h
  have HR := Lib.hid hr
  clear h hr
  go_enter Try.func69, Try.ntmps69
  go_wp2
  go_loopw [1, 5] (fun m i wr => ∃ k z : Nat, k ≤ n ∧ z = s + 3 * k ∧ m = .int .i64 (z : Int) ∧ i = .int .i64 (k : Int) ∧ Hid (Below w.heap.size w wr)) (fun _ i _ => n - (intOf i).toNat)
  case atStart => exact ⟨0, s, Nat.zero_le _, rfl, by go_num, by go_num, Below.refl _ _⟩
  case round =>
    obtain ⟨k, z, hk, hz, rfl, rfl, HB⟩ := hrel
    have HZ := Lib.hid hz
    by_cases hlt : k < n
    · have h0 : (0 : Int) ≤ (k : Int) := by omega
      have h5 : (k : Int) < (n : Int) := by omega
      obtain ⟨z1, hz1⟩ : ∃ y, z + 1 = y := ⟨_, rfl⟩
      obtain ⟨z2, hz2⟩ : ∃ y, z1 + 1 = y := ⟨_, rfl⟩
      obtain ⟨z3, hz3⟩ : ∃ y, z2 + 1 = y := ⟨_, rfl⟩
      have E1 : (z : Int) + 1 = (z1 : Int) := by omega
      have E2 : (z1 : Int) + 1 = (z2 : Int) := by omega
      have E3 : (z2 : Int) + 1 = (z3 : Int) := by omega
      have hzb : z3 ≤ 200000000 := by omega
      have W1 : IntKind.i64.wrap ((z : Int) + 1) = (z1 : Int) := (IntWalk.i64_in _ (by omega)).trans E1
      have W2 : IntKind.i64.wrap ((z1 : Int) + 1) = (z2 : Int) := (IntWalk.i64_in _ (by omega)).trans E2
      have W3 : IntKind.i64.wrap ((z2 : Int) + 1) = (z3 : Int) := (IntWalk.i64_in _ (by omega)).trans E3
      have hx := mkm_at (s := s) hlt
      rw [← hz, hz1, show z + 2 = z2 by omega] at hx
      obtain ⟨b, o, rfl, hbz, c0, c1, c2⟩ := mail_at (H.out.below HB.out (Nat.le_refl _)) hx
      obtain ⟨v, hv⟩ : ∃ v, sB (mt z2) = v := ⟨_, rfl⟩
      rw [hv] at c2
      have HV := Lib.hid hv
      have n1 : ((z : Int) != (z : Int)) = false := by simp
      have n2 : ((z1 : Int) != (z1 : Int)) = false := by simp
      have HZ3 : Hid (z3 = s + 3 * (k + 1)) := by show _ = _; omega
      have hzp : 0 < z2 := by omega
      have hzq : z2 ≤ 1000000000 := by omega
      have HBD : Hid (Below w.heap.size w wr.drew) := HB.out.drew
      have HSZ := Lib.hid HBD.out.size
      clear hx hz hz1 hz2 hz3 hv
      go_wp2
      go_region_held3 (fun w' => w'.cell? ⟨b, o + k * 3 + 2, none⟩ = some (.string v)) (first | exact c2 | go_keep)
        ((go_at_call 84; refine (mark_text z2 wr.drew hzp hzq).mono ?_; rw [HV.out]; rintro e w2 ⟨rfl, hb2⟩; have HB2 := Lib.hid (HBD.out.trans (hb2.mono HSZ.out)); have c3 := (hb2.cell (p := ⟨b, o + k * 3 + 2, none⟩) hbz).trans c2; clear hb2))
      all_goals
        go_wp2
        go_roundw
        case rel => exact ⟨k + 1, z3, by omega, HZ3.out, by go_num, by go_num, HB2⟩
        case measure => simp [intOf]; omega
    · have h5 : ¬ (k : Int) < (n : Int) := by omega
      have HZ2 := Lib.hid (show r = z by have := HR.out; omega)
      clear hz
      go_wp2
      go_ret
      refine ⟨?_, HB.out⟩
      rw [HZ2.out]
      rfl
end Go.Proofs.Ytmljdbbbfpmbcaa
