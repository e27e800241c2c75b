/-
  The exact laws' own helpers over lists of users: they count, copy and compare; and how a list of users that is an argument is opened. Condition: the list can be read.
-/
import Derived.Test.YtkhfflbgnojcfaaUs
import Derived.OwnWalk
import Derived.Laws.OwnMore
import Derived.BigQuiet
import Derived.Deep.Slices
import Derived.ChangeArms
import Derived.Lib.SmallJoins
namespace Go.Proofs.Ytkhfflbgnojcfaa
open Go.RowKit Go.ChangeShapes Go.WideShapes
set_option linter.unusedVariables false

/-- What is left of a bound behind a user's texts, or -1. -/
def oneU (n p : ByteArray) (z : Int) : Int := if z - (n.size : Int) < 0 then -1 else if z - (n.size : Int) - (p.size : Int) < 0 then -1 else z - (n.size : Int) - (p.size : Int)
def szU : List Us → Int → Int
  | [], z => z
  | m :: L, z => if oneU m.1 m.2.1 z < 0 then -1 else szU L (oneU m.1 m.2.1 z)
theorem oneU_le {n p : ByteArray} {z : Int} (h : 0 ≤ oneU n p z) : (n.size : Int) ≤ z ∧ (p.size : Int) ≤ z ∧ oneU n p z ≤ z := by
  unfold oneU at *
  split at h
  · omega
  · split at h
    · omega
    · rename_i h1 h2
      rw [if_neg h1, if_neg h2]
      omega
theorem szU_le : ∀ {L : List Us} {z : Int}, 0 ≤ z → 0 ≤ szU L z → ∀ g ∈ L, (g.1.size : Int) ≤ z ∧ (g.2.1.size : Int) ≤ z
  | [], z, _, _, g, hg => by cases hg
  | m :: L, z, h, h2, g, hg => by
    rw [szU] at h2
    split at h2
    · omega
    · rename_i h3
      have h4 := oneU_le (n := m.1) (p := m.2.1) (z := z) (by omega)
      rcases List.mem_cons.1 hg with rfl | hg
      · exact ⟨h4.1, h4.2.1⟩
      · have := szU_le (L := L) (z := oneU m.1 m.2.1 z) (by omega) h2 g hg
        omega
def TxtU (L : List Us) : Prop := ∀ m ∈ L, m.1.size ≤ maxLen ∧ m.2.1.size ≤ maxLen
set_option maxHeartbeats 1000000 in
theorem sz_user (n p : ByteArray) (q z r : Int) (w : World) (hn : n.size ≤ maxLen) (hp : p.size ≤ maxLen) (hz : 0 ≤ z) (hz2 : z ≤ 1048576) (hr : oneU n p z = r) :
    Calls Try.prog 13 #[.agg #[.string n, .string p, .int .i64 q], .int .i64 z] w fun e w' => e = .returned (.int .i64 r) ∧ Below w.heap.size w w' := by
  have hn2 : n.size ≤ 9223372036854775807 := by unfold maxLen at hn; omega
  have hp2 : p.size ≤ 9223372036854775807 := by unfold maxLen at hp; omega
  clear hn hp
  unfold oneU at hr
  by_cases h : z - (n.size : Int) < 0
  · rw [if_pos h] at hr
    subst hr
    have W1 : IntKind.i64.wrap (z - (n.size : Int)) = z - (n.size : Int) := IntWalk.i64_in _ (by omega)
    go_enter Try.func13, Try.ntmps13
    go_wp2
    go_ret
    exact ⟨rfl, (Below.refl _ _).alloc (Nat.le_refl _) _⟩
  · rw [if_neg h] at hr
    obtain ⟨y, hy⟩ : ∃ y, z - (n.size : Int) = y := ⟨_, rfl⟩
    rw [hy] at hr
    have hy0 : ¬ y < 0 := by omega
    have W1 : IntKind.i64.wrap (z - (n.size : Int)) = y := (IntWalk.i64_in _ (by omega)).trans hy
    by_cases h2 : y - (p.size : Int) < 0
    · rw [if_pos h2] at hr
      subst hr
      have W2 : IntKind.i64.wrap (y - (p.size : Int)) = y - (p.size : Int) := IntWalk.i64_in _ (by omega)
      clear h hy
      go_enter Try.func13, Try.ntmps13
      go_wp2
      go_ret
      exact ⟨rfl, (Below.refl _ _).alloc (Nat.le_refl _) _⟩
    · rw [if_neg h2] at hr
      have hrf : ¬ r < 0 := by omega
      have W2 : IntKind.i64.wrap (y - (p.size : Int)) = r := (IntWalk.i64_in _ (by omega)).trans hr
      clear h hy h2 hr
      go_enter Try.func13, Try.ntmps13
      go_wp2
      go_ret
      exact ⟨rfl, (Below.refl _ _).alloc (Nat.le_refl _) _⟩
set_option maxHeartbeats 2000000 in
theorem sz_users (A : Option Addr) (n cap : Nat) (left r : Int) (L : List Us) (w : World) (hn : L.length = n) (h : RAt usR w A L) (ht : TxtU L) (hl : 0 ≤ left) (hl2 : left ≤ 1048576) (hle : (n : Int) ≤ left) (hr : szU L (left - (n : Int)) = r) :
    Calls Try.prog 4 #[.slice A n cap, .int .i64 left] w fun e w' => e = .returned (.int .i64 r) ∧ Below w.heap.size w w' := by
  have H := Lib.hid h
  have HN := Lib.hid hn
  have HT := Lib.hid ht
  obtain ⟨z0, hz0⟩ : ∃ z, left - (n : Int) = z := ⟨_, rfl⟩
  have W1 : IntKind.i64.wrap (left - (n : Int)) = z0 := (IntWalk.i64_in _ (by omega)).trans hz0
  have hz00 : 0 ≤ z0 := by omega
  have hz0f : ¬ z0 < 0 := by omega
  have hz01 : z0 ≤ 1048576 := by omega
  rw [hz0] at hr
  have HR := Lib.hid hr
  clear h hn ht hr hz0
  go_enter Try.func4, Try.ntmps4
  go_wp2
  go_loopw [1, 5] (fun zv i wr => ∃ (k : Nat) (z : Int), k ≤ n ∧ 0 ≤ z ∧ z ≤ 1048576 ∧ zv = .int .i64 z ∧ i = .int .i64 (k : Int) ∧ Hid (szU (L.drop k) z = r) ∧ Hid (Below w.heap.size w wr)) (fun _ i _ => n - (intOf i).toNat)
  case atStart => exact ⟨0, z0, Nat.zero_le _, hz00, hz01, rfl, by go_num, HR.out, Below.refl _ _⟩
  case round =>
    obtain ⟨k, z, hk, hzp, hz1, rfl, rfl, HZ, HB⟩ := hrel
    by_cases hlt : k < n
    · have h0 : (0 : Int) ≤ (k : Int) := by omega
      have h5 : (k : Int) < (n : Int) := by omega
      have hkl : k < L.length := by rw [HN.out]; exact hlt
      obtain ⟨⟨m, p, q⟩, hx⟩ : ∃ x, L[k]? = some x := ⟨_, List.getElem?_eq_getElem hkl⟩
      obtain ⟨b, o, rfl, hb, c0, c1, c2⟩ := user_at (H.out.below HB.out (Nat.le_refl _)) hx
      have HTL := Lib.hid (HT.out _ (List.mem_of_getElem? hx))
      have hd : L.drop k = (m, p, q) :: L.drop (k + 1) := by rw [List.drop_eq_getElem_cons hkl, (List.getElem?_eq_some_iff.1 hx).2]
      have hz2 := HZ.out
      rw [hd, szU] at hz2
      obtain ⟨y, hy⟩ : ∃ y, oneU m p z = y := ⟨_, rfl⟩
      have HY := Lib.hid hy
      rw [show oneU (m, p, q).1 (m, p, q).2.1 z = y from hy] at hz2
      clear hx hd hkl
      by_cases hs : y < 0
      · rw [if_pos hs] at hz2
        subst hz2
        clear hy
        go_wp2_with fail
        refine (sz_user m p q z y _ HTL.out.1 HTL.out.2 hzp hz1 HY.out).mono ?_
        rintro e w2 ⟨rfl, hb2⟩
        have HB2 := Lib.hid (HB.out.trans (hb2.mono HB.out.size))
        clear hb2
        go_wp2
        go_ret
        exact ⟨rfl, HB2.out⟩
      · rw [if_neg hs] at hz2
        have HZ2 := Lib.hid hz2
        have hs0 : 0 ≤ y := by omega
        have hs1 : y ≤ 1048576 := by have := (oneU_le (n := m) (p := p) (z := z) (by omega)).2.2; omega
        clear hz2 hy
        go_wp2_with fail
        refine (sz_user m p q z y _ HTL.out.1 HTL.out.2 hzp hz1 HY.out).mono ?_
        rintro e w2 ⟨rfl, hb2⟩
        have HB2 := Lib.hid (HB.out.trans (hb2.mono HB.out.size))
        clear hb2
        go_wp2
        go_roundw
        case rel => exact ⟨k + 1, y, by omega, hs0, hs1, rfl, by go_num, HZ2.out, HB2⟩
        case measure => simp [intOf]; omega
    · have h5 : ¬ (k : Int) < (n : Int) := by omega
      obtain rfl : k = n := by omega
      have hz2 := HZ.out
      rw [List.drop_of_length_le (Nat.le_of_eq HN.out)] at hz2
      obtain rfl : z = r := hz2
      go_wp2
      go_ret
      exact ⟨rfl, HB.out⟩
theorem sz_users_no (A : Option Addr) (n cap : Nat) (left : Int) (w : World) (hl : 0 ≤ left) (hl2 : left ≤ 1048576) (hle : left < (n : Int)) (hm : n ≤ maxLen) :
    Calls Try.prog 4 #[.slice A n cap, .int .i64 left] w fun e w' => e = .returned (.int .i64 (-1)) ∧ Below w.heap.size w w' := by
  have h1 : (left - (n : Int)) < 0 := by omega
  have hm2 : n ≤ 9223372036854775807 := by unfold maxLen at hm; omega
  have h3 : IntKind.i64.wrap (left - (n : Int)) = left - (n : Int) := IntWalk.i64_in _ (by omega)
  clear hm
  go_enter Try.func4, Try.ntmps4
  go_wp2
  go_ret
  exact ⟨rfl, Below.refl _ _⟩
set_option maxHeartbeats 1000000 in
theorem to_user (n p : ByteArray) (q : Int) (w : World) : Calls Try.prog 15 #[.agg #[.string n, .string p, .int .i64 q]] w fun e w' => e = .returned (.agg #[.string n, .string p, .int .i64 q]) ∧ Below w.heap.size w w' := by
  go_enter Try.func15, Try.ntmps15
  go_wp2
  refine bodyPost_ret (v := .agg #[.string n, .string p, .int .i64 q]) (by simp [results, Try.results15, go_sem]) rfl ?_
  refine ⟨rfl, ?_⟩
  refine (((Below.refl _ _).alloc ?_ _).alloc ?_ _).alloc ?_ _ <;> (simp <;> try omega)
theorem put_users {w : World} {B g n cap k : Nat} {L : List Us} {y : Us} (h : ROwn usR w B (.slice (some ⟨g, 0, none⟩) n cap) L) (hy : L[k]? = some y) (x : Us) :
    ROwn usR (((w.setCell ⟨g, k * 3, none⟩ (.string x.1)).setCell ⟨g, k * 3 + 1, none⟩ (.string x.2.1)).setCell ⟨g, k * 3 + 2, none⟩ (.int .i64 x.2.2)) B (.slice (some ⟨g, 0, none⟩) n cap) (L.set k x) := by
  have hk := (List.getElem?_eq_some_iff.1 hy).1
  obtain ⟨h1, g1⟩ := h.stored (y := (x.1, y.2.1, y.2.2)) (j := 0) (u := .string x.1) hy (by decide) rfl
  obtain ⟨h2, g2⟩ := h1.stored (k := k) (x := (x.1, y.2.1, y.2.2)) (y := (x.1, x.2.1, y.2.2)) (j := 1) (u := .string x.2.1) (by rw [List.getElem?_set_self hk]) (by decide) rfl
  rw [List.set_set] at h2
  obtain ⟨h3, g3⟩ := h2.stored (k := k) (x := (x.1, x.2.1, y.2.2)) (y := x) (j := 2) (u := .int .i64 x.2.2) (by rw [List.getElem?_set_self hk]) (by decide) rfl
  rw [List.set_set] at h3
  exact h3
set_option maxHeartbeats 2000000 in
theorem to_users (A : Option Addr) (n cap : Nat) (L : List Us) (w : World) (hn : L.length = n) (h : RAt usR w A L) (hl : n ≤ 1048576) :
    Calls Try.prog 6 #[.slice A n cap] w fun e w' => ∃ g, e = .returned (.slice (some ⟨g, 0, none⟩) n n) ∧ ROwn usR w' w.heap.size (.slice (some ⟨g, 0, none⟩) n n) L ∧ Below w.heap.size w w' := by
  obtain ⟨i0, hi, hq0, hq1, hq2⟩ := info_parts Try.infoUser
  have HN := Lib.hid hn
  have H := Lib.hid h
  clear hn h
  have hb2 : i0.bytes * n ≤ 281474976710656 := by rw [hq2]; omega
  have hb3 : n ≤ maxLen := by unfold maxLen; omega
  go_enter Try.func6, Try.ntmps6
  go_wp2_with (at_make; refine wpList_make_full _ rfl _ _ 24 rfl w.heap.size 42 i0 (.agg #[.string ⟨#[]⟩, .string ⟨#[]⟩, .int .i64 0]) 3 Try.underlying24 hi hq0 hq1 .i64 .i64 (n : Int) (n : Int) n rfl rfl rfl rfl hb2 hb3 (Nat.le_refl _) ?_)
  intro w1 hown hgrow
  obtain ⟨N, hN⟩ : ∃ N, w.heap.size = N := ⟨_, rfl⟩
  have HNN := Lib.hid hN
  have HB1 : Hid (Below N w w1) := hN ▸ (Below.refl _ _).grown hgrow (Nat.le_refl _) (fun z hz => by cases hz)
  have hN1 : N ≤ w1.heap.size := hN ▸ hgrow.size
  have ho1 : ROwn usR w1 N (.slice (some ⟨N, 0, none⟩) n n) (List.replicate n noU) := by
    unfold ROwn
    rw [List.length_replicate, ← made_rows usR (.agg #[.string ⟨#[]⟩, .string ⟨#[]⟩, .int .i64 0]) noU rfl (by decide), ← hN]
    exact hown
  have HO1 := Lib.hid ho1
  rw [hN]
  clear hown hgrow ho1 hN
  go_wp2
  go_loopw [4] (fun i wr => ∃ k : Nat, k ≤ n ∧ i = .int .i64 (k : Int) ∧ N ≤ wr.heap.size ∧ Hid (Below N w wr) ∧ Hid (ROwn usR wr N (.slice (some ⟨N, 0, none⟩) n n) (L.take k ++ List.replicate (n - k) noU))) (fun i _ => n - (intOf i).toNat)
  case atStart => exact ⟨0, Nat.zero_le _, by go_num, hN1, HB1, by rw [List.take_zero, List.nil_append, Nat.sub_zero]; exact HO1⟩
  case round =>
    obtain ⟨k, hk, rfl, hNr, HB, HO⟩ := hrel
    by_cases hlt : k < n
    · have h0 : (0 : Int) ≤ (k : Int) := by omega
      have h5 : (k : Int) < (n : Int) := by omega
      obtain ⟨⟨m, p, q⟩, hx⟩ : ∃ x, L[k]? = some x := ⟨_, List.getElem?_eq_getElem (by rw [HN.out]; omega)⟩
      obtain ⟨b, o, rfl, hbz, c0, c1, c2⟩ := user_at (H.out.below HB.out (Nat.le_of_eq HNN.out)) hx
      have HX := Lib.hid hx
      clear hx
      go_wp2_with fail
      refine (to_user m p q _).mono ?_
      rintro e w2 ⟨rfl, hb⟩
      have HB2 := Lib.hid (HB.out.trans (hb.mono hNr))
      have HO2 := Lib.hid (HO.out.kept hb)
      have hN2 := Nat.le_trans hNr hb.size
      clear hb
      obtain ⟨⟨y0, y1, y2⟩, hy⟩ : ∃ y, (L.take k ++ List.replicate (n - k) noU)[k]? = some y := ⟨_, List.getElem?_eq_getElem (by rw [List.length_append, List.length_take, List.length_replicate, HN.out]; omega)⟩
      have d0 := HO2.out.cell hy (j := 0) rfl
      have d1 := HO2.out.cell hy (j := 1) rfl
      have d2 := HO2.out.cell hy (j := 2) rfl
      have f0 := HO2.out.free (k * 3)
      have f1 := HO2.out.free (k * 3 + 1)
      have f2 := HO2.out.free (k * 3 + 2)
      have HST := Lib.hid (put_users HO2.out hy (m, p, q))
      simp only [usR, Nat.add_zero] at d0 d1 d2
      clear hy
      go_wp2
      go_roundw
      case rel =>
        refine ⟨k + 1, by omega, by go_num, by simpa using hN2, ((HB2.out.setCell (Nat.le_refl _) _).setCell (Nat.le_refl _) _).setCell (Nat.le_refl _) _, ?_⟩
        rw [← set_next HN.out HX.out]
        exact HST.out
      case measure => simp [intOf]; omega
    · have h5 : ¬ (k : Int) < (n : Int) := by omega
      have hkn : k = n := by omega
      have ho := HO.out
      rw [hkn, List.take_of_length_le (by rw [HN.out]; exact Nat.le_refl _), Nat.sub_self, List.replicate_zero, List.append_nil] at ho
      have HOE := Lib.hid ho
      clear ho hkn
      go_wp2
      go_ret
      exact ⟨N, rfl, HNN.out ▸ HOE.out, HNN.out ▸ HB.out⟩
set_option maxHeartbeats 1000000 in
theorem eq_user_same (n p : ByteArray) (q : Int) (w : World) : Calls Try.prog 22 #[.agg #[.string n, .string p, .int .i64 q], .agg #[.string n, .string p, .int .i64 q]] w (SayB w true) := by
  have h2 : (q != q) = false := by simp
  go_enter Try.func22, Try.ntmps22
  go_wp2
  go_ret
  exact ⟨rfl, ((Below.refl _ _).alloc (Nat.le_refl _) _).alloc (by simp) _⟩
set_option maxRecDepth 20000 in
set_option maxHeartbeats 2000000 in
theorem eq_users {A A2 : Option Addr} {n cap cap2 : Nat} {L : List Us} (w : World) (h : UIn w A n cap L) (h2 : UIn w A2 n cap2 L) :
    Calls Try.prog 9 #[.slice A n cap, .slice A2 n cap2] w (SayB w true) := by
  have H := Lib.hid h
  have H2 := Lib.hid h2
  have hl := h.2.1
  clear h h2
  have hlb : ((n : Int) != (n : Int)) = false := by simp
  go_enter Try.func9, Try.ntmps9
  go_wp2
  go_loopw [5] (fun i wr => ∃ k : Nat, k ≤ n ∧ i = .int .i64 (k : Int) ∧ Hid (Below w.heap.size w wr)) (fun i _ => n - (intOf i).toNat)
  case atStart => exact ⟨0, Nat.zero_le _, by go_num, Below.refl _ _⟩
  case round =>
    obtain ⟨k, hk, rfl, HB⟩ := hrel
    by_cases hlt : k < n
    · have h0 : (0 : Int) ≤ (k : Int) := by omega
      have h5 : (k : Int) < (n : Int) := by omega
      obtain ⟨⟨m, p, q⟩, hx⟩ : ∃ x, L[k]? = some x := ⟨_, List.getElem?_eq_getElem (by rw [H.out.1]; exact hlt)⟩
      obtain ⟨b, o, rfl, hb, c0, c1, c2⟩ := user_at (H.out.2.2.1.below HB.out (Nat.le_refl _)) hx
      obtain ⟨b', o', rfl, hb', d0, d1, d2⟩ := user_at (H2.out.2.2.1.below HB.out (Nat.le_refl _)) hx
      have l0 : ∀ x : Later wr.heap.size wr, x.v.cell? ⟨b, o + k * 3, none⟩ = some (.string m) := fun x => x.cell hb c0
      have l1 : ∀ x : Later wr.heap.size wr, x.v.cell? ⟨b, o + k * 3 + 1, none⟩ = some (.string p) := fun x => x.cell hb c1
      have l2 : ∀ x : Later wr.heap.size wr, x.v.cell? ⟨b, o + k * 3 + 2, none⟩ = some (.int .i64 q) := fun x => x.cell hb c2
      have l3 : ∀ x : Later wr.heap.size wr, x.v.cell? ⟨b', o' + k * 3, none⟩ = some (.string m) := fun x => x.cell hb' d0
      have l4 : ∀ x : Later wr.heap.size wr, x.v.cell? ⟨b', o' + k * 3 + 1, none⟩ = some (.string p) := fun x => x.cell hb' d1
      have l5 : ∀ x : Later wr.heap.size wr, x.v.cell? ⟨b', o' + k * 3 + 2, none⟩ = some (.int .i64 q) := fun x => x.cell hb' d2
      clear hx
      go_wp2
      refine wp_region_later wr.heap.size wr (by kernel_rfl) (by kernel_rfl) ?_
      repeat (go_big_quiet_step ((go_at_call 22; refine (eq_user_same m p q _).mono ?_; rintro e w2 ⟨rfl, hb2⟩; exact ⟨rfl, Later.call _ hb2 (Nat.le_refl _)⟩)))
      refine wpQuiet_nil ?_
      intro _ hw'
      obtain ⟨⟨w9, hb9⟩, rfl⟩ := hw'
      have HB9 := Lib.hid (HB.out.trans (hb9.mono HB.out.size))
      clear hb9
      go_wp2
      go_roundw
      case rel => exact ⟨k + 1, by omega, by go_num, HB9⟩
      case measure => simp [intOf]; omega
    · have h5 : ¬ (k : Int) < (n : Int) := by omega
      go_wp2
      go_ret
      exact ⟨rfl, HB.out⟩
/-- A list of users that came in. -/
def UsArg (w : World) (A : Option Addr) (len cap : Nat) : Prop := ∃ L, L.length = len ∧ len ≤ cap ∧ cap ≤ maxLen ∧ RAt usR w A L ∧ TxtU L
section
variable {H : Type} {enc : TypeId × Value → H} {P : Program} {w : World} {base : Nat} {spare : Nat → Bool} {held : Bool}
theorem each3 {e : TypeId} {f0 f1 f2 : Field} {n : Nat} {a : Addr} {cs : List Value} {x : DataW H × List MemPlace} (he : P.underlying e = some (.struct #[f0, f1, f2]))
    (o0 : f0.offset = 0) (o1 : f1.offset = 1) (o2 : f2.offset = 2) (c0 : P.cellsOf f0.type = 1) (c1 : P.cellsOf f1.type = 1) (c2 : P.cellsOf f2.type = 1)
    (h1 : w.cells? base a 3 = some cs) (h2 : DataW.trod enc P w base spare held n e cs = some x) :
    ∃ (v0 v1 v2 : Value) (k : Nat) (y0 y1 y2 : DataW H × List MemPlace), w.cell? (a.add 0) = some v0 ∧ w.cell? (a.add 1) = some v1 ∧ w.cell? (a.add 2) = some v2 ∧
      DataW.trod enc P w base spare held k f0.type [v0] = some y0 ∧ DataW.trod enc P w base spare held k f1.type [v1] = some y1 ∧ DataW.trod enc P w base spare held k f2.type [v2] = some y2 := by
  obtain ⟨_, hlen, hcell⟩ := World.cells?_some h1
  obtain ⟨xs, k, hk, hxy, _, hxl, hf⟩ := DataW.trod_struct he h2
  match xs, hxl, cs, hlen with
  | [y0, y1, y2], _, [v0, v1, v2], _ =>
    have g0 := hf 0 f0 rfl
    have g1 := hf 1 f1 rfl
    have g2 := hf 2 f2 rfl
    simp [o0, o1, o2, c0, c1, c2] at g0 g1 g2
    have e0 := hcell 0 (by omega)
    have e1 := hcell 1 (by omega)
    have e2 := hcell 2 (by omega)
    exact ⟨v0, v1, v2, k, y0, y1, y2, by simpa using e0, by simpa using e1, by simpa using e2, g0, g1, g2⟩
theorem open_users {fuel : Nat} {cs : List Value} {x : DataW H × List MemPlace} (h : DataW.trod enc Try.prog w base spare held fuel 22 cs = some x) :
    ∃ A len cap, cs = [.slice A len cap] ∧ UsArg w A len cap := by
  rcases Deep.open_slice Try.underlying22 h with ⟨hcs, _⟩ | ⟨a, len, cap, m, n, D, Pl, hcs, hb, hl, hm, hmm, _, hx⟩
  · exact ⟨none, 0, 0, hcs, [], rfl, Nat.le_refl _, by unfold maxLen; omega, RAt.nil _ _, fun m hm => by simp at hm⟩
  · have ce : Try.prog.cellsOf 41 = 3 := by kernel_rfl
    rw [ce] at hx
    have each : ∀ i, i < len → ∃ q : Us, w.cell? ((a.add (i * 3)).add 0) = some (.string q.1) ∧ w.cell? ((a.add (i * 3)).add 1) = some (.string q.2.1) ∧ w.cell? ((a.add (i * 3)).add 2) = some (.int .i64 q.2.2) ∧ q.1.size ≤ maxLen ∧ q.2.1.size ≤ maxLen := by
      intro i hi
      obtain ⟨cs', h1, h2⟩ := hx i (by rw [hmm]; split <;> omega)
      obtain ⟨v0, v1, v2, k, y0, y1, y2, e0, e1, e2, g0, g1, g2⟩ := each3 Try.underlying41 rfl rfl rfl (by kernel_rfl) (by kernel_rfl) (by kernel_rfl) h1 h2
      obtain ⟨s, hs, _, hsz⟩ := DataW.trod_string Try.underlying9 g0
      obtain ⟨s1, hs1, _, hsz1⟩ := DataW.trod_string Try.underlying9 g1
      obtain ⟨f, hf, _, _⟩ := DataW.trod_int Try.underlying3 g2
      simp only [List.cons.injEq, and_true] at hf hs hs1
      subst hf
      subst hs
      subst hs1
      exact ⟨(s, s1, f), e0, e1, e2, hsz, hsz1⟩
    obtain ⟨q, hq⟩ := Deep.choose_lt each
    refine ⟨some a, len, cap, hcs, (List.range len).map q, by simp, hl, hm, ?_, ?_⟩
    · intro i y hy
      have hi : i < len := by have := (List.getElem?_eq_some_iff.1 hy).1; simpa using this
      obtain ⟨e0, e1, e2, _⟩ := hq i hi
      have hs : a.spot = none := by
        have := World.cell?_spot (hq 0 (by omega)).1
        simpa [Addr.add] using this
      obtain ⟨xb, xo, spot⟩ := a
      simp only at hs
      subst hs
      have he : y = q i := by simp [hi] at hy; exact hy.symm
      subst he
      simp only [radd] at e0 e1 e2
      refine ⟨xb, xo, rfl, by simpa using block_lt_of_cell e0, fun j u hu => ?_⟩
      match j, hu with
      | 0, hu => cases hu; exact e0
      | 1, hu => cases hu; exact e1
      | 2, hu => cases hu; exact e2
      | j + 3, hu => simp [usR] at hu
    · intro m hm2
      obtain ⟨i, hi, rfl⟩ := List.mem_map.1 hm2
      exact ⟨(hq i (List.mem_range.1 hi)).2.2.2.1, (hq i (List.mem_range.1 hi)).2.2.2.2⟩
end
end Go.Proofs.Ytkhfflbgnojcfaa
