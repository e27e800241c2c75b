/-
  My texts Uc, Ui, Uf, Ug, Pspec, Us, Bdraw, Pdraw, Ud, Td, Te, Tf, Tg, Th in one, so that a claim holds fewer files. Conditions: each contract's own.
-/
import Derived.Test.YtichajalinkcdaaQe
import Derived.Laws.Cover1
import Derived.Deep.RegionHeld3
import Derived.RegionTactic
import Derived.Deep.RegionWith
import Derived.IntWalk
import Derived.BigRegion
namespace Go.Proofs.Ytichajalinkcdaa
open Go.RowKit
set_option linter.unusedVariables false

def usR : RowT Us where
  t := 71
  sz := 3
  enc := fun g => [.string g.1, .string g.2.1, .int .i64 g.2.2]
  len := fun _ => rfl
  one := fun x u hu => by
    simp at hu
    rcases hu with rfl | rfl | rfl <;> rfl
/-- A user as a value. -/
def usV (u : Us) : Value := .agg #[.string u.1, .string u.2.1, .int .i64 u.2.2]
theorem Try.infoUser : (Try.prog.info? 71).map (fun i => (i.zero, i.size, i.bytes)) = some (some (.agg #[.string ⟨#[]⟩, .string ⟨#[]⟩, .int .i64 0]), 3, 40) := by kernel_rfl
theorem user_at {w : World} {A : Option Addr} {L : List Us} {k : Nat} {n p : ByteArray} {q : Int} (h : RAt usR w A L) (hx : L[k]? = some (n, p, q)) :
    ∃ b o, A = some ⟨b, o, none⟩ ∧ b < w.heap.size ∧ w.cell? ⟨b, o + k * 3, none⟩ = some (.string n) ∧ w.cell? ⟨b, o + k * 3 + 1, none⟩ = some (.string p) ∧ w.cell? ⟨b, o + k * 3 + 2, none⟩ = some (.int .i64 q) := by
  obtain ⟨b, o, hA, hb, h1⟩ := h k _ hx
  exact ⟨b, o, hA, hb, h1 0 _ rfl, h1 1 _ rfl, h1 2 _ rfl⟩
def smallU (L : List Us) : Prop := L.length ≤ 4194304 ∧ ∀ g ∈ L, g.1.size ≤ 16777216 ∧ g.2.1.size ≤ 16777216
/-- A slice of users that came in: what the walk asks of it. -/
def UIn (w : World) (A : Option Addr) (N cap : Nat) (L : List Us) : Prop := L.length = N ∧ N ≤ 4194304 ∧ RAt usR w A L ∧ (A = none → cap = 0) ∧ (∀ q, A = some q → q.spot = none) ∧ (∀ g ∈ L, g.1.size ≤ 16777216 ∧ g.2.1.size ≤ 16777216)
theorem UIn.below {w w' : World} {A : Option Addr} {N cap B : Nat} {L : List Us} (h : UIn w A N cap L) (hb : Below B w w') (hB : w.heap.size ≤ B) : UIn w' A N cap L := ⟨h.1, h.2.1, h.2.2.1.below hb hB, h.2.2.2⟩
theorem UIn.made {w : World} {B N cap : Nat} {A : Option Addr} {L : List Us} (h : ROwn usR w B (.slice A N cap) L) (hs : smallU L) : UIn w A N cap L := ⟨h.len.1.symm, h.len.1 ▸ hs.1, h.at, h.nilcap, h.spot, hs.2⟩
theorem UIn.small {w : World} {A : Option Addr} {N cap : Nat} {L : List Us} (h : UIn w A N cap L) : smallU L := ⟨h.1 ▸ h.2.1, h.2.2.2.2.2⟩
theorem ev_walk {u : ByteArray} (h : u ≠ evB) : (u.toList == [97, 110, 121, 111, 110, 101]) = false ∧ ¬ u.toList = [97, 110, 121, 111, 110, 101] ∧ (u.toList != [97, 110, 121, 111, 110, 101]) = true := by
  have h2 := ne_walk h
  have h3 : evB.toList = [97, 110, 121, 111, 110, 101] := by rw [ByteArray.toList_eq]; rfl
  rw [h3] at h2
  exact ⟨h2.1, h2.2, bne_iff_ne.2 h2.2⟩
theorem ev_walk' : evB.toList = [97, 110, 121, 111, 110, 101] := by rw [ByteArray.toList_eq]; rfl
theorem okU_e (u : Us) {x y z : Bool} (h1 : nameB (kb u.1) = x) (h3 : nameB (kb u.2.1) = y) (h4 : (decide (0 ≤ u.2.2) && decide (u.2.2 ≤ 200)) = z) : okU u = (x && (!(kb u.1 == kb evB) && (y && z))) := by
  unfold okU
  rw [h1, h3, h4]
end Go.Proofs.Ytichajalinkcdaa
namespace Go.Proofs.Ytichajalinkcdaa
open Go.RowKit
set_option linter.unusedVariables false

end Go.Proofs.Ytichajalinkcdaa
namespace Go.Proofs.Ytichajalinkcdaa
open Go.RowKit
set_option linter.unusedVariables false

/-- A user and whether there is one. -/
def GivesU (w : World) (u : Us) (z : Bool) (e : Ending) (w' : World) : Prop := e = .returned (.tuple #[usV u, .bool z]) ∧ Below w.heap.size w w'
theorem gives_u {w w' : World} {u v : Us} {z y : Bool} (h : (u, z) = (v, y)) (hb : Below w.heap.size w w') : GivesU w u z (.returned (.tuple #[usV v, .bool y])) w' := by
  cases h
  exact ⟨rfl, hb⟩
theorem put_user {w : World} {B : Nat} (h : Whole w B 71 #[.string ⟨#[]⟩, .string ⟨#[]⟩, .int .i64 0]) (n p : ByteArray) (q : Int) :
    Whole (((w.setCell ⟨B, 0, none⟩ (.string n)).setCell ⟨B, 1, none⟩ (.string p)).setCell ⟨B, 2, none⟩ (.int .i64 q)) B 71 #[.string n, .string p, .int .i64 q] := ((h.store 0 _).store 1 _).store 2 _
end Go.Proofs.Ytichajalinkcdaa
namespace Go.Proofs.Ytichajalinkcdaa
open Go.RowKit
set_option linter.unusedVariables false

/-- A text and whether. -/
def GivesX (w : World) (t : ByteArray) (z : Bool) (e : Ending) (w' : World) : Prop := e = .returned (.tuple #[.string t, .bool z]) ∧ Below w.heap.size w w'
theorem gives_x {w w' : World} {u v : ByteArray} {z y : Bool} (h : (u, z) = (v, y)) (hb : Below w.heap.size w w') : GivesX w u z (.returned (.tuple #[.string v, .bool y])) w' := by
  cases h
  exact ⟨rfl, hb⟩
end Go.Proofs.Ytichajalinkcdaa
namespace Go.Proofs.Ytichajalinkcdaa
open Go.RowKit
set_option linter.unusedVariables false

theorem three_of {α : Type} {l : List α} (d : α) (h : l.length = 3) : l = [l.getD 0 d, l.getD 1 d, l.getD 2 d] := by
  match l, h with
  | [a, b, c], _ => rfl
theorem isPP_cut {s x : ByteArray} (hd : IsD s true x) (h : ∀ u p, cut 0 x.data.toList = [[], u, p] → nameB u = true → nameB p = true → False) : IsPP s false ⟨#[]⟩ ⟨#[]⟩ := pp_no hd fun _ => h

set_option maxHeartbeats 4000000 in
theorem splain {s u p : ByteArray} {o : Bool} (h : IsPP s o u p) (w : World) (hs : s.size ≤ 16777216) : Calls Try.prog 76 #[.string s] w (Gives3 w u p o) := by
  have HP := Lib.hid h
  clear h
  obtain ⟨ok, x, hd⟩ := isD_any s
  have hx30 := isD_le hd
  have hx4 : x.size ≤ 16777216 := by omega
  have HDD := Lib.hid hd
  go_enter Try.func76, Try.ntmps76
  go_wp2_with fail
  refine (sdec HDD.out _ hs).mono ?_
  rintro e w1 ⟨rfl, hb⟩
  have HB := Lib.hid hb
  clear hb
  go_wp2_with fail
  refine (cut_any x 0 _ hx4).mono ?_
  rintro e w2 ⟨g, cap, rfl, hg, hgl, hc, hb⟩
  have HB2 := Lib.hid (HB.out.trans (hb.mono HB.out.size))
  have hcl := cut_len 0 x.data.toList
  have hle : ∀ y ∈ cut 0 x.data.toList, y.length ≤ 16777216 := fun y hy => by
    have := cut_le hy
    have hl : x.data.toList.length = x.size := by simp
    omega
  obtain ⟨ps, hps⟩ : ∃ ps, cut 0 x.data.toList = ps := ⟨_, rfl⟩
  rw [hps] at hc hcl hle ⊢
  have hpl : ps.length ≤ 31 := by
    have hl : x.data.toList.length = x.size := by simp
    omega
  have HPS := Lib.hid hps
  clear hb hps hcl
  cases ok with
  | false =>
    have HN := Lib.hid (isPP_off hd)
    clear hd hc hle
    go_wp2
    go_ret3
    exact gives3_mk HP.out HN.out HB2.out
  | true =>
    clear hd
    have HF : Hid ((∀ u p, ps = [[], u, p] → nameB u = true → nameB p = true → False) → IsPP s false ⟨#[]⟩ ⟨#[]⟩) := Lib.hid (fun h => isPP_cut HDD.out (by rw [HPS.out]; exact h))
    by_cases h3 : ps.length = 3
    · have hth := three_of [] h3
      have hc0 := hc 0 (by omega)
      have hc1 := hc 1 (by omega)
      have hc2 := hc 2 (by omega)
      have l1 : (ps.getD 1 []).length ≤ 16777216 := hle _ (part_mem [] (by omega) rfl)
      have l2 : (ps.getD 2 []).length ≤ 16777216 := hle _ (part_mem [] (by omega) rfl)
      obtain ⟨a0, ha0⟩ : ∃ a, ps.getD 0 [] = a := ⟨_, rfl⟩
      obtain ⟨a1, ha1⟩ : ∃ a, ps.getD 1 [] = a := ⟨_, rfl⟩
      obtain ⟨a2, ha2⟩ : ∃ a, ps.getD 2 [] = a := ⟨_, rfl⟩
      rw [ha0, ha1, ha2] at hth
      rw [ha0] at hc0
      rw [ha1] at hc1 l1
      rw [ha2] at hc2 l2
      obtain ⟨v0, hv0⟩ : ∃ v, bt a0 = v := ⟨_, rfl⟩
      obtain ⟨v1, hv1⟩ : ∃ v, bt a1 = v := ⟨_, rfl⟩
      obtain ⟨v2, hv2⟩ : ∃ v, bt a2 = v := ⟨_, rfl⟩
      have c0 : w2.cell? ⟨g, 0, none⟩ = some (.string v0) := by rw [hc0, ← hv0]; rfl
      have c1 : w2.cell? ⟨g, 1, none⟩ = some (.string v1) := by rw [hc1, ← hv1]; rfl
      have c2 : w2.cell? ⟨g, 2, none⟩ = some (.string v2) := by rw [hc2, ← hv2]; rfl
      have s1 : v1.size ≤ 16777216 := by rw [← hv1]; exact l1
      have s2 : v2.size ≤ 16777216 := by rw [← hv2]; exact l2
      have HTH := Lib.hid hth
      have e1 : v1.data.toList = a1 := by rw [← hv1]; rfl
      have e2 : v2.data.toList = a2 := by rw [← hv2]; rfl
      have HE1 := Lib.hid e1
      have HE2 := Lib.hid e2
      have hz0 : v0.size = a0.length := by rw [← hv0]; rfl
      clear hc hle hc0 hc1 hc2 ha0 ha1 ha2 hth hv0 hv1 hv2 e1 e2 l1 l2
      rw [h3]
      clear h3 hpl
      by_cases h0 : v0.size = 0
      · obtain ⟨q1, q2⟩ := isEmpty h0
        have HA0 : Hid (a0 = []) := Lib.hid (List.eq_nil_of_length_eq_zero (by omega))
        clear h0 hz0
        cases b1 : nameB a1 with
        | false =>
          have HN := Lib.hid (HF.out (fun u p h hu hp => by
            rw [HTH.out] at h
            simp only [List.cons.injEq, and_true] at h
            rw [← h.2.1, b1] at hu
            cases hu))
          have B1 := Lib.hid b1
          clear b1
          go_wp2_with fail
          refine (spec_name v1 _ s1).mono ?_
          rintro e w3 ⟨rfl, rfl⟩
          rw [HE1.out, B1.out]
          go_wp2
          go_ret3
          exact gives3_mk HP.out HN.out HB2.out
        | true =>
          have B1 := Lib.hid b1
          clear b1
          cases b2 : nameB a2 with
          | false =>
            have HN := Lib.hid (HF.out (fun u p h hu hp => by
              rw [HTH.out] at h
              simp only [List.cons.injEq, and_true] at h
              rw [← h.2.2, b2] at hp
              cases hp))
            have B2 := Lib.hid b2
            clear b2
            go_wp2_with fail
            refine (spec_name v1 _ s1).mono ?_
            rintro e w3 ⟨rfl, rfl⟩
            rw [HE1.out, B1.out]
            go_wp2_with fail
            refine (spec_name v2 _ s2).mono ?_
            rintro e w3 ⟨rfl, rfl⟩
            rw [HE2.out, B2.out]
            go_wp2
            go_ret3
            exact gives3_mk HP.out HN.out HB2.out
          | true =>
            have B2 := Lib.hid b2
            clear b2
            have HY : Hid (IsPP s true v1 v2) := Lib.hid (by
              unfold IsPP
              rw [HE1.out, HE2.out]
              exact pp_yes HDD.out (by rw [HPS.out, HTH.out, HA0.out]) B1.out B2.out)
            go_wp2_with fail
            refine (spec_name v1 _ s1).mono ?_
            rintro e w3 ⟨rfl, rfl⟩
            rw [HE1.out, B1.out]
            go_wp2_with fail
            refine (spec_name v2 _ s2).mono ?_
            rintro e w3 ⟨rfl, rfl⟩
            rw [HE2.out, B2.out]
            go_wp2
            go_quiet (fail)
            go_wp2
            go_ret3
            exact gives3_mk HP.out HY.out (below_drewN' HB2.out _)
      · obtain ⟨q1, q2⟩ := noEmpty h0
        have HN := Lib.hid (HF.out (fun u p h hu hp => by
          rw [HTH.out] at h
          simp only [List.cons.injEq, and_true] at h
          rw [h.1] at hz0
          exact h0 hz0))
        clear h0 hz0
        go_wp2
        go_ret3
        exact gives3_mk HP.out HN.out HB2.out
    · have h3' : ((ps.length : Int) != 3) = true := by simp; omega
      have HN := Lib.hid (HF.out (fun u p h hu hp => h3 (by rw [h]; rfl)))
      clear h3 hc hle
      go_wp2
      go_ret3
      exact gives3_mk HP.out HN.out HB2.out
end Go.Proofs.Ytichajalinkcdaa
namespace Go.Proofs.Ytichajalinkcdaa
open Go.RowKit
set_option linter.unusedVariables false

theorem okU_bad3 {n p : ByteArray} {q : Int} (h : (decide (0 ≤ q) && decide (q ≤ 200)) = false) : okU (n, p, q) = false := by unfold okU; rw [h]; simp
theorem okU_bad2 {n p : ByteArray} {q : Int} (h : nameB (kb p) = false) : okU (n, p, q) = false := by unfold okU; rw [h]; simp
theorem okU_bad1 {n p : ByteArray} {q : Int} (h : nameB (kb n) = false) : okU (n, p, q) = false := by unfold okU; rw [h]; rfl
theorem okU_bad0 {p : ByteArray} {q : Int} : okU (evB, p, q) = false := by unfold okU; simp
theorem okU_yes {n p : ByteArray} {q : Int} (h1 : nameB (kb n) = true) (h2 : n ≠ evB) (h3 : nameB (kb p) = true) (h4 : (decide (0 ≤ q) && decide (q ≤ 200)) = true) : okU (n, p, q) = true := by
  unfold okU
  rw [h1, h3, h4, ne_kb h2]
  rfl
theorem two_int {N : Nat} {z : Bool} (h : (decide (1 ≤ N) && decide (N ≤ 4)) = z) : (decide ((1 : Int) ≤ (N : Int)) && decide ((N : Int) ≤ 4)) = z := by
  rw [← h]
  congr 1 <;> (simp only [decide_eq_decide]; omega)
set_option maxRecDepth 20000 in
set_option maxHeartbeats 8000000 in
theorem spec_usersvalid {A : Option Addr} {N cap : Nat} {L : List Us} (w : World) (h : UIn w A N cap L) : Calls Try.prog 44 #[.slice A N cap] w (SayB w (vU L)) := by
  have H := Lib.hid h
  have hl := h.2.1
  clear h
  go_enter Try.func44, Try.ntmps44
  go_wp2
  go_loopw [3] (fun i wr => ∃ k : Nat, k ≤ N ∧ i = .int .i64 (k : Int) ∧ Hid (goodU L k) ∧ Hid (Below w.heap.size w wr)) (fun i _ => N - (intOf i).toNat)
  case atStart => exact ⟨0, Nat.zero_le _, by go_num, goodU_zero L, Below.refl _ _⟩
  case round =>
    obtain ⟨k, hk, rfl, HG, HB⟩ := hrel
    by_cases hlt : k < N
    · have h0 : (0 : Int) ≤ (k : Int) := by omega
      have h5 : (k : Int) < (N : Int) := by omega
      obtain ⟨⟨n, p, q⟩, hx⟩ : ∃ x, L[k]? = some x := ⟨_, List.getElem?_eq_getElem (by rw [H.out.1]; exact hlt)⟩
      have hnp := H.out.2.2.2.2.2 (n, p, q) (List.mem_of_getElem? hx)
      have hn : n.size ≤ 16777216 := hnp.1
      have hp : p.size ≤ 16777216 := hnp.2
      have hR := H.out.2.2.1.below HB.out (Nat.le_refl _)
      obtain ⟨b, o, rfl, hb, c0, c1, c2⟩ := user_at hR hx
      have HX := Lib.hid hx
      obtain ⟨B, hB⟩ : ∃ B, wr.heap.size = B := ⟨_, rfl⟩
      have HA0 := Lib.hid (HB.out.alloc HB.out.size (.cells #[.string n, .string p, .int .i64 q] 71))
      have hbB : b < B := by omega
      clear hx hnp
      obtain ⟨wo, hwo⟩ : ∃ wo, wr.alloc (.cells #[.string n, .string p, .int .i64 q] 71) = wo := ⟨_, rfl⟩
      have hsz : wo.heap.size = B + 1 := by rw [← hwo, ← hB]; simp
      have HWO := Lib.hid (show Whole wo B 71 #[.string n, .string p, .int .i64 q] by rw [← hwo, ← hB]; exact Whole.made wr 71 #[.string n, .string p, .int .i64 q])
      rw [hwo] at HA0
      have HRO : Hid (RAt usR wo (some ⟨b, o, none⟩) L) := Lib.hid (H.out.2.2.1.below HA0.out (Nat.le_refl _))
      have g0 := HWO.out.cell 0
      have g1 := HWO.out.cell 1
      have g2 := HWO.out.cell 2
      simp at g0 g1 g2
      have HHW := Lib.hid hwo
      have hbo : b < wo.heap.size := by omega
      have HSZ : Hid (B + 1 ≤ wo.heap.size) := Lib.hid (by omega)
      have HBB : Hid (w.heap.size ≤ B + 1) := Lib.hid (by have := HB.out.size; omega)
      have l0 : ∀ x : Later (B + 1) wo, x.v.cell? ⟨B, 0, none⟩ = some (.string n) := fun x => x.cell (by simp) g0
      have l1 : ∀ x : Later (B + 1) wo, x.v.cell? ⟨B, 1, none⟩ = some (.string p) := fun x => x.cell (by simp) g1
      have l3 : ∀ x : Later (B + 1) wo, x.v.cell? ⟨B, 2, none⟩ = some (.int .i64 q) := fun x => x.cell (by simp) g2
      clear hwo
      cases h1 : nameB (kb n) with
      | false =>
        have HN := Lib.hid h1
        have HE := Lib.hid (vU_bad HX.out (okU_bad1 h1))
        clear h1 hR
        go_wp2
        rw [HHW.out]
        refine wp_region_later (B + 1) wo (by kernel_rfl) (by kernel_rfl) ?_
        repeat (go_big_quiet_step ((go_at_call 35; with_reducible refine (sname_at HN.out hn _).mono ?_; rintro e w2 ⟨rfl, rfl⟩; exact ⟨rfl, _, rfl⟩)))
        refine wpQuiet_nil ?_
        intro _ hw'
        obtain ⟨⟨w2, hb2⟩, rfl⟩ := hw'
        have H6 := Lib.hid (HA0.out.trans (hb2.mono HBB.out))
        clear hb2
        go_wp2
        go_ret
        exact says_b HE.out H6.out
      | true =>
        have HN := Lib.hid h1
        by_cases h2 : n = evB
        · subst h2
          have HE := Lib.hid (vU_bad HX.out okU_bad0)
          have hv := ev_walk'
          clear h1 hR
          go_wp2
          rw [HHW.out]
          refine wp_region_later (B + 1) wo (by kernel_rfl) (by kernel_rfl) ?_
          repeat (go_big_quiet_step ((go_at_call 35; with_reducible refine (sname_at HN.out hn _).mono ?_; rintro e w2 ⟨rfl, rfl⟩; exact ⟨rfl, _, rfl⟩)))
          refine wpQuiet_nil ?_
          intro _ hw'
          obtain ⟨⟨w2, hb2⟩, rfl⟩ := hw'
          have H6 := Lib.hid (HA0.out.trans (hb2.mono HBB.out))
          clear hb2
          go_wp2
          go_ret
          exact says_b HE.out H6.out
        · obtain ⟨v1, v2, v3⟩ := ev_walk h2
          cases h3 : nameB (kb p) with
          | false =>
            have HP := Lib.hid h3
            have HE := Lib.hid (vU_bad HX.out (okU_bad2 h3))
            clear h1 h2 h3 hR v3
            go_wp2
            rw [HHW.out]
            refine wp_region_later (B + 1) wo (by kernel_rfl) (by kernel_rfl) ?_
            repeat (go_big_quiet_step (first | (go_at_call 35; with_reducible refine (sname_at HN.out hn _).mono ?_; rintro e w2 ⟨rfl, rfl⟩; exact ⟨rfl, _, rfl⟩) | (go_at_call 35; with_reducible refine (sname_at HP.out hp _).mono ?_; rintro e w2 ⟨rfl, rfl⟩; exact ⟨rfl, _, rfl⟩)))
            refine wpQuiet_nil ?_
            intro _ hw'
            obtain ⟨⟨w2, hb2⟩, rfl⟩ := hw'
            have H6 := Lib.hid (HA0.out.trans (hb2.mono HBB.out))
            clear hb2
            go_wp2
            go_ret
            exact says_b HE.out H6.out
          | true =>
            have HP := Lib.hid h3
            cases h4 : (decide (0 ≤ q) && decide (q ≤ 200)) with
            | false =>
              have HI := Lib.hid h4
              have HE := Lib.hid (vU_bad HX.out (okU_bad3 h4))
              clear h1 h2 h3 h4 hR v3
              go_wp2
              rw [HHW.out]
              refine wp_region_later (B + 1) wo (by kernel_rfl) (by kernel_rfl) ?_
              repeat (go_big_quiet_step (first | (go_at_call 35; with_reducible refine (sname_at HN.out hn _).mono ?_; rintro e w2 ⟨rfl, rfl⟩; exact ⟨rfl, _, rfl⟩) | (go_at_call 35; with_reducible refine (sname_at HP.out hp _).mono ?_; rintro e w2 ⟨rfl, rfl⟩; exact ⟨rfl, _, rfl⟩) | (go_at_call 40; refine (sin_at HI.out _).mono ?_; rintro e w2 ⟨rfl, rfl⟩; exact ⟨rfl, _, rfl⟩)))
              refine wpQuiet_nil ?_
              intro _ hw'
              obtain ⟨⟨w2, hb2⟩, rfl⟩ := hw'
              have H6 := Lib.hid (HA0.out.trans (hb2.mono HBB.out))
              clear hb2
              go_wp2
              go_ret
              exact says_b HE.out H6.out
            | true =>
              have HI := Lib.hid h4
              have HO := Lib.hid (okU_yes h1 h2 h3 h4)
              clear h1 h2 h3 h4 v3
              obtain rfl | ⟨j, rfl⟩ : k = 0 ∨ ∃ j, k = j + 1 := by
                cases k with
                | zero => exact .inl rfl
                | succ j => exact .inr ⟨j, rfl⟩
              ·
                simp only [Nat.zero_mul, Nat.add_zero] at c0 c1 c2
                have HE := Lib.hid (goodU_first HX.out HO.out)
                clear hR
                go_wp2
                rw [HHW.out]
                refine wp_region_later (B + 1) wo (by kernel_rfl) (by kernel_rfl) ?_
                repeat (go_big_quiet_step (first | (go_at_call 35; with_reducible refine (sname_at HN.out hn _).mono ?_; rintro e w2 ⟨rfl, rfl⟩; exact ⟨rfl, _, rfl⟩) | (go_at_call 35; with_reducible refine (sname_at HP.out hp _).mono ?_; rintro e w2 ⟨rfl, rfl⟩; exact ⟨rfl, _, rfl⟩) | (go_at_call 40; refine (sin_at HI.out _).mono ?_; rintro e w2 ⟨rfl, rfl⟩; exact ⟨rfl, _, rfl⟩)))
                refine wpQuiet_nil ?_
                intro _ hw'
                obtain ⟨⟨w2, hb2⟩, rfl⟩ := hw'
                have H6 := Lib.hid (HA0.out.trans (hb2.mono HBB.out))
                clear hb2
                go_wp2
                go_roundw
                case rel => exact ⟨1, by omega, by go_num, HE.out, H6.out⟩
                case measure => simp [intOf]; omega
              ·
                obtain ⟨⟨v, p', q'⟩, hy⟩ : ∃ x, L[j]? = some x := ⟨_, List.getElem?_eq_getElem (by rw [H.out.1]; omega)⟩
                have HY := Lib.hid hy
                obtain ⟨b', o', he, _, d0, _, _⟩ := user_at HRO.out hy
                cases he
                have j0 : (0 : Int) < ((j + 1 : Nat) : Int) := by omega
                have j1 : (0 : Int) ≤ (j : Int) := by omega
                have j2 : (j : Int) < (N : Int) := by omega
                have W1 : IntKind.i64.wrap (((j + 1 : Nat) : Int) - 1) = (j : Int) := by rw [IntWalk.i64_in _ (by omega)]; omega
                clear hy hR
                cases hlg : ltG v n with
                | false =>
                  have HL := lessW hlg
                  have HE := Lib.hid (vU_order HY.out HX.out hlg)
                  clear hlg
                  go_wp2
                  rw [HHW.out]
                  have l2 : ∀ x : Later (B + 1) wo, x.v.cell? ⟨b, o + j * 3, none⟩ = some (.string v) := fun x => x.cell (by simp; omega) d0
                  refine wp_region_later (B + 1) wo (by kernel_rfl) (by kernel_rfl) ?_
                  repeat (go_big_quiet_step (first | (go_at_call 35; with_reducible refine (sname_at HN.out hn _).mono ?_; rintro e w2 ⟨rfl, rfl⟩; exact ⟨rfl, _, rfl⟩) | (go_at_call 35; with_reducible refine (sname_at HP.out hp _).mono ?_; rintro e w2 ⟨rfl, rfl⟩; exact ⟨rfl, _, rfl⟩) | (go_at_call 40; refine (sin_at HI.out _).mono ?_; rintro e w2 ⟨rfl, rfl⟩; exact ⟨rfl, _, rfl⟩)))
                  refine wpQuiet_nil ?_
                  intro _ hw'
                  obtain ⟨⟨w2, hb2⟩, rfl⟩ := hw'
                  have H6 := Lib.hid (HA0.out.trans (hb2.mono HBB.out))
                  clear hb2
                  go_wp2
                  go_ret
                  exact says_b HE.out H6.out
                | true =>
                  have HL := lessW hlg
                  have HE := Lib.hid (goodU_next HG.out HY.out HX.out HO.out hlg)
                  clear hlg
                  go_wp2
                  rw [HHW.out]
                  have l2 : ∀ x : Later (B + 1) wo, x.v.cell? ⟨b, o + j * 3, none⟩ = some (.string v) := fun x => x.cell (by simp; omega) d0
                  refine wp_region_later (B + 1) wo (by kernel_rfl) (by kernel_rfl) ?_
                  repeat (go_big_quiet_step (first | (go_at_call 35; with_reducible refine (sname_at HN.out hn _).mono ?_; rintro e w2 ⟨rfl, rfl⟩; exact ⟨rfl, _, rfl⟩) | (go_at_call 35; with_reducible refine (sname_at HP.out hp _).mono ?_; rintro e w2 ⟨rfl, rfl⟩; exact ⟨rfl, _, rfl⟩) | (go_at_call 40; refine (sin_at HI.out _).mono ?_; rintro e w2 ⟨rfl, rfl⟩; exact ⟨rfl, _, rfl⟩)))
                  refine wpQuiet_nil ?_
                  intro _ hw'
                  obtain ⟨⟨w2, hb2⟩, rfl⟩ := hw'
                  have H6 := Lib.hid (HA0.out.trans (hb2.mono HBB.out))
                  clear hb2
                  go_wp2
                  go_roundw
                  case rel => exact ⟨j + 1 + 1, by omega, by go_num, HE.out, H6.out⟩
                  case measure => simp [intOf]; omega
    · have h5 : ¬ (k : Int) < (N : Int) := by omega
      have hv := goodU_all HG.out (by rw [H.out.1]; omega)
      rw [H.out.1] at hv
      obtain ⟨z, hz⟩ : ∃ z, vU L = z := ⟨_, rfl⟩
      have HI := Lib.hid (two_int (hv.symm.trans hz))
      have HZ := Lib.hid hz
      clear hv hz
      go_wp2_with fail
      refine (sin_at HI.out _).mono ?_
      rintro e w2 ⟨rfl, rfl⟩
      go_wp2
      go_ret
      exact says_b HZ.out HB.out
theorem spec_uv {A : Option Addr} {N cap : Nat} {L : List Us} {z : Bool} (h : vU L = z) (w : World) (hi : UIn w A N cap L) : Calls Try.prog 44 #[.slice A N cap] w (SayB w z) := by
  subst h
  exact spec_usersvalid w hi
set_option maxRecDepth 20000 in
set_option maxHeartbeats 2000000 in
theorem spec_l14 {A : Option Addr} {N cap : Nat} {L : List Us} {n : ByteArray} {z : Int} (hz : ixG L n 0 = z) (w : World) (h : UIn w A N cap L) : Calls Try.prog 72 #[.slice A N cap, .string n] w fun e w' => e = .returned (.int .i64 z) ∧ w' = w := by
  have H := Lib.hid h
  have HZ := Lib.hid hz
  have hl := h.2.1
  clear h hz
  go_enter Try.func72, Try.ntmps72
  go_wp2
  go_loopw [5] (fun i wr => ∃ k : Nat, k ≤ N ∧ i = .int .i64 (k : Int) ∧ Hid (ixG L n 0 = ixG (L.drop k) n k) ∧ wr = w) (fun i _ => N - (intOf i).toNat)
  case atStart => exact ⟨0, Nat.zero_le _, by go_num, rfl, rfl⟩
  case round =>
    obtain ⟨k, hk, rfl, HT, rfl⟩ := hrel
    by_cases hlt : k < N
    · have h0 : (0 : Int) ≤ (k : Int) := by omega
      have h5 : (k : Int) < (N : Int) := by omega
      obtain ⟨⟨m, p, q⟩, hx⟩ : ∃ x, L[k]? = some x := ⟨_, List.getElem?_eq_getElem (by rw [H.out.1]; exact hlt)⟩
      obtain ⟨b, o, rfl, hb, c0, c1, c2⟩ := user_at H.out.2.2.1 hx
      have HX := Lib.hid hx
      clear hx
      by_cases e1 : m = n
      · subst e1
        go_wp2
        go_ret
        exact ⟨ret_i (by rw [← HZ.out, HT.out]; exact (ixG_here HX.out).symm), rfl⟩
      · obtain ⟨hne, hne'⟩ := ne_walk e1
        have HE := Lib.hid (HT.out.trans (ixG_skip HX.out e1))
        clear e1
        go_wp2
        go_roundw
        case rel => exact ⟨k + 1, by omega, by go_num, HE.out, trivial⟩
        case measure => simp [intOf]; omega
    · have h5 : ¬ (k : Int) < (N : Int) := by omega
      have HE : Hid (z = -1) := Lib.hid (by rw [← HZ.out, HT.out, List.drop_eq_nil_of_le (by rw [H.out.1]; omega)]; rfl)
      go_wp2
      go_ret
      exact ⟨ret_i HE.out.symm, rfl⟩
set_option maxRecDepth 20000 in
set_option maxHeartbeats 4000000 in
theorem spec_uf {A : Option Addr} {N cap : Nat} {L : List Us} {n : ByteArray} {u : Us} {z : Bool} (hf : usF L n = (u, z)) (w : World) (h : UIn w A N cap L) : Calls Try.prog 80 #[.slice A N cap, .string n] w (GivesU w u z) := by
  have H := Lib.hid h
  have hl := h.2.1
  clear h
  obtain ⟨B, hB⟩ : ∃ B, w.heap.size = B := ⟨_, rfl⟩
  obtain ⟨wa, hwa⟩ : ∃ wa, w.alloc (.cells #[.string ⟨#[]⟩, .string ⟨#[]⟩, .int .i64 0] 71) = wa := ⟨_, rfl⟩
  have HW0 := Lib.hid (show Whole wa B 71 #[.string ⟨#[]⟩, .string ⟨#[]⟩, .int .i64 0] by rw [← hwa, ← hB]; exact Whole.made _ _ _)
  have HB0 := Lib.hid (show Below B w wa by rw [← hwa, ← hB]; exact (Below.refl _ _).alloc (Nat.le_refl _) _)
  have HI0 := Lib.hid (H.out.below HB0.out (Nat.le_of_eq hB))
  have HWA := Lib.hid hwa
  have HBB := Lib.hid hB
  clear hwa hB
  cases hv : vU L with
  | false =>
    have HE : Hid ((noU, false) = (u, z)) := Lib.hid ((usF_no n hv).symm.trans hf)
    have HV := Lib.hid hv
    clear hv hf
    go_enter Try.func80, Try.ntmps80
    go_wp2_with fail
    rw [HWA.out, HBB.out]
    refine (spec_uv HV.out _ HI0.out).mono ?_
    rintro e w1 ⟨rfl, hb⟩
    have HW1 := Lib.hid (HW0.out.below hb HW0.out.lt)
    have HB1 := Lib.hid (HB0.out.trans (hb.mono (Nat.le_of_lt HW0.out.lt)))
    have HI1 := Lib.hid (HI0.out.below hb (Nat.le_refl _))
    clear hb
    have z0 := HW1.out.cell 0
    have z1 := HW1.out.cell 1
    have z2 := HW1.out.cell 2
    have f0 := HW1.out.free 0
    have f1 := HW1.out.free 1
    have f2 := HW1.out.free 2
    simp at z0 z1 z2
    have HS := Lib.hid (put_user HW1.out ⟨#[]⟩ ⟨#[]⟩ 0)
    have r0 := HS.out.cell 0
    have r1 := HS.out.cell 1
    have r2 := HS.out.cell 2
    simp at r0 r1 r2
    go_wp2
    refine bodyPost_ret (v := .tuple #[usV noU, .bool false]) (by simp [results, Try.results80, go_sem, usV, noU, r0, r1, r2]) rfl ?_
    exact gives_u HE.out.symm (((HBB.out.symm ▸ HB1.out).setCell (Nat.le_of_eq HBB.out) _).setCell (Nat.le_of_eq HBB.out) _ |>.setCell (Nat.le_of_eq HBB.out) _)
  | true =>
    have HV := Lib.hid hv
    rcases ixG_case L n 0 with ⟨hx, hi⟩ | ⟨j, x, hj, hx, hi⟩
    · have HE : Hid ((noU, false) = (u, z)) := Lib.hid ((usF_none hv hx).symm.trans hf)
      have HX := Lib.hid hi
      clear hv hf hx hi
      go_enter Try.func80, Try.ntmps80
      go_wp2_with fail
      rw [HWA.out, HBB.out]
      refine (spec_uv HV.out _ HI0.out).mono ?_
      rintro e w1 ⟨rfl, hb⟩
      have HW1 := Lib.hid (HW0.out.below hb HW0.out.lt)
      have HB1 := Lib.hid (HB0.out.trans (hb.mono (Nat.le_of_lt HW0.out.lt)))
      have HI1 := Lib.hid (HI0.out.below hb (Nat.le_refl _))
      clear hb
      go_wp2_with fail
      refine (spec_l14 HX.out _ HI1.out).mono ?_
      rintro e w2 ⟨rfl, rfl⟩
      have z0 := HW1.out.cell 0
      have z1 := HW1.out.cell 1
      have z2 := HW1.out.cell 2
      have f0 := HW1.out.free 0
      have f1 := HW1.out.free 1
      have f2 := HW1.out.free 2
      simp at z0 z1 z2
      have HS := Lib.hid (put_user HW1.out ⟨#[]⟩ ⟨#[]⟩ 0)
      have r0 := HS.out.cell 0
      have r1 := HS.out.cell 1
      have r2 := HS.out.cell 2
      simp at r0 r1 r2
      go_wp2
      refine bodyPost_ret (v := .tuple #[usV noU, .bool false]) (by simp [results, Try.results80, go_sem, usV, noU, r0, r1, r2]) rfl ?_
      exact gives_u HE.out.symm (((HBB.out.symm ▸ HB1.out).setCell (Nat.le_of_eq HBB.out) _).setCell (Nat.le_of_eq HBB.out) _ |>.setCell (Nat.le_of_eq HBB.out) _)
    · have HE : Hid ((x, true) = (u, z)) := Lib.hid ((usF_yes hv hx).symm.trans hf)
      rw [Nat.zero_add] at hi
      have hjN : j < N := by rw [← H.out.1]; exact (List.getElem?_eq_some_iff.1 hj).1
      have j0 : (0 : Int) ≤ (j : Int) := by omega
      have j1 : ¬ (j : Int) < 0 := by omega
      have j2 : (j : Int) < (N : Int) := by omega
      have HX := Lib.hid hi
      have HJ := Lib.hid hj
      clear hv hf hx hi hj
      obtain ⟨n1, p1, q1⟩ := x
      go_enter Try.func80, Try.ntmps80
      go_wp2_with fail
      rw [HWA.out, HBB.out]
      refine (spec_uv HV.out _ HI0.out).mono ?_
      rintro e w1 ⟨rfl, hb⟩
      have HW1 := Lib.hid (HW0.out.below hb HW0.out.lt)
      have HB1 := Lib.hid (HB0.out.trans (hb.mono (Nat.le_of_lt HW0.out.lt)))
      have HI1 := Lib.hid (HI0.out.below hb (Nat.le_refl _))
      clear hb
      go_wp2_with fail
      refine (spec_l14 HX.out _ HI1.out).mono ?_
      rintro e w2 ⟨rfl, rfl⟩
      obtain ⟨b, o, rfl, hbz, c0, c1, c2⟩ := user_at HI1.out.2.2.1 HJ.out
      have z0 := HW1.out.cell 0
      have z1 := HW1.out.cell 1
      have z2 := HW1.out.cell 2
      have f0 := HW1.out.free 0
      have f1 := HW1.out.free 1
      have f2 := HW1.out.free 2
      simp at z0 z1 z2
      have HS := Lib.hid (put_user HW1.out n1 p1 q1)
      have r0 := HS.out.cell 0
      have r1 := HS.out.cell 1
      have r2 := HS.out.cell 2
      simp at r0 r1 r2
      go_wp2_with fail
      refine (spec_l14 HX.out _ HI1.out).mono ?_
      rintro e w2 ⟨rfl, rfl⟩
      go_wp2
      refine bodyPost_ret (v := .tuple #[usV (n1, p1, q1), .bool true]) (by simp [results, Try.results80, go_sem, usV, r0, r1, r2]) rfl ?_
      exact gives_u HE.out.symm (((HBB.out.symm ▸ HB1.out).setCell (Nat.le_of_eq HBB.out) _).setCell (Nat.le_of_eq HBB.out) _ |>.setCell (Nat.le_of_eq HBB.out) _)
set_option maxRecDepth 20000 in
set_option maxHeartbeats 4000000 in
theorem spec_up {A : Option Addr} {N cap : Nat} {L : List Us} {n p : ByteArray} {z : Bool} (hz : prU L n p = z) (w : World) (h : UIn w A N cap L) : Calls Try.prog 77 #[.slice A N cap, .string n, .string p] w (SayB w z) := by
  have H := Lib.hid h
  clear h
  obtain ⟨⟨⟨n1, p1, q1⟩, y⟩, hf⟩ : ∃ x, usF L n = x := ⟨_, rfl⟩
  have HF := Lib.hid hf
  have hz2 := (prU_is (p := p) hf).symm.trans hz
  clear hf hz
  have hw : ∀ w1 : World, Below w.heap.size w w1 → Below w.heap.size w (w1.alloc (.cells #[.string n1, .string p1, .int .i64 q1] 71)) := fun w1 h1 => h1.alloc h1.size _
  have HWW := Lib.hid hw
  clear hw
  cases y with
  | false =>
    have HZ : Hid (false = z) := Lib.hid hz2
    clear hz2
    go_enter Try.func77, Try.ntmps77
    go_wp2_with fail
    refine (spec_uf HF.out _ H.out).mono ?_
    rintro e w1 ⟨rfl, hb⟩
    have HB1 := Lib.hid hb
    clear hb
    unfold usV
    go_wp2
    go_ret
    exact says_b HZ.out.symm (HWW.out _ HB1.out)
  | true =>
    by_cases he : p1 = p
    · subst he
      have HZ : Hid (true = z) := Lib.hid (by rw [← hz2]; simp)
      clear hz2
      go_enter Try.func77, Try.ntmps77
      go_wp2_with fail
      refine (spec_uf HF.out _ H.out).mono ?_
      rintro e w1 ⟨rfl, hb⟩
      have HB1 := Lib.hid hb
      have c1 := (Whole.made w1 71 #[.string n1, .string p1, .int .i64 q1]).cell 1
      simp at c1
      clear hb
      unfold usV
      go_wp2
      go_ret
      exact says_b HZ.out.symm (HWW.out _ HB1.out)
    · have HZ : Hid (false = z) := Lib.hid (by rw [← hz2, ne_kb he]; rfl)
      obtain ⟨v1, v2⟩ := ne_walk he
      clear hz2 he
      go_enter Try.func77, Try.ntmps77
      go_wp2_with fail
      refine (spec_uf HF.out _ H.out).mono ?_
      rintro e w1 ⟨rfl, hb⟩
      have HB1 := Lib.hid hb
      have c1 := (Whole.made w1 71 #[.string n1, .string p1, .int .i64 q1]).cell 1
      simp at c1
      clear hb
      unfold usV
      go_wp2
      go_ret
      exact says_b HZ.out.symm (HWW.out _ HB1.out)
set_option maxRecDepth 20000 in
set_option maxHeartbeats 4000000 in
theorem spec_upl {A : Option Addr} {N cap : Nat} {L : List Us} {t n p x : ByteArray} {o z : Bool} (hp : IsPP t o n p) (hz : upU L n p o = (x, z)) (w : World) (h : UIn w A N cap L) (ht : t.size ≤ 16777216) : Calls Try.prog 73 #[.slice A N cap, .string t] w (GivesX w x z) := by
  have H := Lib.hid h
  have HP := Lib.hid hp
  clear h hp
  cases o with
  | false =>
    have HZ : Hid (((⟨#[]⟩ : ByteArray), false) = (x, z)) := Lib.hid hz
    clear hz
    go_enter Try.func73, Try.ntmps73
    go_wp2_with fail
    refine (splain HP.out _ ht).mono ?_
    rintro e w1 ⟨rfl, hb⟩
    have HB1 := Lib.hid hb
    clear hb
    go_wp2
    go_ret2
    exact gives_x HZ.out.symm HB1.out
  | true =>
    obtain ⟨y, hy⟩ : ∃ y, prU L n p = y := ⟨_, rfl⟩
    have HY := Lib.hid hy
    cases y with
    | false =>
      have HZ : Hid (((⟨#[]⟩ : ByteArray), false) = (x, z)) := Lib.hid (by rw [← hz]; unfold upU; rw [hy]; rfl)
      clear hz hy
      go_enter Try.func73, Try.ntmps73
      go_wp2_with fail
      refine (splain HP.out _ ht).mono ?_
      rintro e w1 ⟨rfl, hb⟩
      have HB1 := Lib.hid hb
      have HI1 := Lib.hid (H.out.below hb (Nat.le_refl _))
      clear hb
      go_wp2_with fail
      refine (spec_up HY.out _ HI1.out).mono ?_
      rintro e w2 ⟨rfl, hb⟩
      have HB2 := Lib.hid (HB1.out.trans (hb.mono HB1.out.size))
      clear hb
      go_wp2
      go_ret2
      exact gives_x HZ.out.symm HB2.out
    | true =>
      have HZ : Hid ((n, true) = (x, z)) := Lib.hid (by rw [← hz]; unfold upU; rw [hy]; rfl)
      clear hz hy
      go_enter Try.func73, Try.ntmps73
      go_wp2_with fail
      refine (splain HP.out _ ht).mono ?_
      rintro e w1 ⟨rfl, hb⟩
      have HB1 := Lib.hid hb
      have HI1 := Lib.hid (H.out.below hb (Nat.le_refl _))
      clear hb
      go_wp2_with fail
      refine (spec_up HY.out _ HI1.out).mono ?_
      rintro e w2 ⟨rfl, hb⟩
      have HB2 := Lib.hid (HB1.out.trans (hb.mono HB1.out.size))
      clear hb
      go_wp2
      go_ret2
      exact gives_x HZ.out.symm HB2.out
end Go.Proofs.Ytichajalinkcdaa
namespace Go.Proofs.Ytichajalinkcdaa
open Go.RowKit
set_option linter.unusedVariables false

/-- A drawn text; the reader stands a few places further. -/
def Text2 (w : World) (b p : Nat) (e : Ending) (w' : World) : Prop := ∃ (s : ByteArray) (q : Nat), s.size ≤ 40 ∧ q ≤ p + 100 ∧ e = .returned (.string s) ∧ Rd w' b q ∧ w.grownBy w' (some b)
theorem own_picked {w w' : World} {B b n : Nat} {t : TypeId} {v : Value} {xs : List Value} (h : w.ownsRow B t 1 v n xs) (hg : w.grownBy w' (some b)) (hb : b < B) : w'.ownsRow B t 1 v n xs :=
  h.kept hg (by
    rcases h.2 with ⟨rfl, _⟩ | ⟨g, cap, cur, rfl, hB, _⟩
    · exact Or.inl rfl
    · exact Or.inr (by simp [Value.ownBlock]; omega))
theorem grow_own {w w1 w2 : World} {b : Nat} {row : Option Nat} (h : w.grownBy w1 (some b)) (hg : w1.grownBy w2 row) (hr : ∀ g, row = some g → w.heap.size ≤ g) : w.grownBy w2 (some b) :=
  ⟨hg.os.trans h.os, hg.tape.trans h.tape, hg.output.trans h.output, Nat.le_trans h.size hg.size, fun i hi hn => (hg.block i (Nat.lt_of_lt_of_le hi h.size) (fun e => by have := hr i e.symm; omega)).trans (h.block i hi hn)⟩

theorem Rd.kept_row {w w' : World} {b p : Nat} {row : Option Nat} (h : Rd w b p) (hg : w.grownBy w' row) (hb : ∀ g, row = some g → b < g) : Rd w' b p := by
  cases row with
  | none => exact h.below ⟨hg.os, hg.tape, hg.output, hg.size, fun k hk => hg.block k hk (by simp)⟩ h.lt
  | some g => exact h.grown hg (hb g rfl)
theorem of_new_drew (b p : Nat) (ls : List (List UInt8)) (w : World) (h : Rd w b p) (hp : p ≤ 1000000) (hn : 1 ≤ ls.length) (hn' : ls.length ≤ 1000000) (ha : ls.all (fun x => decide (x.length ≤ 30)) = true) :
    Calls Try.prog 53 #[.pointer (some ⟨b, 0, none⟩), .slice (some ⟨w.heap.size, 0, none⟩) ls.length ls.length] (w.alloc (.cells (ls.map str).toArray 9)).drew
      fun e w' => ∃ u : ByteArray, u.size ≤ 30 ∧ e = .returned (.string u) ∧ Rd w' b (p + 1) ∧ w.grownBy w' (some b) := by
  have hb := h.lt
  have hA := (Below.refl w.heap.size w).alloc (Nat.le_refl _) (.cells (ls.map str).toArray 9)
  refine (of_any b p w.heap.size ls.length ls _ (show Rd (w.alloc (.cells (ls.map str).toArray 9)).drew b p from (h.below hA hb : Rd (w.alloc (.cells (ls.map str).toArray 9)) b p)) hp hn hn' (by omega) (by simp) (fun j hj => ?_)).mono ?_
  · show (w.alloc (.cells (ls.map str).toArray 9)).cell? ⟨w.heap.size, j, none⟩ = _
    rw [(Whole.made w 9 (ls.map str).toArray).cell j, List.getElem?_toArray, List.getElem?_map, List.getD_eq_getElem?_getD, List.getElem?_eq_getElem hj]
    rfl
  · rintro e w' ⟨l, hl, he, hr, hg⟩
    exact ⟨_, text_le ha hl, he, hr, gr_trans (gr_drew (gr_alloc (gr_refl _ _) _)) hg⟩
theorem str_size (l : List UInt8) : (⟨l.toArray⟩ : ByteArray).size = l.length := rfl
end Go.Proofs.Ytichajalinkcdaa
namespace Go.Proofs.Ytichajalinkcdaa
open Go.RowKit
set_option linter.unusedVariables false

/-- Two drawn texts. -/
def DrewTwo (w : World) (e : Ending) (w' : World) : Prop := ∃ u p : ByteArray, u.size ≤ 30 ∧ p.size ≤ 30 ∧ e = .returned (.tuple #[.string u, .string p]) ∧ Below w.heap.size w w'
theorem two_cat (a b : ByteArray) (c d : UInt8) : ((⟨#[c, d]⟩ : ByteArray) ++ a ++ ⟨#[0]⟩ ++ b).size = a.size + b.size + 3 := by
  rw [ByteArray.size_append, ByteArray.size_append, ByteArray.size_append, one_size, two_size]
  omega
end Go.Proofs.Ytichajalinkcdaa
namespace Go.Proofs.Ytichajalinkcdaa
open Go.RowKit
set_option linter.unusedVariables false

theorem ROwn.front {α : Type} {R : RowT α} {w : World} {B g n cap k : Nat} {L : List α} (h : ROwn R w B (.slice (some ⟨g, 0, none⟩) n cap) L) (hk : k ≤ n) : ROwn R w B (.slice (some ⟨g, 0, none⟩) k cap) (L.take k) := by
  have hn := h.len.1
  have hkl : (L.take k).length = k := by rw [List.length_take]; omega
  rcases h.2 with ⟨he, _⟩ | ⟨g', c, cur, he, hB, hg, h1, h2, h3, h4⟩
  · cases he
  · cases he
    refine ⟨rcells_len R _, .inr ⟨g, cap, cur, by rw [hkl], hB, hg, by omega, h2, h3, ?_⟩⟩
    have e : (rcells R L).take (k * R.sz) = rcells R (L.take k) := by
      have e2 : rcells R L = rcells R (L.take k) ++ rcells R (L.drop k) := by rw [← rcells_app, List.take_append_drop]
      rw [e2, List.take_append_of_le_length (by rw [rcells_len, hkl]; exact Nat.le_refl _), List.take_of_length_le (by rw [rcells_len, hkl]; exact Nat.le_refl _)]
    rw [hkl, ← e, ← h4, List.take_take]
    congr 1
    have := Nat.mul_le_mul_right R.sz (show k ≤ L.length by omega)
    omega
/-- Drawn users, so far. -/
def DrU (w wr : World) (b q N : Nat) (v : Value) (L : List Us) : Prop := Rd wr b q ∧ ROwn usR wr w.heap.size v L ∧ w.grownBy wr (some b) ∧ (∀ g ∈ L, g.1.size ≤ 30 ∧ g.2.1.size ≤ 30) ∧ (1 ≤ N ∧ N ≤ 5) ∧ b < w.heap.size
theorem DrU.read {w wr w' : World} {b q q' N : Nat} {v : Value} {L : List Us} (h : DrU w wr b q N v L) (hr : Rd w' b q') (hg : wr.grownBy w' (some b)) : DrU w w' b q' N v L := ⟨hr, h.2.1.grown hg h.2.2.2.2.2, gr_trans h.2.2.1 hg, h.2.2.2⟩
theorem DrU.alloc {w wr : World} {b q N : Nat} {v : Value} {L : List Us} (h : DrU w wr b q N v L) (o : Obj) : DrU w (wr.alloc o) b q N v L := ⟨h.1.below ((Below.refl _ _).alloc (Nat.le_refl _) _) h.1.lt, h.2.1.alloc o, gr_alloc h.2.2.1 _, h.2.2.2⟩
theorem DrU.set {w wr : World} {b q N cap g k : Nat} {L : List Us} {x y : Us} {j : Nat} {u : Value} (h : DrU w wr b q N (.slice (some ⟨g, 0, none⟩) N cap) L) (hx : L[k]? = some x) (hj : j < 3) (hy : usR.enc y = (usR.enc x).set j u) (hs : y.1.size ≤ 30 ∧ y.2.1.size ≤ 30) :
    DrU w (wr.setCell ⟨g, k * 3 + j, none⟩ u) b q N (.slice (some ⟨g, 0, none⟩) N cap) (L.set k y) := by
  obtain ⟨h1, g1⟩ := h.2.1.stored (y := y) hx hj hy
  have hg : w.heap.size ≤ g := (World.ownsRow.lt h.2.1 g rfl).1
  refine ⟨rd_far h.1 g1 (fun z e => by cases e; exact Nat.lt_of_lt_of_le h.2.2.2.2.2 hg), h1, gr_far h.2.2.1 g1 (fun z e => by cases e; exact hg), fun z hz => ?_, h.2.2.2.2.1, h.2.2.2.2.2⟩
  rcases List.mem_or_eq_of_mem_set hz with h2 | h2
  · exact h.2.2.2.1 z h2
  · rw [h2]; exact hs
/-- Drawn users. -/
def DrewU (w : World) (b p : Nat) (e : Ending) (w' : World) : Prop := ∃ g N cap L q, e = .returned (.slice (some ⟨g, 0, none⟩) N cap) ∧ q ≤ p + 10 ∧ DrU w w' b q N (.slice (some ⟨g, 0, none⟩) N cap) L
def usL (y z : Nat) : List Us := [(⟨#[97, 109, 121]⟩, ⟨#[97, 49]⟩, 60), (⟨#[98, 111, 98]⟩, ⟨#[98, 50]⟩, 20 + (y : Int)), (⟨#[99, 121, 100]⟩, ⟨#[99, 51]⟩, 100 + (z : Int))]
theorem usL_size (y z : Nat) : ∀ g ∈ usL y z, g.1.size ≤ 30 ∧ g.2.1.size ≤ 30 := by
  intro g hg
  simp [usL] at hg
  rcases hg with rfl | rfl | rfl <;> exact ⟨Nat.le_of_ble_eq_true rfl, Nat.le_of_ble_eq_true rfl⟩
def usCells (y z : Int) : Array Value := #[.string ⟨#[97, 109, 121]⟩, .string ⟨#[97, 49]⟩, .int .i64 60, .string ⟨#[98, 111, 98]⟩, .string ⟨#[98, 50]⟩, .int .i64 (20 + y), .string ⟨#[99, 121, 100]⟩, .string ⟨#[99, 51]⟩, .int .i64 (100 + z)]
theorem usq_at {y : Nat} (h : y < 4) : ∃ z : Int, (#[Value.int .i64 (-1), .int .i64 0, .int .i64 200, .int .i64 201] : Array Value)[y]? = some (.int .i64 z) := by
  match y, h with
  | 0, _ => exact ⟨-1, rfl⟩
  | 1, _ => exact ⟨0, rfl⟩
  | 2, _ => exact ⟨200, rfl⟩
  | 3, _ => exact ⟨201, rfl⟩
set_option maxRecDepth 20000 in
set_option maxHeartbeats 8000000 in
theorem users_draw (b p : Nat) (w : World) (h : Rd w b p) (hp : p ≤ 800000) : Calls Try.prog 29 #[.pointer (some ⟨b, 0, none⟩)] w (DrewU w b p) := by
  obtain ⟨i0, hi, hq0, hq1, hq2⟩ := info_parts Try.infoUser
  have hbl := h.lt
  have HR0 := Lib.hid h
  clear h
  go_enter Try.func29, Try.ntmps29
  go_wp2_with fail
  refine (pick_any b p 60 w HR0.out (by omega) (by omega) (by omega)).mono ?_
  rintro e w1 ⟨y, hy, rfl, hr, hg⟩
  have HR1 := Lib.hid hr
  have HG1 := Lib.hid hg
  have W1 : IntKind.i64.wrap (20 + (y : Int)) = 20 + (y : Int) := IntWalk.i64_in _ (by omega)
  clear hr hg
  go_wp2_with fail
  refine (pick_any b (p + 1) 100 _ HR1.out (by omega) (by omega) (by omega)).mono ?_
  rintro e w2 ⟨z, hz, rfl, hr, hg⟩
  have W2 : IntKind.i64.wrap (100 + (z : Int)) = 100 + (z : Int) := IntWalk.i64_in _ (by omega)
  obtain ⟨S, hS⟩ : ∃ S, w2.heap.size = S := ⟨_, rfl⟩
  obtain ⟨wa, hwa⟩ : ∃ wa, w2.alloc (.cells #[.string ⟨#[97, 109, 121]⟩, .string ⟨#[97, 49]⟩, .int .i64 60, .string ⟨#[98, 111, 98]⟩, .string ⟨#[98, 50]⟩, .int .i64 (20 + (y : Int)), .string ⟨#[99, 121, 100]⟩, .string ⟨#[99, 51]⟩, .int .i64 (100 + (z : Int))] 71) = wa := ⟨_, rfl⟩
  have hgw := gr_trans HG1.out hg
  have hle : w.heap.size ≤ w2.heap.size := hgw.size
  have HD : Hid (DrU w wa b (p + 1 + 1) 3 (.slice (some ⟨S, 0, none⟩) 3 3) (usL y z)) := Lib.hid ⟨by rw [← hwa]; exact hr.below ((Below.refl w2.heap.size w2).alloc (Nat.le_refl _) _) hr.lt, by rw [← hwa, ← hS]; exact World.ownsRow_lit w2 #[.string ⟨#[97, 109, 121]⟩, .string ⟨#[97, 49]⟩, .int .i64 60, .string ⟨#[98, 111, 98]⟩, .string ⟨#[98, 50]⟩, .int .i64 (20 + (y : Int)), .string ⟨#[99, 121, 100]⟩, .string ⟨#[99, 51]⟩, .int .i64 (100 + (z : Int))] 3 hle (by unfold maxLen; omega) rfl, by rw [← hwa]; exact gr_alloc hgw _, usL_size y z, by omega, hbl⟩
  have HWA := Lib.hid hwa
  have HSS := Lib.hid hS
  clear hr hg hgw hle hwa hS
  go_wp2_with fail
  rw [HWA.out, HSS.out]
  refine (pick_any b (p + 1 + 1) 3 _ HD.out.1 (by omega) (by omega) (by omega)).mono ?_
  rintro e w3 ⟨x, hx, rfl, hr, hg⟩
  have hd := HD.out.read hr hg
  obtain ⟨m, hm⟩ : ∃ m, 1 + x = m := ⟨_, rfl⟩
  have hm1 : 1 ≤ m := by omega
  have hm3 : m ≤ 3 := by omega
  have E1 : (1 : Int) + (x : Int) = (m : Int) := by omega
  have W3 : IntKind.i64.wrap (1 + (x : Int)) = (m : Int) := (IntWalk.i64_in _ (by omega)).trans E1
  have HD3 : Hid (DrU w w3 b (p + 1 + 1 + 1) m (.slice (some ⟨S, 0, none⟩) m 3) ((usL y z).take m)) := Lib.hid ⟨hd.1, hd.2.1.front hm3, hd.2.2.1, fun g hg => hd.2.2.2.1 g (List.mem_of_mem_take hg), by omega, hbl⟩
  obtain ⟨L, hL⟩ : ∃ L, (usL y z).take m = L := ⟨_, rfl⟩
  rw [hL] at HD3
  have m0 : (0 : Int) ≤ (m : Int) := by omega
  have m1 : (m : Int) ≤ 3 := by omega
  clear hr hg hm hd hL
  go_wp2_with fail
  refine (pick_any b (p + 1 + 1 + 1) m _ HD3.out.1 (by omega) (by omega) (by omega)).mono ?_
  rintro e w4 ⟨k, hk, rfl, hr, hg⟩
  have HD4 := Lib.hid (HD3.out.read hr hg)
  have k0 : (0 : Int) ≤ (k : Int) := by omega
  have k1 : (k : Int) < (m : Int) := by omega
  clear hr hg
  go_wp2_with fail
  refine (pick_any b (p + 1 + 1 + 1 + 1) 20 _ HD4.out.1 (by omega) (by omega) (by omega)).mono ?_
  rintro e w5 ⟨c, hc, rfl, hr, hg⟩
  have HD5 := Lib.hid (HD4.out.read hr hg)
  clear hr hg
  by_cases h0 : c = 0
  · subst h0
    go_wp2_with fail
    refine (name_text b (p + 1 + 1 + 1 + 1 + 1) _ HD5.out.1 (by omega)).mono ?_
    rintro e w6 ⟨s, hs, rfl, hr, hg⟩
    have HD6 := Lib.hid (HD5.out.read hr hg)
    clear hr hg
    obtain ⟨⟨n1, p1, q1⟩, hx⟩ : ∃ x, L[k]? = some x := ⟨_, List.getElem?_eq_getElem (by rw [← HD6.out.2.1.len.1]; exact hk)⟩
    have hsz := HD6.out.2.2.2.1 _ (List.mem_of_getElem? hx)
    have d0 := HD6.out.2.1.cell hx (j := 0) rfl
    have f0 := HD6.out.2.1.free (k * 3 + 0)
    simp only [usR, Nat.add_zero] at d0 f0
    have HE := Lib.hid (HD6.out.set (j := 0) (y := (s, p1, q1)) hx (by omega) rfl ⟨hs, hsz.2⟩)
    simp only [Nat.add_zero] at HE
    clear hx
    go_wp2
    go_ret
    exact ⟨S, m, 3, _, _, rfl, by omega, HE.out⟩
  · have h0' : ((c : Int) == 0) = false := beq_eq_false_iff_ne.2 (by omega)
    by_cases h1 : c = 1
    · subst h1
      go_wp2_with fail
      refine (name_text b (p + 1 + 1 + 1 + 1 + 1) _ HD5.out.1 (by omega)).mono ?_
      rintro e w6 ⟨s, hs, rfl, hr, hg⟩
      have HD6 := Lib.hid (HD5.out.read hr hg)
      clear hr hg
      obtain ⟨⟨n1, p1, q1⟩, hx⟩ : ∃ x, L[k]? = some x := ⟨_, List.getElem?_eq_getElem (by rw [← HD6.out.2.1.len.1]; exact hk)⟩
      have hsz := HD6.out.2.2.2.1 _ (List.mem_of_getElem? hx)
      have d1 := HD6.out.2.1.cell hx (j := 1) rfl
      have f1 := HD6.out.2.1.free (k * 3 + 1)
      simp only [usR] at d1 f1
      have HE := Lib.hid (HD6.out.set (j := 1) (y := (n1, s, q1)) hx (by omega) rfl ⟨hsz.1, hs⟩)
      skip
      clear hx
      go_wp2
      go_ret
      exact ⟨S, m, 3, _, _, rfl, by omega, HE.out⟩
    · have h1' : ((c : Int) == 1) = false := beq_eq_false_iff_ne.2 (by omega)
      by_cases h2 : c = 2
      · subst h2
        have HA5 := Lib.hid (HD5.out.alloc (.cells #[.int .i64 (-1), .int .i64 0, .int .i64 200, .int .i64 201] 3))
        have hbl5 := HD5.out.1.lt
        go_wp2_with fail
        refine (pick_any b (p + 1 + 1 + 1 + 1 + 1) 4 _ HA5.out.1 (by omega) (by omega) (by omega)).mono ?_
        rintro e w6 ⟨t, ht, rfl, hr, hg⟩
        have HD6 := Lib.hid (HA5.out.read hr hg)
        obtain ⟨v, hv⟩ := usq_at ht
        have hcv : w6.cell? ⟨w5.heap.size, t, none⟩ = some (.int .i64 v) := (((Whole.made w5 3 #[.int .i64 (-1), .int .i64 0, .int .i64 200, .int .i64 201]).grown hg (by simp; omega)).cell t).trans hv
        have t0 : (0 : Int) ≤ (t : Int) := by omega
        have t4 : (t : Int) < 4 := by omega
        clear hr hg hv
        obtain ⟨⟨n1, p1, q1⟩, hx⟩ : ∃ x, L[k]? = some x := ⟨_, List.getElem?_eq_getElem (by rw [← HD6.out.2.1.len.1]; exact hk)⟩
        have hsz := HD6.out.2.2.2.1 _ (List.mem_of_getElem? hx)
        have d2 := HD6.out.2.1.cell hx (j := 2) rfl
        have f2 := HD6.out.2.1.free (k * 3 + 2)
        simp only [usR] at d2 f2
        have HE := Lib.hid (HD6.out.set (j := 2) (y := (n1, p1, v)) hx (by omega) rfl hsz)
        clear hx
        go_wp2
        go_ret
        exact ⟨S, m, 3, _, _, rfl, by omega, HE.out⟩
      · have h2' : ((c : Int) == 2) = false := beq_eq_false_iff_ne.2 (by omega)
        by_cases h3 : c = 3
        · subst h3
          have HN := Lib.hid HD5.out.2.1.len.1.symm
          have hml : m + 2 ≤ maxLen := by unfold maxLen; omega
          have hby : (m + 2) * 40 ≤ 140737488355328 := by omega
          have hown5 := HD5.out.2.1.alloc (.cells #[.string ⟨#[100, 97, 110]⟩, .string ⟨#[100, 52]⟩, .int .i64 9, .string ⟨#[101, 118, 101]⟩, .string ⟨#[101, 53]⟩, .int .i64 9] 71)
          have hnew5 := RAt.made usR w5 [((⟨#[100, 97, 110]⟩ : ByteArray), (⟨#[100, 52]⟩ : ByteArray), (9 : Int)), (⟨#[101, 118, 101]⟩, ⟨#[101, 53]⟩, 9)] w5.heap.size rfl
          have hws : w.heap.size ≤ w5.heap.size := HD5.out.2.2.1.size
          go_wp2_with (at_builtin; refine wpList_append_rows rfl (.tmp 55) (.tmp 58) 51 rfl usR w.heap.size i0 _ 40 Try.underlying51 hi hq0 hq1 hq2 rfl (by decide) _ L [((⟨#[100, 97, 110]⟩ : ByteArray), (⟨#[100, 52]⟩ : ByteArray), (9 : Int)), (⟨#[101, 118, 101]⟩, ⟨#[101, 53]⟩, 9)] m HN.out rfl hown5 (some ⟨w5.heap.size, 0, none⟩) 2 2 rfl rfl hnew5 (fun e => by cases e) (fun q e => by cases e; rfl) hml hby (by simp; omega) ?_)
          intro v' w6 ho hg hnn
          have hfar : ∀ g, (Value.slice (some (⟨S, 0, none⟩ : Addr)) m 3).ownBlock = some g → w.heap.size ≤ g := fun g e => (World.ownsRow.lt HD5.out.2.1 g e).1
          have HR6 := Lib.hid (rd_far (HD5.out.alloc (.cells #[.string ⟨#[100, 97, 110]⟩, .string ⟨#[100, 52]⟩, .int .i64 9, .string ⟨#[101, 118, 101]⟩, .string ⟨#[101, 53]⟩, .int .i64 9] 71)).1 hg (fun g e => Nat.lt_of_lt_of_le hbl (hfar g e)))
          have HG6 := Lib.hid (gr_far (gr_alloc HD5.out.2.2.1 _) hg hfar)
          obtain ⟨A6, N6, cap6, rfl⟩ := ho.val
          have hN6 : N6 = m + 2 := by
            have h1 := ho.len.1
            have h2 := HN.out
            simp only [List.length_append, List.length_cons, List.length_nil] at h1
            omega
          obtain ⟨g6, hg6⟩ : ∃ g6, A6 = some ⟨g6, 0, none⟩ := by
            obtain ⟨A', cap', hv', _, _, _, _, hne⟩ := ho.form
            cases hv'
            exact hne (by simp)
          subst hg6
          have HO6 := Lib.hid ho
          have HZ6 : Hid (∀ g ∈ L ++ [((⟨#[100, 97, 110]⟩ : ByteArray), (⟨#[100, 52]⟩ : ByteArray), (9 : Int)), (⟨#[101, 118, 101]⟩, ⟨#[101, 53]⟩, 9)], g.1.size ≤ 30 ∧ g.2.1.size ≤ 30) := Lib.hid (fun g hg => by
            rcases List.mem_append.1 hg with h | h
            · exact HD5.out.2.2.2.1 g h
            · simp at h
              rcases h with rfl | rfl <;> exact ⟨(by decide), (by decide)⟩)
          clear ho hg hown5 hnew5 hnn
          go_wp2
          go_ret
          exact ⟨g6, N6, cap6, _, _, rfl, by omega, HR6.out, HO6.out, HG6.out, HZ6.out, by omega, hbl⟩
        · have h3' : ((c : Int) == 3) = false := beq_eq_false_iff_ne.2 (by omega)
          clear h0 h1 h2 h3
          go_wp2
          go_ret
          exact ⟨S, m, 3, L, _, rfl, by omega, HD5.out⟩
def passes : List (List UInt8) := [[97, 49], [98, 50], [120], []]
/-- A drawn text, with some picks. -/
def TextQ (w : World) (b p : Nat) (e : Ending) (w' : World) : Prop := ∃ (s : ByteArray) (q : Nat), s.size ≤ 30 ∧ q ≤ p + 2 ∧ e = .returned (.string s) ∧ Rd w' b q ∧ w.grownBy w' (some b)
set_option maxRecDepth 20000 in
set_option maxHeartbeats 4000000 in
theorem pass_draw (b p : Nat) (A : Option Addr) (N cap : Nat) (L : List Us) (n : ByteArray) (w : World) (h : Rd w b p) (hp : p ≤ 800000) (hU : UIn w A N cap L) (hs : ∀ g ∈ L, g.2.1.size ≤ 30) (hAb : ∀ bb o, A = some ⟨bb, o, none⟩ → bb ≠ b) : Calls Try.prog 61 #[.pointer (some ⟨b, 0, none⟩), .slice A N cap, .string n] w (TextQ w b p) := by
  have HR := Lib.hid h
  have HU := Lib.hid hU
  have HS := Lib.hid hs
  have HAB := Lib.hid hAb
  clear h hU hs hAb
  rcases ixG_case L n 0 with ⟨_, hi⟩ | ⟨j, x, hj, _, hi⟩
  · have HI := Lib.hid hi
    clear hi
    go_enter Try.func61, Try.ntmps61
    go_wp2_with fail
    refine (spec_l14 HI.out _ HU.out).mono ?_
    rintro e w1 ⟨rfl, hw⟩
    subst hw
    go_wp2_with fail
    refine (of_new b p passes w1 HR.out (by omega) (by decide) (by decide)).mono ?_
    rintro e w2 ⟨l, hl, rfl, hr, hg⟩
    have hls : (⟨l.toArray⟩ : ByteArray).size ≤ 30 := by
      have h : ∀ l ∈ passes, l.length ≤ 30 := by decide
      have := h l hl
      rw [ByteArray.size]
      simpa using this
    have H2 := Lib.hid (And.intro hr hg)
    clear hr hg
    go_wp2
    go_ret
    exact ⟨_, _, hls, by omega, rfl, H2.out.1, H2.out.2⟩
  · rw [Nat.zero_add] at hi
    have HI := Lib.hid hi
    have HJ := Lib.hid hj
    have hjN : j < N := by rw [← HU.out.1]; exact (List.getElem?_eq_some_iff.1 hj).1
    have j0 : (0 : Int) ≤ (j : Int) := by omega
    have j1 : ¬ (j : Int) < 0 := by omega
    have j2 : (j : Int) < (N : Int) := by omega
    obtain ⟨n1, p1, q1⟩ := x
    have hps : p1.size ≤ 30 := HS.out _ (List.mem_of_getElem? hj)
    clear hi hj
    go_enter Try.func61, Try.ntmps61
    go_wp2_with fail
    refine (spec_l14 HI.out _ HU.out).mono ?_
    rintro e w1 ⟨rfl, hw⟩
    subst hw
    go_wp2_with fail
    refine (pick_any b p 4 _ HR.out (by omega) (by omega) (by omega)).mono ?_
    rintro e w2 ⟨x, hx, rfl, hr, hg⟩
    have H2 := Lib.hid (And.intro hr hg)
    obtain ⟨bb, o, rfl, hbz, c0, c1, c2⟩ := user_at (HU.out.2.2.1.grown hg HAB.out) HJ.out
    clear hr hg
    by_cases h0 : x = 0
    · subst h0
      go_wp2_with fail
      refine (of_new b (p + 1) passes w2 H2.out.1 (by omega) (by decide) (by decide)).mono ?_
      rintro e w3 ⟨l, hl, rfl, hr, hg⟩
      have hls : (⟨l.toArray⟩ : ByteArray).size ≤ 30 := by
        have h : ∀ l ∈ passes, l.length ≤ 30 := by decide
        have := h l hl
        rw [ByteArray.size]
        simpa using this
      have H3 := Lib.hid (And.intro hr (gr_trans H2.out.2 hg))
      clear hr hg
      go_wp2
      go_ret
      exact ⟨_, _, hls, by omega, rfl, H3.out.1, H3.out.2⟩
    · have h0' : (0 : Int) < (x : Int) := by omega
      clear h0
      go_wp2
      go_ret
      exact ⟨p1, _, hps, by omega, rfl, H2.out.1, H2.out.2⟩
/-- Users that were drawn. -/
def Uss (w w' : World) (A : Option Addr) (N cap : Nat) (L : List Us) : Prop := 1 ≤ N ∧ N ≤ 5 ∧ (∀ g ∈ L, g.1.size ≤ 30 ∧ g.2.1.size ≤ 30) ∧ ROwn usR w' w.heap.size (.slice A N cap) L ∧ Below w.heap.size w w'
theorem Uss.uin {w w' : World} {A : Option Addr} {N cap : Nat} {L : List Us} (h : Uss w w' A N cap L) : UIn w' A N cap L := UIn.made h.2.2.2.1 ⟨by have := h.2.2.2.1.len.1; have := h.2.1; omega, fun g hg => ⟨Nat.le_trans (h.2.2.1 g hg).1 (by omega), Nat.le_trans (h.2.2.1 g hg).2 (by omega)⟩⟩
def DrewUL (w : World) (e : Ending) (w' : World) : Prop := ∃ A N cap L, e = .returned (.slice A N cap) ∧ Uss w w' A N cap L
def DrewUF (w : World) (e : Ending) (w' : World) : Prop := ∃ A N cap L s, e = .returned (.tuple #[.slice A N cap, .string s]) ∧ s.size ≤ 100 ∧ Uss w w' A N cap L
def DrewUP (w : World) (e : Ending) (w' : World) : Prop := ∃ A N cap L s t, e = .returned (.tuple #[.slice A N cap, .string s, .string t]) ∧ s.size ≤ 30 ∧ t.size ≤ 30 ∧ Uss w w' A N cap L
/-- Beside a reader. -/
def UsR (w wr : World) (b q g N cap : Nat) (L : List Us) : Prop := Rd wr b q ∧ ROwn usR wr (b + 1) (.slice (some ⟨g, 0, none⟩) N cap) L ∧ Below b w wr ∧ (∀ g ∈ L, g.1.size ≤ 30 ∧ g.2.1.size ≤ 30) ∧ (1 ≤ N ∧ N ≤ 5) ∧ b = w.heap.size
theorem UsR.read {w wr w' : World} {b q q' g N cap : Nat} {L : List Us} (h : UsR w wr b q g N cap L) (hr : Rd w' b q') (hg : wr.grownBy w' (some b)) : UsR w w' b q' g N cap L :=
  ⟨hr, h.2.1.grown hg (by omega), below_gr h.2.2.1 hg (by have := h.1.lt; omega) (Nat.le_refl _), h.2.2.2⟩
theorem UsR.later {w wr w' : World} {b q g N cap : Nat} {L : List Us} (h : UsR w wr b q g N cap L) (hb : Below wr.heap.size wr w') : UsR w w' b q g N cap L :=
  ⟨h.1.below hb h.1.lt, h.2.1.kept hb, h.2.2.1.trans (hb.mono (Nat.le_of_lt h.1.lt)), h.2.2.2⟩
theorem UsR.done {w wr : World} {b q g N cap : Nat} {L : List Us} (h : UsR w wr b q g N cap L) : Uss w wr (some ⟨g, 0, none⟩) N cap L := ⟨h.2.2.2.2.1.1, h.2.2.2.2.1.2, h.2.2.2.1, h.2.1.from (by have := h.2.2.2.2.2; omega), by rw [← h.2.2.2.2.2]; exact h.2.2.1⟩
theorem UsR.uin {w wr : World} {b q g N cap : Nat} {L : List Us} (h : UsR w wr b q g N cap L) : UIn wr (some ⟨g, 0, none⟩) N cap L := h.done.uin
theorem UsR.off {w wr : World} {b q g N cap : Nat} {L : List Us} (h : UsR w wr b q g N cap L) : ∀ bb o, (some (⟨g, 0, none⟩ : Addr)) = some ⟨bb, o, none⟩ → bb ≠ b := fun bb o e => by
  cases e
  have := (World.ownsRow.lt h.2.1 g rfl).1
  omega
theorem users_first {b : Nat} (w w1 : World) (hb : b = w.heap.size) (hr : Rd w1 b 0) (hB : Below b w w1) : Calls Try.prog 29 #[.pointer (some ⟨b, 0, none⟩)] w1 fun e w' => ∃ g N cap L q, e = .returned (.slice (some ⟨g, 0, none⟩) N cap) ∧ q ≤ 10 ∧ UsR w w' b q g N cap L := by
  refine (users_draw b 0 w1 hr (by omega)).mono ?_
  rintro e w' ⟨g, N, cap, L, q, rfl, hq, hr2, ho, hg, hz, hN, hbl⟩
  have hlt := hr.lt
  exact ⟨g, N, cap, L, q, rfl, by omega, hr2, ho.from (by omega), below_gr hB hg (by omega) (Nat.le_refl _), hz, hN, hb⟩
end Go.Proofs.Ytichajalinkcdaa
namespace Go.Proofs.Ytichajalinkcdaa
open Go.RowKit
set_option linter.unusedVariables false

theorem lit_walk {l : ByteArray} {A : Array UInt8} {xs : List UInt8} (e : A.toList = xs) (h : l ≠ ⟨A⟩) : (l.toList == xs) = false ∧ ¬ l.toList = xs ∧ (l.toList != xs) = true := by
  have h2 := ne_walk h
  have h3 : (⟨A⟩ : ByteArray).toList = xs := by rw [ByteArray.toList_eq]; exact e
  rw [h3] at h2
  exact ⟨h2.1, h2.2, bne_iff_ne.2 h2.2⟩
/-- The second slice lies where the first one lies, or in new memory. -/
def Fr (w : World) (A A' : Option Addr) : Prop := ∀ q, A' = some q → (∃ p, A = some p ∧ p.block = q.block) ∨ w.heap.size ≤ q.block
theorem Fr.same (w : World) (A : Option Addr) : Fr w A A := fun q h => .inl ⟨q, h, rfl⟩
theorem Fr.new {w : World} {A : Option Addr} {C o : Nat} (h : w.heap.size ≤ C) : Fr w A (some ⟨C, o, none⟩) := fun q e => by cases e; exact .inr h
theorem Fr.none (w : World) (A : Option Addr) : Fr w A Option.none := fun q e => by cases e
theorem Fr.from {w w' : World} {A A' : Option Addr} (h : Fr w' A A') (hs : w.heap.size ≤ w'.heap.size) : Fr w A A' := fun q e => (h q e).imp id fun h2 => by omega
theorem SIn.empty (w : World) (A : Option Addr) (cap : Nat) (h : A = none → cap = 0) (hs : ∀ q, A = some q → q.spot = none) (hl : ∀ q, A = some q → q.block < w.heap.size) : SIn w A 0 cap [] := ⟨rfl, by omega, RAt.nil _ _, h, hs, fun g h => (by cases h), by omega, hl⟩
theorem SIn.new {w : World} {C : Nat} (cap : Nat) (hC : C < w.heap.size) : SIn w (some ⟨C, 0, none⟩) 0 cap [] := SIn.empty w _ cap (fun h => by cases h) (fun q h => by cases h; rfl) (fun q h => by cases h; exact hC)
theorem SIn.set {w : World} {A : Option Addr} {N cap R j : Nat} {T : List ByteArray} (h : SIn w A N cap T) (hne : ∀ q, A = some q → q.block ≠ R) (u : Value) : SIn (w.setCell ⟨R, j, none⟩ u) A N cap T := by
  refine ⟨h.1, h.2.1, ?_, h.2.2.2.1, h.2.2.2.2.1, h.2.2.2.2.2.1, h.2.2.2.2.2.2.1, fun q e => by have := h.lt q e; simp [World.setCell]; exact this⟩
  by_cases h0 : N = 0
  · have : T = [] := List.eq_nil_of_length_eq_zero (by rw [h.1]; exact h0)
    subst this
    exact RAt.nil _ _
  · refine h.2.2.1.grown (g := R) ⟨rfl, rfl, rfl, by simp [World.setCell], fun k hk hn => Below.heap_setCell w _ u k (fun e => hn (by rw [e]))⟩ fun b o e => hne _ e
theorem SIn.set4 {w : World} {A : Option Addr} {N cap R : Nat} {T : List ByteArray} (h : SIn w A N cap T) (hne : ∀ q, A = some q → q.block ≠ R) (a b c d : Value) : SIn ((((w.setCell ⟨R, 0, none⟩ a).setCell ⟨R, 1, none⟩ b).setCell ⟨R, 2, none⟩ c).setCell ⟨R, 3, none⟩ d) A N cap T := (((h.set hne a).set hne b).set hne c).set hne d
theorem below_set4 {B R : Nat} {w w' : World} (h : Below B w w') (hR : B ≤ R) (a b c d : Value) : Below B w ((((w'.setCell ⟨R, 0, none⟩ a).setCell ⟨R, 1, none⟩ b).setCell ⟨R, 2, none⟩ c).setCell ⟨R, 3, none⟩ d) := (((h.setCell hR a).setCell hR b).setCell hR c).setCell hR d
theorem put_sb {w : World} {R : Nat} {a0 a1 a2 a3 : Value} (h : Whole w R 25 #[a0, a1, a2, a3]) (b0 b1 b2 b3 : Value) :
    Whole ((((w.setCell ⟨R, 0, none⟩ b0).setCell ⟨R, 1, none⟩ b1).setCell ⟨R, 2, none⟩ b2).setCell ⟨R, 3, none⟩ b3) R 25 #[b0, b1, b2, b3] := (((h.store 0 _).store 1 _).store 2 _).store 3 _
/-- A submission and a reply. -/
def GiveS (w : World) (A0 : Option Addr) (r : Sb × Int) (e : Ending) (w' : World) : Prop :=
  ∃ A N cap, e = .returned (.tuple #[.agg #[.int .i64 r.1.st, .string r.1.us, .slice A N cap, .string r.1.tx], .int .i64 r.2]) ∧ SIn w' A N cap r.1.to ∧ Fr w A0 A ∧ Below w.heap.size w w'
def GiveB (w : World) (A0 : Option Addr) (s : Sb) (e : Ending) (w' : World) : Prop :=
  ∃ A N cap, e = .returned (.agg #[.int .i64 s.st, .string s.us, .slice A N cap, .string s.tx]) ∧ SIn w' A N cap s.to ∧ Fr w A0 A ∧ Below w.heap.size w w'
def sbCells (st : Int) (us tx : ByteArray) (A : Option Addr) (N cap : Nat) : Array Value := #[.int .i64 st, .string us, .slice A N cap, .string tx]
/-- The start of a function of the model: the submission in a box, and a place for the answer. -/
theorem two_made (w : World) (X Y : Array Value) : Whole ((w.alloc (.cells X 25)).alloc (.cells Y 25)) w.heap.size 25 X ∧ Whole ((w.alloc (.cells X 25)).alloc (.cells Y 25)) (w.heap.size + 1) 25 Y ∧ Below w.heap.size w ((w.alloc (.cells X 25)).alloc (.cells Y 25)) := by
  refine ⟨(Whole.made w _ X).alloc _, ?_, ((Below.refl _ _).alloc (Nat.le_refl _) _).alloc (by simp) _⟩
  have := Whole.made (w.alloc (.cells X 25)) 25 Y
  simpa using this
set_option maxRecDepth 20000 in
set_option maxHeartbeats 2000000 in
theorem spec_back (st : Int) (us tx : ByteArray) (T : List ByteArray) (A : Option Addr) (N cap : Nat) (w : World) : Calls Try.prog 70 #[.agg #[.int .i64 st, .string us, .slice A N cap, .string tx]] w (GiveB w A (backF ⟨st, us, T, tx⟩)) := by
  obtain ⟨hs, hr, hB⟩ := two_made w #[.int .i64 st, .string us, .slice A N cap, .string tx] #[.int .i64 0, .string ⟨#[]⟩, .slice none 0 0, .string ⟨#[]⟩]
  have c0 := hs.cell 0
  have c1 := hs.cell 1
  have hr2 := hr.alloc (.cells #[] 9)
  have z0 := hr2.cell 0
  have z1 := hr2.cell 1
  have z2 := hr2.cell 2
  have z3 := hr2.cell 3
  have f0 := hr2.free 0
  have f1 := hr2.free 1
  have f2 := hr2.free 2
  have f3 := hr2.free 3
  simp only [List.getElem?_toArray, List.getElem?_cons_zero, List.getElem?_cons_succ] at c0 c1 z0 z1 z2 z3
  have HB := Lib.hid (hB.alloc hB.size (.cells #[] 9))
  have HR := Lib.hid hr2
  clear hs hr hB hr2
  by_cases h2 : 2 ≤ st
  · have HE : Hid (backF ⟨st, us, T, tx⟩ = ⟨2, us, [], eB⟩) := Lib.hid (if_pos h2)
    obtain ⟨_, hf, hfB⟩ := two_made w #[.int .i64 st, .string us, .slice A N cap, .string tx] #[.int .i64 2, .string us, .slice (some ⟨w.heap.size + 1 + 1, 0, none⟩) 0 0, .string ⟨#[]⟩]
    have hf := hf.alloc (.cells #[] 9)
    have r0 := hf.cell 0
    have r1 := hf.cell 1
    have r2 := hf.cell 2
    have r3 := hf.cell 3
    simp only [List.getElem?_toArray, List.getElem?_cons_zero, List.getElem?_cons_succ] at r0 r1 r2 r3
    have HFB := Lib.hid (hfB.alloc hfB.size (.cells #[] 9))
    clear hf hfB
    go_enter Try.func70, Try.ntmps70
    go_wp2
    refine bodyPost_ret (v := .agg #[.int .i64 2, .string us, .slice (some ⟨w.heap.size + 1 + 1, 0, none⟩) 0 0, .string ⟨#[]⟩]) (by simp [results, Try.results70, go_sem, r0, r1, r2, r3]) rfl ?_
    rw [HE.out]
    exact ⟨_, _, _, rfl, SIn.new _ (by simp), Fr.new (by omega), HFB.out⟩
  · have HE : Hid (backF ⟨st, us, T, tx⟩ = ⟨st, eB, [], eB⟩) := Lib.hid (if_neg h2)
    obtain ⟨_, hf, hfB⟩ := two_made w #[.int .i64 st, .string us, .slice A N cap, .string tx] #[.int .i64 st, .string ⟨#[]⟩, .slice (some ⟨w.heap.size + 1 + 1, 0, none⟩) 0 0, .string ⟨#[]⟩]
    have hf := hf.alloc (.cells #[] 9)
    have r0 := hf.cell 0
    have r1 := hf.cell 1
    have r2 := hf.cell 2
    have r3 := hf.cell 3
    simp only [List.getElem?_toArray, List.getElem?_cons_zero, List.getElem?_cons_succ] at r0 r1 r2 r3
    have HFB := Lib.hid (hfB.alloc hfB.size (.cells #[] 9))
    clear hf hfB
    go_enter Try.func70, Try.ntmps70
    go_wp2
    refine bodyPost_ret (v := .agg #[.int .i64 st, .string ⟨#[]⟩, .slice (some ⟨w.heap.size + 1 + 1, 0, none⟩) 0 0, .string ⟨#[]⟩]) (by simp [results, Try.results70, go_sem, r0, r1, r2, r3]) rfl ?_
    rw [HE.out]
    exact ⟨_, _, _, rfl, SIn.new _ (by simp), Fr.new (by omega), HFB.out⟩
theorem sback_at {st : Int} {us tx : ByteArray} {T : List ByteArray} {A : Option Addr} {N cap : Nat} {s : Sb} (hs : backF ⟨st, us, T, tx⟩ = s) (w : World) : Calls Try.prog 70 #[.agg #[.int .i64 st, .string us, .slice A N cap, .string tx]] w (GiveB w A s) := by
  subst hs
  exact spec_back st us tx T A N cap w
end Go.Proofs.Ytichajalinkcdaa
namespace Go.Proofs.Ytichajalinkcdaa
open Go.RowKit
set_option linter.unusedVariables false

theorem ext_front (l : ByteArray) (n : Nat) : kb (l.extract 0 n) = (kb l).take n := by
  unfold kb
  rw [ByteArray.data_extract, Array.toList_extract, List.extract_eq_take_drop]
  simp
theorem ext_back (l : ByteArray) (n : Nat) : kb (l.extract n l.size) = (kb l).drop n := by
  unfold kb
  rw [ByteArray.data_extract, Array.toList_extract, List.extract_eq_take_drop]
  have e : l.data.toList.length = l.size := by simp
  rw [List.take_of_length_le]
  rw [List.length_drop, e]
  exact Nat.le_refl _
theorem kb_len (l : ByteArray) : (kb l).length = l.size := by unfold kb; simp
theorem pre_short {b l : ByteArray} (h : l.size < b.size) : preB b l = false := by
  unfold preB
  refine decide_eq_false fun e => ?_
  have := congrArg List.length e
  rw [List.length_take, kb_len, kb_len] at this
  omega
theorem pre_ext (b l : ByteArray) : preB b l = decide (l.extract 0 b.size = b) := by
  unfold preB
  rw [kb_len, ← ext_front]
  by_cases h : l.extract 0 b.size = b
  · rw [h]; simp
  · rw [decide_eq_false h, decide_eq_false fun e => h (kb_inj e)]
theorem pt_off {b l : ByteArray} (h : preB b l = false) : ptO b l = false ∧ ptU b l = ⟨#[]⟩ ∧ ptD b l = ⟨#[]⟩ := by
  unfold ptO ptU ptD
  rw [h]
  exact ⟨rfl, rfl, rfl⟩
theorem pt_on {b l : ByteArray} {o : Bool} {u d : ByteArray} (h : preB b l = true) (hp : IsP (l.extract b.size l.size) o u d) : ptO b l = (o && decide (u.size ≠ 0)) ∧ ptU b l = u ∧ ptD b l = d := by
  obtain ⟨h1, h2, h3⟩ := hp
  have e : (l.extract b.size l.size).data.toList = tlB b l := by
    unfold tlB
    rw [kb_len]
    exact ext_back l b.size
  rw [e] at h1 h2 h3
  unfold ptO ptU ptD
  rw [h, h1, h2, h3]
  refine ⟨?_, rfl, rfl⟩
  have : decide (qU (tlB b l) ≠ []) = decide (u.size ≠ 0) := by
    rw [← h2, bs_size]
    simp [List.length_eq_zero_iff]
  rw [this]
  rfl
theorem bl_drew {B : Nat} {w w' : World} (h : Below B w w') : Below B w w'.drew := ⟨h.os, h.tape, h.output, h.size, h.block⟩
theorem whole_one (w : World) (X : Array Value) (t : TypeId) : Whole (w.alloc (.cells X t)) w.heap.size t X := Whole.made w t X
set_option maxRecDepth 20000 in
set_option maxHeartbeats 2000000 in
theorem spec_lpath {b l : ByteArray} {o : Bool} {u d : ByteArray} (ho : ptO b l = o) (hu : ptU b l = u) (hd : ptD b l = d) (w : World) (hl : l.size ≤ 16777216) (hb1 : 1 ≤ b.size) : Calls Try.prog 74 #[.string l, .string b] w (Gave w o u d) := by
  by_cases hs : l.size < b.size
  · obtain ⟨e1, e2, e3⟩ := pt_off (pre_short hs)
    rw [e1] at ho
    rw [e2] at hu
    rw [e3] at hd
    subst ho hu hd
    have hs' : (l.size : Int) < (b.size : Int) := by omega
    go_enter Try.func74, Try.ntmps74
    go_wp2
    refine bodyPost_ret (v := .tuple #[.agg #[.string ⟨#[]⟩, .string ⟨#[]⟩], .bool false]) (by simp [results, Try.results74, go_sem]) rfl ?_
    exact gave_mk rfl rfl rfl ((Below.refl _ _).alloc (Nat.le_refl _) _)
  · have hs' : ¬ (l.size : Int) < (b.size : Int) := by omega
    have hs1 : (b.size : Int) ≤ (l.size : Int) := by omega
    have hs0 : (0 : Int) ≤ (b.size : Int) := by omega
    have hle : b.size ≤ l.size := by omega
    by_cases he : l.extract 0 b.size = b
    · have hpre := (pre_ext b l).trans (decide_eq_true he)
      obtain ⟨o1, u1, d1, hp, q1, q2⟩ := readP_any (l.extract b.size l.size)
      obtain ⟨e1, e2, e3⟩ := pt_on hpre hp
      have HP := Lib.hid hp
      have HZ : Hid ((l.extract b.size l.size).size ≤ 16777216) := Lib.hid (by rw [ByteArray.size_extract]; omega)
      have HO := Lib.hid (ho.symm.trans e1)
      have HU := Lib.hid (hu.symm.trans e2)
      have HD := Lib.hid (hd.symm.trans e3)
      have he2 : ((l.extract 0 b.size).toList == b.toList) = true := by rw [he]; simp
      clear hpre hp e1 e2 e3 ho hu hd q1 q2
      go_enter Try.func74, Try.ntmps74
      go_wp2_with fail
      refine (spath_at HP.out _ HZ.out).mono ?_
      rintro e w2 ⟨rfl, hb⟩
      have hW := ((Whole.made w 96 #[.string ⟨#[]⟩, .string ⟨#[]⟩]).below hb (by simp))
      have HB := Lib.hid (((Below.refl w.heap.size w).alloc (Nat.le_refl _) (.cells #[.string ⟨#[]⟩, .string ⟨#[]⟩] 96)).trans (hb.mono (by simp)))
      have hlt := hW.lt
      have z0 := hW.cell 0
      have z1 := hW.cell 1
      have g0 := hW.free 0
      have g1 := hW.free 1
      have hX := hW.alloc (.cells #[.string u1, .string d1] 96)
      have y0 := hX.cell 0
      have y1 := hX.cell 1
      have f0 := hX.free 0
      have f1 := hX.free 1
      have hN := Whole.made w2 96 #[.string u1, .string d1]
      have x0 := hN.cell 0
      have x1 := hN.cell 1
      have HS := Lib.hid ((hW.store 0 (.string u1)).store 1 (.string d1))
      have hR := HS.out.alloc (.cells #[.string u1, .string d1] 96)
      have r0 := hR.cell 0
      have r1 := hR.cell 1
      simp only [List.getElem?_toArray, List.getElem?_cons_zero, List.getElem?_cons_succ] at z0 z1 y0 y1 x0 x1
      simp at r0 r1
      clear hb hW hX hN hR
      cases o1 with
      | false =>
        go_wp2
        go_region
        go_wp2
        refine bodyPost_ret (v := .tuple #[.agg #[.string u1, .string d1], .bool false]) (by simp [results, Try.results74, go_sem, r0, r1]) rfl ?_
        exact gave_mk (HO.out.trans rfl) HU.out HD.out (bl_drew (((HB.out.setCell (p := ⟨w.heap.size, 0, none⟩) (Nat.le_refl _) _).setCell (p := ⟨w.heap.size, 1, none⟩) (Nat.le_refl _) _).alloc (by simp [World.setCell]; exact Nat.le_of_lt hlt) _))
      | true =>
        by_cases hu0 : u1.size = 0
        · have HO2 : Hid (o = false) := Lib.hid (HO.out.trans (by rw [decide_eq_false (show ¬ u1.size ≠ 0 by omega)]; rfl))
          obtain ⟨q1, q2⟩ := isEmpty hu0
          clear hu0
          go_wp2
          go_region
          go_wp2
          refine bodyPost_ret (v := .tuple #[.agg #[.string u1, .string d1], .bool false]) (by simp [results, Try.results74, go_sem, r0, r1]) rfl ?_
          exact gave_mk HO2.out HU.out HD.out (bl_drew (((HB.out.setCell (p := ⟨w.heap.size, 0, none⟩) (Nat.le_refl _) _).setCell (p := ⟨w.heap.size, 1, none⟩) (Nat.le_refl _) _).alloc (by simp [World.setCell]; exact Nat.le_of_lt hlt) _))
        · have HO2 : Hid (o = true) := Lib.hid (HO.out.trans (by rw [decide_eq_true hu0]; rfl))
          obtain ⟨q1, q2⟩ := noEmpty hu0
          clear hu0
          go_wp2
          go_region
          go_wp2
          refine bodyPost_ret (v := .tuple #[.agg #[.string u1, .string d1], .bool true]) (by simp [results, Try.results74, go_sem, r0, r1]) rfl ?_
          exact gave_mk HO2.out HU.out HD.out (bl_drew (((HB.out.setCell (p := ⟨w.heap.size, 0, none⟩) (Nat.le_refl _) _).setCell (p := ⟨w.heap.size, 1, none⟩) (Nat.le_refl _) _).alloc (by simp [World.setCell]; exact Nat.le_of_lt hlt) _))
    · obtain ⟨e1, e2, e3⟩ := pt_off ((pre_ext b l).trans (decide_eq_false he))
      rw [e1] at ho
      rw [e2] at hu
      rw [e3] at hd
      subst ho hu hd
      obtain ⟨v1, v2⟩ := ne_walk he
      go_enter Try.func74, Try.ntmps74
      go_wp2
      refine bodyPost_ret (v := .tuple #[.agg #[.string ⟨#[]⟩, .string ⟨#[]⟩], .bool false]) (by simp [results, Try.results74, go_sem]) rfl ?_
      exact gave_mk rfl rfl rfl ((Below.refl _ _).alloc (Nat.le_refl _) _)
end Go.Proofs.Ytichajalinkcdaa
namespace Go.Proofs.Ytichajalinkcdaa
open Go.RowKit
set_option linter.unusedVariables false


theorem ext_min (X : ByteArray) : X.extract 0 (min (X.size : Int) 21).toNat = X.extract 0 21 := by
  refine kb_inj ?_
  rw [ext_front, ext_front, List.take_eq_take_iff, kb_len]
  omega
theorem add_size (a b : ByteArray) : (((a ++ b ++ { data := #[10] } : ByteArray).size : Nat) : Int) = (a.size : Int) + (b.size : Int) + 1 := by
  rw [ByteArray.size_append, ByteArray.size_append]
  have e : (ByteArray.mk #[10]).size = 1 := rfl
  omega
theorem addF_no {t l : ByteArray} (h : l.data.toList.head? ≠ some 46) : addF t l = (t ++ l ++ { data := #[10] }).extract 0 (min ((t.size : Int) + (l.size : Int) + 1) 21).toNat := by
  unfold addF
  rw [if_neg h, ← add_size, ext_min]
theorem addF_dot {t l : ByteArray} (h : l.data.toList.head? = some 46) : addF t l = (t ++ l.extract 1 l.size ++ { data := #[10] }).extract 0 (min ((t.size : Int) + ((l.size - 1 : Nat) : Int) + 1) 21).toNat := by
  unfold addF
  have e : ((l.size - 1 : Nat) : Int) = ((l.extract 1 l.size).size : Int) := by rw [ByteArray.size_extract]; omega
  rw [if_pos h, e, ← add_size, ext_min]
theorem head_get (l : ByteArray) (h : 0 < l.size) : l.data.toList.head? = some l[0] := by
  have h2 : 0 < l.data.toList.length := by simpa using h
  rw [List.head?_eq_getElem?, List.getElem?_eq_getElem h2]
  rfl
theorem head_no {l : ByteArray} (h : l.size = 0) : l.data.toList.head? ≠ some 46 := by
  have : l.data.toList = [] := List.eq_nil_of_length_eq_zero (by simpa using h)
  rw [this]
  simp
theorem head_yes {l : ByteArray} (h : 0 < l.size) (hc : l[0] = 46) : l.data.toList.head? = some 46 := by rw [head_get l h, hc]
theorem head_other {l : ByteArray} (h : 0 < l.size) (hc : l[0] ≠ 46) : l.data.toList.head? ≠ some 46 := by
  rw [head_get l h]
  intro e
  exact hc (Option.some.inj e)
theorem sdom_at {u : ByteArray} {z : Bool} (h : domB (kb u) = z) (hu : u.size ≤ 16777216) (w : World) : Calls Try.prog 57 #[.string u] w (SayB w z) := by
  subst h
  exact spec_domain u w hu

set_option maxRecDepth 20000 in
set_option maxHeartbeats 4000000 in
theorem spec_data (st : Int) (us tx l : ByteArray) (T : List ByteArray) (A : Option Addr) (N cap : Nat) (w : World) (h : SIn w A N cap T) (ht : tx.size ≤ 21) (hl : l.size ≤ 2097152) : Calls Try.prog 65 #[.agg #[.int .i64 st, .string us, .slice A N cap, .string tx], .string l] w (GiveS w A (dataF ⟨st, us, T, tx⟩ l)) := by
  have HI := Lib.hid h
  obtain ⟨hs, hr, hB⟩ := two_made w #[.int .i64 st, .string us, .slice A N cap, .string tx] #[.int .i64 0, .string ⟨#[]⟩, .slice none 0 0, .string ⟨#[]⟩]
  have c0 := hs.cell 0
  have c1 := hs.cell 1
  have c2 := hs.cell 2
  have c3 := hs.cell 3
  have z0 := hr.cell 0
  have z1 := hr.cell 1
  have z2 := hr.cell 2
  have z3 := hr.cell 3
  have f0 := hr.free 0
  have f1 := hr.free 1
  have f2 := hr.free 2
  have f3 := hr.free 3
  simp only [List.getElem?_toArray, List.getElem?_cons_zero, List.getElem?_cons_succ] at c0 c1 c2 c3 z0 z1 z2 z3
  have HS := Lib.hid hs
  have HR := Lib.hid hr
  have HB := Lib.hid hB
  clear h hs hr hB
  have hne : ∀ q, A = some q → q.block ≠ w.heap.size + 1 := fun q e => by have := HI.out.lt q e; omega
  have HNE := Lib.hid hne
  clear hne
  by_cases hd : l = ⟨#[46]⟩
  · subst hd
    obtain ⟨s1, hs1⟩ : ∃ s1, backF ⟨st, us, T, tx⟩ = s1 := ⟨_, rfl⟩
    by_cases h20 : tx.size ≤ 20
    ·
      have h20' : ¬ (20 : Int) < (tx.size : Int) := by omega
      have HE : Hid (dataF ⟨st, us, T, tx⟩ ⟨#[46]⟩ = (s1, 250)) := Lib.hid (by unfold dataF; rw [if_pos rfl, hs1]; simp only; rw [if_pos h20])
      obtain ⟨st1, us1, T1, tx1⟩ := s1
      have HS1 := Lib.hid hs1
      clear hs1 h20
      go_enter Try.func65, Try.ntmps65
      go_wp2_with fail
      refine (sback_at HS1.out _).mono ?_
      rintro e w2 ⟨A2, N2, cap2, rfl, hI2, hF2, hb⟩
      have HI2 := Lib.hid hI2
      have HF2 := Lib.hid hF2
      have HS2 := Lib.hid (HS.out.below hb HS.out.lt)
      have HR2 := Lib.hid (HR.out.below hb HR.out.lt)
      have HB2 := Lib.hid (HB.out.trans (hb.mono HB.out.size))
      have HZ2 := Lib.hid hb.size
      have HZ : Hid (w.heap.size + 1 < ((w.alloc (.cells #[.int .i64 st, .string us, .slice A N cap, .string tx] 25)).alloc (.cells #[.int .i64 0, .string ⟨#[]⟩, .slice none 0 0, .string ⟨#[]⟩] 25)).heap.size) := Lib.hid HR.out.lt
      clear hI2 hF2 hb c0 c1 c2 c3 z0 z1 z2 z3 f0 f1 f2 f3
      have hs := HS2.out
      have hr := HR2.out
      have c0 := hs.cell 0
      have c1 := hs.cell 1
      have c2 := hs.cell 2
      have c3 := hs.cell 3
      have z0 := hr.cell 0
      have z1 := hr.cell 1
      have z2 := hr.cell 2
      have z3 := hr.cell 3
      have f0 := hr.free 0
      have f1 := hr.free 1
      have f2 := hr.free 2
      have f3 := hr.free 3
      simp only [List.getElem?_toArray, List.getElem?_cons_zero, List.getElem?_cons_succ] at c0 c1 c2 c3 z0 z1 z2 z3
      have hf := put_sb hr (.int .i64 st1) (.string us1) (.slice A2 N2 cap2) (.string tx1)
      have r0 := hf.cell 0
      have r1 := hf.cell 1
      have r2 := hf.cell 2
      have r3 := hf.cell 3
      simp only [List.getElem?_toArray, List.getElem?_cons_zero, List.getElem?_cons_succ] at r0 r1 r2 r3
      clear hs hr hf
      go_wp2
      refine bodyPost_ret (v := .tuple #[.agg #[.int .i64 st1, .string us1, .slice A2 N2 cap2, .string tx1], .int .i64 250]) (by simp [results, Try.results65, go_sem, r0, r1, r2, r3]) rfl ?_
      rw [HE.out]
      exact ⟨_, _, _, rfl, HI2.out.set4 (fun q e => by
          rcases HF2.out q e with ⟨p, hp, hq⟩ | hq
          · have := HI.out.lt p hp; omega
          · have := HZ.out; omega) _ _ _ _, (HF2.out.from HB.out.size), below_set4 HB2.out (by omega) _ _ _ _⟩
    ·
      have h20' : (20 : Int) < (tx.size : Int) := by omega
      have HE : Hid (dataF ⟨st, us, T, tx⟩ ⟨#[46]⟩ = (s1, 552)) := Lib.hid (by unfold dataF; rw [if_pos rfl, hs1]; simp only; rw [if_neg h20])
      obtain ⟨st1, us1, T1, tx1⟩ := s1
      have HS1 := Lib.hid hs1
      clear hs1 h20
      go_enter Try.func65, Try.ntmps65
      go_wp2_with fail
      refine (sback_at HS1.out _).mono ?_
      rintro e w2 ⟨A2, N2, cap2, rfl, hI2, hF2, hb⟩
      have HI2 := Lib.hid hI2
      have HF2 := Lib.hid hF2
      have HS2 := Lib.hid (HS.out.below hb HS.out.lt)
      have HR2 := Lib.hid (HR.out.below hb HR.out.lt)
      have HB2 := Lib.hid (HB.out.trans (hb.mono HB.out.size))
      have HZ2 := Lib.hid hb.size
      have HZ : Hid (w.heap.size + 1 < ((w.alloc (.cells #[.int .i64 st, .string us, .slice A N cap, .string tx] 25)).alloc (.cells #[.int .i64 0, .string ⟨#[]⟩, .slice none 0 0, .string ⟨#[]⟩] 25)).heap.size) := Lib.hid HR.out.lt
      clear hI2 hF2 hb c0 c1 c2 c3 z0 z1 z2 z3 f0 f1 f2 f3
      have hs := HS2.out
      have hr := HR2.out
      have c0 := hs.cell 0
      have c1 := hs.cell 1
      have c2 := hs.cell 2
      have c3 := hs.cell 3
      have z0 := hr.cell 0
      have z1 := hr.cell 1
      have z2 := hr.cell 2
      have z3 := hr.cell 3
      have f0 := hr.free 0
      have f1 := hr.free 1
      have f2 := hr.free 2
      have f3 := hr.free 3
      simp only [List.getElem?_toArray, List.getElem?_cons_zero, List.getElem?_cons_succ] at c0 c1 c2 c3 z0 z1 z2 z3
      have hf := put_sb hr (.int .i64 st1) (.string us1) (.slice A2 N2 cap2) (.string tx1)
      have r0 := hf.cell 0
      have r1 := hf.cell 1
      have r2 := hf.cell 2
      have r3 := hf.cell 3
      simp only [List.getElem?_toArray, List.getElem?_cons_zero, List.getElem?_cons_succ] at r0 r1 r2 r3
      clear hs hr hf
      go_wp2
      refine bodyPost_ret (v := .tuple #[.agg #[.int .i64 st1, .string us1, .slice A2 N2 cap2, .string tx1], .int .i64 552]) (by simp [results, Try.results65, go_sem, r0, r1, r2, r3]) rfl ?_
      rw [HE.out]
      exact ⟨_, _, _, rfl, HI2.out.set4 (fun q e => by
          rcases HF2.out q e with ⟨p, hp, hq⟩ | hq
          · have := HI.out.lt p hp; omega
          · have := HZ.out; omega) _ _ _ _, (HF2.out.from HB.out.size), below_set4 HB2.out (by omega) _ _ _ _⟩
  ·
    obtain ⟨v1, v2, v3⟩ := lit_walk (xs := [46]) rfl hd
    by_cases h0 : l.size = 0
    ·
      have HE : Hid (dataF ⟨st, us, T, tx⟩ l = (⟨st, us, T, (tx ++ l ++ { data := #[10] }).extract 0 (min ((tx.size : Int) + (l.size : Int) + 1) 21).toNat⟩, 0)) := Lib.hid (by unfold dataF; rw [if_neg hd, addF_no (head_no h0)])
      obtain ⟨q1, q2⟩ := isEmpty h0
      obtain ⟨_, hf, hfB⟩ := two_made w #[.int .i64 st, .string us, .slice A N cap, .string ((tx ++ l ++ { data := #[10] }).extract 0 (min ((tx.size : Int) + (l.size : Int) + 1) 21).toNat)] #[.int .i64 st, .string us, .slice A N cap, .string ((tx ++ l ++ { data := #[10] }).extract 0 (min ((tx.size : Int) + (l.size : Int) + 1) 21).toNat)]
      have r0 := hf.cell 0
      have r1 := hf.cell 1
      have r2 := hf.cell 2
      have r3 := hf.cell 3
      simp only [List.getElem?_toArray, List.getElem?_cons_zero, List.getElem?_cons_succ] at r0 r1 r2 r3
      have HFB := Lib.hid hfB
      clear hf hfB
      clear hd h0
      go_enter Try.func65, Try.ntmps65
      go_wp2
      refine bodyPost_ret (v := .tuple #[.agg #[.int .i64 st, .string us, .slice A N cap, .string ((tx ++ l ++ { data := #[10] }).extract 0 (min ((tx.size : Int) + (l.size : Int) + 1) 21).toNat)], .int .i64 0]) (by simp [results, Try.results65, go_sem, r0, r1, r2, r3]) rfl ?_
      rw [HE.out]
      exact ⟨_, _, _, rfl, HI.out.below HFB.out (Nat.le_refl _), Fr.same _ _, HFB.out⟩
    ·
      have h1 : 0 < l.size := by omega
      have h1' : (0 : Int) < (l.size : Int) := by omega
      have h1'' : (1 : Int) ≤ (l.size : Int) := by omega
      by_cases hc : l[0] = 46
      ·
        have HE : Hid (dataF ⟨st, us, T, tx⟩ l = (⟨st, us, T, (tx ++ l.extract 1 l.size ++ { data := #[10] }).extract 0 (min ((tx.size : Int) + ((l.size - 1 : Nat) : Int) + 1) 21).toNat⟩, 0)) := Lib.hid (by unfold dataF; rw [if_neg hd, addF_dot (head_yes h1 hc)])
        obtain ⟨q1, q2⟩ := noEmpty h0
        have hc' : ((l[0].toNat : Int) == 46) = true := by rw [hc]; rfl
        clear hc
        obtain ⟨_, hf, hfB⟩ := two_made w #[.int .i64 st, .string us, .slice A N cap, .string ((tx ++ l.extract 1 l.size ++ { data := #[10] }).extract 0 (min ((tx.size : Int) + ((l.size - 1 : Nat) : Int) + 1) 21).toNat)] #[.int .i64 st, .string us, .slice A N cap, .string ((tx ++ l.extract 1 l.size ++ { data := #[10] }).extract 0 (min ((tx.size : Int) + ((l.size - 1 : Nat) : Int) + 1) 21).toNat)]
        have r0 := hf.cell 0
        have r1 := hf.cell 1
        have r2 := hf.cell 2
        have r3 := hf.cell 3
        simp only [List.getElem?_toArray, List.getElem?_cons_zero, List.getElem?_cons_succ] at r0 r1 r2 r3
        have HFB := Lib.hid hfB
        clear hf hfB
        clear hd h0
        go_enter Try.func65, Try.ntmps65
        go_wp2
        refine bodyPost_ret (v := .tuple #[.agg #[.int .i64 st, .string us, .slice A N cap, .string ((tx ++ l.extract 1 l.size ++ { data := #[10] }).extract 0 (min ((tx.size : Int) + ((l.size - 1 : Nat) : Int) + 1) 21).toNat)], .int .i64 0]) (by simp [results, Try.results65, go_sem, r0, r1, r2, r3]) rfl ?_
        rw [HE.out]
        exact ⟨_, _, _, rfl, HI.out.below HFB.out (Nat.le_refl _), Fr.same _ _, HFB.out⟩
      ·
        have HE : Hid (dataF ⟨st, us, T, tx⟩ l = (⟨st, us, T, (tx ++ l ++ { data := #[10] }).extract 0 (min ((tx.size : Int) + (l.size : Int) + 1) 21).toNat⟩, 0)) := Lib.hid (by unfold dataF; rw [if_neg hd, addF_no (head_other h1 hc)])
        obtain ⟨q1, q2⟩ := noEmpty h0
        have hc' : ((l[0].toNat : Int) == 46) = false := by
          refine beq_eq_false_iff_ne.2 fun e => hc (UInt8.toNat_inj.1 ?_)
          have e2 : (46 : UInt8).toNat = 46 := rfl
          omega
        clear hc
        obtain ⟨_, hf, hfB⟩ := two_made w #[.int .i64 st, .string us, .slice A N cap, .string ((tx ++ l ++ { data := #[10] }).extract 0 (min ((tx.size : Int) + (l.size : Int) + 1) 21).toNat)] #[.int .i64 st, .string us, .slice A N cap, .string ((tx ++ l ++ { data := #[10] }).extract 0 (min ((tx.size : Int) + (l.size : Int) + 1) 21).toNat)]
        have r0 := hf.cell 0
        have r1 := hf.cell 1
        have r2 := hf.cell 2
        have r3 := hf.cell 3
        simp only [List.getElem?_toArray, List.getElem?_cons_zero, List.getElem?_cons_succ] at r0 r1 r2 r3
        have HFB := Lib.hid hfB
        clear hf hfB
        clear hd h0
        go_enter Try.func65, Try.ntmps65
        go_wp2
        refine bodyPost_ret (v := .tuple #[.agg #[.int .i64 st, .string us, .slice A N cap, .string ((tx ++ l ++ { data := #[10] }).extract 0 (min ((tx.size : Int) + (l.size : Int) + 1) 21).toNat)], .int .i64 0]) (by simp [results, Try.results65, go_sem, r0, r1, r2, r3]) rfl ?_
        rw [HE.out]
        exact ⟨_, _, _, rfl, HI.out.below HFB.out (Nat.le_refl _), Fr.same _ _, HFB.out⟩
set_option maxRecDepth 20000 in
set_option maxHeartbeats 4000000 in
theorem spec_hello (st : Int) (us tx : ByteArray) (T W : List ByteArray) (A AW : Option Addr) (N cap NW cW : Nat) (w : World) (h : SIn w A N cap T) (hw : WIn w AW NW W) (hs8 : ∀ x ∈ W, x.size ≤ 2097152) : Calls Try.prog 66 #[.agg #[.int .i64 st, .string us, .slice A N cap, .string tx], .slice AW NW cW] w (GiveS w A (helloF ⟨st, us, T, tx⟩ W)) := by
  have HWI := Lib.hid hw
  have hwb := hw.below (two_made w #[.int .i64 st, .string us, .slice A N cap, .string tx] #[.int .i64 0, .string ⟨#[]⟩, .slice none 0 0, .string ⟨#[]⟩]).2.2 (Nat.le_refl _)
  have HWB := Lib.hid hwb
  clear hw hwb
  have HI := Lib.hid h
  obtain ⟨hs, hr, hB⟩ := two_made w #[.int .i64 st, .string us, .slice A N cap, .string tx] #[.int .i64 0, .string ⟨#[]⟩, .slice none 0 0, .string ⟨#[]⟩]
  have c0 := hs.cell 0
  have c1 := hs.cell 1
  have c2 := hs.cell 2
  have c3 := hs.cell 3
  have z0 := hr.cell 0
  have z1 := hr.cell 1
  have z2 := hr.cell 2
  have z3 := hr.cell 3
  have f0 := hr.free 0
  have f1 := hr.free 1
  have f2 := hr.free 2
  have f3 := hr.free 3
  simp only [List.getElem?_toArray, List.getElem?_cons_zero, List.getElem?_cons_succ] at c0 c1 c2 c3 z0 z1 z2 z3
  have HS := Lib.hid hs
  have HR := Lib.hid hr
  have HB := Lib.hid hB
  clear h hs hr hB
  have hne : ∀ q, A = some q → q.block ≠ w.heap.size + 1 := fun q e => by have := HI.out.lt q e; omega
  have HNE := Lib.hid hne
  clear hne
  by_cases h2 : NW = 2
  ·
    subst h2
    obtain ⟨x, hx⟩ : ∃ x, W[1]? = some x := ⟨_, List.getElem?_eq_getElem (by rw [HWI.out.1]; omega)⟩
    have hg : W.getD 1 eB = x := by rw [List.getD_eq_getElem?_getD, hx]; rfl
    have hxs : x.size ≤ 16777216 := Nat.le_trans (hs8 x (List.mem_of_getElem? hx)) (by omega)
    obtain ⟨b, o, rfl, hb, k0⟩ := str_at HWB.out.2 hx
    clear hx hs8
    cases hd : domB (kb x) with
    | false =>
      have HD := Lib.hid hd
      have HE : Hid (helloF ⟨st, us, T, tx⟩ W = (⟨st, us, T, tx⟩, 501)) := Lib.hid (by unfold helloF; rw [if_neg (by rw [hg, hd]; simp)])
      clear hd hg
      go_enter Try.func66, Try.ntmps66
      go_wp2_with fail
      refine (sdom_at HD.out hxs _).mono ?_
      rintro e w2 ⟨rfl, hb2⟩
      have HS2 := Lib.hid (HS.out.below hb2 HS.out.lt)
      have HR2 := Lib.hid (HR.out.below hb2 HR.out.lt)
      have HB2 := Lib.hid (HB.out.trans (hb2.mono HB.out.size))
      have HZ2 : Hid (w.heap.size + 1 < w2.heap.size) := Lib.hid HR2.out.lt
      clear hb2 c0 c1 c2 c3 z0 z1 z2 z3 f0 f1 f2 f3
      have hs := HS2.out
      have hr := HR2.out
      have c0 := hs.cell 0
      have c1 := hs.cell 1
      have c2 := hs.cell 2
      have c3 := hs.cell 3
      have z0 := hr.cell 0
      have z1 := hr.cell 1
      have z2 := hr.cell 2
      have z3 := hr.cell 3
      have f0 := hr.free 0
      have f1 := hr.free 1
      have f2 := hr.free 2
      have f3 := hr.free 3
      simp only [List.getElem?_toArray, List.getElem?_cons_zero, List.getElem?_cons_succ] at c0 c1 c2 c3 z0 z1 z2 z3
      have hf := put_sb hr (.int .i64 st) (.string us) (.slice A N cap) (.string tx)
      have r0 := hf.cell 0
      have r1 := hf.cell 1
      have r2 := hf.cell 2
      have r3 := hf.cell 3
      simp only [List.getElem?_toArray, List.getElem?_cons_zero, List.getElem?_cons_succ] at r0 r1 r2 r3
      clear hs hr hf
      go_wp2
      refine bodyPost_ret (v := .tuple #[.agg #[.int .i64 st, .string us, .slice A N cap, .string tx], .int .i64 501]) (by simp [results, Try.results66, go_sem, r0, r1, r2, r3]) rfl ?_
      rw [HE.out]
      exact ⟨_, _, _, rfl, (HI.out.below HB2.out (Nat.le_refl _)).set4 HNE.out _ _ _ _, Fr.same _ _, below_set4 HB2.out (by omega) _ _ _ _⟩
    | true =>
      have HD := Lib.hid hd
      have HG := Lib.hid hg
      clear hg hd
      by_cases h0 : st = 0
      ·
        subst h0
        obtain ⟨s1, hs1⟩ : ∃ s1, backF ⟨1, us, T, tx⟩ = s1 := ⟨_, rfl⟩
        have HE : Hid (helloF ⟨0, us, T, tx⟩ W = (s1, 250)) := Lib.hid (by unfold helloF; rw [if_pos ⟨HWI.out.1, by rw [HG.out, HD.out]⟩, ← hs1]; rfl)
        obtain ⟨st1, us1, T1, tx1⟩ := s1
        have HS1 := Lib.hid hs1
        clear hs1
        go_enter Try.func66, Try.ntmps66
        go_wp2_with fail
        refine (sdom_at HD.out hxs _).mono ?_
        rintro e w2 ⟨rfl, hb2⟩
        have HS2 := Lib.hid (HS.out.below hb2 HS.out.lt)
        have HR2 := Lib.hid (HR.out.below hb2 HR.out.lt)
        have HB2 := Lib.hid (HB.out.trans (hb2.mono HB.out.size))
        have HZ2 : Hid (w.heap.size + 1 < w2.heap.size) := Lib.hid HR2.out.lt
        clear hb2 c0 c1 c2 c3 z0 z1 z2 z3 f0 f1 f2 f3
        have hs := HS2.out
        have hr := HR2.out
        have c0 := hs.cell 0
        have c1 := hs.cell 1
        have c2 := hs.cell 2
        have c3 := hs.cell 3
        have z0 := hr.cell 0
        have z1 := hr.cell 1
        have z2 := hr.cell 2
        have z3 := hr.cell 3
        have f0 := hr.free 0
        have f1 := hr.free 1
        have f2 := hr.free 2
        have f3 := hr.free 3
        simp only [List.getElem?_toArray, List.getElem?_cons_zero, List.getElem?_cons_succ] at c0 c1 c2 c3 z0 z1 z2 z3
        have g0 := hs.free 0
        have hs3 : Whole (w2.setCell ⟨w.heap.size, 0, none⟩ (.int .i64 1)) w.heap.size 25 #[.int .i64 1, .string us, .slice A N cap, .string tx] := hs.store 0 (.int .i64 1)
        have hr3 := hr.apart (p := ⟨w.heap.size, 0, none⟩) (show w.heap.size + 1 ≠ w.heap.size by omega) (.int .i64 1)
        have d0 := hs3.cell 0
        have d1 := hs3.cell 1
        have d2 := hs3.cell 2
        have d3 := hs3.cell 3
        simp only [List.getElem?_toArray, List.getElem?_cons_zero, List.getElem?_cons_succ] at d0 d1 d2 d3
        have HS3 := Lib.hid hs3
        have HR3 := Lib.hid hr3
        have HB3 := Lib.hid (HB2.out.setCell (p := ⟨w.heap.size, 0, none⟩) (Nat.le_refl _) (.int .i64 1))
        clear hs hr hs3 hr3
        go_wp2_with fail
        refine (sback_at HS1.out _).mono ?_
        rintro e w4 ⟨A2, N2, cap2, rfl, hI2, hF2, hb⟩
        have HI2 := Lib.hid hI2
        have HF2 := Lib.hid hF2
        have HS4 := Lib.hid (HS3.out.below hb HS3.out.lt)
        have HR4 := Lib.hid (HR3.out.below hb HR3.out.lt)
        have HB4 := Lib.hid (HB3.out.trans (hb.mono HB3.out.size))
        have HZ : Hid (w.heap.size + 1 < (w2.setCell ⟨w.heap.size, 0, none⟩ (.int .i64 1)).heap.size) := Lib.hid HR3.out.lt
        clear hI2 hF2 hb
        have hs := HS4.out
        have hr := HR4.out
        have c0 := hs.cell 0
        have c1 := hs.cell 1
        have c2 := hs.cell 2
        have c3 := hs.cell 3
        have z0 := hr.cell 0
        have z1 := hr.cell 1
        have z2 := hr.cell 2
        have z3 := hr.cell 3
        have f0 := hr.free 0
        have f1 := hr.free 1
        have f2 := hr.free 2
        have f3 := hr.free 3
        simp only [List.getElem?_toArray, List.getElem?_cons_zero, List.getElem?_cons_succ] at c0 c1 c2 c3 z0 z1 z2 z3
        have hf := put_sb hr (.int .i64 st1) (.string us1) (.slice A2 N2 cap2) (.string tx1)
        have r0 := hf.cell 0
        have r1 := hf.cell 1
        have r2 := hf.cell 2
        have r3 := hf.cell 3
        simp only [List.getElem?_toArray, List.getElem?_cons_zero, List.getElem?_cons_succ] at r0 r1 r2 r3
        clear hs hr hf
        go_wp2
        refine bodyPost_ret (v := .tuple #[.agg #[.int .i64 st1, .string us1, .slice A2 N2 cap2, .string tx1], .int .i64 250]) (by simp [results, Try.results66, go_sem, r0, r1, r2, r3]) rfl ?_
        rw [HE.out]
        exact ⟨_, _, _, rfl, HI2.out.set4 (fun q e => by
            rcases HF2.out q e with ⟨p, hp, hq⟩ | hq
            · have := HI.out.lt p hp; omega
            · have := HZ.out; omega) _ _ _ _, (HF2.out.from HB3.out.size), below_set4 HB4.out (by omega) _ _ _ _⟩
      ·
        have h0' : (st == 0) = false := beq_eq_false_iff_ne.2 h0
        obtain ⟨s1, hs1⟩ : ∃ s1, backF ⟨st, us, T, tx⟩ = s1 := ⟨_, rfl⟩
        have HE : Hid (helloF ⟨st, us, T, tx⟩ W = (s1, 250)) := Lib.hid (by unfold helloF; rw [if_pos ⟨HWI.out.1, by rw [HG.out, HD.out]⟩, ← hs1]; simp only [if_neg h0])
        obtain ⟨st1, us1, T1, tx1⟩ := s1
        have HS1 := Lib.hid hs1
        clear hs1 h0
        go_enter Try.func66, Try.ntmps66
        go_wp2_with fail
        refine (sdom_at HD.out hxs _).mono ?_
        rintro e w2 ⟨rfl, hb2⟩
        have HS2 := Lib.hid (HS.out.below hb2 HS.out.lt)
        have HR2 := Lib.hid (HR.out.below hb2 HR.out.lt)
        have HB2 := Lib.hid (HB.out.trans (hb2.mono HB.out.size))
        have HZ2 : Hid (w.heap.size + 1 < w2.heap.size) := Lib.hid HR2.out.lt
        clear hb2 c0 c1 c2 c3 z0 z1 z2 z3 f0 f1 f2 f3
        have hs := HS2.out
        have c0 := hs.cell 0
        have c1 := hs.cell 1
        have c2 := hs.cell 2
        have c3 := hs.cell 3
        simp only [List.getElem?_toArray, List.getElem?_cons_zero, List.getElem?_cons_succ] at c0 c1 c2 c3
        clear hs
        go_wp2_with fail
        refine (sback_at HS1.out _).mono ?_
        rintro e w4 ⟨A2, N2, cap2, rfl, hI2, hF2, hb⟩
        have HI2 := Lib.hid hI2
        have HF2 := Lib.hid hF2
        have HS4 := Lib.hid (HS2.out.below hb HS2.out.lt)
        have HR4 := Lib.hid (HR2.out.below hb HR2.out.lt)
        have HB4 := Lib.hid (HB2.out.trans (hb.mono HB2.out.size))
        have HZ : Hid (w.heap.size + 1 < w2.heap.size) := Lib.hid HR2.out.lt
        clear hI2 hF2 hb
        have hs := HS4.out
        have hr := HR4.out
        have c0 := hs.cell 0
        have c1 := hs.cell 1
        have c2 := hs.cell 2
        have c3 := hs.cell 3
        have z0 := hr.cell 0
        have z1 := hr.cell 1
        have z2 := hr.cell 2
        have z3 := hr.cell 3
        have f0 := hr.free 0
        have f1 := hr.free 1
        have f2 := hr.free 2
        have f3 := hr.free 3
        simp only [List.getElem?_toArray, List.getElem?_cons_zero, List.getElem?_cons_succ] at c0 c1 c2 c3 z0 z1 z2 z3
        have hf := put_sb hr (.int .i64 st1) (.string us1) (.slice A2 N2 cap2) (.string tx1)
        have r0 := hf.cell 0
        have r1 := hf.cell 1
        have r2 := hf.cell 2
        have r3 := hf.cell 3
        simp only [List.getElem?_toArray, List.getElem?_cons_zero, List.getElem?_cons_succ] at r0 r1 r2 r3
        clear hs hr hf
        go_wp2
        refine bodyPost_ret (v := .tuple #[.agg #[.int .i64 st1, .string us1, .slice A2 N2 cap2, .string tx1], .int .i64 250]) (by simp [results, Try.results66, go_sem, r0, r1, r2, r3]) rfl ?_
        rw [HE.out]
        exact ⟨_, _, _, rfl, HI2.out.set4 (fun q e => by
            rcases HF2.out q e with ⟨p, hp, hq⟩ | hq
            · have := HI.out.lt p hp; omega
            · have := HZ.out; omega) _ _ _ _, (HF2.out.from HB2.out.size), below_set4 HB4.out (by omega) _ _ _ _⟩
  ·
    have h2' : ((NW : Int) != 2) = true := bne_iff_ne.2 (by omega)
    have HE : Hid (helloF ⟨st, us, T, tx⟩ W = (⟨st, us, T, tx⟩, 501)) := Lib.hid (by unfold helloF; rw [if_neg (by rw [HWI.out.1]; exact fun h => h2 h.1)])
    obtain ⟨_, hf, hfB⟩ := two_made w #[.int .i64 st, .string us, .slice A N cap, .string tx] #[.int .i64 st, .string us, .slice A N cap, .string tx]
    have r0 := hf.cell 0
    have r1 := hf.cell 1
    have r2 := hf.cell 2
    have r3 := hf.cell 3
    simp only [List.getElem?_toArray, List.getElem?_cons_zero, List.getElem?_cons_succ] at r0 r1 r2 r3
    have HFB := Lib.hid hfB
    clear hf hfB
    clear h2
    go_enter Try.func66, Try.ntmps66
    go_wp2
    refine bodyPost_ret (v := .tuple #[.agg #[.int .i64 st, .string us, .slice A N cap, .string tx], .int .i64 501]) (by simp [results, Try.results66, go_sem, r0, r1, r2, r3]) rfl ?_
    rw [HE.out]
    exact ⟨_, _, _, rfl, HI.out.below HFB.out (Nat.le_refl _), Fr.same _ _, HFB.out⟩
end Go.Proofs.Ytichajalinkcdaa
namespace Go.Proofs.Ytichajalinkcdaa
open Go.RowKit
set_option linter.unusedVariables false


set_option maxRecDepth 20000 in
set_option maxHeartbeats 4000000 in
theorem spec_auth (st : Int) (us tx u : ByteArray) (ok : Bool) (T W : List ByteArray) (L : List Us) (A AW AU : Option Addr) (N cap NW cW NU cU : Nat) (w : World) (h : SIn w A N cap T) (hw : WIn w AW NW W) (hL : UIn w AU NU cU L) (hs8 : ∀ x ∈ W, x.size ≤ 2097152) (hup : W.length = 3 → IsUp L (W.getD 2 eB) u ok) : Calls Try.prog 67 #[.agg #[.int .i64 st, .string us, .slice A N cap, .string tx], .slice AU NU cU, .slice AW NW cW] w (GiveS w A (authF ⟨st, us, T, tx⟩ W u ok)) := by
  have HWI := Lib.hid hw
  have hwb := hw.below (two_made w #[.int .i64 st, .string us, .slice A N cap, .string tx] #[.int .i64 0, .string ⟨#[]⟩, .slice none 0 0, .string ⟨#[]⟩]).2.2 (Nat.le_refl _)
  have HWB := Lib.hid hwb
  have HL := Lib.hid (hL.below (two_made w #[.int .i64 st, .string us, .slice A N cap, .string tx] #[.int .i64 0, .string ⟨#[]⟩, .slice none 0 0, .string ⟨#[]⟩]).2.2 (Nat.le_refl _))
  have HUP := Lib.hid hup
  clear hw hwb hL hup
  have HI := Lib.hid h
  obtain ⟨hs, hr, hB⟩ := two_made w #[.int .i64 st, .string us, .slice A N cap, .string tx] #[.int .i64 0, .string ⟨#[]⟩, .slice none 0 0, .string ⟨#[]⟩]
  have c0 := hs.cell 0
  have c1 := hs.cell 1
  have c2 := hs.cell 2
  have c3 := hs.cell 3
  have z0 := hr.cell 0
  have z1 := hr.cell 1
  have z2 := hr.cell 2
  have z3 := hr.cell 3
  have f0 := hr.free 0
  have f1 := hr.free 1
  have f2 := hr.free 2
  have f3 := hr.free 3
  simp only [List.getElem?_toArray, List.getElem?_cons_zero, List.getElem?_cons_succ] at c0 c1 c2 c3 z0 z1 z2 z3
  have HS := Lib.hid hs
  have HR := Lib.hid hr
  have HB := Lib.hid hB
  clear h hs hr hB
  have hne : ∀ q, A = some q → q.block ≠ w.heap.size + 1 := fun q e => by have := HI.out.lt q e; omega
  have HNE := Lib.hid hne
  clear hne
  by_cases h1 : st = 1
  ·
    subst h1
    by_cases h3 : NW = 3
    ·
      subst h3
      obtain ⟨x, hx⟩ : ∃ x, W[1]? = some x := ⟨_, List.getElem?_eq_getElem (by rw [HWI.out.1]; omega)⟩
      obtain ⟨y, hy⟩ : ∃ y, W[2]? = some y := ⟨_, List.getElem?_eq_getElem (by rw [HWI.out.1]; omega)⟩
      have hgx : W.getD 1 eB = x := by rw [List.getD_eq_getElem?_getD, hx]; rfl
      have hgy : W.getD 2 eB = y := by rw [List.getD_eq_getElem?_getD, hy]; rfl
      have hys : y.size ≤ 16777216 := Nat.le_trans (hs8 y (List.mem_of_getElem? hy)) (by omega)
      obtain ⟨b, o, rfl, hb, k0⟩ := str_at HWB.out.2 hx
      obtain ⟨b', o', hA', _, k1⟩ := str_at HWB.out.2 hy
      cases hA'
      clear hx hy hs8
      have HU : Hid (IsUp L y u ok) := Lib.hid (by rw [← hgy]; exact HUP.out HWI.out.1)
      by_cases hp : x = wPLAIN
      ·
        subst hp
        unfold wPLAIN at k0
        obtain ⟨pk, pn, pp, hp1, hp2⟩ := HU.out
        have HP1 := Lib.hid hp1
        have HP2 := Lib.hid hp2
        have HGX := Lib.hid hgx
        clear hp1 hp2 hgy hgx
        cases ok with
        | false =>
          have HE : Hid (authF ⟨1, us, T, tx⟩ W u false = (⟨1, us, T, tx⟩, 535)) := Lib.hid (by unfold authF; rw [if_neg (by simp), if_pos ⟨HWI.out.1, HGX.out⟩, if_neg (by simp)])
          go_enter Try.func67, Try.ntmps67
          go_wp2_with fail
          refine (spec_upl HP1.out HP2.out _ HL.out hys).mono ?_
          rintro e w2 ⟨rfl, hb2⟩
          have HS2 := Lib.hid (HS.out.below hb2 HS.out.lt)
          have HR2 := Lib.hid (HR.out.below hb2 HR.out.lt)
          have HB2 := Lib.hid (HB.out.trans (hb2.mono HB.out.size))
          have HZ2 : Hid (w.heap.size + 1 < w2.heap.size) := Lib.hid HR2.out.lt
          clear hb2 c0 c1 c2 c3 z0 z1 z2 z3 f0 f1 f2 f3 k0 k1
          have hs := HS2.out
          have hr := HR2.out
          have c0 := hs.cell 0
          have c1 := hs.cell 1
          have c2 := hs.cell 2
          have c3 := hs.cell 3
          have z0 := hr.cell 0
          have z1 := hr.cell 1
          have z2 := hr.cell 2
          have z3 := hr.cell 3
          have f0 := hr.free 0
          have f1 := hr.free 1
          have f2 := hr.free 2
          have f3 := hr.free 3
          simp only [List.getElem?_toArray, List.getElem?_cons_zero, List.getElem?_cons_succ] at c0 c1 c2 c3 z0 z1 z2 z3
          have hf := put_sb hr (.int .i64 1) (.string us) (.slice A N cap) (.string tx)
          have r0 := hf.cell 0
          have r1 := hf.cell 1
          have r2 := hf.cell 2
          have r3 := hf.cell 3
          simp only [List.getElem?_toArray, List.getElem?_cons_zero, List.getElem?_cons_succ] at r0 r1 r2 r3
          clear hs hr hf
          go_wp2
          refine bodyPost_ret (v := .tuple #[.agg #[.int .i64 1, .string us, .slice A N cap, .string tx], .int .i64 535]) (by simp [results, Try.results67, go_sem, r0, r1, r2, r3]) rfl ?_
          rw [HE.out]
          exact ⟨_, _, _, rfl, (HI.out.below HB2.out (Nat.le_refl _)).set4 HNE.out _ _ _ _, Fr.same _ _, below_set4 HB2.out (by omega) _ _ _ _⟩
        | true =>
          have HE : Hid (authF ⟨1, us, T, tx⟩ W u true = (⟨2, u, [], eB⟩, 235)) := Lib.hid (by unfold authF; rw [if_neg (by simp), if_pos ⟨HWI.out.1, HGX.out⟩, if_pos rfl])
          go_enter Try.func67, Try.ntmps67
          go_wp2_with fail
          refine (spec_upl HP1.out HP2.out _ HL.out hys).mono ?_
          rintro e w2 ⟨rfl, hb2⟩
          have HS2 := Lib.hid (HS.out.below hb2 HS.out.lt)
          have HR2 := Lib.hid (HR.out.below hb2 HR.out.lt)
          have HB2 := Lib.hid (HB.out.trans (hb2.mono HB.out.size))
          have HZ2 : Hid (w.heap.size + 1 < w2.heap.size) := Lib.hid HR2.out.lt
          clear hb2 c0 c1 c2 c3 z0 z1 z2 z3 f0 f1 f2 f3 k0 k1
          have hr0 := HR2.out
          have hr := hr0.alloc (.cells #[] 9)
          have z0 := hr.cell 0
          have z1 := hr.cell 1
          have z2 := hr.cell 2
          have z3 := hr.cell 3
          have f0 := hr.free 0
          have f1 := hr.free 1
          have f2 := hr.free 2
          have f3 := hr.free 3
          simp only [List.getElem?_toArray, List.getElem?_cons_zero, List.getElem?_cons_succ] at z0 z1 z2 z3
          have y0 := hr0.cell 0
          have y1 := hr0.cell 1
          have y2 := hr0.cell 2
          have y3 := hr0.cell 3
          have g0 := hr0.free 0
          have g1 := hr0.free 1
          have g2 := hr0.free 2
          have g3 := hr0.free 3
          simp only [List.getElem?_toArray, List.getElem?_cons_zero, List.getElem?_cons_succ] at y0 y1 y2 y3
          have hf := put_sb hr (.int .i64 2) (.string u) (.slice (some ⟨w2.heap.size, 0, none⟩) 0 0) (.string ⟨#[]⟩)
          have r0 := hf.cell 0
          have r1 := hf.cell 1
          have r2 := hf.cell 2
          have r3 := hf.cell 3
          simp only [List.getElem?_toArray, List.getElem?_cons_zero, List.getElem?_cons_succ] at r0 r1 r2 r3
          clear hr0 hr hf
          go_wp2
          refine bodyPost_ret (v := .tuple #[.agg #[.int .i64 2, .string u, .slice (some ⟨w2.heap.size, 0, none⟩) 0 0, .string ⟨#[]⟩], .int .i64 235]) (by simp [results, Try.results67, go_sem, r0, r1, r2, r3]) rfl ?_
          rw [HE.out]
          exact ⟨_, _, _, rfl, SIn.new _ (by simp [World.setCell]), Fr.new (by have := HZ2.out; omega), below_set4 (HB2.out.alloc HB2.out.size _) (by omega) _ _ _ _⟩
      ·
        obtain ⟨v1, v2, v3⟩ := lit_walk (xs := [80, 76, 65, 73, 78]) rfl hp
        have HE : Hid (authF ⟨1, us, T, tx⟩ W u ok = (⟨1, us, T, tx⟩, 501)) := Lib.hid (by unfold authF; rw [if_neg (by simp), if_neg (by rw [hgx]; exact fun h => hp h.2)])
        obtain ⟨_, hf, hfB⟩ := two_made w #[.int .i64 1, .string us, .slice A N cap, .string tx] #[.int .i64 1, .string us, .slice A N cap, .string tx]
        have r0 := hf.cell 0
        have r1 := hf.cell 1
        have r2 := hf.cell 2
        have r3 := hf.cell 3
        simp only [List.getElem?_toArray, List.getElem?_cons_zero, List.getElem?_cons_succ] at r0 r1 r2 r3
        have HFB := Lib.hid hfB
        clear hf hfB
        clear hp hgx hgy k1
        go_enter Try.func67, Try.ntmps67
        go_wp2
        refine bodyPost_ret (v := .tuple #[.agg #[.int .i64 1, .string us, .slice A N cap, .string tx], .int .i64 501]) (by simp [results, Try.results67, go_sem, r0, r1, r2, r3]) rfl ?_
        rw [HE.out]
        exact ⟨_, _, _, rfl, HI.out.below HFB.out (Nat.le_refl _), Fr.same _ _, HFB.out⟩
    ·
      have h3' : ((NW : Int) != 3) = true := bne_iff_ne.2 (by omega)
      have HE : Hid (authF ⟨1, us, T, tx⟩ W u ok = (⟨1, us, T, tx⟩, 501)) := Lib.hid (by unfold authF; rw [if_neg (by simp), if_neg (by rw [HWI.out.1]; exact fun h => h3 h.1)])
      obtain ⟨_, hf, hfB⟩ := two_made w #[.int .i64 1, .string us, .slice A N cap, .string tx] #[.int .i64 1, .string us, .slice A N cap, .string tx]
      have r0 := hf.cell 0
      have r1 := hf.cell 1
      have r2 := hf.cell 2
      have r3 := hf.cell 3
      simp only [List.getElem?_toArray, List.getElem?_cons_zero, List.getElem?_cons_succ] at r0 r1 r2 r3
      have HFB := Lib.hid hfB
      clear hf hfB
      clear h3
      go_enter Try.func67, Try.ntmps67
      go_wp2
      refine bodyPost_ret (v := .tuple #[.agg #[.int .i64 1, .string us, .slice A N cap, .string tx], .int .i64 501]) (by simp [results, Try.results67, go_sem, r0, r1, r2, r3]) rfl ?_
      rw [HE.out]
      exact ⟨_, _, _, rfl, HI.out.below HFB.out (Nat.le_refl _), Fr.same _ _, HFB.out⟩
  ·
    have h1' : (st != 1) = true := bne_iff_ne.2 h1
    have HE : Hid (authF ⟨st, us, T, tx⟩ W u ok = (⟨st, us, T, tx⟩, 503)) := Lib.hid (by unfold authF; rw [if_pos h1])
    obtain ⟨_, hf, hfB⟩ := two_made w #[.int .i64 st, .string us, .slice A N cap, .string tx] #[.int .i64 st, .string us, .slice A N cap, .string tx]
    have r0 := hf.cell 0
    have r1 := hf.cell 1
    have r2 := hf.cell 2
    have r3 := hf.cell 3
    simp only [List.getElem?_toArray, List.getElem?_cons_zero, List.getElem?_cons_succ] at r0 r1 r2 r3
    have HFB := Lib.hid hfB
    clear hf hfB
    clear h1
    go_enter Try.func67, Try.ntmps67
    go_wp2
    refine bodyPost_ret (v := .tuple #[.agg #[.int .i64 st, .string us, .slice A N cap, .string tx], .int .i64 503]) (by simp [results, Try.results67, go_sem, r0, r1, r2, r3]) rfl ?_
    rw [HE.out]
    exact ⟨_, _, _, rfl, HI.out.below HFB.out (Nat.le_refl _), Fr.same _ _, HFB.out⟩
end Go.Proofs.Ytichajalinkcdaa
namespace Go.Proofs.Ytichajalinkcdaa
open Go.RowKit
set_option linter.unusedVariables false


theorem below_new' (w : World) (o : Obj) : Below w.heap.size w (w.alloc o) := (Below.refl _ _).alloc (Nat.le_refl _) o
set_option maxRecDepth 20000 in
set_option maxHeartbeats 4000000 in
theorem spec_mail (st : Int) (us tx d l : ByteArray) (T : List ByteArray) (A : Option Addr) (N cap : Nat) (w : World) (h : SIn w A N cap T) (hl : l.size ≤ 2097152) : Calls Try.prog 68 #[.agg #[.int .i64 st, .string us, .slice A N cap, .string tx], .string d, .string l] w (GiveS w A (mailF ⟨st, us, T, tx⟩ d l)) := by
  have HI := Lib.hid h
  obtain ⟨hs, hr, hB⟩ := two_made w #[.int .i64 st, .string us, .slice A N cap, .string tx] #[.int .i64 0, .string ⟨#[]⟩, .slice none 0 0, .string ⟨#[]⟩]
  have c0 := hs.cell 0
  have c1 := hs.cell 1
  have c2 := hs.cell 2
  have c3 := hs.cell 3
  have z0 := hr.cell 0
  have z1 := hr.cell 1
  have z2 := hr.cell 2
  have z3 := hr.cell 3
  have f0 := hr.free 0
  have f1 := hr.free 1
  have f2 := hr.free 2
  have f3 := hr.free 3
  simp only [List.getElem?_toArray, List.getElem?_cons_zero, List.getElem?_cons_succ] at c0 c1 c2 c3 z0 z1 z2 z3
  have HS := Lib.hid hs
  have HR := Lib.hid hr
  have HB := Lib.hid hB
  clear h hs hr hB
  have hne : ∀ q, A = some q → q.block ≠ w.heap.size + 1 := fun q e => by have := HI.out.lt q e; omega
  have HNE := Lib.hid hne
  clear hne
  obtain ⟨ok, ho⟩ : ∃ x, ptO bMAIL l = x := ⟨_, rfl⟩
  obtain ⟨u, hu⟩ : ∃ x, ptU bMAIL l = x := ⟨_, rfl⟩
  obtain ⟨v, hv⟩ : ∃ x, ptD bMAIL l = x := ⟨_, rfl⟩
  have HC := Lib.hid (spec_lpath ho hu hv ((w.alloc (.cells #[.int .i64 st, .string us, .slice A N cap, .string tx] 25)).alloc (.cells #[.int .i64 0, .string ⟨#[]⟩, .slice none 0 0, .string ⟨#[]⟩] 25)) (by omega) (by decide))
  unfold bMAIL at HC
  have HO := Lib.hid ho
  have HU := Lib.hid hu
  have HV := Lib.hid hv
  clear ho hu hv
  by_cases h1 : st < 2
  ·
    have HE : Hid (mailF ⟨st, us, T, tx⟩ d l = (⟨st, us, T, tx⟩, 530)) := Lib.hid (by unfold mailF; rw [if_pos h1])
    go_enter Try.func68, Try.ntmps68
    go_wp2_with fail
    refine HC.out.mono ?_
    rintro e w2 ⟨rfl, hb2⟩
    have HS2 := Lib.hid (HS.out.below hb2 HS.out.lt)
    have HR2 := Lib.hid (HR.out.below hb2 HR.out.lt)
    have HB2 := Lib.hid (HB.out.trans (hb2.mono HB.out.size))
    have HZ2 : Hid (w.heap.size + 1 < w2.heap.size) := Lib.hid HR2.out.lt
    clear hb2 c0 c1 c2 c3 z0 z1 z2 z3 f0 f1 f2 f3 HC
    have hs := HS2.out.alloc (.cells #[.string u, .string v] 96)
    have hr := HR2.out.alloc (.cells #[.string u, .string v] 96)
    have ha := Whole.made w2 96 #[.string u, .string v]
    have a0 := ha.cell 0
    have a1 := ha.cell 1
    simp only [List.getElem?_toArray, List.getElem?_cons_zero, List.getElem?_cons_succ] at a0 a1
    have HB3 := Lib.hid (HB2.out.alloc HB2.out.size (.cells #[.string u, .string v] 96))
    have c0 := hs.cell 0
    have c1 := hs.cell 1
    have c2 := hs.cell 2
    have c3 := hs.cell 3
    have z0 := hr.cell 0
    have z1 := hr.cell 1
    have z2 := hr.cell 2
    have z3 := hr.cell 3
    have f0 := hr.free 0
    have f1 := hr.free 1
    have f2 := hr.free 2
    have f3 := hr.free 3
    simp only [List.getElem?_toArray, List.getElem?_cons_zero, List.getElem?_cons_succ] at c0 c1 c2 c3 z0 z1 z2 z3
    clear hs
    have hf := put_sb hr (.int .i64 st) (.string us) (.slice A N cap) (.string tx)
    have r0 := hf.cell 0
    have r1 := hf.cell 1
    have r2 := hf.cell 2
    have r3 := hf.cell 3
    simp only [List.getElem?_toArray, List.getElem?_cons_zero, List.getElem?_cons_succ] at r0 r1 r2 r3
    clear hf ha hr
    go_wp2
    refine bodyPost_ret (v := .tuple #[.agg #[.int .i64 st, .string us, .slice A N cap, .string tx], .int .i64 530]) (by simp [results, Try.results68, go_sem, r0, r1, r2, r3]) rfl ?_
    rw [HE.out]
    exact ⟨_, _, _, rfl, (HI.out.below HB3.out (Nat.le_refl _)).set4 HNE.out _ _ _ _, Fr.same _ _, below_set4 HB3.out (by omega) _ _ _ _⟩
  by_cases h2 : st = 2
  ·
    subst h2
    clear h1
    cases ok with
    | false =>
      have HE : Hid (mailF ⟨2, us, T, tx⟩ d l = (⟨2, us, T, tx⟩, 501)) := Lib.hid (by unfold mailF; rw [if_neg (by simp), if_neg (by simp), if_pos HO.out])
      go_enter Try.func68, Try.ntmps68
      go_wp2_with fail
      refine HC.out.mono ?_
      rintro e w2 ⟨rfl, hb2⟩
      have HS2 := Lib.hid (HS.out.below hb2 HS.out.lt)
      have HR2 := Lib.hid (HR.out.below hb2 HR.out.lt)
      have HB2 := Lib.hid (HB.out.trans (hb2.mono HB.out.size))
      have HZ2 : Hid (w.heap.size + 1 < w2.heap.size) := Lib.hid HR2.out.lt
      clear hb2 c0 c1 c2 c3 z0 z1 z2 z3 f0 f1 f2 f3 HC
      have hs := HS2.out.alloc (.cells #[.string u, .string v] 96)
      have hr := HR2.out.alloc (.cells #[.string u, .string v] 96)
      have ha := Whole.made w2 96 #[.string u, .string v]
      have a0 := ha.cell 0
      have a1 := ha.cell 1
      simp only [List.getElem?_toArray, List.getElem?_cons_zero, List.getElem?_cons_succ] at a0 a1
      have HB3 := Lib.hid (HB2.out.alloc HB2.out.size (.cells #[.string u, .string v] 96))
      have c0 := hs.cell 0
      have c1 := hs.cell 1
      have c2 := hs.cell 2
      have c3 := hs.cell 3
      have z0 := hr.cell 0
      have z1 := hr.cell 1
      have z2 := hr.cell 2
      have z3 := hr.cell 3
      have f0 := hr.free 0
      have f1 := hr.free 1
      have f2 := hr.free 2
      have f3 := hr.free 3
      simp only [List.getElem?_toArray, List.getElem?_cons_zero, List.getElem?_cons_succ] at c0 c1 c2 c3 z0 z1 z2 z3
      clear hs
      have hf := put_sb hr (.int .i64 2) (.string us) (.slice A N cap) (.string tx)
      have r0 := hf.cell 0
      have r1 := hf.cell 1
      have r2 := hf.cell 2
      have r3 := hf.cell 3
      simp only [List.getElem?_toArray, List.getElem?_cons_zero, List.getElem?_cons_succ] at r0 r1 r2 r3
      clear hf ha hr
      go_wp2
      refine bodyPost_ret (v := .tuple #[.agg #[.int .i64 2, .string us, .slice A N cap, .string tx], .int .i64 501]) (by simp [results, Try.results68, go_sem, r0, r1, r2, r3]) rfl ?_
      rw [HE.out]
      exact ⟨_, _, _, rfl, (HI.out.below HB3.out (Nat.le_refl _)).set4 HNE.out _ _ _ _, Fr.same _ _, below_set4 HB3.out (by omega) _ _ _ _⟩
    | true =>
      by_cases hu : u = us
      ·
        by_cases hv : v = d
        ·
          subst hu hv
          have HE : Hid (mailF ⟨2, u, T, tx⟩ v l = (⟨3, u, T, tx⟩, 250)) := Lib.hid (by unfold mailF; rw [if_neg (by simp), if_neg (by simp), if_neg (by rw [HO.out]; simp), if_pos ⟨HU.out, HV.out⟩])
          go_enter Try.func68, Try.ntmps68
          go_wp2_with fail
          refine HC.out.mono ?_
          rintro e w2 ⟨rfl, hb2⟩
          have HS2 := Lib.hid (HS.out.below hb2 HS.out.lt)
          have HR2 := Lib.hid (HR.out.below hb2 HR.out.lt)
          have HB2 := Lib.hid (HB.out.trans (hb2.mono HB.out.size))
          have HZ2 : Hid (w.heap.size + 1 < w2.heap.size) := Lib.hid HR2.out.lt
          clear hb2 c0 c1 c2 c3 z0 z1 z2 z3 f0 f1 f2 f3 HC
          have hs := HS2.out.alloc (.cells #[.string u, .string v] 96)
          have hr := HR2.out.alloc (.cells #[.string u, .string v] 96)
          have ha := Whole.made w2 96 #[.string u, .string v]
          have a0 := ha.cell 0
          have a1 := ha.cell 1
          simp only [List.getElem?_toArray, List.getElem?_cons_zero, List.getElem?_cons_succ] at a0 a1
          have HB3 := Lib.hid (HB2.out.alloc HB2.out.size (.cells #[.string u, .string v] 96))
          have c0 := hs.cell 0
          have c1 := hs.cell 1
          have c2 := hs.cell 2
          have c3 := hs.cell 3
          have z0 := hr.cell 0
          have z1 := hr.cell 1
          have z2 := hr.cell 2
          have z3 := hr.cell 3
          have f0 := hr.free 0
          have f1 := hr.free 1
          have f2 := hr.free 2
          have f3 := hr.free 3
          simp only [List.getElem?_toArray, List.getElem?_cons_zero, List.getElem?_cons_succ] at c0 c1 c2 c3 z0 z1 z2 z3
          have e0 := hs.free 0
          have hs1 : Whole ((w2.alloc (.cells #[.string u, .string v] 96)).setCell ⟨w.heap.size, 0, none⟩ (.int .i64 3)) w.heap.size 25 #[.int .i64 3, .string u, .slice A N cap, .string tx] := hs.store 0 (.int .i64 3)
          have hr1 := hr.apart (p := ⟨w.heap.size, 0, none⟩) (show w.heap.size + 1 ≠ w.heap.size by omega) (.int .i64 3)
          have m0 := hs1.cell 0
          have m1 := hs1.cell 1
          have m2 := hs1.cell 2
          have m3 := hs1.cell 3
          have x0 := hr1.cell 0
          have x1 := hr1.cell 1
          have x2 := hr1.cell 2
          have x3 := hr1.cell 3
          have i0 := hr1.free 0
          have i1 := hr1.free 1
          have i2 := hr1.free 2
          have i3 := hr1.free 3
          simp only [List.getElem?_toArray, List.getElem?_cons_zero, List.getElem?_cons_succ] at m0 m1 m2 m3 x0 x1 x2 x3
          clear hs hr hs1
          have hf := put_sb hr1 (.int .i64 3) (.string u) (.slice A N cap) (.string tx)
          have r0 := hf.cell 0
          have r1 := hf.cell 1
          have r2 := hf.cell 2
          have r3 := hf.cell 3
          simp only [List.getElem?_toArray, List.getElem?_cons_zero, List.getElem?_cons_succ] at r0 r1 r2 r3
          clear hf ha hr1
          go_wp2
          refine bodyPost_ret (v := .tuple #[.agg #[.int .i64 3, .string u, .slice A N cap, .string tx], .int .i64 250]) (by simp [results, Try.results68, go_sem, r0, r1, r2, r3]) rfl ?_
          rw [HE.out]
          exact ⟨_, _, _, rfl, ((HI.out.below HB3.out (Nat.le_refl _)).set (R := w.heap.size) (j := 0) (fun q e => by have := HI.out.lt q e; omega) (.int .i64 3)).set4 HNE.out _ _ _ _, Fr.same _ _, below_set4 (HB3.out.setCell (p := ⟨w.heap.size, 0, none⟩) (Nat.le_refl _) (.int .i64 3)) (by omega) _ _ _ _⟩
        ·
          subst hu
          obtain ⟨v1, v2⟩ := ne_walk hv
          have v3 : (v.toList != d.toList) = true := bne_iff_ne.2 v2
          have HE : Hid (mailF ⟨2, u, T, tx⟩ d l = (⟨2, u, T, tx⟩, 550)) := Lib.hid (by unfold mailF; rw [if_neg (by simp), if_neg (by simp), if_neg (by rw [HO.out]; simp), if_neg (by rw [HU.out, HV.out]; exact fun h => hv h.2)])
          clear hv
          go_enter Try.func68, Try.ntmps68
          go_wp2_with fail
          refine HC.out.mono ?_
          rintro e w2 ⟨rfl, hb2⟩
          have HS2 := Lib.hid (HS.out.below hb2 HS.out.lt)
          have HR2 := Lib.hid (HR.out.below hb2 HR.out.lt)
          have HB2 := Lib.hid (HB.out.trans (hb2.mono HB.out.size))
          have HZ2 : Hid (w.heap.size + 1 < w2.heap.size) := Lib.hid HR2.out.lt
          clear hb2 c0 c1 c2 c3 z0 z1 z2 z3 f0 f1 f2 f3 HC
          have hs := HS2.out.alloc (.cells #[.string u, .string v] 96)
          have hr := HR2.out.alloc (.cells #[.string u, .string v] 96)
          have ha := Whole.made w2 96 #[.string u, .string v]
          have a0 := ha.cell 0
          have a1 := ha.cell 1
          simp only [List.getElem?_toArray, List.getElem?_cons_zero, List.getElem?_cons_succ] at a0 a1
          have HB3 := Lib.hid (HB2.out.alloc HB2.out.size (.cells #[.string u, .string v] 96))
          have c0 := hs.cell 0
          have c1 := hs.cell 1
          have c2 := hs.cell 2
          have c3 := hs.cell 3
          have z0 := hr.cell 0
          have z1 := hr.cell 1
          have z2 := hr.cell 2
          have z3 := hr.cell 3
          have f0 := hr.free 0
          have f1 := hr.free 1
          have f2 := hr.free 2
          have f3 := hr.free 3
          simp only [List.getElem?_toArray, List.getElem?_cons_zero, List.getElem?_cons_succ] at c0 c1 c2 c3 z0 z1 z2 z3
          clear hs
          have hf := put_sb hr (.int .i64 2) (.string u) (.slice A N cap) (.string tx)
          have r0 := hf.cell 0
          have r1 := hf.cell 1
          have r2 := hf.cell 2
          have r3 := hf.cell 3
          simp only [List.getElem?_toArray, List.getElem?_cons_zero, List.getElem?_cons_succ] at r0 r1 r2 r3
          clear hf ha hr
          go_wp2
          refine bodyPost_ret (v := .tuple #[.agg #[.int .i64 2, .string u, .slice A N cap, .string tx], .int .i64 550]) (by simp [results, Try.results68, go_sem, r0, r1, r2, r3]) rfl ?_
          rw [HE.out]
          exact ⟨_, _, _, rfl, (HI.out.below HB3.out (Nat.le_refl _)).set4 HNE.out _ _ _ _, Fr.same _ _, below_set4 HB3.out (by omega) _ _ _ _⟩
      ·
        obtain ⟨v1, v2⟩ := ne_walk hu
        have v3 : (u.toList != us.toList) = true := bne_iff_ne.2 v2
        have HE : Hid (mailF ⟨2, us, T, tx⟩ d l = (⟨2, us, T, tx⟩, 550)) := Lib.hid (by unfold mailF; rw [if_neg (by simp), if_neg (by simp), if_neg (by rw [HO.out]; simp), if_neg (by rw [HU.out, HV.out]; exact fun h => hu h.1)])
        clear hu
        go_enter Try.func68, Try.ntmps68
        go_wp2_with fail
        refine HC.out.mono ?_
        rintro e w2 ⟨rfl, hb2⟩
        have HS2 := Lib.hid (HS.out.below hb2 HS.out.lt)
        have HR2 := Lib.hid (HR.out.below hb2 HR.out.lt)
        have HB2 := Lib.hid (HB.out.trans (hb2.mono HB.out.size))
        have HZ2 : Hid (w.heap.size + 1 < w2.heap.size) := Lib.hid HR2.out.lt
        clear hb2 c0 c1 c2 c3 z0 z1 z2 z3 f0 f1 f2 f3 HC
        have hs := HS2.out.alloc (.cells #[.string u, .string v] 96)
        have hr := HR2.out.alloc (.cells #[.string u, .string v] 96)
        have ha := Whole.made w2 96 #[.string u, .string v]
        have a0 := ha.cell 0
        have a1 := ha.cell 1
        simp only [List.getElem?_toArray, List.getElem?_cons_zero, List.getElem?_cons_succ] at a0 a1
        have HB3 := Lib.hid (HB2.out.alloc HB2.out.size (.cells #[.string u, .string v] 96))
        have c0 := hs.cell 0
        have c1 := hs.cell 1
        have c2 := hs.cell 2
        have c3 := hs.cell 3
        have z0 := hr.cell 0
        have z1 := hr.cell 1
        have z2 := hr.cell 2
        have z3 := hr.cell 3
        have f0 := hr.free 0
        have f1 := hr.free 1
        have f2 := hr.free 2
        have f3 := hr.free 3
        simp only [List.getElem?_toArray, List.getElem?_cons_zero, List.getElem?_cons_succ] at c0 c1 c2 c3 z0 z1 z2 z3
        clear hs
        have hf := put_sb hr (.int .i64 2) (.string us) (.slice A N cap) (.string tx)
        have r0 := hf.cell 0
        have r1 := hf.cell 1
        have r2 := hf.cell 2
        have r3 := hf.cell 3
        simp only [List.getElem?_toArray, List.getElem?_cons_zero, List.getElem?_cons_succ] at r0 r1 r2 r3
        clear hf ha hr
        go_wp2
        refine bodyPost_ret (v := .tuple #[.agg #[.int .i64 2, .string us, .slice A N cap, .string tx], .int .i64 550]) (by simp [results, Try.results68, go_sem, r0, r1, r2, r3]) rfl ?_
        rw [HE.out]
        exact ⟨_, _, _, rfl, (HI.out.below HB3.out (Nat.le_refl _)).set4 HNE.out _ _ _ _, Fr.same _ _, below_set4 HB3.out (by omega) _ _ _ _⟩
  ·
    have h2' : (st != 2) = true := bne_iff_ne.2 h2
    have HE : Hid (mailF ⟨st, us, T, tx⟩ d l = (⟨st, us, T, tx⟩, 503)) := Lib.hid (by unfold mailF; rw [if_neg h1, if_pos h2])
    have h1' : ¬ st < 2 := h1
    clear h2 h1
    go_enter Try.func68, Try.ntmps68
    go_wp2_with fail
    refine HC.out.mono ?_
    rintro e w2 ⟨rfl, hb2⟩
    have HS2 := Lib.hid (HS.out.below hb2 HS.out.lt)
    have HR2 := Lib.hid (HR.out.below hb2 HR.out.lt)
    have HB2 := Lib.hid (HB.out.trans (hb2.mono HB.out.size))
    have HZ2 : Hid (w.heap.size + 1 < w2.heap.size) := Lib.hid HR2.out.lt
    clear hb2 c0 c1 c2 c3 z0 z1 z2 z3 f0 f1 f2 f3 HC
    have hs := HS2.out.alloc (.cells #[.string u, .string v] 96)
    have hr := HR2.out.alloc (.cells #[.string u, .string v] 96)
    have ha := Whole.made w2 96 #[.string u, .string v]
    have a0 := ha.cell 0
    have a1 := ha.cell 1
    simp only [List.getElem?_toArray, List.getElem?_cons_zero, List.getElem?_cons_succ] at a0 a1
    have HB3 := Lib.hid (HB2.out.alloc HB2.out.size (.cells #[.string u, .string v] 96))
    have c0 := hs.cell 0
    have c1 := hs.cell 1
    have c2 := hs.cell 2
    have c3 := hs.cell 3
    have z0 := hr.cell 0
    have z1 := hr.cell 1
    have z2 := hr.cell 2
    have z3 := hr.cell 3
    have f0 := hr.free 0
    have f1 := hr.free 1
    have f2 := hr.free 2
    have f3 := hr.free 3
    simp only [List.getElem?_toArray, List.getElem?_cons_zero, List.getElem?_cons_succ] at c0 c1 c2 c3 z0 z1 z2 z3
    clear hs
    have hf := put_sb hr (.int .i64 st) (.string us) (.slice A N cap) (.string tx)
    have r0 := hf.cell 0
    have r1 := hf.cell 1
    have r2 := hf.cell 2
    have r3 := hf.cell 3
    simp only [List.getElem?_toArray, List.getElem?_cons_zero, List.getElem?_cons_succ] at r0 r1 r2 r3
    clear hf ha hr
    go_wp2
    refine bodyPost_ret (v := .tuple #[.agg #[.int .i64 st, .string us, .slice A N cap, .string tx], .int .i64 503]) (by simp [results, Try.results68, go_sem, r0, r1, r2, r3]) rfl ?_
    rw [HE.out]
    exact ⟨_, _, _, rfl, (HI.out.below HB3.out (Nat.le_refl _)).set4 HNE.out _ _ _ _, Fr.same _ _, below_set4 HB3.out (by omega) _ _ _ _⟩
end Go.Proofs.Ytichajalinkcdaa
