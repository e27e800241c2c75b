/-
  My texts Pparse, Um, Cm, Aval, Apath, Tm, Tr, Tsp, Tshl, Tsh, Zdm, Zcd, Lat, Ta in one, so that a claim holds fewer files. Conditions: each contract's own.
-/
import Derived.Test.YtichajalinkcdaaGreatDoorQc
import Derived.Shelf.Strings.Split
import Derived.Shelf.Small.Wraps
import Derived.Shelf.Strings.Prefix
import Derived.Shelf.Slices.Turned
import Derived.Ground.Names2Prog
import Derived.Shelf.Slices.Clone
import Derived.Test.YtichajalinkcdaaGreatDoorProg
import Derived.Shelf.Vars
import Derived.Test.YtichajalinkcdaaGreatDoorRows
import Derived.Test.YtichajalinkcdaaGreatDoorCards
import Derived.Test.YtichajalinkcdaaGreatDoorTie
import Derived.SevenTiedAt
import Derived.ProofKit
import Derived.BigQuiet
import Derived.Deep.RegionHeld3
namespace Go.Proofs.YtichajalinkcdaaGreatDoor
open Go.RowKit
set_option linter.unusedVariables false

/-- What a reader of proofs tells. -/
def IsPP (s : ByteArray) (o : Bool) (u p : ByteArray) : Prop := PP s.data.toList o u.data.toList p.data.toList
theorem isPP_any (s : ByteArray) : ∃ o u p, IsPP s o u p := by
  obtain ⟨o, u, p, h⟩ := pp_any s.data.toList
  exact ⟨o, bt u, bt p, h⟩
theorem isPP_one {s u p v q : ByteArray} {o r : Bool} (h : IsPP s o u p) (k : IsPP s r v q) : o = r ∧ u = v ∧ p = q := by
  obtain ⟨h1, h2, h3⟩ := pp_one h k
  exact ⟨h1, by rw [← bt_of u, h2, bt_of], by rw [← bt_of p, h3, bt_of]⟩
def Gives3 (w : World) (u p : ByteArray) (o : Bool) (e : Ending) (w' : World) : Prop := e = .returned (.tuple #[.string u, .string p, .bool o]) ∧ Below w.heap.size w w'
theorem gives3_mk {w w' : World} {s u p v q : ByteArray} {o r : Bool} (h : IsPP s o u p) (k : IsPP s r v q) (hb : Below w.heap.size w w') : Gives3 w u p o (.returned (.tuple #[.string v, .string q, .bool r])) w' := by
  obtain ⟨h1, h2, h3⟩ := isPP_one h k
  subst h1
  subst h2
  subst h3
  exact ⟨rfl, hb⟩
theorem isPP_fail {s x : ByteArray} (hd : IsD s true x) (h : ¬ Reads x.data.toList) : IsPP s false ⟨#[]⟩ ⟨#[]⟩ := pp_fails hd h
theorem isPP_off {s x : ByteArray} (hd : IsD s false x) : IsPP s false ⟨#[]⟩ ⟨#[]⟩ := pp_off hd

theorem takz_at {b k : Nat} {x : ByteArray} {w : World} {r : Bool} (hn : nextIs x.data.toList k 0 = r) (h : Cur w b x k) (hs : x.size ≤ 16777216) (hk : k ≤ x.size) :
    Calls Tryz.prog 117 #[.pointer (some ⟨b, 0, none⟩), .int .u8 0] w (Took w b x (if r then k + 1 else k) r) := by
  have h1 := take_any b k x 0 w h hs hk
  rw [hn] at h1
  exact h1
set_option maxHeartbeats 4000000 in
theorem iplain {s u p : ByteArray} {o : Bool} (h : IsPP s o u p) (w : World) (hs : s.size ≤ 16777216) : Calls Tryz.prog 122 #[.string s] w (Gives3 w u p o) := by
  have HP := Lib.hid h
  clear h
  obtain ⟨ok, x, hd⟩ := isD_any s
  have hx30 := isD_le hd
  have hx4 : x.size ≤ 16777216 := by omega
  have HDD := Lib.hid hd
  cases ok with
  | false =>
    have HN := Lib.hid (isPP_off hd)
    clear hd
    go_enter Tryz.func122, Tryz.ntmps122
    go_wp2_with fail
    refine (idec_loop HDD.out _ hs).mono ?_
    rintro e w1 ⟨rfl, hb⟩
    have HB := Lib.hid hb
    clear hb
    go_wp2
    go_ret3
    exact gives3_mk HP.out HN.out (HB.out.alloc HB.out.size _)
  | true =>
    clear hd
    have hl : x.data.toList.length = x.size := by simp
    have HL := Lib.hid hl
    clear hl
    have HF : Hid (¬ Reads x.data.toList → IsPP s false ⟨#[]⟩ ⟨#[]⟩) := Lib.hid (isPP_fail HDD.out)
    cases b0 : nextIs x.data.toList 0 0 with
    | false =>
      have HN := Lib.hid (HF.out (fun h => by rw [h.1] at b0; cases b0))
      have B0 := Lib.hid b0
      clear b0
      go_enter Tryz.func122, Tryz.ntmps122
      go_wp2_with fail
      refine (idec_loop HDD.out _ hs).mono ?_
      rintro e w1 ⟨rfl, hb⟩
      have HB := Lib.hid hb
      clear hb
      go_wp2_with fail
      refine (takz_at B0.out (cur_new w1 x) hx4 (Nat.zero_le _)).mono ?_
      rintro e w2 ⟨rfl, hc, hg⟩
      have HB2 := Lib.hid (HB.out.trans ((new_below hg).mono HB.out.size))
      clear hc hg
      go_wp2
      go_ret3
      exact gives3_mk HP.out HN.out HB2.out
    | true =>
      have B0 := Lib.hid b0
      have hk1 : 1 ≤ x.size := by have := nextIs_lt b0; have := HL.out; omega
      clear b0
      cases o1 : okLen (nmLen x.data.toList 1) with
      | false =>
        have HN := Lib.hid (HF.out (fun h => by rw [h.2.1] at o1; cases o1))
        have O1 := Lib.hid o1
        clear o1
        go_enter Tryz.func122, Tryz.ntmps122
        go_wp2_with fail
        refine (idec_loop HDD.out _ hs).mono ?_
        rintro e w1 ⟨rfl, hb⟩
        have HB := Lib.hid hb
        clear hb
        go_wp2_with fail
        refine (takz_at B0.out (cur_new w1 x) hx4 (Nat.zero_le _)).mono ?_
        rintro e w2 ⟨rfl, hc, hg⟩
        have HB2 := Lib.hid (HB.out.trans ((new_below hg).mono HB.out.size))
        have HC2 := Lib.hid hc
        have hz := HB.out.size
        clear hc hg
        go_wp2_with fail
        refine (name_no w1.heap.size 1 x _ HC2.out hx4 hk1 O1.out).mono ?_
        rintro e w3 ⟨rfl, hc, hg⟩
        have HB3 := Lib.hid (below_gr HB2.out hg HB2.out.size hz)
        clear hc hg
        go_wp2
        go_ret3
        exact gives3_mk HP.out HN.out HB3.out
      | true =>
        have O1 := Lib.hid o1
        clear o1
        have hk2 : pk x.data.toList ≤ x.size := by have := nmLen_le x.data.toList 1 (by have := HL.out; omega); have := HL.out; unfold pk; omega
        cases b1 : nextIs x.data.toList (pk x.data.toList) 0 with
        | false =>
          have HN := Lib.hid (HF.out (fun h => by rw [h.2.2.1] at b1; cases b1))
          have B1 := Lib.hid b1
          clear b1
          go_enter Tryz.func122, Tryz.ntmps122
          go_wp2_with fail
          refine (idec_loop HDD.out _ hs).mono ?_
          rintro e w1 ⟨rfl, hb⟩
          have HB := Lib.hid hb
          clear hb
          go_wp2_with fail
          refine (takz_at B0.out (cur_new w1 x) hx4 (Nat.zero_le _)).mono ?_
          rintro e w2 ⟨rfl, hc, hg⟩
          have HB2 := Lib.hid (HB.out.trans ((new_below hg).mono HB.out.size))
          have HC2 := Lib.hid hc
          have hz := HB.out.size
          clear hc hg
          go_wp2_with fail
          refine (name_yes w1.heap.size 1 x _ HC2.out hx4 hk1 O1.out).mono ?_
          rintro e w3 ⟨v, rfl, hv, hc, hg⟩
          have HB3 := Lib.hid (below_gr HB2.out hg HB2.out.size hz)
          have HC3 := Lib.hid hc
          clear hv hc hg
          go_wp2_with fail
          refine (takz_at B1.out HC3.out hx4 hk2).mono ?_
          rintro e w4 ⟨rfl, hc, hg⟩
          have HB4 := Lib.hid (below_gr HB3.out hg HB3.out.size hz)
          clear hc hg
          go_wp2
          go_ret3
          exact gives3_mk HP.out HN.out HB4.out
        | true =>
          have B1 := Lib.hid b1
          have hk3 : pk x.data.toList + 1 ≤ x.size := by have := nextIs_lt b1; have := HL.out; omega
          clear b1
          cases o2 : okLen (nmLen x.data.toList (pk x.data.toList + 1)) with
          | false =>
            have HN := Lib.hid (HF.out (fun h => by rw [h.2.2.2.1] at o2; cases o2))
            have O2 := Lib.hid o2
            clear o2
            go_enter Tryz.func122, Tryz.ntmps122
            go_wp2_with fail
            refine (idec_loop HDD.out _ hs).mono ?_
            rintro e w1 ⟨rfl, hb⟩
            have HB := Lib.hid hb
            clear hb
            go_wp2_with fail
            refine (takz_at B0.out (cur_new w1 x) hx4 (Nat.zero_le _)).mono ?_
            rintro e w2 ⟨rfl, hc, hg⟩
            have HB2 := Lib.hid (HB.out.trans ((new_below hg).mono HB.out.size))
            have HC2 := Lib.hid hc
            have hz := HB.out.size
            clear hc hg
            go_wp2_with fail
            refine (name_yes w1.heap.size 1 x _ HC2.out hx4 hk1 O1.out).mono ?_
            rintro e w3 ⟨v, rfl, hv, hc, hg⟩
            have HB3 := Lib.hid (below_gr HB2.out hg HB2.out.size hz)
            have HC3 := Lib.hid hc
            clear hv hc hg
            go_wp2_with fail
            refine (takz_at B1.out HC3.out hx4 hk2).mono ?_
            rintro e w4 ⟨rfl, hc, hg⟩
            have HB4 := Lib.hid (below_gr HB3.out hg HB3.out.size hz)
            have HC4 := Lib.hid hc
            clear hc hg
            go_wp2_with fail
            refine (name_no w1.heap.size (pk x.data.toList + 1) x _ HC4.out hx4 hk3 O2.out).mono ?_
            rintro e w5 ⟨rfl, hc, hg⟩
            have HB5 := Lib.hid (below_gr HB4.out hg HB4.out.size hz)
            clear hc hg
            go_wp2
            go_ret3
            exact gives3_mk HP.out HN.out HB5.out
          | true =>
            have O2 := Lib.hid o2
            clear o2
            by_cases hd5 : pk x.data.toList + 1 + nmLen x.data.toList (pk x.data.toList + 1) = x.size
            · have HR : Hid (Reads x.data.toList) := Lib.hid ⟨B0.out, O1.out, B1.out, O2.out, by rw [HL.out]; exact hd5⟩
              have HD5 := Lib.hid hd5
              clear hd5
              go_enter Tryz.func122, Tryz.ntmps122
              go_wp2_with fail
              refine (idec_loop HDD.out _ hs).mono ?_
              rintro e w1 ⟨rfl, hb⟩
              have HB := Lib.hid hb
              clear hb
              go_wp2_with fail
              refine (takz_at B0.out (cur_new w1 x) hx4 (Nat.zero_le _)).mono ?_
              rintro e w2 ⟨rfl, hc, hg⟩
              have HB2 := Lib.hid (HB.out.trans ((new_below hg).mono HB.out.size))
              have HC2 := Lib.hid hc
              have hz := HB.out.size
              clear hc hg
              go_wp2_with fail
              refine (name_yes w1.heap.size 1 x _ HC2.out hx4 hk1 O1.out).mono ?_
              rintro e w3 ⟨v, rfl, hv, hc, hg⟩
              have HV := Lib.hid hv
              have HB3 := Lib.hid (below_gr HB2.out hg HB2.out.size hz)
              have HC3 := Lib.hid hc
              clear hv hc hg
              go_wp2_with fail
              refine (takz_at B1.out HC3.out hx4 hk2).mono ?_
              rintro e w4 ⟨rfl, hc, hg⟩
              have HB4 := Lib.hid (below_gr HB3.out hg HB3.out.size hz)
              have HC4 := Lib.hid hc
              clear hc hg
              go_wp2_with fail
              refine (name_yes w1.heap.size (pk x.data.toList + 1) x _ HC4.out hx4 hk3 O2.out).mono ?_
              rintro e w5 ⟨v2, rfl, hv, hc, hg⟩
              have HV2 := Lib.hid hv
              have HB5 := Lib.hid (below_gr HB4.out hg HB4.out.size hz)
              have HC5 := Lib.hid hc
              clear hv hc hg
              go_wp2_with fail
              refine (done_yes w1.heap.size _ x _ HC5.out HD5.out).mono ?_
              rintro e w6 ⟨rfl, n, rfl⟩
              go_wp2
              go_ret3
              exact gives3_mk HP.out (show IsPP s true v v2 from by
                have h := pp_reads HDD.out HR.out
                unfold IsPP
                rw [HV.out, HV2.out]
                exact h) (below_drewN' HB5.out _)
            · have HN := Lib.hid (HF.out (fun h => hd5 (by rw [← HL.out]; exact h.2.2.2.2)))
              have HD5 : Hid (pk x.data.toList + 1 + nmLen x.data.toList (pk x.data.toList + 1) < x.size) := Lib.hid (by
                have := nmLen_le x.data.toList (pk x.data.toList + 1) (by have := HL.out; omega)
                have := HL.out
                omega)
              clear hd5
              go_enter Tryz.func122, Tryz.ntmps122
              go_wp2_with fail
              refine (idec_loop HDD.out _ hs).mono ?_
              rintro e w1 ⟨rfl, hb⟩
              have HB := Lib.hid hb
              clear hb
              go_wp2_with fail
              refine (takz_at B0.out (cur_new w1 x) hx4 (Nat.zero_le _)).mono ?_
              rintro e w2 ⟨rfl, hc, hg⟩
              have HB2 := Lib.hid (HB.out.trans ((new_below hg).mono HB.out.size))
              have HC2 := Lib.hid hc
              have hz := HB.out.size
              clear hc hg
              go_wp2_with fail
              refine (name_yes w1.heap.size 1 x _ HC2.out hx4 hk1 O1.out).mono ?_
              rintro e w3 ⟨v, rfl, hv, hc, hg⟩
              have HB3 := Lib.hid (below_gr HB2.out hg HB2.out.size hz)
              have HC3 := Lib.hid hc
              clear hv hc hg
              go_wp2_with fail
              refine (takz_at B1.out HC3.out hx4 hk2).mono ?_
              rintro e w4 ⟨rfl, hc, hg⟩
              have HB4 := Lib.hid (below_gr HB3.out hg HB3.out.size hz)
              have HC4 := Lib.hid hc
              clear hc hg
              go_wp2_with fail
              refine (name_yes w1.heap.size (pk x.data.toList + 1) x _ HC4.out hx4 hk3 O2.out).mono ?_
              rintro e w5 ⟨v2, rfl, hv, hc, hg⟩
              have HB5 := Lib.hid (below_gr HB4.out hg HB4.out.size hz)
              have HC5 := Lib.hid hc
              clear hv hc hg
              go_wp2_with fail
              refine (done_no w1.heap.size _ x _ HC5.out HD5.out).mono ?_
              rintro e w6 ⟨rfl, n, rfl⟩
              go_wp2
              go_ret3
              exact gives3_mk HP.out HN.out (below_drewN' HB5.out _)
end Go.Proofs.YtichajalinkcdaaGreatDoor
namespace Go.Proofs.YtichajalinkcdaaGreatDoor
set_option linter.unusedVariables false

/-- A user: a name, a password, a quota. -/
abbrev Us := ByteArray × ByteArray × Int
/-- The name of everybody. -/
def evB : ByteArray := ⟨#[97, 110, 121, 111, 110, 101]⟩
/-- A valid user. -/
def okU (u : Us) : Bool := nameB (kb u.1) && (!(kb u.1 == kb evB) && (nameB (kb u.2.1) && (decide (0 ≤ u.2.2) && decide (u.2.2 ≤ 200))))
def ascU (L : List Us) : Prop := L.Pairwise fun a b => ltG a.1 b.1 = true
instance (L : List Us) : Decidable (ascU L) := by unfold ascU; infer_instance
/-- Valid users. -/
def vU (L : List Us) : Bool := (decide (1 ≤ L.length) && decide (L.length ≤ 4)) && (L.all okU && decide (ascU L))
theorem vU_iff {L : List Us} : vU L = true ↔ (1 ≤ L.length ∧ L.length ≤ 4) ∧ (∀ g ∈ L, okU g = true) ∧ ascU L := by
  unfold vU
  simp [List.all_eq_true]
theorem vU_long {L : List Us} (h : ¬ (1 ≤ L.length ∧ L.length ≤ 4)) : vU L = false := by
  cases hv : vU L with
  | false => rfl
  | true => exact absurd (vU_iff.1 hv).1 h
/-- The first users are valid. -/
def goodU (L : List Us) (k : Nat) : Prop := (∀ g ∈ L.take k, okU g = true) ∧ ascU (L.take k)
theorem goodU_zero (L : List Us) : goodU L 0 := ⟨fun g hg => by simp at hg, by unfold ascU; simp⟩
theorem goodU_all {L : List Us} {k : Nat} (h : goodU L k) (hk : L.length ≤ k) : vU L = (decide (1 ≤ L.length) && decide (L.length ≤ 4)) := by
  unfold goodU at h
  rw [List.take_of_length_le hk] at h
  by_cases h4 : 1 ≤ L.length ∧ L.length ≤ 4
  · rw [decide_eq_true h4.1, decide_eq_true h4.2]
    exact vU_iff.2 ⟨h4, h⟩
  · rw [vU_long h4]
    symm
    rw [Bool.and_eq_false_iff]
    by_cases h1 : 1 ≤ L.length
    · exact .inr (decide_eq_false fun h2 => h4 ⟨h1, h2⟩)
    · exact .inl (decide_eq_false h1)
theorem goodU_first {L : List Us} {g : Us} (hg : L[0]? = some g) (ho : okU g = true) : goodU L 1 := by
  unfold goodU
  rw [tsnoc hg, List.take_zero]
  exact ⟨fun x hx => by simp at hx; rw [hx]; exact ho, by unfold ascU; simp⟩
theorem goodU_next {L : List Us} {k : Nat} {p g : Us} (h : goodU L (k + 1)) (hp : L[k]? = some p) (hg : L[k + 1]? = some g) (ho : okU g = true) (hl : ltG p.1 g.1 = true) : goodU L (k + 1 + 1) := by
  unfold goodU at *
  rw [tsnoc hg]
  rw [tsnoc hp] at h ⊢
  refine ⟨fun x hx => ?_, ?_⟩
  · rcases List.mem_append.1 hx with h1 | h1
    · exact h.1 x h1
    · simp at h1
      rw [h1]
      exact ho
  · unfold ascU at *
    rw [List.pairwise_append]
    refine ⟨h.2, by simp, fun a ha b hb => ?_⟩
    simp at hb
    subst hb
    rcases List.mem_append.1 ha with h1 | h1
    · exact ltG_trans ((List.pairwise_append.1 h.2).2.2 a h1 p (by simp)) hl
    · simp at h1
      rw [h1]
      exact hl
theorem vU_bad {L : List Us} {k : Nat} {g : Us} (hg : L[k]? = some g) (ho : okU g = false) : vU L = false := by
  cases hv : vU L with
  | false => rfl
  | true => have := (vU_iff.1 hv).2.1 g (List.mem_of_getElem? hg); rw [ho] at this; cases this
theorem vU_order {L : List Us} {k : Nat} {p g : Us} (hp : L[k]? = some p) (hg : L[k + 1]? = some g) (hl : ltG p.1 g.1 = false) : vU L = false := by
  cases hv : vU L with
  | false => rfl
  | true =>
    have h3 := (vU_iff.1 hv).2.2
    have hk := (List.getElem?_eq_some_iff.1 hp)
    have hk1 := (List.getElem?_eq_some_iff.1 hg)
    have := List.pairwise_iff_getElem.1 h3 k (k + 1) hk.1 hk1.1 (by omega)
    rw [hk.2, hk1.2, hl] at this
    cases this

/-- The place of the first user with a name, counted from 'k', or -1. -/
def ixG : List Us → ByteArray → Nat → Int
  | [], _, _ => -1
  | u :: L, n, k => if kb u.1 = kb n then (k : Int) else ixG L n (k + 1)
/-- The user with a name. -/
def fU (L : List Us) (n : ByteArray) : Option Us := L.find? fun u => kb u.1 == kb n
def noU : Us := (⟨#[]⟩, ⟨#[]⟩, 0)
/-- What UsersFind answers. -/
def usF (L : List Us) (n : ByteArray) : Us × Bool := if vU L then (match fU L n with | some u => (u, true) | none => (noU, false)) else (noU, false)
/-- What UsersProve answers. -/
def prU (L : List Us) (n p : ByteArray) : Bool := (usF L n).2 && (kb (usF L n).1.2.1 == kb p)
/-- What UsersPlain answers, if PlainParse of the text is 'n', 'p', 'o'. -/
def upU (L : List Us) (n p : ByteArray) (o : Bool) : ByteArray × Bool := if o && prU L n p then (n, true) else (⟨#[]⟩, false)

theorem fU_skip {L : List Us} {k : Nat} {u : Us} {n : ByteArray} (hx : L[k]? = some u) (hne : u.1 ≠ n) : fU (L.drop k) n = fU (L.drop (k + 1)) n := by
  obtain ⟨hk, rfl⟩ := List.getElem?_eq_some_iff.1 hx
  unfold fU
  rw [List.drop_eq_getElem_cons hk, List.find?_cons, ne_kb hne]
theorem fU_here {L : List Us} {k : Nat} {u : Us} (hx : L[k]? = some u) : fU (L.drop k) u.1 = some u := by
  obtain ⟨hk, rfl⟩ := List.getElem?_eq_some_iff.1 hx
  unfold fU
  rw [List.drop_eq_getElem_cons hk, List.find?_cons, show (kb L[k].1 == kb L[k].1) = true by simp]
/-- What findBy answers. -/
def fuF (L : List Us) (n : ByteArray) : Us × Bool := match fU L n with | some u => (u, true) | none => (noU, false)
theorem usF_fu (L : List Us) (n : ByteArray) : usF L n = if vU L then fuF L n else (noU, false) := rfl
theorem fuF_skip {L : List Us} {k : Nat} {u : Us} {n : ByteArray} (hx : L[k]? = some u) (hne : u.1 ≠ n) : fuF (L.drop k) n = fuF (L.drop (k + 1)) n := by unfold fuF; rw [fU_skip hx hne]
theorem fuF_here {L : List Us} {k : Nat} {u : Us} (hx : L[k]? = some u) : fuF (L.drop k) u.1 = (u, true) := by unfold fuF; rw [fU_here hx]
theorem ixG_skip {L : List Us} {k : Nat} {u : Us} {n : ByteArray} (hx : L[k]? = some u) (hne : u.1 ≠ n) : ixG (L.drop k) n k = ixG (L.drop (k + 1)) n (k + 1) := by
  obtain ⟨hk, rfl⟩ := List.getElem?_eq_some_iff.1 hx
  rw [List.drop_eq_getElem_cons hk, ixG, if_neg (fun e => hne (kb_inj e))]
theorem ixG_here {L : List Us} {k : Nat} {u : Us} (hx : L[k]? = some u) : ixG (L.drop k) u.1 k = (k : Int) := by
  obtain ⟨hk, rfl⟩ := List.getElem?_eq_some_iff.1 hx
  rw [List.drop_eq_getElem_cons hk, ixG, if_pos rfl]
theorem ixG_case : ∀ (L : List Us) (n : ByteArray) (k : Nat), (fU L n = none ∧ ixG L n k = -1) ∨ ∃ j u, L[j]? = some u ∧ fU L n = some u ∧ ixG L n k = ((k + j : Nat) : Int)
  | [], n, k => .inl ⟨rfl, rfl⟩
  | a :: L, n, k => by
    by_cases h : a.1 = n
    · refine .inr ⟨0, a, rfl, ?_, ?_⟩
      · unfold fU; rw [List.find?_cons, h]; simp
      · rw [ixG, if_pos (by rw [h])]; rfl
    · have e1 : fU (a :: L) n = fU L n := by unfold fU; rw [List.find?_cons, ne_kb h]
      have e2 : ixG (a :: L) n k = ixG L n (k + 1) := by rw [ixG, if_neg (fun e => h (kb_inj e))]
      rcases ixG_case L n (k + 1) with ⟨h1, h2⟩ | ⟨j, u, h1, h2, h3⟩
      · exact .inl ⟨e1.trans h1, e2.trans h2⟩
      · exact .inr ⟨j + 1, u, h1, e1.trans h2, e2.trans (h3.trans (by omega))⟩
theorem fU_some {L : List Us} {n : ByteArray} {u : Us} (h : fU L n = some u) : u ∈ L ∧ u.1 = n := by
  unfold fU at h
  refine ⟨List.mem_of_find?_eq_some h, kb_inj ?_⟩
  have := List.find?_some h
  simpa using this
theorem fU_mem {L : List Us} (ha : ascU L) {u : Us} (hu : u ∈ L) : fU L u.1 = some u := by
  induction L with
  | nil => cases hu
  | cons a L ih =>
    unfold ascU at ha
    rw [List.pairwise_cons] at ha
    unfold fU at ih ⊢
    rw [List.find?_cons]
    rcases List.mem_cons.1 hu with rfl | h
    · rw [show (kb u.1 == kb u.1) = true by simp]
    · rw [ne_kb (ltG_ne (ha.1 u h))]
      exact ih ha.2 h
theorem usF_no {L : List Us} (n : ByteArray) (h : vU L = false) : usF L n = (noU, false) := by unfold usF; rw [h]; rfl
theorem usF_yes {L : List Us} {n : ByteArray} {u : Us} (h : vU L = true) (hf : fU L n = some u) : usF L n = (u, true) := by unfold usF; rw [h, hf]; rfl
theorem usF_none {L : List Us} {n : ByteArray} (h : vU L = true) (hf : fU L n = none) : usF L n = (noU, false) := by unfold usF; rw [h, hf]; rfl
theorem usF_true {L : List Us} {n : ByteArray} {u : Us} (h : usF L n = (u, true)) : vU L = true ∧ fU L n = some u ∧ u ∈ L ∧ u.1 = n ∧ okU u = true := by
  cases hv : vU L with
  | false => rw [usF_no n hv] at h; cases h
  | true =>
    cases hf : fU L n with
    | none => rw [usF_none hv hf] at h; cases h
    | some v =>
      rw [usF_yes hv hf] at h
      cases h
      obtain ⟨h1, h2⟩ := fU_some hf
      exact ⟨rfl, rfl, h1, h2, (vU_iff.1 hv).2.1 u h1⟩
theorem usF_false {L : List Us} {n : ByteArray} {u : Us} (h : usF L n = (u, false)) : u = noU := by
  cases hv : vU L with
  | false => rw [usF_no n hv] at h; cases h; rfl
  | true =>
    cases hf : fU L n with
    | none => rw [usF_none hv hf] at h; cases h; rfl
    | some v => rw [usF_yes hv hf] at h; cases h
theorem okU_parts {u : Us} (h : okU u = true) : nameB (kb u.1) = true ∧ u.1 ≠ evB ∧ nameB (kb u.2.1) = true ∧ 0 ≤ u.2.2 ∧ u.2.2 ≤ 200 := by
  unfold okU at h
  simp at h
  exact ⟨h.1, fun e => h.2.1 (by rw [e]), h.2.2.1, h.2.2.2.1, h.2.2.2.2⟩
theorem usF_ev (L : List Us) : usF L evB = (noU, false) := by
  cases hu : usF L evB with
  | mk u z =>
    cases z with
    | false => rw [usF_false hu]
    | true =>
      obtain ⟨_, _, _, h1, h2⟩ := usF_true hu
      exact absurd h1 (okU_parts h2).2.1
theorem prU_true {L : List Us} {n p : ByteArray} (h : prU L n p = true) : ∃ q : Int, usF L n = ((n, p, q), true) ∧ nameB (kb n) = true ∧ nameB (kb p) = true := by
  unfold prU at h
  cases hu : usF L n with
  | mk u z =>
    rw [hu] at h
    simp only [Bool.and_eq_true] at h
    obtain ⟨h1, h2⟩ := h
    subst h1
    obtain ⟨_, _, _, h3, h4⟩ := usF_true hu
    obtain ⟨u1, u2, q⟩ := u
    obtain rfl : u1 = n := h3
    obtain rfl : u2 = p := kb_inj (by simpa using h2)
    have h5 := okU_parts h4
    exact ⟨q, rfl, h5.1, h5.2.2.1⟩
theorem prU_other {L : List Us} {n p p' : ByteArray} (h : prU L n p = true) (hne : p' ≠ p) : prU L n p' = false := by
  obtain ⟨q, h1, _⟩ := prU_true h
  unfold prU
  rw [h1]
  exact ne_kb (fun e => hne e.symm)
theorem prU_is {L : List Us} {n p : ByteArray} {u : Us} {z : Bool} (h : usF L n = (u, z)) : prU L n p = (z && (kb u.2.1 == kb p)) := by unfold prU; rw [h]
theorem prU_nil {L : List Us} {n p : ByteArray} (h : prU L n p = true) : prU L n ⟨#[]⟩ = false := by
  refine prU_other h ?_
  rintro rfl
  obtain ⟨_, _, _, h3⟩ := prU_true h
  exact absurd h3 (by decide)
theorem prU_more {L : List Us} {n p : ByteArray} (h : prU L n p = true) : prU L n (p ++ ⟨#[97]⟩) = false := by
  refine prU_other h ?_
  intro e
  have := congrArg ByteArray.size e
  rw [ByteArray.size_append] at this
  have h2 : (⟨#[97]⟩ : ByteArray).size = 1 := rfl
  omega
/-- A proof that was made of a name and a password tells them, or nothing if one is none. -/
theorem up_made {L : List Us} {n p v q t : ByteArray} {o : Bool} (hm : mkB n p = t) (hp : IsPP t o v q) : upU L v q o = if prU L n p then (n, true) else (⟨#[]⟩, false) := by
  cases hr : prU L n p with
  | true =>
    obtain ⟨_, _, h2, h3⟩ := prU_true hr
    have hq : IsPP t true n p := by
      rw [← hm]
      exact pp_mk (by rw [mk_yes (u := n.data.toList) (p := p.data.toList) h2 h3]; exact enc_ne (by unfold two0; simp))
    obtain ⟨h4, h5, h6⟩ := isPP_one hp hq
    subst h4 h5 h6
    unfold upU
    rw [hr]
    rfl
  | false =>
    unfold upU
    cases o with
    | false => rfl
    | true =>
      cases hv : prU L v q with
      | false => rfl
      | true =>
        exfalso
        obtain ⟨_, _, h2, h3⟩ := prU_true hv
        have h1 : mk v.data.toList q.data.toList = t.data.toList := mk_pp hp
        have hne : mk n.data.toList p.data.toList ≠ [] := by
          intro e
          have h4 : t.data.toList = [] := by rw [← hm]; unfold mkB; rw [e]; rfl
          rw [h4] at h1
          rw [mk_yes (u := v.data.toList) (p := q.data.toList) h2 h3] at h1
          exact enc_ne (by unfold two0; simp) h1
        have hq : IsPP t true n p := by
          rw [← hm]
          exact pp_mk hne
        obtain ⟨_, h5, h6⟩ := isPP_one hp hq
        subst h5 h6
        rw [hr] at hv
        cases hv
end Go.Proofs.YtichajalinkcdaaGreatDoor
namespace Go.Proofs.YtichajalinkcdaaGreatDoor
open Go.RowKit
set_option linter.unusedVariables false

def rB (l : List UInt8) : ByteArray := ⟨l.toArray⟩
theorem rB_list (l : List UInt8) : (rB l).data.toList = l := by unfold rB; simp
theorem rB_size (l : List UInt8) : (rB l).size = l.length := by unfold rB; rw [ByteArray.size]; simp
theorem rB_ext {u v : ByteArray} (h : u.data.toList = v.data.toList) : u = v := by
  cases u
  cases v
  congr
  exact Array.toList_inj.1 h
theorem rB_cat (a b : List UInt8) : rB a ++ rB b = rB (a ++ b) := by
  refine rB_ext ?_
  rw [ByteArray.data_append, Array.toList_append, rB_list, rB_list, rB_list]
theorem rB_of (s : ByteArray) : rB s.data.toList = s := rB_ext (rB_list _)
/-- Numbers, truths and texts that are told. -/
def SayI (w : World) (z : Int) (e : Ending) (w' : World) : Prop := e = .returned (.int .i64 z) ∧ Below w.heap.size w w'
def SayT (w : World) (l : List UInt8) (e : Ending) (w' : World) : Prop := e = .returned (.string (rB l)) ∧ Below w.heap.size w w'
def SayB (w : World) (z : Bool) (e : Ending) (w' : World) : Prop := e = .returned (.bool z) ∧ Below w.heap.size w w'
theorem ret_bl {a b : Bool} (h : a = b) : Ending.returned (.bool a) = .returned (.bool b) := by rw [h]
theorem ret_st {a b : ByteArray} (h : a = b) : Ending.returned (.string a) = .returned (.string b) := by rw [h]
set_option maxHeartbeats 400000 in
theorem spec_inr (n a b : Int) (w : World) : Calls Tryz.prog 80 #[.int .i64 n, .int .i64 a, .int .i64 b] w fun e w' => e = .returned (.bool (decide (a ≤ n) && decide (n ≤ b))) ∧ w' = w := by
  by_cases h1 : a ≤ n <;> by_cases h2 : n ≤ b
  all_goals
    have h1' := h1
    go_enter Tryz.func80, Tryz.ntmps80
    go_wp2
    go_ret
    refine ⟨ret_bl ?_, rfl⟩
    first
      | exact (Bool.and_eq_true_iff.2 ⟨decide_eq_true (by omega), decide_eq_true (by omega)⟩).symm
      | exact (decide_eq_false (by omega)).symm
      | exact (decide_eq_true (by omega)).symm
      | (rw [decide_eq_false (p := a ≤ n) (by omega)]; done)
      | (rw [decide_eq_false (p := a ≤ n) (by omega)]; rfl)
      | (rw [decide_eq_false (p := n ≤ b) (by omega)]; simp)
theorem says_b {w w' : World} {o p : Bool} (h : o = p) (hb : Below w.heap.size w w') : SayB w o (.returned (.bool p)) w' := ⟨by rw [h], hb⟩
theorem ret_i {a b : Int} (h : a = b) : Ending.returned (.int .i64 a) = .returned (.int .i64 b) := by rw [h]
theorem sname_at {u : ByteArray} {z : Bool} (h : nameB (kb u) = z) (hu : u.size ≤ 16777216) (w : World) : Calls Tryz.prog 82 #[.string u] w fun e w' => e = .returned (.bool z) ∧ w' = w := by
  subst h
  exact (spec_name u w hu).mono fun e w' h => ⟨h.1, h.2.symm⟩
theorem sin_at {r a b : Int} {z : Bool} (h : (decide (a ≤ r) && decide (r ≤ b)) = z) (w : World) : Calls Tryz.prog 80 #[.int .i64 r, .int .i64 a, .int .i64 b] w fun e w' => e = .returned (.bool z) ∧ w' = w := by
  subst h
  exact spec_inr r a b w
theorem iname_at {u : ByteArray} {z : Bool} (h : nameB (kb u) = z) (hu : u.size ≤ 16777216) (w : World) : Calls Tryz.prog 52 #[.string u] w (SayB w z) := by
  subst h
  exact impl_name u w hu
theorem rd_far {w w' : World} {b p : Nat} {row : Option Nat} (h : Rd w b p) (hg : w.grownBy w' row) (hne : ∀ g, row = some g → b < g) : Rd w' b p := by
  cases row with
  | none =>
    obtain ⟨A, len, cap, hW, hB⟩ := h
    have hl := hW.lt
    exact ⟨A, len, cap, hW.grown hg (by simp), hB.kept fun q hq => World.cell?_of_block (hg.block q.block (by omega) (by simp))⟩
  | some g => exact h.grown hg (hne g rfl)
theorem gr_far {w a c : World} {b : Nat} {row : Option Nat} (h : w.grownBy a (some b)) (hg : a.grownBy c row) (hrow : ∀ g, row = some g → w.heap.size ≤ g) : w.grownBy c (some b) :=
  ⟨hg.os.trans h.os, hg.tape.trans h.tape, hg.output.trans h.output, Nat.le_trans h.size hg.size, fun i hi hne => (hg.block i (Nat.lt_of_lt_of_le hi h.size) (fun e => by have := hrow i e.symm; omega)).trans (h.block i hi hne)⟩
theorem rat_far {α : Type} {R : RowT α} {w0 w w' : World} {A : Option Addr} {L : List α} {row : Option Nat} (h0 : RAt R w0 A L) (h : RAt R w A L) (hg : w.grownBy w' row) (hrow : ∀ g, row = some g → w0.heap.size ≤ g) : RAt R w' A L := fun i x hx => by
  obtain ⟨b, o, hA, hb, h1⟩ := h i x hx
  obtain ⟨b', o', hA', hb', _⟩ := h0 i x hx
  rw [hA] at hA'
  cases hA'
  exact ⟨b, o, hA, Nat.lt_of_lt_of_le hb hg.size, fun j u hu => (World.cell?_of_block (hg.block b hb (fun e => by have := hrow b e.symm; omega))).trans (h1 j u hu)⟩
theorem below_far {w0 w w' : World} {row : Option Nat} (h : Below w0.heap.size w0 w) (hg : w.grownBy w' row) (hrow : ∀ g, row = some g → w0.heap.size ≤ g) : Below w0.heap.size w0 w' := h.grown hg h.size hrow
end Go.Proofs.YtichajalinkcdaaGreatDoor
namespace Go.Proofs.YtichajalinkcdaaGreatDoor
open Go.RowKit
set_option linter.unusedVariables false

/-- The bytes 'l' as a text. -/
def bs (l : List UInt8) : ByteArray := ⟨l.toArray⟩
theorem bs_of (v : ByteArray) : bs v.data.toList = v := by cases v; simp [bs]
theorem bs_eq {v : ByteArray} {l : List UInt8} (h : v.data.toList = l) : v = bs l := by rw [← h, bs_of]
theorem bs_list (l : List UInt8) : (bs l).data.toList = l := rfl
theorem bs_size (l : List UInt8) : (bs l).size = l.length := rfl
/-- What a parser leaves. -/
def Gave (w : World) (ok : Bool) (u d : ByteArray) (e : Ending) (w' : World) : Prop :=
  e = .returned (.tuple #[.agg #[.string u, .string d], .bool ok]) ∧ Below w.heap.size w w'
theorem gave_of {w w' : World} {ok : Bool} {U D : List UInt8} {e : Ending} {u d : ByteArray} (h : Parsed w ok U D e w') (hy : ok = true → u = bs U ∧ d = bs D) (hn : ok = false → u = ⟨#[]⟩ ∧ d = ⟨#[]⟩) : Gave w ok u d e w' := by
  obtain ⟨u', d', he, h1, h2, hb⟩ := h
  refine ⟨?_, hb⟩
  rw [he]
  cases hok : ok
  · obtain ⟨e1, e2⟩ := h2 hok
    obtain ⟨e3, e4⟩ := hn hok
    rw [e1, e2, e3, e4]
  · obtain ⟨e1, e2⟩ := h1 hok
    obtain ⟨e3, e4⟩ := hy hok
    rw [e3, e4, bs_eq e1, bs_eq e2]
theorem gave_ad {L : List UInt8} {w w' : World} {e : Ending} (h : Parsed w (spB L) ((two L).getD 0 []) ((two L).getD 1 []) e w') : Gave w (spB L) (bs (pU L)) (bs (pD L)) e w' :=
  gave_of h (fun h => by unfold pU pD; rw [if_pos h, if_pos h]; exact ⟨rfl, rfl⟩) (fun h => by rw [pU_no h, pD_no h]; exact ⟨rfl, rfl⟩)
theorem sparse (s : ByteArray) (w : World) (hs : s.size ≤ 16777216) : Calls Tryz.prog 142 #[.string s] w (Gave w (spB s.data.toList) (bs (pU s.data.toList)) (bs (pD s.data.toList))) :=
  (spec_parse s w hs).mono fun _ _ h => gave_ad h
theorem pU_size (s : ByteArray) : (bs (pU s.data.toList)).size ≤ s.size := by
  have := pU_le s.data.toList
  rw [bs_size]
  simpa using this
theorem pD_size (s : ByteArray) : (bs (pD s.data.toList)).size ≤ s.size := by
  have := pD_le s.data.toList
  rw [bs_size]
  simpa using this

/-- What a writer leaves. -/
def Told (w : World) (t : ByteArray) (e : Ending) (w' : World) : Prop := e = .returned (.string t) ∧ Below w.heap.size w w'
theorem told_of {w w' : World} {L : List UInt8} {e : Ending} (h : Wrote w L e w') : Told w (bs L) e w' := by
  obtain ⟨v, h1, h2, h3⟩ := h
  exact ⟨by rw [h2, bs_eq h1], h3⟩
/-- The text of an address. -/
def adT (u d : ByteArray) : ByteArray := bs (adText u.data.toList d.data.toList)
theorem adT_le (u d : ByteArray) : (adT u d).size ≤ 29 := by
  unfold adT
  rw [bs_size]
  cases h : (nameB u.data.toList && domB d.data.toList)
  · rw [adText_no h]; simp
  · rw [adText_yes h]
    rw [Bool.and_eq_true] at h
    have h1 := (nameB_iff.1 h.1).2.2
    have h2 := dom_len h.2
    simp only [List.length_append, List.length_cons]
    omega

theorem gave_path {L : List UInt8} {w w' : World} {e : Ending} (h : Parsed w (ppA L) (pathU L) (pathD L) e w') : Gave w (spP L) (bs (qU L)) (bs (qD L)) e w' := by
  obtain ⟨h1, h2⟩ := pa_eq L
  have h3 := gave_of (u := bs (qU L)) (d := bs (qD L)) h (fun h => by rw [(h2 h).1, (h2 h).2]; exact ⟨rfl, rfl⟩) (fun h => by rw [h1] at h; obtain ⟨e1, e2⟩ := q_no h; rw [e1, e2]; exact ⟨rfl, rfl⟩)
  rw [h1] at h3
  exact h3
theorem ipath (s : ByteArray) (w : World) (hs : s.size ≤ 16777216) : Calls Tryz.prog 125 #[.string s] w (Gave w (spP s.data.toList) (bs (qU s.data.toList)) (bs (qD s.data.toList))) :=
  (impl_path s w hs).mono fun _ _ h => gave_path h
theorem qU_size (s : ByteArray) : (bs (qU s.data.toList)).size ≤ s.size := by
  have := (q_le s.data.toList).1
  rw [bs_size]
  simpa using this
theorem qD_size (s : ByteArray) : (bs (qD s.data.toList)).size ≤ s.size := by
  have := (q_le s.data.toList).2
  rw [bs_size]
  simpa using this

/-- A text and what its reading tells. -/
def Is (s : ByteArray) (o : Bool) (u d : ByteArray) : Prop := spB s.data.toList = o ∧ bs (pU s.data.toList) = u ∧ bs (pD s.data.toList) = d
theorem read_any (s : ByteArray) : ∃ o u d, Is s o u d ∧ u.size ≤ s.size ∧ d.size ≤ s.size := ⟨_, _, _, ⟨rfl, rfl, rfl⟩, pU_size s, pD_size s⟩
theorem sparse_at {s u d : ByteArray} {o : Bool} (h : Is s o u d) (w : World) (hs : s.size ≤ 16777216) : Calls Tryz.prog 142 #[.string s] w (Gave w o u d) := by
  obtain ⟨rfl, rfl, rfl⟩ := h
  exact sparse s w hs
/-- A path and what its reading tells. -/
def IsP (s : ByteArray) (o : Bool) (u d : ByteArray) : Prop := spP s.data.toList = o ∧ bs (qU s.data.toList) = u ∧ bs (qD s.data.toList) = d
theorem readP_any (s : ByteArray) : ∃ o u d, IsP s o u d ∧ u.size ≤ s.size ∧ d.size ≤ s.size := ⟨_, _, _, ⟨rfl, rfl, rfl⟩, qU_size s, qD_size s⟩
theorem ipath_at {s u d : ByteArray} {o : Bool} (h : IsP s o u d) (w : World) (hs : s.size ≤ 16777216) : Calls Tryz.prog 125 #[.string s] w (Gave w o u d) := by
  obtain ⟨rfl, rfl, rfl⟩ := h
  exact ipath s w hs

/-- A struct put into a block of its own. -/
def boxed (w : World) (u d : ByteArray) : World := w.alloc (.cells #[.string u, .string d] 112)
theorem boxed_size (w : World) (u d : ByteArray) : (boxed w u d).heap.size = w.heap.size + 1 := by unfold boxed; simp
theorem boxed_whole (w : World) (u d : ByteArray) : Whole (boxed w u d) w.heap.size 112 #[.string u, .string d] := Whole.made w _ _
theorem boxed_keeps {w : World} {b : Nat} {t : TypeId} {cs : Array Value} (h : Whole w b t cs) (u d : ByteArray) : Whole (boxed w u d) b t cs := h.alloc _
theorem boxed_below {B : Nat} {a w : World} (h : Below B a w) (hB : B ≤ w.heap.size) (u d : ByteArray) : Below B a (boxed w u d) := h.alloc hB _
end Go.Proofs.YtichajalinkcdaaGreatDoor
namespace Go.Proofs.YtichajalinkcdaaGreatDoor
open Go.RowKit
set_option linter.unusedVariables false

theorem gave_mk {w w' : World} {ok ok' : Bool} {u u' d d' : ByteArray} (h1 : ok = ok') (h2 : u = u') (h3 : d = d') (hb : Below w.heap.size w w') : Gave w ok u d (.returned (.tuple #[.agg #[.string u', .string d'], .bool ok'])) w' := by
  subst h1
  subst h2
  subst h3
  exact ⟨rfl, hb⟩
theorem q_bare {L : List UInt8} (h : L = bare) : spP L = true ∧ bs (qU L) = ⟨#[]⟩ ∧ bs (qD L) = ⟨#[]⟩ := by
  unfold spP qU qD
  rw [decide_eq_true h, if_pos h, if_pos h]
  exact ⟨rfl, rfl, rfl⟩
theorem q_off {L : List UInt8} (h : ¬ L = bare) (hr : brB L = false) : spP L = false ∧ bs (qU L) = ⟨#[]⟩ ∧ bs (qD L) = ⟨#[]⟩ := by
  have hs : spP L = false := by unfold spP; rw [decide_eq_false h, hr]; rfl
  obtain ⟨e1, e2⟩ := q_no hs
  rw [e1, e2]
  exact ⟨hs, rfl, rfl⟩
theorem q_in {L : List UInt8} (h : ¬ L = bare) (hr : brB L = true) : spP L = spB (mid L) ∧ qU L = pU (mid L) ∧ qD L = pD (mid L) := by
  unfold spP qU qD
  rw [decide_eq_false h, hr, if_neg h, if_neg h, if_pos rfl, if_pos rfl]
  exact ⟨rfl, rfl, rfl⟩
theorem next_at {s : ByteArray} {k : Nat} (hk : k < s.size) (c : UInt8) : nextIs s.data.toList k c = (s[k] == c) := by
  unfold nextIs
  have hl : k < s.data.toList.length := by simpa using hk
  rw [List.getElem?_eq_getElem hl]
  rfl
theorem br_at {s : ByteArray} {m : Nat} (hm : s.size = m + 1) (h0 : 0 < s.size) (h1 : m < s.size) (h2 : 1 ≤ m) : brB s.data.toList = (s[0] == (60 : UInt8) && s[m] == (62 : UInt8)) := by
  have hl : s.data.toList.length = s.size := by simp
  unfold brB
  rw [next_at h0, hl, hm, Nat.add_sub_cancel, next_at h1, decide_eq_true (by omega)]
  rfl
theorem mid_at {s : ByteArray} {m : Nat} (hm : s.size = m + 1) : (s.extract 1 m).data.toList = mid s.data.toList := by
  have hl : s.data.toList.length = s.size := by simp
  rw [extract_list]
  unfold mid
  rw [hl, hm]
  rfl

set_option maxHeartbeats 2000000 in
theorem spath (s : ByteArray) (w : World) (hs : s.size ≤ 16777216) :
    Calls Tryz.prog 130 #[.string s] w (Gave w (spP s.data.toList) (bs (qU s.data.toList)) (bs (qD s.data.toList))) := by
  by_cases hb : s.data.toList = bare
  · have hq : (s.toList == [60, 62]) = true := by rw [ByteArray.toList_eq, hb]; rfl
    have HB := Lib.hid (q_bare hb)
    clear hb
    go_enter Tryz.func130, Tryz.ntmps130
    go_wp2
    refine bodyPost_ret (v := .tuple #[.agg #[.string ⟨#[]⟩, .string ⟨#[]⟩], .bool true]) (by simp [results, Tryz.results130, go_sem]) rfl ?_
    exact gave_mk HB.out.1 HB.out.2.1 HB.out.2.2 ((Below.refl _ _).alloc (Nat.le_refl _) _)
  · have hq : (s.toList == [60, 62]) = false := by
      rw [ByteArray.toList_eq]
      exact beq_eq_false_iff_ne.2 hb
    have HB := Lib.hid hb
    clear hb
    by_cases h2 : s.size < 2
    · have h2' : (s.size : Int) < 2 := by omega
      have hr : brB s.data.toList = false := by
        unfold brB
        rw [decide_eq_false (by simp; omega)]
        rfl
      have HR := Lib.hid (q_off HB.out hr)
      clear hr
      go_enter Tryz.func130, Tryz.ntmps130
      go_wp2
      refine bodyPost_ret (v := .tuple #[.agg #[.string ⟨#[]⟩, .string ⟨#[]⟩], .bool false]) (by simp [results, Tryz.results130, go_sem]) rfl ?_
      exact gave_mk HR.out.1 HR.out.2.1 HR.out.2.2 ((Below.refl _ _).alloc (Nat.le_refl _) _)
    · have h2' : decide ((s.size : Int) < 2) = false := decide_eq_false (by omega)
      have hp : (0 : Int) < (s.size : Int) := by omega
      have h0 : 0 < s.size := by omega
      obtain ⟨m, hm⟩ : ∃ m, s.size = m + 1 := ⟨s.size - 1, by omega⟩
      have h1 : m < s.size := by omega
      have hbr := br_at hm h0 h1 (by omega)
      have E1 : (s.size : Int) - 1 = (m : Int) := by omega
      have hm0 : (0 : Int) ≤ (m : Int) := by omega
      have hm1 : (m : Int) < (s.size : Int) := by omega
      have hm2 : (1 : Int) ≤ (m : Int) := by omega
      have hm3 : (m : Int) ≤ (s.size : Int) := by omega
      have HM := Lib.hid hm
      have HBR := Lib.hid hbr
      clear hm hbr
      by_cases hc : s[0] = 60
      · have hcb : ((s[0].toNat : Int) != 60) = false := by rw [hc]; rfl
        have HC := Lib.hid hc
        clear hc
        by_cases hd : s[m] = 62
        · have hdb : ((s[m].toNat : Int) != 62) = false := by rw [hd]; rfl
          have HD := Lib.hid hd
          clear hd
          go_enter Tryz.func130, Tryz.ntmps130
          obtain ⟨o, u, d, hi, hu, hdl⟩ := read_any (s.extract 1 m)
          have hq3 := q_in HB.out (by rw [HBR.out, HC.out, HD.out]; rfl)
          have HI := Lib.hid hi
          have HQ := Lib.hid hq3
          have hes : (s.extract 1 m).size ≤ 16777216 := by rw [ByteArray.size_extract]; omega
          have HS := Lib.hid hes
          clear hi hq3 hu hdl hes
          go_wp2_with fail
          refine (sparse_at HI.out _ HS.out).mono ?_
          rintro e w1 ⟨rfl, hb⟩
          have ez : (w.alloc (.cells #[.string ⟨#[]⟩, .string ⟨#[]⟩] 112)).heap.size = w.heap.size + 1 := by simp
          rw [ez] at hb
          have hR := (Whole.made w 112 #[.string ⟨#[]⟩, .string ⟨#[]⟩]).below hb (by omega)
          have hr0 : w1.cell? ⟨w.heap.size, 0, none⟩ = some (.string ⟨#[]⟩) := hR.cell 0
          have hr1 : w1.cell? ⟨w.heap.size, 1, none⟩ = some (.string ⟨#[]⟩) := hR.cell 1
          have hf0 := hR.free 0
          have hf1 := hR.free 1
          have hz1 := hR.lt
          have HB1 := Lib.hid (((Below.refl w.heap.size w).alloc (Nat.le_refl _) (.cells #[.string ⟨#[]⟩, .string ⟨#[]⟩] 112)).trans (hb.mono (Nat.le_succ _)))
          clear hb hR ez
          go_wp2
          refine bodyPost_ret (v := .tuple #[.agg #[.string u, .string d], .bool o]) (by simp [results, Tryz.results130, go_sem, hr0, hr1]) rfl ?_
          obtain ⟨i1, i2, i3⟩ := HI.out
          rw [mid_at HM.out] at i1 i2 i3
          refine gave_mk (HQ.out.1.trans i1) (by rw [HQ.out.2.1]; exact i2) (by rw [HQ.out.2.2]; exact i3) ?_
          exact (HB1.out.setCell (p := ⟨w.heap.size, 0, none⟩) (Nat.le_refl _) _).setCell (p := ⟨w.heap.size, 1, none⟩) (Nat.le_refl _) _
        · have hdb : ((s[m].toNat : Int) != 62) = true := by
            have : s[m].toNat ≠ (62 : UInt8).toNat := fun e => hd (UInt8.toNat_inj.1 e)
            have e2 : (62 : UInt8).toNat = 62 := rfl
            simp; omega
          have HR := Lib.hid (q_off HB.out (by rw [HBR.out, HC.out, beq_eq_false_iff_ne.2 hd]; rfl))
          clear hd
          go_enter Tryz.func130, Tryz.ntmps130
          go_wp2
          refine bodyPost_ret (v := .tuple #[.agg #[.string ⟨#[]⟩, .string ⟨#[]⟩], .bool false]) (by simp [results, Tryz.results130, go_sem]) rfl ?_
          exact gave_mk HR.out.1 HR.out.2.1 HR.out.2.2 ((Below.refl _ _).alloc (Nat.le_refl _) _)
      · have hcb : ((s[0].toNat : Int) != 60) = true := by
          have : s[0].toNat ≠ (60 : UInt8).toNat := fun e => hc (UInt8.toNat_inj.1 e)
          have e2 : (60 : UInt8).toNat = 60 := rfl
          simp; omega
        have HR := Lib.hid (q_off HB.out (by rw [HBR.out, beq_eq_false_iff_ne.2 hc]; rfl))
        clear hc
        go_enter Tryz.func130, Tryz.ntmps130
        go_wp2
        refine bodyPost_ret (v := .tuple #[.agg #[.string ⟨#[]⟩, .string ⟨#[]⟩], .bool false]) (by simp [results, Tryz.results130, go_sem]) rfl ?_
        exact gave_mk HR.out.1 HR.out.2.1 HR.out.2.2 ((Below.refl _ _).alloc (Nat.le_refl _) _)
theorem spath_at {s u d : ByteArray} {o : Bool} (h : IsP s o u d) (w : World) (hs : s.size ≤ 16777216) : Calls Tryz.prog 130 #[.string s] w (Gave w o u d) := by
  obtain ⟨rfl, rfl, rfl⟩ := h
  exact spath s w hs
end Go.Proofs.YtichajalinkcdaaGreatDoor
namespace Go.Proofs.YtichajalinkcdaaGreatDoor
set_option linter.unusedVariables false

/-- A submission: its stage, its user, its receivers, its text. -/
structure Sb where
  st : Int
  us : ByteArray
  to : List ByteArray
  tx : ByteArray
def eB : ByteArray := ⟨#[]⟩
instance (x : ByteArray) (L : List ByteArray) : Decidable (x ∈ L) := @List.instDecidableMemOfLawfulBEq ByteArray instBEqOfDecidableEq inferInstance x L
/-- Different names. -/
def namesB (T : List ByteArray) : Bool := T.all (fun x => nameB (kb x)) && decide T.Nodup
/-- At most three different names. -/
def n21 (T : List ByteArray) : Bool := namesB T && decide (T.length ≤ 3)
/-- One to three different names. -/
def recB (T : List ByteArray) : Bool := n21 T && decide (1 ≤ T.length)
/-- A valid letter. -/
def letB (f : ByteArray) (T : List ByteArray) (x : ByteArray) : Bool := nameB (kb f) && (recB T && decide (x.size ≤ 20))
/-- A valid submission. -/
def sbV (s : Sb) : Bool :=
  if s.st = 0 ∨ s.st = 1 ∨ s.st = 6 then decide (s.us = eB) && (decide (s.to = []) && decide (s.tx = eB))
  else if s.st = 2 ∨ s.st = 3 then nameB (kb s.us) && (decide (s.to = []) && decide (s.tx = eB))
  else if s.st = 4 then nameB (kb s.us) && (recB s.to && decide (s.tx = eB))
  else if s.st = 5 then nameB (kb s.us) && (recB s.to && decide (s.tx.size ≤ 21))
  else false
theorem namesB_iff {T : List ByteArray} : namesB T = true ↔ (∀ x ∈ T, nameB (kb x) = true) ∧ T.Nodup := by
  unfold namesB
  simp [List.all_eq_true]
theorem namesB_nil : namesB [] = true := namesB_iff.2 ⟨fun x h => (by cases h), List.nodup_nil⟩
theorem namesB_next {T : List ByteArray} {k : Nat} {x : ByteArray} (h : namesB (T.take k) = true) (hx : T[k]? = some x) (hn : nameB (kb x) = true) (hm : decide (x ∈ T.take k) = false) : namesB (T.take (k + 1)) = true := by
  rw [tsnoc hx]
  obtain ⟨h1, h2⟩ := namesB_iff.1 h
  have hm' := of_decide_eq_false hm
  refine namesB_iff.2 ⟨fun y hy => ?_, ?_⟩
  · rcases List.mem_append.1 hy with h3 | h3
    · exact h1 y h3
    · simp at h3; rw [h3]; exact hn
  · rw [List.nodup_append]
    refine ⟨h2, by simp, fun a ha b hb => ?_⟩
    simp at hb
    subst hb
    rintro rfl
    exact hm' ha
theorem namesB_bad {T : List ByteArray} {k : Nat} {x : ByteArray} (hx : T[k]? = some x) (hn : nameB (kb x) = false) : namesB T = false := by
  cases h : namesB T with
  | false => rfl
  | true => have := (namesB_iff.1 h).1 x (List.mem_of_getElem? hx); rw [hn] at this; cases this
theorem namesB_twice {T : List ByteArray} {k : Nat} {x : ByteArray} (hx : T[k]? = some x) (hm : decide (x ∈ T.take k) = true) : namesB T = false := by
  cases h : namesB T with
  | false => rfl
  | true =>
    exfalso
    have h2 := (namesB_iff.1 h).2
    obtain ⟨hk, rfl⟩ := List.getElem?_eq_some_iff.1 hx
    have h3 : T = T.take k ++ T[k] :: T.drop (k + 1) := by
      conv => lhs; rw [← List.take_append_drop k T, List.drop_eq_getElem_cons hk]
    rw [h3, List.nodup_append] at h2
    exact h2.2.2 _ (of_decide_eq_true hm) _ (List.mem_cons_self) rfl
theorem n21_bad {T : List ByteArray} (h : namesB T = false) : n21 T = false := by unfold n21; rw [h]; rfl
theorem recB_bad {T : List ByteArray} (h : namesB T = false) : recB T = false := by unfold recB; rw [n21_bad h]; rfl
theorem recB_all {T : List ByteArray} {k : Nat} (h : namesB (T.take k) = true) (hk : T.length ≤ k) (h1 : 1 ≤ T.length) (h3 : T.length ≤ 3) : recB T = true := by
  rw [List.take_of_length_le hk] at h
  unfold recB n21
  rw [h, decide_eq_true h1, decide_eq_true h3]
  rfl
theorem n21_all {T : List ByteArray} {k : Nat} (h : namesB (T.take k) = true) (hk : T.length ≤ k) : n21 T = decide (T.length ≤ 3) := by
  rw [List.take_of_length_le hk] at h
  unfold n21
  rw [h]
  rfl
theorem recB_long {T : List ByteArray} (h : ¬ (1 ≤ T.length ∧ T.length ≤ 3)) : recB T = false := by
  unfold recB n21
  by_cases h1 : 1 ≤ T.length
  · rw [decide_eq_false (show ¬ T.length ≤ 3 by omega)]; simp
  · rw [decide_eq_false h1]; simp
theorem recB_parts {T : List ByteArray} (h : recB T = true) : namesB T = true ∧ 1 ≤ T.length ∧ T.length ≤ 3 := by
  unfold recB n21 at h
  simp at h
  exact ⟨h.1.1, h.2, h.1.2⟩
theorem n21_nil : n21 [] = true := rfl

/-- Going back. -/
def backF (s : Sb) : Sb := if 2 ≤ s.st then ⟨2, s.us, [], eB⟩ else ⟨s.st, eB, [], eB⟩
/-- The text after a line. -/
def addF (t l : ByteArray) : ByteArray := (t ++ (if l.data.toList.head? = some 46 then l.extract 1 l.size else l) ++ ⟨#[10]⟩).extract 0 21
def dataF (s : Sb) (l : ByteArray) : Sb × Int :=
  if l = ⟨#[46]⟩ then (backF s, if s.tx.size ≤ 20 then 250 else 552) else (⟨s.st, s.us, s.to, addF s.tx l⟩, 0)
/-- The words of a line. -/
def wdsF (l : ByteArray) : List ByteArray := (cut 32 (kb l)).map rB
theorem wdsF_len (l : ByteArray) : 1 ≤ (wdsF l).length ∧ (wdsF l).length ≤ l.size + 1 := by
  have := cut_len 32 (kb l)
  unfold wdsF
  rw [List.length_map]
  have e : (kb l).length = l.size := by unfold kb; simp
  omega
def helloF (s : Sb) (W : List ByteArray) : Sb × Int :=
  if W.length = 2 ∧ domB (kb (W.getD 1 eB)) = true then (backF ⟨if s.st = 0 then 1 else s.st, s.us, s.to, s.tx⟩, 250) else (s, 501)
/-- What UsersPlain tells of a text. -/
def IsUp (L : List Us) (t : ByteArray) (u : ByteArray) (o : Bool) : Prop := ∃ ok n p, IsPP t ok n p ∧ upU L n p ok = (u, o)
theorem isUp_any (L : List Us) (t : ByteArray) : ∃ u o, IsUp L t u o := by
  obtain ⟨ok, n, p, h⟩ := isPP_any t
  exact ⟨_, _, ok, n, p, h, rfl⟩
theorem isUp_one {L : List Us} {t u v : ByteArray} {o z : Bool} (h : IsUp L t u o) (k : IsUp L t v z) : u = v ∧ o = z := by
  obtain ⟨a, b, c, h1, h2⟩ := h
  obtain ⟨a', b', c', h3, h4⟩ := k
  obtain ⟨e1, e2, e3⟩ := isPP_one h1 h3
  subst e1 e2 e3
  rw [h2] at h4
  cases h4
  exact ⟨rfl, rfl⟩
def wEHLO : ByteArray := ⟨#[69, 72, 76, 79]⟩
def wAUTH : ByteArray := ⟨#[65, 85, 84, 72]⟩
def wMAIL : ByteArray := ⟨#[77, 65, 73, 76]⟩
def wRCPT : ByteArray := ⟨#[82, 67, 80, 84]⟩
def wDATA : ByteArray := ⟨#[68, 65, 84, 65]⟩
def wRSET : ByteArray := ⟨#[82, 83, 69, 84]⟩
def wNOOP : ByteArray := ⟨#[78, 79, 79, 80]⟩
def wQUIT : ByteArray := ⟨#[81, 85, 73, 84]⟩
def wPLAIN : ByteArray := ⟨#[80, 76, 65, 73, 78]⟩
/-- "MAIL FROM:" and "RCPT TO:". -/
def bMAIL : ByteArray := ⟨#[77, 65, 73, 76, 32, 70, 82, 79, 77, 58]⟩
def bRCPT : ByteArray := ⟨#[82, 67, 80, 84, 32, 84, 79, 58]⟩
def authF (s : Sb) (W : List ByteArray) (u : ByteArray) (o : Bool) : Sb × Int :=
  if s.st ≠ 1 then (s, 503) else if W.length = 3 ∧ W.getD 1 eB = wPLAIN then (if o = true then (⟨2, u, [], eB⟩, 235) else (s, 535)) else (s, 501)
/-- What follows a beginning. -/
def tlB (b l : ByteArray) : List UInt8 := (kb l).drop (kb b).length
def preB (b l : ByteArray) : Bool := decide ((kb l).take (kb b).length = kb b)
/-- Is there an address behind a beginning; its user and its domain. -/
def ptO (b l : ByteArray) : Bool := preB b l && (spP (tlB b l) && decide (qU (tlB b l) ≠ []))
def ptU (b l : ByteArray) : ByteArray := if preB b l = true then bs (qU (tlB b l)) else eB
def ptD (b l : ByteArray) : ByteArray := if preB b l = true then bs (qD (tlB b l)) else eB
def mailF (s : Sb) (d l : ByteArray) : Sb × Int :=
  if s.st < 2 then (s, 530) else if s.st ≠ 2 then (s, 503) else if ptO bMAIL l = false then (s, 501)
  else if ptU bMAIL l = s.us ∧ ptD bMAIL l = d then (⟨3, s.us, s.to, s.tx⟩, 250) else (s, 550)
def rcptF (s : Sb) (L : List Us) (d l : ByteArray) : Sb × Int :=
  if s.st ≠ 3 ∧ s.st ≠ 4 then (s, 503) else if ptO bRCPT l = false then (s, 501)
  else if ptD bRCPT l = d ∧ (fU L (ptU bRCPT l)).isSome = true then
    (if ptU bRCPT l ∈ s.to then (s, 250) else if 3 ≤ s.to.length then (s, 452) else (⟨4, s.us, s.to ++ [ptU bRCPT l], eB⟩, 250))
  else (s, 550)
def quitS : Sb := ⟨6, eB, [], eB⟩
def cmdF (s : Sb) (l : ByteArray) : Sb × Int :=
  if l = wDATA then (if s.st = 4 then (⟨5, s.us, s.to, s.tx⟩, 354) else (s, 503)) else if l = wRSET then (backF s, 250) else if l = wNOOP then (s, 250) else if l = wQUIT then (quitS, 221) else (s, 500)
/-- What a line does, and the reply; 'u', 'o': what UsersPlain tells of the third word. -/
def lineF (s : Sb) (L : List Us) (d l u : ByteArray) (o : Bool) : Sb × Int :=
  if s.st = 6 then (s, 503) else if s.st = 5 then dataF s l
  else if (wdsF l).getD 0 eB = wEHLO then helloF s (wdsF l) else if (wdsF l).getD 0 eB = wAUTH then authF s (wdsF l) u o
  else if (wdsF l).getD 0 eB = wMAIL then mailF s d l else if (wdsF l).getD 0 eB = wRCPT then rcptF s L d l else cmdF s l

theorem sbV_low {s : Sb} (h : s.st = 0 ∨ s.st = 1 ∨ s.st = 6) : sbV s = (decide (s.us = eB) && (decide (s.to = []) && decide (s.tx = eB))) := by unfold sbV; rw [if_pos h]
theorem sbV_mid {s : Sb} (h : s.st = 2 ∨ s.st = 3) : sbV s = (nameB (kb s.us) && (decide (s.to = []) && decide (s.tx = eB))) := by unfold sbV; rw [if_neg (by omega), if_pos h]
theorem sbV_to {s : Sb} (h : s.st = 4) : sbV s = (nameB (kb s.us) && (recB s.to && decide (s.tx = eB))) := by unfold sbV; rw [if_neg (by omega), if_neg (by omega), if_pos h]
theorem sbV_data {s : Sb} (h : s.st = 5) : sbV s = (nameB (kb s.us) && (recB s.to && decide (s.tx.size ≤ 21))) := by unfold sbV; rw [if_neg (by omega), if_neg (by omega), if_neg (by omega), if_pos h]
theorem sbV_off {s : Sb} (h : s.st < 0 ∨ 6 < s.st) : sbV s = false := by unfold sbV; rw [if_neg (by omega), if_neg (by omega), if_neg (by omega), if_neg (by omega)]
theorem sbV_range {s : Sb} (h : sbV s = true) : 0 ≤ s.st ∧ s.st ≤ 6 := by
  by_cases h1 : s.st < 0 ∨ 6 < s.st
  · rw [sbV_off h1] at h; cases h
  · omega
theorem eB_size : eB.size = 0 := rfl
theorem nm_size {n : ByteArray} (h : nameB (kb n) = true) : 1 ≤ n.size ∧ n.size ≤ 8 := by
  have h1 := nameB_iff.1 h
  have e : (kb n).length = n.size := by unfold kb; simp
  omega
/-- What a valid submission has. -/
theorem sbV_has {s : Sb} (h : sbV s = true) : s.us.size ≤ 8 ∧ s.to.length ≤ 3 ∧ (∀ x ∈ s.to, x.size ≤ 8) ∧ s.tx.size ≤ 21 ∧ (s.st ≠ 5 → s.tx = eB) ∧ (s.st ≠ 4 → s.st ≠ 5 → s.to = []) ∧ (s.st < 2 → s.us = eB) ∧ ((2 ≤ s.st ∧ s.st ≤ 5) → nameB (kb s.us) = true) ∧ (s.st = 6 → s.us = eB) := by
  obtain ⟨h0, h6⟩ := sbV_range h
  have hnil : ∀ T : List ByteArray, T = [] → T.length ≤ 3 ∧ ∀ x ∈ T, x.size ≤ 8 := fun T e => by subst e; exact ⟨by simp, fun x hx => by cases hx⟩
  have hrec : ∀ T : List ByteArray, recB T = true → T.length ≤ 3 ∧ ∀ x ∈ T, x.size ≤ 8 := fun T e => by
    obtain ⟨h1, h2, h3⟩ := recB_parts e
    exact ⟨h3, fun x hx => (nm_size ((namesB_iff.1 h1).1 x hx)).2⟩
  obtain ⟨st, us, to, tx⟩ := s
  simp only at *
  rcases (show (st = 0 ∨ st = 1 ∨ st = 6) ∨ (st = 2 ∨ st = 3) ∨ st = 4 ∨ st = 5 by omega) with h1 | h1 | h1 | h1
  · rw [sbV_low (by exact h1)] at h
    simp at h
    obtain ⟨rfl, rfl, rfl⟩ := h
    exact ⟨by rw [eB_size]; omega, (hnil _ rfl).1, (hnil _ rfl).2, by rw [eB_size]; omega, fun _ => rfl, fun _ _ => rfl, fun _ => rfl, fun h => by omega, fun _ => rfl⟩
  · rw [sbV_mid (by exact h1)] at h
    simp at h
    obtain ⟨hn, rfl, rfl⟩ := h
    exact ⟨(nm_size hn).2, (hnil _ rfl).1, (hnil _ rfl).2, by rw [eB_size]; omega, fun _ => rfl, fun _ _ => rfl, fun h => by omega, fun _ => hn, fun h => by omega⟩
  · rw [sbV_to (by exact h1)] at h
    simp at h
    obtain ⟨hn, hr, rfl⟩ := h
    exact ⟨(nm_size hn).2, (hrec _ hr).1, (hrec _ hr).2, by rw [eB_size]; omega, fun _ => rfl, fun h => absurd h1 h, fun h => by omega, fun _ => hn, fun h => by omega⟩
  · rw [sbV_data (by exact h1)] at h
    simp at h
    obtain ⟨hn, hr, ht⟩ := h
    exact ⟨(nm_size hn).2, (hrec _ hr).1, (hrec _ hr).2, ht, fun h => absurd h1 h, fun _ h => absurd h1 h, fun h => by omega, fun _ => hn, fun h => by omega⟩
theorem backF_valid {s : Sb} (h : sbV s = true) (h6 : s.st ≠ 6) : sbV (backF s) = true := by
  obtain ⟨h1, h2⟩ := sbV_range h
  obtain ⟨_, _, _, _, _, _, _, hn, _⟩ := sbV_has h
  unfold backF
  by_cases h3 : 2 ≤ s.st
  · rw [if_pos h3, sbV_mid (.inl rfl)]
    simp [hn ⟨h3, by omega⟩]
  · rw [if_neg h3, sbV_low (by simp only; omega)]
    simp
theorem addF_size (t l : ByteArray) : (addF t l).size ≤ 21 := by unfold addF; rw [ByteArray.size_extract]; omega
theorem pt_name {b l : ByteArray} (h : ptO b l = true) : nameB (kb (ptU b l)) = true ∧ domB (kb (ptD b l)) = true := by
  unfold ptO at h
  simp only [Bool.and_eq_true, decide_eq_true_eq] at h
  obtain ⟨h1, h2, h3⟩ := h
  unfold ptU ptD
  rw [if_pos h1, if_pos h1]
  unfold kb
  rw [bs_list, bs_list]
  unfold spP at h2
  unfold qU at h3 ⊢
  unfold qD
  by_cases hb : tlB b l = bare
  · rw [if_pos hb] at h3; exact absurd rfl h3
  · rw [decide_eq_false hb, Bool.false_or, Bool.and_eq_true] at h2
    rw [if_neg hb, if_neg hb, if_pos h2.1, if_pos h2.1]
    obtain ⟨u, d, e1, e2, e3, e4⟩ := sp_parts h2.2
    unfold pU pD
    rw [if_pos h2.2, if_pos h2.2, e1]
    exact ⟨e3, e4⟩
theorem isUp_name {L : List Us} {t u : ByteArray} (h : IsUp L t u true) : nameB (kb u) = true := by
  obtain ⟨ok, n, p, h1, h2⟩ := h
  unfold upU at h2
  split at h2
  · rename_i h3
    cases h2
    simp at h3
    obtain ⟨_, _, h4, _⟩ := prU_true h3.2
    exact h4
  · cases h2
/-- A line leaves a valid submission. -/
theorem lineF_valid {s : Sb} {L : List Us} {d l u : ByteArray} {o : Bool} (h : sbV s = true) (hu : o = true → nameB (kb u) = true) : sbV (lineF s L d l u o).1 = true := by
  obtain ⟨h0, h6⟩ := sbV_range h
  obtain ⟨k1, k2, k3, k4, k5, k6, k7, k8, k9⟩ := sbV_has h
  unfold lineF
  split
  · exact h
  rename_i n6
  split
  · rename_i n5
    unfold dataF
    split
    · exact backF_valid h n6
    · rw [sbV_data n5] at h
      simp at h
      rw [sbV_data (by exact n5)]
      simp [h.1, h.2.1, addF_size]
  rename_i n5
  have e5 := k5 n5
  split
  · unfold helloF
    split
    · unfold backF
      have hs : (if s.st = 0 then (1 : Int) else s.st) ≠ 6 := by split <;> omega
      by_cases h2 : 2 ≤ s.st
      · rw [if_neg (show ¬ s.st = 0 by omega), if_pos h2, sbV_mid (.inl rfl)]
        simp [k8 ⟨h2, by omega⟩]
      · have h3 : (if s.st = 0 then (1 : Int) else s.st) = 1 := by split <;> omega
        rw [h3, if_neg (show ¬ (2 : Int) ≤ 1 by omega), sbV_low (.inr (.inl rfl))]
        simp
    · exact h
  split
  · unfold authF
    split
    · exact h
    split
    · split
      · rename_i ho
        rw [sbV_mid (.inl rfl)]
        simp [hu ho]
      · exact h
    · exact h
  split
  · unfold mailF
    split
    · exact h
    split
    · exact h
    rename_i n2
    split
    · exact h
    split
    · have hst : s.st = 2 := by omega
      rw [sbV_mid (.inl hst)] at h
      rw [sbV_mid (.inr rfl)]
      exact h
    · exact h
  split
  · unfold rcptF
    split
    · exact h
    rename_i n3
    split
    · exact h
    rename_i npt
    have hpt : ptO bRCPT l = true := by simpa using npt
    split
    · split
      · exact h
      rename_i nin
      split
      · exact h
      rename_i nl
      have hn := k8 (by omega)
      rw [sbV_to rfl]
      simp only [hn, Bool.true_and, decide_true, Bool.and_true]
      have hT : namesB s.to = true := by
        rcases (show s.st = 3 ∨ s.st = 4 by omega) with h4 | h4
        · rw [k6 (by omega) (by omega)]; exact namesB_nil
        · rw [sbV_to h4] at h
          simp at h
          exact (recB_parts h.2.1).1
      obtain ⟨q1, q2⟩ := namesB_iff.1 hT
      have h5 : namesB (s.to ++ [ptU bRCPT l]) = true := by
        refine namesB_iff.2 ⟨fun x hx => ?_, ?_⟩
        · rcases List.mem_append.1 hx with h6 | h6
          · exact q1 x h6
          · simp at h6; rw [h6]; exact (pt_name hpt).1
        · rw [List.nodup_append]
          refine ⟨q2, by simp, fun a ha b hb => ?_⟩
          simp at hb
          subst hb
          rintro rfl
          exact nin ha
      refine (by unfold recB n21; rw [h5]; simp; omega)
    · exact h
  unfold cmdF
  split
  · split
    · rename_i h4
      rw [sbV_to h4] at h
      simp at h
      rw [sbV_data rfl]
      simp [h.1, h.2.1, h.2.2, eB_size]
    · exact h
  split
  · exact backF_valid h n6
  split
  · exact h
  split
  · rfl
  · exact h
end Go.Proofs.YtichajalinkcdaaGreatDoor
namespace Go.Proofs.YtichajalinkcdaaGreatDoor
open Go.RowKit
set_option linter.unusedVariables false

def stR : RowT ByteArray where
  t := 9
  sz := 1
  enc := fun g => [.string g]
  len := fun _ => rfl
  one := fun x u hu => by
    simp at hu
    subst hu
    rfl
theorem str_at {w : World} {A : Option Addr} {L : List ByteArray} {k : Nat} {x : ByteArray} (h : RAt stR w A L) (hx : L[k]? = some x) :
    ∃ b o, A = some ⟨b, o, none⟩ ∧ b < w.heap.size ∧ w.cell? ⟨b, o + k, none⟩ = some (.string x) := by
  obtain ⟨b, o, hA, hb, h1⟩ := h k _ hx
  have := h1 0 _ rfl
  simp only [stR, Nat.mul_one, Nat.add_zero] at this
  exact ⟨b, o, hA, hb, this⟩
/-- A slice of texts that came in. -/
def SIn (w : World) (A : Option Addr) (N cap : Nat) (L : List ByteArray) : Prop := L.length = N ∧ N ≤ 4194304 ∧ RAt stR w A L ∧ (A = none → cap = 0) ∧ (∀ q, A = some q → q.spot = none) ∧ (∀ g ∈ L, g.size ≤ 16777216) ∧ N ≤ cap ∧ (∀ q, A = some q → q.block < w.heap.size)
theorem SIn.below {w w' : World} {A : Option Addr} {N cap B : Nat} {L : List ByteArray} (h : SIn w A N cap L) (hb : Below B w w') (hB : w.heap.size ≤ B) : SIn w' A N cap L := ⟨h.1, h.2.1, h.2.2.1.below hb hB, h.2.2.2.1, h.2.2.2.2.1, h.2.2.2.2.2.1, h.2.2.2.2.2.2.1, fun q e => Nat.lt_of_lt_of_le (h.2.2.2.2.2.2.2 q e) hb.size⟩
theorem SIn.made {w : World} {B N cap : Nat} {A : Option Addr} {L : List ByteArray} (h : ROwn stR w B (.slice A N cap) L) (hl : L.length ≤ 4194304) (hs : ∀ g ∈ L, g.size ≤ 16777216) : SIn w A N cap L := ⟨h.len.1.symm, h.len.1 ▸ hl, h.at, h.nilcap, h.spot, hs, h.len.2.1, fun q e => by
  subst e
  obtain ⟨A', c', he, _, _, _, hb, _⟩ := h.form
  cases he
  rcases h.2 with ⟨he, _⟩ | ⟨g, c, cur, he, _⟩
  · cases he
  · cases he
    exact (World.ownsRow.lt h g rfl).2⟩
theorem SIn.nil (w : World) : SIn w none 0 0 [] := ⟨rfl, by omega, RAt.nil _ _, fun _ => rfl, fun q h => (by cases h), fun g h => (by cases h), by omega, fun q h => (by cases h)⟩
theorem SIn.front {w : World} {A : Option Addr} {N cap k : Nat} {L : List ByteArray} (h : SIn w A N cap L) (hk : k ≤ N) : SIn w A k cap (L.take k) := ⟨by rw [List.length_take, h.1]; omega, by have := h.2.1; omega, h.2.2.1.take k, h.2.2.2.1, h.2.2.2.2.1, fun g hg => h.2.2.2.2.2.1 g (List.mem_of_mem_take hg), by have := h.2.2.2.2.2.2.1; omega, h.2.2.2.2.2.2.2⟩
theorem SIn.lt {w : World} {A : Option Addr} {N cap : Nat} {L : List ByteArray} (h : SIn w A N cap L) : ∀ q, A = some q → q.block < w.heap.size := h.2.2.2.2.2.2.2
/-- Texts that can be read, no more. -/
def WIn (w : World) (A : Option Addr) (N : Nat) (L : List ByteArray) : Prop := L.length = N ∧ RAt stR w A L
theorem WIn.below {w w' : World} {A : Option Addr} {N B : Nat} {L : List ByteArray} (h : WIn w A N L) (hb : Below B w w') (hB : w.heap.size ≤ B) : WIn w' A N L := ⟨h.1, h.2.below hb hB⟩
theorem mem_here {L : List ByteArray} {k : Nat} {x n : ByteArray} (hx : L[k]? = some x) (hn : x = n) : decide (n ∈ L) = true := decide_eq_true (hn ▸ List.mem_of_getElem? hx)
theorem mem_step {L : List ByteArray} {k : Nat} {x n : ByteArray} (h : ¬ n ∈ L.take k) (hx : L[k]? = some x) (hn : x ≠ n) : ¬ n ∈ L.take (k + 1) := by
  rw [tsnoc hx]
  simp
  exact ⟨h, fun e => hn e.symm⟩
end Go.Proofs.YtichajalinkcdaaGreatDoor
namespace Go.Proofs.YtichajalinkcdaaGreatDoor
set_option linter.unusedVariables false

theorem splitK_one (c : UInt8) (l : List UInt8) : ∃ p ps, Lib.splitK [c] 0 (l.count c) l = p :: ps ∧ ∀ cur, cutGo c cur l = (cur ++ p) :: ps := by
  induction l with
  | nil => exact ⟨[], [], rfl, fun cur => by simp [cutGo]⟩
  | cons x l ih =>
    obtain ⟨p, ps, h1, h2⟩ := ih
    by_cases hx : x = c
    · subst hx
      refine ⟨[], p :: ps, ?_, fun cur => ?_⟩
      · have hi : Lib.index (x :: l) [x] = 0 := by
          rw [Lib.index_one]
          unfold Lib.indexByte
          simp
        rw [List.count_cons_self, Lib.splitK, hi]
        simp [h1]
      · have := h2 []
        rw [List.nil_append] at this
        rw [cutGo, if_pos rfl, this, List.append_nil]
    · refine ⟨x :: p, ps, ?_, fun cur => ?_⟩
      · rw [List.count_cons_of_ne (by simpa using hx)]
        cases hk : l.count c with
        | zero =>
          rw [hk, Lib.splitK] at h1
          rw [Lib.splitK]
          simp at h1 ⊢
          exact ⟨h1.1, h1.2⟩
        | succ k =>
          rw [hk, Lib.splitK] at h1
          rw [Lib.splitK]
          rw [Lib.index_one] at h1 ⊢
          have hb : Lib.indexByte (x :: l) c = if Lib.indexByte l c == -1 then -1 else Lib.indexByte l c + 1 := by
            rw [Lib.indexByte, if_neg (by simpa using hx)]
          have hge := Lib.indexByte_ge l c
          rw [hb]
          by_cases hm : Lib.indexByte l c = -1
          · rw [hm] at h1 ⊢
            simp at h1 ⊢
            exact ⟨h1.1, h1.2⟩
          · have hm' : (Lib.indexByte l c == -1) = false := beq_eq_false_iff_ne.2 hm
            rw [hm'] at h1 ⊢
            obtain ⟨i, hi⟩ : ∃ i : Nat, Lib.indexByte l c = (i : Int) := ⟨(Lib.indexByte l c).toNat, by omega⟩
            rw [hi] at h1 ⊢
            have e1 : (((i : Int) + 1) == -1) = false := beq_eq_false_iff_ne.2 (by omega)
            have e2 : ((i : Int) + 1).toNat = i + 1 := by omega
            have e3 : ((i : Int)).toNat = i := by omega
            simp only [Bool.false_eq_true, if_false, e1, e2, e3, List.length_cons, List.length_nil, Nat.zero_add, Nat.add_zero] at h1 ⊢
            rw [List.take_succ_cons, List.drop_succ_cons]
            simp only [List.cons.injEq] at h1 ⊢
            first
              | exact ⟨⟨rfl, h1.1⟩, h1.2⟩
              | exact ⟨⟨trivial, h1.1⟩, h1.2⟩
              | exact ⟨h1.1, h1.2⟩
      · rw [cutGo, if_neg hx, h2]
        simp
theorem cutGo_part (c : UInt8) (l : List UInt8) : ∀ cur p, p ∈ cutGo c cur l → p.length ≤ cur.length + l.length := by
  induction l with
  | nil => intro cur p hp; simp [cutGo] at hp; subst hp; simp
  | cons x l ih =>
    intro cur p hp
    rw [cutGo] at hp
    split at hp
    · rcases List.mem_cons.1 hp with h | h
      · rw [h, List.length_cons]; omega
      · have := ih [] p h; simp at this; rw [List.length_cons]; omega
    · have := ih _ p hp; simp at this; rw [List.length_cons]; omega
theorem cut_part {c : UInt8} {l p : List UInt8} (hp : p ∈ cut c l) : p.length ≤ l.length := by
  have := cutGo_part c l [] p hp
  simpa using this
theorem split_words (s : ByteArray) : Lib.splitB ⟨#[32]⟩ 0 (Lib.countB s ⟨#[32]⟩) s = wdsF s := by
  have h1 : Lib.countB s ⟨#[32]⟩ = (kb s).count 32 := Lib.count_one 32 s.data.toList
  have h2 := Lib.splitB_data ⟨#[32]⟩ 0 (Lib.countB s ⟨#[32]⟩) s
  obtain ⟨p, ps, h3, h4⟩ := splitK_one 32 (kb s)
  have h5 : (Lib.splitB ⟨#[32]⟩ 0 (Lib.countB s ⟨#[32]⟩) s).map (·.data.toList) = cut 32 (kb s) := by
    rw [h2, h1]
    unfold cut
    rw [h4 []]
    exact h3
  unfold wdsF
  rw [← h5, List.map_map]
  conv => lhs; rw [← List.map_id (Lib.splitB ⟨#[32]⟩ 0 (Lib.countB s ⟨#[32]⟩) s)]
  exact List.map_congr_left fun x _ => (rB_of x).symm
theorem split_count (s : ByteArray) : Lib.countB s ⟨#[32]⟩ + 1 = (wdsF s).length := by
  rw [← split_words]
  exact (Lib.splitB_all ⟨#[32]⟩ (by decide) 0 _ s rfl).symm
end Go.Proofs.YtichajalinkcdaaGreatDoor
namespace Go.Proofs.YtichajalinkcdaaGreatDoor
open Go.Shelf
def Tryz.lays103_ren : Go.Shelf.Ren := ⟨fun | 103 => 124 | 210 => 138 | 206 => 132 | n => n, fun | 9 => 9 | 4 => 4 | 24 => 93 | 3 => 3 | n => n, fun | n => n⟩
theorem Tryz.lays103 : Go.Proofs.Lays.n103 Tryz.prog Tryz.lays103_ren := {
  mixed := by kernel_rfl
  f103 := Tryz.func124.trans (congrArg some (by kernel_rfl))
  f206 := Tryz.func132.trans (congrArg some (by kernel_rfl))
  f210 := Tryz.func138.trans (congrArg some (by kernel_rfl))
  t3 := Tryz.underlying3
  a3 := Tryz.isAgg3
  z3 := Tryz.sizeOf3
  v3 := Tryz.zeroValue3
  t4 := Tryz.underlying4
  a4 := Tryz.isAgg4
  z4 := Tryz.sizeOf4
  v4 := Tryz.zeroValue4
  t9 := Tryz.underlying9
  a9 := Tryz.isAgg9
  z9 := Tryz.sizeOf9
  v9 := Tryz.zeroValue9
  t24 := Tryz.underlying93
  a24 := Tryz.isAgg93
  z24 := Tryz.sizeOf93
  v24 := Tryz.zeroValue93 }
open Go.RowKit in
/-- strings.CutPrefix: "CutPrefix returns s without the provided leading prefix string and reports whether it found the prefix. If s doesn't start with prefix, CutPrefix returns s, false. If prefix is the empty string, CutPrefix returns s, true.": IT RETURNS '(Lib.trimPrefix s p, Lib.hasPrefix s p)'; the world is as it was. (LAID: no walk: one application.) -/
theorem Tryz.strings_CutPrefix (s p : ByteArray) (w : World) :
    Calls Tryz.prog 124 #[.string s, .string p] w fun e w' => e = .returned (.tuple #[.string ⟨(Lib.trimPrefix s.data.toList p.data.toList).toArray⟩, .bool (Lib.hasPrefix s.data.toList p.data.toList)]) ∧ w' = w := Any.strings_CutPrefix Tryz.lays103 s p w
def Tryz.lays101_ren : Go.Shelf.Ren := ⟨fun | 101 => 101 | 208 => 118 | 206 => 132 | n => n, fun | 9 => 9 | 4 => 4 | 3 => 3 | n => n, fun | n => n⟩
theorem Tryz.lays101 : Go.Proofs.Lays.n101 Tryz.prog Tryz.lays101_ren := {
  mixed := by kernel_rfl
  f101 := Tryz.func101.trans (congrArg some (by kernel_rfl))
  f206 := Tryz.func132.trans (congrArg some (by kernel_rfl))
  f208 := Tryz.func118.trans (congrArg some (by kernel_rfl))
  t3 := Tryz.underlying3
  a3 := Tryz.isAgg3
  z3 := Tryz.sizeOf3
  v3 := Tryz.zeroValue3
  t4 := Tryz.underlying4
  a4 := Tryz.isAgg4
  z4 := Tryz.sizeOf4
  v4 := Tryz.zeroValue4
  t9 := Tryz.underlying9
  a9 := Tryz.isAgg9
  z9 := Tryz.sizeOf9
  v9 := Tryz.zeroValue9 }
open Go.RowKit Go.Lib in
/-- strings.TrimPrefix: "TrimPrefix returns s without the provided leading prefix string. If s doesn't start with prefix, s is returned unchanged.": IT RETURNS 'Lib.trimPrefix s prefix'; the world is as it was. (LAID: no walk: one application.) -/
theorem Tryz.strings_TrimPrefix (s p : ByteArray) (w : World) :
    Calls Tryz.prog 101 #[.string s, .string p] w fun e w' => e = .returned (.string ⟨(Lib.trimPrefix s.data.toList p.data.toList).toArray⟩) ∧ w' = w := Any.strings_TrimPrefix Tryz.lays101 s p w
def Tryz.lays146_ren : Go.Shelf.Ren := ⟨fun | 146 => 74 | 221 => 103 | 268 => 119 | 138 => 120 | 143 => 121 | 195 => 133 | 197 => 134 | 218 => 135 | 219 => 136 | 260 => 143 | 217 => 144 | 225 => 145 | 224 => 146 | 267 => 147 | 266 => 151 | 314 => 152 | n => n, fun | 9 => 9 | 31 => 23 | 3 => 3 | 4 => 4 | 0 => 0 | 105 => 135 | 21 => 21 | 5 => 5 | 46 => 140 | 119 => 142 | 139 => 145 | 138 => 144 | 146 => 147 | 51 => 146 | n => n, fun | 1 => 0 | 3 => 1 | 4 => 2 | n => n⟩
theorem Tryz.lays146 : Go.Proofs.Lays.n146 Tryz.prog Tryz.lays146_ren := {
  mixed := by kernel_rfl
  f138 := Tryz.func120.trans (congrArg some (by kernel_rfl))
  f143 := Tryz.func121.trans (congrArg some (by kernel_rfl))
  f146 := Tryz.func74.trans (congrArg some (by kernel_rfl))
  f195 := Tryz.func133.trans (congrArg some (by kernel_rfl))
  f197 := Tryz.func134.trans (congrArg some (by kernel_rfl))
  f217 := Tryz.func144.trans (congrArg some (by kernel_rfl))
  f218 := Tryz.func135.trans (congrArg some (by kernel_rfl))
  f219 := Tryz.func136.trans (congrArg some (by kernel_rfl))
  f221 := Tryz.func103.trans (congrArg some (by kernel_rfl))
  f224 := Tryz.func146.trans (congrArg some (by kernel_rfl))
  f225 := Tryz.func145.trans (congrArg some (by kernel_rfl))
  f260 := Tryz.func143.trans (congrArg some (by kernel_rfl))
  f266 := Tryz.func151.trans (congrArg some (by kernel_rfl))
  f267 := Tryz.func147.trans (congrArg some (by kernel_rfl))
  f268 := Tryz.func119.trans (congrArg some (by kernel_rfl))
  f314 := Tryz.func152.trans (congrArg some (by kernel_rfl))
  t0 := Tryz.underlying0
  a0 := Tryz.isAgg0
  z0 := Tryz.sizeOf0
  v0 := Tryz.zeroValue0
  t3 := Tryz.underlying3
  a3 := Tryz.isAgg3
  z3 := Tryz.sizeOf3
  v3 := Tryz.zeroValue3
  t4 := Tryz.underlying4
  a4 := Tryz.isAgg4
  z4 := Tryz.sizeOf4
  v4 := Tryz.zeroValue4
  t5 := Tryz.underlying5
  a5 := Tryz.isAgg5
  z5 := Tryz.sizeOf5
  v5 := Tryz.zeroValue5
  t9 := Tryz.underlying9
  a9 := Tryz.isAgg9
  z9 := Tryz.sizeOf9
  v9 := Tryz.zeroValue9
  t21 := Tryz.underlying21
  a21 := Tryz.isAgg21
  z21 := Tryz.sizeOf21
  v21 := Tryz.zeroValue21
  t31 := Tryz.underlying23
  a31 := Tryz.isAgg23
  z31 := Tryz.sizeOf23
  v31 := Tryz.zeroValue23
  t46 := Tryz.underlying140
  a46 := Tryz.isAgg140
  z46 := Tryz.sizeOf140
  v46 := Tryz.zeroValue140
  t51 := Tryz.underlying146
  a51 := Tryz.isAgg146
  z51 := Tryz.sizeOf146
  v51 := Tryz.zeroValue146
  t105 := Tryz.underlying135
  a105 := Tryz.isAgg135
  z105 := Tryz.sizeOf135
  v105 := Tryz.zeroValue135
  t119 := Tryz.underlying142
  a119 := Tryz.isAgg142
  z119 := Tryz.sizeOf142
  t138 := Tryz.underlying144
  a138 := Tryz.isAgg144
  z138 := Tryz.sizeOf144
  v138 := Tryz.zeroValue144
  t139 := Tryz.underlying145
  a139 := Tryz.isAgg145
  z139 := Tryz.sizeOf145
  v139 := Tryz.zeroValue145
  t146 := Tryz.underlying147
  a146 := Tryz.isAgg147
  z146 := Tryz.sizeOf147
  v146 := Tryz.zeroValue147
  g1 := by kernel_rfl
  g3 := by kernel_rfl
  g4 := by kernel_rfl }
open Go.RowKit Go.Lib in
/-- strings.Split. (LAID: no walk: one application.) -/
theorem Tryz.strings_Split (s sep : ByteArray) (m : Int) (w : World) (hs : s.size < 4294967281) (hm : w.cell? ⟨0, 0, none⟩ = some (.int .i64 m)) (h1 : 1 ≤ sep.size) :
    Calls Tryz.prog 74 #[.string s, .string sep] w fun e w' =>
      e = .returned (.slice (some ⟨w.heap.size, 0, none⟩) (Lib.countB s sep + 1) (Lib.countB s sep + 1)) ∧ w' = w.alloc (.cells ((Lib.splitB sep 0 (Lib.countB s sep) s).map Value.string).toArray 9) := Any.strings_Split Tryz.lays146 (by kernel_rfl) s sep m w hs hm h1
def Tryz.lays110_ren : Go.Shelf.Ren := ⟨fun | 110 => 96 | 109 => 115 | n => n, fun | 31 => 23 | 9 => 9 | 4 => 4 | 3 => 3 | 0 => 0 | n => n, fun | n => n⟩
theorem Tryz.lays110 : Go.Proofs.Lays.n110 Tryz.prog Tryz.lays110_ren := {
  mixed := by kernel_rfl
  f109 := Tryz.func115.trans (congrArg some (by kernel_rfl))
  f110 := Tryz.func96.trans (congrArg some (by kernel_rfl))
  t0 := Tryz.underlying0
  a0 := Tryz.isAgg0
  z0 := Tryz.sizeOf0
  v0 := Tryz.zeroValue0
  t3 := Tryz.underlying3
  a3 := Tryz.isAgg3
  z3 := Tryz.sizeOf3
  v3 := Tryz.zeroValue3
  t4 := Tryz.underlying4
  a4 := Tryz.isAgg4
  z4 := Tryz.sizeOf4
  v4 := Tryz.zeroValue4
  t9 := Tryz.underlying9
  a9 := Tryz.isAgg9
  z9 := Tryz.sizeOf9
  v9 := Tryz.zeroValue9
  t31 := Tryz.underlying23
  a31 := Tryz.isAgg23
  z31 := Tryz.sizeOf23
  v31 := Tryz.zeroValue23 }
open Go.Lib in
/-- slices.Contains at []string: "Contains reports whether v is present in s.": IT RETURNS 'Lib.containsS (the elements) v', which is true just where v is among them ('Lib.containsS_iff'); the world is as it was. ITS CALLEE slices.Index IS MET BY ITS OWN CONTRACT OFF THE SHELF (lay that first): no loop is walked here. (LAID: no walk: one application.) -/
theorem Tryz.slices_Contains_string (b off n c : Nat) (zs : List ByteArray) (x : ByteArray) (w : World) (hz : n ≤ zs.length) (hbig : n ≤ 9223372036854775807) (hc : ∀ j, j < zs.length → w.cell? ⟨b, off + j, none⟩ = some (.string (zs.getD j ByteArray.empty))) :
    Calls Tryz.prog 96 #[.slice (some ⟨b, off, none⟩) n c, .string x] w fun e w' => e = .returned (.bool (Lib.containsS (zs.take n) x)) ∧ w' = w := Any.slices_Contains_string Tryz.lays110 b off n c zs x w hz hbig hc
open Go.Lib in
/-- The same at a slice of length 0, a nil one too. (LAID: no walk: one application.) -/
theorem Tryz.slices_Contains_string_empty (a : Option Addr) (c : Nat) (x : ByteArray) (w : World) :
    Calls Tryz.prog 96 #[.slice a 0 c, .string x] w fun e w' => e = .returned (.bool false) ∧ w' = w := Any.slices_Contains_string_empty Tryz.lays110 a c x w
def Tryz.laysNm216_ren : Go.Shelf.Ren := ⟨fun | 16 => 72 | n => n, fun | 24 => 23 | 9 => 9 | 4 => 4 | n => n, fun | n => n⟩
theorem Tryz.laysNm216 : Go.Proofs.Lays2.n16 Tryz.prog Tryz.laysNm216_ren := {
  mixed := by kernel_rfl
  f16 := Tryz.func72.trans (congrArg some (by kernel_rfl))
  t4 := Tryz.underlying4
  a4 := Tryz.isAgg4
  z4 := Tryz.sizeOf4
  v4 := Tryz.zeroValue4
  t9 := Tryz.underlying9
  a9 := Tryz.isAgg9
  z9 := Tryz.sizeOf9
  v9 := Tryz.zeroValue9
  t24 := Tryz.underlying23
  a24 := Tryz.isAgg23
  z24 := Tryz.sizeOf23
  v24 := Tryz.zeroValue23
  i9 := by kernel_rfl }
open Go.RowKit Go.Lib in
/-- slices.Clone at []string: "Clone returns a copy of the slice. The elements are copied using assignment, so this is a shallow clone. The result may have additional unused capacity. The result preserves the nilness of s.": OF A SLICE THAT IS NOT nil IT RETURNS A SLICE THAT IS NOT nil, OF THE SAME ELEMENTS, IN MEMORY OF THE CALL's OWN: in the how-to's words (6f): 'w'.ownsRow B e 1 v' n cells': v' begins at the head of a row among the blocks from B on (B: the heap's size at the call), not frozen, whose first cells are the elements · 'Below B w w'': below B all is as it was. The capacity is whatever the run-time gives. 'zs': what the cells behind the slice's address hold; 'zs.take n': its elements. (LAID: no walk: one application.) -/
theorem Tryz.slices_Clone_string (b off n c : Nat) (zs : List ByteArray) (w : World) (hz : n ≤ zs.length) (hbig : n * 16 ≤ 140737488355328) (hc : ∀ j, j < zs.length → w.cell? ⟨b, off + j, none⟩ = some (.string (zs.getD j ByteArray.empty))) :
    Calls Tryz.prog 72 #[.slice (some ⟨b, off, none⟩) n c] w fun e w' => ∃ v', e = .returned v' ∧ w'.ownsRow w.heap.size 9 1 v' n ((zs.take n).map (Value.string)) ∧ v' ≠ .slice none 0 0 ∧ Below w.heap.size w w' := Any.slices_Clone_string Tryz.laysNm216 b off n c zs w hz hbig hc
open Go.RowKit Go.Lib in
/-- The same at nil: nil comes back; the world is as it was. (LAID: no walk: one application.) -/
theorem Tryz.slices_Clone_string_nil (n c : Nat) (w : World) :
    Calls Tryz.prog 72 #[.slice none n c] w fun e w' => e = .returned (.slice none 0 0) ∧ w' = w := Any.slices_Clone_string_nil Tryz.laysNm216 n c w
open Go.RowKit Go.Lib in
/-- The same at a slice of length 0 that is not nil, WHATEVER ITS ADDRESS (no cell is asked for): a slice that is not nil and owns nothing comes back. (LAID: no walk: one application.) -/
theorem Tryz.slices_Clone_string_zero (a : Addr) (c : Nat) (w : World) :
    Calls Tryz.prog 72 #[.slice (some a) 0 c] w fun e w' => ∃ v', e = .returned v' ∧ w'.ownsRow w.heap.size 9 1 v' 0 [] ∧ v' ≠ .slice none 0 0 ∧ Below w.heap.size w w' := Any.slices_Clone_string_zero Tryz.laysNm216 a c w
end Go.Proofs.YtichajalinkcdaaGreatDoor
namespace Go.Proofs.YtichajalinkcdaaGreatDoor
open Go.RowKit
set_option linter.unusedVariables false

theorem contains_mem {L : List ByteArray} {x : ByteArray} {z : Bool} (h : decide (x ∈ L) = z) : Lib.containsS L x = z := by
  subst h
  cases hc : Lib.containsS L x with
  | true => exact (decide_eq_true ((Lib.containsS_iff L x).1 hc)).symm
  | false =>
    symm
    refine decide_eq_false fun hm => ?_
    rw [(Lib.containsS_iff L x).2 hm] at hc
    cases hc
theorem txt_cells {w : World} {A : Option Addr} {N cap : Nat} {L : List ByteArray} (h : SIn w A N cap L) (h0 : N ≠ 0) : ∃ b o, A = some ⟨b, o, none⟩ ∧ ∀ j, j < L.length → w.cell? ⟨b, o + j, none⟩ = some (.string (L.getD j ByteArray.empty)) := by
  obtain ⟨x, hx⟩ : ∃ x, L[0]? = some x := ⟨_, List.getElem?_eq_getElem (by rw [h.1]; omega)⟩
  obtain ⟨b, o, hA, _, _⟩ := str_at h.2.2.1 hx
  refine ⟨b, o, hA, fun j hj => ?_⟩
  obtain ⟨b', o', hA', _, hc⟩ := str_at h.2.2.1 (List.getElem?_eq_getElem hj)
  rw [hA] at hA'
  cases hA'
  rw [hc, List.getD_eq_getElem?_getD, List.getElem?_eq_getElem hj]
  rfl
theorem lib_has {A : Option Addr} {N cap : Nat} {L : List ByteArray} {n : ByteArray} {z : Bool} (hz : decide (n ∈ L) = z) (w : World) (h : SIn w A N cap L) : Calls Tryz.prog 96 #[.slice A N cap, .string n] w fun e w' => e = .returned (.bool z) ∧ w' = w := by
  by_cases h0 : N = 0
  · have e : z = false := by
      rw [← hz]
      have : L = [] := List.eq_nil_of_length_eq_zero (by rw [h.1]; exact h0)
      subst this
      rfl
    subst h0
    rw [e]
    exact Tryz.slices_Contains_string_empty A cap n w
  · obtain ⟨b, o, rfl, hc⟩ := txt_cells h h0
    have c := Tryz.slices_Contains_string b o N cap L n w (by rw [h.1]; exact Nat.le_refl _) (by have := h.2.1; omega) hc
    rw [List.take_of_length_le (by rw [h.1]; exact Nat.le_refl _), contains_mem hz] at c
    exact c
theorem rcells_str (L : List ByteArray) : rcells stR L = L.map Value.string := by
  induction L with
  | nil => rfl
  | cons x L ih =>
    unfold rcells at ih ⊢
    rw [List.flatMap_cons, ih]
    rfl
/-- A copy of a slice of texts. -/
def Cloned (w : World) (L : List ByteArray) (e : Ending) (w' : World) : Prop := ∃ v, e = .returned v ∧ ROwn stR w' w.heap.size v L ∧ Below w.heap.size w w'
theorem lib_clone {A : Option Addr} {N cap : Nat} {L : List ByteArray} (w : World) (h : SIn w A N cap L) : Calls Tryz.prog 72 #[.slice A N cap] w (Cloned w L) := by
  by_cases h0 : N = 0
  · subst h0
    have : L = [] := List.eq_nil_of_length_eq_zero h.1
    subst this
    cases A with
    | none => exact (Tryz.slices_Clone_string_nil 0 cap w).mono fun e w' ⟨he, hw⟩ => ⟨_, he, by rw [hw]; exact ROwn.nil w _, by rw [hw]; exact Below.refl _ _⟩
    | some a => exact (Tryz.slices_Clone_string_zero a cap w).mono fun e w' ⟨v, he, ho, _, hb⟩ => ⟨v, he, ho, hb⟩
  · obtain ⟨b, o, rfl, hc⟩ := txt_cells h h0
    have hN := h.2.1
    refine (Tryz.slices_Clone_string b o N cap L w (by rw [h.1]; exact Nat.le_refl _) (by omega) hc).mono ?_
    rintro e w' ⟨v, he, ho, _, hb⟩
    refine ⟨v, he, ?_, hb⟩
    rw [List.take_of_length_le (by rw [h.1]; exact Nat.le_refl _), ← rcells_str] at ho
    exact ROwn.of ho h.1.symm
/-- internal/bytealg.MaxLen holds some number. -/
def MxS (w : World) : Prop := ∃ m : Int, w.cell? ⟨0, 0, none⟩ = some (.int .i64 m)
theorem MxS.below {w w' : World} {B : Nat} (h : MxS w) (hb : Below B w w') (hB : w.heap.size ≤ B) : MxS w' := by
  obtain ⟨m, hm⟩ := h
  exact ⟨m, (hb.cell (Nat.lt_of_lt_of_le (block_lt_of_cell hm) hB)).trans hm⟩
/-- The words of a line, in memory. -/
def Worded (w : World) (l : ByteArray) (e : Ending) (w' : World) : Prop := ∃ g N, e = .returned (.slice (some ⟨g, 0, none⟩) N N) ∧ SIn w' (some ⟨g, 0, none⟩) N N (wdsF l) ∧ Below w.heap.size w w'
theorem wdsF_sizes (l : ByteArray) : ∀ x ∈ wdsF l, x.size ≤ l.size := by
  intro x hx
  unfold wdsF at hx
  obtain ⟨p, hp, rfl⟩ := List.mem_map.1 hx
  rw [rB_size]
  have := cut_part (c := 32) hp
  have e : (kb l).length = l.size := by unfold kb; simp
  omega
theorem lib_split (l : ByteArray) (w : World) (hl : l.size ≤ 2097152) (hm : MxS w) : Calls Tryz.prog 74 #[.string l, .string ⟨#[32]⟩] w (Worded w l) := by
  obtain ⟨m, hm⟩ := hm
  refine (Tryz.strings_Split l ⟨#[32]⟩ m w (by omega) hm (by decide)).mono ?_
  rintro e w' ⟨rfl, rfl⟩
  rw [split_words, split_count]
  have hn := wdsF_len l
  refine ⟨_, _, rfl, ⟨rfl, by omega, ?_, fun h => (by cases h), fun q h => (by cases h; rfl), fun g hg => by have := wdsF_sizes l g hg; omega, Nat.le_refl _, fun q h => by cases h; simp⟩, (Below.refl _ _).alloc (Nat.le_refl _) _⟩
  rw [← rcells_str]
  exact RAt.made stR w (wdsF l) _ rfl
theorem pre_has (b l : ByteArray) : Lib.hasPrefix l.data.toList b.data.toList = preB b l := by
  unfold Lib.hasPrefix preB kb
  rw [Bool.eq_iff_iff]
  rw [List.isPrefixOf_iff_prefix, List.prefix_iff_eq_take, decide_eq_true_eq]
  exact eq_comm
theorem lib_cutp {b l : ByteArray} {o : Bool} {t : ByteArray} (ho : preB b l = o) (ht : rB (if o = true then tlB b l else kb l) = t) (w : World) : Calls Tryz.prog 124 #[.string l, .string b] w fun e w' => e = .returned (.tuple #[.string t, .bool o]) ∧ w' = w := by
  refine (Tryz.strings_CutPrefix l b w).mono ?_
  rintro e w' ⟨rfl, rfl⟩
  refine ⟨?_, rfl⟩
  rw [pre_has, ho]
  have e : (⟨(Lib.trimPrefix l.data.toList b.data.toList).toArray⟩ : ByteArray) = t := by
    rw [← ht]
    unfold rB Lib.trimPrefix
    rw [pre_has, ho]
    rfl
  rw [e]
theorem lib_trim {b l t : ByteArray} (ht : rB (if preB b l = true then tlB b l else kb l) = t) (w : World) : Calls Tryz.prog 101 #[.string l, .string b] w fun e w' => e = .returned (.string t) ∧ w' = w := by
  refine (Tryz.strings_TrimPrefix l b w).mono ?_
  rintro e w' ⟨rfl, rfl⟩
  refine ⟨?_, rfl⟩
  have e : (⟨(Lib.trimPrefix l.data.toList b.data.toList).toArray⟩ : ByteArray) = t := by
    rw [← ht]
    unfold rB Lib.trimPrefix
    rw [pre_has]
    rfl
  rw [e]
end Go.Proofs.YtichajalinkcdaaGreatDoor
namespace Go.Proofs.YtichajalinkcdaaGreatDoor
open Go.RowKit
set_option linter.unusedVariables false

theorem mxs_of {w : World} (h : w.ShapedOpen Tryz.prog) : MxS w :=
  cell_of_shapedOpen_int (g := 0) (t := 3) (zero := #[.int .i64 0]) (k := .i64) h (of_decide_eq_true (by kernel_rfl)) (by kernel_rfl) rfl (by kernel_rfl) (by kernel_rfl) Tryz.underlying3
end Go.Proofs.YtichajalinkcdaaGreatDoor
namespace Go.Proofs.YtichajalinkcdaaGreatDoor
theorem c_main : Tryz.pinned.checked.prog.mainIs = some (Rows.fnHelloCard.stood.harness.1, Rows.fnHelloCard.stood.harness.2.toList) := by kernel_rfl
theorem c_want : Tryz.prog.wantsStandIn 22 = false := by kernel_rfl
theorem c_looks : false = Tryz.pinned.checked.prog.looks [] := by kernel_rfl
end Go.Proofs.YtichajalinkcdaaGreatDoor
namespace Go.Proofs.YtichajalinkcdaaGreatDoor
open Go.RowKit
set_option linter.unusedVariables false

/-- A world in which nothing of 'w' below 'G' has changed. -/
structure Later (G : Nat) (w : World) where
  v : World
  h : Below G w v
instance (G : Nat) (w : World) : Nonempty (Later G w) := ⟨⟨w, Below.refl G w⟩⟩
theorem Later.cell {G : Nat} {w : World} (x : Later G w) {p : Addr} {u : Value} (hp : p.block < G) (h : w.cell? p = some u) : x.v.cell? p = some u := (x.h.cell hp).trans h
theorem Later.call {G : Nat} {w : World} (x : Later G w) {w' : World} (hb : Below x.v.heap.size x.v w') (hG : G ≤ w.heap.size) : ∃ y : Later G w, w' = y.v := ⟨⟨w', x.h.trans (hb.mono (Nat.le_trans hG x.h.size))⟩, rfl⟩
theorem wp_region_later {P : Program} {id : Nat} {Q : Exit → Act → World → Prop} {a : Act} {l : List Oper} (G : Nat) (w : World) (hm : P.follows .mixedOrders = true) (hB : Region.lexB .any l.toArray = true)
    (h : wpQuiet P l.toArray (fun w' => ∃ x : Later G w, w' = x.v) (fun a' => ∀ w', (∃ x : Later G w, w' = x.v) → Q .normal a' w') l a) : (Code.region id l.toArray true).wp P Q a w :=
  wp_region_quiet (C := fun w' => ∃ x : Later G w, w' = x.v) hm hB ⟨⟨w.drew, ⟨(Below.refl G w).os, (Below.refl G w).tape, (Below.refl G w).output, (Below.refl G w).size, (Below.refl G w).block⟩⟩, rfl⟩ (by simpa using h)
end Go.Proofs.YtichajalinkcdaaGreatDoor
namespace Go.Proofs.YtichajalinkcdaaGreatDoor
open Go.RowKit
set_option linter.unusedVariables false

set_option maxHeartbeats 1000000 in
theorem spec_has {A : Option Addr} {N cap : Nat} {L : List ByteArray} {n : ByteArray} {z : Bool} (hz : decide (n ∈ L) = z) (w : World) (h : SIn w A N cap L) : Calls Tryz.prog 107 #[.slice A N cap, .string n] w fun e w' => e = .returned (.bool z) ∧ w' = w := by
  have H := Lib.hid h
  have HZ := Lib.hid hz
  have hl := h.2.1
  clear h hz
  go_enter Tryz.func107, Tryz.ntmps107
  go_wp2
  go_loopw [5] (fun i wr => ∃ k : Nat, k ≤ N ∧ i = .int .i64 (k : Int) ∧ Hid (¬ n ∈ L.take k) ∧ wr = w) (fun i _ => N - (intOf i).toNat)
  case atStart => exact ⟨0, Nat.zero_le _, by go_num, Lib.hid (by simp), rfl⟩
  case round =>
    obtain ⟨k, hk, rfl, HG, rfl⟩ := hrel
    by_cases hlt : k < N
    · have h0 : (0 : Int) ≤ (k : Int) := by omega
      have h5 : (k : Int) < (N : Int) := by omega
      obtain ⟨x, hx⟩ : ∃ x, L[k]? = some x := ⟨_, List.getElem?_eq_getElem (by rw [H.out.1]; exact hlt)⟩
      obtain ⟨b, o, rfl, hb, c0⟩ := str_at H.out.2.2.1 hx
      by_cases hn : x = n
      · have HE := Lib.hid (HZ.out.symm.trans (mem_here hx hn))
        subst hn
        clear hx
        go_wp2
        go_ret
        exact ⟨ret_bl HE.out.symm, rfl⟩
      · have HE := Lib.hid (mem_step HG.out hx hn)
        obtain ⟨v1, v2⟩ := ne_walk hn
        clear hx hn
        go_wp2
        go_roundw
        case rel => exact ⟨k + 1, by omega, by go_num, HE, trivial⟩
        case measure => simp [intOf]; omega
    · have h5 : ¬ (k : Int) < (N : Int) := by omega
      have HE : Hid (z = false) := Lib.hid (HZ.out.symm.trans (decide_eq_false (by have := HG.out; rw [List.take_of_length_le (by rw [H.out.1]; omega)] at this; exact this)))
      go_wp2
      go_ret
      exact ⟨ret_bl HE.out.symm, rfl⟩
set_option maxRecDepth 20000 in
set_option maxHeartbeats 2000000 in
theorem spec_names {A : Option Addr} {N cap : Nat} {T : List ByteArray} (w : World) (h : SIn w A N cap T) : Calls Tryz.prog 81 #[.slice A N cap] w (SayB w (n21 T)) := by
  have H := Lib.hid h
  have hl := h.2.1
  have hcap := h.2.2.2.2.2.2.1
  clear h
  go_enter Tryz.func81, Tryz.ntmps81
  go_wp2
  go_loopw [3] (fun i wr => ∃ k : Nat, k ≤ N ∧ i = .int .i64 (k : Int) ∧ Hid (namesB (T.take k) = true) ∧ Hid (Below w.heap.size w wr)) (fun i _ => N - (intOf i).toNat)
  case atStart => exact ⟨0, Nat.zero_le _, by go_num, Lib.hid (by rw [List.take_zero]; exact namesB_nil), Below.refl _ _⟩
  case round =>
    obtain ⟨k, hk, rfl, HG, HB⟩ := hrel
    by_cases hlt : k < N
    · have h0 : (0 : Int) ≤ (k : Int) := by omega
      have h5 : (k : Int) < (N : Int) := by omega
      have h6 : (k : Int) ≤ (cap : Int) := by omega
      obtain ⟨x, hx⟩ : ∃ x, T[k]? = some x := ⟨_, List.getElem?_eq_getElem (by rw [H.out.1]; exact hlt)⟩
      have hxs : x.size ≤ 16777216 := H.out.2.2.2.2.2.1 x (List.mem_of_getElem? hx)
      have HW := Lib.hid (H.out.below HB.out (Nat.le_refl _))
      obtain ⟨b, o, rfl, hb, c0⟩ := str_at HW.out.2.2.1 hx
      have HX := Lib.hid hx
      have l0 : ∀ y : Later wr.heap.size wr, y.v.cell? ⟨b, o + k, none⟩ = some (.string x) := fun y => y.cell hb c0
      have HF := Lib.hid (HW.out.front (show k ≤ N by omega))
      clear hx
      cases hn : nameB (kb x) with
      | false =>
        have HN := Lib.hid hn
        have HE := Lib.hid (n21_bad (namesB_bad HX.out hn))
        clear hn
        go_wp2
        refine wp_region_later wr.heap.size wr (by kernel_rfl) (by kernel_rfl) ?_
        repeat (go_big_quiet_step ((go_at_call 82; refine (sname_at HN.out hxs _).mono ?_; rintro e w2 ⟨rfl, rfl⟩; exact ⟨rfl, _, rfl⟩)))
        refine wpQuiet_nil ?_
        intro _ hw'
        obtain ⟨⟨w2, hb2⟩, rfl⟩ := hw'
        have H6 := Lib.hid (HB.out.trans (hb2.mono HB.out.size))
        clear hb2
        go_wp2
        go_ret
        exact says_b HE.out H6.out
      | true =>
        have HN := Lib.hid hn
        clear hn
        cases hm : decide (x ∈ T.take k) with
        | true =>
          have HM := Lib.hid hm
          have HE := Lib.hid (n21_bad (namesB_twice HX.out hm))
          clear hm
          go_wp2
          refine wp_region_later wr.heap.size wr (by kernel_rfl) (by kernel_rfl) ?_
          have HL : ∀ y : Later wr.heap.size wr, Calls Tryz.prog 107 #[.slice (some ⟨b, o, none⟩) k cap, .string x] y.v fun e w' => e = .returned (.bool true) ∧ w' = y.v := fun y => spec_has HM.out y.v (HF.out.below y.h (Nat.le_refl _))
          repeat (go_big_quiet_step (first | (go_at_call 82; refine (sname_at HN.out hxs _).mono ?_; rintro e w2 ⟨rfl, rfl⟩; exact ⟨rfl, _, rfl⟩) | (go_at_call 107; refine (HL _).mono ?_; rintro e w2 ⟨rfl, rfl⟩; exact ⟨rfl, _, rfl⟩)))
          refine wpQuiet_nil ?_
          intro _ hw'
          obtain ⟨⟨w2, hb2⟩, rfl⟩ := hw'
          have H6 := Lib.hid (HB.out.trans (hb2.mono HB.out.size))
          clear hb2 HL
          go_wp2
          go_ret
          exact says_b HE.out H6.out
        | false =>
          have HM := Lib.hid hm
          have HE := Lib.hid (namesB_next HG.out HX.out HN.out hm)
          clear hm
          go_wp2
          refine wp_region_later wr.heap.size wr (by kernel_rfl) (by kernel_rfl) ?_
          have HL : ∀ y : Later wr.heap.size wr, Calls Tryz.prog 107 #[.slice (some ⟨b, o, none⟩) k cap, .string x] y.v fun e w' => e = .returned (.bool false) ∧ w' = y.v := fun y => spec_has HM.out y.v (HF.out.below y.h (Nat.le_refl _))
          repeat (go_big_quiet_step (first | (go_at_call 82; refine (sname_at HN.out hxs _).mono ?_; rintro e w2 ⟨rfl, rfl⟩; exact ⟨rfl, _, rfl⟩) | (go_at_call 107; refine (HL _).mono ?_; rintro e w2 ⟨rfl, rfl⟩; exact ⟨rfl, _, rfl⟩)))
          refine wpQuiet_nil ?_
          intro _ hw'
          obtain ⟨⟨w2, hb2⟩, rfl⟩ := hw'
          have H6 := Lib.hid (HB.out.trans (hb2.mono HB.out.size))
          clear hb2 HL
          go_wp2
          go_roundw
          case rel => exact ⟨k + 1, by omega, by go_num, HE, H6⟩
          case measure => simp [intOf]; omega
    · have h5 : ¬ (k : Int) < (N : Int) := by omega
      have HE : Hid (n21 T = decide (N ≤ 3)) := Lib.hid ((n21_all HG.out (by rw [H.out.1]; omega)).trans (by rw [H.out.1]))
      by_cases h3 : N ≤ 3
      · have h3' : (N : Int) ≤ 3 := by omega
        go_wp2
        go_ret
        exact says_b (HE.out.trans (decide_eq_true h3)) HB.out
      · have h3' : ¬ (N : Int) ≤ 3 := by omega
        go_wp2
        go_ret
        exact says_b (HE.out.trans (decide_eq_false h3)) HB.out
theorem names_at {A : Option Addr} {N cap : Nat} {T : List ByteArray} {z : Bool} (hz : n21 T = z) (w : World) (h : SIn w A N cap T) : Calls Tryz.prog 81 #[.slice A N cap] w (SayB w z) := by
  subst hz
  exact spec_names w h
set_option maxRecDepth 20000 in
set_option maxHeartbeats 2000000 in
theorem impl_receivers {A : Option Addr} {N cap : Nat} {T : List ByteArray} (w : World) (h : SIn w A N cap T) : Calls Tryz.prog 54 #[.slice A N cap] w (SayB w (recB T)) := by
  have H := Lib.hid h
  have hl := h.2.1
  have hcap := h.2.2.2.2.2.2.1
  clear h
  by_cases h0N : N = 0
  · subst h0N
    have HE : Hid (recB T = false) := Lib.hid (recB_long (by rw [H.out.1]; omega))
    go_enter Tryz.func54, Tryz.ntmps54
    go_wp2
    go_ret
    exact says_b HE.out (Below.refl _ _)
  have hN0 : ((N : Int) == 0) = false := beq_eq_false_iff_ne.2 (by omega)
  have hN1 : 1 ≤ N := by omega
  clear h0N
  by_cases h3 : N ≤ 3
  · have h3' : ¬ (3 : Int) < (N : Int) := by omega
    go_enter Tryz.func54, Tryz.ntmps54
    go_wp2
    go_loopw [15] (fun i wr => ∃ k : Nat, k ≤ N ∧ i = .int .i64 (k : Int) ∧ Hid (namesB (T.take k) = true) ∧ Hid (Below w.heap.size w wr)) (fun i _ => N - (intOf i).toNat)
    case atStart => exact ⟨0, Nat.zero_le _, by go_num, Lib.hid (by rw [List.take_zero]; exact namesB_nil), Below.refl _ _⟩
    case round =>
      obtain ⟨k, hk, rfl, HG, HB⟩ := hrel
      by_cases hlt : k < N
      · have h0 : (0 : Int) ≤ (k : Int) := by omega
        have h5 : (k : Int) < (N : Int) := by omega
        have h6 : (k : Int) ≤ (cap : Int) := by omega
        obtain ⟨x, hx⟩ : ∃ x, T[k]? = some x := ⟨_, List.getElem?_eq_getElem (by rw [H.out.1]; exact hlt)⟩
        have hxs : x.size ≤ 16777216 := H.out.2.2.2.2.2.1 x (List.mem_of_getElem? hx)
        have HW := Lib.hid (H.out.below HB.out (Nat.le_refl _))
        obtain ⟨b, o, rfl, hb, c0⟩ := str_at HW.out.2.2.1 hx
        have HX := Lib.hid hx
        have HF := Lib.hid (HW.out.front (show k ≤ N by omega))
        clear hx
        cases hn : nameB (kb x) with
        | false =>
          have HN := Lib.hid hn
          have HE := Lib.hid (recB_bad (namesB_bad HX.out hn))
          clear hn
          go_wp2_with fail
          refine (iname_at HN.out hxs _).mono ?_
          rintro e w2 ⟨rfl, hb2⟩
          have H6 := Lib.hid (HB.out.trans (hb2.mono HB.out.size))
          clear hb2
          go_wp2
          go_ret
          exact says_b HE.out H6.out
        | true =>
          have HN := Lib.hid hn
          clear hn
          cases hm : decide (x ∈ T.take k) with
          | true =>
            have HM := Lib.hid hm
            have HE := Lib.hid (recB_bad (namesB_twice HX.out hm))
            clear hm
            go_wp2_with fail
            refine (iname_at HN.out hxs _).mono ?_
            rintro e w2 ⟨rfl, hb2⟩
            have H6 := Lib.hid (HB.out.trans (hb2.mono HB.out.size))
            have HF2 := Lib.hid (HF.out.below hb2 (Nat.le_refl _))
            clear hb2
            go_wp2_with fail
            refine (lib_has HM.out _ HF2.out).mono ?_
            rintro e w3 ⟨rfl, rfl⟩
            go_wp2
            go_ret
            exact says_b HE.out H6.out
          | false =>
            have HM := Lib.hid hm
            have HE := Lib.hid (namesB_next HG.out HX.out HN.out hm)
            clear hm
            go_wp2_with fail
            refine (iname_at HN.out hxs _).mono ?_
            rintro e w2 ⟨rfl, hb2⟩
            have H6 := Lib.hid (HB.out.trans (hb2.mono HB.out.size))
            have HF2 := Lib.hid (HF.out.below hb2 (Nat.le_refl _))
            clear hb2
            go_wp2_with fail
            refine (lib_has HM.out _ HF2.out).mono ?_
            rintro e w3 ⟨rfl, rfl⟩
            go_wp2
            go_roundw
            case rel => exact ⟨k + 1, by omega, by go_num, HE, H6⟩
            case measure => simp [intOf]; omega
      · have h5 : ¬ (k : Int) < (N : Int) := by omega
        have HE : Hid (recB T = true) := Lib.hid (recB_all HG.out (by rw [H.out.1]; omega) (by rw [H.out.1]; exact hN1) (by rw [H.out.1]; exact h3))
        go_wp2
        go_ret
        exact says_b HE.out HB.out
  · have h3' : (3 : Int) < (N : Int) := by omega
    have HE : Hid (recB T = false) := Lib.hid (recB_long (by rw [H.out.1]; omega))
    go_enter Tryz.func54, Tryz.ntmps54
    go_wp2
    go_ret
    exact says_b HE.out (Below.refl _ _)
theorem receivers_at {A : Option Addr} {N cap : Nat} {T : List ByteArray} {z : Bool} (hz : recB T = z) (w : World) (h : SIn w A N cap T) : Calls Tryz.prog 54 #[.slice A N cap] w (SayB w z) := by
  subst hz
  exact impl_receivers w h
end Go.Proofs.YtichajalinkcdaaGreatDoor
