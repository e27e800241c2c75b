/-
  The contracts of the code's and the model's AclRights. Condition: the grants can be read, and are not too many.
-/
import Derived.Test.YtnnmnphmbjfopaaGo
namespace Go.Proofs.Ytnnmnphmbjfopaa
open Go.RowKit Go.Maps Go.WideMaps
set_option linter.unusedVariables false

def anyB : ByteArray := ⟨#[97, 110, 121, 111, 110, 101]⟩
/-- The rights of both. -/
def orK (a b : Nat) : Nat → Nat
  | 0 => 0
  | k + 1 => if tr a k || tr b k then orK a b k + 2 ^ k else orK a b k
theorem or_right {a b : Nat} (ha : a < 64) (hb : b < 64) : bits .or .i64 (a : Int) (b : Int) = ((orK a b 6 : Nat) : Int) := by
  have : ∀ a b : Fin 64, bits .or .i64 (a.1 : Int) (b.1 : Int) = ((orK a.1 b.1 6 : Nat) : Int) := by decide +kernel
  exact this ⟨a, ha⟩ ⟨b, hb⟩
theorem orK_lt (a b k : Nat) : orK a b k < 2 ^ k := by
  induction k with
  | zero => simp [orK]
  | succ k ih =>
    rw [orK, Nat.pow_succ]
    split <;> omega
def vN (L : List Gr) (u : ByteArray) : Nat := (valG L u).toNat
theorem vN_lt {L : List Gr} (hv : vG L = true) (u : ByteArray) : vN L u < 64 ∧ valG L u = (vN L u : Int) := by
  unfold vN
  cases hh : hasG L u with
  | false => rw [valG_no hh]; simp
  | true => have := valG_yes (vG_iff.1 hv).2.1 hh; omega
/-- What the function answers. -/
def acR (L : List Gr) (o u : ByteArray) : Int := if vG L && (nameB (kb o) && nameB (kb u)) then (if u = o then 63 else ((orK (vN L u) (vN L anyB) 6 : Nat) : Int)) else -1
theorem acR_no {L : List Gr} {o u : ByteArray} (h : (vG L && (nameB (kb o) && nameB (kb u))) = false) : acR L o u = -1 := by unfold acR; rw [h]; rfl
theorem acR_own {L : List Gr} {o u : ByteArray} (h1 : vG L = true) (h2 : nameB (kb o) = true) (h3 : nameB (kb u) = true) (h : u = o) : acR L o u = 63 := by unfold acR; rw [h1, h2, h3]; simp [h]
theorem acR_more {L : List Gr} {o u : ByteArray} (h1 : vG L = true) (h2 : nameB (kb o) = true) (h3 : nameB (kb u) = true) (h : u ≠ o) : acR L o u = ((orK (vN L u) (vN L anyB) 6 : Nat) : Int) := by unfold acR; rw [h1, h2, h3]; simp [h]
/-- A grant of either has the right. -/
def onG (L : List Gr) (u : ByteArray) (k : Nat) : Bool := L.any fun g => ((kb g.1 == kb u) || (kb g.1 == kb anyB)) && tr g.2.toNat k
theorem tr_zero (k : Nat) : tr 0 k = false := by unfold tr; simp
theorem onG_end {L : List Gr} (hv : vG L = true) (u : ByteArray) (k : Nat) : onG L u k = (tr (vN L u) k || tr (vN L anyB) k) := by
  have ha := (vG_iff.1 hv).2.2
  rw [Bool.eq_iff_iff]
  unfold onG
  rw [List.any_eq_true, Bool.or_eq_true]
  constructor
  · rintro ⟨g, hg, h⟩
    rw [Bool.and_eq_true, Bool.or_eq_true, beq_iff_eq, beq_iff_eq] at h
    rcases h.1 with h1 | h1
    · left
      have := kb_inj h1
      subst this
      unfold vN
      rw [valG_mem ha hg]
      exact h.2
    · right
      have := kb_inj h1
      unfold vN
      rw [← this, valG_mem ha hg]
      exact h.2
  · have key : ∀ v, (v = u ∨ v = anyB) → tr (vN L v) k = true → ∃ x ∈ L, ((kb x.1 == kb u || kb x.1 == kb anyB) && tr x.2.toNat k) = true := by
      intro v hvv ht
      cases hh : hasG L v with
      | false =>
        unfold vN at ht
        rw [valG_no hh] at ht
        have := tr_zero k
        rw [show (0 : Int).toNat = 0 from rfl, this] at ht
        cases ht
      | true =>
        obtain ⟨g, hg, rfl⟩ := hasG_mem.1 hh
        refine ⟨g, hg, ?_⟩
        unfold vN at ht
        rw [valG_mem ha hg] at ht
        rw [ht, Bool.and_true]
        rcases hvv with h | h
        · rw [h]; simp
        · rw [h]; simp
    rintro (h | h)
    · exact key u (.inl rfl) h
    · exact key anyB (.inr rfl) h
theorem onG_yes {L : List Gr} {u : ByteArray} {k i : Nat} {g : Gr} (hx : L[i]? = some g) (h : onG (L.take i) u k = true) : onG (L.take (i + 1)) u k = true := by
  unfold onG at *
  rw [take_snoc hx, List.any_append, h]
  rfl
theorem onG_here {L : List Gr} {u : ByteArray} {k i : Nat} {g : Gr} {z : Bool} (hx : L[i]? = some g) (h : onG (L.take i) u k = false) (hz : (((kb g.1 == kb u) || (kb g.1 == kb anyB)) && tr g.2.toNat k) = z) : onG (L.take (i + 1)) u k = z := by
  unfold onG at *
  rw [take_snoc hx, List.any_append, h, Bool.false_or]
  simpa using hz
theorem orK_yes {a b k q : Nat} (hq : 2 ^ k = q) (h : (tr a k || tr b k) = true) : orK a b k + q = orK a b (k + 1) := by rw [orK, if_pos h, hq]
theorem orK_no {a b k : Nat} (h : (tr a k || tr b k) = false) : orK a b k = orK a b (k + 1) := by rw [orK, if_neg (by rw [h]; simp)]
theorem num_eq {C q D : Nat} (h : C + q = D) : Value.int .i64 ((C : Int) + (q : Int)) = .int .i64 (D : Int) := by subst h; simp
theorem any_walk {v : ByteArray} (h : v ≠ anyB) : (v.toList == [97, 110, 121, 111, 110, 101]) = false := by
  rw [ByteArray.toList_eq]
  exact ne_kb h
theorem any_walk' {v : ByteArray} (h : v = anyB) : (v.toList == [97, 110, 121, 111, 110, 101]) = true := by
  subst h
  rw [ByteArray.toList_eq]
  rfl
theorem aclsv_at {A : Option Addr} {N cap : Nat} {L : List Gr} {z : Bool} (hv : vG L = z) (w : World) (h : GIn w A N cap L) : Calls Try.prog 29 #[.slice A N cap] w (SayB w z) := by
  subst hv
  exact spec_aclvalid w h
set_option maxRecDepth 20000 in
set_option maxHeartbeats 16000000 in
theorem spec_of {A : Option Addr} {N cap : Nat} {L : List Gr} (u : ByteArray) (w : World) (h : GIn w A N cap L) (hv : vG L = true) (hN4 : N ≤ 4) :
    Calls Try.prog 61 #[.slice A N cap, .string u] w (SayI w ((orK (vN L u) (vN L anyB) 6 : Nat) : Int)) := by
  have H := Lib.hid h
  have HV := Lib.hid hv
  clear h hv
  go_enter Try.func61, Try.ntmps61
  go_wp2
  go_loopw [5, 6] (fun t i wr => ∃ (k : Nat), k ≤ 6 ∧ t = .int .i64 ((orK (vN L u) (vN L anyB) k : Nat) : Int) ∧ i = .int .i64 (k : Int) ∧ w.heap.size ≤ wr.heap.size ∧ Hid (Below w.heap.size w wr)) (fun _ i _ => 6 - (intOf i).toNat)
  case atStart => exact ⟨0, Nat.zero_le _, by go_num, by go_num, Nat.le_refl _, Below.refl _ _⟩
  case round =>
    obtain ⟨k, hk, rfl, rfl, hwo, HB⟩ := hrel
    obtain ⟨C, hC⟩ : ∃ C, orK (vN L u) (vN L anyB) k = C := ⟨_, rfl⟩
    have hCl : C < 2 ^ k := hC ▸ orK_lt _ _ k
    rw [hC]
    have HC := Lib.hid hC
    clear hC
    by_cases hlt : k < 6
    · have h5 : (k : Int) < 6 := by omega
      obtain ⟨q, hq⟩ : ∃ q, 2 ^ k = q := ⟨_, rfl⟩
      obtain ⟨q1, q2⟩ := pow_six hlt hq
      rw [hq] at hCl
      have HQ := Lib.hid hq
      clear hq
      obtain ⟨wo, rfl⟩ : ∃ wo : World, wo = wr := ⟨_, rfl⟩
      go_wp2
      go_loopw [7, 8] (fun t i wr => ∃ (j : Nat) (on : Bool), j ≤ N ∧ Hid (onG (L.take j) u k = on) ∧ t = .bool on ∧ i = .int .i64 (j : Int) ∧ w.heap.size ≤ wr.heap.size ∧ Hid (Below w.heap.size w wr)) (fun _ i _ => N - (intOf i).toNat)
      case atStart => exact ⟨0, false, Nat.zero_le _, rfl, rfl, by go_num, hwo, HB.out⟩
      case round =>
        obtain ⟨j, on, hj, HON, rfl, rfl, hwr, HBr⟩ := hrel
        by_cases hjl : j < N
        · have j5 : (j : Int) < (N : Int) := by omega
          have j0 : (0 : Int) ≤ (j : Int) := by omega
          obtain ⟨⟨v, r⟩, hx⟩ : ∃ x, L[j]? = some x := ⟨_, List.getElem?_eq_getElem (by rw [H.out.1]; exact hjl)⟩
          have hro : 1 ≤ r ∧ r ≤ 63 := by
            have := (vG_iff.1 HV.out).2.1 (v, r) (List.mem_of_getElem? hx)
            unfold okG at this
            simp at this
            exact this.2
          obtain ⟨rn, hrn⟩ : ∃ rn : Nat, r = (rn : Int) := ⟨r.toNat, by omega⟩
          subst hrn
          obtain ⟨b, o, rfl, hb, c0, c1⟩ := grant_at (H.out.2.2.1.below HBr.out (Nat.le_refl _)) hx
          have HX := Lib.hid hx
          have l0 : ∀ x : Later wr.heap.size wr, x.v.cell? ⟨b, o + j * 2, none⟩ = some (.string v) := fun x => x.cell hb c0
          have l1 : ∀ x : Later wr.heap.size wr, x.v.cell? ⟨b, o + j * 2 + 1, none⟩ = some (.int .i64 (rn : Int)) := fun x => x.cell hb c1
          clear hx
          cases on with
          | true =>
            have HE := Lib.hid (onG_yes HX.out HON.out)
            go_wp2
            refine wp_region_later wr.heap.size wr (by kernel_rfl) (by kernel_rfl) ?_
            repeat (go_big_quiet_step ((go_at_call 50; refine (spec_rbit k q _ hlt HQ.out).mono ?_; rintro e w2 ⟨rfl, hb2⟩; exact ⟨rfl, Later.call _ hb2 (Nat.le_refl _)⟩)))
            refine wpQuiet_nil ?_
            intro _ hw'
            obtain ⟨⟨w2, hb2⟩, rfl⟩ := hw'
            have H6 := Lib.hid hb2
            have HB6 := Lib.hid (HBr.out.trans (hb2.mono hwr))
            clear hb2
            go_wp2
            go_roundw
            case rel => exact ⟨j + 1, true, by omega, HE, rfl, by go_num, Nat.le_trans hwr H6.out.size, HB6⟩
            case measure => simp [intOf]; omega
          | false =>
            by_cases hvu : v = u ∨ v = anyB
            · obtain ⟨d1, hd1⟩ : ∃ d, rn / q = d := ⟨_, rfl⟩
              have ld1 : d1 ≤ rn := hd1 ▸ Nat.div_le_self _ _
              have E1 : (rn : Int).tdiv (q : Int) = (d1 : Int) := by rw [← hd1]; exact IntWalk.up_tdiv rfl rfl
              have hq0 : ¬ (q : Int) = 0 := by omega
              have hq1 : ((q : Int) == 0) = false := beq_eq_false_iff_ne.2 (by omega)
              have W1 : IntKind.i64.wrap (d1 : Int) = (d1 : Int) := IntWalk.i64_in _ (by omega)
              have HD1 := Lib.hid hd1
              clear hd1
              obtain ⟨z, hz⟩ : ∃ z, tr rn k = z := ⟨_, rfl⟩
              have F2 : ((d1 : Int) % 2 == 1) = z := by
                subst hz
                cases ht : tr rn k with
                | true => exact beq_iff_eq.2 (rhalf_yes HQ.out HD1.out ht)
                | false => exact beq_eq_false_iff_ne.2 (by rw [rhalf_no HQ.out HD1.out ht]; decide)
              have F1 : (d1 : Int) % 2 = if z then 1 else 0 := by
                subst hz
                cases ht : tr rn k with
                | true => exact rhalf_yes HQ.out HD1.out ht
                | false => exact rhalf_no HQ.out HD1.out ht
              have HE : Hid (onG (L.take (j + 1)) u k = z) := Lib.hid (onG_here HX.out HON.out (by
                show ((kb v == kb u || kb v == kb anyB) && tr (rn : Int).toNat k) = z
                rw [Int.toNat_natCast, hz]
                rcases hvu with h | h
                · rw [h]; simp
                · rw [h]; simp))
              clear hz
              by_cases hv1 : v = u
              · subst hv1
                clear hvu
                cases z with
                | true =>
                  have F3 : (d1 : Int) % 2 = 1 := by simpa using F1
                  clear F1 F2
                  go_wp2
                  refine wp_region_later wr.heap.size wr (by kernel_rfl) (by kernel_rfl) ?_
                  repeat (go_big_quiet_step ((go_at_call 50; refine (spec_rbit k q _ hlt HQ.out).mono ?_; rintro e w2 ⟨rfl, hb2⟩; exact ⟨rfl, Later.call _ hb2 (Nat.le_refl _)⟩)))
                  refine wpQuiet_nil ?_
                  intro _ hw'
                  obtain ⟨⟨w2, hb2⟩, rfl⟩ := hw'
                  have H6 := Lib.hid hb2
                  have HB6 := Lib.hid (HBr.out.trans (hb2.mono hwr))
                  clear hb2
                  go_wp2
                  go_roundw
                  case rel => exact ⟨j + 1, true, by omega, HE, rfl, by go_num, Nat.le_trans hwr H6.out.size, HB6⟩
                  case measure => simp [intOf]; omega
                | false =>
                  have F3 : (d1 : Int) % 2 = 0 := by simpa using F1
                  clear F1 F2
                  go_wp2
                  refine wp_region_later wr.heap.size wr (by kernel_rfl) (by kernel_rfl) ?_
                  repeat (go_big_quiet_step ((go_at_call 50; refine (spec_rbit k q _ hlt HQ.out).mono ?_; rintro e w2 ⟨rfl, hb2⟩; exact ⟨rfl, Later.call _ hb2 (Nat.le_refl _)⟩)))
                  refine wpQuiet_nil ?_
                  intro _ hw'
                  obtain ⟨⟨w2, hb2⟩, rfl⟩ := hw'
                  have H6 := Lib.hid hb2
                  have HB6 := Lib.hid (HBr.out.trans (hb2.mono hwr))
                  clear hb2
                  go_wp2
                  go_roundw
                  case rel => exact ⟨j + 1, false, by omega, HE, rfl, by go_num, Nat.le_trans hwr H6.out.size, HB6⟩
                  case measure => simp [intOf]; omega
              · have hne : (v.toList == u.toList) = false := by rw [ByteArray.toList_eq, ByteArray.toList_eq]; exact ne_kb hv1
                have hne' : ¬ v.toList = u.toList := beq_eq_false_iff_ne.1 hne
                have hya := any_walk' (hvu.resolve_left hv1)
                have hya' : v.toList = [97, 110, 121, 111, 110, 101] := beq_iff_eq.1 hya
                have hnu : (([97, 110, 121, 111, 110, 101] : List UInt8) == u.toList) = false := by rw [← hya']; exact hne
                have hnu' : ¬ ([97, 110, 121, 111, 110, 101] : List UInt8) = u.toList := beq_eq_false_iff_ne.1 hnu
                clear hv1 hvu hne hne' hya
                cases z with
                | true =>
                  have F3 : (d1 : Int) % 2 = 1 := by simpa using F1
                  clear F1 F2
                  go_wp2
                  refine wp_region_later wr.heap.size wr (by kernel_rfl) (by kernel_rfl) ?_
                  repeat (go_big_quiet_step ((go_at_call 50; refine (spec_rbit k q _ hlt HQ.out).mono ?_; rintro e w2 ⟨rfl, hb2⟩; exact ⟨rfl, Later.call _ hb2 (Nat.le_refl _)⟩)))
                  refine wpQuiet_nil ?_
                  intro _ hw'
                  obtain ⟨⟨w2, hb2⟩, rfl⟩ := hw'
                  have H6 := Lib.hid hb2
                  have HB6 := Lib.hid (HBr.out.trans (hb2.mono hwr))
                  clear hb2
                  go_wp2
                  go_roundw
                  case rel => exact ⟨j + 1, true, by omega, HE, rfl, by go_num, Nat.le_trans hwr H6.out.size, HB6⟩
                  case measure => simp [intOf]; omega
                | false =>
                  have F3 : (d1 : Int) % 2 = 0 := by simpa using F1
                  clear F1 F2
                  go_wp2
                  refine wp_region_later wr.heap.size wr (by kernel_rfl) (by kernel_rfl) ?_
                  repeat (go_big_quiet_step ((go_at_call 50; refine (spec_rbit k q _ hlt HQ.out).mono ?_; rintro e w2 ⟨rfl, hb2⟩; exact ⟨rfl, Later.call _ hb2 (Nat.le_refl _)⟩)))
                  refine wpQuiet_nil ?_
                  intro _ hw'
                  obtain ⟨⟨w2, hb2⟩, rfl⟩ := hw'
                  have H6 := Lib.hid hb2
                  have HB6 := Lib.hid (HBr.out.trans (hb2.mono hwr))
                  clear hb2
                  go_wp2
                  go_roundw
                  case rel => exact ⟨j + 1, false, by omega, HE, rfl, by go_num, Nat.le_trans hwr H6.out.size, HB6⟩
                  case measure => simp [intOf]; omega
            · have hv1 : v ≠ u := fun h => hvu (.inl h)
              have hv2 : v ≠ anyB := fun h => hvu (.inr h)
              have hne : (v.toList == u.toList) = false := by rw [ByteArray.toList_eq, ByteArray.toList_eq]; exact ne_kb hv1
              have hne' : ¬ v.toList = u.toList := beq_eq_false_iff_ne.1 hne
              have hya := any_walk hv2
              have hya' : ¬ v.toList = [97, 110, 121, 111, 110, 101] := beq_eq_false_iff_ne.1 hya
              have HE : Hid (onG (L.take (j + 1)) u k = false) := Lib.hid (onG_here HX.out HON.out (by
                show ((kb v == kb u || kb v == kb anyB) && _) = false
                rw [ne_kb hv1, ne_kb hv2]
                rfl))
              clear hv1 hv2 hvu
              go_wp2
              refine wp_region_later wr.heap.size wr (by kernel_rfl) (by kernel_rfl) ?_
              repeat (go_big_quiet_step ((go_at_call 50; refine (spec_rbit k q _ hlt HQ.out).mono ?_; rintro e w2 ⟨rfl, hb2⟩; exact ⟨rfl, Later.call _ hb2 (Nat.le_refl _)⟩)))
              refine wpQuiet_nil ?_
              intro _ hw'
              obtain ⟨⟨w2, hb2⟩, rfl⟩ := hw'
              have H6 := Lib.hid hb2
              have HB6 := Lib.hid (HBr.out.trans (hb2.mono hwr))
              clear hb2
              go_wp2
              go_roundw
              case rel => exact ⟨j + 1, false, by omega, HE, rfl, by go_num, Nat.le_trans hwr H6.out.size, HB6⟩
              case measure => simp [intOf]; omega
        · have j5 : ¬ (j : Int) < (N : Int) := by omega
          have HT : Hid ((tr (vN L u) k || tr (vN L anyB) k) = on) := Lib.hid (by
            rw [← onG_end HV.out, ← HON.out, List.take_of_length_le (by rw [H.out.1]; omega)])
          cases on with
          | true =>
            have W3 : IntKind.i64.wrap ((C : Int) + (q : Int)) = (C : Int) + (q : Int) := IntWalk.i64_in _ (by omega)
            go_wp2_with fail
            refine (spec_rbit k q _ hlt HQ.out).mono ?_
            rintro e w2 ⟨rfl, hb⟩
            have HB2 := Lib.hid (HBr.out.trans (hb.mono hwr))
            have hw2 : w.heap.size ≤ w2.heap.size := HB2.out.size
            clear hb
            go_wp2
            go_roundw
            case rel => exact ⟨k + 1, by omega, num_eq (by rw [← HC.out]; exact orK_yes HQ.out HT.out), by go_num, hw2, HB2.out⟩
            case measure => simp [intOf]; omega
          | false =>
            go_wp2
            go_roundw
            case rel => exact ⟨k + 1, by omega, by rw [← HC.out, orK_no HT.out], by go_num, hwr, HBr.out⟩
            case measure => simp [intOf]; omega
    · have h5 : ¬ (k : Int) < 6 := by omega
      have hk6 : k = 6 := by omega
      subst hk6
      go_wp2
      go_ret
      exact ⟨ret_i (by rw [HC.out]), HB.out⟩
set_option maxRecDepth 20000 in
set_option maxHeartbeats 4000000 in
theorem spec_aclrights {A : Option Addr} {N cap : Nat} {L : List Gr} {o u : ByteArray} {z : Int} (hz : acR L o u = z) (w : World) (h : GIn w A N cap L) (ho : o.size ≤ 16777216) (hu : u.size ≤ 16777216) :
    Calls Try.prog 38 #[.slice A N cap, .string o, .string u] w (SayI w z) := by
  have H := Lib.hid h
  clear h
  cases hv : vG L with
  | false =>
    have HV := Lib.hid hv
    have HE : Hid (z = -1) := Lib.hid (by rw [← hz]; exact acR_no (by rw [hv]; rfl))
    clear hv hz
    go_enter Try.func38, Try.ntmps38
    go_wp2_with fail
    refine (aclsv_at HV.out _ H.out).mono ?_
    rintro e w1 ⟨rfl, hb⟩
    have HB1 := Lib.hid hb
    clear hb
    go_wp2
    go_ret
    exact ⟨ret_i HE.out.symm, HB1.out⟩
  | true =>
    have HV := Lib.hid hv
    cases hn : nameB (kb o) with
    | false =>
      have HN := Lib.hid hn
      have HE : Hid (z = -1) := Lib.hid (by rw [← hz]; exact acR_no (by rw [hv, hn]; rfl))
      clear hv hz hn
      go_enter Try.func38, Try.ntmps38
      go_wp2_with fail
      refine (aclsv_at HV.out _ H.out).mono ?_
      rintro e w1 ⟨rfl, hb⟩
      have HB1 := Lib.hid hb
      clear hb
      go_wp2_with fail
      refine (sname_at HN.out ho _).mono ?_
      rintro e w2 ⟨rfl, hw2⟩
      subst hw2
      go_wp2
      go_ret
      exact ⟨ret_i HE.out.symm, HB1.out⟩
    | true =>
      have HN := Lib.hid hn
      cases hm : nameB (kb u) with
      | false =>
        have HM := Lib.hid hm
        have HE : Hid (z = -1) := Lib.hid (by rw [← hz]; exact acR_no (by rw [hv, hn, hm]; rfl))
        clear hv hz hn hm
        go_enter Try.func38, Try.ntmps38
        go_wp2_with fail
        refine (aclsv_at HV.out _ H.out).mono ?_
        rintro e w1 ⟨rfl, hb⟩
        have HB1 := Lib.hid hb
        clear hb
        go_wp2_with fail
        refine (sname_at HN.out ho _).mono ?_
        rintro e w2 ⟨rfl, hw2⟩
        subst hw2
        go_wp2_with fail
        refine (sname_at HM.out hu _).mono ?_
        rintro e w3 ⟨rfl, hw3⟩
        subst hw3
        go_wp2
        go_ret
        exact ⟨ret_i HE.out.symm, HB1.out⟩
      | true =>
        have HM := Lib.hid hm
        by_cases he : u = o
        · have HE : Hid (z = 63) := Lib.hid (by rw [← hz]; exact acR_own hv hn hm he)
          subst he
          clear hv hz hn hm
          go_enter Try.func38, Try.ntmps38
          go_wp2_with fail
          refine (aclsv_at HV.out _ H.out).mono ?_
          rintro e w1 ⟨rfl, hb⟩
          have HB1 := Lib.hid hb
          clear hb
          go_wp2_with fail
          refine (sname_at HN.out ho _).mono ?_
          rintro e w2 ⟨rfl, hw2⟩
          subst hw2
          go_wp2_with fail
          refine (sname_at HM.out hu _).mono ?_
          rintro e w3 ⟨rfl, hw3⟩
          subst hw3
          go_wp2
          go_ret
          exact ⟨ret_i HE.out.symm, HB1.out⟩
        · have HE : Hid (z = ((orK (vN L u) (vN L anyB) 6 : Nat) : Int)) := Lib.hid (by rw [← hz]; exact acR_more hv hn hm he)
          have h4 : N ≤ 4 := by rw [← H.out.1]; exact (vG_iff.1 hv).1
          have hne : (u.toList == o.toList) = false := by rw [ByteArray.toList_eq, ByteArray.toList_eq]; exact ne_kb he
          have hne' : ¬ u.toList = o.toList := beq_eq_false_iff_ne.1 hne
          clear hv hz hn hm he
          go_enter Try.func38, Try.ntmps38
          go_wp2_with fail
          refine (aclsv_at HV.out _ H.out).mono ?_
          rintro e w1 ⟨rfl, hb⟩
          have HB1 := Lib.hid hb
          have HH1 := Lib.hid (H.out.below hb (Nat.le_refl _))
          clear hb
          go_wp2_with fail
          refine (sname_at HN.out ho _).mono ?_
          rintro e w2 ⟨rfl, hw2⟩
          subst hw2
          go_wp2_with fail
          refine (sname_at HM.out hu _).mono ?_
          rintro e w3 ⟨rfl, hw3⟩
          subst hw3
          go_wp2_with fail
          refine (spec_of u _ HH1.out HV.out h4).mono ?_
          rintro e w4 ⟨rfl, hb⟩
          have HB4 := Lib.hid (HB1.out.trans (hb.mono HB1.out.size))
          clear hb
          go_wp2
          go_ret
          exact ⟨ret_i HE.out.symm, HB4.out⟩
set_option maxRecDepth 20000 in
set_option maxHeartbeats 4000000 in
theorem impl_aclrights {A : Option Addr} {N cap : Nat} {L : List Gr} {o u : ByteArray} {z : Int} (hz : acR L o u = z) (w : World) (h : GIn w A N cap L) (ho : o.size ≤ 16777216) (hu : u.size ≤ 16777216) :
    Calls Try.prog 37 #[.slice A N cap, .string o, .string u] w (SayI w z) := by
  have H := Lib.hid h
  clear h
  cases hv : vG L with
  | false =>
    have HV := Lib.hid hv
    have HE : Hid (z = -1) := Lib.hid (by rw [← hz]; exact acR_no (by rw [hv]; rfl))
    clear hv hz
    go_enter Try.func37, Try.ntmps37
    go_wp2_with fail
    refine (grants_no _ H.out HV.out).mono ?_
    rintro e w1 ⟨rfl, hb⟩
    have HB1 := Lib.hid hb
    clear hb
    go_wp2
    go_ret
    exact ⟨ret_i HE.out.symm, HB1.out⟩
  | true =>
    have HV := Lib.hid hv
    cases hn : nameB (kb o) with
    | false =>
      have HN := Lib.hid hn
      have HE : Hid (z = -1) := Lib.hid (by rw [← hz]; exact acR_no (by rw [hv, hn]; rfl))
      clear hv hz hn
      go_enter Try.func37, Try.ntmps37
      go_wp2_with fail
      refine (grants_yes _ H.out HV.out).mono ?_
      rintro e w1 ⟨g, n, rfl, hn4, hwg, hm, hb⟩
      have HB1 := Lib.hid hb
      clear hb hm
      go_wp2_with fail
      refine (iname_at HN.out ho _).mono ?_
      rintro e w2 ⟨rfl, hb⟩
      have HB2 := Lib.hid (HB1.out.trans (hb.mono HB1.out.size))
      clear hb
      go_wp2
      go_ret
      exact ⟨ret_i HE.out.symm, HB2.out⟩
    | true =>
      have HN := Lib.hid hn
      cases hm : nameB (kb u) with
      | false =>
        have HM := Lib.hid hm
        have HE : Hid (z = -1) := Lib.hid (by rw [← hz]; exact acR_no (by rw [hv, hn, hm]; rfl))
        clear hv hz hn hm
        go_enter Try.func37, Try.ntmps37
        go_wp2_with fail
        refine (grants_yes _ H.out HV.out).mono ?_
        rintro e w1 ⟨g, n, rfl, hn4, hwg, hm, hb⟩
        have HB1 := Lib.hid hb
        clear hb hm
        go_wp2_with fail
        refine (iname_at HN.out ho _).mono ?_
        rintro e w2 ⟨rfl, hb⟩
        have HB2 := Lib.hid (HB1.out.trans (hb.mono HB1.out.size))
        clear hb
        go_wp2_with fail
        refine (iname_at HM.out hu _).mono ?_
        rintro e w3 ⟨rfl, hb⟩
        have HB3 := Lib.hid (HB2.out.trans (hb.mono HB2.out.size))
        clear hb
        go_wp2
        go_ret
        exact ⟨ret_i HE.out.symm, HB3.out⟩
      | true =>
        have HM := Lib.hid hm
        by_cases he : u = o
        · have HE : Hid (z = 63) := Lib.hid (by rw [← hz]; exact acR_own hv hn hm he)
          subst he
          clear hv hz hn hm
          go_enter Try.func37, Try.ntmps37
          go_wp2_with fail
          refine (grants_yes _ H.out HV.out).mono ?_
          rintro e w1 ⟨g, n, rfl, hn4, hwg, hm, hb⟩
          have HB1 := Lib.hid hb
          clear hb hm
          go_wp2_with fail
          refine (iname_at HN.out ho _).mono ?_
          rintro e w2 ⟨rfl, hb⟩
          have HB2 := Lib.hid (HB1.out.trans (hb.mono HB1.out.size))
          clear hb
          go_wp2_with fail
          refine (iname_at HM.out hu _).mono ?_
          rintro e w3 ⟨rfl, hb⟩
          have HB3 := Lib.hid (HB2.out.trans (hb.mono HB2.out.size))
          clear hb
          go_wp2
          go_ret
          exact ⟨ret_i HE.out.symm, HB3.out⟩
        · have HE : Hid (z = ((orK (vN L u) (vN L anyB) 6 : Nat) : Int)) := Lib.hid (by rw [← hz]; exact acR_more hv hn hm he)
          have hne : (u.toList == o.toList) = false := by rw [ByteArray.toList_eq, ByteArray.toList_eq]; exact ne_kb he
          have hne' : ¬ u.toList = o.toList := beq_eq_false_iff_ne.1 hne
          obtain ⟨a, hae⟩ : ∃ a, vN L u = a := ⟨_, rfl⟩
          obtain ⟨c, hce⟩ : ∃ c, vN L anyB = c := ⟨_, rfl⟩
          have hal := (vN_lt hv u).1
          have hcl := (vN_lt hv anyB).1
          rw [hae] at hal
          rw [hce] at hcl
          have HAE : Hid (valG L u = (a : Int)) := Lib.hid (by rw [(vN_lt hv u).2, hae])
          have HCE : Hid (valG L anyB = (c : Int)) := Lib.hid (by rw [(vN_lt hv anyB).2, hce])
          have HOR : Hid (bits .or .i64 (a : Int) (c : Int) = z) := Lib.hid (by rw [HE.out, hae, hce]; exact or_right hal hcl)
          clear hv hz hn hm he hae hce
          go_enter Try.func37, Try.ntmps37
          go_wp2_with fail
          refine (grants_yes _ H.out HV.out).mono ?_
          rintro e w1 ⟨g, n, rfl, hn4, hwg, hm, hb⟩
          have HB1 := Lib.hid hb
          have HM1 := Lib.hid hm
          clear hb hm
          go_wp2_with fail
          refine (iname_at HN.out ho _).mono ?_
          rintro e w2 ⟨rfl, hb⟩
          have HB2 := Lib.hid (HB1.out.trans (hb.mono HB1.out.size))
          have HM2 := Lib.hid (HM1.out.below hb (Nat.le_refl _))
          clear hb
          go_wp2_with fail
          refine (iname_at HM.out hu _).mono ?_
          rintro e w3 ⟨rfl, hb⟩
          have HB3 := Lib.hid (HB2.out.trans (hb.mono HB2.out.size))
          obtain ⟨D, hown, hD⟩ := HM2.out.below hb (Nat.le_refl _)
          have HO := Lib.hid hown
          have HDD := Lib.hid hD
          have HK := Lib.hid (key_in hu)
          have HKA : Hid (keyOf Try.prog 9 (.string ⟨#[97, 110, 121, 111, 110, 101]⟩) = some (.string (kb anyB))) := Lib.hid (key_in (u := anyB) (by decide))
          clear hb hown hD
          go_wp2_with (at_lookup; refine wpList_lookup_own_int _ rfl (.tmp 29) (.tmp 30) 66 rfl 9 3 .i64 lawS Try.underlying66 Try.underlying3 (zeroI _) g n _ rfl HO.out _ _ rfl HK.out ?_)
          intro x hat _
          have hx : x = (a : Int) := (look_val HDD.out hat).trans HAE.out
          clear hat
          subst hx
          go_wp2_with (at_lookup; refine wpList_lookup_own_int _ rfl (.tmp 32) (.const (.string ⟨#[97, 110, 121, 111, 110, 101]⟩)) 66 rfl 9 3 .i64 lawS Try.underlying66 Try.underlying3 (zeroI _) g n _ rfl HO.out _ _ rfl HKA.out ?_)
          intro y hat _
          have hy : y = (c : Int) := (look_val HDD.out hat).trans HCE.out
          clear hat
          subst hy
          go_wp2
          go_ret
          exact ⟨ret_i HOR.out, HB3.out⟩
end Go.Proofs.Ytnnmnphmbjfopaa
