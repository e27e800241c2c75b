/-
  The contracts of the code's AclSet and AclRights. Condition: the grants can be read, and are not too many.
-/
import Derived.Test.YtnnmnphmbjfopaaGn
namespace Go.Proofs.Ytnnmnphmbjfopaa
open Go.RowKit Go.Maps Go.WideMaps
set_option linter.unusedVariables false

/-- Grants of the call's own, and whether. -/
def GivesGB (w : World) (L : List Gr) (b : Bool) (e : Ending) (w' : World) : Prop := ∃ A N cap, e = .returned (.tuple #[.slice A N cap, .bool b]) ∧ ROwn grR w' w.heap.size (.slice A N cap) L ∧ Below w.heap.size w w'
theorem iname_at {u : ByteArray} {z : Bool} (h : nameB (kb u) = z) (hu : u.size ≤ 16777216) (w : World) : Calls Try.prog 40 #[.string u] w (SayB w z) := by
  subst h
  exact impl_name u w hu
theorem iright_at {r : Int} {z : Bool} (h : isR r = z) (w : World) : Calls Try.prog 48 #[.int .i64 r] w fun e w' => e = .returned (.bool z) ∧ w' = w := by
  subst h
  exact impl_isr r w
theorem aclG_no {L : List Gr} {u : ByteArray} {r : Int} (h : (vG L && (nameB (kb u) && isR r)) = false) : aclG L u r = ([], false) := by unfold aclG; rw [h]; rfl
theorem aclG_yes {L : List Gr} {u : ByteArray} {r : Int} (h1 : vG L = true) (h2 : nameB (kb u) = true) (h3 : isR r = true) : aclG L u r = if (setG L u r).length ≤ 4 then (setG L u r, true) else (L, false) := by unfold aclG; rw [h1, h2, h3]; rfl
set_option maxRecDepth 20000 in
set_option maxHeartbeats 4000000 in
theorem impl_aclset_no {A : Option Addr} {N cap : Nat} {L : List Gr} (u : ByteArray) (r : Int) (w : World) (h : GIn w A N cap L) (hu : u.size ≤ 16777216) (hno : (vG L && (nameB (kb u) && isR r)) = false) :
    Calls Try.prog 31 #[.slice A N cap, .string u, .int .i64 r] w (GivesGB w [] false) := by
  have H := Lib.hid h
  clear h
  cases hv : vG L with
  | false =>
    have HV := Lib.hid hv
    clear hv hno
    go_enter Try.func31, Try.ntmps31
    go_wp2_with fail
    refine (grants_no _ H.out HV.out).mono ?_
    rintro e w1 ⟨rfl, hb⟩
    have HB1 := Lib.hid hb
    clear hb
    go_wp2
    go_ret2
    exact ⟨none, 0, 0, rfl, ROwn.nil _ _, HB1.out⟩
  | true =>
    have HV := Lib.hid hv
    rw [hv, Bool.true_and] at hno
    cases hn : nameB (kb u) with
    | false =>
      have HN := Lib.hid hn
      clear hv hno hn
      go_enter Try.func31, Try.ntmps31
      go_wp2_with fail
      refine (grants_yes _ H.out HV.out).mono ?_
      rintro e w1 ⟨g, n, rfl, hn4, hwg, hm, hb⟩
      have HB1 := Lib.hid hb
      clear hb hm
      go_wp2_with fail
      refine (iname_at HN.out hu _).mono ?_
      rintro e w2 ⟨rfl, hb⟩
      have HB2 := Lib.hid (HB1.out.trans (hb.mono HB1.out.size))
      clear hb
      go_wp2
      go_ret2
      exact ⟨none, 0, 0, rfl, ROwn.nil _ _, HB2.out⟩
    | true =>
      have HN := Lib.hid hn
      have HR : Hid (isR r = false) := Lib.hid (by rw [hn, Bool.true_and] at hno; exact hno)
      clear hv hno hn
      go_enter Try.func31, Try.ntmps31
      go_wp2_with fail
      refine (grants_yes _ H.out HV.out).mono ?_
      rintro e w1 ⟨g, n, rfl, hn4, hwg, hm, hb⟩
      have HB1 := Lib.hid hb
      clear hb hm
      go_wp2_with fail
      refine (iname_at HN.out hu _).mono ?_
      rintro e w2 ⟨rfl, hb⟩
      have HB2 := Lib.hid (HB1.out.trans (hb.mono HB1.out.size))
      clear hb
      go_wp2_with fail
      refine (iright_at HR.out _).mono ?_
      rintro e w3 ⟨rfl, hw3⟩
      subst hw3
      go_wp2
      go_ret2
      exact ⟨none, 0, 0, rfl, ROwn.nil _ _, HB2.out⟩
theorem setG_asc {L : List Gr} (ha : ascG L) (u : ByteArray) (r : Int) : ascG (setG L u r) := by
  unfold setG
  split
  · exact asc_filter ha _
  · exact insG_asc ha u r
theorem setG_size {L : List Gr} (ha : ascG L) {u : ByteArray} {r : Int} (hs : ∀ x ∈ L, x.1.size ≤ 16777216) (hu : u.size ≤ 16777216) : ∀ x ∈ setG L u r, x.1.size ≤ 16777216 := by
  intro x hx
  unfold setG at hx
  split at hx
  · exact hs x (delG_mem.1 hx).1
  · rcases (insG_mem ha).1 hx with h | rfl
    · exact hs x h.1
    · exact hu
/-- What a change leaves, and whether. -/
theorem set_any {g n : Nat} {L : List Gr} (u : ByteArray) (r : Int) (w : World) (hn : n ≤ 4) (h : GMap w g n L) (hv : vG L = true) (hu : u.size ≤ 16777216) (hr : isR r = true) :
    Calls Try.prog 59 #[.map (some g), .string u, .int .i64 r] w (SetMap w g (if (setG L u r).length ≤ 4 then setG L u r else L) (decide ((setG L u r).length ≤ 4))) := by
  obtain ⟨h4, hok, ha⟩ := vG_iff.1 hv
  by_cases h0 : r = 0
  · subst h0
    have e : setG L u 0 = delG L u := rfl
    have hl : (delG L u).length ≤ 4 := Nat.le_trans (List.length_filter_le _ _) h4
    rw [e, if_pos hl, decide_eq_true hl]
    exact set_zero u w hn h ha hu
  · have e : setG L u r = insG L u r := if_neg h0
    rw [e]
    unfold isR at hr
    simp at hr
    exact set_more u r w hn h ha hok hu (by omega) hr.2 h4
set_option maxRecDepth 20000 in
set_option maxHeartbeats 4000000 in
theorem impl_aclset_yes {A : Option Addr} {N cap : Nat} {L M : List Gr} {z : Bool} (u : ByteArray) (r : Int) (w : World) (h : GIn w A N cap L) (hu : u.size ≤ 16777216) (hv : vG L = true) (hn : nameB (kb u) = true) (hr : isR r = true)
    (hM : (if (setG L u r).length ≤ 4 then setG L u r else L) = M) (hz : decide ((setG L u r).length ≤ 4) = z) :
    Calls Try.prog 31 #[.slice A N cap, .string u, .int .i64 r] w (GivesGB w M z) := by
  obtain ⟨h4, hok, ha⟩ := vG_iff.1 hv
  have hs := h.2.2.2.2.2
  have hMa : ascG M := by
    rw [← hM]
    split
    · exact setG_asc ha u r
    · exact ha
  have hMs : ∀ x ∈ M, x.1.size ≤ 16777216 := by
    rw [← hM]
    split
    · exact setG_size ha hs hu
    · exact hs
  have hMl : M.length ≤ 100 := by
    rw [← hM]
    split <;> omega
  have H := Lib.hid h
  have HV := Lib.hid hv
  have HN := Lib.hid hn
  have HR := Lib.hid hr
  have HMA := Lib.hid hMa
  have HMS := Lib.hid hMs
  have HML := Lib.hid hMl
  have HME := Lib.hid hM
  have HZ := Lib.hid hz
  clear h hv hn hr hMa hMs hMl hM hz h4 hok ha hs
  go_enter Try.func31, Try.ntmps31
  go_wp2_with fail
  refine (grants_yes _ H.out HV.out).mono ?_
  rintro e w1 ⟨g, n, rfl, hn4, hwg, hm, hb⟩
  have HB1 := Lib.hid hb
  have HM1 := Lib.hid hm
  clear hb hm
  go_wp2_with fail
  refine (iname_at HN.out hu _).mono ?_
  rintro e w2 ⟨rfl, hb⟩
  have HB2 := Lib.hid (HB1.out.trans (hb.mono HB1.out.size))
  have HM2 := Lib.hid (HM1.out.below hb (Nat.le_refl _))
  clear hb
  go_wp2_with fail
  refine (iright_at HR.out _).mono ?_
  rintro e w3 ⟨rfl, hw3⟩
  subst hw3
  go_wp2_with fail
  refine (set_any u r _ hn4 HM2.out HV.out hu HR.out).mono ?_
  rw [HME.out, HZ.out]
  rintro e w4 ⟨n4, rfl, hn5, hm, hg⟩
  have HM4 := Lib.hid hm
  have HB4 : Hid (Below w.heap.size w w4) := Lib.hid (HB2.out.grown hg HB2.out.size (fun j hj => by cases hj; exact hwg))
  clear hm hg
  go_wp2_with fail
  refine (map_list _ HM4.out HMA.out HML.out HMS.out).mono ?_
  rintro e w5 ⟨A5, N5, cap5, rfl, ho, hb⟩
  have HO5 := Lib.hid (ho.from HB4.out.size)
  have HB5 := Lib.hid (HB4.out.trans (hb.mono HB4.out.size))
  clear ho hb
  go_wp2
  go_ret2
  exact ⟨A5, N5, cap5, rfl, HO5.out, HB5.out⟩
theorem impl_aclset {A : Option Addr} {N cap : Nat} {L M : List Gr} {z : Bool} {u : ByteArray} {r : Int} (he : aclG L u r = (M, z)) (w : World) (h : GIn w A N cap L) (hu : u.size ≤ 16777216) :
    Calls Try.prog 31 #[.slice A N cap, .string u, .int .i64 r] w (GivesGB w M z) := by
  cases hc : (vG L && (nameB (kb u) && isR r)) with
  | false =>
    rw [aclG_no hc] at he
    cases he
    exact impl_aclset_no u r w h hu hc
  | true =>
    simp only [Bool.and_eq_true] at hc
    rw [aclG_yes hc.1 hc.2.1 hc.2.2] at he
    refine impl_aclset_yes u r w h hu hc.1 hc.2.1 hc.2.2 ?_ ?_
    · split at he <;> cases he <;> simp [*]
    · split at he <;> cases he <;> simp [*]
end Go.Proofs.Ytnnmnphmbjfopaa
