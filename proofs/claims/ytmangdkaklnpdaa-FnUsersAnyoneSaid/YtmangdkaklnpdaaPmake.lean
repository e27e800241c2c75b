/-
  The contracts of PlainMake and PlainParse, of the code and of the model. Conditions: bounds on the texts' lengths.
-/
import Derived.Test.YtmangdkaklnpdaaPmath
import Derived.Test.YtmangdkaklnpdaaIloop
import Derived.Test.YtmangdkaklnpdaaVals
import Derived.Test.YtmangdkaklnpdaaBbase
namespace Go.Proofs.Ytmangdkaklnpdaa
open Go.RowKit
set_option linter.unusedVariables false

/-- The text of a proof. -/
def mkB (u p : ByteArray) : ByteArray := bt (mk u.data.toList p.data.toList)
theorem zero_cat (u p : ByteArray) : ((⟨#[0]⟩ : ByteArray) ++ u ++ ⟨#[0]⟩ ++ p).data.toList = two0 u.data.toList p.data.toList := by
  unfold two0
  rw [cat_list, cat_list, cat_list]
  simp
theorem zero_size (u p : ByteArray) : ((⟨#[0]⟩ : ByteArray) ++ u ++ ⟨#[0]⟩ ++ p).size = u.size + p.size + 2 := by
  rw [ByteArray.size_append, ByteArray.size_append, ByteArray.size_append, one_size]
  omega
theorem name_size {u : ByteArray} (h : nameB u.data.toList = true) : u.size ≤ 8 := by
  have h1 := (nameB_iff.1 h).2.2
  have hl : u.data.toList.length = u.size := by simp
  omega
theorem mkB_yes {u p : ByteArray} (hu : nameB u.data.toList = true) (hp : nameB p.data.toList = true) : encB ((⟨#[0]⟩ : ByteArray) ++ u ++ ⟨#[0]⟩ ++ p) = mkB u p := by
  have h1 := name_size hu
  have h2 := name_size hp
  rw [encB_yes (by rw [zero_size]; omega), zero_cat]
  unfold mkB
  rw [mk_yes hu hp]
theorem mkB_yes' {u p : ByteArray} (hu : nameB u.data.toList = true) (hp : nameB p.data.toList = true) : bt (enc ((⟨#[0]⟩ : ByteArray) ++ u ++ ⟨#[0]⟩ ++ p).data.toList) = mkB u p := by
  have h1 := name_size hu
  have h2 := name_size hp
  rw [← mkB_yes hu hp, encB_yes (by rw [zero_size]; omega)]
theorem mkB_no {u p : ByteArray} (h : (nameB u.data.toList && nameB p.data.toList) = false) : mkB u p = ⟨#[]⟩ := by
  unfold mkB
  rw [mk_no h]
  rfl
theorem mkB_le (u p : ByteArray) : (mkB u p).size ≤ 24 := by
  unfold mkB
  rw [bt_size]
  unfold mk
  split
  · rename_i h
    rw [Bool.and_eq_true] at h
    have h1 := name_size h.1
    have h2 := name_size h.2
    rw [enc_len, ← zero_cat]
    have hl : ∀ v : ByteArray, v.data.toList.length = v.size := fun v => by simp
    rw [hl, zero_size]
    omega
  · exact Nat.zero_le _

set_option maxHeartbeats 1000000 in
theorem imake (u p : ByteArray) (w : World) (hu : u.size ≤ 16777216) (hp : p.size ≤ 16777216) : Calls Try.prog 25 #[.string u, .string p] w (Says w (mkB u p)) := by
  cases hv : nameB u.data.toList with
  | false =>
    have HV := Lib.hid hv
    have HN := Lib.hid (mkB_no (u := u) (p := p) (by rw [hv]; rfl))
    clear hv
    go_enter Try.func25, Try.ntmps25
    go_wp2_with fail
    refine (impl_name u _ hu).mono ?_
    rintro e w1 ⟨rfl, hb⟩
    have HB := Lib.hid hb
    clear hb
    rw [HV.out]
    go_wp2
    go_ret
    exact ⟨by rw [HN.out]; rfl, HB.out⟩
  | true =>
    have HV := Lib.hid hv
    clear hv
    cases hx : nameB p.data.toList with
    | false =>
      have HX := Lib.hid hx
      have HN := Lib.hid (mkB_no (u := u) (p := p) (by rw [hx]; simp))
      clear hx
      go_enter Try.func25, Try.ntmps25
      go_wp2_with fail
      refine (impl_name u _ hu).mono ?_
      rintro e w1 ⟨rfl, hb⟩
      have HB := Lib.hid hb
      clear hb
      rw [HV.out]
      go_wp2_with fail
      refine (impl_name p _ hp).mono ?_
      rintro e w2 ⟨rfl, hb⟩
      have HB2 := Lib.hid (HB.out.trans (hb.mono HB.out.size))
      clear hb
      rw [HX.out]
      go_wp2
      go_ret
      exact ⟨by rw [HN.out]; rfl, HB2.out⟩
    | true =>
      have HX := Lib.hid hx
      have HN := Lib.hid (mkB_yes HV.out hx)
      clear hx
      go_enter Try.func25, Try.ntmps25
      go_wp2_with fail
      refine (impl_name u _ hu).mono ?_
      rintro e w1 ⟨rfl, hb⟩
      have HB := Lib.hid hb
      clear hb
      rw [HV.out]
      go_wp2_with fail
      refine (impl_name p _ hp).mono ?_
      rintro e w2 ⟨rfl, hb⟩
      have HB2 := Lib.hid (HB.out.trans (hb.mono HB.out.size))
      clear hb
      rw [HX.out]
      go_wp2_with fail
      refine (ienc _ _).mono ?_
      rintro e w3 ⟨rfl, hb⟩
      have HB3 := Lib.hid (HB2.out.trans (hb.mono HB2.out.size))
      clear hb
      rw [HN.out]
      go_wp2
      go_ret
      exact ⟨rfl, HB3.out⟩
set_option maxHeartbeats 1000000 in
theorem smake (u p : ByteArray) (w : World) (hu : u.size ≤ 16777216) (hp : p.size ≤ 16777216) : Calls Try.prog 47 #[.string u, .string p] w (Says w (mkB u p)) := by
  cases hv : nameB u.data.toList with
  | false =>
    have HV := Lib.hid hv
    have HN := Lib.hid (mkB_no (u := u) (p := p) (by rw [hv]; rfl))
    clear hv
    go_enter Try.func47, Try.ntmps47
    go_wp2_with fail
    refine (spec_name u _ hu).mono ?_
    rintro e w1 ⟨rfl, rfl⟩
    rw [HV.out]
    go_wp2
    go_ret
    exact ⟨by rw [HN.out]; rfl, Below.refl _ _⟩
  | true =>
    have HV := Lib.hid hv
    clear hv
    cases hx : nameB p.data.toList with
    | false =>
      have HX := Lib.hid hx
      have HN := Lib.hid (mkB_no (u := u) (p := p) (by rw [hx]; simp))
      clear hx
      go_enter Try.func47, Try.ntmps47
      go_wp2_with fail
      refine (spec_name u _ hu).mono ?_
      rintro e w1 ⟨rfl, rfl⟩
      rw [HV.out]
      go_wp2_with fail
      refine (spec_name p _ hp).mono ?_
      rintro e w2 ⟨rfl, rfl⟩
      rw [HX.out]
      go_wp2
      go_ret
      exact ⟨by rw [HN.out]; rfl, Below.refl _ _⟩
    | true =>
      have HX := Lib.hid hx
      have HN := Lib.hid (mkB_yes' HV.out hx)
      have hsz : ((⟨#[0]⟩ : ByteArray) ++ u ++ ⟨#[0]⟩ ++ p).size ≤ 16777216 := by rw [zero_size]; have := name_size HV.out; have := name_size hx; omega
      have HZ := Lib.hid hsz
      clear hx hsz
      go_enter Try.func47, Try.ntmps47
      go_wp2_with fail
      refine (spec_name u _ hu).mono ?_
      rintro e w1 ⟨rfl, rfl⟩
      rw [HV.out]
      go_wp2_with fail
      refine (spec_name p _ hp).mono ?_
      rintro e w2 ⟨rfl, rfl⟩
      rw [HX.out]
      go_wp2_with fail
      refine (encode_any _ _ HZ.out).mono ?_
      rintro e w3 ⟨rfl, hb⟩
      have HB3 := Lib.hid hb
      clear hb
      rw [HN.out]
      go_wp2
      go_ret
      exact ⟨rfl, HB3.out⟩
end Go.Proofs.Ytmangdkaklnpdaa
