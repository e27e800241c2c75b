/-
  The contracts of PlainMake and PlainParse, of the code and of the model. Conditions: bounds on the texts' lengths.
-/
import Derived.Test.YtkhfflbgnojcfaaPmath
import Derived.Test.YtkhfflbgnojcfaaIloop
import Derived.Test.YtkhfflbgnojcfaaVals
import Derived.Test.YtkhfflbgnojcfaaBbase
namespace Go.Proofs.Ytkhfflbgnojcfaa
open Go.RowKit
set_option linter.unusedVariables false

/-- The text of a proof. -/
def mkB (u p : ByteArray) : ByteArray := bt (mk u.data.toList p.data.toList)
theorem zero_cat (u p : ByteArray) : ((⟨#[0]⟩ : ByteArray) ++ u ++ ⟨#[0]⟩ ++ p).data.toList = two0 u.data.toList p.data.toList := by
  unfold two0
  rw [cat_list, cat_list, cat_list]
  simp
theorem zero_size (u p : ByteArray) : ((⟨#[0]⟩ : ByteArray) ++ u ++ ⟨#[0]⟩ ++ p).size = u.size + p.size + 2 := by
  rw [ByteArray.size_append, ByteArray.size_append, ByteArray.size_append, one_size]
  omega
theorem name_size {u : ByteArray} (h : nameB u.data.toList = true) : u.size ≤ 8 := by
  have h1 := (nameB_iff.1 h).2.2
  have hl : u.data.toList.length = u.size := by simp
  omega
theorem mkB_yes {u p : ByteArray} (hu : nameB u.data.toList = true) (hp : nameB p.data.toList = true) : encB ((⟨#[0]⟩ : ByteArray) ++ u ++ ⟨#[0]⟩ ++ p) = mkB u p := by
  have h1 := name_size hu
  have h2 := name_size hp
  rw [encB_yes (by rw [zero_size]; omega), zero_cat]
  unfold mkB
  rw [mk_yes hu hp]
theorem mkB_yes' {u p : ByteArray} (hu : nameB u.data.toList = true) (hp : nameB p.data.toList = true) : bt (enc ((⟨#[0]⟩ : ByteArray) ++ u ++ ⟨#[0]⟩ ++ p).data.toList) = mkB u p := by
  have h1 := name_size hu
  have h2 := name_size hp
  rw [← mkB_yes hu hp, encB_yes (by rw [zero_size]; omega)]
theorem mkB_no {u p : ByteArray} (h : (nameB u.data.toList && nameB p.data.toList) = false) : mkB u p = ⟨#[]⟩ := by
  unfold mkB
  rw [mk_no h]
  rfl
theorem mkB_le (u p : ByteArray) : (mkB u p).size ≤ 24 := by
  unfold mkB
  rw [bt_size]
  unfold mk
  split
  · rename_i h
    rw [Bool.and_eq_true] at h
    have h1 := name_size h.1
    have h2 := name_size h.2
    rw [enc_len, ← zero_cat]
    have hl : ∀ v : ByteArray, v.data.toList.length = v.size := fun v => by simp
    rw [hl, zero_size]
    omega
  · exact Nat.zero_le _

end Go.Proofs.Ytkhfflbgnojcfaa
