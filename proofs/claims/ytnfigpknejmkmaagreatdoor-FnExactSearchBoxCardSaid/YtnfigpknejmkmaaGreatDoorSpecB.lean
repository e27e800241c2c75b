/-
  The contracts of spec.DomainValid, l1Address, AddressParse, AddressText and PathParse. No condition beyond a bound on the text's length.
-/
import Derived.Test.YtnfigpknejmkmaaGreatDoorCut
import Derived.Test.YtnfigpknejmkmaaGreatDoorParse
import Derived.RegionTactic
import Derived.BigRegion
namespace Go.Proofs.YtnfigpknejmkmaaGreatDoor
open Go.RowKit
set_option linter.unusedVariables false

/-- A domain. -/
def domB (L : List UInt8) : Bool := (cut 46 L).all nameB && decide ((cut 46 L).length ≤ 3) && decide (L.length ≤ 20)
theorem part_mem {α : Type} {l : List α} {x : α} {j : Nat} (d : α) (h : j < l.length) (e : l.getD j d = x) : x ∈ l := by
  rw [List.getD_eq_getElem?_getD, List.getElem?_eq_getElem h] at e
  subst e
  exact List.getElem_mem h
theorem spec_name_str (l : List UInt8) (w : World) (hs : l.length ≤ 16777216) : Calls Tryz.prog 105 #[str l] w fun e w' => e = .returned (.bool (nameB l)) ∧ w = w' := by
  have := spec_name ⟨l.toArray⟩ w hs
  simpa [str] using this
theorem cutGo_le (c : UInt8) (l : List UInt8) : ∀ cur, ∀ x ∈ cutGo c cur l, x.length ≤ cur.length + l.length := by
  induction l with
  | nil => intro cur x hx; simp [cutGo] at hx; subst hx; simp
  | cons y t ih =>
    intro cur x hx
    unfold cutGo at hx
    split at hx
    · rcases List.mem_cons.1 hx with rfl | h
      · omega
      · have := ih [] x h; simp at this; simp; omega
    · have := ih _ x hx; simp at this; simp; omega
theorem cut_le {c : UInt8} {L x : List UInt8} (h : x ∈ cut c L) : x.length ≤ L.length := by have := cutGo_le c L [] x h; simpa using this
theorem all_tk {α : Type} (f : α → Bool) (L : List α) (k : Nat) (hk : k < L.length) (h : (L.take k).all f = true) (hf : f (L[k]) = true) : (L.take (k + 1)).all f = true := by
  rw [List.take_succ_eq_append_getElem hk, List.all_append, h]
  simp [hf]
theorem all_no {α : Type} (f : α → Bool) (L : List α) (k : Nat) (hk : k < L.length) (h : f L[k] = false) : L.all f = false := by
  rw [← Bool.not_eq_true]
  intro ha
  rw [List.all_eq_true] at ha
  have := ha L[k] (List.getElem_mem hk)
  rw [h] at this
  cases this

theorem str_back (l : List UInt8) : (⟨l.toArray⟩ : ByteArray).data.toList = l := rfl
/-- The user and the domain of a text, if there are just two parts. -/
def two (L : List UInt8) : List (List UInt8) := cut 64 L
def spB (L : List UInt8) : Bool := decide ((two L).length = 2) && (nameB ((two L).getD 0 []) && domB ((two L).getD 1 []))
/-- The text of an address. -/
def adText (u d : List UInt8) : List UInt8 := if (nameB u && domB d) = true then u ++ 64 :: d else []
theorem adText_yes {u d : List UInt8} (h : (nameB u && domB d) = true) : adText u d = u ++ 64 :: d := by unfold adText; rw [if_pos h]
theorem adText_no {u d : List UInt8} (h : (nameB u && domB d) = false) : adText u d = [] := by unfold adText; rw [h]; rfl
/-- What a writer of addresses leaves. -/
def Wrote (w : World) (L : List UInt8) (e : Ending) (w' : World) : Prop := ∃ v : ByteArray, v.data.toList = L ∧ e = .returned (.string v) ∧ Below w.heap.size w w'
theorem cat_data (u d : ByteArray) : (u ++ ⟨#[64]⟩ ++ d).data.toList = u.data.toList ++ 64 :: d.data.toList := by simp
end Go.Proofs.YtnfigpknejmkmaaGreatDoor
