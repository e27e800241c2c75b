/-
  The contracts of the model's l4Names and FlagsText. No condition.
-/
import Derived.Test.YtllhcogmcfgnoaaFspc
namespace Go.Proofs.Ytllhcogmcfgnoaa
open Go.RowKit
set_option linter.unusedVariables false

/-- A text. -/
def sB (l : List UInt8) : ByteArray := ⟨l.toArray⟩
theorem sB_list (l : List UInt8) : (sB l).data.toList = l := by unfold sB; simp
theorem sB_size (l : List UInt8) : (sB l).size = l.length := by unfold sB; rw [ByteArray.size]; simp
theorem sB_ext {u v : ByteArray} (h : u.data.toList = v.data.toList) : u = v := by
  cases u
  cases v
  congr
  exact Array.toList_inj.1 h
theorem sB_cat (a b : List UInt8) : sB a ++ sB b = sB (a ++ b) := by
  refine sB_ext ?_
  rw [ByteArray.data_append, Array.toList_append, sB_list, sB_list, sB_list]
theorem sB_of (s : ByteArray) : sB s.data.toList = s := sB_ext (sB_list _)
def fnames : Array Value := #[.string ⟨#[83, 101, 101, 110]⟩, .string ⟨#[65, 110, 115, 119, 101, 114, 101, 100]⟩, .string ⟨#[70, 108, 97, 103, 103, 101, 100]⟩, .string ⟨#[68, 101, 108, 101, 116, 101, 100]⟩, .string ⟨#[68, 114, 97, 102, 116]⟩]
theorem fnames_at {k : Nat} (hk : k < 5) : fnames[k]? = some (.string (sB (fnm k))) := by
  match k, hk with
  | 0, _ => rfl
  | 1, _ => rfl
  | 2, _ => rfl
  | 3, _ => rfl
  | 4, _ => rfl
theorem fnm_len {k : Nat} (hk : k < 5) : (fnm k).length ≤ 8 := by
  match k, hk with
  | 0, _ | 1, _ | 2, _ | 3, _ | 4, _ => decide
/-- What l4Names gives. -/
def Names (w : World) (e : Ending) (w' : World) : Prop := e = .returned (.slice (some ⟨w.heap.size, 0, none⟩) 5 5) ∧ Whole w' w.heap.size 9 fnames ∧ Below w.heap.size w w'
/-- A text that is told. -/
def SaysT (w : World) (l : List UInt8) (e : Ending) (w' : World) : Prop := e = .returned (.string (sB l)) ∧ Below w.heap.size w w'
/-- The text of what may be no flags. -/
def ftI (f : Int) : List UInt8 := if isF f then textF f.toNat else []
theorem ftI_yes {f : Nat} (hf : f < 32) : ftI (f : Int) = textF f := by
  unfold ftI
  rw [isF_of hf]
  rfl
theorem ftI_no {f : Int} (hf : isF f = false) : ftI f = [] := by
  unfold ftI
  rw [hf]
  rfl
theorem out_yes {f k : Nat} (h : tb f k = true) (h1 : 1 < (outF f k).length) : (outF f k ++ [32]) ++ fnm k = outF f (k + 1) := by rw [outF, if_pos h, if_pos h1]
theorem out_first {f k : Nat} (h : tb f k = true) (h1 : ¬ 1 < (outF f k).length) : outF f k ++ fnm k = outF f (k + 1) := by rw [outF, if_pos h, if_neg h1]
theorem out_no {f k : Nat} (h : tb f k = false) : outF f k = outF f (k + 1) := by rw [outF, if_neg (by rw [h]; simp)]
theorem blank_B : (⟨#[32]⟩ : ByteArray) = sB [32] := rfl
theorem cat_three (a b : List UInt8) : sB a ++ ⟨#[32]⟩ ++ sB b = sB ((a ++ [32]) ++ b) := by rw [blank_B, sB_cat, sB_cat]
theorem cat_end (a : List UInt8) : sB a ++ ⟨#[41]⟩ = sB (a ++ [41]) := by rw [show (⟨#[41]⟩ : ByteArray) = sB [41] from rfl, sB_cat]
theorem ret_str {a b : ByteArray} (h : a = b) : Ending.returned (.string a) = .returned (.string b) := by rw [h]
theorem val_str {a b : ByteArray} (h : a = b) : Value.string a = .string b := by rw [h]
end Go.Proofs.Ytllhcogmcfgnoaa
