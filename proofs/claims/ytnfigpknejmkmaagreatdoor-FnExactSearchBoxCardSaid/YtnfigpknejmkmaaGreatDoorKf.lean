/-
  The contract of the code's flagWord. Condition: the table of the flags' names holds the five names.
-/
import Derived.Test.YtnfigpknejmkmaaGreatDoorKq
import Derived.Test.YtnfigpknejmkmaaGreatDoorShf
namespace Go.Proofs.YtnfigpknejmkmaaGreatDoor
open Go.RowKit
set_option linter.unusedVariables false

def nm5 : Nat → ByteArray
  | 0 => ⟨#[83, 101, 101, 110]⟩
  | 1 => ⟨#[65, 110, 115, 119, 101, 114, 101, 100]⟩
  | 2 => ⟨#[70, 108, 97, 103, 103, 101, 100]⟩
  | 3 => ⟨#[68, 101, 108, 101, 116, 101, 100]⟩
  | _ => ⟨#[68, 114, 97, 102, 116]⟩
def nms5 : Array Value := #[.string (nm5 0), .string (nm5 1), .string (nm5 2), .string (nm5 3), .string (nm5 4)]
/-- The table of the names holds the names. -/
def Lst (w : World) : Prop := 1 < w.heap.size ∧ ∀ k, k < 5 → w.cell? ⟨1, k, none⟩ = nms5[k]?
theorem Lst.below {w w' : World} {B : Nat} (h : Lst w) (hb : Below B w w') (hB : w.heap.size ≤ B) : Lst w' :=
  ⟨Nat.lt_of_lt_of_le h.1 hb.size, fun k hk => (hb.cell (p := ⟨1, k, none⟩) (by have := h.1; simp; omega)).trans (h.2 k hk)⟩
theorem Lst.drewN {w : World} (h : Lst w) (n : Nat) : Lst (w.drewN n) := h
set_option maxRecDepth 100000 in
theorem index_nm {k : Nat} (hk : k < 5) : ∀ w : World, (Instr.index 142 (.agg #[.string ⟨#[83, 101, 101, 110]⟩, .string ⟨#[65, 110, 115, 119, 101, 114, 101, 100]⟩, .string ⟨#[70, 108, 97, 103, 103, 101, 100]⟩, .string ⟨#[68, 101, 108, 101, 116, 101, 100]⟩, .string ⟨#[68, 114, 97, 102, 116]⟩]) (.int .i64 (k : Int))).run Tryz.prog w = .ok (.string (nm5 k)) w := by
  intro w
  match k, hk with
  | 0, _ => rfl
  | 1, _ => rfl
  | 2, _ => rfl
  | 3, _ => rfl
  | 4, _ => rfl
/-- The word of a flag. -/
def fwL (f : Int) : List UInt8 := if f = 1 then [115, 101, 101, 110] else if f = 2 then [97, 110, 115, 119, 101, 114, 101, 100] else if f = 4 then [102, 108, 97, 103, 103, 101, 100] else if f = 8 then [100, 101, 108, 101, 116, 101, 100] else if f = 16 then [100, 114, 97, 102, 116] else []
theorem fw_at {k : Nat} (hk : k < 5) : (⟨(Lib.toLowerA (nm5 k).data.toList).toArray⟩ : ByteArray) = ⟨(fwL (2 ^ k : Nat)).toArray⟩ := by
  match k, hk with
  | 0, _ | 1, _ | 2, _ | 3, _ | 4, _ => decide
theorem nm_ascii {k : Nat} (hk : k < 5) : ∀ (j : Nat) (b : UInt8), (nm5 k).data.toList[j]? = some b → b.toNat < 128 := by
  have h : ∀ k : Fin 5, ∀ b ∈ (nm5 k.1).data.toList, b.toNat < 128 := by decide
  exact fun j b hb => h ⟨k, hk⟩ b (List.mem_of_getElem? hb)
theorem nm_size {k : Nat} (hk : k < 5) : (nm5 k).size ≤ 140737488355328 := by
  match k, hk with
  | 0, _ | 1, _ | 2, _ | 3, _ | 4, _ => decide
theorem pow5 {k q : Nat} (hk : k < 5) (hq : 2 ^ k = q) : 1 ≤ q ∧ q ≤ 16 ∧ IntKind.i64.wrap (2 ^ k) = (q : Int) := by
  subst hq
  match k, hk with
  | 0, _ | 1, _ | 2, _ | 3, _ | 4, _ => exact ⟨by decide, by decide, by decide⟩
theorem fw_none {f : Int} (h : ∀ j, j < 5 → f ≠ ((2 ^ j : Nat) : Int)) : fwL f = [] := by
  unfold fwL
  have h0 : ¬ f = 1 := h 0 (by omega)
  have h1 : ¬ f = 2 := h 1 (by omega)
  have h2 : ¬ f = 4 := h 2 (by omega)
  have h3 : ¬ f = 8 := h 3 (by omega)
  have h4 : ¬ f = 16 := h 4 (by omega)
  rw [if_neg h0, if_neg h1, if_neg h2, if_neg h3, if_neg h4]
theorem fw_flag (f : Int) : (fwL f).isEmpty = !flag1 f := by
  unfold fwL flag1
  by_cases h1 : f = 1
  · subst h1; rfl
  by_cases h2 : f = 2
  · subst h2; rfl
  by_cases h3 : f = 4
  · subst h3; rfl
  by_cases h4 : f = 8
  · subst h4; rfl
  by_cases h5 : f = 16
  · subst h5; rfl
  rw [if_neg h1, if_neg h2, if_neg h3, if_neg h4, if_neg h5]
  simp [h1, h2, h3, h4, h5]
def wB (l : List UInt8) : ByteArray := ⟨l.toArray⟩
set_option maxRecDepth 20000 in
set_option maxHeartbeats 4000000 in
theorem impl_flagword (f : Int) (w : World) (hL : Lst w) : Calls Tryz.prog 86 #[.int .i64 f] w fun e w' => e = .returned (.string (wB (fwL f))) ∧ Below w.heap.size w w' := by
  have c0 := hL.2 0 (by omega)
  have c1 := hL.2 1 (by omega)
  have c2 := hL.2 2 (by omega)
  have c3 := hL.2 3 (by omega)
  have c4 := hL.2 4 (by omega)
  simp [nms5, nm5] at c0 c1 c2 c3 c4
  clear hL
  go_enter Tryz.func86, Tryz.ntmps86
  go_wp2
  clear c0 c1 c2 c3 c4
  go_loopw [6] (fun i wr => ∃ k : Nat, k ≤ 5 ∧ i = .int .i64 (k : Int) ∧ Hid (∀ j, j < k → f ≠ ((2 ^ j : Nat) : Int)) ∧ wr = w) (fun i _ => 5 - (intOf i).toNat)
  case atStart => exact ⟨0, Nat.zero_le _, by go_num, fun j hj => by omega, rfl⟩
  case round =>
    obtain ⟨k, hk, rfl, HK, rfl⟩ := hrel
    by_cases hlt : k < 5
    · have h0 : (0 : Int) ≤ (k : Int) := by omega
      have h5 : (k : Int) < 5 := by omega
      obtain ⟨q, hq⟩ : ∃ q, 2 ^ k = q := ⟨_, rfl⟩
      obtain ⟨q1, q2, W1⟩ := pow5 hlt hq
      have X1 := index_nm hlt
      obtain ⟨s, hs⟩ : ∃ s, nm5 k = s := ⟨_, rfl⟩
      rw [hs] at X1
      by_cases he : f = (q : Int)
      · subst he
        have HT := Lib.hid (shl_ToLower s wr (hs ▸ nm_size hlt) (hs ▸ nm_ascii hlt))
        have HE : Hid ((⟨(Lib.toLowerA s.data.toList).toArray⟩ : ByteArray) = wB (fwL (q : Int))) := Lib.hid (by rw [← hs, ← hq]; exact fw_at hlt)
        clear hs hq
        go_wp2_with fail
        refine HT.out.mono ?_
        rw [HE.out]
        rintro e w2 ⟨rfl, hb⟩
        have HB := Lib.hid hb
        clear hb
        go_wp2
        go_ret
        exact ⟨rfl, HB.out⟩
      · have hne : (f == (q : Int)) = false := beq_eq_false_iff_ne.2 he
        have HK1 : Hid (∀ j, j < k + 1 → f ≠ ((2 ^ j : Nat) : Int)) := Lib.hid (fun j hj => by
          by_cases hjk : j < k
          · exact HK.out j hjk
          · have : j = k := by omega
            subst this
            rw [hq]
            exact he)
        clear hs hq he
        go_wp2
        go_roundw
        case rel => exact ⟨k + 1, by omega, by go_num, HK1, trivial⟩
        case measure => simp [intOf]; omega
    · have h5 : ¬ (k : Int) < 5 := by omega
      have HE : Hid (fwL f = []) := Lib.hid (fw_none (fun j hj => HK.out j (by omega)))
      go_wp2
      go_ret
      exact ⟨by rw [HE.out]; rfl, Below.refl _ _⟩
end Go.Proofs.YtnfigpknejmkmaaGreatDoor
