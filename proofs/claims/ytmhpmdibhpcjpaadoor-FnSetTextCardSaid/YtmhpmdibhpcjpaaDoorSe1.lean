/-
  The walks of the laws FnExactSetValid, FnExactSetParse and FnExactSetNumbers. Condition: the list can be read.
-/
import Derived.Test.YtmhpmdibhpcjpaaDoorSmk
import Derived.Test.YtmhpmdibhpcjpaaDoorSl3
namespace Go.Proofs.YtmhpmdibhpcjpaaDoor
open Go.RowKit
set_option linter.unusedVariables false

/-- A list of spans that was handed in. -/
def ListIn (w : World) (A : Option Addr) (len cap : Nat) : Prop := len ≤ cap ∧ cap ≤ maxLen ∧ ∃ L : List (Int × Int), L.length = len ∧ SpA w A L
theorem listIn_nil (w : World) : ListIn w none 0 0 := ⟨Nat.le_refl _, by unfold maxLen; omega, [], rfl, SpA.nil _ _⟩
theorem listIn_row {w : World} {x : Addr} {len cap : Nat} {X Y : Nat → Int} (hl : len ≤ cap) (hm : cap ≤ maxLen)
    (hc : ∀ i, i < len → w.cell? (x.add (i * 2)) = some (.int .i64 (X i)) ∧ w.cell? (x.add (i * 2 + 1)) = some (.int .i64 (Y i))) : ListIn w (some x) len cap := by
  refine ⟨hl, hm, (List.range len).map fun i => (X i, Y i), by simp, fun i y hy => ?_⟩
  have hi : i < len := by have := (List.getElem?_eq_some_iff.1 hy).1; simpa using this
  have h1 := (hc 0 (by omega)).1
  have hs : x.spot = none := by simpa [Addr.add] using World.cell?_spot h1
  obtain ⟨xb, xo, spot⟩ := x
  simp only at hs
  subst hs
  have he : y = (X i, Y i) := by simp [hi] at hy; exact hy.symm
  subst he
  obtain ⟨c0, c1⟩ := hc i hi
  rw [add_none] at c0 c1
  have hb := block_lt_of_cell c0
  exact ⟨xb, xo, rfl, by simpa using hb, c0, by rw [show xo + i * 2 + 1 = xo + (i * 2 + 1) by omega]; exact c1⟩
theorem eq_spans_at {A A2 : Option Addr} {n n2 cap cap2 : Nat} {L M : List (Int × Int)} {o : Bool} (w : World) (h : SpA w A L) (h2 : SpA w A2 M) (hn : L.length = n) (hn2 : M.length = n2) (hl : n ≤ 33554432) (hl2 : n2 ≤ 33554432) (ho : decide (L = M) = o) :
    Calls Tryd.prog 15 #[.slice A n cap, .slice A2 n2 cap2] w (Tests w o) := by
  subst hn
  subst hn2
  subst ho
  exact eq_spans A A2 cap cap2 L M w h h2 hl hl2
theorem spec_valid_n {A : Option Addr} {n cap : Nat} {L : List (Int × Int)} {o : Bool} (hn : L.length = n) (ho : setB L = o) (w : World) (h : SpA w A L) (hl : n ≤ 33554432) :
    Calls Tryd.prog 25 #[.slice A n cap] w fun e w' => e = .returned (.bool o) ∧ w = w' := by
  subst hn
  exact spec_setvalid_at ho w h hl
theorem Own.spa {w : World} {B n cap : Nat} {A : Option Addr} {L : List (Int × Int)} (h : Own w B (.slice A n cap) L) : SpA w A L := by
  obtain ⟨A', c, he, _, _, hs⟩ := h.form
  cases he
  exact hs
theorem OwnI.inta {w : World} {B n cap : Nat} {A : Option Addr} {l : List Nat} (h : OwnI w B (.slice A n cap) l) : IntA w A l := by
  obtain ⟨A', c, he, _, _, hs⟩ := h.form
  cases he
  exact hs

/-- A parser of sets told a list of the call's own. -/
def ReadO (w : World) (b : Bool) (M : List (Int × Int)) (e : Ending) (w' : World) : Prop :=
  ∃ (A : Option Addr) (cap : Nat), e = .returned (.tuple #[.slice A M.length cap, .bool b]) ∧ Own w' w.heap.size (.slice A M.length cap) M ∧ Below w.heap.size w w'
theorem parsed_reado {w w' : World} {o : Option (List (Nat × Nat))} {M : List (Int × Int)} {b : Bool} {e : Ending} (h : ParsedS w o e w') (hb : o.isSome = b) (hM : up (o.getD []) = M) : ReadO w b M e w' := by
  subst hM
  subst hb
  obtain ⟨v, rfl, hown, hbl⟩ := h
  obtain ⟨A, cap, rfl, h1, h2, h3⟩ := hown.form
  exact ⟨A, cap, rfl, hown, hbl⟩
theorem impl_reado {s : ByteArray} {b : Bool} {M : List (Int × Int)} (h : IsSet s b M) (w : World) (hs : s.size ≤ 16777216) : Calls Tryd.prog 7 #[.string s] w (ReadO w b M) :=
  (impl_setparse s w hs).mono fun e w' h1 => parsed_reado h1 h.1 h.2
theorem isSet_len {s : ByteArray} : (up ((setO s.data.toList).getD [])).length ≤ 6 := by
  cases h : setO s.data.toList with
  | none => simp [up]
  | some P => exact (set_up h).2
theorem SpA.grown {w w' : World} {row : Option Nat} {A : Option Addr} {L : List (Int × Int)} (h : SpA w A L) (hg : w.grownBy w' row) (hne : ∀ b o, A = some ⟨b, o, none⟩ → b < w.heap.size → some b ≠ row) : SpA w' A L := fun i x hx => by
  obtain ⟨b, o, hA, hb, h1, h2⟩ := h i x hx
  have hk : ∀ p : Addr, p.block = b → w'.cell? p = w.cell? p := fun p hp => World.cell?_of_block (w := w) (by rw [hp]; exact hg.block b hb (hne b o hA hb))
  exact ⟨b, o, hA, Nat.lt_of_lt_of_le hb hg.size, (hk _ rfl).trans h1, (hk _ rfl).trans h2⟩
theorem below_own {w w' : World} {B n cap size : Nat} {e : TypeId} {A : Option Addr} {xs : List Value} (h : w.ownsRow B e size (.slice A n cap) n xs) (hg : w.grownBy w' (Value.slice A n cap).ownBlock) (hB : B ≤ w.heap.size) : Below B w w' :=
  (Below.refl B w).grown hg hB (fun z hz => (World.ownsRow.lt h z hz).1)

theorem IntA.grown {w w' : World} {row : Option Nat} {A : Option Addr} {l : List Nat} (h : IntA w A l) (hg : w.grownBy w' row) (hne : ∀ b o, A = some ⟨b, o, none⟩ → b < w.heap.size → some b ≠ row) : IntA w' A l := fun i x hx => by
  obtain ⟨b, o, hA, hb, h1⟩ := h i x hx
  have hk : ∀ p : Addr, p.block = b → w'.cell? p = w.cell? p := fun p hp => World.cell?_of_block (w := w) (by rw [hp]; exact hg.block b hb (hne b o hA hb))
  exact ⟨b, o, hA, Nat.lt_of_lt_of_le hb hg.size, (hk _ rfl).trans h1⟩
theorem OwnI.apart {w w' : World} {B n cap g : Nat} {A : Option Addr} {l : List Nat} (h : OwnI w B (.slice A n cap) l) (hg : w.grownBy w' (some g)) (hb : g < B) : OwnI w' B (.slice A n cap) l :=
  World.ownsRow.kept h hg (by
    rcases h.2 with ⟨he, _⟩ | ⟨b, c, cur, he, hB, _⟩
    · exact Or.inl (by rw [he]; rfl)
    · exact Or.inr (by rw [he]; simp [Value.ownBlock]; omega))

end Go.Proofs.YtmhpmdibhpcjpaaDoor
