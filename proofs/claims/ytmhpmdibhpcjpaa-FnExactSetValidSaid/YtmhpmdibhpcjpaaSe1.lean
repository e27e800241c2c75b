/-
  The walks of the laws FnExactSetValid, FnExactSetParse and FnExactSetNumbers. Condition: the list can be read.
-/
import Derived.Test.YtmhpmdibhpcjpaaSmk
import Derived.Test.YtmhpmdibhpcjpaaSl3
namespace Go.Proofs.Ytmhpmdibhpcjpaa
open Go.RowKit
set_option linter.unusedVariables false

/-- A list of spans that was handed in. -/
def ListIn (w : World) (A : Option Addr) (len cap : Nat) : Prop := len ≤ cap ∧ cap ≤ maxLen ∧ ∃ L : List (Int × Int), L.length = len ∧ SpA w A L
theorem listIn_nil (w : World) : ListIn w none 0 0 := ⟨Nat.le_refl _, by unfold maxLen; omega, [], rfl, SpA.nil _ _⟩
theorem listIn_row {w : World} {x : Addr} {len cap : Nat} {X Y : Nat → Int} (hl : len ≤ cap) (hm : cap ≤ maxLen)
    (hc : ∀ i, i < len → w.cell? (x.add (i * 2)) = some (.int .i64 (X i)) ∧ w.cell? (x.add (i * 2 + 1)) = some (.int .i64 (Y i))) : ListIn w (some x) len cap := by
  refine ⟨hl, hm, (List.range len).map fun i => (X i, Y i), by simp, fun i y hy => ?_⟩
  have hi : i < len := by have := (List.getElem?_eq_some_iff.1 hy).1; simpa using this
  have h1 := (hc 0 (by omega)).1
  have hs : x.spot = none := by simpa [Addr.add] using World.cell?_spot h1
  obtain ⟨xb, xo, spot⟩ := x
  simp only at hs
  subst hs
  have he : y = (X i, Y i) := by simp [hi] at hy; exact hy.symm
  subst he
  obtain ⟨c0, c1⟩ := hc i hi
  rw [add_none] at c0 c1
  have hb := block_lt_of_cell c0
  exact ⟨xb, xo, rfl, by simpa using hb, c0, by rw [show xo + i * 2 + 1 = xo + (i * 2 + 1) by omega]; exact c1⟩
theorem eq_spans_at {A A2 : Option Addr} {n n2 cap cap2 : Nat} {L M : List (Int × Int)} {o : Bool} (w : World) (h : SpA w A L) (h2 : SpA w A2 M) (hn : L.length = n) (hn2 : M.length = n2) (hl : n ≤ 33554432) (hl2 : n2 ≤ 33554432) (ho : decide (L = M) = o) :
    Calls Try.prog 32 #[.slice A n cap, .slice A2 n2 cap2] w (Tests w o) := by
  subst hn
  subst hn2
  subst ho
  exact eq_spans A A2 cap cap2 L M w h h2 hl hl2
theorem eq_ints_at {A A2 : Option Addr} {n n2 cap cap2 : Nat} {L M : List Nat} {o : Bool} (w : World) (h : IntA w A L) (h2 : IntA w A2 M) (hn : L.length = n) (hn2 : M.length = n2) (hl : n ≤ 33554432) (hl2 : n2 ≤ 33554432) (ho : decide (L = M) = o) :
    Calls Try.prog 35 #[.slice A n cap, .slice A2 n2 cap2] w (Tests w o) := by
  subst hn
  subst hn2
  subst ho
  exact eq_ints A A2 cap cap2 L M w h h2 hl hl2
theorem spec_valid_n {A : Option Addr} {n cap : Nat} {L : List (Int × Int)} {o : Bool} (hn : L.length = n) (ho : setB L = o) (w : World) (h : SpA w A L) (hl : n ≤ 33554432) :
    Calls Try.prog 19 #[.slice A n cap] w fun e w' => e = .returned (.bool o) ∧ w = w' := by
  subst hn
  exact spec_setvalid_at ho w h hl
theorem Own.spa {w : World} {B n cap : Nat} {A : Option Addr} {L : List (Int × Int)} (h : Own w B (.slice A n cap) L) : SpA w A L := by
  obtain ⟨A', c, he, _, _, hs⟩ := h.form
  cases he
  exact hs
theorem OwnI.inta {w : World} {B n cap : Nat} {A : Option Addr} {l : List Nat} (h : OwnI w B (.slice A n cap) l) : IntA w A l := by
  obtain ⟨A', c, he, _, _, hs⟩ := h.form
  cases he
  exact hs

set_option maxRecDepth 20000 in
set_option maxHeartbeats 4000000 in
theorem law_FnExactSetValid (A : Option Addr) (len cap : Nat) (w : World) (h : ListIn w A len cap) : Calls Try.prog 14 #[.slice A len cap] w (Holds1 w) := by
  obtain ⟨k1, k2, L, hn, hs⟩ := h
  have HN := Lib.hid hn
  have HS := Lib.hid hs
  clear hn hs
  have hm : len ≤ 9223372036854775807 := Nat.le_trans k1 (by unfold maxLen at k2; omega)
  by_cases hl : len ≤ 1048576
  · obtain ⟨z, hz⟩ : ∃ z : Int, 1048576 - (len : Int) = z := ⟨_, rfl⟩
    have hz0 : 0 ≤ z := by omega
    have HSZ := Lib.hid hz
    clear hz
    obtain ⟨s, hsb⟩ : ∃ s, setB L = s := ⟨_, rfl⟩
    have HSB := Lib.hid hsb
    have hss : (s != s) = false := by simp
    clear hsb
    go_enter Try.func14, Try.ntmps14
    go_wp2_with fail
    refine (sz_spans _ (.inl ⟨hl, HSZ.out⟩)).mono ?_
    rintro e w1 ⟨rfl, rfl⟩
    go_wp2_with fail
    refine (to_spans A cap len L _ HN.out HS.out hl).mono ?_
    rintro e w1 ⟨g1, rfl, hown, hb⟩
    have HB1 := Lib.hid hb
    have HS1 := Lib.hid (HS.out.below hb (Nat.le_refl _))
    have HO1 := Lib.hid hown
    clear hown hb
    go_wp2_with fail
    refine (spec_valid_n HN.out HSB.out _ HO1.out.spa (by omega)).mono ?_
    rintro e w2 ⟨rfl, rfl⟩
    go_wp2_with fail
    refine (to_spans A cap len L _ HN.out HS1.out hl).mono ?_
    rintro e w2 ⟨g2, rfl, hown, hb⟩
    have HB2 := Lib.hid (HB1.out.trans (hb.mono HB1.out.size))
    have HS2 := Lib.hid (HS1.out.below hb (Nat.le_refl _))
    have HO2 := Lib.hid hown
    clear hown hb
    go_wp2_with fail
    refine (impl_setvalid_n HN.out HSB.out _ HO2.out.spa (by omega)).mono ?_
    rintro e w3 ⟨rfl, hb⟩
    have HB3 := Lib.hid (HB2.out.trans (hb.mono HB2.out.size))
    have HS3 := Lib.hid (HS2.out.below hb (Nat.le_refl _))
    have HO3 := Lib.hid (HO2.out.kept hb)
    clear hb
    go_wp2_with fail
    refine (to_spans A cap len L _ HN.out HS3.out hl).mono ?_
    rintro e w4 ⟨g4, rfl, hown, hb⟩
    have HB4 := Lib.hid (HB3.out.trans (hb.mono HB3.out.size))
    have HO4 := Lib.hid hown
    have HO34 := Lib.hid (HO3.out.kept hb)
    clear hown hb
    go_wp2_with fail
    refine (eq_spans_at (o := true) _ HO34.out.spa HO4.out.spa HN.out HN.out (by omega) (by omega) (by simp)).mono ?_
    rintro e w5 ⟨rfl, hb⟩
    have HB5 := Lib.hid (HB4.out.trans (hb.mono HB4.out.size))
    clear hb
    go_wp2
    go_ret
    exact ⟨rfl, HB5.out⟩
  · go_enter Try.func14, Try.ntmps14
    go_wp2_with fail
    refine (sz_spans (z := -1) _ (.inr ⟨by omega, hm, rfl⟩)).mono ?_
    rintro e w1 ⟨rfl, rfl⟩
    go_wp2
    go_ret
    exact ⟨rfl, Below.refl _ _⟩

/-- A parser of sets told a list of the call's own. -/
def ReadO (w : World) (b : Bool) (M : List (Int × Int)) (e : Ending) (w' : World) : Prop :=
  ∃ (A : Option Addr) (cap : Nat), e = .returned (.tuple #[.slice A M.length cap, .bool b]) ∧ Own w' w.heap.size (.slice A M.length cap) M ∧ Below w.heap.size w w'
theorem parsed_reado {w w' : World} {o : Option (List (Nat × Nat))} {M : List (Int × Int)} {b : Bool} {e : Ending} (h : ParsedS w o e w') (hb : o.isSome = b) (hM : up (o.getD []) = M) : ReadO w b M e w' := by
  subst hM
  subst hb
  obtain ⟨v, rfl, hown, hbl⟩ := h
  obtain ⟨A, cap, rfl, h1, h2, h3⟩ := hown.form
  exact ⟨A, cap, rfl, hown, hbl⟩
theorem impl_reado {s : ByteArray} {b : Bool} {M : List (Int × Int)} (h : IsSet s b M) (w : World) (hs : s.size ≤ 16777216) : Calls Try.prog 21 #[.string s] w (ReadO w b M) :=
  (impl_setparse s w hs).mono fun e w' h1 => parsed_reado h1 h.1 h.2
theorem isSet_len {s : ByteArray} : (up ((setO s.data.toList).getD [])).length ≤ 6 := by
  cases h : setO s.data.toList with
  | none => simp [up]
  | some P => exact (set_up h).2
theorem SpA.grown {w w' : World} {row : Option Nat} {A : Option Addr} {L : List (Int × Int)} (h : SpA w A L) (hg : w.grownBy w' row) (hne : ∀ b o, A = some ⟨b, o, none⟩ → b < w.heap.size → some b ≠ row) : SpA w' A L := fun i x hx => by
  obtain ⟨b, o, hA, hb, h1, h2⟩ := h i x hx
  have hk : ∀ p : Addr, p.block = b → w'.cell? p = w.cell? p := fun p hp => World.cell?_of_block (w := w) (by rw [hp]; exact hg.block b hb (hne b o hA hb))
  exact ⟨b, o, hA, Nat.lt_of_lt_of_le hb hg.size, (hk _ rfl).trans h1, (hk _ rfl).trans h2⟩
theorem below_own {w w' : World} {B n cap size : Nat} {e : TypeId} {A : Option Addr} {xs : List Value} (h : w.ownsRow B e size (.slice A n cap) n xs) (hg : w.grownBy w' (Value.slice A n cap).ownBlock) (hB : B ≤ w.heap.size) : Below B w w' :=
  (Below.refl B w).grown hg hB (fun z hz => (World.ownsRow.lt h z hz).1)

set_option maxRecDepth 20000 in
set_option maxHeartbeats 4000000 in
theorem law_FnExactSetParse (s : ByteArray) (w : World) (_ : s.size ≤ maxLen) : Calls Try.prog 15 #[.string s] w (Holds1 w) := by
  by_cases hl : s.size ≤ 1048576
  · have hl' : (s.size : Int) ≤ 1048576 := by omega
    obtain ⟨o, ho⟩ : ∃ o, (setO s.data.toList).isSome = o := ⟨_, rfl⟩
    obtain ⟨M, hM⟩ : ∃ M, up ((setO s.data.toList).getD []) = M := ⟨_, rfl⟩
    have HI : Hid (IsSet s o M) := ⟨ho, hM⟩
    have hm6 : M.length ≤ 6 := hM ▸ isSet_len
    have hoo : (o != o) = false := by simp
    clear ho hM
    have hq : ((1 + 2 * (M.length : Int)) != (1 + 2 * (M.length : Int))) = false := by simp
    have hq2 : ¬ (1 + 2 * (M.length : Int)) < 0 := by omega
    have hq3 : 0 ≤ 1 + 2 * (M.length : Int) := by omega
    go_enter Try.func15, Try.ntmps15
    go_wp2_with fail
    refine (spec_read HI.out _ (by omega)).mono ?_
    rintro e w1 ⟨A1, cap1, rfl, -, -, hsp, hb⟩
    have HB1 := Lib.hid hb
    have HS1 := Lib.hid hsp
    clear hb hsp
    go_wp2_with fail
    refine (impl_reado HI.out _ (by omega)).mono ?_
    rintro e w2 ⟨A2, cap2, rfl, hown, hb⟩
    have HB2 := Lib.hid (HB1.out.trans (hb.mono HB1.out.size))
    have HS2 := Lib.hid (HS1.out.below hb (Nat.le_refl _))
    have HO2 := Lib.hid hown
    have HBB2 := Lib.hid hb
    have hw12 := hb.size
    clear hb hown
    go_wp2_with fail
    refine (eq_spans_at (o := true) _ HO2.out.spa HS2.out rfl rfl (by omega) (by omega) (by simp)).mono ?_
    rintro e w3 ⟨rfl, hb⟩
    have HB3 := Lib.hid (HB2.out.trans (hb.mono HB2.out.size))
    have HS13 := Lib.hid (HS2.out.below hb (Nat.le_refl _))
    have HO3 := Lib.hid (HO2.out.kept hb)
    have hw13 := Nat.le_trans hw12 hb.size
    have HBB3 := Lib.hid (HBB2.out.trans (hb.mono HBB2.out.size))
    clear hb
    go_wp2_with fail
    refine (mark_spans A2 cap2 M.length w1.heap.size M _ rfl HO3.out (by omega)).mono ?_
    rintro e w4 ⟨rfl, hown, hgr⟩
    have hbl := below_own (own_row' HO3.out) hgr hw13
    have HB4 := Lib.hid (HB3.out.trans (hbl.mono HB1.out.size))
    have HBB4 := Lib.hid (HBB3.out.trans hbl)
    have HO4 := Lib.hid hown
    have hw14 := Nat.le_trans hw13 hbl.size
    clear hown hgr hbl
    go_wp2_with fail
    refine (held_spans A2 cap2 M.length _ HO4.out.spa (by omega)).mono ?_
    rintro e w5 ⟨rfl, rfl⟩
    go_wp2_with fail
    refine (impl_reado HI.out _ (by omega)).mono ?_
    rintro e w5 ⟨A5, cap5, rfl, hown, hb⟩
    have HB5 := Lib.hid (HB4.out.trans (hb.mono HB4.out.size))
    have HBB5 := Lib.hid (HBB4.out.trans (hb.mono HBB4.out.size))
    have HO5 := Lib.hid hown
    have HO45 := Lib.hid (HO4.out.kept hb)
    clear hb hown
    go_wp2_with fail
    refine (eq_spans_at (o := true) _ HO5.out.spa (HS1.out.below HBB5.out (Nat.le_refl _)) rfl rfl (by omega) (by omega) (by simp)).mono ?_
    rintro e w6 ⟨rfl, hb⟩
    have HB6 := Lib.hid (HB5.out.trans (hb.mono HB5.out.size))
    have HO46 := Lib.hid (HO45.out.kept hb)
    clear hb
    go_wp2_with fail
    refine (held_spans A2 cap2 M.length _ HO46.out.spa (by omega)).mono ?_
    rintro e w7 ⟨rfl, rfl⟩
    go_wp2
    go_ret
    exact ⟨rfl, HB6.out⟩
  · have hl' : (1048576 : Int) < (s.size : Int) := by omega
    go_enter Try.func15, Try.ntmps15
    go_wp2
    go_ret
    exact ⟨rfl, Below.refl _ _⟩

theorem IntA.grown {w w' : World} {row : Option Nat} {A : Option Addr} {l : List Nat} (h : IntA w A l) (hg : w.grownBy w' row) (hne : ∀ b o, A = some ⟨b, o, none⟩ → b < w.heap.size → some b ≠ row) : IntA w' A l := fun i x hx => by
  obtain ⟨b, o, hA, hb, h1⟩ := h i x hx
  have hk : ∀ p : Addr, p.block = b → w'.cell? p = w.cell? p := fun p hp => World.cell?_of_block (w := w) (by rw [hp]; exact hg.block b hb (hne b o hA hb))
  exact ⟨b, o, hA, Nat.lt_of_lt_of_le hb hg.size, (hk _ rfl).trans h1⟩
theorem OwnI.apart {w w' : World} {B n cap g : Nat} {A : Option Addr} {l : List Nat} (h : OwnI w B (.slice A n cap) l) (hg : w.grownBy w' (some g)) (hb : g < B) : OwnI w' B (.slice A n cap) l :=
  World.ownsRow.kept h hg (by
    rcases h.2 with ⟨he, _⟩ | ⟨b, c, cur, he, hB, _⟩
    · exact Or.inl (by rw [he]; rfl)
    · exact Or.inr (by rw [he]; simp [Value.ownBlock]; omega))

set_option maxRecDepth 20000 in
set_option maxHeartbeats 8000000 in
theorem law_FnExactSetNumbers (A : Option Addr) (len cap : Nat) (last : Int) (w : World) (h : ListIn w A len cap) : Calls Try.prog 16 #[.slice A len cap, .int .i64 last] w (Holds1 w) := by
  obtain ⟨k1, k2, L, hn, hs⟩ := h
  have HN := Lib.hid hn
  have HS := Lib.hid hs
  clear hn hs
  have hm : len ≤ 9223372036854775807 := Nat.le_trans k1 (by unfold maxLen at k2; omega)
  by_cases hl : len ≤ 1048576
  · obtain ⟨z, hz⟩ : ∃ z : Int, 1048576 - (len : Int) = z := ⟨_, rfl⟩
    have hz0 : 0 ≤ z := by omega
    have HSZ := Lib.hid hz
    clear hz
    obtain ⟨l, hll⟩ : ∃ l, numsB L last = l := ⟨_, rfl⟩
    have HL := Lib.hid hll
    have hl99 : l.length ≤ 99 := hll ▸ numsB_len L last
    clear hll
    have hq2 : ¬ (1 + 2 * (len : Int)) < 0 := by omega
    have hq2' : decide ((1 + 2 * (len : Int)) < 0) = false := dec_no hq2
    have hq3 : 0 ≤ 1 + 2 * (len : Int) := by omega
    have hr : ((1 + (l.length : Int)) != (1 + (l.length : Int))) = false := by simp
    have hr2 : ¬ (1 + (l.length : Int)) < 0 := by omega
    have hr3 : 0 ≤ 1 + (l.length : Int) := by omega
    go_enter Try.func16, Try.ntmps16
    go_wp2_with fail
    refine (sz_spans _ (.inl ⟨hl, HSZ.out⟩)).mono ?_
    rintro e w1 ⟨rfl, rfl⟩
    go_wp2_with fail
    refine (to_spans A cap len L _ HN.out HS.out hl).mono ?_
    rintro e w1 ⟨g1, rfl, hown, hb⟩
    have HB1 := Lib.hid hb
    have HS1 := Lib.hid (HS.out.below hb (Nat.le_refl _))
    have HO1 := Lib.hid hown
    clear hown hb
    go_wp2_with fail
    refine (spec_nums HN.out HL.out _ HO1.out.spa (by omega)).mono ?_
    rintro e w2 ⟨A2, cap2, rfl, h21, h22, -, hia, hb⟩
    have HB2 := Lib.hid (HB1.out.trans (hb.mono HB1.out.size))
    have HS2 := Lib.hid (HS1.out.below hb (Nat.le_refl _))
    have HI2 := Lib.hid hia
    clear hb hia
    go_wp2_with fail
    refine (to_spans A cap len L _ HN.out HS2.out hl).mono ?_
    rintro e w3 ⟨g3, rfl, hown, hb⟩
    have HB3 := Lib.hid (HB2.out.trans (hb.mono HB2.out.size))
    have HS3 := Lib.hid (HS2.out.below hb (Nat.le_refl _))
    have HO3 := Lib.hid hown
    have HBB3 := Lib.hid hb
    have hg3 := (World.ownsRow.lt hown g3 rfl)
    have hw23 := hb.size
    clear hown hb
    go_wp2_with fail
    refine (impl_nums HN.out HL.out _ HO3.out.spa (by omega)).mono ?_
    rintro e w4 ⟨A4, cap4, rfl, h41, h42, hown, -, hb⟩
    have HB4 := Lib.hid (HB3.out.trans (hb.mono HB3.out.size))
    have HBB4 := Lib.hid (HBB3.out.trans (hb.mono hw23))
    have HS4 := Lib.hid (HS3.out.below hb (Nat.le_refl _))
    have HO34 := Lib.hid (HO3.out.kept hb)
    have HG4 := Lib.hid hown
    have hw34 := hb.size
    clear hown hb
    go_wp2_with fail
    refine (eq_ints_at (o := true) _ HG4.out.inta (HI2.out.below HBB4.out (Nat.le_refl _)) rfl rfl (by omega) (by omega) (by simp)).mono ?_
    rintro e w5 ⟨rfl, hb⟩
    have HB5 := Lib.hid (HB4.out.trans (hb.mono HB4.out.size))
    have HBB5 := Lib.hid (HBB4.out.trans (hb.mono HBB4.out.size))
    have HS5 := Lib.hid (HS4.out.below hb (Nat.le_refl _))
    have HO35 := Lib.hid (HO34.out.kept hb)
    have HG5 := Lib.hid (HG4.out.kept hb)
    have hw35 := Nat.le_trans hw34 hb.size
    clear hb
    go_wp2_with fail
    refine (to_spans A cap len L _ HN.out HS5.out hl).mono ?_
    rintro e w6 ⟨g6, rfl, hown, hb⟩
    have HB6 := Lib.hid (HB5.out.trans (hb.mono HB5.out.size))
    have HBB6 := Lib.hid (HBB5.out.trans (hb.mono HBB5.out.size))
    have HS6 := Lib.hid (HS5.out.below hb (Nat.le_refl _))
    have HO36 := Lib.hid (HO35.out.kept hb)
    have HG6 := Lib.hid (HG5.out.kept hb)
    have HO6 := Lib.hid hown
    have hw36 := Nat.le_trans hw35 hb.size
    clear hown hb
    go_wp2_with fail
    refine (eq_spans_at (o := true) _ HO36.out.spa HO6.out.spa HN.out HN.out (by omega) (by omega) (by simp)).mono ?_
    rintro e w7 ⟨rfl, hb⟩
    have HB7 := Lib.hid (HB6.out.trans (hb.mono HB6.out.size))
    have HBB7 := Lib.hid (HBB6.out.trans (hb.mono HBB6.out.size))
    have HS7 := Lib.hid (HS6.out.below hb (Nat.le_refl _))
    have HO37 := Lib.hid (HO36.out.kept hb)
    have HG7 := Lib.hid (HG6.out.kept hb)
    have hw37 := Nat.le_trans hw36 hb.size
    clear hb
    go_wp2_with fail
    refine (mark_spans _ len len w2.heap.size L _ HN.out HO37.out (by omega)).mono ?_
    rintro e w8 ⟨rfl, -, hgr⟩
    have hbl := below_own (own_row' HO37.out) hgr (Nat.le_trans hw23 hw37)
    have HB8 := Lib.hid (HB7.out.trans (hbl.mono HB2.out.size))
    have HBB8 := Lib.hid (HBB7.out.trans hbl)
    have HS8 := Lib.hid (HS.out.below HB8.out (Nat.le_refl _))
    have HG8 := Lib.hid (HG7.out.apart hgr hg3.2)
    have hw38 := Nat.le_trans hw37 hgr.size
    clear hgr hbl
    go_wp2_with fail
    refine (eq_ints_at (o := true) _ HG8.out.inta (HI2.out.below HBB8.out (Nat.le_refl _)) rfl rfl (by omega) (by omega) (by simp)).mono ?_
    rintro e w9 ⟨rfl, hb⟩
    have HB9 := Lib.hid (HB8.out.trans (hb.mono HB8.out.size))
    have HBB9 := Lib.hid (HBB8.out.trans (hb.mono HBB8.out.size))
    have HG9 := Lib.hid (HG8.out.kept hb)
    have hw39 := Nat.le_trans hw38 hb.size
    clear hb
    go_wp2_with fail
    refine (mark_ints A4 cap4 l.length w3.heap.size l _ rfl HG9.out (by omega)).mono ?_
    rintro e w10 ⟨rfl, hown, hgr⟩
    have hbl := below_own HG9.out.row'.2 hgr hw39
    have HB10 := Lib.hid (HB9.out.trans (hbl.mono HB3.out.size))
    have HBB10 := Lib.hid (HBB9.out.trans (hbl.mono hw23))
    have HS10 := Lib.hid (HS.out.below HB10.out (Nat.le_refl _))
    have HM10 := Lib.hid hown
    clear hown hgr hbl
    go_wp2_with fail
    refine (held_ints A4 cap4 l.length _ HM10.out.inta (by omega)).mono ?_
    rintro e w11 ⟨rfl, rfl⟩
    go_wp2_with fail
    refine (to_spans A cap len L _ HN.out HS10.out hl).mono ?_
    rintro e w11 ⟨g11, rfl, hown, hb⟩
    have HB11 := Lib.hid (HB10.out.trans (hb.mono HB10.out.size))
    have HBB11 := Lib.hid (HBB10.out.trans (hb.mono HBB10.out.size))
    have HM11 := Lib.hid (HM10.out.kept hb)
    have HO11 := Lib.hid hown
    clear hown hb
    go_wp2_with fail
    refine (impl_nums HN.out HL.out _ HO11.out.spa (by omega)).mono ?_
    rintro e w12 ⟨A12, cap12, rfl, h121, h122, -, hia, hb⟩
    have HB12 := Lib.hid (HB11.out.trans (hb.mono HB11.out.size))
    have HBB12 := Lib.hid (HBB11.out.trans (hb.mono HBB11.out.size))
    have HM12 := Lib.hid (HM11.out.kept hb)
    have HI12 := Lib.hid hia
    clear hb hia
    go_wp2_with fail
    refine (eq_ints_at (o := true) _ HI12.out (HI2.out.below HBB12.out (Nat.le_refl _)) rfl rfl (by omega) (by omega) (by simp)).mono ?_
    rintro e w13 ⟨rfl, hb⟩
    have HB13 := Lib.hid (HB12.out.trans (hb.mono HB12.out.size))
    have HM13 := Lib.hid (HM12.out.kept hb)
    clear hb
    go_wp2_with fail
    refine (held_ints A4 cap4 l.length _ HM13.out.inta (by omega)).mono ?_
    rintro e w14 ⟨rfl, rfl⟩
    go_wp2
    go_ret
    exact ⟨rfl, HB13.out⟩
  · go_enter Try.func16, Try.ntmps16
    go_wp2_with fail
    refine (sz_spans (z := -1) _ (.inr ⟨by omega, hm, rfl⟩)).mono ?_
    rintro e w1 ⟨rfl, rfl⟩
    go_wp2
    go_ret
    exact ⟨rfl, Below.refl _ _⟩
end Go.Proofs.Ytmhpmdibhpcjpaa
