/-
  My texts Hy, Ja, Jb in one, so that a claim holds fewer files. Conditions: each contract's own.
-/
import Derived.Test.YtinbdibenbplnaaQd
import Derived.Deep.RegionHeld3
import Derived.Outline
import Derived.Laws.OwnMore
import Derived.Deep.Slices
import Derived.ChangeArms
import Derived.Lib.SmallJoins
namespace Go.Proofs.Ytinbdibenbplnaa
open Go.RowKit
set_option linter.unusedVariables false

theorem kp_made (w : World) (t : TypeId) (cs : Array Value) {B : Nat} (hB : w.heap.size = B) : Kp (w.alloc (.cells cs t)) fun w' => Below B w w' ∧ Whole w' B t cs := fun w2 h2 => by
  subst hB
  exact ⟨(below_new w _).trans (h2.mono (by simp)), (Whole.made w t cs).below h2 (by simp)⟩
theorem kp_rows {α : Type} {R : RowT α} {w : World} {B : Nat} {v : Value} {L : List α} (h : ROwn R w B v L) : Kp w fun w' => ROwn R w' B v L := fun w2 h2 => h.kept h2
theorem SIn.keep {w : World} {A : Option Addr} {n cap : Nat} {L : List ByteArray} (h : SIn w A n cap L) : Kp w fun w' => SIn w' A n cap L := fun w2 h2 => h.below h2 (Nat.le_refl _)
set_option maxHeartbeats 2000000 in
theorem impl_letval (us tx : ByteArray) (T : List ByteArray) (A : Option Addr) (N cap : Nat) (w : World) (h : SIn w A N cap T) (hu : us.size ≤ 16777216) : Calls Try.prog 18 #[.agg #[.string us, .slice A N cap, .string tx]] w (SayB w (letB us T tx)) := by
  have hW := Whole.made w 25 #[.string us, .slice A N cap, .string tx]
  have HW := Lib.hid hW
  have HB := Lib.hid ((Below.refl w.heap.size w).alloc (Nat.le_refl _) (.cells #[.string us, .slice A N cap, .string tx] 25))
  have HS := Lib.hid (h.below HB.out (Nat.le_refl _))
  have HL := Lib.hid h.1
  clear h hW
  cases hn : nameB (kb us) with
  | false =>
    have HN := Lib.hid hn
    have HE : Hid (letB us T tx = false) := Lib.hid (by unfold letB; rw [hn]; rfl)
    clear hn
    go_enter Try.func18, Try.ntmps18
    go_wp2_with fail
    refine (iname_at HN.out hu _).mono ?_
    rintro e w1 ⟨rfl, hb⟩
    have HW1 := Lib.hid (HW.out.below hb HW.out.lt)
    have HB1 := Lib.hid (HB.out.trans (hb.mono HB.out.size))
    have HS1 := Lib.hid (HS.out.below hb (Nat.le_refl _))
    have c1 := HW1.out.cell 1
    have c2 := HW1.out.cell 2
    simp at c1 c2
    clear hb
    go_wp2
    go_ret
    first | exact says_b HE.out HB1.out | exact says_b (HE.out.trans (decide_eq_false (by omega)).symm) HB1.out
  | true =>
    have HN := Lib.hid hn
    cases hr : recB T with
    | false =>
      have HR := Lib.hid hr
      have HE : Hid (letB us T tx = false) := Lib.hid (by unfold letB; rw [hr]; simp)
      clear hn hr
      go_enter Try.func18, Try.ntmps18
      go_wp2_with fail
      refine (iname_at HN.out hu _).mono ?_
      rintro e w1 ⟨rfl, hb⟩
      have HW1 := Lib.hid (HW.out.below hb HW.out.lt)
      have HB1 := Lib.hid (HB.out.trans (hb.mono HB.out.size))
      have HS1 := Lib.hid (HS.out.below hb (Nat.le_refl _))
      have c1 := HW1.out.cell 1
      have c2 := HW1.out.cell 2
      simp at c1 c2
      clear hb
      go_wp2_with fail
      refine (receivers_at HR.out _ HS1.out).mono ?_
      rintro e w2 ⟨rfl, hb⟩
      have HB2 := Lib.hid (HB1.out.trans (hb.mono HB1.out.size))
      have HW2 := Lib.hid (HW1.out.below hb HW1.out.lt)
      have d1 := HW2.out.cell 1
      have d2 := HW2.out.cell 2
      simp at d1 d2
      clear hb c1 c2
      go_wp2
      go_ret
      first | exact says_b HE.out HB2.out | exact says_b (HE.out.trans (decide_eq_false (by omega)).symm) HB2.out
    | true =>
      have HR := Lib.hid hr
      by_cases ht : tx.size ≤ 20
      · have ht2 : (tx.size : Int) ≤ 20 := by omega
        have HE : Hid (letB us T tx = true) := Lib.hid (by unfold letB; rw [hn, hr]; simp [ht])
        clear hn hr
        go_enter Try.func18, Try.ntmps18
        go_wp2_with fail
        refine (iname_at HN.out hu _).mono ?_
        rintro e w1 ⟨rfl, hb⟩
        have HW1 := Lib.hid (HW.out.below hb HW.out.lt)
        have HB1 := Lib.hid (HB.out.trans (hb.mono HB.out.size))
        have HS1 := Lib.hid (HS.out.below hb (Nat.le_refl _))
        have c1 := HW1.out.cell 1
        have c2 := HW1.out.cell 2
        simp at c1 c2
        clear hb
        go_wp2_with fail
        refine (receivers_at HR.out _ HS1.out).mono ?_
        rintro e w2 ⟨rfl, hb⟩
        have HB2 := Lib.hid (HB1.out.trans (hb.mono HB1.out.size))
        have HW2 := Lib.hid (HW1.out.below hb HW1.out.lt)
        have d1 := HW2.out.cell 1
        have d2 := HW2.out.cell 2
        simp at d1 d2
        clear hb c1 c2
        go_wp2
        go_ret
        first | exact says_b HE.out HB2.out | exact says_b (HE.out.trans (decide_eq_false (by omega)).symm) HB2.out
      · have ht2 : ¬ (tx.size : Int) ≤ 20 := by omega
        have HE : Hid (letB us T tx = false) := Lib.hid (by unfold letB; rw [hn, hr]; simp [ht])
        clear hn hr
        go_enter Try.func18, Try.ntmps18
        go_wp2_with fail
        refine (iname_at HN.out hu _).mono ?_
        rintro e w1 ⟨rfl, hb⟩
        have HW1 := Lib.hid (HW.out.below hb HW.out.lt)
        have HB1 := Lib.hid (HB.out.trans (hb.mono HB.out.size))
        have HS1 := Lib.hid (HS.out.below hb (Nat.le_refl _))
        have c1 := HW1.out.cell 1
        have c2 := HW1.out.cell 2
        simp at c1 c2
        clear hb
        go_wp2_with fail
        refine (receivers_at HR.out _ HS1.out).mono ?_
        rintro e w2 ⟨rfl, hb⟩
        have HB2 := Lib.hid (HB1.out.trans (hb.mono HB1.out.size))
        have HW2 := Lib.hid (HW1.out.below hb HW1.out.lt)
        have d1 := HW2.out.cell 1
        have d2 := HW2.out.cell 2
        simp at d1 d2
        clear hb c1 c2
        go_wp2
        go_ret
        first | exact says_b HE.out HB2.out | exact says_b (HE.out.trans (decide_eq_false (by omega)).symm) HB2.out
theorem ilet_at {us tx : ByteArray} {T : List ByteArray} {A : Option Addr} {N cap : Nat} {z : Bool} (hz : letB us T tx = z) (w : World) (h : SIn w A N cap T) (hu : us.size ≤ 16777216) : Calls Try.prog 18 #[.agg #[.string us, .slice A N cap, .string tx]] w (SayB w z) := by
  subst hz
  exact impl_letval us tx T A N cap w h hu
set_option maxHeartbeats 2000000 in
theorem spec_letval (us tx : ByteArray) (T : List ByteArray) (A : Option Addr) (N cap : Nat) (w : World) (h : SIn w A N cap T) (hu : us.size ≤ 16777216) : Calls Try.prog 19 #[.agg #[.string us, .slice A N cap, .string tx]] w (SayB w (letB us T tx)) := by
  have hW := Whole.made w 25 #[.string us, .slice A N cap, .string tx]
  have HW := Lib.hid hW
  have HB := Lib.hid ((Below.refl w.heap.size w).alloc (Nat.le_refl _) (.cells #[.string us, .slice A N cap, .string tx] 25))
  have HS := Lib.hid (h.below HB.out (Nat.le_refl _))
  have HL := Lib.hid h.1
  clear h hW
  cases hn : nameB (kb us) with
  | false =>
    have HN := Lib.hid hn
    have HE : Hid (letB us T tx = false) := Lib.hid (by unfold letB; rw [hn]; rfl)
    clear hn
    go_enter Try.func19, Try.ntmps19
    go_wp2_with fail
    refine (sname_at HN.out hu _).mono ?_
    rintro e w1 ⟨rfl, rfl⟩
    have HW1 := HW
    have HB1 := HB
    have HS1 := HS
    have c1 := HW1.out.cell 1
    have c2 := HW1.out.cell 2
    simp at c1 c2
    go_wp2
    go_ret
    first | exact says_b HE.out HB1.out | exact says_b (HE.out.trans (decide_eq_false (by omega)).symm) HB1.out
  | true =>
    have HN := Lib.hid hn
    cases hr : n21 T with
    | false =>
      have HR := Lib.hid hr
      have HE : Hid (letB us T tx = false) := Lib.hid (by unfold letB recB; rw [hr]; simp)
      clear hn hr
      go_enter Try.func19, Try.ntmps19
      go_wp2_with fail
      refine (sname_at HN.out hu _).mono ?_
      rintro e w1 ⟨rfl, rfl⟩
      have HW1 := HW
      have HB1 := HB
      have HS1 := HS
      have c1 := HW1.out.cell 1
      have c2 := HW1.out.cell 2
      simp at c1 c2
      go_wp2_with fail
      refine (names_at HR.out _ HS1.out).mono ?_
      rintro e w2 ⟨rfl, hb⟩
      have HB2 := Lib.hid (HB1.out.trans (hb.mono HB1.out.size))
      have HW2 := Lib.hid (HW1.out.below hb HW1.out.lt)
      have d1 := HW2.out.cell 1
      have d2 := HW2.out.cell 2
      simp at d1 d2
      clear hb c1 c2
      go_wp2
      go_ret
      first | exact says_b HE.out HB2.out | exact says_b (HE.out.trans (decide_eq_false (by omega)).symm) HB2.out
    | true =>
      have HR := Lib.hid hr
      by_cases hN : 1 ≤ N
      · have hN2 : (0 : Int) < (N : Int) := by omega
        by_cases ht : tx.size ≤ 20
        · have ht2 : (tx.size : Int) ≤ 20 := by omega
          have HE : Hid (letB us T tx = true) := Lib.hid (by unfold letB recB; rw [hn, hr]; simp only [HL.out]; simp [ht, hN])
          clear hn hr
          go_enter Try.func19, Try.ntmps19
          go_wp2_with fail
          refine (sname_at HN.out hu _).mono ?_
          rintro e w1 ⟨rfl, rfl⟩
          have HW1 := HW
          have HB1 := HB
          have HS1 := HS
          have c1 := HW1.out.cell 1
          have c2 := HW1.out.cell 2
          simp at c1 c2
          go_wp2_with fail
          refine (names_at HR.out _ HS1.out).mono ?_
          rintro e w2 ⟨rfl, hb⟩
          have HB2 := Lib.hid (HB1.out.trans (hb.mono HB1.out.size))
          have HW2 := Lib.hid (HW1.out.below hb HW1.out.lt)
          have d1 := HW2.out.cell 1
          have d2 := HW2.out.cell 2
          simp at d1 d2
          clear hb c1 c2
          go_wp2
          go_ret
          first | exact says_b HE.out HB2.out | exact says_b (HE.out.trans (decide_eq_false (by omega)).symm) HB2.out
        · have ht2 : ¬ (tx.size : Int) ≤ 20 := by omega
          have HE : Hid (letB us T tx = false) := Lib.hid (by unfold letB recB; rw [hn, hr]; simp only [HL.out]; simp [ht])
          clear hn hr
          go_enter Try.func19, Try.ntmps19
          go_wp2_with fail
          refine (sname_at HN.out hu _).mono ?_
          rintro e w1 ⟨rfl, rfl⟩
          have HW1 := HW
          have HB1 := HB
          have HS1 := HS
          have c1 := HW1.out.cell 1
          have c2 := HW1.out.cell 2
          simp at c1 c2
          go_wp2_with fail
          refine (names_at HR.out _ HS1.out).mono ?_
          rintro e w2 ⟨rfl, hb⟩
          have HB2 := Lib.hid (HB1.out.trans (hb.mono HB1.out.size))
          have HW2 := Lib.hid (HW1.out.below hb HW1.out.lt)
          have d1 := HW2.out.cell 1
          have d2 := HW2.out.cell 2
          simp at d1 d2
          clear hb c1 c2
          go_wp2
          go_ret
          first | exact says_b HE.out HB2.out | exact says_b (HE.out.trans (decide_eq_false (by omega)).symm) HB2.out
      · have hN2 : ¬ (0 : Int) < (N : Int) := by omega
        have HE : Hid (letB us T tx = false) := Lib.hid (by unfold letB recB; rw [hn, hr]; simp only [HL.out]; simp [hN])
        clear hn hr
        go_enter Try.func19, Try.ntmps19
        go_wp2_with fail
        refine (sname_at HN.out hu _).mono ?_
        rintro e w1 ⟨rfl, rfl⟩
        have HW1 := HW
        have HB1 := HB
        have HS1 := HS
        have c1 := HW1.out.cell 1
        have c2 := HW1.out.cell 2
        simp at c1 c2
        go_wp2_with fail
        refine (names_at HR.out _ HS1.out).mono ?_
        rintro e w2 ⟨rfl, hb⟩
        have HB2 := Lib.hid (HB1.out.trans (hb.mono HB1.out.size))
        have HW2 := Lib.hid (HW1.out.below hb HW1.out.lt)
        have d1 := HW2.out.cell 1
        have d2 := HW2.out.cell 2
        simp at d1 d2
        clear hb c1 c2
        go_wp2
        go_ret
        first | exact says_b HE.out HB2.out | exact says_b (HE.out.trans (decide_eq_false (by omega)).symm) HB2.out
theorem slet_at {us tx : ByteArray} {T : List ByteArray} {A : Option Addr} {N cap : Nat} {z : Bool} (hz : letB us T tx = z) (w : World) (h : SIn w A N cap T) (hu : us.size ≤ 16777216) : Calls Try.prog 19 #[.agg #[.string us, .slice A N cap, .string tx]] w (SayB w z) := by
  subst hz
  exact spec_letval us tx T A N cap w h hu
end Go.Proofs.Ytinbdibenbplnaa

namespace Go.Proofs.Ytinbdibenbplnaa
open Go.RowKit
set_option linter.unusedVariables false

/-- An item, with the slice of those who are left. -/
structure QI where
  id : Int
  us : ByteArray
  tx : ByteArray
  A : Option Addr
  N : Nat
  cap : Nat
  T : List ByteArray
def qiR : RowT QI where
  t := 38
  sz := 4
  enc := fun g => [.int .i64 g.id, .string g.us, .string g.tx, .slice g.A g.N g.cap]
  len := fun _ => rfl
  one := fun x u hu => by
    simp at hu
    rcases hu with rfl | rfl | rfl | rfl <;> rfl
def qiV (g : QI) : Value := .agg #[.int .i64 g.id, .string g.us, .string g.tx, .slice g.A g.N g.cap]
theorem qi_at {w : World} {A : Option Addr} {L : List QI} {k : Nat} {g : QI} (h : RAt qiR w A L) (hx : L[k]? = some g) :
    ∃ b o, A = some ⟨b, o, none⟩ ∧ b < w.heap.size ∧ w.cell? ⟨b, o + k * 4, none⟩ = some (.int .i64 g.id) ∧ w.cell? ⟨b, o + k * 4 + 1, none⟩ = some (.string g.us) ∧ w.cell? ⟨b, o + k * 4 + 2, none⟩ = some (.string g.tx) ∧ w.cell? ⟨b, o + k * 4 + 3, none⟩ = some (.slice g.A g.N g.cap) := by
  obtain ⟨b, o, hA, hb, h1⟩ := h k _ hx
  exact ⟨b, o, hA, hb, h1 0 _ rfl, h1 1 _ rfl, h1 2 _ rfl, h1 3 _ rfl⟩
/-- Items that can be read, and those who are left. -/
def QIn (w : World) (A : Option Addr) (N cap : Nat) (L : List QI) : Prop := L.length = N ∧ N ≤ 4194304 ∧ RAt qiR w A L ∧ (A = none → cap = 0) ∧ (∀ q, A = some q → q.spot = none) ∧ (∀ g ∈ L, g.us.size ≤ 16777216 ∧ SIn w g.A g.N g.cap g.T)
theorem QIn.below {w w' : World} {A : Option Addr} {N cap B : Nat} {L : List QI} (h : QIn w A N cap L) (hb : Below B w w') (hB : w.heap.size ≤ B) : QIn w' A N cap L :=
  ⟨h.1, h.2.1, h.2.2.1.below hb hB, h.2.2.2.1, h.2.2.2.2.1, fun g hg => ⟨(h.2.2.2.2.2 g hg).1, (h.2.2.2.2.2 g hg).2.below hb hB⟩⟩
/-- An item is a valid letter. -/
def itB (g : QI) : Bool := letB g.us g.T g.tx
/-- Items ascend behind a number, and each is valid. -/
def okQ : Int → List QI → Bool
  | _, [] => true
  | b, g :: L => decide (b < g.id) && (itB g && okQ g.id L)
def lastQ : Int → List QI → Int
  | b, [] => b
  | _, g :: L => lastQ g.id L
/-- A valid queue. -/
def vQ (n : Int) (L : List QI) : Bool := (decide (L.length ≤ 6) && decide (n ≤ 100)) && (okQ 0 L && decide (lastQ 0 L < n))
theorem okQ_snoc : ∀ (L : List QI) (b : Int) (g : QI), okQ b (L ++ [g]) = (okQ b L && (decide (lastQ b L < g.id) && itB g))
  | [], b, g => by
    show (decide (b < g.id) && (itB g && true)) = (true && (decide (b < g.id) && itB g))
    rw [Bool.and_true, Bool.true_and]
  | x :: L, b, g => by
    show (decide (b < x.id) && (itB x && okQ x.id (L ++ [g]))) = ((decide (b < x.id) && (itB x && okQ x.id L)) && (decide (lastQ x.id L < g.id) && itB g))
    rw [okQ_snoc L x.id g, Bool.and_assoc, Bool.and_assoc]
theorem lastQ_snoc : ∀ (L : List QI) (b : Int) (g : QI), lastQ b (L ++ [g]) = g.id
  | [], b, g => rfl
  | x :: L, b, g => by simp [lastQ, lastQ_snoc L x.id g]
theorem okQ_pre : ∀ {L M : List QI} {b : Int}, okQ b (L ++ M) = true → okQ b L = true
  | [], M, b, h => rfl
  | x :: L, M, b, h => by
    simp only [List.cons_append, okQ, Bool.and_eq_true] at h ⊢
    exact ⟨h.1, h.2.1, okQ_pre h.2.2⟩
theorem okQ_take {L : List QI} {k : Nat} {g : QI} (hx : L[k]? = some g) : okQ 0 (L.take (k + 1)) = (okQ 0 (L.take k) && (decide (lastQ 0 (L.take k) < g.id) && itB g)) := by
  rw [List.take_succ_eq_append_getElem (List.getElem?_eq_some_iff.1 hx).1, (List.getElem?_eq_some_iff.1 hx).2, okQ_snoc]
theorem lastQ_take {L : List QI} {k : Nat} {g : QI} (hx : L[k]? = some g) : lastQ 0 (L.take (k + 1)) = g.id := by
  rw [List.take_succ_eq_append_getElem (List.getElem?_eq_some_iff.1 hx).1, (List.getElem?_eq_some_iff.1 hx).2, lastQ_snoc]
theorem vQ_bad {n : Int} {L : List QI} {k : Nat} (h : okQ 0 (L.take k) = false) : vQ n L = false := by
  have : okQ 0 L = false := by
    cases ho : okQ 0 L with
    | false => rfl
    | true =>
      rw [← List.take_append_drop k L] at ho
      rw [okQ_pre ho] at h
      cases h
  simp [vQ, this]
set_option maxHeartbeats 2000000 in
theorem impl_isitem (g : QI) (w : World) (h : SIn w g.A g.N g.cap g.T) (hu : g.us.size ≤ 16777216) : Calls Try.prog 56 #[qiV g] w (SayB w (itB g)) := by
  have H := Lib.hid h
  clear h
  obtain ⟨id, us, tx, A, N, cap, T⟩ := g
  simp only at H hu
  unfold qiV
  simp only
  obtain ⟨wo, hwo⟩ : ∃ wo, w.alloc (.cells #[.int .i64 id, .string us, .string tx, .slice A N cap] 38) = wo := ⟨_, rfl⟩
  have HWO := Lib.hid (show Whole wo w.heap.size 38 #[.int .i64 id, .string us, .string tx, .slice A N cap] by rw [← hwo]; exact Whole.made w _ _)
  have HB := Lib.hid (show Below w.heap.size w wo by rw [← hwo]; exact below_new w _)
  have HS := Lib.hid (H.out.below HB.out (Nat.le_refl _))
  have g1 := HWO.out.cell 1
  have g2 := HWO.out.cell 2
  have g3 := HWO.out.cell 3
  simp at g1 g2 g3
  go_enter Try.func56, Try.ntmps56
  go_wp2_with fail
  refine (ilet_at (z := letB us T tx) rfl wo HS.out hu).mono ?_
  rintro e w2 ⟨rfl, hb⟩
  have HB2 := Lib.hid (HB.out.trans (hb.mono HB.out.size))
  clear hb
  go_wp2
  go_ret
  exact ⟨rfl, HB2.out⟩
set_option maxRecDepth 20000 in
set_option maxHeartbeats 8000000 in
theorem impl_queuevalid {n : Int} {A : Option Addr} {N cap : Nat} {L : List QI} (w : World) (h : QIn w A N cap L) : Calls Try.prog 25 #[.agg #[.int .i64 n, .slice A N cap]] w (SayB w (vQ n L)) := by
  have H := Lib.hid h
  have hl := h.1
  have HL := Lib.hid hl
  have hN := h.2.1
  obtain ⟨w1, hw1⟩ : ∃ w1, w.alloc (.cells #[.int .i64 n, .slice A N cap] 31) = w1 := ⟨_, rfl⟩
  obtain ⟨Q, hQ⟩ : ∃ Q, w.heap.size = Q := ⟨_, rfl⟩
  have HQ := Lib.hid hQ
  have HW1 := Lib.hid (show Whole w1 Q 31 #[.int .i64 n, .slice A N cap] by rw [← hw1, ← hQ]; exact Whole.made w _ _)
  have HB1 := Lib.hid (show Below w.heap.size w w1 by rw [← hw1]; exact below_new w _)
  have H1 := Lib.hid (H.out.below HB1.out (Nat.le_refl _))
  have g0 := HW1.out.cell 0
  have g1 := HW1.out.cell 1
  simp at g0 g1
  have HZ1 : Hid (w1.heap.size = Q + 1) := Lib.hid (by rw [← hw1, ← hQ]; simp)
  clear h hl
  go_enter Try.func25, Try.ntmps25
  by_cases h6 : N ≤ 6
  · have h6' : ¬ (N : Int) > 6 := by omega
    have h6d : ¬ (6 : Int) < (N : Int) := by omega
    by_cases hn : n ≤ 100
    · have hn' : ¬ n > 100 := by omega
      have hnd : ¬ (100 : Int) < n := by omega
      go_wp2
      have HN' := Lib.hid hn
      have HN6 := Lib.hid h6
      clear hw1 hQ h6 hn
      go_loopw [3, 18] (fun bv iv wr => ∃ k : Nat, k ≤ N ∧ bv = .int .i64 (lastQ 0 (L.take k)) ∧ iv = .int .i64 (k : Int) ∧ Hid (okQ 0 (L.take k) = true) ∧ Hid (Below w1.heap.size w1 wr)) (fun _ iv _ => N - (intOf iv).toNat)
      case atStart => exact ⟨0, Nat.zero_le _, rfl, rfl, rfl, Below.refl _ _⟩
      case round =>
        obtain ⟨k, hk, rfl, rfl, HO, HB⟩ := hrel
        obtain ⟨b0, hb0⟩ : ∃ b, lastQ 0 (L.take k) = b := ⟨_, rfl⟩
        have HB0 := Lib.hid hb0
        rw [hb0]
        clear hb0
        by_cases hlt : k < N
        · have i0 : (0 : Int) ≤ (k : Int) := by omega
          have i1 : (k : Int) < (N : Int) := by omega
          obtain ⟨g, hx⟩ : ∃ x, L[k]? = some x := ⟨_, List.getElem?_eq_getElem (by rw [HL.out]; exact hlt)⟩
          have HX := Lib.hid hx
          have HM := Lib.hid (List.mem_of_getElem? hx)
          obtain ⟨id, us, tx, A2, N2, cap2, T2⟩ := g
          have HRr := Lib.hid (H1.out.below HB.out (Nat.le_refl _))
          obtain ⟨b, o, rfl, hb, c0, c1, c2, c3⟩ := qi_at HRr.out.2.2.1 hx
          simp only at c0 c1 c2 c3
          obtain ⟨B, hB⟩ : ∃ B, wr.heap.size = B := ⟨_, rfl⟩
          obtain ⟨wo, hwo⟩ : ∃ wo, wr.alloc (.cells #[.int .i64 id, .string us, .string tx, .slice A2 N2 cap2] 38) = wo := ⟨_, rfl⟩
          have HWO := Lib.hid (show Whole wo B 38 #[.int .i64 id, .string us, .string tx, .slice A2 N2 cap2] by rw [← hwo, ← hB]; exact Whole.made wr _ _)
          have HBo := Lib.hid (show Below w1.heap.size w1 wo by rw [← hwo]; exact HB.out.alloc HB.out.size _)
          have HSo := Lib.hid (H1.out.below HBo.out (Nat.le_refl _)).2.2.2.2.2
          have q0 := HWO.out.cell 0
          have q1 := HWO.out.cell 1
          have q2 := HWO.out.cell 2
          have q3 := HWO.out.cell 3
          simp at q0 q1 q2 q3
          obtain ⟨j, hj⟩ : ∃ j, k + 1 = j := ⟨_, rfl⟩
          have HJ := Lib.hid hj
          have e2 : (k : Int) + 1 = (j : Int) := by omega
          have w2 : IntKind.i64.wrap (j : Int) = (j : Int) := IntWalk.i64_in _ (by omega)
          clear hj hx
          by_cases hid : id ≤ b0
          · have HE : Hid (vQ n L = false) := Lib.hid (vQ_bad (k := k + 1) (by rw [okQ_take HX.out, HB0.out]; simp [show ¬ b0 < id by omega]))
            go_wp2
            go_ret
            exact says_b HE.out (HB1.out.trans (HBo.out.mono HB1.out.size))
          · cases hz : itB ⟨id, us, tx, A2, N2, cap2, T2⟩ with
            | false =>
              have HE : Hid (vQ n L = false) := Lib.hid (vQ_bad (k := k + 1) (by rw [okQ_take HX.out, hz]; simp))
              have HZ := Lib.hid hz
              clear hz
              go_wp2_with fail
              refine (impl_isitem ⟨id, us, tx, A2, N2, cap2, T2⟩ wo (HSo.out _ HM.out).2 (HSo.out _ HM.out).1).mono ?_
              rw [HZ.out]
              rintro e w3 ⟨rfl, hb3⟩
              have HB3 := Lib.hid (HBo.out.trans (hb3.mono HBo.out.size))
              clear hb3
              go_wp2
              go_ret
              exact says_b HE.out (HB1.out.trans (HB3.out.mono HB1.out.size))
            | true =>
              have HO2 : Hid (okQ 0 (L.take j) = true) := Lib.hid (by rw [← HJ.out, okQ_take HX.out, hz, HO.out, HB0.out]; simp [show b0 < id by omega])
              have HL2 : Hid (lastQ 0 (L.take j) = id) := Lib.hid (by rw [← HJ.out, lastQ_take HX.out])
              have HZ := Lib.hid hz
              clear hz
              go_wp2_with fail
              refine (impl_isitem ⟨id, us, tx, A2, N2, cap2, T2⟩ wo (HSo.out _ HM.out).2 (HSo.out _ HM.out).1).mono ?_
              rw [HZ.out]
              rintro e w3 ⟨rfl, hb3⟩
              have hW3 := HWO.out.below hb3 HWO.out.lt
              have q5 := hW3.cell 0
              simp at q5
              have HB3 := Lib.hid (HBo.out.trans (hb3.mono HBo.out.size))
              clear hb3 hW3
              go_wp2
              go_roundw
              case rel => exact ⟨j, by have := HJ.out; omega, by rw [HL2.out], rfl, HO2, HB3⟩
              case measure => have hj := HJ.out; simp [intOf]; omega
        · have i1 : ¬ (k : Int) < (N : Int) := by omega
          have hkN : k = N := by omega
          have hT : L.take k = L := by rw [hkN, ← HL.out, List.take_length]
          have HE : Hid (vQ n L = decide (b0 < n)) := Lib.hid (by
            have h1 := HO.out
            have h2 := HB0.out
            rw [hT] at h1 h2
            have h3 := HN6.out
            have h4 := HN'.out
            have h5 := HL.out
            simp [vQ, h1, h2, h4, show L.length ≤ 6 by omega])
          have hW3 := HW1.out.below HB.out HW1.out.lt
          have q0 := hW3.cell 0
          simp at q0
          clear hW3 hT hkN
          go_wp2
          go_ret
          exact says_b HE.out (HB1.out.trans (HB.out.mono HB1.out.size))
    · have hn' : n > 100 := by omega
      have hnd : (100 : Int) < n := by omega
      have HE : Hid (vQ n L = false) := Lib.hid (by simp [vQ, show ¬ n ≤ 100 by omega])
      go_wp2
      go_ret
      exact says_b HE.out HB1.out
  · have h6' : (N : Int) > 6 := by omega
    have h6d : (6 : Int) < (N : Int) := by omega
    have HE : Hid (vQ n L = false) := Lib.hid (by have h5 := HL.out; simp [vQ, show ¬ L.length ≤ 6 by omega])
    go_wp2
    go_ret
    exact says_b HE.out HB1.out
end Go.Proofs.Ytinbdibenbplnaa

namespace Go.Proofs.Ytinbdibenbplnaa
open Go.RowKit
set_option linter.unusedVariables false

theorem okQ_le : ∀ {L : List QI} {b : Int}, okQ b L = true → b ≤ lastQ b L ∧ ∀ g ∈ L, g.id ≤ lastQ b L
  | [], b, h => ⟨Int.le_refl _, fun g hg => by cases hg⟩
  | x :: L, b, h => by
    have h1 : b < x.id ∧ itB x = true ∧ okQ x.id L = true := by
      have h2 : (decide (b < x.id) && (itB x && okQ x.id L)) = true := h
      simp only [Bool.and_eq_true, decide_eq_true_eq] at h2
      exact h2
    obtain ⟨h3, h4⟩ := okQ_le h1.2.2
    refine ⟨?_, fun g hg => ?_⟩
    · show b ≤ lastQ x.id L
      omega
    · rcases List.mem_cons.1 hg with rfl | hg
      · exact h3
      · exact h4 g hg
theorem vQ_big {n : Int} {L : List QI} {g : QI} (hm : g ∈ L) (hb : 99 < g.id) : vQ n L = false := by
  cases ho : okQ 0 L with
  | false => simp [vQ, ho]
  | true =>
    have := (okQ_le ho).2 g hm
    by_cases h1 : n ≤ 100
    · simp [vQ, show ¬ lastQ 0 L < n by omega]
    · simp [vQ, h1]
theorem sinr_at {n a b : Int} {z : Bool} (h : (decide (a ≤ n) && decide (n ≤ b)) = z) (w : World) : Calls Try.prog 58 #[.int .i64 n, .int .i64 a, .int .i64 b] w fun e w' => e = .returned (.bool z) ∧ w' = w := by
  subst h
  exact spec_inr n a b w
set_option maxRecDepth 20000 in
set_option maxHeartbeats 8000000 in
theorem spec_queuevalid {n : Int} {A : Option Addr} {N cap : Nat} {L : List QI} (w : World) (h : QIn w A N cap L) : Calls Try.prog 29 #[.agg #[.int .i64 n, .slice A N cap]] w (SayB w (vQ n L)) := by
  have H := Lib.hid h
  have hl := h.1
  have HL := Lib.hid hl
  have hN := h.2.1
  obtain ⟨w1, hw1⟩ : ∃ w1, w.alloc (.cells #[.int .i64 n, .slice A N cap] 31) = w1 := ⟨_, rfl⟩
  obtain ⟨Q, hQ⟩ : ∃ Q, w.heap.size = Q := ⟨_, rfl⟩
  have HQ := Lib.hid hQ
  have HW1 := Lib.hid (show Whole w1 Q 31 #[.int .i64 n, .slice A N cap] by rw [← hw1, ← hQ]; exact Whole.made w _ _)
  have HB1 := Lib.hid (show Below w.heap.size w w1 by rw [← hw1]; exact below_new w _)
  have H1 := Lib.hid (H.out.below HB1.out (Nat.le_refl _))
  clear h hl
  go_enter Try.func29, Try.ntmps29
  go_wp2
  clear hw1 hQ
  go_loopw [3, 4] (fun bv iv wr => ∃ k : Nat, k ≤ N ∧ bv = .int .i64 (lastQ 0 (L.take k)) ∧ iv = .int .i64 (k : Int) ∧ Hid (0 ≤ lastQ 0 (L.take k) ∧ lastQ 0 (L.take k) ≤ 99) ∧ Hid (okQ 0 (L.take k) = true) ∧ Hid (Below w1.heap.size w1 wr)) (fun _ iv _ => N - (intOf iv).toNat)
  case atStart => exact ⟨0, Nat.zero_le _, rfl, rfl, ⟨by show (0 : Int) ≤ 0; decide, by show (0 : Int) ≤ 99; decide⟩, rfl, Below.refl _ _⟩
  case round =>
    obtain ⟨k, hk, rfl, rfl, HR9, HO, HB⟩ := hrel
    obtain ⟨b0, hb0⟩ : ∃ b, lastQ 0 (L.take k) = b := ⟨_, rfl⟩
    have HB0 := Lib.hid hb0
    rw [hb0] at HR9 ⊢
    have hb1 := HR9.out.1
    have hb2 := HR9.out.2
    obtain ⟨b3, hb3⟩ : ∃ b3, b0 + 1 = b3 := ⟨_, rfl⟩
    have HB3 := Lib.hid hb3
    have wb : IntKind.i64.wrap b3 = b3 := IntWalk.i64_in _ (by omega)
    clear hb0
    have hW1 := HW1.out.below HB.out HW1.out.lt
    have g0 := hW1.cell 0
    have g1 := hW1.cell 1
    simp at g0 g1
    clear hW1
    by_cases hlt : k < N
    · have i0 : (0 : Int) ≤ (k : Int) := by omega
      have i1 : (k : Int) < (N : Int) := by omega
      obtain ⟨g, hx⟩ : ∃ x, L[k]? = some x := ⟨_, List.getElem?_eq_getElem (by rw [HL.out]; exact hlt)⟩
      have HX := Lib.hid hx
      have HM := Lib.hid (List.mem_of_getElem? hx)
      obtain ⟨id, us, tx, A2, N2, cap2, T2⟩ := g
      have HRr := Lib.hid (H1.out.below HB.out (Nat.le_refl _))
      obtain ⟨b, o, rfl, hb, c0, c1, c2, c3⟩ := qi_at HRr.out.2.2.1 hx
      simp only at c0 c1 c2 c3
      obtain ⟨B, hB⟩ : ∃ B, wr.heap.size = B := ⟨_, rfl⟩
      obtain ⟨wo, hwo⟩ : ∃ wo, wr.alloc (.cells #[.int .i64 id, .string us, .string tx, .slice A2 N2 cap2] 38) = wo := ⟨_, rfl⟩
      have HWO := Lib.hid (show Whole wo B 38 #[.int .i64 id, .string us, .string tx, .slice A2 N2 cap2] by rw [← hwo, ← hB]; exact Whole.made wr _ _)
      have HBo := Lib.hid (show Below w1.heap.size w1 wo by rw [← hwo]; exact HB.out.alloc HB.out.size _)
      have HSo := Lib.hid (H1.out.below HBo.out (Nat.le_refl _)).2.2.2.2.2
      have q0 := HWO.out.cell 0
      have q1 := HWO.out.cell 1
      have q2 := HWO.out.cell 2
      have q3 := HWO.out.cell 3
      simp at q0 q1 q2 q3
      obtain ⟨j, hj⟩ : ∃ j, k + 1 = j := ⟨_, rfl⟩
      have HJ := Lib.hid hj
      have e2 : (k : Int) + 1 = (j : Int) := by omega
      have w2 : IntKind.i64.wrap (j : Int) = (j : Int) := IntWalk.i64_in _ (by omega)
      clear hj hx
      cases hr : (decide (b3 ≤ id) && decide (id ≤ 99)) with
      | false =>
        have HR := Lib.hid hr
        have HE : Hid (vQ n L = false) := Lib.hid (by
          by_cases h9 : 99 < id
          · exact vQ_big HM.out h9
          · refine vQ_bad (k := k + 1) ?_
            rw [okQ_take HX.out, HB0.out]
            have : ¬ b0 < id := fun h => by
              rw [show decide (b3 ≤ id) = true from decide_eq_true (by omega), show decide (id ≤ 99) = true from decide_eq_true (by omega)] at hr
              cases hr
            simp [this])
        clear hr
        go_wp2_with fail
        refine (sinr_at HR.out wo).mono ?_
        rintro e w3 ⟨rfl, rfl⟩
        go_wp2
        go_ret
        exact says_b HE.out (HB1.out.trans (HBo.out.mono HB1.out.size))
      | true =>
        have HR := Lib.hid hr
        have hid1 : b0 < id ∧ id ≤ 99 := by
          simp only [Bool.and_eq_true, decide_eq_true_eq] at hr
          omega
        have HID := Lib.hid hid1
        clear hr hid1
        cases hz : itB ⟨id, us, tx, A2, N2, cap2, T2⟩ with
        | false =>
          have HE : Hid (vQ n L = false) := Lib.hid (vQ_bad (k := k + 1) (by rw [okQ_take HX.out, hz]; simp))
          have HZ : Hid (letB us T2 tx = false) := Lib.hid hz
          clear hz
          go_wp2_with fail
          refine (sinr_at HR.out wo).mono ?_
          rintro e w3 ⟨rfl, rfl⟩
          go_wp2_with fail
          refine (slet_at HZ.out w3 (HSo.out _ HM.out).2 (HSo.out _ HM.out).1).mono ?_
          rintro e w4 ⟨rfl, hb3⟩
          have HB4 := Lib.hid (HBo.out.trans (hb3.mono HBo.out.size))
          clear hb3
          go_wp2
          go_ret
          exact says_b HE.out (HB1.out.trans (HB4.out.mono HB1.out.size))
        | true =>
          have HO2 : Hid (okQ 0 (L.take j) = true) := Lib.hid (by rw [← HJ.out, okQ_take HX.out, hz, HO.out, HB0.out]; simp [HID.out.1])
          have HL2 : Hid (lastQ 0 (L.take j) = id) := Lib.hid (by rw [← HJ.out, lastQ_take HX.out])
          have HZ : Hid (letB us T2 tx = true) := Lib.hid hz
          clear hz
          go_wp2_with fail
          refine (sinr_at HR.out wo).mono ?_
          rintro e w3 ⟨rfl, rfl⟩
          go_wp2_with fail
          refine (slet_at HZ.out w3 (HSo.out _ HM.out).2 (HSo.out _ HM.out).1).mono ?_
          rintro e w4 ⟨rfl, hb4⟩
          have hW3 := HWO.out.below hb4 HWO.out.lt
          have q5 := hW3.cell 0
          simp at q5
          have HB4 := Lib.hid (HBo.out.trans (hb4.mono HBo.out.size))
          clear hb4 hW3
          go_wp2
          go_roundw
          case rel => exact ⟨j, by have := HJ.out; omega, by rw [HL2.out], rfl, ⟨by rw [HL2.out]; have := HID.out; omega, by rw [HL2.out]; exact HID.out.2⟩, HO2, HB4⟩
          case measure => have hj := HJ.out; simp [intOf]; omega
    · have i1 : ¬ (k : Int) < (N : Int) := by omega
      have hkN : k = N := by omega
      have hT : L.take k = L := by rw [hkN, ← HL.out, List.take_length]
      obtain ⟨z6, hz6⟩ : ∃ z, decide ((N : Int) ≤ 6) = z := ⟨_, rfl⟩
      cases hr : (decide (b3 ≤ n) && decide (n ≤ 100)) with
      | false =>
        have HR := Lib.hid hr
        have HE : Hid (vQ n L = false) := Lib.hid (by
          have h2 := HB0.out
          rw [hT] at h2
          by_cases h4 : n ≤ 100
          · have h5 : ¬ lastQ 0 L < n := fun h => by
              rw [show decide (b3 ≤ n) = true from decide_eq_true (by omega), decide_eq_true h4] at hr
              cases hr
            simp [vQ, h5]
          · simp [vQ, h4])
        clear hr hT hkN
        go_wp2_with fail
        refine (sinr_at HR.out wr).mono ?_
        rintro e w3 ⟨rfl, rfl⟩
        go_wp2
        go_ret
        exact says_b HE.out (HB1.out.trans (HB.out.mono HB1.out.size))
      | true =>
        have HR := Lib.hid hr
        have HE : Hid (vQ n L = decide ((N : Int) ≤ 6)) := Lib.hid (by
          have h1 := HO.out
          have h2 := HB0.out
          rw [hT] at h1 h2
          simp only [Bool.and_eq_true, decide_eq_true_eq] at hr
          have h5 := HL.out
          by_cases h6 : N ≤ 6
          · simp [vQ, h1, hr.2, show L.length ≤ 6 by omega, show lastQ 0 L < n by omega, show (N : Int) ≤ 6 by omega]
          · simp [vQ, show ¬ L.length ≤ 6 by omega, show ¬ (N : Int) ≤ 6 by omega])
        clear hr hT hkN hz6
        go_wp2_with fail
        refine (sinr_at HR.out wr).mono ?_
        rintro e w3 ⟨rfl, rfl⟩
        go_wp2
        go_ret
        exact says_b HE.out (HB1.out.trans (HB.out.mono HB1.out.size))
end Go.Proofs.Ytinbdibenbplnaa

namespace Go.Proofs.Ytinbdibenbplnaa
open Go.RowKit
set_option linter.unusedVariables false

/-- How many items still wait for a user. -/
def cntQ (u : ByteArray) (L : List QI) : Nat := (L.filter fun g => decide (u ∈ g.T)).length
theorem cntQ_le (u : ByteArray) (L : List QI) : cntQ u L ≤ L.length := List.length_filter_le _ _
theorem cntQ_take {u : ByteArray} {L : List QI} {k : Nat} {g : QI} {z : Bool} (hx : L[k]? = some g) (hz : decide (u ∈ g.T) = z) : cntQ u (L.take (k + 1)) = cntQ u (L.take k) + (if z then 1 else 0) := by
  rw [List.take_succ_eq_append_getElem (List.getElem?_eq_some_iff.1 hx).1, (List.getElem?_eq_some_iff.1 hx).2]
  unfold cntQ
  rw [List.filter_append, List.length_append]
  congr 1
  cases z with
  | true => rw [List.filter_cons_of_pos (by exact hz)]; rfl
  | false => rw [List.filter_cons_of_neg (by rw [hz]; simp)]; rfl
def leftQ (u : ByteArray) (n : Int) (L : List QI) : Int := if vQ n L = true then (cntQ u L : Int) else -1
theorem iqv_at {n : Int} {A : Option Addr} {N cap : Nat} {L : List QI} {z : Bool} (hz : vQ n L = z) (w : World) (h : QIn w A N cap L) : Calls Try.prog 25 #[.agg #[.int .i64 n, .slice A N cap]] w (SayB w z) := by
  subst hz
  exact impl_queuevalid w h
theorem sqv_at {n : Int} {A : Option Addr} {N cap : Nat} {L : List QI} {z : Bool} (hz : vQ n L = z) (w : World) (h : QIn w A N cap L) : Calls Try.prog 29 #[.agg #[.int .i64 n, .slice A N cap]] w (SayB w z) := by
  subst hz
  exact spec_queuevalid w h
set_option maxRecDepth 20000 in
set_option maxHeartbeats 8000000 in
theorem impl_queueleft {n : Int} {A : Option Addr} {N cap : Nat} {L : List QI} (u : ByteArray) (w : World) (h : QIn w A N cap L) : Calls Try.prog 27 #[.agg #[.int .i64 n, .slice A N cap], .string u] w fun e w' => e = .returned (.int .i64 (leftQ u n L)) ∧ Below w.heap.size w w' := by
  have H := Lib.hid h
  have HL := Lib.hid h.1
  have hN := h.2.1
  obtain ⟨w1, hw1⟩ : ∃ w1, w.alloc (.cells #[.int .i64 n, .slice A N cap] 31) = w1 := ⟨_, rfl⟩
  obtain ⟨Q, hQ⟩ : ∃ Q, w.heap.size = Q := ⟨_, rfl⟩
  have HQ := Lib.hid hQ
  have HW1 := Lib.hid (show Whole w1 Q 31 #[.int .i64 n, .slice A N cap] by rw [← hw1, ← hQ]; exact Whole.made w _ _)
  have HB1 := Lib.hid (show Below w.heap.size w w1 by rw [← hw1]; exact below_new w _)
  have H1 := Lib.hid (H.out.below HB1.out (Nat.le_refl _))
  have g0 := HW1.out.cell 0
  have g1 := HW1.out.cell 1
  simp at g0 g1
  clear h
  cases hv : vQ n L with
  | false =>
    have HV := Lib.hid hv
    have HE : Hid (leftQ u n L = -1) := Lib.hid (by simp [leftQ, hv])
    clear hv
    go_enter Try.func27, Try.ntmps27
    go_wp2_with fail
    refine (iqv_at HV.out w1 H1.out).mono ?_
    rintro e w2 ⟨rfl, hb⟩
    have HB2 := Lib.hid (HB1.out.trans (hb.mono HB1.out.size))
    clear hb
    go_wp2
    go_ret
    rw [HE.out]
    exact ⟨rfl, HB2.out⟩
  | true =>
    have HV := Lib.hid hv
    have HE : Hid (leftQ u n L = (cntQ u L : Int)) := Lib.hid (by simp [leftQ, hv])
    clear hv
    go_enter Try.func27, Try.ntmps27
    go_wp2_with fail
    refine (iqv_at HV.out w1 H1.out).mono ?_
    rintro e w2 ⟨rfl, hb⟩
    have HB2 := Lib.hid (HB1.out.trans (hb.mono HB1.out.size))
    have H2 := Lib.hid (H1.out.below hb (Nat.le_refl _))
    have hW2 := HW1.out.below hb HW1.out.lt
    have p1 := hW2.cell 1
    simp at p1
    clear hb hW2 g0 g1 hw1 hQ
    go_wp2
    go_loopw [5, 14] (fun cv iv wr => ∃ k : Nat, k ≤ N ∧ cv = .int .i64 (cntQ u (L.take k) : Int) ∧ iv = .int .i64 (k : Int) ∧ Hid (Below w2.heap.size w2 wr)) (fun _ iv _ => N - (intOf iv).toNat)
    case atStart => exact ⟨0, Nat.zero_le _, rfl, rfl, Below.refl _ _⟩
    case round =>
      obtain ⟨k, hk, rfl, rfl, HB⟩ := hrel
      obtain ⟨c, hc⟩ : ∃ c, cntQ u (L.take k) = c := ⟨_, rfl⟩
      have hc2 : c ≤ N := by
        have h1 := cntQ_le u (L.take k)
        rw [hc] at h1
        rw [List.length_take] at h1
        omega
      have HC := Lib.hid hc
      rw [hc]
      clear hc
      by_cases hlt : k < N
      · have i0 : (0 : Int) ≤ (k : Int) := by omega
        have i1 : (k : Int) < (N : Int) := by omega
        obtain ⟨g, hx⟩ : ∃ x, L[k]? = some x := ⟨_, List.getElem?_eq_getElem (by rw [HL.out]; exact hlt)⟩
        have HX := Lib.hid hx
        have HM := Lib.hid (List.mem_of_getElem? hx)
        obtain ⟨id, us, tx, A2, N2, cap2, T2⟩ := g
        have HRr := Lib.hid (H2.out.below HB.out (Nat.le_refl _))
        obtain ⟨b, o, rfl, hb, c0, c1, c2, c3⟩ := qi_at HRr.out.2.2.1 hx
        simp only at c0 c1 c2 c3
        obtain ⟨B, hB⟩ : ∃ B, wr.heap.size = B := ⟨_, rfl⟩
        obtain ⟨wo, hwo⟩ : ∃ wo, wr.alloc (.cells #[.int .i64 id, .string us, .string tx, .slice A2 N2 cap2] 38) = wo := ⟨_, rfl⟩
        have HWO := Lib.hid (show Whole wo B 38 #[.int .i64 id, .string us, .string tx, .slice A2 N2 cap2] by rw [← hwo, ← hB]; exact Whole.made wr _ _)
        have HBo := Lib.hid (show Below w2.heap.size w2 wo by rw [← hwo]; exact HB.out.alloc HB.out.size _)
        have HSo := Lib.hid (H2.out.below HBo.out (Nat.le_refl _)).2.2.2.2.2
        have q3 := HWO.out.cell 3
        simp at q3
        obtain ⟨j, hj⟩ : ∃ j, k + 1 = j := ⟨_, rfl⟩
        have HJ := Lib.hid hj
        have e2 : (k : Int) + 1 = (j : Int) := by omega
        have w2' : IntKind.i64.wrap (j : Int) = (j : Int) := IntWalk.i64_in _ (by omega)
        obtain ⟨d, hd⟩ : ∃ d, c + 1 = d := ⟨_, rfl⟩
        have HD := Lib.hid hd
        have e3 : (c : Int) + 1 = (d : Int) := by omega
        have w3' : IntKind.i64.wrap (d : Int) = (d : Int) := IntWalk.i64_in _ (by omega)
        clear hj hx hd
        cases hz : decide (u ∈ T2) with
        | false =>
          have HZ := Lib.hid hz
          have HC2 : Hid (cntQ u (L.take j) = c) := Lib.hid (by rw [← HJ.out, cntQ_take HX.out hz, HC.out]; rfl)
          clear hz
          go_wp2_with fail
          refine (lib_has HZ.out wo (HSo.out _ HM.out).2).mono ?_
          rintro e w5 ⟨rfl, rfl⟩
          go_wp2
          go_roundw
          case rel => exact ⟨j, by have := HJ.out; omega, by rw [HC2.out], rfl, HBo⟩
          case measure => have hj := HJ.out; simp [intOf]; omega
        | true =>
          have HZ := Lib.hid hz
          have HC2 : Hid (cntQ u (L.take j) = d) := Lib.hid (by rw [← HJ.out, cntQ_take HX.out hz, HC.out, ← HD.out]; rfl)
          clear hz
          go_wp2_with fail
          refine (lib_has HZ.out wo (HSo.out _ HM.out).2).mono ?_
          rintro e w5 ⟨rfl, rfl⟩
          go_wp2
          go_roundw
          case rel => exact ⟨j, by have := HJ.out; omega, by rw [HC2.out], rfl, HBo⟩
          case measure => have hj := HJ.out; simp [intOf]; omega
      · have i1 : ¬ (k : Int) < (N : Int) := by omega
        have hkN : k = N := by omega
        have hT : L.take k = L := by rw [hkN, ← HL.out, List.take_length]
        have HE2 : Hid (leftQ u n L = (c : Int)) := Lib.hid (by rw [HE.out, ← HC.out, hT])
        clear hT hkN
        go_wp2
        go_ret
        rw [HE2.out]
        exact ⟨rfl, HB2.out.trans (HB.out.mono HB2.out.size)⟩
set_option maxRecDepth 20000 in
set_option maxHeartbeats 8000000 in
theorem spec_queueleft {n : Int} {A : Option Addr} {N cap : Nat} {L : List QI} (u : ByteArray) (w : World) (h : QIn w A N cap L) : Calls Try.prog 34 #[.agg #[.int .i64 n, .slice A N cap], .string u] w fun e w' => e = .returned (.int .i64 (leftQ u n L)) ∧ Below w.heap.size w w' := by
  have H := Lib.hid h
  have HL := Lib.hid h.1
  have hN := h.2.1
  obtain ⟨w1, hw1⟩ : ∃ w1, w.alloc (.cells #[.int .i64 n, .slice A N cap] 31) = w1 := ⟨_, rfl⟩
  obtain ⟨Q, hQ⟩ : ∃ Q, w.heap.size = Q := ⟨_, rfl⟩
  have HQ := Lib.hid hQ
  have HW1 := Lib.hid (show Whole w1 Q 31 #[.int .i64 n, .slice A N cap] by rw [← hw1, ← hQ]; exact Whole.made w _ _)
  have HB1 := Lib.hid (show Below w.heap.size w w1 by rw [← hw1]; exact below_new w _)
  have H1 := Lib.hid (H.out.below HB1.out (Nat.le_refl _))
  clear h
  go_enter Try.func34, Try.ntmps34
  go_wp2
  clear hw1 hQ
  go_loopw [5, 6] (fun cv iv wr => ∃ k : Nat, k ≤ N ∧ cv = .int .i64 (cntQ u (L.take k) : Int) ∧ iv = .int .i64 (k : Int) ∧ Hid (Below w1.heap.size w1 wr)) (fun _ iv _ => N - (intOf iv).toNat)
  case atStart => exact ⟨0, Nat.zero_le _, rfl, rfl, Below.refl _ _⟩
  case round =>
    obtain ⟨k, hk, rfl, rfl, HB⟩ := hrel
    obtain ⟨c, hc⟩ : ∃ c, cntQ u (L.take k) = c := ⟨_, rfl⟩
    have hc2 : c ≤ N := by
      have h1 := cntQ_le u (L.take k)
      rw [hc] at h1
      rw [List.length_take] at h1
      omega
    have HC := Lib.hid hc
    rw [hc]
    clear hc
    have hW1 := HW1.out.below HB.out HW1.out.lt
    have g0 := hW1.cell 0
    have g1 := hW1.cell 1
    simp at g0 g1
    clear hW1
    have HRr := Lib.hid (H1.out.below HB.out (Nat.le_refl _))
    by_cases hlt : k < N
    · have i0 : (0 : Int) ≤ (k : Int) := by omega
      have i1 : (k : Int) < (N : Int) := by omega
      obtain ⟨g, hx⟩ : ∃ x, L[k]? = some x := ⟨_, List.getElem?_eq_getElem (by rw [HL.out]; exact hlt)⟩
      have HX := Lib.hid hx
      have HM := Lib.hid (List.mem_of_getElem? hx)
      obtain ⟨id, us, tx, A2, N2, cap2, T2⟩ := g
      obtain ⟨b, o, rfl, hb, c0, c1, c2, c3⟩ := qi_at HRr.out.2.2.1 hx
      simp only at c0 c1 c2 c3
      obtain ⟨j, hj⟩ : ∃ j, k + 1 = j := ⟨_, rfl⟩
      have HJ := Lib.hid hj
      have e2 : (k : Int) + 1 = (j : Int) := by omega
      have w2' : IntKind.i64.wrap (j : Int) = (j : Int) := IntWalk.i64_in _ (by omega)
      obtain ⟨d, hd⟩ : ∃ d, c + 1 = d := ⟨_, rfl⟩
      have HD := Lib.hid hd
      have e3 : (c : Int) + 1 = (d : Int) := by omega
      have w3' : IntKind.i64.wrap (d : Int) = (d : Int) := IntWalk.i64_in _ (by omega)
      clear hj hx hd
      cases hz : decide (u ∈ T2) with
      | false =>
        have HZ := Lib.hid hz
        have HC2 : Hid (cntQ u (L.take j) = c) := Lib.hid (by rw [← HJ.out, cntQ_take HX.out hz, HC.out]; rfl)
        clear hz
        go_wp2_with fail
        refine (spec_has HZ.out wr (HRr.out.2.2.2.2.2 _ HM.out).2).mono ?_
        rintro e w5 ⟨rfl, rfl⟩
        go_wp2
        go_roundw
        case rel => exact ⟨j, by have := HJ.out; omega, by rw [HC2.out], rfl, HB⟩
        case measure => have hj := HJ.out; simp [intOf]; omega
      | true =>
        have HZ := Lib.hid hz
        have HC2 : Hid (cntQ u (L.take j) = d) := Lib.hid (by rw [← HJ.out, cntQ_take HX.out hz, HC.out, ← HD.out]; rfl)
        clear hz
        go_wp2_with fail
        refine (spec_has HZ.out wr (HRr.out.2.2.2.2.2 _ HM.out).2).mono ?_
        rintro e w5 ⟨rfl, rfl⟩
        go_wp2
        go_roundw
        case rel => exact ⟨j, by have := HJ.out; omega, by rw [HC2.out], rfl, HB⟩
        case measure => have hj := HJ.out; simp [intOf]; omega
    · have i1 : ¬ (k : Int) < (N : Int) := by omega
      have hkN : k = N := by omega
      have hT : L.take k = L := by rw [hkN, ← HL.out, List.take_length]
      have HT := Lib.hid hT
      clear hT hkN
      cases hv : vQ n L with
      | false =>
        have HV := Lib.hid hv
        have HE : Hid (leftQ u n L = -1) := Lib.hid (by simp [leftQ, hv])
        clear hv
        go_wp2_with fail
        refine (sqv_at HV.out wr HRr.out).mono ?_
        rintro e w2 ⟨rfl, hb⟩
        have HB2 := Lib.hid (HB.out.trans (hb.mono HB.out.size))
        clear hb
        go_wp2
        go_ret
        rw [HE.out]
        exact ⟨rfl, HB1.out.trans (HB2.out.mono HB1.out.size)⟩
      | true =>
        have HV := Lib.hid hv
        have HE : Hid (leftQ u n L = (c : Int)) := Lib.hid (by rw [← HC.out, HT.out]; simp [leftQ, hv])
        clear hv
        go_wp2_with fail
        refine (sqv_at HV.out wr HRr.out).mono ?_
        rintro e w2 ⟨rfl, hb⟩
        have HB2 := Lib.hid (HB.out.trans (hb.mono HB.out.size))
        clear hb
        go_wp2
        go_ret
        rw [HE.out]
        exact ⟨rfl, HB1.out.trans (HB2.out.mono HB1.out.size)⟩
end Go.Proofs.Ytinbdibenbplnaa

namespace Go.Proofs.Ytinbdibenbplnaa
open Go.RowKit
set_option linter.unusedVariables false

/-- What is left of a bound behind an item's texts, or -1. -/
def szI (us tx : ByteArray) (T : List ByteArray) (z : Int) : Int :=
  if z - (us.size : Int) < 0 then -1 else if z - (us.size : Int) - (tx.size : Int) < 0 then -1 else if szL T (z - (us.size : Int) - (tx.size : Int)) < 0 then -1 else szL T (z - (us.size : Int) - (tx.size : Int))
theorem szI_ok {us tx : ByteArray} {T : List ByteArray} {z : Int} (h : 0 ≤ z) : szI us tx T z ≤ z ∧ (0 ≤ szI us tx T z → (us.size : Int) ≤ z ∧ (tx.size : Int) ≤ z ∧ (T.length : Int) ≤ z ∧ ∀ g ∈ T, (g.size : Int) ≤ z) := by
  unfold szI
  split
  · exact ⟨by omega, fun h2 => by omega⟩
  · split
    · exact ⟨by omega, fun h2 => by omega⟩
    · have := szL_le (L := T) (z := z - (us.size : Int) - (tx.size : Int)) (by omega)
      split
      · exact ⟨by omega, fun h2 => by omega⟩
      · refine ⟨by omega, fun h2 => ?_⟩
        have h3 := this.2 (by omega)
        exact ⟨by omega, by omega, by omega, fun g hg => by have := h3.2 g hg; omega⟩
set_option maxHeartbeats 2000000 in
theorem sz_item (id : Int) (us tx : ByteArray) (T : List ByteArray) (A : Option Addr) (N cap : Nat) (z r : Int) (w : World) (h : StrA w A N cap T) (hus : us.size ≤ maxLen) (htx : tx.size ≤ maxLen) (hz : 0 ≤ z) (hz2 : z ≤ 1048576) (hr : szI us tx T z = r) :
    Calls Try.prog 85 #[.agg #[.int .i64 id, .string us, .string tx, .slice A N cap], .int .i64 z] w fun e w' => e = .returned (.int .i64 r) ∧ Below w.heap.size w w' := by
  have hu1 : us.size ≤ 9223372036854775807 := by unfold maxLen at hus; omega
  have hu2 : tx.size ≤ 9223372036854775807 := by unfold maxLen at htx; omega
  obtain ⟨wq, hwq⟩ : ∃ wq, w.alloc (.cells #[.int .i64 id, .string us, .string tx, .slice A N cap] 114) = wq := ⟨_, rfl⟩
  have HBA : Hid (Below w.heap.size w wq) := by rw [← hwq]; exact (Below.refl w.heap.size w).alloc (Nat.le_refl _) _
  have HW0 : Hid (Whole wq w.heap.size 114 #[.int .i64 id, .string us, .string tx, .slice A N cap]) := by
    rw [← hwq]
    exact Whole.made w _ _
  have H := Lib.hid (h.below HBA.out (Nat.le_refl _))
  have x1 := HW0.out.cell 1
  have x2 := HW0.out.cell 2
  have x3 := HW0.out.cell 3
  simp at x1 x2 x3
  clear h hus htx
  unfold szI at hr
  by_cases h1 : z - (us.size : Int) < 0
  · rw [if_pos h1] at hr
    subst hr
    have W1 : IntKind.i64.wrap (z - (us.size : Int)) = z - (us.size : Int) := IntWalk.i64_in _ (by omega)
    go_enter Try.func85, Try.ntmps85
    go_wp2
    go_ret
    exact ⟨rfl, HBA.out⟩
  rw [if_neg h1] at hr
  obtain ⟨y, hy⟩ : ∃ y, z - (us.size : Int) = y := ⟨_, rfl⟩
  have W1 : IntKind.i64.wrap (z - (us.size : Int)) = y := (IntWalk.i64_in _ (by omega)).trans hy
  have hyz : y ≤ 1048576 := by omega
  rw [hy] at hr h1
  clear hy
  by_cases h2 : y - (tx.size : Int) < 0
  · rw [if_pos h2] at hr
    subst hr
    have W2 : IntKind.i64.wrap (y - (tx.size : Int)) = y - (tx.size : Int) := IntWalk.i64_in _ (by omega)
    go_enter Try.func85, Try.ntmps85
    go_wp2
    go_ret
    exact ⟨rfl, HBA.out⟩
  rw [if_neg h2] at hr
  obtain ⟨x, hx⟩ : ∃ x, y - (tx.size : Int) = x := ⟨_, rfl⟩
  have W2 : IntKind.i64.wrap (y - (tx.size : Int)) = x := (IntWalk.i64_in _ (by omega)).trans hx
  have hx0 : 0 ≤ x := by omega
  have hx1 : ¬ x < 0 := by omega
  have hx2 : x ≤ 1048576 := by omega
  rw [hx] at hr h2
  clear hx
  obtain ⟨s, hs⟩ : ∃ s, szL T x = s := ⟨_, rfl⟩
  rw [hs] at hr
  have HS := Lib.hid hs
  clear hs
  by_cases h3 : s < 0
  · rw [if_pos h3] at hr
    subst hr
    go_enter Try.func85, Try.ntmps85
    go_wp2_with fail
    refine (sz_strs A N cap x s T wq H.out hx0 hx2 HS.out).mono ?_
    rintro e w2 ⟨rfl, hb⟩
    have HB2 := Lib.hid (HBA.out.trans (hb.mono HBA.out.size))
    clear hb x1 x2 x3
    go_wp2
    go_ret
    exact ⟨rfl, HB2.out⟩
  · rw [if_neg h3] at hr
    subst hr
    go_enter Try.func85, Try.ntmps85
    go_wp2_with fail
    refine (sz_strs A N cap x s T wq H.out hx0 hx2 HS.out).mono ?_
    rintro e w2 ⟨rfl, hb⟩
    have HB2 := Lib.hid (HBA.out.trans (hb.mono HBA.out.size))
    clear hb x1 x2 x3
    go_wp2
    go_ret
    exact ⟨rfl, HB2.out⟩
set_option maxHeartbeats 4000000 in
theorem to_item (id : Int) (us tx : ByteArray) (T : List ByteArray) (A : Option Addr) (N cap : Nat) (w : World) (h : StrA w A N cap T) (hl : N ≤ 1048576) :
    Calls Try.prog 86 #[.agg #[.int .i64 id, .string us, .string tx, .slice A N cap]] w fun e w' => ∃ g, e = .returned (.agg #[.int .i64 id, .string us, .string tx, .slice (some ⟨g, 0, none⟩) N N]) ∧ ROwn stR w' w.heap.size (.slice (some ⟨g, 0, none⟩) N N) T ∧ Below w.heap.size w w' := by
  have H := Lib.hid h
  clear h
  obtain ⟨S, hS⟩ : ∃ S, w.heap.size = S := ⟨_, rfl⟩
  have HS := Lib.hid hS
  obtain ⟨wq, hwq⟩ : ∃ wq, (((w.alloc (.cells #[.int .i64 id, .string us, .string tx, .slice A N cap] 114)).alloc (.cells #[.int .i64 0, .string ⟨#[]⟩, .string ⟨#[]⟩, .slice none 0 0] 38)).alloc (.cells #[.int .i64 id, .string us, .string tx, .slice none 0 0] 38)) = wq := ⟨_, rfl⟩
  have HBA : Hid (Below S w wq) := by rw [← hwq, ← hS]; exact (((Below.refl _ _).alloc (Nat.le_refl _) _).alloc (by simp) _).alloc (by simp; omega) _
  have HW0 : Hid (Whole wq S 114 #[.int .i64 id, .string us, .string tx, .slice A N cap]) := by
    rw [← hwq, ← hS]
    exact ((Whole.made w _ _).alloc _).alloc _
  have HW1 : Hid (Whole wq (S + 1) 38 #[.int .i64 0, .string ⟨#[]⟩, .string ⟨#[]⟩, .slice none 0 0]) := by
    rw [← hwq, ← hS]
    have h2 := Whole.made (w.alloc (.cells #[.int .i64 id, .string us, .string tx, .slice A N cap] 114)) 38 #[.int .i64 0, .string ⟨#[]⟩, .string ⟨#[]⟩, .slice none 0 0]
    rw [show (w.alloc (.cells #[.int .i64 id, .string us, .string tx, .slice A N cap] 114)).heap.size = w.heap.size + 1 by simp] at h2
    exact h2.alloc _
  have HW2 : Hid (Whole wq (S + 1 + 1) 38 #[.int .i64 id, .string us, .string tx, .slice none 0 0]) := by
    rw [← hwq, ← hS]
    have h2 := Whole.made ((w.alloc (.cells #[.int .i64 id, .string us, .string tx, .slice A N cap] 114)).alloc (.cells #[.int .i64 0, .string ⟨#[]⟩, .string ⟨#[]⟩, .slice none 0 0] 38)) 38 #[.int .i64 id, .string us, .string tx, .slice none 0 0]
    rw [show ((w.alloc (.cells #[.int .i64 id, .string us, .string tx, .slice A N cap] 114)).alloc (.cells #[.int .i64 0, .string ⟨#[]⟩, .string ⟨#[]⟩, .slice none 0 0] 38)).heap.size = w.heap.size + 1 + 1 by simp] at h2
    exact h2
  have hzq : S + 1 + 1 < wq.heap.size := HW2.out.lt
  have HA := Lib.hid (H.out.below HBA.out (Nat.le_of_eq hS))
  have c3 := HW0.out.cell 3
  simp at c3
  go_enter Try.func86, Try.ntmps86
  go_wp2_with fail
  refine (to_strs A N cap T _ H.out.1 HA.out.2.2.2.1 hl).mono ?_
  rintro e w2 ⟨g, rfl, hown, hb⟩
  have hzS : S ≤ wq.heap.size := by omega
  have HO2 := Lib.hid (hown.from hzS)
  have HB2 := Lib.hid (HBA.out.trans (hb.mono hzS))
  have HV1 := Lib.hid (HW1.out.below hb HW1.out.lt)
  have HV2 := Lib.hid (HW2.out.below hb HW2.out.lt)
  clear hb hown c3
  have b0 := HV1.out.cell 0
  have e0 := HV1.out.free 0
  have g0 := HV2.out.cell 0
  have k0 := HV2.out.free 0
  have b1 := HV1.out.cell 1
  have e1 := HV1.out.free 1
  have g1 := HV2.out.cell 1
  have k1 := HV2.out.free 1
  have b2 := HV1.out.cell 2
  have e2 := HV1.out.free 2
  have g2 := HV2.out.cell 2
  have k2 := HV2.out.free 2
  have b3 := HV1.out.cell 3
  have e3 := HV1.out.free 3
  have g3 := HV2.out.cell 3
  have k3 := HV2.out.free 3
  simp at b0 g0 b1 g1 b2 g2 b3 g3
  go_wp2
  refine bodyPost_ret (v := .agg #[.int .i64 id, .string us, .string tx, .slice (some ⟨g, 0, none⟩) N N]) (by simp [results, Try.results86, go_sem, *]) rfl ?_
  refine ⟨g, rfl, ?_, ?_⟩
  · rw [HS.out]
    refine ROwn.store (ROwn.store (ROwn.store (ROwn.store (ROwn.store HO2.out ?_ _) ?_ _) ?_ _) ?_ _) ?_ _ <;> first | exact HO2.out.whole HV2.out (by decide) | exact HO2.out.whole HV1.out (by decide)
  · rw [HS.out]
    refine (((((HB2.out.setCell ?_ _).setCell ?_ _).setCell ?_ _).setCell ?_ _).setCell ?_ _) <;> (simp <;> try omega)
set_option maxHeartbeats 1000000 in
theorem eq_item (id : Int) (us tx : ByteArray) (T : List ByteArray) (A A2 : Option Addr) (N cap cap2 : Nat) (w : World) (h : SIn w A N cap T) (h2 : SIn w A2 N cap2 T) :
    Calls Try.prog 87 #[.agg #[.int .i64 id, .string us, .string tx, .slice A N cap], .agg #[.int .i64 id, .string us, .string tx, .slice A2 N cap2]] w fun e w' => e = .returned (.bool true) ∧ Below w.heap.size w w' := by
  obtain ⟨wq, hwq⟩ : ∃ wq, ((w.alloc (.cells #[.int .i64 id, .string us, .string tx, .slice A N cap] 38)).alloc (.cells #[.int .i64 id, .string us, .string tx, .slice A2 N cap2] 38)) = wq := ⟨_, rfl⟩
  have HBA : Hid (Below w.heap.size w wq) := by rw [← hwq]; exact ((Below.refl w.heap.size w).alloc (Nat.le_refl _) _).alloc (by simp) _
  have HW0 : Hid (Whole wq w.heap.size 38 #[.int .i64 id, .string us, .string tx, .slice A N cap]) := by
    rw [← hwq]
    exact (Whole.made w _ _).alloc _
  have HW1 : Hid (Whole wq (w.heap.size + 1) 38 #[.int .i64 id, .string us, .string tx, .slice A2 N cap2]) := by
    rw [← hwq]
    have h3 := Whole.made (w.alloc (.cells #[.int .i64 id, .string us, .string tx, .slice A N cap] 38)) 38 #[.int .i64 id, .string us, .string tx, .slice A2 N cap2]
    rw [show (w.alloc (.cells #[.int .i64 id, .string us, .string tx, .slice A N cap] 38)).heap.size = w.heap.size + 1 by simp] at h3
    exact h3
  have H := Lib.hid (h.below HBA.out (Nat.le_refl _))
  have H2 := Lib.hid (h2.below HBA.out (Nat.le_refl _))
  clear h h2
  have x0 := HW0.out.cell 0
  have y0 := HW1.out.cell 0
  have x1 := HW0.out.cell 1
  have y1 := HW1.out.cell 1
  have x2 := HW0.out.cell 2
  have y2 := HW1.out.cell 2
  have x3 := HW0.out.cell 3
  have y3 := HW1.out.cell 3
  simp at x0 y0 x1 y1 x2 y2 x3 y3
  go_enter Try.func87, Try.ntmps87
  go_wp2_with fail
  refine (eq_strs A A2 N cap cap2 T _ H.out H2.out).mono ?_
  rintro e w2 ⟨rfl, hb⟩
  have HB2 := Lib.hid (HBA.out.trans (hb.mono HBA.out.size))
  clear hb x0 y0 x1 y1
  go_wp2
  go_ret
  exact ⟨rfl, HB2.out⟩
end Go.Proofs.Ytinbdibenbplnaa

namespace Go.Proofs.Ytinbdibenbplnaa
open Go.RowKit
set_option linter.unusedVariables false

def qlR : RowT QI where
  t := 114
  sz := 4
  enc := fun g => [.int .i64 g.id, .string g.us, .string g.tx, .slice g.A g.N g.cap]
  len := fun _ => rfl
  one := fun x u hu => by
    simp at hu
    rcases hu with rfl | rfl | rfl | rfl <;> rfl
theorem ql_at {w : World} {A : Option Addr} {L : List QI} {k : Nat} {g : QI} (h : RAt qlR w A L) (hx : L[k]? = some g) :
    ∃ b o, A = some ⟨b, o, none⟩ ∧ b < w.heap.size ∧ w.cell? ⟨b, o + k * 4, none⟩ = some (.int .i64 g.id) ∧ w.cell? ⟨b, o + k * 4 + 1, none⟩ = some (.string g.us) ∧ w.cell? ⟨b, o + k * 4 + 2, none⟩ = some (.string g.tx) ∧ w.cell? ⟨b, o + k * 4 + 3, none⟩ = some (.slice g.A g.N g.cap) := by
  obtain ⟨b, o, hA, hb, h1⟩ := h k _ hx
  exact ⟨b, o, hA, hb, h1 0 _ rfl, h1 1 _ rfl, h1 2 _ rfl, h1 3 _ rfl⟩
/-- Items that were handed in. -/
def QArg (w : World) (A : Option Addr) (N cap : Nat) (L : List QI) : Prop := L.length = N ∧ N ≤ cap ∧ cap ≤ maxLen ∧ RAt qlR w A L ∧ ∀ g ∈ L, g.us.size ≤ maxLen ∧ g.tx.size ≤ maxLen ∧ StrA w g.A g.N g.cap g.T
theorem QArg.below {w w' : World} {A : Option Addr} {N cap B : Nat} {L : List QI} (h : QArg w A N cap L) (hb : Below B w w') (hB : w.heap.size ≤ B) : QArg w' A N cap L :=
  ⟨h.1, h.2.1, h.2.2.1, h.2.2.2.1.below hb hB, fun g hg => ⟨(h.2.2.2.2 g hg).1, (h.2.2.2.2 g hg).2.1, (h.2.2.2.2 g hg).2.2.below hb hB⟩⟩
def szJ : List QI → Int → Int
  | [], z => z
  | g :: L, z => if szI g.us g.tx g.T z < 0 then -1 else szJ L (szI g.us g.tx g.T z)
def szQ (L : List QI) (z : Int) : Int := if z - (L.length : Int) < 0 then -1 else szJ L (z - (L.length : Int))
/-- What a bound says of an item. -/
def SmI (z : Int) (g : QI) : Prop := (g.us.size : Int) ≤ z ∧ (g.tx.size : Int) ≤ z ∧ (g.T.length : Int) ≤ z ∧ ∀ x ∈ g.T, (x.size : Int) ≤ z
theorem szJ_ok : ∀ {L : List QI} {z : Int}, 0 ≤ z → szJ L z ≤ z ∧ (0 ≤ szJ L z → ∀ g ∈ L, SmI z g)
  | [], z, _ => ⟨Int.le_refl _, fun _ g hg => by cases hg⟩
  | m :: L, z, h => by
    have h1 := szI_ok (us := m.us) (tx := m.tx) (T := m.T) h
    rw [szJ]
    split
    · exact ⟨by omega, fun h2 => by omega⟩
    · have h3 := szJ_ok (L := L) (z := szI m.us m.tx m.T z) (by omega)
      refine ⟨by omega, fun h2 g hg => ?_⟩
      rcases List.mem_cons.1 hg with rfl | hg
      · exact h1.2 (by omega)
      · have h4 := h3.2 h2 g hg
        exact ⟨by have := h4.1; omega, by have := h4.2.1; omega, by have := h4.2.2.1; omega, fun x hx => by have := h4.2.2.2 x hx; omega⟩
theorem szQ_ok {L : List QI} {z : Int} (h : 0 ≤ z) (h2 : 0 ≤ szQ L z) : (L.length : Int) ≤ z ∧ ∀ g ∈ L, SmI z g := by
  unfold szQ at h2
  split at h2
  · omega
  · have h3 := szJ_ok (L := L) (z := z - (L.length : Int)) (by omega)
    refine ⟨by omega, fun g hg => ?_⟩
    have h4 := h3.2 h2 g hg
    exact ⟨by have := h4.1; omega, by have := h4.2.1; omega, by have := h4.2.2.1; omega, fun x hx => by have := h4.2.2.2 x hx; omega⟩
set_option maxRecDepth 20000 in
set_option maxHeartbeats 4000000 in
theorem sz_items (A : Option Addr) (n cap : Nat) (left r : Int) (L : List QI) (w : World) (h : QArg w A n cap L) (hl : 0 ≤ left) (hl2 : left ≤ 1048576) (hr : szQ L left = r) :
    Calls Try.prog 64 #[.slice A n cap, .int .i64 left] w fun e w' => e = .returned (.int .i64 r) ∧ Below w.heap.size w w' := by
  have H := Lib.hid h
  have HN := Lib.hid h.1
  have hm2 : n ≤ 9223372036854775807 := by have := h.2.1; have := h.2.2.1; unfold maxLen at this; omega
  have hr2 := hr
  unfold szQ at hr2
  rw [h.1] at hr2
  clear h hr
  by_cases hle : left - (n : Int) < 0
  · rw [if_pos hle] at hr2
    subst hr2
    have h3 : IntKind.i64.wrap (left - (n : Int)) = left - (n : Int) := IntWalk.i64_in _ (by omega)
    go_enter Try.func64, Try.ntmps64
    go_wp2
    go_ret
    exact ⟨rfl, Below.refl _ _⟩
  rw [if_neg hle] at hr2
  obtain ⟨z0, hz0⟩ : ∃ z, left - (n : Int) = z := ⟨_, rfl⟩
  have W1 : IntKind.i64.wrap (left - (n : Int)) = z0 := (IntWalk.i64_in _ (by omega)).trans hz0
  have hz00 : 0 ≤ z0 := by omega
  have hz0f : ¬ z0 < 0 := by omega
  have hz01 : z0 ≤ 1048576 := by omega
  rw [hz0] at hr2
  have HR := Lib.hid hr2
  clear hr2 hz0 hle
  go_enter Try.func64, Try.ntmps64
  go_wp2
  go_loopw [1, 5] (fun zv i wr => ∃ (k : Nat) (z : Int), k ≤ n ∧ 0 ≤ z ∧ z ≤ 1048576 ∧ zv = .int .i64 z ∧ i = .int .i64 (k : Int) ∧ Hid (szJ (L.drop k) z = r) ∧ Hid (Below w.heap.size w wr)) (fun _ i _ => n - (intOf i).toNat)
  case atStart => exact ⟨0, z0, Nat.zero_le _, hz00, hz01, rfl, by go_num, HR.out, Below.refl _ _⟩
  case round =>
    obtain ⟨k, z, hk, hzp, hz1, rfl, rfl, HZ, HB⟩ := hrel
    by_cases hlt : k < n
    · have h0 : (0 : Int) ≤ (k : Int) := by omega
      have h5 : (k : Int) < (n : Int) := by omega
      have hkl : k < L.length := by rw [HN.out]; exact hlt
      obtain ⟨g, hx⟩ : ∃ x, L[k]? = some x := ⟨_, List.getElem?_eq_getElem hkl⟩
      have HM := Lib.hid (List.mem_of_getElem? hx)
      have HHr := Lib.hid (H.out.below HB.out (Nat.le_refl _))
      have hd : L.drop k = g :: L.drop (k + 1) := by rw [List.drop_eq_getElem_cons hkl, (List.getElem?_eq_some_iff.1 hx).2]
      obtain ⟨id, us, tx, A2, N2, cap2, T2⟩ := g
      obtain ⟨b, o, rfl, hb, c0, c1, c2, c3⟩ := ql_at HHr.out.2.2.2.1 hx
      simp only at c0 c1 c2 c3
      have hz2 := HZ.out
      rw [hd, szJ] at hz2
      simp only at hz2
      obtain ⟨y, hy⟩ : ∃ y, szI us tx T2 z = y := ⟨_, rfl⟩
      rw [hy] at hz2
      have HY := Lib.hid hy
      have hyz : y ≤ z := by rw [← hy]; exact (szI_ok hzp).1
      clear hx hd hkl hy
      by_cases hs : y < 0
      · rw [if_pos hs] at hz2
        subst hz2
        go_wp2_with fail
        refine (sz_item id us tx T2 A2 N2 cap2 z y wr (HHr.out.2.2.2.2 _ HM.out).2.2 (HHr.out.2.2.2.2 _ HM.out).1 (HHr.out.2.2.2.2 _ HM.out).2.1 hzp hz1 HY.out).mono ?_
        rintro e w2 ⟨rfl, hb2⟩
        have HB2 := Lib.hid (HB.out.trans (hb2.mono HB.out.size))
        clear hb2
        go_wp2
        go_ret
        exact ⟨rfl, HB2.out⟩
      · rw [if_neg hs] at hz2
        have HZ2 := Lib.hid hz2
        have hs0 : 0 ≤ y := by omega
        have hs1 : y ≤ 1048576 := by omega
        clear hz2
        go_wp2_with fail
        refine (sz_item id us tx T2 A2 N2 cap2 z y wr (HHr.out.2.2.2.2 _ HM.out).2.2 (HHr.out.2.2.2.2 _ HM.out).1 (HHr.out.2.2.2.2 _ HM.out).2.1 hzp hz1 HY.out).mono ?_
        rintro e w2 ⟨rfl, hb2⟩
        have HB2 := Lib.hid (HB.out.trans (hb2.mono HB.out.size))
        clear hb2
        go_wp2
        go_roundw
        case rel => exact ⟨k + 1, y, by omega, hs0, hs1, rfl, by go_num, HZ2.out, HB2⟩
        case measure => simp [intOf]; omega
    · have h5 : ¬ (k : Int) < (n : Int) := by omega
      obtain rfl : k = n := by omega
      have hz2 := HZ.out
      rw [List.drop_of_length_le (Nat.le_of_eq HN.out)] at hz2
      obtain rfl : z = r := hz2
      go_wp2
      go_ret
      exact ⟨rfl, HB.out⟩
/-- What counts of an item. -/
def keyI (g : QI) : Int × ByteArray × ByteArray × List ByteArray := (g.id, g.us, g.tx, g.T)
/-- The slices of items, in blocks from B on. -/
def OwnS (w : World) (B : Nat) (L : List QI) : Prop := ∀ g ∈ L, ROwn stR w B (.slice g.A g.N g.cap) g.T
def noI : QI := ⟨0, ⟨#[]⟩, ⟨#[]⟩, none, 0, 0, []⟩
theorem put_items {w : World} {B g n cap k : Nat} {L : List QI} {y : QI} (h : ROwn qiR w B (.slice (some ⟨g, 0, none⟩) n cap) L) (hy : L[k]? = some y) (x : QI) :
    ROwn qiR ((((w.setCell ⟨g, k * 4, none⟩ (.int .i64 x.id)).setCell ⟨g, k * 4 + 1, none⟩ (.string x.us)).setCell ⟨g, k * 4 + 2, none⟩ (.string x.tx)).setCell ⟨g, k * 4 + 3, none⟩ (.slice x.A x.N x.cap)) B (.slice (some ⟨g, 0, none⟩) n cap) (L.set k x) := by
  have hk : k < L.length := (List.getElem?_eq_some_iff.1 hy).1
  have h1 := (h.stored (y := { y with id := x.id }) (j := 0) (u := .int .i64 x.id) hy (by decide) rfl).1
  have h2 := (h1.stored (x := { y with id := x.id }) (y := { y with id := x.id, us := x.us }) (j := 1) (u := .string x.us) (by rw [List.getElem?_set_self hk]) (by decide) rfl).1
  rw [List.set_set] at h2
  have h3 := (h2.stored (x := { y with id := x.id, us := x.us }) (y := { y with id := x.id, us := x.us, tx := x.tx }) (j := 2) (u := .string x.tx) (by rw [List.getElem?_set_self hk]) (by decide) rfl).1
  rw [List.set_set] at h3
  have h4 := (h3.stored (x := { y with id := x.id, us := x.us, tx := x.tx }) (y := x) (j := 3) (u := .slice x.A x.N x.cap) (by rw [List.getElem?_set_self hk]) (by decide) rfl).1
  rw [List.set_set] at h4
  exact h4
theorem OwnS.store {w : World} {B : Nat} {L : List QI} (h : OwnS w B L) {p : Addr} (hp : p.block < B) (u : Value) : OwnS (w.setCell p u) B L := fun g hg => (h g hg).store ((h g hg).base _ hp) u
theorem OwnS.kept {w w' : World} {B : Nat} {L : List QI} (h : OwnS w B L) (hb : Below w.heap.size w w') : OwnS w' B L := fun g hg => (h g hg).kept hb
end Go.Proofs.Ytinbdibenbplnaa

namespace Go.Proofs.Ytinbdibenbplnaa
open Go.RowKit
set_option linter.unusedVariables false

theorem itB_key {g x : QI} (h : keyI g = keyI x) : itB g = itB x := by
  simp only [keyI, Prod.mk.injEq] at h
  unfold itB
  rw [h.2.1, h.2.2.1, h.2.2.2]
theorem okQ_key : ∀ {L M : List QI} {b : Int}, L.map keyI = M.map keyI → okQ b L = okQ b M ∧ lastQ b L = lastQ b M
  | [], [], b, h => ⟨rfl, rfl⟩
  | [], y :: M, b, h => by cases h
  | x :: L, [], b, h => by cases h
  | x :: L, y :: M, b, h => by
    rw [List.map_cons, List.map_cons] at h
    have h1 := (List.cons.inj h).1
    have hid : x.id = y.id := by simp only [keyI, Prod.mk.injEq] at h1; exact h1.1
    obtain ⟨h2, h3⟩ := okQ_key (b := x.id) (List.cons.inj h).2
    refine ⟨?_, ?_⟩
    · show (decide (b < x.id) && (itB x && okQ x.id L)) = (decide (b < y.id) && (itB y && okQ y.id M))
      rw [itB_key h1, h2, hid]
    · show lastQ x.id L = lastQ y.id M
      rw [h3, hid]
theorem key_len {L M : List QI} (h : L.map keyI = M.map keyI) : L.length = M.length := by
  have := congrArg List.length h
  simpa using this
theorem vQ_key {n : Int} {L M : List QI} (h : L.map keyI = M.map keyI) : vQ n L = vQ n M := by
  unfold vQ
  rw [key_len h, (okQ_key (b := 0) h).1, (okQ_key (b := 0) h).2]
theorem cntQ_key {u : ByteArray} : ∀ {L M : List QI}, L.map keyI = M.map keyI → cntQ u L = cntQ u M
  | [], [], h => rfl
  | [], y :: M, h => by cases h
  | x :: L, [], h => by cases h
  | x :: L, y :: M, h => by
    rw [List.map_cons, List.map_cons] at h
    have h1 := (List.cons.inj h).1
    have hT : x.T = y.T := by simp only [keyI, Prod.mk.injEq] at h1; exact h1.2.2.2
    have h2 := cntQ_key (u := u) (List.cons.inj h).2
    unfold cntQ at h2 ⊢
    rw [List.filter_cons, List.filter_cons, hT]
    split
    · rw [List.length_cons, List.length_cons, h2]
    · exact h2
theorem leftQ_key {u : ByteArray} {n : Int} {L M : List QI} (h : L.map keyI = M.map keyI) : leftQ u n L = leftQ u n M := by
  unfold leftQ
  rw [vQ_key h, cntQ_key h]
theorem key_get {L M : List QI} {k : Nat} {x y : QI} (h : L.map keyI = M.map keyI) (hx : L[k]? = some x) (hy : M[k]? = some y) : keyI x = keyI y := by
  have h1 : (L.map keyI)[k]? = (M.map keyI)[k]? := by rw [h]
  rw [List.getElem?_map, List.getElem?_map, hx, hy] at h1
  exact Option.some.inj h1
theorem set_tail {α : Type} {M : List α} {n k : Nat} {x z : α} (hm : M.length = k) (hk : k < n) : (M ++ List.replicate (n - k) z).set k x = (M ++ [x]) ++ List.replicate (n - (k + 1)) z := by
  obtain ⟨d, hd⟩ : ∃ d, n - k = d + 1 := ⟨n - k - 1, by omega⟩
  rw [hd, show n - (k + 1) = d by omega, List.replicate_succ, List.set_append_right k x (by omega), hm, Nat.sub_self, List.append_assoc]
  rfl
theorem Try.infoItem : (Try.prog.info? 38).map (fun i => (i.zero, i.size, i.bytes)) = some (some (.agg #[.int .i64 0, .string ⟨#[]⟩, .string ⟨#[]⟩, .slice none 0 0]), 4, 64) := by kernel_rfl
set_option maxRecDepth 20000 in
set_option maxHeartbeats 8000000 in
theorem to_items (A : Option Addr) (n cap : Nat) (L : List QI) (w : World) (h : QArg w A n cap L) (hl : n ≤ 1048576) (hT : ∀ g ∈ L, g.T.length ≤ 1048576) :
    Calls Try.prog 66 #[.slice A n cap] w fun e w' => ∃ g M, e = .returned (.slice (some ⟨g, 0, none⟩) n n) ∧ M.map keyI = L.map keyI ∧ OwnS w' w.heap.size M ∧ ROwn qiR w' w.heap.size (.slice (some ⟨g, 0, none⟩) n n) M ∧ Below w.heap.size w w' := by
  obtain ⟨i0, hi, hq0, hq1, hq2⟩ := info_parts Try.infoItem
  have H := Lib.hid h
  have HN := Lib.hid h.1
  have HT := Lib.hid hT
  clear h hT
  have hb2 : i0.bytes * n ≤ 281474976710656 := by rw [hq2]; omega
  have hb3 : n ≤ maxLen := by unfold maxLen; omega
  go_enter Try.func66, Try.ntmps66
  go_wp2_with (at_make; refine wpList_make_full _ rfl _ _ 29 rfl w.heap.size 38 i0 (.agg #[.int .i64 0, .string ⟨#[]⟩, .string ⟨#[]⟩, .slice none 0 0]) 4 Try.underlying29 hi hq0 hq1 .i64 .i64 (n : Int) (n : Int) n rfl rfl rfl rfl hb2 hb3 (Nat.le_refl _) ?_)
  intro w1 hown hgrow
  obtain ⟨N, hN⟩ : ∃ N, w.heap.size = N := ⟨_, rfl⟩
  have HNN := Lib.hid hN
  have HB1 : Hid (Below N w w1) := hN ▸ (Below.refl _ _).grown hgrow (Nat.le_refl _) (fun z hz => by cases hz)
  have ho1 : ROwn qiR w1 N (.slice (some ⟨N, 0, none⟩) n n) (List.replicate n noI) := by
    unfold ROwn
    rw [List.length_replicate, ← made_rows qiR (.agg #[.int .i64 0, .string ⟨#[]⟩, .string ⟨#[]⟩, .slice none 0 0]) noI rfl (by decide), ← hN]
    exact hown
  have HO1 := Lib.hid ho1
  have hN1 : N + 1 ≤ w1.heap.size := by
    have := (World.ownsRow.lt ho1 N rfl).2
    omega
  rw [hN]
  clear hown hgrow ho1 hN
  go_wp2
  go_loopw [4] (fun i wr => ∃ (k : Nat) (M : List QI), k ≤ n ∧ i = .int .i64 (k : Int) ∧ N + 1 ≤ wr.heap.size ∧ Hid (Below N w wr) ∧ Hid (M.map keyI = (L.take k).map keyI) ∧ Hid (OwnS wr (N + 1) M) ∧ Hid (ROwn qiR wr N (.slice (some ⟨N, 0, none⟩) n n) (M ++ List.replicate (n - k) noI))) (fun i _ => n - (intOf i).toNat)
  case atStart => exact ⟨0, [], Nat.zero_le _, by go_num, hN1, HB1, rfl, (fun g hg => by cases hg), by rw [List.nil_append, Nat.sub_zero]; exact HO1⟩
  case round =>
    obtain ⟨k, M, hk, rfl, hNr, HB, HK, HS, HO⟩ := hrel
    by_cases hlt : k < n
    · have h0 : (0 : Int) ≤ (k : Int) := by omega
      have h5 : (k : Int) < (n : Int) := by omega
      obtain ⟨g, hx⟩ : ∃ x, L[k]? = some x := ⟨_, List.getElem?_eq_getElem (by rw [HN.out]; omega)⟩
      have HM := Lib.hid (List.mem_of_getElem? hx)
      have hkl : k < L.length := (List.getElem?_eq_some_iff.1 hx).1
      have HML : Hid (M.length = k) := Lib.hid (by have := key_len HK.out; rw [List.length_take] at this; omega)
      have HTK : Hid (L.take (k + 1) = L.take k ++ [g]) := Lib.hid (by rw [List.take_succ_eq_append_getElem hkl, (List.getElem?_eq_some_iff.1 hx).2])
      have HHr := Lib.hid (H.out.below HB.out (Nat.le_of_eq HNN.out))
      obtain ⟨id, us, tx, A2, N2, cap2, T2⟩ := g
      obtain ⟨b, o, rfl, hbz, c0, c1, c2, c3⟩ := ql_at HHr.out.2.2.2.1 hx
      simp only at c0 c1 c2 c3
      have hN2 : N2 ≤ 1048576 := by
        have h1 := HT.out _ HM.out
        have h2 := (HHr.out.2.2.2.2 _ HM.out).2.2.1
        simp only at h1 h2
        omega
      clear hx hkl
      go_wp2_with fail
      refine (to_item id us tx T2 A2 N2 cap2 wr (HHr.out.2.2.2.2 _ HM.out).2.2 hN2).mono ?_
      rintro e w2 ⟨g2, rfl, hown, hb⟩
      have HB2 := Lib.hid (HB.out.trans (hb.mono (Nat.le_trans (Nat.le_succ N) hNr)))
      have HO2 := Lib.hid (HO.out.kept hb)
      have HS2 : Hid (OwnS w2 (N + 1) (M ++ [⟨id, us, tx, some ⟨g2, 0, none⟩, N2, N2, T2⟩])) := Lib.hid (fun x hx => by
        rcases List.mem_append.1 hx with hx | hx
        · exact (HS.out x hx).kept hb
        · rw [List.mem_singleton] at hx
          subst hx
          exact hown.from hNr)
      have hN2 := Nat.le_trans hNr hb.size
      clear hb hown
      obtain ⟨y, hy⟩ : ∃ y, (M ++ List.replicate (n - k) noI)[k]? = some y := ⟨_, List.getElem?_eq_getElem (by rw [List.length_append, List.length_replicate, HML.out]; omega)⟩
      have d0 := HO2.out.cell hy (j := 0) rfl
      have d1 := HO2.out.cell hy (j := 1) rfl
      have d2 := HO2.out.cell hy (j := 2) rfl
      have d3 := HO2.out.cell hy (j := 3) rfl
      have f0 := HO2.out.free (k * 4)
      have f1 := HO2.out.free (k * 4 + 1)
      have f2 := HO2.out.free (k * 4 + 2)
      have f3 := HO2.out.free (k * 4 + 3)
      have HST := Lib.hid (put_items HO2.out hy ⟨id, us, tx, some ⟨g2, 0, none⟩, N2, N2, T2⟩)
      simp only [qiR, Nat.add_zero] at d0 d1 d2 d3
      clear hy
      go_wp2
      go_roundw
      case rel =>
        refine ⟨k + 1, M ++ [⟨id, us, tx, some ⟨g2, 0, none⟩, N2, N2, T2⟩], by omega, by go_num, by simpa using hN2, (((HB2.out.setCell (Nat.le_refl _) _).setCell (Nat.le_refl _) _).setCell (Nat.le_refl _) _).setCell (Nat.le_refl _) _, ?_, ?_, ?_⟩
        · rw [HTK.out, List.map_append, List.map_append, HK.out]
          rfl
        · exact (((HS2.out.store (p := ⟨N, k * 4, none⟩) (by simp) _).store (p := ⟨N, k * 4 + 1, none⟩) (by simp) _).store (p := ⟨N, k * 4 + 2, none⟩) (by simp) _).store (p := ⟨N, k * 4 + 3, none⟩) (by simp) _
        · rw [← set_tail HML.out hlt]
          exact HST.out
      case measure => simp [intOf]; omega
    · have h5 : ¬ (k : Int) < (n : Int) := by omega
      have hkn : k = n := by omega
      have ho := HO.out
      have hkk := HK.out
      rw [hkn, Nat.sub_self, List.replicate_zero, List.append_nil] at ho
      rw [hkn, List.take_of_length_le (by rw [HN.out]; exact Nat.le_refl _)] at hkk
      have HOE := Lib.hid ho
      have HKE := Lib.hid hkk
      clear ho hkn hkk
      go_wp2
      go_ret
      exact ⟨N, rfl, M, HKE.out, fun g hg => by rw [HNN.out]; exact (HS.out g hg).from (Nat.le_succ N), HNN.out ▸ HOE.out, HNN.out ▸ HB.out⟩
/-- What was copied can be read. -/
theorem QIn.of {w : World} {B N cap : Nat} {A : Option Addr} {L : List QI} (h : ROwn qiR w B (.slice A N cap) L) (ho : OwnS w B L) (hl : L.length ≤ 4194304) (hs : ∀ g ∈ L, SmI 1048576 g) : QIn w A N cap L :=
  ⟨h.len.1.symm, h.len.1 ▸ hl, h.at, h.nilcap, h.spot, fun g hg => ⟨by have := (hs g hg).1; omega, SIn.made (ho g hg) (by have := (hs g hg).2.2.1; omega) (fun x hx => by have := (hs g hg).2.2.2 x hx; omega)⟩⟩
theorem sm_key {L M : List QI} {z : Int} (h : M.map keyI = L.map keyI) (hs : ∀ g ∈ L, SmI z g) : ∀ g ∈ M, SmI z g := fun g hg => by
  obtain ⟨k, hk, he⟩ := List.getElem_of_mem hg
  have h1 : M[k]? = some g := by rw [List.getElem?_eq_getElem hk, he]
  obtain ⟨x, hx⟩ : ∃ x, L[k]? = some x := ⟨_, List.getElem?_eq_getElem (by rw [← key_len h]; exact hk)⟩
  have h2 := key_get h h1 hx
  have h3 := hs x (List.mem_of_getElem? hx)
  simp only [keyI, Prod.mk.injEq] at h2
  unfold SmI at h3 ⊢
  rw [h2.2.1, h2.2.2.1, h2.2.2.2]
  exact h3
set_option maxRecDepth 20000 in
set_option maxHeartbeats 4000000 in
theorem eq_items {A A2 : Option Addr} {n cap cap2 : Nat} {L M : List QI} (w : World) (h : QIn w A n cap L) (h2 : QIn w A2 n cap2 M) (hk : L.map keyI = M.map keyI) :
    Calls Try.prog 68 #[.slice A n cap, .slice A2 n cap2] w (SayB w true) := by
  have H := Lib.hid h
  have H2 := Lib.hid h2
  have HK := Lib.hid hk
  have hl := h.2.1
  clear h h2 hk
  have hlb : ((n : Int) != (n : Int)) = false := by simp
  go_enter Try.func68, Try.ntmps68
  go_wp2
  go_loopw [5] (fun i wr => ∃ k : Nat, k ≤ n ∧ i = .int .i64 (k : Int) ∧ Hid (Below w.heap.size w wr)) (fun i _ => n - (intOf i).toNat)
  case atStart => exact ⟨0, Nat.zero_le _, by go_num, Below.refl _ _⟩
  case round =>
    obtain ⟨k, hk, rfl, HB⟩ := hrel
    by_cases hlt : k < n
    · have h0 : (0 : Int) ≤ (k : Int) := by omega
      have h5 : (k : Int) < (n : Int) := by omega
      obtain ⟨⟨id, us, tx, Aa, Na, capa, T⟩, hx⟩ : ∃ x, L[k]? = some x := ⟨_, List.getElem?_eq_getElem (by rw [H.out.1]; exact hlt)⟩
      obtain ⟨⟨id', us', tx', Ab, Nb, capb, T'⟩, hy⟩ : ∃ x, M[k]? = some x := ⟨_, List.getElem?_eq_getElem (by rw [H2.out.1]; exact hlt)⟩
      have hkey := key_get HK.out hx hy
      simp only [keyI, Prod.mk.injEq] at hkey
      obtain ⟨rfl, rfl, rfl, rfl⟩ := hkey
      have HR1 := Lib.hid (H.out.below HB.out (Nat.le_refl _))
      have HR2 := Lib.hid (H2.out.below HB.out (Nat.le_refl _))
      obtain ⟨b, o, rfl, hb, c0, c1, c2, c3⟩ := qi_at HR1.out.2.2.1 hx
      obtain ⟨b', o', rfl, hb', d0, d1, d2, d3⟩ := qi_at HR2.out.2.2.1 hy
      simp only at c0 c1 c2 c3 d0 d1 d2 d3
      have hs1 := (HR1.out.2.2.2.2.2 _ (List.mem_of_getElem? hx)).2
      have hs2 := (HR2.out.2.2.2.2.2 _ (List.mem_of_getElem? hy)).2
      simp only at hs1 hs2
      have hab : Nb = Na := by have h1 := hs1.1; have h2 := hs2.1; omega
      subst hab
      have HS1 : ∀ x : Later wr.heap.size wr, SIn x.v Aa Nb capa T := fun x => hs1.below x.h (Nat.le_refl _)
      have HS2 : ∀ x : Later wr.heap.size wr, SIn x.v Ab Nb capb T := fun x => hs2.below x.h (Nat.le_refl _)
      have HHS1 := Lib.hid HS1
      have HHS2 := Lib.hid HS2
      have l0 : ∀ x : Later wr.heap.size wr, x.v.cell? ⟨b, o + k * 4, none⟩ = some (.int .i64 id) := fun x => x.cell hb c0
      have l1 : ∀ x : Later wr.heap.size wr, x.v.cell? ⟨b, o + k * 4 + 1, none⟩ = some (.string us) := fun x => x.cell hb c1
      have l2 : ∀ x : Later wr.heap.size wr, x.v.cell? ⟨b, o + k * 4 + 2, none⟩ = some (.string tx) := fun x => x.cell hb c2
      have l3 : ∀ x : Later wr.heap.size wr, x.v.cell? ⟨b, o + k * 4 + 3, none⟩ = some (.slice Aa Nb capa) := fun x => x.cell hb c3
      have l4 : ∀ x : Later wr.heap.size wr, x.v.cell? ⟨b', o' + k * 4, none⟩ = some (.int .i64 id) := fun x => x.cell hb' d0
      have l5 : ∀ x : Later wr.heap.size wr, x.v.cell? ⟨b', o' + k * 4 + 1, none⟩ = some (.string us) := fun x => x.cell hb' d1
      have l6 : ∀ x : Later wr.heap.size wr, x.v.cell? ⟨b', o' + k * 4 + 2, none⟩ = some (.string tx) := fun x => x.cell hb' d2
      have l7 : ∀ x : Later wr.heap.size wr, x.v.cell? ⟨b', o' + k * 4 + 3, none⟩ = some (.slice Ab Nb capb) := fun x => x.cell hb' d3
      clear hx hy hs1 hs2 HS1 HS2
      go_wp2
      refine wp_region_later wr.heap.size wr (by kernel_rfl) (by kernel_rfl) ?_
      repeat (go_big_quiet_step ((go_at_call 87; refine (eq_item id us tx T Aa Ab Nb capa capb _ (HHS1.out _) (HHS2.out _)).mono ?_; rintro e w2 ⟨rfl, hb2⟩; exact ⟨rfl, Later.call _ hb2 (Nat.le_refl _)⟩)))
      refine wpQuiet_nil ?_
      intro _ hw'
      obtain ⟨⟨w9, hb9⟩, rfl⟩ := hw'
      have HB9 := Lib.hid (HB.out.trans (hb9.mono HB.out.size))
      clear hb9
      go_wp2
      go_roundw
      case rel => exact ⟨k + 1, by omega, by go_num, HB9⟩
      case measure => simp [intOf]; omega
    · have h5 : ¬ (k : Int) < (n : Int) := by omega
      go_wp2
      go_ret
      exact ⟨rfl, HB.out⟩
end Go.Proofs.Ytinbdibenbplnaa

namespace Go.Proofs.Ytinbdibenbplnaa
open Go.RowKit Go.ChangeShapes Go.WideShapes
set_option linter.unusedVariables false

set_option maxHeartbeats 2000000 in
theorem sz_queue (nx : Int) (A : Option Addr) (n cap : Nat) (left r : Int) (L : List QI) (w : World) (h : QArg w A n cap L) (hl : 0 ≤ left) (hl2 : left ≤ 1048576) (hr : szQ L left = r) (hr2 : r < 0 → r = -1) :
    Calls Try.prog 36 #[.agg #[.int .i64 nx, .slice A n cap], .int .i64 left] w fun e w' => e = .returned (.int .i64 r) ∧ Below w.heap.size w w' := by
  obtain ⟨wq, hwq⟩ : ∃ wq, w.alloc (.cells #[.int .i64 nx, .slice A n cap] 54) = wq := ⟨_, rfl⟩
  have HBA : Hid (Below w.heap.size w wq) := by rw [← hwq]; exact (Below.refl w.heap.size w).alloc (Nat.le_refl _) _
  have HW0 : Hid (Whole wq w.heap.size 54 #[.int .i64 nx, .slice A n cap]) := by
    rw [← hwq]
    exact Whole.made w _ _
  have H := Lib.hid (h.below HBA.out (Nat.le_refl _))
  have HR := Lib.hid hr
  have HR2 := Lib.hid hr2
  have x1 := HW0.out.cell 1
  simp at x1
  clear h hr hr2
  by_cases h3 : r < 0
  · have HE := Lib.hid (HR2.out h3)
    go_enter Try.func36, Try.ntmps36
    go_wp2_with fail
    refine (sz_items A n cap left r L wq H.out hl hl2 HR.out).mono ?_
    rintro e w2 ⟨rfl, hb⟩
    have HB2 := Lib.hid (HBA.out.trans (hb.mono HBA.out.size))
    clear hb x1
    go_wp2
    go_ret
    rw [HE.out]
    exact ⟨rfl, HB2.out⟩
  · go_enter Try.func36, Try.ntmps36
    go_wp2_with fail
    refine (sz_items A n cap left r L wq H.out hl hl2 HR.out).mono ?_
    rintro e w2 ⟨rfl, hb⟩
    have HB2 := Lib.hid (HBA.out.trans (hb.mono HBA.out.size))
    clear hb x1
    go_wp2
    go_ret
    exact ⟨rfl, HB2.out⟩
theorem szJ_neg : ∀ {L : List QI} {z : Int}, 0 ≤ z → szJ L z < 0 → szJ L z = -1
  | [], z, h, h2 => by have : szJ [] z = z := rfl; omega
  | m :: L, z, h, h2 => by
    rw [szJ] at h2 ⊢
    split
    · rfl
    · rename_i h3
      rw [if_neg h3] at h2
      exact szJ_neg (by omega) h2
theorem szQ_neg {L : List QI} {z : Int} (h : szQ L z < 0) : szQ L z = -1 := by
  unfold szQ at h ⊢
  split
  · rfl
  · rename_i h3
    rw [if_neg h3] at h
    exact szJ_neg (by omega) h
set_option maxHeartbeats 4000000 in
theorem to_queue (nx : Int) (A : Option Addr) (n cap : Nat) (L : List QI) (w : World) (h : QArg w A n cap L) (hl : n ≤ 1048576) (hT : ∀ g ∈ L, g.T.length ≤ 1048576) :
    Calls Try.prog 38 #[.agg #[.int .i64 nx, .slice A n cap]] w fun e w' => ∃ g M, e = .returned (.agg #[.int .i64 nx, .slice (some ⟨g, 0, none⟩) n n]) ∧ M.map keyI = L.map keyI ∧ OwnS w' w.heap.size M ∧ ROwn qiR w' w.heap.size (.slice (some ⟨g, 0, none⟩) n n) M ∧ Below w.heap.size w w' := by
  have H := Lib.hid h
  have HT := Lib.hid hT
  clear h hT
  obtain ⟨S, hS⟩ : ∃ S, w.heap.size = S := ⟨_, rfl⟩
  have HS := Lib.hid hS
  obtain ⟨wq, hwq⟩ : ∃ wq, (((w.alloc (.cells #[.int .i64 nx, .slice A n cap] 54)).alloc (.cells #[.int .i64 0, .slice none 0 0] 31)).alloc (.cells #[.int .i64 nx, .slice none 0 0] 31)) = wq := ⟨_, rfl⟩
  have HBA : Hid (Below S w wq) := by rw [← hwq, ← hS]; exact (((Below.refl _ _).alloc (Nat.le_refl _) _).alloc (by simp) _).alloc (by simp; omega) _
  have HW0 : Hid (Whole wq S 54 #[.int .i64 nx, .slice A n cap]) := by
    rw [← hwq, ← hS]
    exact ((Whole.made w _ _).alloc _).alloc _
  have HW1 : Hid (Whole wq (S + 1) 31 #[.int .i64 0, .slice none 0 0]) := by
    rw [← hwq, ← hS]
    have h2 := Whole.made (w.alloc (.cells #[.int .i64 nx, .slice A n cap] 54)) 31 #[.int .i64 0, .slice none 0 0]
    rw [show (w.alloc (.cells #[.int .i64 nx, .slice A n cap] 54)).heap.size = w.heap.size + 1 by simp] at h2
    exact h2.alloc _
  have HW2 : Hid (Whole wq (S + 1 + 1) 31 #[.int .i64 nx, .slice none 0 0]) := by
    rw [← hwq, ← hS]
    have h2 := Whole.made ((w.alloc (.cells #[.int .i64 nx, .slice A n cap] 54)).alloc (.cells #[.int .i64 0, .slice none 0 0] 31)) 31 #[.int .i64 nx, .slice none 0 0]
    rw [show ((w.alloc (.cells #[.int .i64 nx, .slice A n cap] 54)).alloc (.cells #[.int .i64 0, .slice none 0 0] 31)).heap.size = w.heap.size + 1 + 1 by simp] at h2
    exact h2
  have hzq : S + 1 + 1 < wq.heap.size := HW2.out.lt
  have HA := Lib.hid (H.out.below HBA.out (Nat.le_of_eq hS))
  have c1 := HW0.out.cell 1
  simp at c1
  go_enter Try.func38, Try.ntmps38
  go_wp2_with fail
  refine (to_items A n cap L wq HA.out hl HT.out).mono ?_
  rintro e w2 ⟨g, M, rfl, hk, hos, hown, hb⟩
  have hzS : S ≤ wq.heap.size := by omega
  have HK := Lib.hid hk
  have HO2 := Lib.hid (hown.from hzS)
  have HOS : Hid (OwnS w2 S M) := Lib.hid (fun x hx => (hos x hx).from hzS)
  have HB2 := Lib.hid (HBA.out.trans (hb.mono hzS))
  have HOT : Hid (OwnS w2 (S + 1 + 1 + 1) M) := Lib.hid (fun x hx => (hos x hx).from (by omega))
  have HV1 := Lib.hid (HW1.out.below hb HW1.out.lt)
  have HV2 := Lib.hid (HW2.out.below hb HW2.out.lt)
  clear hb hown c1 hk hos
  have b0 := HV1.out.cell 0
  have e0 := HV1.out.free 0
  have g0 := HV2.out.cell 0
  have k0 := HV2.out.free 0
  have b1 := HV1.out.cell 1
  have e1 := HV1.out.free 1
  have g1 := HV2.out.cell 1
  have k1 := HV2.out.free 1
  simp at b0 g0 b1 g1
  go_wp2
  refine bodyPost_ret (v := .agg #[.int .i64 nx, .slice (some ⟨g, 0, none⟩) n n]) (by simp [results, Try.results38, go_sem, *]) rfl ?_
  refine ⟨g, M, rfl, HK.out, ?_, ?_, ?_⟩
  · rw [HS.out]
    intro x hx
    exact ((((HOT.out.store (by simp) _).store (by simp) _).store (by simp) _) x hx).from (by omega)
  · rw [HS.out]
    refine ROwn.store (ROwn.store (ROwn.store HO2.out ?_ _) ?_ _) ?_ _ <;> first | exact HO2.out.whole HV2.out (by decide) | exact HO2.out.whole HV1.out (by decide)
  · rw [HS.out]
    refine (((HB2.out.setCell ?_ _).setCell ?_ _).setCell ?_ _) <;> (simp <;> try omega)
set_option maxHeartbeats 1000000 in
theorem eq_queue (nx : Int) (L M : List QI) (A A2 : Option Addr) (n cap cap2 : Nat) (w : World) (h : QIn w A n cap L) (h2 : QIn w A2 n cap2 M) (hk : L.map keyI = M.map keyI) :
    Calls Try.prog 40 #[.agg #[.int .i64 nx, .slice A n cap], .agg #[.int .i64 nx, .slice A2 n cap2]] w fun e w' => e = .returned (.bool true) ∧ Below w.heap.size w w' := by
  obtain ⟨wq, hwq⟩ : ∃ wq, ((w.alloc (.cells #[.int .i64 nx, .slice A n cap] 31)).alloc (.cells #[.int .i64 nx, .slice A2 n cap2] 31)) = wq := ⟨_, rfl⟩
  have HBA : Hid (Below w.heap.size w wq) := by rw [← hwq]; exact ((Below.refl w.heap.size w).alloc (Nat.le_refl _) _).alloc (by simp) _
  have HW0 : Hid (Whole wq w.heap.size 31 #[.int .i64 nx, .slice A n cap]) := by
    rw [← hwq]
    exact (Whole.made w _ _).alloc _
  have HW1 : Hid (Whole wq (w.heap.size + 1) 31 #[.int .i64 nx, .slice A2 n cap2]) := by
    rw [← hwq]
    have h3 := Whole.made (w.alloc (.cells #[.int .i64 nx, .slice A n cap] 31)) 31 #[.int .i64 nx, .slice A2 n cap2]
    rw [show (w.alloc (.cells #[.int .i64 nx, .slice A n cap] 31)).heap.size = w.heap.size + 1 by simp] at h3
    exact h3
  have H := Lib.hid (h.below HBA.out (Nat.le_refl _))
  have H2 := Lib.hid (h2.below HBA.out (Nat.le_refl _))
  have HK := Lib.hid hk
  clear h h2 hk
  have x0 := HW0.out.cell 0
  have y0 := HW1.out.cell 0
  have x1 := HW0.out.cell 1
  have y1 := HW1.out.cell 1
  simp at x0 y0 x1 y1
  go_enter Try.func40, Try.ntmps40
  go_wp2_with fail
  refine (eq_items wq H.out H2.out HK.out).mono ?_
  rintro e w2 ⟨rfl, hb⟩
  have HB2 := Lib.hid (HBA.out.trans (hb.mono HBA.out.size))
  clear hb x0 y0 x1 y1
  go_wp2
  go_ret
  exact ⟨rfl, HB2.out⟩
end Go.Proofs.Ytinbdibenbplnaa

namespace Go.Proofs.Ytinbdibenbplnaa
open Go.RowKit Go.ChangeShapes Go.WideShapes
set_option linter.unusedVariables false

instance : Inhabited QI := ⟨noI⟩
def QArgs (w : World) (A : Option Addr) (n cap : Nat) : Prop := ∃ L, QArg w A n cap L
section
variable {H : Type} {enc : TypeId × Value → H} {P : Program} {w : World} {base : Nat} {spare : Nat → Bool} {held : Bool}
theorem each4 {e : TypeId} {f0 f1 f2 f3 : Field} {n : Nat} {a : Addr} {cs : List Value} {x : DataW H × List MemPlace} (he : P.underlying e = some (.struct #[f0, f1, f2, f3]))
    (o0 : f0.offset = 0) (o1 : f1.offset = 1) (o2 : f2.offset = 2) (o3 : f3.offset = 3) (c0 : P.cellsOf f0.type = 1) (c1 : P.cellsOf f1.type = 1) (c2 : P.cellsOf f2.type = 1) (c3 : P.cellsOf f3.type = 1)
    (h1 : w.cells? base a 4 = some cs) (h2 : DataW.trod enc P w base spare held n e cs = some x) :
    ∃ (v0 v1 v2 v3 : Value) (k : Nat) (y0 y1 y2 y3 : DataW H × List MemPlace), w.cell? (a.add 0) = some v0 ∧ w.cell? (a.add 1) = some v1 ∧ w.cell? (a.add 2) = some v2 ∧ w.cell? (a.add 3) = some v3 ∧
      DataW.trod enc P w base spare held k f0.type [v0] = some y0 ∧ DataW.trod enc P w base spare held k f1.type [v1] = some y1 ∧ DataW.trod enc P w base spare held k f2.type [v2] = some y2 ∧ DataW.trod enc P w base spare held k f3.type [v3] = some y3 := by
  obtain ⟨_, hlen, hcell⟩ := World.cells?_some h1
  obtain ⟨xs, k, hk, hxy, _, hxl, hf⟩ := DataW.trod_struct he h2
  match xs, hxl, cs, hlen with
  | [y0, y1, y2, y3], _, [v0, v1, v2, v3], _ =>
    have g0 := hf 0 f0 rfl
    have g1 := hf 1 f1 rfl
    have g2 := hf 2 f2 rfl
    have g3 := hf 3 f3 rfl
    simp [o0, o1, o2, o3, c0, c1, c2, c3] at g0 g1 g2 g3
    have e0 := hcell 0 (by omega)
    have e1 := hcell 1 (by omega)
    have e2 := hcell 2 (by omega)
    have e3 := hcell 3 (by omega)
    exact ⟨v0, v1, v2, v3, k, y0, y1, y2, y3, by simpa using e0, by simpa using e1, by simpa using e2, by simpa using e3, g0, g1, g2, g3⟩
theorem open_items {fuel : Nat} {cs : List Value} {x : DataW H × List MemPlace} (h : DataW.trod enc Try.prog w base spare held fuel 52 cs = some x) :
    ∃ A len cap, cs = [.slice A len cap] ∧ QArgs w A len cap := by
  rcases Deep.open_slice Try.underlying52 h with ⟨hcs, _⟩ | ⟨a, len, cap, m, n, D, Pl, hcs, hb, hl, hm, hmm, _, hx⟩
  · exact ⟨none, 0, 0, hcs, [], rfl, Nat.le_refl _, by unfold maxLen; omega, RAt.nil _ _, fun m hm => by simp at hm⟩
  · have ce : Try.prog.cellsOf 114 = 4 := by kernel_rfl
    rw [ce] at hx
    have each : ∀ i, i < len → ∃ q : QI, w.cell? ((a.add (i * 4)).add 0) = some (.int .i64 q.id) ∧ w.cell? ((a.add (i * 4)).add 1) = some (.string q.us) ∧ w.cell? ((a.add (i * 4)).add 2) = some (.string q.tx) ∧ w.cell? ((a.add (i * 4)).add 3) = some (.slice q.A q.N q.cap) ∧ q.us.size ≤ maxLen ∧ q.tx.size ≤ maxLen ∧ StrA w q.A q.N q.cap q.T := by
      intro i hi
      obtain ⟨cs', h1, h2⟩ := hx i (by rw [hmm]; split <;> omega)
      obtain ⟨v0, v1, v2, v3, k, y0, y1, y2, y3, e0, e1, e2, e3, g0, g1, g2, g3⟩ := each4 Try.underlying114 rfl rfl rfl rfl (by kernel_rfl) (by kernel_rfl) (by kernel_rfl) (by kernel_rfl) h1 h2
      obtain ⟨f, hf, _, _⟩ := DataW.trod_int Try.underlying3 g0
      obtain ⟨s, hs, _, hsz⟩ := DataW.trod_string Try.underlying9 g1
      obtain ⟨s1, hs1, _, hsz1⟩ := DataW.trod_string Try.underlying9 g2
      obtain ⟨A2, N2, cap2, hs2, T, hT⟩ := open_strs g3
      simp only [List.cons.injEq, and_true] at hf hs hs1 hs2
      subst hf
      subst hs
      subst hs1
      subst hs2
      exact ⟨⟨f, s, s1, A2, N2, cap2, T⟩, e0, e1, e2, e3, hsz, hsz1, hT⟩
    obtain ⟨q, hq⟩ := Deep.choose_lt each
    refine ⟨some a, len, cap, hcs, (List.range len).map q, by simp, hl, hm, ?_, ?_⟩
    · intro i y hy
      have hi : i < len := by have := (List.getElem?_eq_some_iff.1 hy).1; simpa using this
      obtain ⟨e0, e1, e2, e3, _⟩ := hq i hi
      have hs : a.spot = none := by
        have := World.cell?_spot (hq 0 (by omega)).1
        simpa [Addr.add] using this
      obtain ⟨xb, xo, spot⟩ := a
      simp only at hs
      subst hs
      have he : y = q i := by simp [hi] at hy; exact hy.symm
      subst he
      simp only [radd] at e0 e1 e2 e3
      refine ⟨xb, xo, rfl, by simpa using block_lt_of_cell e0, fun j u hu => ?_⟩
      match j, hu with
      | 0, hu => cases hu; exact e0
      | 1, hu => cases hu; exact e1
      | 2, hu => cases hu; exact e2
      | 3, hu => cases hu; exact e3
      | j + 4, hu => simp [qlR] at hu
    · intro m hm2
      obtain ⟨i, hi, rfl⟩ := List.mem_map.1 hm2
      exact (hq i (List.mem_range.1 hi)).2.2.2.2
end
theorem QArg.keep {w : World} {A : Option Addr} {n cap : Nat} {L : List QI} (h : QArg w A n cap L) : Kp w fun w' => QArg w' A n cap L := fun w2 h2 => h.below h2 (Nat.le_refl _)
theorem QIn.keep {w : World} {A : Option Addr} {n cap : Nat} {L : List QI} (h : QIn w A n cap L) : Kp w fun w' => QIn w' A n cap L := fun w2 h2 => h.below h2 (Nat.le_refl _)
end Go.Proofs.Ytinbdibenbplnaa

namespace Go.Proofs.Ytinbdibenbplnaa
open Go.RowKit Go.ChangeShapes Go.WideShapes
set_option linter.unusedVariables false
theorem sql_at {n v : Int} {u : ByteArray} {A : Option Addr} {N cap : Nat} {L : List QI} (hz : leftQ u n L = v) (w : World) (h : QIn w A N cap L) : Calls Try.prog 34 #[.agg #[.int .i64 n, .slice A N cap], .string u] w fun e w' => e = .returned (.int .i64 v) ∧ Below w.heap.size w w' := by
  subst hz
  exact spec_queueleft u w h
theorem iql_at {n v : Int} {u : ByteArray} {A : Option Addr} {N cap : Nat} {L : List QI} (hz : leftQ u n L = v) (w : World) (h : QIn w A N cap L) : Calls Try.prog 27 #[.agg #[.int .i64 n, .slice A N cap], .string u] w fun e w' => e = .returned (.int .i64 v) ∧ Below w.heap.size w w' := by
  subst hz
  exact impl_queueleft u w h
end Go.Proofs.Ytinbdibenbplnaa
namespace Go.Proofs.Ytinbdibenbplnaa
open Go.RowKit
set_option linter.unusedVariables false

/-- The nodes of a spool: the block of each, and its item. -/
abbrev WX := List (Nat × QI)
def nxw (X : WX) (i : Nat) : Option Addr := (X[i]?).map fun y => ⟨y.1, 0, none⟩
def wcs (q : QI) (p : Option Addr) : Array Value := #[.int .i64 q.id, .string q.us, .string q.tx, .slice q.A q.N q.cap, .pointer p]
def lfV (q : QI) : Value := .slice q.A q.N q.cap
/-- Two items share no memory. -/
def Apt (a b : QI) : Prop := ∀ g, (lfV a).ownBlock = some g → (lfV b).ownBlock ≠ some g
theorem Apt.symm {a b : QI} (h : Apt a b) : Apt b a := fun g h1 h2 => h g h2 h1
/-- The link ahead of node 'i'. -/
def lnkw (D : Nat) (X : WX) : Nat → Addr
  | 0 => ⟨D, 1, none⟩
  | j + 1 => ⟨(X.getD j (0, noI)).1, 4, none⟩
/-- A spool in block 'D': the next number, the nodes, the slice of its heap. -/
structure Spl (w : World) (B D : Nat) (n : Int) (X : WX) (v : Value) : Prop where
  head : Whole w D 100 #[.int .i64 n, .pointer (nxw X 0), v]
  node : ∀ (i g : Nat) (q : QI), X[i]? = some (g, q) → B ≤ g ∧ Whole w g 105 (wcs q (nxw X (i + 1)))
  nd : X.Pairwise fun a b => a.1 ≠ b.1
  left : ∀ y ∈ X, ROwn stR w B (lfV y.2) y.2.T
  apt : X.Pairwise fun a b => Apt a.2 b.2
  lo : B ≤ D
section
variable {w w' : World} {B D i g G : Nat} {n m : Int} {X : WX} {v v' : Value} {q : QI} {H H' : List Int}
theorem nxw_end (h : X.length ≤ i) : nxw X i = none := by unfold nxw; rw [List.getElem?_eq_none h]; rfl
theorem nxw_some (h : X[i]? = some (g, q)) : nxw X i = some ⟨g, 0, none⟩ := by unfold nxw; rw [h]; rfl
theorem nxw_zero (y : Nat × QI) (X : WX) : nxw (y :: X) 0 = some ⟨y.1, 0, none⟩ := rfl
theorem nxw_succ (y : Nat × QI) (X : WX) (i : Nat) : nxw (y :: X) (i + 1) = nxw X i := rfl
theorem lnkw_spot (D : Nat) (X : WX) (i : Nat) : ∃ pb po, lnkw D X i = ⟨pb, po, none⟩ := by cases i <;> exact ⟨_, _, rfl⟩
theorem lnkw_succ (h : X[i]? = some (g, q)) : lnkw D X (i + 1) = ⟨g, 4, none⟩ := by
  show (⟨(X.getD i (0, noI)).1, 4, none⟩ : Addr) = _
  rw [List.getD_eq_getElem?_getD, h]
  rfl
theorem Spl.size (h : Spl w B D n X v) (hx : X[i]? = some (g, q)) : g < w.heap.size := (h.node i g q hx).2.lt
theorem Spl.cells (h : Spl w B D n X v) (hx : X[i]? = some (g, q)) : w.cell? ⟨g, 0, none⟩ = some (.int .i64 q.id) ∧ w.cell? ⟨g, 1, none⟩ = some (.string q.us) ∧ w.cell? ⟨g, 2, none⟩ = some (.string q.tx) ∧ w.cell? ⟨g, 3, none⟩ = some (.slice q.A q.N q.cap) ∧ w.cell? ⟨g, 4, none⟩ = some (.pointer (nxw X (i + 1))) := by
  have := (h.node i g q hx).2
  exact ⟨this.cell 0, this.cell 1, this.cell 2, this.cell 3, this.cell 4⟩
theorem Spl.free (h : Spl w B D n X v) (hx : X[i]? = some (g, q)) (j : Nat) : w.frozen? ⟨g, j, none⟩ = false := (h.node i g q hx).2.free j
theorem Spl.ne (h : Spl w B D n X v) {j a b : Nat} {x y : QI} (hi : X[i]? = some (a, x)) (hj : X[j]? = some (b, y)) (hij : i ≠ j) : a ≠ b := by
  obtain ⟨h1, e1⟩ := List.getElem?_eq_some_iff.1 hi
  obtain ⟨h2, e2⟩ := List.getElem?_eq_some_iff.1 hj
  have h3 := List.pairwise_iff_getElem.1 h.nd
  rcases (by omega : i < j ∨ j < i) with h4 | h4
  · have := h3 i j h1 h2 h4
    rw [e1, e2] at this
    exact this
  · have := h3 j i h2 h1 h4
    rw [e1, e2] at this
    exact fun e => this e.symm
theorem Spl.neD (h : Spl w B D n X v) (hx : X[i]? = some (g, q)) : g ≠ D := by
  rintro rfl
  have := h.head.symm.trans (h.node i g q hx).2
  injection this with h1
  injection h1 with h2 h3 h4
  exact absurd h3 (by decide)
/-- A slice of the call's own stays if its block does. -/
theorem ROwn.same {α : Type} {R : RowT α} {L : List α} {u : Value} (h : ROwn R w B u L) (hb : ∀ b, u.ownBlock = some b → w'.heap[b]? = w.heap[b]?) : ROwn R w' B u L := by
  refine ⟨h.1, ?_⟩
  rcases h.2 with h2 | ⟨g, cap, cur, rfl, hB, hg, rest⟩
  · exact .inl h2
  · exact .inr ⟨g, cap, cur, rfl, hB, (hb g rfl).trans hg, rest⟩
theorem ROwn.blk {α : Type} {R : RowT α} {L : List α} {u : Value} (h : ROwn R w B u L) {b : Nat} (hb : u.ownBlock = some b) : ∃ cs, Whole w b R.t cs := by
  rcases h.2 with ⟨rfl, _⟩ | ⟨g, cap, cur, rfl, hB, hg, rest⟩
  · cases hb
  · cases hb
    exact ⟨cur, hg⟩
/-- A spool stays if its blocks do. -/
theorem Spl.same (h : Spl w B D n X v) (hk : ∀ (b : Nat) (t : TypeId) (cs : Array Value), Whole w b t cs → t = 100 ∨ t = 105 ∨ t = 9 → w'.heap[b]? = w.heap[b]?) : Spl w' B D n X v :=
  ⟨(hk _ _ _ h.head (.inl rfl)).trans h.head, fun i g q hx => ⟨(h.node i g q hx).1, (hk _ _ _ (h.node i g q hx).2 (.inr (.inl rfl))).trans (h.node i g q hx).2⟩, h.nd, fun y hy => (h.left y hy).same fun b hb => by
    obtain ⟨cs, hw⟩ := (h.left y hy).blk hb
    exact hk _ _ _ hw (.inr (.inr rfl)), h.apt, h.lo⟩
theorem Spl.below (h : Spl w B D n X v) (hb : Below w.heap.size w w') : Spl w' B D n X v := h.same fun b t cs hw _ => hb.block b hw.lt
theorem Spl.alloc (h : Spl w B D n X v) (o : Obj) : Spl (w.alloc o) B D n X v := h.below (below_new w o)
theorem Spl.drewN (h : Spl w B D n X v) (k : Nat) : Spl (w.drewN k) B D n X v := h.same fun _ _ _ _ _ => rfl
theorem Spl.drew (h : Spl w B D n X v) : Spl w.drew B D n X v := h.same fun _ _ _ _ _ => rfl
/-- .. if but a row of another type has turned. -/
theorem Spl.grown (h : Spl w B D n X v) {α : Type} {R : RowT α} {u : Value} {L : List α} {B2 : Nat} (ho : ROwn R w B2 u L) (hg : w.grownBy w' u.ownBlock) (h1 : 100 ≠ R.t) (h2 : 105 ≠ R.t) (h3 : 9 ≠ R.t) : Spl w' B D n X v :=
  h.same fun b t cs hw ht => hg.block b hw.lt fun e => ho.whole hw (by rcases ht with rfl | rfl | rfl <;> assumption) e.symm
theorem HStep.other {k : Nat} {t : TypeId} {cs : Array Value} (h : HStep w ⟨D, k, none⟩ v w' v') (ho : ROwn iR w B v H) (hW : Whole w g t cs) (ht : t ≠ 3) (hg : g ≠ D) : Whole w' g t cs := by
  obtain ⟨wm, m, h1, h2, h3⟩ := h
  exact (((hW.grown h1 (fun e => ho.whole hW ht e.symm)).apart (p := ⟨D, k, none⟩) hg v').drewN m).grown h2 (fun e => h3 g t cs hW ht e.symm)
theorem HStep.below {k : Nat} (h : HStep w ⟨D, k, none⟩ v w' v') (ho : ROwn iR w B v H) (ho' : ROwn iR w' B v' H') (hD : B ≤ D) (hB : B ≤ w.heap.size) : Below B w w' := by
  obtain ⟨wm, m, h1, h2, h3⟩ := h
  have a1 : Below B w wm := (Below.refl B w).grown h1 hB fun z hz => (World.ownsRow.lt ho z hz).1
  have a2 : Below B w ((wm.setCell ⟨D, k, none⟩ v').drewN m) := below_drewN' (a1.setCell (p := ⟨D, k, none⟩) hD v') m
  exact a2.grown h2 (by show B ≤ (wm.setCell ⟨D, k, none⟩ v').heap.size; have := h1.size; simp [World.setCell]; omega) fun z hz => (World.ownsRow.lt ho' z hz).1
/-- Behind a step of its heap. -/
theorem Spl.hstep (h : Spl w B D n X v) (hs : HStep w ⟨D, 2, none⟩ v w' v') (ho : ROwn iR w B v H) (ho' : ROwn iR w' B v' H') : Spl w' B D n X v' := by
  have hd : v.ownBlock ≠ some D := ho.whole h.head (by decide)
  have hd' : v'.ownBlock ≠ some D := hs.choose_spec.choose_spec.2.2 D _ _ h.head (by decide)
  refine ⟨hs.whole h.head hd hd', fun i g q hx => ⟨(h.node i g q hx).1, hs.other ho (h.node i g q hx).2 (by decide) (h.neD hx)⟩, h.nd, fun y hy => (h.left y hy).same fun b hb => ?_, h.apt, h.lo⟩
  obtain ⟨cs, hw⟩ := (h.left y hy).blk hb
  have hbD : b ≠ D := by
    rintro rfl
    have := h.head.symm.trans hw
    injection this with h1
    injection h1 with h2 h3 h4
    exact absurd h3 (by decide)
  exact (hs.other ho hw (by decide) hbD).trans hw.symm
theorem Spl.hp (h : Spl w B D n X v) (ho : ROwn iR w B v H) : HP w ⟨D, 2, none⟩ B v H := ⟨h.head.cell 2, ho, ho.whole h.head (by decide), h.head.free 2⟩
theorem Spl.own (h : Spl w B D n X v) : ∀ y ∈ X, ∀ b, (lfV y.2).ownBlock = some b → b < w.heap.size ∧ b ≠ D := fun y hy b hb => by
  obtain ⟨cs, hw⟩ := (h.left y hy).blk hb
  refine ⟨hw.lt, ?_⟩
  rintro rfl
  have := h.head.symm.trans hw
  injection this with h1
  injection h1 with h2 h3 h4
  exact absurd h3 (by decide)
theorem Spl.neL (h : Spl w B D n X v) (hx : X[i]? = some (g, q)) {y : Nat × QI} (hy : y ∈ X) : (lfV y.2).ownBlock ≠ some g := (h.left y hy).whole (h.node i g q hx).2 (by decide)
/-- Another next number. -/
theorem Spl.next (h : Spl w B D n X v) (m : Int) : Spl (w.setCell ⟨D, 0, none⟩ (.int .i64 m)) B D m X v :=
  ⟨h.head.store 0 (.int .i64 m), fun i g q hx => ⟨(h.node i g q hx).1, (h.node i g q hx).2.apart (p := ⟨D, 0, none⟩) (h.neD hx) _⟩, h.nd, fun y hy => (h.left y hy).store (p := ⟨D, 0, none⟩) (fun e => (h.own y hy D e).2 rfl) _, h.apt, h.lo⟩
/-- A new first node. -/
theorem Spl.push (h : Spl w B D n X v) (hG : w.heap.size = G) (hB : B ≤ G) (ho : ROwn stR w B (lfV q) q.T) (ha : ∀ y ∈ X, Apt q y.2) :
    Spl ((w.alloc (.cells (wcs q (nxw X 0)) 105)).setCell ⟨D, 1, none⟩ (.pointer (some ⟨G, 0, none⟩))) B D n ((G, q) :: X) v := by
  subst hG
  have h1 := h.alloc (.cells (wcs q (nxw X 0)) 105)
  have hD := h.head.lt
  refine ⟨h1.head.store 1 _, fun i g q' hx => ?_, ?_, fun y hy => ?_, ?_, h.lo⟩
  · cases i with
    | zero =>
      cases hx
      exact ⟨hB, (Whole.made w _ _).apart (p := ⟨D, 1, none⟩) (by show w.heap.size ≠ D; omega) _⟩
    | succ i =>
      have hx' : X[i]? = some (g, q') := hx
      exact ⟨(h.node i g q' hx').1, (h1.node i g q' hx').2.apart (p := ⟨D, 1, none⟩) (h.neD hx') _⟩
  · refine List.Pairwise.cons (fun y hy => ?_) h.nd
    obtain ⟨i, hi, e⟩ := List.getElem_of_mem hy
    have := h.size (i := i) (g := y.1) (q := y.2) (by rw [List.getElem?_eq_getElem hi, e])
    show w.heap.size ≠ y.1
    omega
  · rcases List.mem_cons.1 hy with rfl | hy
    · refine (ho.alloc _).store (p := ⟨D, 1, none⟩) (fun e => ?_) _
      obtain ⟨cs, hw⟩ := ho.blk e
      have := h.head.symm.trans hw
      injection this with h1
      injection h1 with h2 h3 h4
      exact absurd h3 (by decide)
    · exact (h1.left y hy).store (p := ⟨D, 1, none⟩) (fun e => (h.own y hy D e).2 rfl) _
  · exact List.Pairwise.cons ha h.apt
theorem Spl.link (h : Spl w B D n X v) (hi : i ≤ X.length) : w.cell? (lnkw D X i) = some (.pointer (nxw X i)) ∧ w.frozen? (lnkw D X i) = false ∧ B ≤ (lnkw D X i).block ∧ (lnkw D X i).block < w.heap.size := by
  cases i with
  | zero => exact ⟨h.head.cell 1, h.head.free 1, h.lo, h.head.lt⟩
  | succ j =>
    obtain ⟨⟨g, q⟩, hx⟩ : ∃ y, X[j]? = some y := ⟨_, List.getElem?_eq_getElem (by omega)⟩
    rw [lnkw_succ hx]
    exact ⟨(h.cells hx).2.2.2.2, h.free hx 4, (h.node j g q hx).1, h.size hx⟩
theorem erase_get (X : WX) (i j : Nat) : (X.eraseIdx i)[j]? = if j < i then X[j]? else X[j + 1]? := by rw [List.getElem?_eraseIdx]
/-- A node is cut out. -/
theorem Spl.cut (h : Spl w B D n X v) (hi : i < X.length) : Spl (w.setCell (lnkw D X i) (.pointer (nxw X (i + 1)))) B D n (X.eraseIdx i) v := by
  have hsub : (X.eraseIdx i).Sublist X := List.eraseIdx_sublist X i
  have key : ∀ (p : Addr) (u : Value), (∀ y ∈ X, (lfV y.2).ownBlock ≠ some p.block) → ∀ y ∈ X.eraseIdx i, ROwn stR (w.setCell p u) B (lfV y.2) y.2.T := fun p u hp y hy => (h.left y (hsub.mem hy)).store (p := p) (hp y (hsub.mem hy)) u
  cases i with
  | zero =>
    show Spl (w.setCell ⟨D, 1, none⟩ (.pointer (nxw X 1))) B D n (X.eraseIdx 0) v
    refine ⟨?_, fun j g q hx => ?_, h.nd.sublist hsub, key _ _ (fun y hy e => (h.own y hy D e).2 rfl), h.apt.sublist hsub, h.lo⟩
    · have e : nxw (X.eraseIdx 0) 0 = nxw X 1 := by unfold nxw; rw [erase_get]; rfl
      rw [e]
      exact h.head.store 1 _
    · rw [erase_get, if_neg (by omega)] at hx
      have e : nxw (X.eraseIdx 0) (j + 1) = nxw X (j + 1 + 1) := by unfold nxw; rw [erase_get, if_neg (by omega)]
      rw [e]
      exact ⟨(h.node (j + 1) g q hx).1, (h.node (j + 1) g q hx).2.apart (p := ⟨D, 1, none⟩) (h.neD hx) _⟩
  | succ i =>
    obtain ⟨⟨g0, q0⟩, hx0⟩ : ∃ y, X[i]? = some y := ⟨_, List.getElem?_eq_getElem (by omega)⟩
    rw [lnkw_succ hx0]
    refine ⟨?_, fun j g q hx => ?_, h.nd.sublist hsub, key _ _ (fun y hy => h.neL hx0 hy), h.apt.sublist hsub, h.lo⟩
    · have e : nxw (X.eraseIdx (i + 1)) 0 = nxw X 0 := by unfold nxw; rw [erase_get, if_pos (by omega)]
      rw [e]
      exact h.head.apart (p := ⟨g0, 4, none⟩) (fun e => h.neD hx0 e.symm) _
    · rw [erase_get] at hx
      by_cases hj : j < i + 1
      · rw [if_pos hj] at hx
        by_cases hji : j = i
        · subst hji
          rw [hx0] at hx
          cases hx
          have e : nxw (X.eraseIdx (j + 1)) (j + 1) = nxw X (j + 1 + 1) := by unfold nxw; rw [erase_get, if_neg (by omega)]
          rw [e]
          exact ⟨(h.node j g0 q0 hx0).1, (h.node j g0 q0 hx0).2.store 4 _⟩
        · have e : nxw (X.eraseIdx (i + 1)) (j + 1) = nxw X (j + 1) := by unfold nxw; rw [erase_get, if_pos (by omega)]
          rw [e]
          exact ⟨(h.node j g q hx).1, (h.node j g q hx).2.apart (p := ⟨g0, 4, none⟩) (h.ne hx hx0 hji) _⟩
      · rw [if_neg hj] at hx
        have e : nxw (X.eraseIdx (i + 1)) (j + 1) = nxw X (j + 1 + 1) := by unfold nxw; rw [erase_get, if_neg (by omega)]
        rw [e]
        exact ⟨(h.node (j + 1) g q hx).1, (h.node (j + 1) g q hx).2.apart (p := ⟨g0, 4, none⟩) (h.ne hx hx0 (by omega)) _⟩
/-- The first node with a number, or behind all. -/
def fx (X : WX) (id : Int) : Nat := X.findIdx fun y => decide (y.2.id = id)
theorem fx_le (X : WX) (id : Int) : fx X id ≤ X.length := List.findIdx_le_length
theorem fx_get {id : Int} (hx : X[fx X id]? = some (g, q)) : q.id = id := by
  have h := List.findIdx_of_getElem?_eq_some (p := fun (y : Nat × QI) => decide (y.2.id = id)) hx
  exact of_decide_eq_true h
theorem fx_here {id : Int} (hx : X[i]? = some (g, q)) (hk : i ≤ fx X id) (he : q.id = id) : fx X id = i := by
  obtain ⟨h1, e1⟩ := List.getElem?_eq_some_iff.1 hx
  rcases Nat.lt_or_eq_of_le hk with h | h
  · have h2 := List.not_of_lt_findIdx (p := fun (y : Nat × QI) => decide (y.2.id = id)) h
    rw [e1] at h2
    exact absurd (decide_eq_true he) (by simpa using h2)
  · exact h.symm
theorem fx_next {id : Int} (hx : X[i]? = some (g, q)) (hk : i ≤ fx X id) (he : ¬ q.id = id) : i + 1 ≤ fx X id := by
  rcases Nat.lt_or_eq_of_le hk with h | h
  · exact h
  · exact absurd (fx_get (by rw [← h]; exact hx)) he
theorem fx_some {id : Int} (h : fx X id < X.length) : ∃ g q, X[fx X id]? = some (g, q) ∧ q.id = id :=
  ⟨_, _, List.getElem?_eq_getElem h, fx_get (List.getElem?_eq_getElem h)⟩
theorem fx_none {id : Int} (h : fx X id = X.length) : ∀ y ∈ X, y.2.id ≠ id := fun y hy e => by
  have := List.findIdx_lt_length_of_exists (xs := X) (p := fun (y : Nat × QI) => decide (y.2.id = id)) ⟨y, hy, decide_eq_true e⟩
  unfold fx at h
  omega
end
end Go.Proofs.Ytinbdibenbplnaa
namespace Go.Proofs.Ytinbdibenbplnaa
open Go.RowKit
set_option linter.unusedVariables false

set_option maxRecDepth 20000 in
set_option maxHeartbeats 4000000 in
theorem sp_find {B D : Nat} {n id : Int} {X : WX} {v : Value} (w : World) (h : Spl w B D n X v) :
    Calls Try.prog 80 #[.pointer (some ⟨D, 0, none⟩), .int .i64 id] w fun e w' => e = .returned (.pointer (some (lnkw D X (fx X id)))) ∧ w' = w := by
  obtain ⟨Z, hZ⟩ : ∃ Z, X.length = Z := ⟨_, rfl⟩
  have HZ := Lib.hid hZ
  have H := Lib.hid h
  have hl := fx_le X id
  obtain ⟨F, hF⟩ : ∃ F, fx X id = F := ⟨_, rfl⟩
  have HF := Lib.hid hF
  rw [hZ, hF] at hl
  rw [hF]
  clear h hZ hF
  go_enter Try.func80, Try.ntmps80
  go_wp2
  go_loopg [5] F (fun gk a wr => ∃ k : Nat, k + gk = F ∧ a = .pointer (some (lnkw D X k)) ∧ wr = w)
  case atStart => exact ⟨0, by omega, rfl, rfl⟩
  case round =>
    obtain ⟨k, hk, rfl, rfl⟩ := hrel
    obtain ⟨pb, po, hp⟩ := lnkw_spot D X k
    have HP := Lib.hid hp
    obtain ⟨l0, l1, l2, l3⟩ := H.out.link (i := k) (by rw [HZ.out]; omega)
    rw [hp] at l0 l1 l3 ⊢
    clear hp l2
    by_cases hlt : k < Z
    · obtain ⟨⟨g, q⟩, hx⟩ : ∃ y, X[k]? = some y := ⟨_, List.getElem?_eq_getElem (by rw [HZ.out]; exact hlt)⟩
      rw [nxw_some hx] at l0
      obtain ⟨c0, c1, c2, c3, c4⟩ := H.out.cells hx
      have HX := Lib.hid hx
      clear hx c1 c2 c3 c4
      by_cases he : q.id = id
      · have hFk : F = k := by rw [← HF.out]; exact fx_here HX.out (by rw [HF.out]; omega) he
        have t0 : (q.id == id) = true := by rw [beq_iff_eq]; exact he
        have t1 : (q.id != id) = false := by rw [bne, t0]; rfl
        have HFK := Lib.hid hFk
        clear he hFk
        go_wp2
        go_ret
        rw [HFK.out, HP.out]
        exact ⟨rfl, rfl⟩
      · have hFk : k + 1 ≤ F := by rw [← HF.out]; exact fx_next HX.out (by rw [HF.out]; omega) he
        have t0 : (q.id == id) = false := beq_eq_false_iff_ne.2 he
        have t1 : (q.id != id) = true := by rw [bne, t0]; rfl
        clear he
        go_wp2
        go_roundg (gk - 1)
        case measure => omega
        case rel => exact ⟨k + 1, by omega, by rw [lnkw_succ HX.out], rfl⟩
    · have hkZ : k = Z := by omega
      have hFk : F = k := by omega
      rw [nxw_end (by rw [HZ.out]; omega)] at l0
      have HFK := Lib.hid hFk
      clear hkZ hFk
      go_wp2
      go_ret
      rw [HFK.out, HP.out]
      exact ⟨rfl, rfl⟩
/-- A spool with the heap of its numbers. -/
structure SpH (w : World) (B D : Nat) (n : Int) (X : WX) (v : Value) (H : List Int) : Prop where
  s : Spl w B D n X v
  o : ROwn iR w B v H
  hp : HeapTo H H.length
  pm : H.Perm (X.map fun y => y.2.id)
theorem SpH.below {w w' : World} {B D : Nat} {n : Int} {X : WX} {v : Value} {H : List Int} (h : SpH w B D n X v H) (hb : Below w.heap.size w w') : SpH w' B D n X v H := ⟨h.s.below hb, h.o.kept hb, h.hp, h.pm⟩
/-- An item is put ahead of all. -/
def PutI (w : World) (B D : Nat) (n : Int) (X : WX) (id : Int) (us tx : ByteArray) (T : List ByteArray) (e : Ending) (w' : World) : Prop :=
  ∃ G q v H, e = .returned (.tuple #[]) ∧ SpH w' B D n ((G, q) :: X) v H ∧ keyI q = (id, us, tx, T) ∧ Below B w w'
set_option maxRecDepth 20000 in
set_option maxHeartbeats 8000000 in
theorem sp_put {B D : Nat} {n : Int} {X : WX} {v : Value} {H : List Int} (id : Int) (us tx : ByteArray) (T : List ByteArray) (A : Option Addr) (N cap : Nat) (w : World) (h : SpH w B D n X v H) (hs : SIn w A N cap T) (hX : X.length ≤ 1000) (hB : B ≤ w.heap.size) :
    Calls Try.prog 78 #[.pointer (some ⟨D, 0, none⟩), .agg #[.int .i64 id, .string us, .string tx, .slice A N cap]] w (PutI w B D n X id us tx T) := by
  obtain ⟨I, hI⟩ : ∃ I, w.heap.size = I := ⟨_, rfl⟩
  obtain ⟨w1, hw1⟩ : ∃ w1, w.alloc (.cells #[.int .i64 id, .string us, .string tx, .slice A N cap] 38) = w1 := ⟨_, rfl⟩
  have HI1 := Lib.hid (show Whole w1 I 38 #[.int .i64 id, .string us, .string tx, .slice A N cap] by rw [← hw1, ← hI]; exact Whole.made w _ _)
  have HB1 := Lib.hid (show Below w.heap.size w w1 by rw [← hw1]; exact below_new w _)
  have H1 := Lib.hid (h.below HB1.out)
  have HS1 := Lib.hid (hs.below HB1.out (Nat.le_refl _))
  have HBI : Hid (B ≤ I) := Lib.hid (by rw [← hI]; exact hB)
  have HII := Lib.hid hI
  have HDI : Hid (D < I) := Lib.hid (by rw [← hI]; exact h.s.head.lt)
  have i3 := HI1.out.cell 3
  simp at i3
  clear h hs hB
  go_enter Try.func78, Try.ntmps78
  go_wp2_with fail
  refine (lib_clone w1 HS1.out).mono ?_
  rintro e w2 ⟨V, rfl, ho2, hb2⟩
  obtain ⟨A2, N2, cap2, rfl⟩ := ho2.val
  have HO2 := Lib.hid ho2
  have H2 := Lib.hid (H1.out.below hb2)
  have HI2 := Lib.hid (HI1.out.below hb2 HI1.out.lt)
  have HB2 := Lib.hid (HB1.out.trans (hb2.mono HB1.out.size))
  have HZ2 : Hid (I < w1.heap.size) := Lib.hid HI1.out.lt
  clear ho2 hb2 i3
  -- the item with its own slice
  obtain ⟨w3, hw3⟩ : ∃ w3, w2.setCell ⟨I, 3, none⟩ (.slice A2 N2 cap2) = w3 := ⟨_, rfl⟩
  have HI3 := Lib.hid (show Whole w3 I 38 #[.int .i64 id, .string us, .string tx, .slice A2 N2 cap2] by rw [← hw3]; exact HI2.out.store 3 (.slice A2 N2 cap2))
  have HB3 := Lib.hid (show Below w.heap.size w w3 by rw [← hw3]; exact HB2.out.setCell (p := ⟨I, 3, none⟩) (by rw [HII.out]; exact Nat.le_refl _) _)
  have HK3 : Hid (∀ b, b ≠ I → w3.heap[b]? = w2.heap[b]?) := Lib.hid (fun b hb => by rw [← hw3]; exact Below.heap_setCell w2 _ _ b hb)
  have HS3 : Hid (Spl w3 B D n X v) := Lib.hid (H2.out.s.same fun b t cs hw ht => HK3.out b (by
    rintro rfl
    have := HI2.out.symm.trans hw
    injection this with h1
    injection h1 with h2 h3 h4
    subst h3
    rcases ht with h | h | h <;> exact absurd h (by decide)))
  have HO3 : Hid (ROwn iR w3 B v H) := Lib.hid (H2.out.o.same fun b hb => HK3.out b (by
    rintro rfl
    exact H2.out.o.whole HI2.out (by decide) hb))
  have HL3 : Hid (ROwn stR w3 w1.heap.size (.slice A2 N2 cap2) T) := Lib.hid (HO2.out.same fun b hb => HK3.out b (by
    rintro rfl
    exact HO2.out.whole HI2.out (by decide) hb))
  have HZ3 : Hid (w2.heap.size = w3.heap.size) := Lib.hid (by rw [← hw3]; simp [World.setCell])
  have HD3 : Hid (D < w3.heap.size) := Lib.hid HS3.out.head.lt
  have f3 := HI2.out.free 3
  have j3 := HI2.out.cell 3
  simp at j3
  obtain ⟨G, hG⟩ : ∃ G, w3.heap.size = G := ⟨_, rfl⟩
  have HGG := Lib.hid hG
  obtain ⟨p0, hp0⟩ : ∃ p, nxw X 0 = p := ⟨_, rfl⟩
  have HP0 := Lib.hid hp0
  have d1 := HS3.out.head.cell 1
  have d1f := HS3.out.head.free 1
  simp [hp0] at d1
  have i0 := HI3.out.cell 0
  have i1 := HI3.out.cell 1
  have i2 := HI3.out.cell 2
  have i3 := HI3.out.cell 3
  simp at i0 i1 i2 i3
  obtain ⟨w4, hw4⟩ : ∃ w4, (w3.alloc (.cells #[.int .i64 id, .string us, .string tx, .slice A2 N2 cap2, .pointer p0] 105)).setCell ⟨D, 1, none⟩ (.pointer (some ⟨G, 0, none⟩)) = w4 := ⟨_, rfl⟩
  have HS4 : Hid (Spl w4 B D n ((G, ⟨id, us, tx, A2, N2, cap2, T⟩) :: X) v) := Lib.hid (by
    have h1 := HS3.out.push (G := G) (q := ⟨id, us, tx, A2, N2, cap2, T⟩) hG (by have := HBI.out; have := HZ2.out; have := HB3.out.size; have := HII.out; omega) (HL3.out.from (by have := HBI.out; have := HZ2.out; omega)) (fun y hy b e1 e2 => by
      have h5 := (World.ownsRow.lt HL3.out b e1).1
      have h6 := (H1.out.s.own y hy b e2).1
      omega)
    rw [← hw4, ← hp0]
    exact h1)
  have HO4 : Hid (ROwn iR w4 B v H) := Lib.hid (by
    rw [← hw4]
    exact (HO3.out.alloc _).store (p := ⟨D, 1, none⟩) (HS3.out.hp HO3.out).2.2.1 _)
  have HB4 : Hid (Below B w w4) := Lib.hid (by
    rw [← hw4]
    exact ((HB3.out.mono (by rw [HII.out]; exact HBI.out)).alloc (by show B ≤ w3.heap.size; have := HBI.out; have := HB3.out.size; have := HII.out; omega) _).setCell (p := ⟨D, 1, none⟩) HS3.out.lo _)
  have HI4 : Hid (Whole w4 I 38 #[.int .i64 id, .string us, .string tx, .slice A2 N2 cap2]) := Lib.hid (by
    rw [← hw4]
    exact (HI3.out.alloc _).apart (p := ⟨D, 1, none⟩) (by have := HDI.out; show I ≠ D; omega) _)
  have hDG : ¬ D = G := by have := HD3.out; omega
  have d1n : (w3.alloc (.cells #[.int .i64 id, .string us, .string tx, .slice A2 N2 cap2, .pointer p0] 105)).cell? ⟨D, 1, none⟩ = some (.pointer p0) := (World.cell?_alloc_lt w3 _ ⟨D, 1, none⟩ HD3.out).trans d1
  have d1g : (w3.alloc (.cells #[.int .i64 id, .string us, .string tx, .slice A2 N2 cap2, .pointer p0] 105)).frozen? ⟨D, 1, none⟩ = false := (HS3.out.head.alloc _).free 1
  have HHP : Hid (HP w4.drew.drew ⟨D, 2, none⟩ B v H) := Lib.hid ((HS4.out.hp HO4.out).drewN 2)
  have HHL : Hid (H.length < 100000) := Lib.hid (by have := H1.out.pm.length_eq; simp at this; omega)
  have HHB : Hid (B ≤ w4.drew.drew.heap.size) := Lib.hid (by show B ≤ w4.heap.size; have := HB4.out.size; have := HBI.out; have := HII.out; omega)
  have k0 := HI4.out.cell 0
  simp at k0
  clear hp0 hI hw1
  go_wp2
  go_region
  all_goals
    go_wp2
    go_region_with (
      (go_at_call 93
       refine (heap_push w4.drew.drew HHP.out HHB.out HHL.out HS4.out.head (by decide) H1.out.hp).mono ?_
       rintro e w5 ⟨H', v', rfl, hpm, hto, hhp, hst⟩
       have HR : Hid (PutI w B D n X id us tx T (.returned (.tuple #[])) w5) := Lib.hid (by
         refine ⟨G, ⟨id, us, tx, A2, N2, cap2, T⟩, v', H', rfl, ⟨HS4.out.drew.drew.hstep hst (HO4.out.drewN 2) hhp.2.1, hhp.2.1, hto, ?_⟩, rfl, ?_⟩
         · refine hpm.trans ?_
           refine List.perm_append_comm.trans ?_
           exact List.Perm.cons _ H1.out.pm
         · exact (below_drewN' HB4.out 2).trans (hst.below (HO4.out.drewN 2) hhp.2.1 HS4.out.lo HHB.out))
       clear hpm hto hhp hst))
    all_goals
      go_wp2
      exact bodyPost_end (v := .tuple #[]) (by simp [results, Try.results78]) rfl HR.out
end Go.Proofs.Ytinbdibenbplnaa
