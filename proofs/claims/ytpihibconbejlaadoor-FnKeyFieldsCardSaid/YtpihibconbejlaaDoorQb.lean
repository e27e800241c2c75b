/-
  My texts Sval, Smath, Kt, Vals, Scur, Spar, Sspec, Snum in one, so that a claim holds fewer files. Conditions: each contract's own.
-/
import Derived.Test.YtpihibconbejlaaDoorQa
import Derived.Maps.AppendAt
import Derived.RegionTactic
import Derived.BigRegion
import Derived.Deep.RegionWith
import Derived.IntWalk
import Derived.Deep.RegionHeld3
import Derived.Lib.MinMax
namespace Go.Proofs.YtpihibconbejlaaDoor
open Go.RowKit
set_option linter.unusedVariables false

/-- The spans of a list can be read behind an address. -/
def SpA (w : World) (A : Option Addr) (L : List (Int × Int)) : Prop :=
  ∀ i x, L[i]? = some x → ∃ b o, A = some ⟨b, o, none⟩ ∧ b < w.heap.size ∧ w.cell? ⟨b, o + i * 2, none⟩ = some (.int .i64 x.1) ∧ w.cell? ⟨b, o + i * 2 + 1, none⟩ = some (.int .i64 x.2)
theorem SpA.kept {w w' : World} {A : Option Addr} {L : List (Int × Int)} (h : SpA w A L) (hz : w.heap.size ≤ w'.heap.size) (hk : ∀ p : Addr, p.block < w.heap.size → w'.cell? p = w.cell? p) : SpA w' A L := fun i x hx => by
  obtain ⟨b, o, hA, hb, h1, h2⟩ := h i x hx
  exact ⟨b, o, hA, by omega, (hk _ hb).trans h1, (hk _ hb).trans h2⟩
theorem SpA.below {w w' : World} {B : Nat} {A : Option Addr} {L : List (Int × Int)} (h : SpA w A L) (hb : Below B w w') (hB : w.heap.size ≤ B) : SpA w' A L :=
  h.kept hb.size fun p hp => hb.cell (by omega)
theorem SpA.drewN {w : World} {A : Option Addr} {L : List (Int × Int)} (h : SpA w A L) (n : Nat) : SpA (w.drewN n) A L := h
theorem SpA.drew {w : World} {A : Option Addr} {L : List (Int × Int)} (h : SpA w A L) : SpA w.drew A L := h
theorem SpA.nil (w : World) (A : Option Addr) : SpA w A [] := fun i x hx => by simp at hx
/-- The cells of spans. -/
def spn (L : List (Int × Int)) : List Value := L.flatMap fun x => [.int .i64 x.1, .int .i64 x.2]
theorem spn_len : ∀ L : List (Int × Int), (spn L).length = L.length * 2
  | [] => rfl
  | x :: L => by
    have := spn_len L
    unfold spn at this ⊢
    rw [List.flatMap_cons, List.length_append, this, List.length_cons]
    simp only [List.length_cons, List.length_nil]
    omega
theorem spn_app (L M : List (Int × Int)) : spn (L ++ M) = spn L ++ spn M := by unfold spn; rw [List.flatMap_append]
theorem spn_one (x : Int × Int) : spn [x] = [.int .i64 x.1, .int .i64 x.2] := rfl
theorem spn_get : ∀ (L : List (Int × Int)) (i : Nat) (x : Int × Int), L[i]? = some x → (spn L)[i * 2]? = some (.int .i64 x.1) ∧ (spn L)[i * 2 + 1]? = some (.int .i64 x.2)
  | [], i, x, h => by simp at h
  | y :: L, 0, x, h => by
    simp at h
    subst h
    exact ⟨rfl, rfl⟩
  | y :: L, i + 1, x, h => by
    have ih := spn_get L i x (by simpa using h)
    have e : spn (y :: L) = .int .i64 y.1 :: .int .i64 y.2 :: spn L := rfl
    rw [e, show (i + 1) * 2 = i * 2 + 1 + 1 by omega]
    simpa using ih
theorem spn_cells (L : List (Int × Int)) : ∀ u ∈ spn L, u.oneCell' = true := by
  intro u hu
  unfold spn at hu
  rw [List.mem_flatMap] at hu
  obtain ⟨x, _, hx⟩ := hu
  simp at hx
  rcases hx with rfl | rfl <;> rfl
/-- A slice of spans of the call's own. -/
def Own (w : World) (B : Nat) (v : Value) (L : List (Int × Int)) : Prop := w.ownsRow B 108 2 v L.length (spn L)
theorem add_none (b o n : Nat) : (⟨b, o, none⟩ : Addr).add n = ⟨b, o + n, none⟩ := by unfold Addr.add; split <;> simp_all
theorem Own.form {w : World} {B : Nat} {v : Value} {L : List (Int × Int)} (h : Own w B v L) : ∃ A cap, v = .slice A L.length cap ∧ L.length ≤ cap ∧ cap ≤ maxLen ∧ SpA w A L := by
  have hc : ∀ g, v.ownBlock = some g → ∀ j u, (spn L)[j]? = some u → w.cell? ((⟨g, 0, none⟩ : Addr).add j) = some u := fun g hg => World.ownsRow.cells h hg
  have h2 := World.ownsRow.lt h
  rcases h.2 with ⟨rfl, h0⟩ | ⟨g, cap, cur, rfl, hB, hg, hn, hm, hs, ht⟩
  · refine ⟨none, 0, by rw [h0], by omega, by unfold maxLen; omega, ?_⟩
    rw [List.eq_nil_of_length_eq_zero h0]
    exact SpA.nil _ _
  · refine ⟨_, cap, rfl, hn, hm, fun i x hx => ⟨g, 0, rfl, (h2 g rfl).2, ?_, ?_⟩⟩
    · obtain ⟨e1, e2⟩ := spn_get L i x hx
      have := hc g rfl _ _ e1
      rw [add_none] at this
      exact this
    · obtain ⟨e1, e2⟩ := spn_get L i x hx
      have := hc g rfl _ _ e2
      rw [add_none] at this
      exact this
theorem Own.kept {w w' : World} {B : Nat} {v : Value} {L : List (Int × Int)} (h : Own w B v L) (hb : Below w.heap.size w w') : Own w' B v L := by
  unfold Own
  refine World.ownsRow.kept (row := none) h ⟨hb.os, hb.tape, hb.output, hb.size, fun k hk _ => hb.block k hk⟩ ?_
  cases hv : v.ownBlock <;> simp
theorem Own.from {w : World} {B B' : Nat} {v : Value} {L : List (Int × Int)} (h : Own w B v L) (hb : B' ≤ B) : Own w B' v L := by
  refine ⟨h.1, ?_⟩
  rcases h.2 with h2 | ⟨g, cap, cur, hv, hB, rest⟩
  · exact .inl h2
  · exact .inr ⟨g, cap, cur, hv, by omega, rest⟩

theorem all_tk' {α : Type} (f : α → Bool) (L : List α) (k : Nat) (x : α) (hx : L[k]? = some x) (h : (L.take k).all f = true) (hf : f x = true) : (L.take (k + 1)).all f = true := by
  obtain ⟨hk, e⟩ := List.getElem?_eq_some_iff.1 hx
  exact all_tk f L k hk h (by rw [e]; exact hf)
theorem all_no' {α : Type} (f : α → Bool) (L : List α) (k : Nat) (x : α) (hx : L[k]? = some x) (h : f x = false) : L.all f = false := by
  obtain ⟨hk, e⟩ := List.getElem?_eq_some_iff.1 hx
  exact all_no f L k hk (by rw [e]; exact h)

set_option maxHeartbeats 1000000 in
theorem spec_setvalid (A : Option Addr) (cap : Nat) (L : List (Int × Int)) (w : World) (h : SpA w A L) (hl : L.length ≤ 33554432) :
    Calls Tryd.prog 98 #[.slice A L.length cap] w fun e w' => e = .returned (.bool (setB L)) ∧ w = w' := by
  obtain ⟨n, hn⟩ : ∃ n, L.length = n := ⟨_, rfl⟩
  rw [hn] at hl ⊢
  have HN := Lib.hid hn
  have H := Lib.hid h
  clear hn h
  go_enter Tryd.func98, Tryd.ntmps98
  go_wp2
  go_loop [3] (fun i => ∃ k : Nat, k ≤ n ∧ i = .int .i64 (k : Int) ∧ Hid ((L.take k).all spanB = true)) (fun i => n - (intOf i).toNat)
  case atStart => exact ⟨0, Nat.zero_le _, by go_num, rfl⟩
  case round =>
    obtain ⟨k, hk, rfl, HA⟩ := hrel
    by_cases hlt : k < n
    · have h0 : (0 : Int) ≤ (k : Int) := by omega
      have h5 : (k : Int) < (n : Int) := by omega
      obtain ⟨⟨x1, x2⟩, hx⟩ : ∃ x, L[k]? = some x := ⟨_, List.getElem?_eq_getElem (by rw [HN.out]; exact hlt)⟩
      obtain ⟨b, o, rfl, hb, c1, c2⟩ := H.out k _ hx
      have HX := Lib.hid hx
      clear hx
      cases hs1 : inB x1 0 99
      · have HS := Lib.hid hs1
        clear hs1
        go_wp2_with fail
        refine (in_any _ _ _ _).mono ?_
        rintro e w1 ⟨rfl, rfl⟩
        rw [HS.out]
        go_wp2
        go_ret
        refine ⟨ret_bool ?_, rfl⟩
        unfold setB
        rw [all_no' spanB L k _ HX.out (by unfold spanB; rw [HS.out]; rfl)]
        rfl
      · cases hs2 : inB x2 0 99
        · have HS := Lib.hid hs1
          have HS2 := Lib.hid hs2
          clear hs1 hs2
          go_wp2_with fail
          refine (in_any _ _ _ _).mono ?_
          rintro e w1 ⟨rfl, rfl⟩
          rw [HS.out]
          go_wp2_with fail
          refine (in_any _ _ _ _).mono ?_
          rintro e w1 ⟨rfl, rfl⟩
          rw [HS2.out]
          go_wp2
          go_ret
          refine ⟨ret_bool ?_, rfl⟩
          unfold setB
          rw [all_no' spanB L k _ HX.out (by unfold spanB; rw [HS2.out, Bool.and_false])]
          rfl
        · have HS := Lib.hid hs1
          have HS2 := Lib.hid hs2
          clear hs1 hs2
          go_wp2_with fail
          refine (in_any _ _ _ _).mono ?_
          rintro e w1 ⟨rfl, rfl⟩
          rw [HS.out]
          go_wp2_with fail
          refine (in_any _ _ _ _).mono ?_
          rintro e w1 ⟨rfl, rfl⟩
          rw [HS2.out]
          go_wp2
          go_round
          case rel => exact ⟨k + 1, by omega, by go_num, all_tk' spanB L k _ HX.out HA.out (by unfold spanB; rw [HS.out, HS2.out]; rfl)⟩
          case measure => simp [intOf]; omega
    · have ha : Hid (L.all spanB = true) := by
        have h1 := HA.out
        rw [List.take_of_length_le (by rw [HN.out]; omega)] at h1
        exact h1
      clear HA
      go_wp2_with fail
      refine (in_any _ _ _ _).mono ?_
      rintro e w1 ⟨rfl, rfl⟩
      go_wp2
      go_ret
      refine ⟨ret_bool ?_, rfl⟩
      show inB _ _ _ = _
      unfold setB
      rw [ha.out, HN.out]
      rfl

set_option maxHeartbeats 400000 in
theorem isnum_any (n : Int) (w : World) : Calls Tryd.prog 89 #[.int .i64 n] w fun e w' => e = .returned (.bool (inB n 0 99)) ∧ w = w' := by
  by_cases h1 : 0 ≤ n <;> by_cases h2 : n ≤ 99
  all_goals
    go_enter Tryd.func89, Tryd.ntmps89
    go_wp2
    go_ret
    refine ⟨ret_bool ?_, rfl⟩
    unfold inB
    first
      | exact (decide_eq_true (by omega)).symm
      | exact (decide_eq_false (by omega)).symm

theorem setB_no0 {L : List (Int × Int)} (h : L.length = 0) : setB L = false := by
  rw [← Bool.not_eq_true]
  intro hs
  have := (setB_iff.1 hs).2.1
  omega
set_option maxHeartbeats 1000000 in
theorem impl_setvalid (A : Option Addr) (cap : Nat) (L : List (Int × Int)) (w : World) (h : SpA w A L) (hl : L.length ≤ 33554432) :
    Calls Tryd.prog 59 #[.slice A L.length cap] w fun e w' => e = .returned (.bool (setB L)) ∧ Below w.heap.size w w' := by
  obtain ⟨n, hn⟩ : ∃ n, L.length = n := ⟨_, rfl⟩
  rw [hn] at hl ⊢
  have HN := Lib.hid hn
  have H := Lib.hid h
  clear hn h
  by_cases h0 : n = 0
  · have h0' : ((n : Int) == 0) = true := by rw [h0]; rfl
    have HS := Lib.hid (setB_no0 (L := L) (by rw [HN.out, h0]))
    have HZ := Lib.hid h0
    clear h0
    go_enter Tryd.func59, Tryd.ntmps59
    go_wp2
    go_ret
    exact ⟨ret_bool HS.out.symm, Below.refl _ _⟩
  · have h0' : ((n : Int) == 0) = false := beq_eq_false_iff_ne.2 (by omega)
    by_cases h6 : n ≤ 6
    · have h6' : ¬ (6 : Int) < (n : Int) := by omega
      have HP := Lib.hid h0
      clear h0
      go_enter Tryd.func59, Tryd.ntmps59
      go_wp2
      go_loopw [15] (fun i wr => ∃ k : Nat, k ≤ n ∧ i = .int .i64 (k : Int) ∧ Hid ((L.take k).all spanB = true) ∧ Hid (Below w.heap.size w wr)) (fun i _ => n - (intOf i).toNat)
      case atStart => exact ⟨0, Nat.zero_le _, by go_num, rfl, Below.refl _ _⟩
      case round =>
        obtain ⟨k, hk, rfl, HA, HB⟩ := hrel
        by_cases hlt : k < n
        · have h0 : (0 : Int) ≤ (k : Int) := by omega
          have h5 : (k : Int) < (n : Int) := by omega
          obtain ⟨⟨x1, x2⟩, hx⟩ : ∃ x, L[k]? = some x := ⟨_, List.getElem?_eq_getElem (by rw [HN.out]; exact hlt)⟩
          obtain ⟨b, o, rfl, hb, c1, c2⟩ := (H.out.below HB.out (Nat.le_refl _)) k _ hx
          have HX := Lib.hid hx
          clear hx
          cases hs1 : inB x1 0 99
          · have HS := Lib.hid hs1
            clear hs1
            go_wp2_with fail
            refine (isnum_any _ _).mono ?_
            rintro e w1 ⟨rfl, rfl⟩
            rw [HS.out]
            go_wp2
            go_ret
            refine ⟨ret_bool ?_, HB.out.alloc HB.out.size _⟩
            unfold setB
            rw [all_no' spanB L k _ HX.out (by unfold spanB; rw [HS.out]; rfl)]
            rfl
          · cases hs2 : inB x2 0 99
            · have HS := Lib.hid hs1
              have HS2 := Lib.hid hs2
              clear hs1 hs2
              go_wp2_with fail
              refine (isnum_any _ _).mono ?_
              rintro e w1 ⟨rfl, rfl⟩
              rw [HS.out]
              go_wp2_with fail
              refine (isnum_any _ _).mono ?_
              rintro e w1 ⟨rfl, rfl⟩
              rw [HS2.out]
              go_wp2
              go_ret
              refine ⟨ret_bool ?_, HB.out.alloc HB.out.size _⟩
              unfold setB
              rw [all_no' spanB L k _ HX.out (by unfold spanB; rw [HS2.out, Bool.and_false])]
              rfl
            · have HS := Lib.hid hs1
              have HS2 := Lib.hid hs2
              clear hs1 hs2
              go_wp2_with fail
              refine (isnum_any _ _).mono ?_
              rintro e w1 ⟨rfl, rfl⟩
              rw [HS.out]
              go_wp2_with fail
              refine (isnum_any _ _).mono ?_
              rintro e w1 ⟨rfl, rfl⟩
              rw [HS2.out]
              go_wp2
              go_roundw
              case rel => exact ⟨k + 1, by omega, by go_num, all_tk' spanB L k _ HX.out HA.out (by unfold spanB; rw [HS.out, HS2.out]; rfl), HB.out.alloc HB.out.size _⟩
              case measure => simp [intOf]; omega
        · have ha : Hid (setB L = true) := by
            have h1 := HA.out
            rw [List.take_of_length_le (by rw [HN.out]; omega)] at h1
            show setB L = true
            unfold setB
            rw [h1, HN.out]
            exact inB_yes (by have := HP.out; omega) (by omega)
          clear HA
          have hge : (n : Int) ≤ (k : Int) := by omega
          go_wp2
          go_ret
          exact ⟨ret_bool ha.out.symm, HB.out⟩
    · have h6' : (6 : Int) < (n : Int) := by omega
      have HS := Lib.hid (setB_long (L := L) (by rw [HN.out]; omega))
      go_enter Tryd.func59, Tryd.ntmps59
      go_wp2
      go_ret
      exact ⟨ret_bool HS.out.symm, Below.refl _ _⟩
end Go.Proofs.YtpihibconbejlaaDoor
namespace Go.Proofs.YtpihibconbejlaaDoor
set_option linter.unusedVariables false

/-- A digit. -/
def dgt (c : UInt8) : Bool := decide (48 ≤ c.toNat ∧ c.toNat ≤ 57)
/-- The number of a word, if it has one. -/
def numO : List UInt8 → Option Nat
  | [x] => if x = 42 then some 0 else if 49 ≤ x.toNat ∧ x.toNat ≤ 57 then some (x.toNat - 48) else none
  | [x, y] => if (49 ≤ x.toNat ∧ x.toNat ≤ 57) ∧ 48 ≤ y.toNat ∧ y.toNat ≤ 57 then some (10 * (x.toNat - 48) + (y.toNat - 48)) else none
  | _ => none
theorem numO_le {l : List UInt8} {n : Nat} (h : numO l = some n) : n ≤ 99 := by
  unfold numO at h
  split at h
  · split at h
    · cases h; omega
    · split at h
      · cases h; omega
      · cases h
  · split at h
    · cases h; omega
    · cases h
  · cases h
/-- A span of a word, if it has one. -/
def partO (p : List UInt8) : Option (Nat × Nat) :=
  match cut 58 p with
  | [a] => match numO a with
    | some m => some (m, m)
    | none => none
  | [a, b] => match numO a, numO b with
    | some m, some n => some (m, n)
    | _, _ => none
  | _ => none
/-- The spans of words, if each has one. -/
def listO : List (List UInt8) → Option (List (Nat × Nat))
  | [] => some []
  | p :: ps => match partO p, listO ps with
    | some s, some l => some (s :: l)
    | _, _ => none
/-- The spans of words, at most 'n' of them. -/
def atMost (n : Nat) : Option (List (Nat × Nat)) → Option (List (Nat × Nat))
  | some l => if l.length ≤ n then some l else none
  | none => none
/-- The set of a text, if it has one. -/
def setO (L : List UInt8) : Option (List (Nat × Nat)) := atMost 6 (listO (cut 44 L))

/-- The cursor's reading of digits. -/
def digF : Nat → List UInt8 → Nat × List UInt8
  | n, [] => (n, [])
  | n, c :: t => if n ≤ 99 ∧ dgt c = true then digF (10 * n + (c.toNat - 48)) t else (n, c :: t)
theorem digF_nil (n : Nat) : digF n [] = (n, []) := by unfold digF; rfl
theorem digF_go {n : Nat} {c : UInt8} (t : List UInt8) (h : n ≤ 99) (hc : dgt c = true) : digF n (c :: t) = digF (10 * n + (c.toNat - 48)) t := by
  conv => lhs; unfold digF
  rw [if_pos ⟨h, hc⟩]
theorem digF_stop {n : Nat} {c : UInt8} (t : List UInt8) (h : 99 < n ∨ dgt c = false) : digF n (c :: t) = (n, c :: t) := by
  unfold digF
  rw [if_neg]
  rintro ⟨h1, h2⟩
  rcases h with h | h
  · omega
  · rw [h] at h2; cases h2
theorem digF_big {n : Nat} (t : List UInt8) (h : 99 < n) : digF n t = (n, t) := by
  cases t with
  | nil => exact digF_nil n
  | cons c t => exact digF_stop t (.inl h)
/-- The cursor's reading of a number: the number, whether there is one, and what is left. -/
def numF : List UInt8 → Nat × Bool × List UInt8
  | [] => (0, false, [])
  | c :: t => if c = 42 then (0, true, t) else if c = 48 then (0, false, t) else
    if (digF 0 (c :: t)).1 = 0 ∨ 99 < (digF 0 (c :: t)).1 then (0, false, (digF 0 (c :: t)).2) else ((digF 0 (c :: t)).1, true, (digF 0 (c :: t)).2)
theorem numF_cons (c : UInt8) (t : List UInt8) : numF (c :: t) = if c = 42 then (0, true, t) else if c = 48 then (0, false, t) else
    if (digF 0 (c :: t)).1 = 0 ∨ 99 < (digF 0 (c :: t)).1 then (0, false, (digF 0 (c :: t)).2) else ((digF 0 (c :: t)).1, true, (digF 0 (c :: t)).2) := rfl
/-- The cursor's reading of a span. -/
def spanF (S : List UInt8) : (Nat × Nat) × Bool × List UInt8 :=
  match numF S with
  | (m, false, r) => ((m, m), false, r)
  | (m, true, []) => ((m, m), true, [])
  | (m, true, c :: t) => if c = 58 then ((m, (numF t).1), (numF t).2.1, (numF t).2.2) else ((m, m), true, c :: t)
/-- The cursor's reading of a set of at most 'n' spans. -/
def setF : Nat → List UInt8 → Option (List (Nat × Nat))
  | 0, _ => none
  | n + 1, S => match spanF S with
    | (_, false, _) => none
    | (s, true, []) => some [s]
    | (s, true, c :: t) => if c = 44 then (setF n t).map (s :: ·) else none

/-- A byte that ends a number. -/
def sepB (c : UInt8) : Bool := c == 44 || c == 58
theorem sep_digit {c : UInt8} (h : sepB c = true) : dgt c = false := by
  unfold sepB at h
  rw [Bool.or_eq_true, beq_iff_eq, beq_iff_eq] at h
  rcases h with rfl | rfl <;> decide
/-- Nothing, or something that begins with a comma or a colon. -/
def Ends (q : List UInt8) : Prop := q = [] ∨ ∃ c t, q = c :: t ∧ sepB c = true
theorem digF_ends {n : Nat} {q : List UInt8} (hq : Ends q) : digF n q = (n, q) := by
  rcases hq with rfl | ⟨c, t, rfl, hc⟩
  · exact digF_nil n
  · exact digF_stop t (.inr (sep_digit hc))
theorem dgt_of {c : UInt8} (h1 : 48 ≤ c.toNat) (h2 : c.toNat ≤ 57) : dgt c = true := decide_eq_true ⟨h1, h2⟩
theorem ne_of_nat {c : UInt8} {n : Nat} (hn : n < 256) (h : c.toNat ≠ n) : c ≠ UInt8.ofNat n := by
  rintro rfl
  rw [UInt8.toNat_ofNat'] at h
  exact h (Nat.mod_eq_of_lt (by omega))
theorem ne42 {c : UInt8} (h : 49 ≤ c.toNat) : c ≠ 42 := ne_of_nat (n := 42) (by omega) (by omega)
theorem ne48 {c : UInt8} (h : 49 ≤ c.toNat) : c ≠ 48 := ne_of_nat (n := 48) (by omega) (by omega)
theorem numF_ends {q : List UInt8} (hq : Ends q) : numF q = (0, false, q) := by
  rcases hq with rfl | ⟨c, t, rfl, hc⟩
  · rfl
  · rw [numF_cons]
    have h := digF_ends (n := 0) (q := c :: t) (.inr ⟨c, t, rfl, hc⟩)
    have h1 : c ≠ 42 := by rintro rfl; revert hc; decide
    have h2 : c ≠ 48 := by rintro rfl; revert hc; decide
    rw [if_neg h1, if_neg h2, h, if_pos (.inl rfl)]
theorem numF_good {a q : List UInt8} {n : Nat} (h : numO a = some n) (hq : Ends q) : numF (a ++ q) = (n, true, q) := by
  unfold numO at h
  split at h
  · rename_i x
    split at h
    · rename_i hx
      subst hx
      cases h
      rfl
    · split at h
      · rename_i hx h1
        cases h
        show numF (x :: q) = _
        rw [numF_cons, if_neg hx, if_neg (ne48 h1.1), digF_go q (by omega) (dgt_of (by omega) h1.2), digF_ends hq]
        rw [if_neg (by simp only; omega)]
        simp
      · cases h
  · rename_i x y
    split at h
    · rename_i h1
      cases h
      show numF (x :: y :: q) = _
      rw [numF_cons, if_neg (ne42 h1.1.1), if_neg (ne48 h1.1.1), digF_go _ (by omega) (dgt_of (by omega) h1.1.2), digF_go q (by omega) (dgt_of h1.2.1 h1.2.2), digF_ends hq]
      rw [if_neg (by simp only; omega)]
      simp
    · cases h
  · cases h
/-- A reading that fails: there is none, or something is left that begins with neither a comma nor a colon. -/
def Bad (ok : Bool) (r : List UInt8) : Prop := ok = true → ∃ x t, r = x :: t ∧ sepB x = false
theorem bad_no (r : List UInt8) : Bad false r := fun h => by cases h
theorem numF_bad {a q : List UInt8} (h : numO a = none) (ha : ∀ x ∈ a, sepB x = false) (hq : Ends q) : Bad (numF (a ++ q)).2.1 (numF (a ++ q)).2.2 := by
  cases a with
  | nil => rw [List.nil_append, numF_ends hq]; exact bad_no _
  | cons x a =>
    show Bad (numF (x :: (a ++ q))).2.1 (numF (x :: (a ++ q))).2.2
    rw [numF_cons]
    by_cases h42 : x = 42
    · rw [if_pos h42]
      intro _
      cases a with
      | nil => subst h42; cases h
      | cons y a => exact ⟨y, a ++ q, rfl, ha y (by simp)⟩
    · rw [if_neg h42]
      by_cases h48 : x = 48
      · rw [if_pos h48]; exact bad_no _
      · rw [if_neg h48]
        by_cases hx : dgt x = true
        · have hx' := of_decide_eq_true hx
          have h49 : 49 ≤ x.toNat := by
            have : x.toNat ≠ 48 := fun e => h48 (UInt8.toNat_inj.1 e)
            omega
          rw [digF_go _ (by omega) hx]
          cases a with
          | nil =>
            unfold numO at h
            simp only [if_neg h42, if_pos (show 49 ≤ x.toNat ∧ x.toNat ≤ 57 from ⟨h49, hx'.2⟩)] at h
            cases h
          | cons y a =>
            by_cases hy : dgt y = true
            · have hy' := of_decide_eq_true hy
              rw [List.cons_append, digF_go _ (by omega) hy]
              cases a with
              | nil =>
                unfold numO at h
                simp only [if_pos (show (49 ≤ x.toNat ∧ x.toNat ≤ 57) ∧ 48 ≤ y.toNat ∧ y.toNat ≤ 57 from ⟨⟨h49, hx'.2⟩, hy'.1, hy'.2⟩)] at h
                cases h
              | cons z a =>
                by_cases hz : dgt z = true
                · have hz' := of_decide_eq_true hz
                  rw [List.cons_append, digF_go _ (by omega) hz, digF_big _ (by omega), if_pos (.inr (by simp only; omega))]
                  exact bad_no _
                · rw [List.cons_append, digF_stop _ (.inr (Bool.eq_false_iff.2 hz)), if_neg (by simp only; omega)]
                  exact fun _ => ⟨z, a ++ q, rfl, ha z (by simp)⟩
            · rw [List.cons_append, digF_stop _ (.inr (Bool.eq_false_iff.2 hy)), if_neg (by simp only; omega)]
              exact fun _ => ⟨y, a ++ q, rfl, ha y (by simp)⟩
        · rw [digF_stop _ (.inr (Bool.eq_false_iff.2 hx)), if_pos (.inl rfl)]
          exact bad_no _

/-- A list is what stands ahead of the first 'c', and nothing or 'c' and the rest. -/
theorem cut_split (c : UInt8) (p : List UInt8) : (cut c p = [p] ∧ ∀ x ∈ p, x ≠ c) ∨ ∃ a t, p = a ++ c :: t ∧ cut c p = a :: cut c t ∧ ∀ x ∈ a, x ≠ c := by
  by_cases h : c ∈ p
  · obtain ⟨a, t, rfl, ha⟩ : ∃ a t, p = a ++ c :: t ∧ ∀ x ∈ a, x ≠ c := by
      induction p with
      | nil => cases h
      | cons x p ih =>
        by_cases hx : x = c
        · exact ⟨[], p, by rw [hx]; rfl, by simp⟩
        · obtain ⟨a, t, rfl, ha⟩ := ih ((List.mem_cons.1 h).resolve_left (fun e => hx e.symm))
          refine ⟨x :: a, t, rfl, fun y hy => ?_⟩
          rcases List.mem_cons.1 hy with rfl | hy
          · exact hx
          · exact ha y hy
    exact .inr ⟨a, t, rfl, cut_at c a t ha, ha⟩
  · have hp : ∀ x ∈ p, x ≠ c := fun x hx e => h (e ▸ hx)
    exact .inl ⟨cut_nil_of c p hp, hp⟩
theorem sep_no {x : UInt8} (h1 : x ≠ 44) (h2 : x ≠ 58) : sepB x = false := by unfold sepB; simp [h1, h2]
/-- Nothing, or something that begins with a comma. -/
def Ends44 (q : List UInt8) : Prop := q = [] ∨ ∃ t, q = 44 :: t
theorem Ends44.ends {q : List UInt8} (h : Ends44 q) : Ends q := by
  rcases h with rfl | ⟨t, rfl⟩
  · exact .inl rfl
  · exact .inr ⟨44, t, rfl, by decide⟩
theorem ends58 (t : List UInt8) : Ends (58 :: t) := .inr ⟨58, t, rfl, by decide⟩
theorem spanF_colon {S t : List UInt8} {m : Nat} (h : numF S = (m, true, 58 :: t)) : spanF S = ((m, (numF t).1), (numF t).2.1, (numF t).2.2) := by
  unfold spanF; rw [h]; simp
theorem spanF_no {S r : List UInt8} {m : Nat} (h : numF S = (m, false, r)) : spanF S = ((m, m), false, r) := by
  unfold spanF; rw [h]
theorem spanF_one {S r : List UInt8} {m : Nat} (h : numF S = (m, true, r)) (hr : ∀ t, r ≠ 58 :: t) : spanF S = ((m, m), true, r) := by
  unfold spanF; rw [h]
  cases r with
  | nil => rfl
  | cons c t =>
    have hc : c ≠ 58 := fun e => hr t (by rw [e])
    simp [hc]
theorem part_good {p q : List UInt8} {s : Nat × Nat} (h : partO p = some s) (hp : ∀ x ∈ p, x ≠ 44) (hq : Ends44 q) : spanF (p ++ q) = (s, true, q) := by
  unfold partO at h
  split at h
  · rename_i a hc
    rcases cut_split 58 p with ⟨h1, h2⟩ | ⟨a', t, rfl, h1, h2⟩
    · rw [h1] at hc
      cases hc
      split at h
      · rename_i m hm
        cases h
        exact spanF_one (numF_good hm hq.ends) (by
          rintro t rfl
          rcases hq with h | ⟨_, h⟩
          · cases h
          · cases h)
      · cases h
    · rw [h1] at hc
      have := (cut_len 58 t).1
      rw [List.cons.injEq] at hc
      rw [hc.2] at this
      simp at this
  · rename_i a b hc
    rcases cut_split 58 p with ⟨h1, h2⟩ | ⟨a', t, rfl, h1, h2⟩
    · rw [h1] at hc; cases hc
    · rw [h1, List.cons.injEq] at hc
      obtain ⟨rfl, hc⟩ := hc
      have hb : t = b := by
        rcases cut_split 58 t with ⟨h3, h4⟩ | ⟨b', u, rfl, h3, h4⟩
        · rw [h3] at hc; cases hc; rfl
        · rw [h3, List.cons.injEq] at hc
          have := (cut_len 58 u).1
          rw [hc.2] at this
          simp at this
      subst hb
      split at h
      · rename_i m n hm hn
        cases h
        have e : (a' ++ 58 :: t) ++ q = a' ++ 58 :: (t ++ q) := by simp
        rw [e, spanF_colon (numF_good hm (ends58 _)), numF_good hn hq.ends]
      · cases h
  · cases h
/-- A reading that fails: there is none, or something is left that begins with no comma. -/
def Bad44 (ok : Bool) (r : List UInt8) : Prop := ok = true → ∃ x t, r = x :: t ∧ x ≠ 44
theorem Bad.to44 {ok : Bool} {r : List UInt8} (h : Bad ok r) : Bad44 ok r := fun ho => by
  obtain ⟨x, t, hr, hx⟩ := h ho
  exact ⟨x, t, hr, by rintro rfl; revert hx; decide⟩
theorem span_bad {S : List UInt8} (h : Bad (numF S).2.1 (numF S).2.2) : Bad44 (spanF S).2.1 (spanF S).2.2 := by
  obtain ⟨⟨m, o, r⟩, hm⟩ : ∃ x, numF S = x := ⟨_, rfl⟩
  rw [hm] at h
  cases o with
  | false => rw [spanF_no hm]; exact fun h => by cases h
  | true =>
    obtain ⟨x, t, hr, hx⟩ := h rfl
    simp only at hr
    subst hr
    rw [spanF_one hm (by rintro u e; cases e; revert hx; decide)]
    exact fun _ => ⟨x, t, rfl, by rintro rfl; revert hx; decide⟩
theorem part_bad {p q : List UInt8} (h : partO p = none) (hp : ∀ x ∈ p, x ≠ 44) (hq : Ends44 q) : Bad44 (spanF (p ++ q)).2.1 (spanF (p ++ q)).2.2 := by
  rcases cut_split 58 p with ⟨h1, h2⟩ | ⟨a, t, rfl, h1, h2⟩
  · have hn : numO p = none := by
      unfold partO at h
      rw [h1] at h
      simp only at h
      split at h
      · cases h
      · assumption
    exact span_bad (numF_bad hn (fun x hx => sep_no (hp x hx) (h2 x hx)) hq.ends)
  · have ha : ∀ x ∈ a, sepB x = false := fun x hx => sep_no (hp x (by simp [hx])) (h2 x hx)
    have e : (a ++ 58 :: t) ++ q = a ++ 58 :: (t ++ q) := by simp
    rw [e]
    cases hm : numO a with
    | none => exact span_bad (numF_bad hm ha (ends58 _))
    | some m =>
      rw [spanF_colon (numF_good hm (ends58 _))]
      rcases cut_split 58 t with ⟨h3, h4⟩ | ⟨b, u, rfl, h3, h4⟩
      · have hn : numO t = none := by
          unfold partO at h
          rw [h1, h3] at h
          simp only [hm] at h
          split at h
          · cases h
          · rename_i hx
            cases hn : numO t with
            | none => rfl
            | some n => exact absurd hn (hx m n rfl)
        exact (numF_bad hn (fun x hx => sep_no (hp x (by simp [hx])) (h4 x hx)) hq.ends).to44
      · have e2 : (b ++ 58 :: u) ++ q = b ++ 58 :: (u ++ q) := by simp
        rw [e2]
        cases hn : numO b with
        | none => exact (numF_bad hn (fun x hx => sep_no (hp x (by simp [hx])) (h4 x hx)) (ends58 _)).to44
        | some n =>
          rw [numF_good hn (ends58 _)]
          exact fun _ => ⟨58, u ++ q, rfl, by decide⟩

theorem setF_eq : ∀ (n : Nat) (S : List UInt8), setF n S = atMost n (listO (cut 44 S)) := by
  intro n
  induction n with
  | zero =>
    intro S
    unfold setF
    have hl := (cut_len 44 S).1
    cases hc : cut 44 S with
    | nil => rw [hc] at hl; simp at hl
    | cons p ps =>
      unfold listO
      split
      · rfl
      · rfl
  | succ n ih =>
    intro S
    rcases cut_split 44 S with ⟨h1, h2⟩ | ⟨p, t, rfl, h1, h2⟩
    · rw [h1]
      cases hp : partO S with
      | some s =>
        have := part_good (q := []) hp h2 (.inl rfl)
        rw [List.append_nil] at this
        unfold setF
        rw [this]
        simp [listO, hp, atMost]
      | none =>
        have := part_bad (q := []) hp h2 (.inl rfl)
        rw [List.append_nil] at this
        unfold setF
        obtain ⟨⟨s, o, r⟩, hs⟩ : ∃ x, spanF S = x := ⟨_, rfl⟩
        rw [hs] at this ⊢
        cases o with
        | false => simp [listO, hp, atMost]
        | true =>
          obtain ⟨x, u, hr, hx⟩ := this rfl
          simp only at hr
          subst hr
          simp [listO, hp, atMost, hx]
    · rw [h1]
      cases hp : partO p with
      | some s =>
        have := part_good (q := 44 :: t) hp h2 (.inr ⟨t, rfl⟩)
        unfold setF
        rw [this]
        simp only [if_pos]
        rw [ih t]
        cases hl : listO (cut 44 t) with
        | none => simp [listO, hp, hl, atMost]
        | some l =>
          simp only [listO, hp, hl, atMost, List.length_cons]
          by_cases hn : l.length ≤ n
          · rw [if_pos hn, if_pos (by omega)]; rfl
          · rw [if_neg hn, if_neg (by omega)]; rfl
      | none =>
        have := part_bad (q := 44 :: t) hp h2 (.inr ⟨t, rfl⟩)
        unfold setF
        obtain ⟨⟨s, o, r⟩, hs⟩ : ∃ x, spanF (p ++ 44 :: t) = x := ⟨_, rfl⟩
        rw [hs] at this ⊢
        cases o with
        | false => simp [listO, hp, atMost]
        | true =>
          obtain ⟨x, u, hr, hx⟩ := this rfl
          simp only at hr
          subst hr
          simp [listO, hp, atMost, hx]
theorem setF6 (L : List UInt8) : setF 6 L = setO L := setF_eq 6 L

/-- The word of a number. -/
def wordN (n : Nat) : List UInt8 := if n = 0 then [42] else if n < 10 then [UInt8.ofNat (48 + n)] else [UInt8.ofNat (48 + n / 10), UInt8.ofNat (48 + n % 10)]
theorem numO_word {n : Nat} (h : n ≤ 99) : numO (wordN n) = some n := by
  have : ∀ k : Fin 100, numO (wordN k.val) = some k.val := by decide
  exact this ⟨n, by omega⟩
theorem word_sep {n : Nat} (h : n ≤ 99) : ∀ x ∈ wordN n, x ≠ 44 ∧ x ≠ 58 := by
  have : ∀ k : Fin 100, ∀ x ∈ wordN k.val, x ≠ 44 ∧ x ≠ 58 := by decide
  exact this ⟨n, by omega⟩
theorem word_ne (n : Nat) : wordN n ≠ [] := by
  unfold wordN; split
  · simp
  · split <;> simp
theorem word_len (n : Nat) : (wordN n).length ≤ 2 := by
  unfold wordN; split
  · simp
  · split <;> simp
/-- The text of a span. -/
def spanW (s : Nat × Nat) : List UInt8 := if s.1 = s.2 then wordN s.1 else wordN s.1 ++ 58 :: wordN s.2
theorem spanW_len (s : Nat × Nat) : (spanW s).length ≤ 5 := by
  unfold spanW
  have h1 := word_len s.1
  have h2 := word_len s.2
  split
  · omega
  · rw [List.length_append, List.length_cons]; omega
/-- The text of spans. -/
def joinW : List (Nat × Nat) → List UInt8
  | [] => []
  | [s] => spanW s
  | s :: t => spanW s ++ 44 :: joinW t
theorem joinW_cons (s r : Nat × Nat) (t : List (Nat × Nat)) : joinW (s :: r :: t) = spanW s ++ 44 :: joinW (r :: t) := rfl
theorem spanW_no44 {s : Nat × Nat} (h1 : s.1 ≤ 99) (h2 : s.2 ≤ 99) : ∀ x ∈ spanW s, x ≠ 44 := by
  intro x hx
  unfold spanW at hx
  split at hx
  · exact (word_sep h1 x hx).1
  · rcases List.mem_append.1 hx with h | h
    · exact (word_sep h1 x h).1
    · rcases List.mem_cons.1 h with rfl | h
      · decide
      · exact (word_sep h2 x h).1
theorem part_back {s : Nat × Nat} (h1 : s.1 ≤ 99) (h2 : s.2 ≤ 99) : partO (spanW s) = some s := by
  unfold partO spanW
  by_cases e : s.1 = s.2
  · rw [if_pos e, cut_nil_of 58 _ (fun x hx => (word_sep h1 x hx).2)]
    simp only [numO_word h1]
    cases s
    simp_all
  · rw [if_neg e, cut_at 58 _ _ (fun x hx => (word_sep h1 x hx).2), cut_nil_of 58 _ (fun x hx => (word_sep h2 x hx).2)]
    simp only [numO_word h1, numO_word h2]
theorem list_back : ∀ (l : List (Nat × Nat)), l ≠ [] → (∀ s ∈ l, s.1 ≤ 99 ∧ s.2 ≤ 99) → listO (cut 44 (joinW l)) = some l
  | [], h, _ => absurd rfl h
  | [s], _, h => by
    have hs := h s (by simp)
    show listO (cut 44 (spanW s)) = some [s]
    rw [cut_nil_of 44 _ (spanW_no44 hs.1 hs.2)]
    simp [listO, part_back hs.1 hs.2]
  | s :: r :: t, _, h => by
    have hs := h s (by simp)
    have ih := list_back (r :: t) (by simp) (fun x hx => h x (by simp only [List.mem_cons] at hx ⊢; exact .inr hx))
    rw [joinW_cons, cut_at 44 _ _ (spanW_no44 hs.1 hs.2)]
    simp [listO, part_back hs.1 hs.2, ih]
theorem set_back {l : List (Nat × Nat)} (h0 : l ≠ []) (h6 : l.length ≤ 6) (h : ∀ s ∈ l, s.1 ≤ 99 ∧ s.2 ≤ 99) : setO (joinW l) = some l := by
  unfold setO
  rw [list_back l h0 h]
  simp [atMost, h6]
theorem joinW_len : ∀ (l : List (Nat × Nat)), (joinW l).length ≤ 6 * l.length
  | [] => by simp [joinW]
  | [s] => by have := spanW_len s; simp only [joinW, List.length_singleton]; omega
  | s :: r :: t => by
    have h1 := spanW_len s
    have h2 := joinW_len (r :: t)
    rw [joinW_cons, List.length_append, List.length_cons, List.length_cons]
    omega

theorem cutGo_ne (c : UInt8) (l cur : List UInt8) : cutGo c cur l ≠ [] := by
  intro h
  have := (cutGo_len c l cur).1
  rw [h] at this
  simp at this
theorem cut_snoc (c : UInt8) (y : List UInt8) (hy : ∀ x ∈ y, x ≠ c) : ∀ (l cur : List UInt8), cutGo c cur (l ++ c :: y) = cutGo c cur l ++ [y]
  | [], cur => by
    have := cut_nil_of c y hy
    unfold cut at this
    show cutGo c cur (c :: y) = cutGo c cur [] ++ [y]
    have e : cutGo c cur (c :: y) = cur :: cutGo c [] y := by
      conv => lhs; unfold cutGo
      rw [if_pos rfl]
    rw [e, this]
    rfl
  | x :: l, cur => by
    rw [List.cons_append, cutGo, cutGo]
    by_cases hx : x = c
    · rw [if_pos hx, if_pos hx, cut_snoc c y hy l []]; rfl
    · rw [if_neg hx, if_neg hx, cut_snoc c y hy l _]
theorem listO_snoc {p : List UInt8} {s : Nat × Nat} (hp : partO p = some s) : ∀ (ps : List (List UInt8)) (l : List (Nat × Nat)), listO ps = some l → listO (ps ++ [p]) = some (l ++ [s])
  | [], l, h => by cases h; simp [listO, hp]
  | q :: ps, l, h => by
    unfold listO at h
    cases hq : partO q with
    | none => simp [hq] at h
    | some r =>
      cases hr : listO ps with
      | none => simp [hq, hr] at h
      | some m =>
        simp [hq, hr] at h
        subst h
        have ih := listO_snoc hp ps m hr
        simp [listO, hq, ih]
theorem atMost_some {n : Nat} {o : Option (List (Nat × Nat))} {l : List (Nat × Nat)} (h : atMost n o = some l) : o = some l ∧ l.length ≤ n := by
  cases o with
  | none => cases h
  | some m =>
    unfold atMost at h
    simp only at h
    split at h
    · cases h; exact ⟨rfl, by assumption⟩
    · cases h
/-- A set and a further star. -/
theorem set_more {L : List UInt8} {l : List (Nat × Nat)} (h : setO L = some l) : setO (L ++ [44, 42]) = if l.length < 6 then some (l ++ [(0, 0)]) else none := by
  obtain ⟨h1, h2⟩ := atMost_some h
  have e : cut 44 (L ++ 44 :: [42]) = cut 44 L ++ [[42]] := cut_snoc 44 [42] (by decide) L []
  have hs : partO [42] = some (0, 0) := by decide
  unfold setO
  rw [show L ++ [44, 42] = L ++ 44 :: [42] from rfl, e, listO_snoc hs _ _ h1]
  unfold atMost
  simp only [List.length_append, List.length_singleton]
  by_cases hl : l.length < 6
  · rw [if_pos hl, if_pos (by omega)]
  · rw [if_neg hl, if_neg (by omega)]
/-- A further byte ahead of a text. -/
theorem set_zero (c : UInt8) (hc : c = 48 ∨ c = 32 ∨ c = 44) (L : List UInt8) : setO (c :: L) = none := by
  rw [← setF6]
  have : ∃ s r, spanF (c :: L) = (s, false, r) := by
    rcases hc with rfl | rfl | rfl
    · exact ⟨_, _, spanF_no rfl⟩
    · have h : numF (32 :: L) = (0, false, 32 :: L) := by
        rw [numF_cons, if_neg (by decide), if_neg (by decide), digF_stop L (.inr (by decide)), if_pos (.inl rfl)]
      exact ⟨_, _, spanF_no h⟩
    · exact ⟨_, _, spanF_no (numF_ends (.inr ⟨44, L, rfl, by decide⟩))⟩
  obtain ⟨s, r, h⟩ := this
  unfold setF
  rw [h]

theorem listO_mem : ∀ (ps : List (List UInt8)) (l : List (Nat × Nat)), listO ps = some l → l.length = ps.length ∧ ∀ s ∈ l, s.1 ≤ 99 ∧ s.2 ≤ 99
  | [], l, h => by cases h; simp
  | q :: ps, l, h => by
    unfold listO at h
    cases hq : partO q with
    | none => simp [hq] at h
    | some r =>
      cases hr : listO ps with
      | none => simp [hq, hr] at h
      | some m =>
        simp [hq, hr] at h
        subst h
        have ih := listO_mem ps m hr
        refine ⟨by simp [ih.1], fun s hs => ?_⟩
        rcases List.mem_cons.1 hs with rfl | hs
        · unfold partO at hq
          split at hq
          · split at hq
            · rename_i hm; cases hq; exact ⟨numO_le hm, numO_le hm⟩
            · cases hq
          · split at hq
            · rename_i hm hn; cases hq; exact ⟨numO_le hm, numO_le hn⟩
            · cases hq
          · cases hq
        · exact ih.2 s hs
theorem set_mem {L : List UInt8} {l : List (Nat × Nat)} (h : setO L = some l) : l ≠ [] ∧ l.length ≤ 6 ∧ ∀ s ∈ l, s.1 ≤ 99 ∧ s.2 ≤ 99 := by
  obtain ⟨h1, h2⟩ := atMost_some h
  obtain ⟨h3, h4⟩ := listO_mem _ _ h1
  refine ⟨?_, h2, h4⟩
  rintro rfl
  have := (cut_len 44 L).1
  rw [← h3] at this
  simp at this
/-- The first parts of a list of words. -/
theorem listO_take : ∀ (ps : List (List UInt8)) (k : Nat) (P : List (Nat × Nat)) (s : Nat × Nat) (hk : k < ps.length), listO (ps.take k) = some P → partO ps[k] = some s → listO (ps.take (k + 1)) = some (P ++ [s]) := by
  intro ps k P s hk h hp
  rw [List.take_succ_eq_append_getElem hk]
  exact listO_snoc hp _ _ h
theorem listO_none : ∀ (ps : List (List UInt8)) (k : Nat) (hk : k < ps.length), partO ps[k] = none → listO ps = none := by
  intro ps
  induction ps with
  | nil => intro k hk; simp at hk
  | cons q ps ih =>
    intro k hk hp
    cases k with
    | zero => simp at hp; simp [listO, hp]
    | succ k =>
      have := ih k (by simpa using hk) (by simpa using hp)
      unfold listO
      rw [this]
      split <;> simp_all
end Go.Proofs.YtpihibconbejlaaDoor
namespace Go.Proofs.YtpihibconbejlaaDoor
open Go.RowKit
set_option linter.unusedVariables false

/-- A key: its kind, flag, text, set and keys. -/
inductive KT where
  | mk (kind flag : Int) (text : ByteArray) (set : List (Int × Int)) (keys : List KT)
mutual
def nodesT : KT → Nat
  | .mk _ _ _ _ ks => nodesL ks + 1
def nodesL : List KT → Nat
  | [] => 0
  | k :: r => nodesT k + nodesL r
end
/-- One of the five flags. -/
def flag1 (f : Int) : Bool := f == 1 || f == 2 || f == 4 || f == 8 || f == 16
/-- The fields of a node are those of its kind. -/
def nodeB (kd f : Int) (t : ByteArray) (S : List (Int × Int)) (n : Nat) : Bool :=
  if kd = 0 then f == 0 && t.size == 0 && S.length == 0 && n == 0
  else if kd = 1 then flag1 f && t.size == 0 && S.length == 0 && n == 0
  else if kd = 2 then f == 0 && nameB t.data.toList && S.length == 0 && n == 0
  else if kd = 3 ∨ kd = 4 then f == 0 && t.size == 0 && setB S && n == 0
  else if kd = 5 then f == 0 && t.size == 0 && S.length == 0 && n == 1
  else if kd = 6 ∨ kd = 7 then f == 0 && t.size == 0 && S.length == 0 && n == 2
  else false
mutual
def allT : KT → Bool
  | .mk kd f t S ks => allL ks && nodeB kd f t S ks.length
def allL : List KT → Bool
  | [] => true
  | k :: r => allT k && allL r
end
/-- A valid key. -/
def keyB (k : KT) : Bool := allT k && decide (nodesT k ≤ 9)
theorem nodesT_pos : ∀ k : KT, 0 < nodesT k
  | .mk _ _ _ _ ks => by rw [nodesT]; omega
theorem nodesL_app : ∀ (a b : List KT), nodesL (a ++ b) = nodesL a + nodesL b
  | [], b => by simp [nodesL]
  | k :: a, b => by rw [List.cons_append, nodesL, nodesL, nodesL_app a b]; omega
theorem allL_app : ∀ (a b : List KT), allL (a ++ b) = (allL a && allL b)
  | [], b => by simp [allL]
  | k :: a, b => by rw [List.cons_append, allL, allL, allL_app a b, Bool.and_assoc]
theorem nodesL_take {ks : List KT} {i : Nat} {k : KT} (h : ks[i]? = some k) : nodesL (ks.take (i + 1)) = nodesL (ks.take i) + nodesT k := by
  rw [List.take_add_one, h, nodesL_app]
  show _ + (nodesT k + 0) = _
  omega
theorem nodesL_le {ks : List KT} (i : Nat) : nodesL (ks.take i) ≤ nodesL ks := by
  have := nodesL_app (ks.take i) (ks.drop i)
  rw [List.take_append_drop] at this
  omega
theorem nodesL_lt {ks : List KT} {i : Nat} {k : KT} (h : ks[i]? = some k) : nodesL (ks.take i) + nodesT k ≤ nodesL ks := by
  rw [← nodesL_take h]
  exact nodesL_le _
theorem allL_take {ks : List KT} {i : Nat} {k : KT} (h : ks[i]? = some k) : allL (ks.take (i + 1)) = (allL (ks.take i) && allT k) := by
  rw [List.take_add_one, h, allL_app]
  show (_ && (allT k && true)) = _
  rw [Bool.and_true]
theorem allL_no {ks : List KT} {i : Nat} {k : KT} (h : ks[i]? = some k) (hk : allT k = false) : allL ks = false := by
  have h1 := allL_app (ks.take (i + 1)) (ks.drop (i + 1))
  rw [List.take_append_drop, allL_take h, hk, Bool.and_false, Bool.false_and] at h1
  exact h1
theorem nodesL_len : ∀ ks : List KT, ks.length ≤ nodesL ks
  | [] => Nat.le_refl _
  | k :: r => by
    have h1 := nodesL_len r
    have h2 := nodesT_pos k
    rw [List.length_cons, nodesL]
    omega

mutual
/-- What a key's value is, and what can be read behind it. -/
def KV (w : World) : KT → Value → Prop
  | .mk kd f t S ks, v => ∃ (AS : Option Addr) (nS cS : Nat) (AK : Option Addr) (nK cK : Nat), v = .agg #[.int .i64 kd, .int .i64 f, .string t, .slice AS nS cS, .slice AK nK cK] ∧ S.length = nS ∧ nS ≤ 33554432 ∧ t.size ≤ 16777216 ∧ SpA w AS S ∧ ks.length = nK ∧ KVs w AK 0 ks
def KVs (w : World) (AK : Option Addr) : Nat → List KT → Prop
  | _, [] => True
  | i, k :: r => (∃ (b o : Nat) (v0 v1 v2 v3 v4 : Value), AK = some ⟨b, o, none⟩ ∧ b < w.heap.size ∧ w.cell? ⟨b, o + i * 5, none⟩ = some v0 ∧ w.cell? ⟨b, o + i * 5 + 1, none⟩ = some v1 ∧ w.cell? ⟨b, o + i * 5 + 2, none⟩ = some v2 ∧
      w.cell? ⟨b, o + i * 5 + 3, none⟩ = some v3 ∧ w.cell? ⟨b, o + i * 5 + 4, none⟩ = some v4 ∧ KV w k (.agg #[v0, v1, v2, v3, v4])) ∧ KVs w AK (i + 1) r
end
mutual
theorem KV.below {w w' : World} {B : Nat} (hb : Below B w w') (hB : w.heap.size ≤ B) : ∀ (k : KT) (v : Value), KV w k v → KV w' k v
  | .mk kd f t S ks, v, h => by
    rw [KV] at h ⊢
    obtain ⟨AS, nS, cS, AK, nK, cK, h1, h2, h3, h4, h5, h6, h7⟩ := h
    exact ⟨AS, nS, cS, AK, nK, cK, h1, h2, h3, h4, h5.below hb hB, h6, KVs.below hb hB AK 0 ks h7⟩
theorem KVs.below {w w' : World} {B : Nat} (hb : Below B w w') (hB : w.heap.size ≤ B) (AK : Option Addr) : ∀ (i : Nat) (ks : List KT), KVs w AK i ks → KVs w' AK i ks
  | i, [], h => by rw [KVs]; trivial
  | i, k :: r, h => by
    rw [KVs] at h ⊢
    obtain ⟨⟨b, o, v0, v1, v2, v3, v4, h1, h2, c0, c1, c2, c3, c4, h3⟩, h4⟩ := h
    have hc : ∀ j, w'.cell? ⟨b, j, none⟩ = w.cell? ⟨b, j, none⟩ := fun j => hb.cell (by show b < B; omega)
    exact ⟨⟨b, o, v0, v1, v2, v3, v4, h1, Nat.lt_of_lt_of_le h2 hb.size, (hc _).trans c0, (hc _).trans c1, (hc _).trans c2, (hc _).trans c3, (hc _).trans c4, KV.below hb hB k _ h3⟩, KVs.below hb hB AK (i + 1) r h4⟩
end
theorem KVs.get {w : World} {AK : Option Addr} : ∀ {i : Nat} {ks : List KT} {j : Nat} {k : KT}, KVs w AK i ks → ks[j]? = some k →
    ∃ (b o : Nat) (v0 v1 v2 v3 v4 : Value), AK = some ⟨b, o, none⟩ ∧ b < w.heap.size ∧ w.cell? ⟨b, o + (i + j) * 5, none⟩ = some v0 ∧ w.cell? ⟨b, o + (i + j) * 5 + 1, none⟩ = some v1 ∧ w.cell? ⟨b, o + (i + j) * 5 + 2, none⟩ = some v2 ∧
      w.cell? ⟨b, o + (i + j) * 5 + 3, none⟩ = some v3 ∧ w.cell? ⟨b, o + (i + j) * 5 + 4, none⟩ = some v4 ∧ KV w k (.agg #[v0, v1, v2, v3, v4])
  | i, [], j, k, h, hk => by simp at hk
  | i, x :: r, 0, k, h, hk => by
    simp at hk
    subst hk
    rw [KVs] at h
    exact h.1
  | i, x :: r, j + 1, k, h, hk => by
    rw [KVs] at h
    have := KVs.get h.2 (by simpa using hk)
    rw [show i + 1 + j = i + (j + 1) by omega] at this
    exact this
/-- The contract of a key's node: what is known of its value, opened. -/
theorem KV.open {w : World} {kd f : Int} {t : ByteArray} {S : List (Int × Int)} {ks : List KT} {v : Value} (h : KV w (.mk kd f t S ks) v) :
    ∃ (AS : Option Addr) (nS cS : Nat) (AK : Option Addr) (nK cK : Nat), v = .agg #[.int .i64 kd, .int .i64 f, .string t, .slice AS nS cS, .slice AK nK cK] ∧ S.length = nS ∧ nS ≤ 33554432 ∧ t.size ≤ 16777216 ∧ SpA w AS S ∧ ks.length = nK ∧ KVs w AK 0 ks := by rw [KV] at h; exact h

set_option maxHeartbeats 1000000 in
theorem spec_nodes_n : ∀ (n : Nat) (k : KT) (v : Value) (w : World), nodesT k ≤ n → n ≤ 4000000 → KV w k v →
    Calls Tryd.prog 50 #[v] w fun e w' => e = .returned (.int .i64 (nodesT k : Int)) ∧ Below w.heap.size w w'
  | 0, k, v, w, hn, _, _ => by have := nodesT_pos k; omega
  | n + 1, .mk kd f t S ks, v, w, hn, hm, h => by
    have ih := fun (k' : KT) (v' : Value) (w1 : World) (h1 : nodesT k' ≤ n) (h2 : KV w1 k' v') => spec_nodes_n n k' v' w1 h1 (by omega) h2
    obtain ⟨AS, nS, cS, AK, nK, cK, rfl, h2, h3, h4, h5, h6, h7⟩ := h.open
    have hT : nodesT (.mk kd f t S ks) = nodesL ks + 1 := by rw [nodesT]
    rw [hT] at hn ⊢
    have hln := nodesL_len ks
    have HKS := Lib.hid h7
    have HN6 := Lib.hid h6
    have hnK : nK ≤ 4000000 := by omega
    obtain ⟨B, hB⟩ : ∃ B, w.heap.size = B := ⟨_, rfl⟩
    have HBB := Lib.hid hB
    have HW0 := Lib.hid (hB ▸ Whole.made w 26 #[.int .i64 kd, .int .i64 f, .string t, .slice AS nS cS, .slice AK nK cK])
    have HB0 : Hid (Below B w (w.alloc (.cells #[.int .i64 kd, .int .i64 f, .string t, .slice AS nS cS, .slice AK nK cK] 26))) := (Below.refl _ _).alloc (Nat.le_of_eq hB.symm) _
    obtain ⟨m, hmm⟩ : ∃ m, nodesL ks + 1 = m := ⟨_, rfl⟩
    have HMM := Lib.hid hmm
    have HIH := Lib.hid ih
    have hm2 : m ≤ 4000000 := by omega
    have hmn : m ≤ n + 1 := by omega
    rw [hmm]
    clear h h2 h3 h4 h5 h6 h7 hT hn hln hm hmm ih
    have z4 := HW0.out.cell 4
    simp at z4
    go_enter Tryd.func50, Tryd.ntmps50
    go_wp2
    clear z4
    go_loopw [3, 4] (fun nv iv wr => ∃ (i s : Nat), i ≤ nK ∧ s ≤ m ∧ nv = .int .i64 (s : Int) ∧ iv = .int .i64 (i : Int) ∧ Hid (nodesL (ks.take i) + 1 = s) ∧ Hid (Below B w wr) ∧ Hid (Whole wr B 26 #[.int .i64 kd, .int .i64 f, .string t, .slice AS nS cS, .slice AK nK cK])) (fun _ iv _ => nK - (intOf iv).toNat)
    case atStart => exact ⟨0, 1, Nat.zero_le _, by have := HMM.out; omega, by go_num, by go_num, rfl, HB0, HW0⟩
    case round =>
      obtain ⟨i, s, hi, hsm, rfl, rfl, HS, HB, HW⟩ := hrel
      have z4 := HW.out.cell 4
      simp at z4
      by_cases hlt : i < nK
      · have h0 : (0 : Int) ≤ (i : Int) := by omega
        have h5 : (i : Int) < (nK : Int) := by omega
        obtain ⟨k, hk⟩ : ∃ k, ks[i]? = some k := ⟨_, List.getElem?_eq_getElem (by rw [HN6.out]; exact hlt)⟩
        obtain ⟨b, o, v0, v1, v2, v3, v4, rfl, hbz, c0, c1, c2, c3, c4, hkv⟩ := (KVs.below HB.out (Nat.le_of_eq HBB.out) AK 0 ks HKS.out).get hk
        rw [Nat.zero_add] at c0 c1 c2 c3 c4
        have hnl := nodesL_lt hk
        have hnt := nodesL_take hk
        obtain ⟨q, hq⟩ : ∃ q, nodesT k = q := ⟨_, rfl⟩
        have hqp := nodesT_pos k
        rw [hq] at hnl hnt hqp
        have hs1 := HS.out
        have hmo := HMM.out
        obtain ⟨s2, hs2⟩ : ∃ y, s + q = y := ⟨_, rfl⟩
        have hs2m : s2 ≤ m := by omega
        have E1 : (s : Int) + (q : Int) = (s2 : Int) := by omega
        have W1 : IntKind.i64.wrap ((s : Int) + (q : Int)) = (s2 : Int) := (IntWalk.i64_in _ (by omega)).trans E1
        have HS2 : Hid (nodesL (ks.take (i + 1)) + 1 = s2) := by show _ = _; omega
        have HC := Lib.hid (HIH.out k (.agg #[v0, v1, v2, v3, v4]) wr (by omega) hkv)
        rw [hq] at HC
        have HSZ := Lib.hid HB.out.size
        clear hk hkv hnl hnt hq hqp hs1 hmo hs2
        go_wp2_with fail
        refine HC.out.mono ?_
        rintro e w2 ⟨rfl, hb⟩
        have HB2 := Lib.hid (HB.out.trans (hb.mono (HBB.out ▸ HSZ.out)))
        have HW2 := Lib.hid (HW.out.below hb HW.out.lt)
        clear hb
        go_wp2
        go_roundw
        case rel => exact ⟨i + 1, s2, by omega, hs2m, rfl, by go_num, HS2, HB2, HW2⟩
        case measure => simp [intOf]; omega
      · have h5 : ¬ (i : Int) < (nK : Int) := by omega
        have hsm2 : s = m := by
          have h1 := HS.out
          rw [List.take_of_length_le (by rw [HN6.out]; omega)] at h1
          rw [← h1, HMM.out]
        subst hsm2
        go_wp2
        go_ret
        exact ⟨rfl, HBB.out ▸ HB.out⟩
end Go.Proofs.YtpihibconbejlaaDoor
namespace Go.Proofs.YtpihibconbejlaaDoor
open Go.RowKit
set_option linter.unusedVariables false

theorem impl_name (s : ByteArray) (w : World) (hs : s.size ≤ 16777216) :
    Calls Tryd.prog 97 #[.string s] w fun e w' => e = .returned (.bool (nameB s.data.toList)) ∧ Below w.heap.size w w' := by
  have h := impl_name_ s w hs
  have e := name_eq s.data.toList
  have hl : s.data.toList.length = s.size := by simp
  rw [hl] at e
  rw [e] at h
  exact h
end Go.Proofs.YtpihibconbejlaaDoor
namespace Go.Proofs.YtpihibconbejlaaDoor
open Go.RowKit
set_option linter.unusedVariables false

set_option maxHeartbeats 400000 in
theorem digit_any (c : UInt8) (w : World) : Calls Tryd.prog 121 #[.int .u8 (c.toNat : Int)] w fun e w' => e = .returned (.bool (dgt c)) ∧ w' = w := by
  by_cases h1 : (48 : Int) ≤ (c.toNat : Int) <;> by_cases h2 : (c.toNat : Int) ≤ 57
  all_goals
    go_enter Tryd.func121, Tryd.ntmps121
    go_wp2
    go_ret
    refine ⟨ret_bool ?_, rfl⟩
    unfold dgt
    first
      | exact (decide_eq_true (by omega)).symm
      | exact (decide_eq_false (by omega)).symm
theorem digit_is {c : UInt8} {o : Bool} (h : dgt c = o) (w : World) : Calls Tryd.prog 121 #[.int .u8 (c.toNat : Int)] w fun e w' => e = .returned (.bool o) ∧ w' = w := h ▸ digit_any c w

theorem next_drop {L : List UInt8} {k : Nat} {c : UInt8} (h : nextIs L k c = true) : L.drop k = c :: L.drop (k + 1) := by
  have hk := nextIs_lt h
  rw [List.drop_eq_getElem_cons hk]
  unfold nextIs at h
  rw [List.getElem?_eq_getElem hk] at h
  have : L[k] = c := by simpa using h
  rw [this]
theorem next_ne {L : List UInt8} {k : Nat} {c : UInt8} (h : nextIs L k c = false) (t : List UInt8) : L.drop k ≠ c :: t := by
  intro e
  have h1 := (next_cons (c := c) e).1
  rw [h] at h1
  simp at h1
theorem numF_star {L : List UInt8} {k : Nat} (h : nextIs L k 42 = true) : numF (L.drop k) = (0, true, L.drop (k + 1)) := by rw [next_drop h]; rfl
theorem numF_zero {L : List UInt8} {k : Nat} (h : nextIs L k 48 = true) : numF (L.drop k) = (0, false, L.drop (k + 1)) := by rw [next_drop h]; rfl
theorem numF_dig {L : List UInt8} {k : Nat} (h : nextIs L k 42 = false) (h2 : nextIs L k 48 = false) :
    numF (L.drop k) = if (digF 0 (L.drop k)).1 = 0 ∨ 99 < (digF 0 (L.drop k)).1 then (0, false, (digF 0 (L.drop k)).2) else ((digF 0 (L.drop k)).1, true, (digF 0 (L.drop k)).2) := by
  have n1 := next_ne h
  have n2 := next_ne h2
  cases hd : L.drop k with
  | nil => rfl
  | cons c t =>
    rw [hd] at n1 n2
    rw [numF_cons, if_neg (fun e => n1 t (by rw [e])), if_neg (fun e => n2 t (by rw [e]))]

/-- What 'number' leaves. -/
def Numbered (w : World) (b : Nat) (s : ByteArray) (x : Nat × Bool × List UInt8) (e : Ending) (w' : World) : Prop :=
  ∃ k' : Nat, k' ≤ s.size ∧ e = .returned (.tuple #[.int .i64 (x.1 : Int), .bool x.2.1]) ∧ s.data.toList.drop k' = x.2.2 ∧ Cur w' b s k' ∧ w.grownBy w' (some b)
theorem numbered_mk {w w' : World} {b k' n : Nat} {s : ByteArray} {x : Nat × Bool × List UInt8} {o : Bool} {z : Int} (hx : x = (n, o, s.data.toList.drop k')) (hz : z = (n : Int)) (hk : k' ≤ s.size) (hc : Cur w' b s k') (hg : w.grownBy w' (some b)) :
    Numbered w b s x (.returned (.tuple #[.int .i64 z, .bool o])) w' := by
  subst hx hz
  exact ⟨k', hk, rfl, rfl, hc, hg⟩
theorem dig_end {L : List UInt8} {k j n : Nat} (h : nextIs L k 42 = false) (h2 : nextIs L k 48 = false) (hd : digF 0 (L.drop k) = digF n (L.drop j)) (he : digF n (L.drop j) = (n, L.drop j)) :
    numF (L.drop k) = if n = 0 ∨ 99 < n then (0, false, L.drop j) else (n, true, L.drop j) := by
  rw [numF_dig h h2, hd, he]

set_option maxHeartbeats 2000000 in
theorem number_any (b k : Nat) (s : ByteArray) (w : World) (h : Cur w b s k) (hs : s.size ≤ 16777216) (hk : k ≤ s.size) :
    Calls Tryd.prog 110 #[.pointer (some ⟨b, 0, none⟩)] w (Numbered w b s (numF (s.data.toList.drop k))) := by
  have hl : s.data.toList.length = s.size := by simp
  have H := Lib.hid h
  have HL := Lib.hid hl
  clear h hl
  by_cases h42 : nextIs s.data.toList k 42 = true
  · have HN := Lib.hid h42
    have hkl : k + 1 ≤ s.size := by have := nextIs_lt h42; have := HL.out; omega
    clear h42
    go_enter Tryd.func110, Tryd.ntmps110
    go_wp2_with fail
    refine (take_at_yes 42 42 rfl b k s _ H.out hs hk HN.out).mono ?_
    rintro e w1 ⟨rfl, hc, hg⟩
    have HC := Lib.hid (And.intro hc hg)
    clear hc hg
    go_wp2
    go_ret2
    exact numbered_mk (numF_star HN.out) rfl hkl HC.out.1 HC.out.2
  · have HN := Lib.hid (Bool.eq_false_iff.2 h42)
    clear h42
    by_cases h48 : nextIs s.data.toList k 48 = true
    · have HM := Lib.hid h48
      have hkl : k + 1 ≤ s.size := by have := nextIs_lt h48; have := HL.out; omega
      clear h48
      go_enter Tryd.func110, Tryd.ntmps110
      go_wp2_with fail
      refine (take_at_no 42 42 rfl b k s _ H.out hs hk HN.out).mono ?_
      rintro e w1 ⟨rfl, hc, hg⟩
      have HC := Lib.hid (And.intro hc hg)
      clear hc hg
      go_wp2_with fail
      refine (take_at_yes 48 48 rfl b k s _ HC.out.1 hs hk HM.out).mono ?_
      rintro e w2 ⟨rfl, hc, hg⟩
      have HC2 := Lib.hid (And.intro hc (gr_trans HC.out.2 hg))
      clear hc hg
      go_wp2
      go_ret2
      exact numbered_mk (numF_zero HM.out) rfl hkl HC2.out.1 HC2.out.2
    · have HM := Lib.hid (Bool.eq_false_iff.2 h48)
      clear h48
      go_enter Tryd.func110, Tryd.ntmps110
      go_wp2_with fail
      refine (take_at_no 42 42 rfl b k s _ H.out hs hk HN.out).mono ?_
      rintro e w1 ⟨rfl, hc, hg⟩
      have HC := Lib.hid (And.intro hc hg)
      clear hc hg
      go_wp2_with fail
      refine (take_at_no 48 48 rfl b k s _ HC.out.1 hs hk HM.out).mono ?_
      rintro e w2 ⟨rfl, hc, hg⟩
      have HC2 := Lib.hid (And.intro hc (gr_trans HC.out.2 hg))
      clear hc hg
      go_wp2
      go_loopg [4] (s.size - k) (fun g v wr => ∃ (j n : Nat), k ≤ j ∧ j ≤ s.size ∧ n ≤ 999 ∧ g = s.size - j ∧ v = .int .i64 (n : Int) ∧ digF 0 (s.data.toList.drop k) = digF n (s.data.toList.drop j) ∧ Cur wr b s j ∧ w.grownBy wr (some b))
      case atStart => exact ⟨k, 0, Nat.le_refl _, hk, by omega, rfl, by go_num, rfl, HC2.out.1, HC2.out.2⟩
      case round =>
        obtain ⟨j, n, hkj, hjs, hn, hg, rfl, hd, hcur, hgr⟩ := hrel
        have HD := Lib.hid hd
        have HG := Lib.hid hg
        clear hd hg
        have HCC := Lib.hid hcur
        have HGR := Lib.hid hgr
        have hte := hcur.text
        have hpl := hcur.place
        have hfr := hcur.free 1
        have h0 : (0 : Int) ≤ (j : Int) := by omega
        clear hcur hgr
        by_cases h99 : n ≤ 99
        · have h99' : (n : Int) ≤ 99 := by omega
          by_cases hj : j < s.size
          · have h1 : (j : Int) < (s.size : Int) := by omega
            have hdj : s.data.toList.drop j = s[j] :: s.data.toList.drop (j + 1) := by
              rw [List.drop_eq_getElem_cons (by rw [HL.out]; exact hj)]
              rfl
            have HDJ := Lib.hid hdj
            clear hdj
            cases hdg : dgt s[j]
            · have HS := Lib.hid hdg
              have HE := Lib.hid (dig_end HN.out HM.out HD.out (by rw [HDJ.out]; exact digF_stop _ (.inr hdg)))
              clear hdg
              by_cases hz : n = 0
              · have hz' : ((n : Int) == 0) = true := by rw [hz]; rfl
                have HZ := Lib.hid hz
                clear hz
                go_wp2
                go_quiet ((first
                  | (go_at_call 100; exact Calls.quiet_of (done_no b j s _ (HCC.out.drewN _) hj))
                  | (go_at_call 121; exact Calls.quiet_of_same (digit_is HS.out _))))
                go_wp2
                go_ret2
                exact numbered_mk (by rw [HE.out, if_pos (.inl HZ.out)]) rfl hjs (HCC.out.drewN _) (gr_drewN HGR.out _)
              · have hz' : ((n : Int) == 0) = false := beq_eq_false_iff_ne.2 (by omega)
                have HZ := Lib.hid hz
                clear hz
                go_wp2
                go_quiet ((first
                  | (go_at_call 100; exact Calls.quiet_of (done_no b j s _ (HCC.out.drewN _) hj))
                  | (go_at_call 121; exact Calls.quiet_of_same (digit_is HS.out _))))
                go_wp2
                go_ret2
                exact numbered_mk (by rw [HE.out, if_neg (by have := HZ.out; omega)]) rfl hjs (HCC.out.drewN _) (gr_drewN HGR.out _)
            · have HS := Lib.hid hdg
              have hc := of_decide_eq_true hdg
              obtain ⟨d, hdd⟩ : ∃ d, s[j].toNat - 48 = d := ⟨_, rfl⟩
              have hd9 : d ≤ 9 := by omega
              have E1 : (s[j].toNat : Int) - 48 = (d : Int) := by omega
              have W1 : IntKind.i64.wrap (10 * (n : Int)) = 10 * (n : Int) := IntWalk.i64_in _ (by omega)
              have W2 : IntKind.u8.wrap (d : Int) = (d : Int) := by rw [IntKind.wrap_u8]; omega
              have W3 : IntKind.i64.wrap (d : Int) = (d : Int) := IntWalk.i64_in _ (by omega)
              have W4 : IntKind.i64.wrap (10 * (n : Int) + (d : Int)) = 10 * (n : Int) + (d : Int) := IntWalk.i64_in _ (by omega)
              have HDD := Lib.hid hdd
              have HE := Lib.hid (show digF 0 (s.data.toList.drop k) = digF (10 * n + d) (s.data.toList.drop (j + 1)) by rw [HD.out, HDJ.out, digF_go _ h99 hdg, hdd])
              clear hdg hc hdd
              go_wp2
              go_quiet ((first
                | (go_at_call 100; exact Calls.quiet_of (done_no b j s _ (HCC.out.drewN _) hj))
                | (go_at_call 121; exact Calls.quiet_of_same (digit_is HS.out _))))
              go_wp2
              go_quiet (fail)
              go_wp2
              go_roundg (s.size - (j + 1))
              case measure => have := HG.out; omega
              case rel => exact ⟨j + 1, 10 * n + d, by omega, by omega, by omega, rfl, by go_num, HE.out, (HCC.out.drewN _).go, gr_store (gr_drewN HGR.out _) (.inl rfl) _⟩
          · have hj' : j = s.size := by omega
            have HJ := Lib.hid hj'
            have HE := Lib.hid (dig_end HN.out HM.out HD.out (by rw [List.drop_eq_nil_of_le (by rw [HL.out]; omega)]; exact digF_nil n))
            clear hj'
            by_cases hz : n = 0
            · have hz' : ((n : Int) == 0) = true := by rw [hz]; rfl
              have HZ := Lib.hid hz
              clear hz
              go_wp2
              go_quiet ((go_at_call 100; exact Calls.quiet_of (done_yes b j s _ (HCC.out.drewN _) HJ.out)))
              go_wp2
              go_ret2
              exact numbered_mk (by rw [HE.out, if_pos (.inl HZ.out)]) rfl hjs (HCC.out.drewN _) (gr_drewN HGR.out _)
            · have hz' : ((n : Int) == 0) = false := beq_eq_false_iff_ne.2 (by omega)
              have HZ := Lib.hid hz
              clear hz
              go_wp2
              go_quiet ((go_at_call 100; exact Calls.quiet_of (done_yes b j s _ (HCC.out.drewN _) HJ.out)))
              go_wp2
              go_ret2
              exact numbered_mk (by rw [HE.out, if_neg (by have := HZ.out; omega)]) rfl hjs (HCC.out.drewN _) (gr_drewN HGR.out _)
        · have hd99 : decide ((n : Int) ≤ 99) = false := decide_eq_false (by omega)
          have h99'' : (99 : Int) < (n : Int) := by omega
          have hz' : ((n : Int) == 0) = false := beq_eq_false_iff_ne.2 (by omega)
          have HE := Lib.hid (dig_end HN.out HM.out HD.out (digF_big _ (by omega)))
          have HB := Lib.hid h99
          clear h99
          go_wp2
          go_quiet (fail)
          go_wp2
          go_ret2
          exact numbered_mk (by rw [HE.out, if_pos (.inr (by have := HB.out; omega))]) rfl hjs (HCC.out.drewN _) (gr_drewN HGR.out _)

/-- What 'span' leaves. -/
def Spanned (w : World) (b : Nat) (s : ByteArray) (x : (Nat × Nat) × Bool × List UInt8) (e : Ending) (w' : World) : Prop :=
  ∃ k' : Nat, k' ≤ s.size ∧ e = .returned (.tuple #[.agg #[.int .i64 (x.1.1 : Int), .int .i64 (x.1.2 : Int)], .bool x.2.1]) ∧ s.data.toList.drop k' = x.2.2 ∧ Cur w' b s k' ∧ w.grownBy w' (some b)
theorem spanned_mk {w w' : World} {b k' m n : Nat} {s : ByteArray} {x : (Nat × Nat) × Bool × List UInt8} {o : Bool} (hx : x = ((m, n), o, s.data.toList.drop k')) (hk : k' ≤ s.size) (hc : Cur w' b s k') (hg : w.grownBy w' (some b)) :
    Spanned w b s x (.returned (.tuple #[.agg #[.int .i64 (m : Int), .int .i64 (n : Int)], .bool o])) w' := by
  subst hx
  exact ⟨k', hk, rfl, rfl, hc, hg⟩
set_option maxHeartbeats 2000000 in
theorem span_any (b k : Nat) (s : ByteArray) (w : World) (h : Cur w b s k) (hs : s.size ≤ 16777216) (hk : k ≤ s.size) :
    Calls Tryd.prog 101 #[.pointer (some ⟨b, 0, none⟩)] w (Spanned w b s (spanF (s.data.toList.drop k))) := by
  have hbl := Whole.lt h
  have hne : some w.heap.size ≠ some b := by simp; omega
  have H := Lib.hid h
  clear h
  obtain ⟨⟨m, o, r⟩, hm⟩ : ∃ x, numF (s.data.toList.drop k) = x := ⟨_, rfl⟩
  have HM := Lib.hid hm
  clear hm
  go_enter Tryd.func101, Tryd.ntmps101
  go_wp2_with fail
  refine (number_any b k s _ (Whole.alloc H.out _) hs hk).mono ?_
  rw [HM.out]
  rintro e w1 ⟨k1, hk1, rfl, hr, hc, hg⟩
  have HW := Lib.hid ((Whole.made w 108 #[.int .i64 0, .int .i64 0]).grown hg hne)
  have HC := Lib.hid hc
  have HG := Lib.hid (gr_trans (gr_alloc (gr_refl w (some b)) _) hg)
  have HR := Lib.hid hr
  clear hc hg hr
  cases o with
  | false =>
    have hr0 := HW.out.cell 0
    have hr1 := HW.out.cell 1
    have hf0 := HW.out.free 0
    have hf1 := HW.out.free 1
    simp at hr0 hr1
    go_wp2
    refine bodyPost_ret (v := .tuple #[.agg #[.int .i64 (m : Int), .int .i64 (m : Int)], .bool false]) (by simp [results, Tryd.results101, go_sem, hr0, hr1]) rfl ?_
    exact spanned_mk (by rw [spanF_no HM.out, HR.out]) hk1 ((HC.out.apart (by simp; omega) _).apart (by simp; omega) _) (gr_store (gr_store HG.out (.inr (Nat.le_refl _)) _) (.inr (Nat.le_refl _)) _)
  | true =>
    by_cases hx : nextIs s.data.toList k1 58 = true
    · have HX := Lib.hid hx
      have hkl : k1 + 1 ≤ s.size := by have := nextIs_lt hx; have hl : s.data.toList.length = s.size := (by simp); omega
      clear hx
      go_wp2_with fail
      refine (take_at_yes 58 58 rfl b k1 s _ HC.out hs hk1 HX.out).mono ?_
      rintro e w2 ⟨rfl, hc, hg⟩
      have HW2 := Lib.hid (HW.out.grown hg hne)
      have HC2 := Lib.hid hc
      have HG2 := Lib.hid (gr_trans HG.out hg)
      clear hc hg
      obtain ⟨⟨n, o2, r2⟩, hn⟩ : ∃ x, numF (s.data.toList.drop (k1 + 1)) = x := ⟨_, rfl⟩
      have HN := Lib.hid hn
      clear hn
      go_wp2_with fail
      refine (number_any b (k1 + 1) s _ HC2.out hs hkl).mono ?_
      rw [HN.out]
      rintro e w3 ⟨k3, hk3, rfl, hr, hc, hg⟩
      have HW3 := HW2.out.grown hg hne
      have HC3 := Lib.hid hc
      have HG3 := Lib.hid (gr_trans HG2.out hg)
      have HR3 := Lib.hid hr
      clear hc hg hr
      have hr0 := HW3.cell 0
      have hr1 := HW3.cell 1
      have hf0 := HW3.free 0
      have hf1 := HW3.free 1
      simp at hr0 hr1
      clear HW3
      go_wp2
      refine bodyPost_ret (v := .tuple #[.agg #[.int .i64 (m : Int), .int .i64 (n : Int)], .bool o2]) (by simp [results, Tryd.results101, go_sem, hr0, hr1]) rfl ?_
      refine spanned_mk ?_ hk3 ((HC3.out.apart (by simp; omega) _).apart (by simp; omega) _) (gr_store (gr_store HG3.out (.inr (Nat.le_refl _)) _) (.inr (Nat.le_refl _)) _)
      have e1 : numF (s.data.toList.drop k) = (m, true, 58 :: s.data.toList.drop (k1 + 1)) := by rw [HM.out, ← next_drop HX.out, HR.out]
      rw [spanF_colon e1, HN.out, HR3.out]
    · have HX := Lib.hid (Bool.eq_false_iff.2 hx)
      clear hx
      go_wp2_with fail
      refine (take_at_no 58 58 rfl b k1 s _ HC.out hs hk1 HX.out).mono ?_
      rintro e w2 ⟨rfl, hc, hg⟩
      have HW2 := HW.out.grown hg hne
      have HC2 := Lib.hid hc
      have HG2 := Lib.hid (gr_trans HG.out hg)
      clear hc hg
      have hr0 := HW2.cell 0
      have hr1 := HW2.cell 1
      have hf0 := HW2.free 0
      have hf1 := HW2.free 1
      simp at hr0 hr1
      clear HW2
      go_wp2
      refine bodyPost_ret (v := .tuple #[.agg #[.int .i64 (m : Int), .int .i64 (m : Int)], .bool true]) (by simp [results, Tryd.results101, go_sem, hr0, hr1]) rfl ?_
      refine spanned_mk ?_ hk1 ((HC2.out.apart (by simp; omega) _).apart (by simp; omega) _) (gr_store (gr_store HG2.out (.inr (Nat.le_refl _)) _) (.inr (Nat.le_refl _)) _)
      rw [spanF_one HM.out (fun t e => next_ne HX.out t (by rw [HR.out]; exact e)), HR.out]
end Go.Proofs.YtpihibconbejlaaDoor
namespace Go.Proofs.YtpihibconbejlaaDoor
open Go.RowKit
set_option linter.unusedVariables false

theorem Tryd.infoSpan : (Tryd.prog.info? 108).map (fun i => (i.zero, i.size, i.bytes)) = some (some (.agg #[.int .i64 0, .int .i64 0]), 2, 16) := by kernel_rfl
/-- Numbers as the code has them. -/
def up (l : List (Nat × Nat)) : List (Int × Int) := l.map fun s => ((s.1 : Int), (s.2 : Int))
theorem up_len (l : List (Nat × Nat)) : (up l).length = l.length := by unfold up; rw [List.length_map]
theorem up_snoc (l : List (Nat × Nat)) (s : Nat × Nat) : up (l ++ [s]) = up l ++ [((s.1 : Int), (s.2 : Int))] := by unfold up; rw [List.map_append]; rfl
theorem up_inj {l m : List (Nat × Nat)} (h : up l = up m) : l = m := by
  unfold up at h
  refine List.map_inj_right (fun x y e => ?_) |>.1 h
  obtain ⟨a, b⟩ := x
  obtain ⟨c, d⟩ := y
  simp only [Prod.mk.injEq] at e ⊢
  omega
theorem up_set {l : List (Nat × Nat)} (h : ∀ s ∈ l, s.1 ≤ 99 ∧ s.2 ≤ 99) (h0 : l ≠ []) : setB (up l) = decide (l.length ≤ 6) := by
  have hp : 1 ≤ l.length := List.length_pos_iff.2 h0
  have ha : ∀ x ∈ up l, spanB x = true := by
    intro x hx
    unfold up at hx
    obtain ⟨s, hs, rfl⟩ := List.mem_map.1 hx
    have := h s hs
    exact spanB_iff.2 ⟨⟨by simp only; omega, by simp only; omega⟩, by simp only; omega, by simp only; omega⟩
  by_cases h6 : l.length ≤ 6
  · rw [decide_eq_true h6]
    exact setB_iff.2 ⟨ha, by rw [up_len]; exact hp, by rw [up_len]; exact h6⟩
  · rw [decide_eq_false h6]
    exact setB_long (by rw [up_len]; omega)
theorem two_new (w : World) (x y : Value) (t : TypeId) : ∀ j u, [x, y][j]? = some u → (w.alloc (.cells #[x, y] t)).cell? ((⟨w.heap.size, 0, none⟩ : Addr).add j) = some u := by
  intro j u hj
  match j, hj with
  | 0, hj => simp at hj; subst hj; simp [Addr.add]
  | 1, hj => simp at hj; subst hj; simp [Addr.add]
theorem Own.push {w : World} {B : Nat} {v : Value} {L : List (Int × Int)} {x y : Int} {n : Nat} (h : w.ownsRow B 108 2 v n (spn L ++ [.int .i64 x, .int .i64 y])) (hn : n = L.length + 1) : Own w B v (L ++ [(x, y)]) := by
  unfold Own
  rw [spn_app, spn_one, List.length_append, List.length_singleton, ← hn]
  exact h
theorem Own.grown {w w' : World} {B b : Nat} {v : Value} {L : List (Int × Int)} (h : Own w B v L) (hg : w.grownBy w' (some b)) (hb : b < B) : Own w' B v L :=
  World.ownsRow.kept h hg (by
    rcases h.2 with ⟨rfl, _⟩ | ⟨g, cap, cur, rfl, hB, _⟩
    · exact Or.inl rfl
    · exact Or.inr (by simp [Value.ownBlock]; omega))
theorem Own.alloc {w : World} {B : Nat} {v : Value} {L : List (Int × Int)} (h : Own w B v L) (o : Obj) : Own (w.alloc o) B v L := World.ownsRow.alloc h o
theorem Own.nil (w : World) (B : Nat) : Own w B (.slice none 0 0) [] := World.ownsRow_nil w B _ 2
theorem Own.lit (w : World) {B : Nat} (hB : B ≤ w.heap.size) : Own (w.alloc (.cells #[] 108)) B (.slice (some ⟨w.heap.size, 0, none⟩) 0 0) [] := World.ownsRow_lit w #[] 0 hB (by unfold maxLen; omega) rfl
theorem Own.row {w : World} {B : Nat} {v : Value} {L : List (Int × Int)} {n : Nat} (h : Own w B v L) (hn : n = L.length) : w.ownsRow B 108 2 v n (spn L) := by subst hn; exact h

/-- What a parser of sets leaves. -/
def ParsedS (w : World) (o : Option (List (Nat × Nat))) (e : Ending) (w' : World) : Prop :=
  ∃ v : Value, e = .returned (.tuple #[v, .bool o.isSome]) ∧ Own w' w.heap.size v (up (o.getD [])) ∧ Below w.heap.size w w'
theorem parsedS_no {w w' : World} {o : Option (List (Nat × Nat))} {v : Value} (h : o = none) (hv : Own w' w.heap.size v []) (hb : Below w.heap.size w w') : ParsedS w o (.returned (.tuple #[v, .bool false])) w' := by
  subst h
  exact ⟨v, rfl, hv, hb⟩
theorem parsedS_yes {w w' : World} {o : Option (List (Nat × Nat))} {P : List (Nat × Nat)} {v : Value} (h : o = some P) (hv : Own w' w.heap.size v (up P)) (hb : Below w.heap.size w w') : ParsedS w o (.returned (.tuple #[v, .bool true])) w' := by
  subst h
  exact ⟨v, rfl, hv, hb⟩
theorem setF_no {n : Nat} {S : List UInt8} {s : Nat × Nat} {r : List UInt8} (h : spanF S = (s, false, r)) : setF n S = none := by
  cases n with
  | zero => rfl
  | succ n => unfold setF; rw [h]
theorem setF_comma {n : Nat} {S t : List UInt8} {s : Nat × Nat} (h : spanF S = (s, true, 44 :: t)) : setF (n + 1) S = (setF n t).map (s :: ·) := by
  conv => lhs; unfold setF
  rw [h]
  simp
theorem setF_last {n : Nat} {S r : List UInt8} {s : Nat × Nat} (h : spanF S = (s, true, r)) (hr : ∀ t, r ≠ 44 :: t) : setF (n + 1) S = if r = [] then some [s] else none := by
  conv => lhs; unfold setF
  rw [h]
  cases r with
  | nil => rfl
  | cons c t =>
    have hc : c ≠ 44 := fun e => hr t (by rw [e])
    simp [hc]
theorem drop_end {L : List UInt8} {k n : Nat} (hl : L.length = n) (hk : k ≤ n) : L.drop k = [] ↔ k = n := by
  rw [List.drop_eq_nil_iff]; omega

/-- What is still to be read. -/
def Rest (L : List UInt8) (P : List (Nat × Nat)) (k : Nat) : Bool → Prop
  | true => setF 6 L = (setF (6 - P.length) (L.drop k)).map (P ++ ·)
  | false => setF 6 L = if L.drop k = [] then some P else none
theorem rest_begin (L : List UInt8) : Rest L [] 0 true := by
  show setF 6 L = _
  simp
theorem rest_bad {L : List UInt8} {P : List (Nat × Nat)} {k : Nat} (h : Rest L P k true) (hn : setF (6 - P.length) (L.drop k) = none) : setF 6 L = none := by
  have : setF 6 L = _ := h
  rw [this, hn]; rfl
theorem rest_comma {L t : List UInt8} {P : List (Nat × Nat)} {s : Nat × Nat} {k k' : Nat} (h : Rest L P k true) (h6 : P.length < 6) (hs : spanF (L.drop k) = (s, true, 44 :: t)) (ht : L.drop k' = t) : Rest L (P ++ [s]) k' true := by
  have h1 : setF 6 L = _ := h
  show setF 6 L = _
  obtain ⟨n, hn⟩ : ∃ n, 6 - P.length = n + 1 := ⟨5 - P.length, by omega⟩
  rw [h1, hn, setF_comma hs, ht, List.length_append, List.length_singleton, show 6 - (P.length + 1) = n by omega, Option.map_map]
  congr 1
  funext l
  simp
theorem rest_last {L r : List UInt8} {P : List (Nat × Nat)} {s : Nat × Nat} {k k' : Nat} (h : Rest L P k true) (h6 : P.length < 6) (hs : spanF (L.drop k) = (s, true, r)) (hr : ∀ t, r ≠ 44 :: t) (ht : L.drop k' = r) : Rest L (P ++ [s]) k' false := by
  have h1 : setF 6 L = _ := h
  show setF 6 L = _
  obtain ⟨n, hn⟩ : ∃ n, 6 - P.length = n + 1 := ⟨5 - P.length, by omega⟩
  rw [h1, hn, setF_last hs hr, ht]
  by_cases e : r = []
  · rw [if_pos e, if_pos e]; rfl
  · rw [if_neg e, if_neg e]; rfl

set_option maxHeartbeats 2000000 in
theorem impl_setparse (s : ByteArray) (w : World) (hs : s.size ≤ 16777216) :
    Calls Tryd.prog 77 #[.string s] w (ParsedS w (setO s.data.toList)) := by
  have hl : s.data.toList.length = s.size := by simp
  have HL := Lib.hid hl
  clear hl
  obtain ⟨L, hL⟩ : ∃ L, s.data.toList = L := ⟨_, rfl⟩
  have HLL := Lib.hid hL
  rw [hL] at HL ⊢
  clear hL
  rw [← setF6]
  obtain ⟨i0, hi, hq0, hq1, hq2⟩ := info_parts Tryd.infoSpan
  have hsz : (w.alloc (.cells #[.string s, .int .i64 0] 70)).heap.size = w.heap.size + 1 := by simp
  go_enter Tryd.func77, Tryd.ntmps77
  go_wp2
  go_loopg [5, 6] 7 (fun g v m wr => ∃ (k : Nat) (P : List (Nat × Nat)) (o : Bool), k ≤ s.size ∧ P.length ≤ 6 ∧ g = (if o then 7 - P.length else 0) ∧ m = .bool o ∧ w.heap.size < wr.heap.size ∧ Hid (Own wr (w.heap.size + 1) v (up P)) ∧ Hid (Cur wr w.heap.size s k) ∧ Hid (Below w.heap.size w wr) ∧ Hid (Rest L P k o))
  case atStart => exact ⟨0, [], true, Nat.zero_le _, by simp, rfl, rfl, by simp, Own.nil _ _, cur_new w s, (Below.refl _ _).alloc (Nat.le_refl _) _, rest_begin L⟩
  case round =>
    obtain ⟨k, P, o, hk, hP, hg, rfl, hwz, HO, HC, HB, HR⟩ := hrel
    have HG := Lib.hid hg
    clear hg
    obtain ⟨A, cap, rfl, hcl, hcm, hsp⟩ := HO.out.form
    clear hsp hcl hcm
    rw [up_len] at HO ⊢
    cases o with
    | false =>
      by_cases hz : k = s.size
      · have HZ := Lib.hid hz
        clear hz
        go_wp2_with fail
        refine (done_yes w.heap.size k s _ HC.out HZ.out).mono ?_
        rintro e w2 ⟨rfl, n, rfl⟩
        go_wp2
        go_ret2
        have hv := HO.out.from (B' := w.heap.size) (by omega)
        exact parsedS_yes (by have h := HR.out; unfold Rest at h; rw [h, if_pos ((drop_end HL.out hk).2 HZ.out)]) (by exact hv) (below_drewN' HB.out _)
      · have HZ := Lib.hid hz
        clear hz
        go_wp2_with fail
        refine (done_no w.heap.size k s _ HC.out (by have := HZ.out; omega)).mono ?_
        rintro e w2 ⟨rfl, n, rfl⟩
        go_wp2
        go_ret2
        exact parsedS_no (by have h := HR.out; unfold Rest at h; rw [h, if_neg (fun e => HZ.out ((drop_end HL.out hk).1 e))]) (Own.nil _ _) (below_drewN' HB.out _)
    | true =>
      obtain ⟨⟨⟨m, n⟩, o, r⟩, hsp⟩ : ∃ x, spanF (L.drop k) = x := ⟨_, rfl⟩
      have HSP := Lib.hid hsp
      clear hsp
      go_wp2_with fail
      refine (span_any w.heap.size k s _ HC.out hs hk).mono ?_
      rw [HLL.out, HSP.out]
      rintro e w1 ⟨k1, hk1, rfl, hr, hc, hg⟩
      have HC1 := Lib.hid hc
      have HB1 := Lib.hid (below_gr HB.out hg (by omega) (Nat.le_refl _))
      have HO1 := Lib.hid (HO.out.grown hg (Nat.lt_succ_self _))
      have HR1 := Lib.hid hr
      have hz1 : w.heap.size < w1.heap.size := Whole.lt hc
      clear hc hg hr
      cases o with
      | false =>
        go_wp2
        go_ret2
        exact parsedS_no (rest_bad HR.out (setF_no HSP.out)) (Own.nil _ _) (HB1.out.alloc (by omega) _)
      | true =>
        by_cases h6 : P.length = 6
        · have h6' : ((P.length : Int) == 6) = true := by rw [h6]; rfl
          have H6 := Lib.hid h6
          clear h6
          go_wp2
          go_ret2
          exact parsedS_no (rest_bad HR.out (by rw [H6.out]; rfl)) (Own.nil _ _) (HB1.out.alloc (by omega) _)
        · have h6' : ((P.length : Int) == 6) = false := beq_eq_false_iff_ne.2 (by omega)
          have H6 := Lib.hid h6
          clear h6
          have hown := (HO1.out.alloc (.cells #[.int .i64 (m : Int), .int .i64 (n : Int)] 108)).alloc (.cells #[.int .i64 (m : Int), .int .i64 (n : Int)] 108)
          go_wp2_with (at_builtin; refine wpList_append_own _ rfl _ _ 23 rfl (w.heap.size + 1) 108 i0 (.agg #[.int .i64 0, .int .i64 0]) 2 16 Tryd.underlying23 hi hq0 hq1 hq2 rfl (by decide) _ _ _ rfl (hown.row (up_len P).symm) ⟨w1.heap.size + 1, 0, none⟩ 1 1 [.int .i64 (m : Int), .int .i64 (n : Int)] rfl rfl ?c1 ?c2 ?c3 ?c4 ?c5 ?_)
          case c1 =>
            have := two_new (w1.alloc (.cells #[.int .i64 (m : Int), .int .i64 (n : Int)] 108)) (.int .i64 (m : Int)) (.int .i64 (n : Int)) 108
            simpa using this
          case c2 => intro u hu; simp at hu; rcases hu with rfl | rfl <;> rfl
          case c3 => unfold maxLen; omega
          case c4 => omega
          case c5 => simp; omega
          intro v' w2 hown2 hgrow _
          have hrow : ∀ q, Value.ownBlock (.slice A P.length cap) = some q → w.heap.size + 1 ≤ q := fun q hq => (World.ownsRow.lt hown q hq).1
          have HB2 := Lib.hid (((HB1.out.alloc (by omega) _).alloc (by simp; omega) _).grown hgrow (by simp; omega) (fun q hq => by have := hrow q hq; omega))
          have HC2 := Lib.hid (Whole.grown ((Whole.alloc HC1.out (.cells #[.int .i64 (m : Int), .int .i64 (n : Int)] 108)).alloc (.cells #[.int .i64 (m : Int), .int .i64 (n : Int)] 108)) hgrow (fun e => by have := hrow _ e.symm; omega))
          have HO2 := Lib.hid (Own.push hown2 (by rw [up_len]))
          have hz2 : w.heap.size < w2.heap.size := Whole.lt HC2.out
          clear hown2 hgrow hown hrow
          by_cases hx : nextIs s.data.toList k1 44 = true
          · have HX := Lib.hid hx
            clear hx
            have hkl : k1 + 1 ≤ s.size := by have := nextIs_lt HX.out; have := HL.out; rw [HLL.out] at *; omega
            go_wp2_with fail
            refine (take_at_yes 44 44 rfl w.heap.size k1 s _ HC2.out hs hk1 HX.out).mono ?_
            rintro e w3 ⟨rfl, hc, hg⟩
            have HC3 := Lib.hid hc
            have HB3 := Lib.hid (below_gr HB2.out hg (by omega) (Nat.le_refl _))
            have HO3 := Lib.hid (HO2.out.grown hg (Nat.lt_succ_self _))
            clear hc hg
            go_wp2
            go_roundg (7 - (P.length + 1))
            case measure => have := HG.out; simp at this; omega
            case rel =>
              have := H6.out
              refine ⟨k1 + 1, P ++ [(m, n)], true, hkl, by simp; omega, by simp, rfl, Whole.lt HC3.out, ?_, HC3.out, HB3.out, rest_comma HR.out (by omega) (t := L.drop (k1 + 1)) ?_ rfl⟩
              · rw [up_snoc]; exact HO3.out
              · rw [HSP.out]
                have h1 := HR1.out
                have h2 := next_drop HX.out
                rw [HLL.out] at h1 h2
                rw [← h1, h2]
          · have HX := Lib.hid (Bool.eq_false_iff.2 hx)
            clear hx
            go_wp2_with fail
            refine (take_at_no 44 44 rfl w.heap.size k1 s _ HC2.out hs hk1 HX.out).mono ?_
            rintro e w3 ⟨rfl, hc, hg⟩
            have HC3 := Lib.hid hc
            have HB3 := Lib.hid (below_gr HB2.out hg (by omega) (Nat.le_refl _))
            have HO3 := Lib.hid (HO2.out.grown hg (Nat.lt_succ_self _))
            clear hc hg
            go_wp2
            go_roundg 0
            case measure => have := HG.out; simp at this; omega
            case rel =>
              have := H6.out
              refine ⟨k1, P ++ [(m, n)], false, hk1, by simp; omega, rfl, rfl, Whole.lt HC3.out, ?_, HC3.out, HB3.out, rest_last HR.out (by omega) HSP.out ?_ ?_⟩
              · rw [up_snoc]; exact HO3.out
              · intro t e
                exact next_ne HX.out t (by rw [HR1.out]; exact e)
              · have h1 := HR1.out
                rw [HLL.out] at h1
                exact h1
end Go.Proofs.YtpihibconbejlaaDoor
namespace Go.Proofs.YtpihibconbejlaaDoor
open Go.RowKit
set_option linter.unusedVariables false

/-- The number of a word, or -1. -/
def numI (l : List UInt8) : Int := match numO l with
  | some n => (n : Int)
  | none => -1
theorem numI_some {l : List UInt8} {n : Nat} (h : numO l = some n) : numI l = (n : Int) := by unfold numI; rw [h]
theorem numI_none {l : List UInt8} (h : numO l = none) : numI l = -1 := by unfold numI; rw [h]
theorem numO_len {l : List UInt8} (h : ¬ (1 ≤ l.length ∧ l.length ≤ 2)) : numO l = none := by
  match l with
  | [] => rfl
  | [x] => simp at h
  | [x, y] => simp at h
  | x :: y :: z :: t => rfl
theorem numO_48 {l : List UInt8} {x : UInt8} (h : l[0]? = some x) (hx : x = 48) : numO l = none := by
  subst hx
  match l, h with
  | [x], h => simp at h; subst h; rfl
  | [x, y], h =>
    simp at h
    subst h
    have hn : ¬ ((49 ≤ (48 : UInt8).toNat ∧ (48 : UInt8).toNat ≤ 57) ∧ 48 ≤ y.toNat ∧ y.toNat ≤ 57) := by
      rintro ⟨⟨h1, _⟩, _⟩
      revert h1
      decide
    unfold numO
    exact if_neg hn
  | x :: y :: z :: t, h => rfl
theorem numO_bad {l : List UInt8} {k : Nat} {x : UInt8} (h : l[k]? = some x) (hx : dgt x = false) (h42 : l ≠ [42]) : numO l = none := by
  have hx' : ¬ (48 ≤ x.toNat ∧ x.toNat ≤ 57) := of_decide_eq_false hx
  match l, k, h with
  | [a], 0, h =>
    simp at h
    subst h
    show (if _ then _ else _) = _
    rw [if_neg (fun e => h42 (by rw [e])), if_neg (by omega)]
  | [a], k + 1, h => simp at h
  | [a, b], 0, h =>
    simp at h
    subst h
    show (if _ then _ else _) = _
    rw [if_neg (by omega)]
  | [a, b], 1, h =>
    simp at h
    subst h
    show (if _ then _ else _) = _
    rw [if_neg (by omega)]
  | [a, b], k + 2, h => simp at h
  | a :: b :: c :: t, k, h => rfl
/-- The value of digits. -/
def valD (l : List UInt8) : Nat := l.foldl (fun a c => 10 * a + (c.toNat - 48)) 0
theorem valD_snoc (l : List UInt8) (c : UInt8) : valD (l ++ [c]) = 10 * valD l + (c.toNat - 48) := by unfold valD; rw [List.foldl_append]; rfl
theorem numO_all {l : List UInt8} (h1 : 1 ≤ l.length) (h2 : l.length ≤ 2) (h0 : l[0]? ≠ some 48) (ha : l.all dgt = true) : numO l = some (valD l) := by
  match l with
  | [] => simp at h1
  | [x] =>
    simp at ha h0
    have hx := of_decide_eq_true ha
    have hn : x.toNat ≠ 48 := fun e => h0 (UInt8.toNat_inj.1 e)
    show (if _ then _ else _) = _
    rw [if_neg (ne42 (by omega)), if_pos (by omega)]
    simp [valD]
  | [x, y] =>
    simp at ha h0
    have hx := of_decide_eq_true ha.1
    have hy := of_decide_eq_true ha.2
    have hn : x.toNat ≠ 48 := fun e => h0 (UInt8.toNat_inj.1 e)
    show (if _ then _ else _) = _
    rw [if_pos (by omega)]
    simp [valD]
  | x :: y :: z :: t => simp at h2
theorem star_eq {v : ByteArray} : v.toList = [42] ↔ v.data.toList = [42] := by rw [ByteArray.toList_eq]

theorem part_len {p : List UInt8} (h : 2 < (cut 58 p).length) : partO p = none := by
  unfold partO
  match hc : cut 58 p, h with
  | [], h => simp at h
  | [a], h => simp at h
  | [a, b], h => simp at h
  | a :: b :: c :: t, h => rfl
theorem part_two {p : List UInt8} (h1 : 1 ≤ (cut 58 p).length) (h : (cut 58 p).length ≤ 2) :
    partO p = match numO ((cut 58 p).getD 0 []), numO ((cut 58 p).getD ((cut 58 p).length - 1) []) with
      | some m, some n => some (m, n)
      | _, _ => none := by
  unfold partO
  match hc : cut 58 p, h1, h with
  | [a], _, _ =>
    show (match numO a with
      | some m => some (m, m)
      | none => none) = match numO a, numO a with
      | some m, some n => some (m, n)
      | _, _ => none
    cases numO a <;> rfl
  | [a, b], _, _ => rfl
  | a :: b :: c :: t, _, h => simp at h
theorem part_nat {p : List UInt8} (h1 : 1 ≤ (cut 58 p).length) (h : (cut 58 p).length ≤ 2) (h2 : 0 ≤ numI ((cut 58 p).getD 0 [])) (h3 : 0 ≤ numI ((cut 58 p).getD ((cut 58 p).length - 1) [])) :
    ∃ m n : Nat, partO p = some (m, n) ∧ numI ((cut 58 p).getD 0 []) = (m : Int) ∧ numI ((cut 58 p).getD ((cut 58 p).length - 1) []) = (n : Int) := by
  have e := part_two h1 h
  cases hm : numO ((cut 58 p).getD 0 []) with
  | none => rw [numI_none hm] at h2; omega
  | some m =>
    cases hn : numO ((cut 58 p).getD ((cut 58 p).length - 1) []) with
    | none => rw [numI_none hn] at h3; omega
    | some n => exact ⟨m, n, by rw [e, hm, hn], numI_some hm, numI_some hn⟩
theorem part_neg {p : List UInt8} (h1 : 1 ≤ (cut 58 p).length) (h : (cut 58 p).length ≤ 2) (h2 : numI ((cut 58 p).getD 0 []) < 0 ∨ numI ((cut 58 p).getD ((cut 58 p).length - 1) []) < 0) : partO p = none := by
  have e := part_two h1 h
  cases hm : numO ((cut 58 p).getD 0 []) with
  | none => rw [e, hm]
  | some m =>
    cases hn : numO ((cut 58 p).getD ((cut 58 p).length - 1) []) with
    | none => rw [e, hm, hn]
    | some n =>
      rw [numI_some hm, numI_some hn] at h2
      omega
theorem set_of_none {L : List UInt8} (h : listO (cut 44 L) = none) : setO L = none := by unfold setO; rw [h]; rfl
theorem set_of_some {L : List UInt8} {P : List (Nat × Nat)} (h : listO (cut 44 L) = some P) : setO L = if P.length ≤ 6 then some P else none := by unfold setO; rw [h]; rfl

theorem Own.lit' (w : World) {B : Nat} (N : Nat) (hB : B ≤ w.heap.size) (hN : w.heap.size = N) : Own (w.alloc (.cells #[] 108)) B (.slice (some ⟨N, 0, none⟩) 0 0) [] := hN ▸ Own.lit w hB
theorem two_new' (w : World) (x y : Value) (t : TypeId) (N : Nat) (hN : w.heap.size = N) : ∀ j u, [x, y][j]? = some u → (w.alloc (.cells #[x, y] t)).cell? ((⟨N, 0, none⟩ : Addr).add j) = some u := hN ▸ two_new w x y t
theorem two_one (x y : Int) : ∀ u ∈ [Value.int .i64 x, Value.int .i64 y], u.oneCell' = true := by
  intro u hu
  simp at hu
  rcases hu with rfl | rfl <;> rfl
theorem below_drew' {B : Nat} {a w : World} (h : Below B a w) : Below B a w.drew := ⟨h.os, h.tape, h.output, h.size, h.block⟩
theorem cell_drew (w : World) (p : Addr) : w.drew.cell? p = w.cell? p := rfl
end Go.Proofs.YtpihibconbejlaaDoor
namespace Go.Proofs.YtpihibconbejlaaDoor
open Go.RowKit
set_option linter.unusedVariables false

/-- The cells of numbers. -/
def nms (l : List Nat) : List Value := l.map fun (k : Nat) => Value.int IntKind.i64 (k : Int)
theorem nms_len (l : List Nat) : (nms l).length = l.length := by unfold nms; rw [List.length_map]
/-- A slice of numbers of the call's own. -/
def OwnI (w : World) (B : Nat) (v : Value) (l : List Nat) : Prop := w.ownsRow B 3 1 v l.length (nms l)
/-- The numbers of a list can be read behind an address. -/
def IntA (w : World) (A : Option Addr) (l : List Nat) : Prop :=
  ∀ (i n : Nat), l[i]? = some n → ∃ b o, A = some ⟨b, o, none⟩ ∧ b < w.heap.size ∧ w.cell? ⟨b, o + i, none⟩ = some (.int .i64 (n : Int))
theorem IntA.kept {w w' : World} {A : Option Addr} {l : List Nat} (h : IntA w A l) (hz : w.heap.size ≤ w'.heap.size) (hk : ∀ p : Addr, p.block < w.heap.size → w'.cell? p = w.cell? p) : IntA w' A l := fun i x hx => by
  obtain ⟨b, o, hA, hb, h1⟩ := h i x hx
  exact ⟨b, o, hA, by omega, (hk _ hb).trans h1⟩
theorem IntA.below {w w' : World} {B : Nat} {A : Option Addr} {l : List Nat} (h : IntA w A l) (hb : Below B w w') (hB : w.heap.size ≤ B) : IntA w' A l :=
  h.kept hb.size fun p hp => hb.cell (by omega)
theorem OwnI.form {w : World} {B : Nat} {v : Value} {l : List Nat} (h : OwnI w B v l) : ∃ A cap, v = .slice A l.length cap ∧ l.length ≤ cap ∧ cap ≤ maxLen ∧ IntA w A l := by
  have hc : ∀ g, v.ownBlock = some g → ∀ j u, (nms l)[j]? = some u → w.cell? ((⟨g, 0, none⟩ : Addr).add j) = some u := fun g hg => World.ownsRow.cells h hg
  have h2 := World.ownsRow.lt h
  rcases h.2 with ⟨rfl, h0⟩ | ⟨g, cap, cur, rfl, hB, hg, hn, hm, hs, ht⟩
  · refine ⟨none, 0, by rw [h0], by omega, by unfold maxLen; omega, ?_⟩
    rw [List.eq_nil_of_length_eq_zero h0]
    exact fun i x hx => by simp at hx
  · refine ⟨_, cap, rfl, hn, hm, fun i x hx => ⟨g, 0, rfl, (h2 g rfl).2, ?_⟩⟩
    have := hc g rfl i (.int .i64 (x : Int)) (by unfold nms; rw [List.getElem?_map, hx]; rfl)
    rw [add_none] at this
    exact this
theorem OwnI.kept {w w' : World} {B : Nat} {v : Value} {l : List Nat} (h : OwnI w B v l) (hb : Below w.heap.size w w') : OwnI w' B v l := by
  unfold OwnI
  refine World.ownsRow.kept (row := none) h ⟨hb.os, hb.tape, hb.output, hb.size, fun k hk _ => hb.block k hk⟩ ?_
  cases hv : v.ownBlock <;> simp
theorem OwnI.from {w : World} {B B' : Nat} {v : Value} {l : List Nat} (h : OwnI w B v l) (hb : B' ≤ B) : OwnI w B' v l := by
  refine ⟨h.1, ?_⟩
  rcases h.2 with h2 | ⟨g, cap, cur, hv, hB, rest⟩
  · exact .inl h2
  · exact .inr ⟨g, cap, cur, hv, by omega, rest⟩
theorem OwnI.alloc {w : World} {B : Nat} {v : Value} {l : List Nat} (h : OwnI w B v l) (o : Obj) : OwnI (w.alloc o) B v l := World.ownsRow.alloc h o
theorem OwnI.nil (w : World) (B : Nat) : OwnI w B (.slice none 0 0) [] := World.ownsRow_nil w B _ 1
theorem OwnI.lit' (w : World) {B : Nat} (N : Nat) (hB : B ≤ w.heap.size) (hN : w.heap.size = N) : OwnI (w.alloc (.cells #[] 3)) B (.slice (some ⟨N, 0, none⟩) 0 0) [] := by
  subst hN
  exact World.ownsRow_lit w #[] 0 hB (by unfold maxLen; omega) rfl
theorem OwnI.row {w : World} {B : Nat} {v : Value} {l : List Nat} {n : Nat} (h : OwnI w B v l) (hn : n = l.length) : w.ownsRow B 3 1 v n (nms l) := by subst hn; exact h
theorem OwnI.push {w : World} {B : Nat} {v : Value} {l : List Nat} {x n : Nat} (h : w.ownsRow B 3 1 v n (nms l ++ [.int .i64 (x : Int)])) (hn : n = l.length + 1) : OwnI w B v (l ++ [x]) := by
  unfold OwnI
  have e : nms (l ++ [x]) = nms l ++ [.int .i64 (x : Int)] := by unfold nms; rw [List.map_append]; rfl
  rw [e, List.length_append, List.length_singleton, ← hn]
  exact h
theorem one_new' (w : World) (x : Value) (t : TypeId) (N : Nat) (hN : w.heap.size = N) : ∀ j u, [x][j]? = some u → (w.alloc (.cells #[x] t)).cell? ((⟨N, 0, none⟩ : Addr).add j) = some u := hN ▸ cell_one_new w x t
theorem one_one (x : Int) : ∀ u ∈ [Value.int .i64 x], u.oneCell' = true := by
  intro u hu
  simp at hu
  rw [hu]
  rfl
theorem Tryd.infoInt : (Tryd.prog.info? 3).map (fun i => (i.zero, i.size, i.bytes)) = some (some (.int .i64 0), 1, 8) := by kernel_rfl

theorem any_tk' {α : Type} (f : α → Bool) (L : List α) (k : Nat) (x : α) (hx : L[k]? = some x) (h : (L.take k).any f = false) (hf : f x = false) : (L.take (k + 1)).any f = false := by
  rw [List.take_add_one, hx, List.any_append, h]
  simp [hf]
theorem any_yes' {α : Type} (f : α → Bool) (L : List α) (k : Nat) (x : α) (hx : L[k]? = some x) (h : f x = true) : L.any f = true := List.any_eq_true.2 ⟨x, List.mem_of_getElem? hx, h⟩

theorem eq0_yes {x : Int} (h : x = 0) : (x == 0) = true := by rw [h]; rfl
theorem eq0_no {x : Int} (h : ¬ x = 0) : (x == 0) = false := beq_eq_false_iff_ne.2 h
theorem has_of {last n x1 x2 a b : Int} {o : Bool} (h : hasE last n (x1, x2) = o) (h1 : (if x1 = 0 then last else x1) = a) (h2 : (if x2 = 0 then last else x2) = b) : inB n (min a b) (max a b) = o := by
  rw [← h]
  unfold hasE lowE highE
  simp only [h1, h2]
theorem has_same {last n : Int} {o : Bool} (h : hasE last n (0, 0) = o) : inB n last last = o := by
  have := has_of (a := last) (b := last) h (if_pos rfl) (if_pos rfl)
  rw [Int.min_self, Int.max_self] at this
  exact this

set_option maxHeartbeats 2000000 in
theorem spec_has (A : Option Addr) (cap : Nat) (L : List (Int × Int)) (last n : Int) (w : World) (h : SpA w A L) (hl : L.length ≤ 33554432) :
    Calls Tryd.prog 86 #[.slice A L.length cap, .int .i64 last, .int .i64 n] w fun e w' => e = .returned (.bool (hasB L last n)) ∧ w = w' := by
  obtain ⟨m, hm⟩ : ∃ m, L.length = m := ⟨_, rfl⟩
  rw [hm] at hl ⊢
  have HM := Lib.hid hm
  have H := Lib.hid h
  clear hm h
  go_enter Tryd.func86, Tryd.ntmps86
  go_wp2
  go_loop [7] (fun i => ∃ k : Nat, k ≤ m ∧ i = .int .i64 (k : Int) ∧ Hid ((L.take k).any (hasE last n) = false)) (fun i => m - (intOf i).toNat)
  case atStart => exact ⟨0, Nat.zero_le _, by go_num, rfl⟩
  case round =>
    obtain ⟨k, hk, rfl, HA⟩ := hrel
    by_cases hlt : k < m
    · have h0 : (0 : Int) ≤ (k : Int) := by omega
      have h5 : (k : Int) < (m : Int) := by omega
      obtain ⟨⟨x1, x2⟩, hx⟩ : ∃ x, L[k]? = some x := ⟨_, List.getElem?_eq_getElem (by rw [HM.out]; exact hlt)⟩
      obtain ⟨b, o, rfl, hb, c1, c2⟩ := H.out k _ hx
      have HX := Lib.hid hx
      clear hx
      cases hh : hasE last n (x1, x2)
      · have HN := Lib.hid hh
        clear hh
        by_cases e1 : x1 = 0 <;> by_cases e2 : x2 = 0
        · subst e1
          subst e2
          go_wp2_with fail
          refine (in_any _ _ _ _).mono ?_
          rintro e w1 ⟨rfl, rfl⟩
          rw [has_same HN.out]
          go_wp2
          go_round
          case rel => exact ⟨k + 1, by omega, by go_num, any_tk' _ L k _ HX.out HA.out HN.out⟩
          case measure => simp [intOf]; omega
        · subst e1
          have f2 := eq0_no e2
          have E2 := Lib.hid e2
          clear e2
          go_wp2_with fail
          refine (in_any _ _ _ _).mono ?_
          rintro e w1 ⟨rfl, rfl⟩
          rw [has_of HN.out (if_pos rfl) (if_neg E2.out)]
          go_wp2
          go_round
          case rel => exact ⟨k + 1, by omega, by go_num, any_tk' _ L k _ HX.out HA.out HN.out⟩
          case measure => simp [intOf]; omega
        · have f1 := eq0_no e1
          have E1 := Lib.hid e1
          subst e2
          clear e1
          go_wp2_with fail
          refine (in_any _ _ _ _).mono ?_
          rintro e w1 ⟨rfl, rfl⟩
          rw [has_of HN.out (if_neg E1.out) (if_pos rfl)]
          go_wp2
          go_round
          case rel => exact ⟨k + 1, by omega, by go_num, any_tk' _ L k _ HX.out HA.out HN.out⟩
          case measure => simp [intOf]; omega
        · have f1 := eq0_no e1
          have E1 := Lib.hid e1
          have f2 := eq0_no e2
          have E2 := Lib.hid e2
          clear e1
          clear e2
          go_wp2_with fail
          refine (in_any _ _ _ _).mono ?_
          rintro e w1 ⟨rfl, rfl⟩
          rw [has_of HN.out (if_neg E1.out) (if_neg E2.out)]
          go_wp2
          go_round
          case rel => exact ⟨k + 1, by omega, by go_num, any_tk' _ L k _ HX.out HA.out HN.out⟩
          case measure => simp [intOf]; omega
      · have HN := Lib.hid hh
        clear hh
        by_cases e1 : x1 = 0 <;> by_cases e2 : x2 = 0
        · subst e1
          subst e2
          go_wp2_with fail
          refine (in_any _ _ _ _).mono ?_
          rintro e w1 ⟨rfl, rfl⟩
          rw [has_same HN.out]
          go_wp2
          go_ret
          exact ⟨ret_bool (any_yes' _ L k _ HX.out HN.out).symm, rfl⟩
        · subst e1
          have f2 := eq0_no e2
          have E2 := Lib.hid e2
          clear e2
          go_wp2_with fail
          refine (in_any _ _ _ _).mono ?_
          rintro e w1 ⟨rfl, rfl⟩
          rw [has_of HN.out (if_pos rfl) (if_neg E2.out)]
          go_wp2
          go_ret
          exact ⟨ret_bool (any_yes' _ L k _ HX.out HN.out).symm, rfl⟩
        · have f1 := eq0_no e1
          have E1 := Lib.hid e1
          subst e2
          clear e1
          go_wp2_with fail
          refine (in_any _ _ _ _).mono ?_
          rintro e w1 ⟨rfl, rfl⟩
          rw [has_of HN.out (if_neg E1.out) (if_pos rfl)]
          go_wp2
          go_ret
          exact ⟨ret_bool (any_yes' _ L k _ HX.out HN.out).symm, rfl⟩
        · have f1 := eq0_no e1
          have E1 := Lib.hid e1
          have f2 := eq0_no e2
          have E2 := Lib.hid e2
          clear e1
          clear e2
          go_wp2_with fail
          refine (in_any _ _ _ _).mono ?_
          rintro e w1 ⟨rfl, rfl⟩
          rw [has_of HN.out (if_neg E1.out) (if_neg E2.out)]
          go_wp2
          go_ret
          exact ⟨ret_bool (any_yes' _ L k _ HX.out HN.out).symm, rfl⟩
    · have ha : Hid (hasB L last n = false) := by
        have h1 := HA.out
        rw [List.take_of_length_le (by rw [HM.out]; omega)] at h1
        exact h1
      have h5 : ¬ (k : Int) < (m : Int) := by omega
      clear HA
      go_wp2
      go_ret
      exact ⟨ret_bool ha.out.symm, rfl⟩
theorem spec_has_at {A : Option Addr} {cap : Nat} {L : List (Int × Int)} {last n : Int} {o : Bool} (ho : hasB L last n = o) (w : World) (h : SpA w A L) (hl : L.length ≤ 33554432) :
    Calls Tryd.prog 86 #[.slice A L.length cap, .int .i64 last, .int .i64 n] w fun e w' => e = .returned (.bool o) ∧ w = w' := ho ▸ spec_has A cap L last n w h hl
theorem spec_setvalid_at {A : Option Addr} {cap : Nat} {L : List (Int × Int)} {o : Bool} (ho : setB L = o) (w : World) (h : SpA w A L) (hl : L.length ≤ 33554432) :
    Calls Tryd.prog 98 #[.slice A L.length cap] w fun e w' => e = .returned (.bool o) ∧ w = w' := ho ▸ spec_setvalid A cap L w h hl

/-- What a function that lists numbers leaves. -/
def Lists (w : World) (l : List Nat) (e : Ending) (w' : World) : Prop := ∃ v : Value, e = .returned v ∧ OwnI w' w.heap.size v l ∧ Below w.heap.size w w'
theorem min_lst (last : Int) : min last 99 = lst last := rfl

end Go.Proofs.YtpihibconbejlaaDoor
