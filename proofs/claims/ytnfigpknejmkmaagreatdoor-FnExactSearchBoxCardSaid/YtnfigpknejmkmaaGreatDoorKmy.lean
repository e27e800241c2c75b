/-
  Til, Tim, Keep, Kml, Kfm, Kra, Krb, Krc, Krd, Kre, Kfi, Kfj, Kb in one text. Conditions: each contract's own.
-/
import Derived.Test.YtnfigpknejmkmaaGreatDoorBase
import Derived.OrdersHeld
import Derived.Deep.RegionHeld
import Derived.Test.YtnfigpknejmkmaaGreatDoorKc
import Derived.Deep.Slices
import Derived.Deep.SlicePairs
import Derived.ChangeArms
import Derived.Test.YtnfigpknejmkmaaGreatDoorSdrk
import Derived.Deep.RegionHeld3
import Derived.OwnWalk
import Derived.Laws.OwnMore
import Derived.Deep.Cut
import Derived.Deep.CutRange
import Derived.BigQuiet
import Derived.Test.YtnfigpknejmkmaaGreatDoorKz
import Derived.Test.YtnfigpknejmkmaaGreatDoorStxi
import Derived.Test.YtnfigpknejmkmaaGreatDoorCursor
import Derived.Test.YtnfigpknejmkmaaGreatDoorKs
namespace Go.Proofs.YtnfigpknejmkmaaGreatDoor
open Go.RowKit
set_option linter.unusedVariables false

section
variable {P : Program} {ops : Array Oper} {Q : Exit → Act → World → Prop} {md : Region.Mode} {C : World → Prop} {m : Nat}
/-- Whatever order is picked: behind each operation but number 'm' the condition holds. -/
def wpTill (P : Program) (md : Region.Mode) (ops : Array Oper) (Q : Exit → Act → World → Prop) (C : World → Prop) (m : Nat) : Nat → Array Bool → Act → World → Prop
  | 0, listed, a, w => Region.ready md ops listed = [] ∧ Q .normal a w
  | n + 1, listed, a, w => (Region.ready md ops listed = [] → Q .normal a w) ∧
      ∀ j ∈ Region.ready md ops listed, wpOp P ops Q j (fun a' w' => (j ≠ m → C w') ∧ wpTill P md ops Q C m n (listed.setIfInBounds j true) a' w') a w
theorem wpTill_any : ∀ (n : Nat) (listed : Array Bool) (a : Act) (w : World), wpTill P md ops Q C m n listed a w → wpAny P md ops Q n listed a w
  | 0, _, _, _, h => h
  | n + 1, _, _, _, h => ⟨h.1, fun j hj => wpOp_mono (fun a' w' h' => wpTill_any n _ a' w' h'.2) (h.2 j hj)⟩
/-- Number 'm' waits for number 'i', by way of others too. -/
def waitsFor (md : Region.Mode) (ops : Array Oper) (i : Nat) : Nat → Nat → Bool
  | 0, _ => false
  | n + 1, m => match ops[m]? with
    | some o => o.after.any fun e => Region.binds md e && ((e.on == i) || waitsFor md ops i n e.on)
    | none => false
/-- Whoever has come up has come up behind those for whom it waits. -/
def shutB (md : Region.Mode) (ops : Array Oper) (listed : Array Bool) : Bool := (List.range ops.size).all fun j => match ops[j]? with
  | some o => !listed.getD j false || o.after.all fun e => !Region.binds md e || listed.getD e.on false
  | none => true
def ShutL (md : Region.Mode) (ops : Array Oper) (listed : Array Bool) : Prop := ∀ j o, ops[j]? = some o → listed.getD j false = true → ∀ e ∈ o.after, Region.binds md e = true → listed.getD e.on false = true
theorem shutL_of {listed : Array Bool} (h : shutB md ops listed = true) : ShutL md ops listed := fun j o ho hl e he hb => by
  unfold shutB at h
  have hj : j < ops.size := (Array.getElem?_eq_some_iff.1 ho).1
  have h1 := List.all_eq_true.1 h j (List.mem_range.2 hj)
  rw [ho] at h1
  simp only [hl, Bool.not_true, Bool.false_or] at h1
  have h2 := Array.all_eq_true_iff_forall_mem.1 h1 e he
  rw [hb] at h2
  simpa using h2
theorem shutL_set {listed : Array Bool} {j : Nat} (h : ShutL md ops listed) (hj : j ∈ Region.ready md ops listed) : ShutL md ops (listed.setIfInBounds j true) := fun k o ho hl e he hb => by
  refine getD_set_true ?_
  obtain ⟨_, o', ho', hall⟩ := mem_ready.1 hj
  by_cases hjk : j = k
  · subst hjk
    rw [ho] at ho'
    cases ho'
    exact hall e he hb
  · rw [getD_set_ne false hjk] at hl
    exact h k o ho hl e he hb
theorem waits_listed {i : Nat} {listed : Array Bool} (h : ShutL md ops listed) : ∀ (n j : Nat), listed.getD j false = true → waitsFor md ops i n j = true → listed.getD i false = true
  | 0, j, _, hw => by cases hw
  | n + 1, j, hl, hw => by
    unfold waitsFor at hw
    cases ho : ops[j]? with
    | none => rw [ho] at hw; cases hw
    | some o =>
      rw [ho] at hw
      simp only [Array.any_eq_true, Bool.and_eq_true, Bool.or_eq_true, beq_iff_eq] at hw
      obtain ⟨k, hk, hb, he⟩ := hw
      have h1 := h j o ho hl o.after[k] (Array.getElem_mem hk) hb
      rcases he with he | he
      · rw [he] at h1; exact h1
      · exact waits_listed h n _ h1 he
theorem not_ready {i j n : Nat} {listed : Array Bool} (h : ShutL md ops listed) (hw : waitsFor md ops i n m = true) (hi : i ∈ Region.ready md ops listed) (hj : j ∈ Region.ready md ops listed) : j ≠ m := by
  rintro rfl
  have h0 := (mem_ready.1 hi).1
  obtain ⟨_, o, ho, hall⟩ := mem_ready.1 hj
  have key : listed.getD i false = true := by
    cases n with
    | zero => cases hw
    | succ n =>
      unfold waitsFor at hw
      rw [ho] at hw
      simp only [Array.any_eq_true, Bool.and_eq_true, Bool.or_eq_true, beq_iff_eq] at hw
      obtain ⟨k, hk, hb, he⟩ := hw
      have h1 := hall o.after[k] (Array.getElem_mem hk) hb
      rcases he with he | he
      · rw [he] at h1; exact h1
      · exact waits_listed h n _ h1 he
  rcases Nat.lt_or_ge i listed.size with h' | h'
  · simp [h'] at h0 key; rw [h0] at key; cases key
  · simp [Array.getElem?_eq_none h'] at key
theorem wpTill_first {i : Nat} {oi : Oper} {v : Value} (hi : ops[i]? = some oi) (hsel : ∀ (j : Nat) (o : Oper) cs b, ops[j]? = some o → o.op ≠ .select cs b)
    (hQ : ∀ c a w, Q (.panic c) (a.put oi.dst v) w → Q (.panic c) a w) {nw : Nat} (hw : waitsFor md ops i nw m = true) :
    ∀ (n : Nat) (listed : Array Bool) (a : Act) (w : World), ShutL md ops listed →
      (∀ j oj, ops[j]? = some oj → j ≠ i → listed.getD j true = false → (∀ e ∈ oj.after, Region.binds md e = true → e.on ≠ i) → oi.apart ops oj = true) →
      i ∈ Region.ready md ops listed → YieldsIf P ops C oi v a → C w → wpTill P md ops Q C m n (listed.setIfInBounds i true) (a.put oi.dst v) w → wpTill P md ops Q C m (n + 1) listed a w := by
  intro n
  induction n with
  | zero =>
    intro listed a w _ _ hr hy hC H
    refine ⟨fun h => (by rw [h] at hr; cases hr), fun j hj => ?_⟩
    rcases Nat.decEq j i with hji | hji
    · have := ready_mono hj hji
      rw [H.1] at this
      cases this
    · subst hji
      exact hy.wpOp hi hC ⟨fun _ => hC, H⟩
  | succ n ih =>
    intro listed a w hsh hfree hr hy hC H
    refine ⟨fun h => (by rw [h] at hr; cases hr), fun j hj => ?_⟩
    rcases Nat.decEq j i with hji | hji
    · obtain ⟨hjun, oj, hoj, hall⟩ := mem_ready.1 hj
      have hnot : ∀ e ∈ oj.after, Region.binds md e = true → e.on ≠ i := fun e he hb heq => by
        have h1 := hall e he hb
        have h0 := (mem_ready.1 hr).1
        rw [heq] at h1
        rcases Nat.lt_or_ge i listed.size with h' | h'
        · simp [h'] at h0 h1; rw [h0] at h1; cases h1
        · simp [Array.getElem?_eq_none h'] at h1
      have h2 := wpOp_putIf hoj (hfree j oj hoj hji hjun hnot) (fun cs b => hsel i oi cs b hi) (fun cs b => hsel j oj cs b hoj) hQ hy (H.2 j (ready_mono hj hji))
      refine wpOp_mono (fun a' w' h3 => ?_) h2
      have hc := h3.2.1 (not_ready hsh hw hr hj)
      refine ⟨fun _ => hc, ih _ a' w' (shutL_set hsh hj) (fun k ok hk hki hun hno => hfree k ok hk hki ?_ hno) (ready_mono hr (Ne.symm hji)) h3.1 hc ?_⟩
      · by_cases hjk : j = k
        · subst hjk; exact hjun
        · rw [getD_set_ne true hjk] at hun; exact hun
      · rw [Array.setIfInBounds_comm _ _ hji]
        exact h3.2.2
    · subst hji
      exact hy.wpOp hi hC ⟨fun _ => hC, H⟩
/-- A read is taken first. -/
theorem wpTill_take {i : Nat} {oi : Oper} {v : Value} {n : Nat} {listed : Array Bool} {a : Act} {w : World} (hi : ops[i]? = some oi)
    (hs : Region.noSelect ops = true) (hf : Region.free md ops listed i = true) (hr : (Region.ready md ops listed).contains i = true) (hsh : shutB md ops listed = true) (hw : waitsFor md ops i 40 m = true)
    (hQ : ∀ c a w, Q (.panic c) (a.put oi.dst v) w → Q (.panic c) a w) (hC : C w) (hg : Region.wanted oi (yielded ops a.tmps) = true) (hy : ∀ w, C w → (execOp a.eval oi).run P w = .ok (.value v) w)
    (h : wpTill P md ops Q C m n (listed.setIfInBounds i true) (a.put oi.dst v) w) : wpTill P md ops Q C m (n + 1) listed a w :=
  wpTill_first hi (Region.noSelect_spec hs) hQ hw n listed a w (shutL_of hsh) (Region.free_spec hi hf) (by simpa using hr) (.inl ⟨hg, hy⟩) hC h
/-- One alone may come up. -/
theorem wpTill_one {i : Nat} {o : Oper} {n : Nat} {listed : Array Bool} {a : Act} {w : World} (hr : Region.ready md ops listed = [i]) (ho : ops[i]? = some o)
    (h : ∀ K : Act → World → Prop, Shut (∀ a w, (i ≠ m → C w) → wpTill P md ops Q C m n (listed.setIfInBounds i true) a w → K a w) → if Region.wanted o (yielded ops a.tmps) = true then Oper.wp P o a w K Q else K (a.put o.dst undef) w) : wpTill P md ops Q C m (n + 1) listed a w := by
  refine ⟨fun h0 => (by rw [hr] at h0; cases h0), fun j hj => ?_⟩
  rw [hr] at hj
  simp only [List.mem_singleton] at hj
  subst hj
  have h1 := h (fun a' w' => (j ≠ m → C w') ∧ wpTill P md ops Q C m n (listed.setIfInBounds j true) a' w') (fun a w h1 h2 => ⟨h1, h2⟩)
  unfold wpOp
  simp only [ho]
  split
  · rename_i hw
    rw [if_pos hw] at h1
    exact .inl h1
  · rename_i hw
    rw [if_neg hw] at h1
    exact h1
theorem wpTill_done {listed : Array Bool} {a : Act} {w : World} (hr : Region.ready md ops listed = []) (h : Q .normal a w) : ∀ n, wpTill P md ops Q C m n listed a w
  | 0 => ⟨hr, h⟩
  | _ + 1 => ⟨fun _ => h, by rw [hr]; simp⟩
theorem wp_region_till {id : Nat} {a : Act} {w : World} (C : World → Prop) (m : Nat) (hm : P.follows .mixedOrders = true)
    (h : wpTill P .any ops Q C m ops.size (Array.replicate ops.size false) a w.drew) : (Code.region id ops true).wp P Q a w :=
  wp_region_any hm (wpTill_any _ _ _ _ h)
end
end Go.Proofs.YtnfigpknejmkmaaGreatDoor
namespace Go.Proofs.YtnfigpknejmkmaaGreatDoor
open Go.RowKit
set_option linter.unusedVariables false

section
variable {P : Program} {ops : Array Oper} {Q : Exit → Act → World → Prop} {md : Region.Mode} {C : World → Prop} {m : Nat}
/-- Whatever order is picked: the condition holds till number 'm' comes up. -/
def wpLate (P : Program) (md : Region.Mode) (ops : Array Oper) (Q : Exit → Act → World → Prop) (C : World → Prop) (m : Nat) : Nat → Array Bool → Act → World → Prop
  | 0, listed, a, w => Region.ready md ops listed = [] ∧ Q .normal a w
  | n + 1, listed, a, w => (Region.ready md ops listed = [] → Q .normal a w) ∧
      ∀ j ∈ Region.ready md ops listed, wpOp P ops Q j (fun a' w' => (listed.getD m false = false → j ≠ m → C w') ∧ wpLate P md ops Q C m n (listed.setIfInBounds j true) a' w') a w
theorem wpLate_any : ∀ (n : Nat) (listed : Array Bool) (a : Act) (w : World), wpLate P md ops Q C m n listed a w → wpAny P md ops Q n listed a w
  | 0, _, _, _, h => h
  | n + 1, _, _, _, h => ⟨h.1, fun j hj => wpOp_mono (fun a' w' h' => wpLate_any n _ a' w' h'.2) (h.2 j hj)⟩
theorem not_listed {i n : Nat} {listed : Array Bool} (h : ShutL md ops listed) (hw : waitsFor md ops i n m = true) (hi : i ∈ Region.ready md ops listed) : listed.getD m false = false := by
  cases hm : listed.getD m false with
  | false => rfl
  | true =>
    have key := waits_listed h n m hm hw
    have h0 := (mem_ready.1 hi).1
    rcases Nat.lt_or_ge i listed.size with h' | h'
    · simp [h'] at h0 key; rw [h0] at key; cases key
    · simp [Array.getElem?_eq_none h'] at key
theorem set_listed {j : Nat} {listed : Array Bool} (h : listed.getD j true = false) : (listed.setIfInBounds j true).getD j false = true := by
  rcases Nat.lt_or_ge j listed.size with h' | h'
  · simp [h']
  · simp [Array.getElem?_eq_none h'] at h
/-- What only reckons is taken first. -/
theorem wpLate_pure1 {i : Nat} {oi : Oper} {v : Value} (hi : ops[i]? = some oi) (hsel : ∀ (j : Nat) (o : Oper) cs b, ops[j]? = some o → o.op ≠ .select cs b)
    (hQ : ∀ c a w, Q (.panic c) (a.put oi.dst v) w → Q (.panic c) a w) (hne : i ≠ m) :
    ∀ (n : Nat) (listed : Array Bool) (a : Act) (w : World),
      (∀ j oj, ops[j]? = some oj → j ≠ i → listed.getD j true = false → (∀ e ∈ oj.after, Region.binds md e = true → e.on ≠ i) → oi.apart ops oj = true) →
      i ∈ Region.ready md ops listed → YieldsIf P ops (fun _ => True) oi v a → (listed.getD m false = false → C w) → wpLate P md ops Q C m n (listed.setIfInBounds i true) (a.put oi.dst v) w → wpLate P md ops Q C m (n + 1) listed a w := by
  intro n
  induction n with
  | zero =>
    intro listed a w _ hr hy hC H
    refine ⟨fun h => (by rw [h] at hr; cases hr), fun j hj => ?_⟩
    rcases Nat.decEq j i with hji | hji
    · have := ready_mono hj hji
      rw [H.1] at this
      cases this
    · subst hji
      exact hy.wpOp hi trivial ⟨fun h0 _ => hC h0, H⟩
  | succ n ih =>
    intro listed a w hfree hr hy hC H
    refine ⟨fun h => (by rw [h] at hr; cases hr), fun j hj => ?_⟩
    rcases Nat.decEq j i with hji | hji
    · obtain ⟨hjun, oj, hoj, hall⟩ := mem_ready.1 hj
      have hnot : ∀ e ∈ oj.after, Region.binds md e = true → e.on ≠ i := fun e he hb heq => by
        have h1 := hall e he hb
        have h0 := (mem_ready.1 hr).1
        rw [heq] at h1
        rcases Nat.lt_or_ge i listed.size with h' | h'
        · simp [h'] at h0 h1; rw [h0] at h1; cases h1
        · simp [Array.getElem?_eq_none h'] at h1
      have h2 := wpOp_putIf hoj (hfree j oj hoj hji hjun hnot) (fun cs b => hsel i oi cs b hi) (fun cs b => hsel j oj cs b hoj) hQ hy (H.2 j (ready_mono hj hji))
      refine wpOp_mono (fun a' w' h3 => ?_) h2
      have hc : listed.getD m false = false → j ≠ m → C w' := fun h0 hj2 => h3.2.1 (by rw [getD_set_ne false hne]; exact h0) hj2
      refine ⟨hc, ih _ a' w' (fun k ok hk hki hun hno => hfree k ok hk hki ?_ hno) (ready_mono hr (Ne.symm hji)) h3.1 (fun h0 => ?_) ?_⟩
      · by_cases hjk : j = k
        · subst hjk; exact hjun
        · rw [getD_set_ne true hjk] at hun; exact hun
      · by_cases hjm : j = m
        · subst hjm
          rw [set_listed hjun] at h0
          cases h0
        · rw [getD_set_ne false hjm] at h0
          exact hc h0 hjm
      · rw [Array.setIfInBounds_comm _ _ hji]
        exact h3.2.2
    · subst hji
      exact hy.wpOp hi trivial ⟨fun h0 _ => hC h0, H⟩
theorem wpLate_pure {i : Nat} {oi : Oper} {v : Value} {n : Nat} {listed : Array Bool} {a : Act} {w : World} (hi : ops[i]? = some oi)
    (hs : Region.noSelect ops = true) (hf : Region.free md ops listed i = true) (hr : (Region.ready md ops listed).contains i = true) (hne : i ≠ m)
    (hQ : ∀ c a w, Q (.panic c) (a.put oi.dst v) w → Q (.panic c) a w) (hC : C w) (hg : Region.wanted oi (yielded ops a.tmps) = true) (hy : ∀ w, (execOp a.eval oi).run P w = .ok (.value v) w)
    (h : wpLate P md ops Q C m n (listed.setIfInBounds i true) (a.put oi.dst v) w) : wpLate P md ops Q C m (n + 1) listed a w :=
  wpLate_pure1 hi (Region.noSelect_spec hs) hQ hne n listed a w (Region.free_spec hi hf) (by simpa using hr) (.inl ⟨hg, fun w _ => hy w⟩) (fun _ => hC) h
theorem wpLate_first {i : Nat} {oi : Oper} {v : Value} (hi : ops[i]? = some oi) (hsel : ∀ (j : Nat) (o : Oper) cs b, ops[j]? = some o → o.op ≠ .select cs b)
    (hQ : ∀ c a w, Q (.panic c) (a.put oi.dst v) w → Q (.panic c) a w) {nw : Nat} (hw : waitsFor md ops i nw m = true) :
    ∀ (n : Nat) (listed : Array Bool) (a : Act) (w : World), ShutL md ops listed →
      (∀ j oj, ops[j]? = some oj → j ≠ i → listed.getD j true = false → (∀ e ∈ oj.after, Region.binds md e = true → e.on ≠ i) → oi.apart ops oj = true) →
      i ∈ Region.ready md ops listed → YieldsIf P ops C oi v a → C w → wpLate P md ops Q C m n (listed.setIfInBounds i true) (a.put oi.dst v) w → wpLate P md ops Q C m (n + 1) listed a w := by
  intro n
  induction n with
  | zero =>
    intro listed a w _ _ hr hy hC H
    refine ⟨fun h => (by rw [h] at hr; cases hr), fun j hj => ?_⟩
    rcases Nat.decEq j i with hji | hji
    · have := ready_mono hj hji
      rw [H.1] at this
      cases this
    · subst hji
      exact hy.wpOp hi hC ⟨fun _ _ => hC, H⟩
  | succ n ih =>
    intro listed a w hsh hfree hr hy hC H
    refine ⟨fun h => (by rw [h] at hr; cases hr), fun j hj => ?_⟩
    rcases Nat.decEq j i with hji | hji
    · obtain ⟨hjun, oj, hoj, hall⟩ := mem_ready.1 hj
      have hnot : ∀ e ∈ oj.after, Region.binds md e = true → e.on ≠ i := fun e he hb heq => by
        have h1 := hall e he hb
        have h0 := (mem_ready.1 hr).1
        rw [heq] at h1
        rcases Nat.lt_or_ge i listed.size with h' | h'
        · simp [h'] at h0 h1; rw [h0] at h1; cases h1
        · simp [Array.getElem?_eq_none h'] at h1
      have h2 := wpOp_putIf hoj (hfree j oj hoj hji hjun hnot) (fun cs b => hsel i oi cs b hi) (fun cs b => hsel j oj cs b hoj) hQ hy (H.2 j (ready_mono hj hji))
      refine wpOp_mono (fun a' w' h3 => ?_) h2
      have hc := h3.2.1 (by rw [getD_set_ne false (not_ready hsh hw hr hr)]; exact not_listed hsh hw hr) (not_ready hsh hw hr hj)
      refine ⟨fun _ _ => hc, ih _ a' w' (shutL_set hsh hj) (fun k ok hk hki hun hno => hfree k ok hk hki ?_ hno) (ready_mono hr (Ne.symm hji)) h3.1 hc ?_⟩
      · by_cases hjk : j = k
        · subst hjk; exact hjun
        · rw [getD_set_ne true hjk] at hun; exact hun
      · rw [Array.setIfInBounds_comm _ _ hji]
        exact h3.2.2
    · subst hji
      exact hy.wpOp hi hC ⟨fun _ _ => hC, H⟩
/-- A read is taken first. -/
theorem wpLate_take {i : Nat} {oi : Oper} {v : Value} {n : Nat} {listed : Array Bool} {a : Act} {w : World} (hi : ops[i]? = some oi)
    (hs : Region.noSelect ops = true) (hf : Region.free md ops listed i = true) (hr : (Region.ready md ops listed).contains i = true) (hsh : shutB md ops listed = true) (hw : waitsFor md ops i 40 m = true)
    (hQ : ∀ c a w, Q (.panic c) (a.put oi.dst v) w → Q (.panic c) a w) (hC : C w) (hg : Region.wanted oi (yielded ops a.tmps) = true) (hy : ∀ w, C w → (execOp a.eval oi).run P w = .ok (.value v) w)
    (h : wpLate P md ops Q C m n (listed.setIfInBounds i true) (a.put oi.dst v) w) : wpLate P md ops Q C m (n + 1) listed a w :=
  wpLate_first hi (Region.noSelect_spec hs) hQ hw n listed a w (shutL_of hsh) (Region.free_spec hi hf) (by simpa using hr) (.inl ⟨hg, hy⟩) hC h
theorem wpLate_step {i : Nat} {o : Oper} {n : Nat} {listed : Array Bool} {a : Act} {w : World} (ho : ops[i]? = some o)
    (h : ∀ K : Act → World → Prop, Shut (∀ a w, (i ≠ m → C w) → wpLate P md ops Q C m n (listed.setIfInBounds i true) a w → K a w) → if Region.wanted o (yielded ops a.tmps) = true then Oper.wp P o a w K Q else K (a.put o.dst undef) w) :
    wpOp P ops Q i (fun a' w' => (listed.getD m false = false → i ≠ m → C w') ∧ wpLate P md ops Q C m n (listed.setIfInBounds i true) a' w') a w := by
  have h1 := h (fun a' w' => (listed.getD m false = false → i ≠ m → C w') ∧ wpLate P md ops Q C m n (listed.setIfInBounds i true) a' w') (fun a w h1 h2 => ⟨fun _ => h1, h2⟩)
  unfold wpOp
  simp only [ho]
  split
  · rename_i hw
    rw [if_pos hw] at h1
    exact .inl h1
  · rename_i hw
    rw [if_neg hw] at h1
    exact h1
/-- One alone may come up. -/
theorem wpLate_one {i : Nat} {o : Oper} {n : Nat} {listed : Array Bool} {a : Act} {w : World} (hr : Region.ready md ops listed = [i]) (ho : ops[i]? = some o)
    (h : ∀ K : Act → World → Prop, Shut (∀ a w, (i ≠ m → C w) → wpLate P md ops Q C m n (listed.setIfInBounds i true) a w → K a w) → if Region.wanted o (yielded ops a.tmps) = true then Oper.wp P o a w K Q else K (a.put o.dst undef) w) : wpLate P md ops Q C m (n + 1) listed a w := by
  refine ⟨fun h0 => (by rw [hr] at h0; cases h0), fun j hj => ?_⟩
  rw [hr] at hj
  simp only [List.mem_singleton] at hj
  subst hj
  exact wpLate_step ho h
/-- One of two comes up. -/
theorem wpLate_two {i k : Nat} {o p : Oper} {n : Nat} {listed : Array Bool} {a : Act} {w : World} (hr : Region.ready md ops listed = [i, k]) (ho : ops[i]? = some o) (hp : ops[k]? = some p)
    (h : ∀ K : Act → World → Prop, Shut (∀ a w, (i ≠ m → C w) → wpLate P md ops Q C m n (listed.setIfInBounds i true) a w → K a w) → if Region.wanted o (yielded ops a.tmps) = true then Oper.wp P o a w K Q else K (a.put o.dst undef) w)
    (h2 : ∀ K : Act → World → Prop, Shut (∀ a w, (k ≠ m → C w) → wpLate P md ops Q C m n (listed.setIfInBounds k true) a w → K a w) → if Region.wanted p (yielded ops a.tmps) = true then Oper.wp P p a w K Q else K (a.put p.dst undef) w) : wpLate P md ops Q C m (n + 1) listed a w := by
  refine ⟨fun h0 => (by rw [hr] at h0; cases h0), fun j hj => ?_⟩
  rw [hr] at hj
  simp only [List.mem_cons, List.not_mem_nil, or_false] at hj
  rcases hj with rfl | rfl
  · exact wpLate_step ho h
  · exact wpLate_step hp h2
theorem wpLate_done {listed : Array Bool} {a : Act} {w : World} (hr : Region.ready md ops listed = []) (h : Q .normal a w) : ∀ n, wpLate P md ops Q C m n listed a w
  | 0 => ⟨hr, h⟩
  | _ + 1 => ⟨fun _ => h, by rw [hr]; simp⟩
theorem wp_region_late {id : Nat} {a : Act} {w : World} (C : World → Prop) (m : Nat) (hm : P.follows .mixedOrders = true)
    (h : wpLate P .any ops Q C m ops.size (Array.replicate ops.size false) a w.drew) : (Code.region id ops true).wp P Q a w :=
  wp_region_any hm (wpLate_any _ _ _ _ h)
end
end Go.Proofs.YtnfigpknejmkmaaGreatDoor
namespace Go.Proofs.YtnfigpknejmkmaaGreatDoor
open Go.RowKit
set_option linter.unusedVariables false

/-- A fact that stands in every world that keeps all blocks of this one. -/
def Kp (w : World) (F : World → Prop) : Prop := ∀ w', Below w.heap.size w w' → F w'
section
variable {w w' a : World} {F G : World → Prop} {B n : Nat} {p : Prop}
theorem Kp.here (h : Kp w F) : F w := h w (Below.refl _ _)
theorem Kp.move (h : Kp w F) (hb : Below w.heap.size w w') : Kp w' F := fun w2 h2 => h w2 (hb.trans (h2.mono hb.size))
theorem below_new (w : World) (o : Obj) : Below w.heap.size w (w.alloc o) := (Below.refl _ _).alloc (Nat.le_refl _) o
theorem below_drawn (w : World) (k : Nat) : Below w.heap.size w (w.drewN k) := below_drewN' (Below.refl _ _) k
theorem below_drew1 (w : World) : Below w.heap.size w w.drew := ⟨rfl, rfl, rfl, Nat.le_refl _, fun _ _ => rfl⟩
theorem Kp.alloc (h : Kp w F) (o : Obj) : Kp (w.alloc o) F := h.move (below_new w o)
theorem Kp.drewN (h : Kp w F) (k : Nat) : Kp (w.drewN k) F := h.move (below_drawn w k)
theorem Kp.drew (h : Kp w F) : Kp w.drew F := h.move (below_drew1 w)
theorem Kp.and (h : Kp w F) (k : Kp w G) : Kp w fun w => F w ∧ G w := fun w2 h2 => ⟨h w2 h2, k w2 h2⟩
theorem Kp.map (h : Kp w F) (f : ∀ w, F w → G w) : Kp w G := fun w2 h2 => f w2 (h w2 h2)
theorem Kp.l (h : Kp w fun w => F w ∧ G w) : Kp w F := fun w2 h2 => (h w2 h2).1
theorem Kp.r (h : Kp w fun w => F w ∧ G w) : Kp w G := fun w2 h2 => (h w2 h2).2
theorem below_keep (h : Below B a w) (hB : B ≤ w.heap.size) : Kp w fun w' => Below B a w' := fun w2 h2 => h.trans (h2.mono hB)
theorem kp_start (w : World) : Kp w fun w' => Below w.heap.size w w' := fun w2 h2 => h2
theorem size_keep (h : n ≤ w.heap.size) : Kp w fun w' => n ≤ w'.heap.size := fun w2 h2 => Nat.le_trans h h2.size
theorem kp_pure (h : p) : Kp w fun _ => p := fun _ _ => h
theorem kp_whole {b : Nat} {t : TypeId} {cs : Array Value} (h : Whole w b t cs) : Kp w fun w' => Whole w' b t cs := fun w2 h2 => h.below h2 h.lt
end

/-- Only blocks from 'lo' up to 'hi' and new ones have turned. -/
structure Mv (lo hi : Nat) (w w' : World) : Prop where
  os : w'.os = w.os
  tape : w'.tape = w.tape
  output : w'.output = w.output
  size : w.heap.size ≤ w'.heap.size
  block : ∀ b, b < w.heap.size → ¬ (lo ≤ b ∧ b < hi) → w'.heap[b]? = w.heap[b]?
/-- A fact that speaks of the blocks from 'lo' up to 'hi' alone. -/
def Kr (w : World) (lo hi : Nat) (F : World → Prop) : Prop := hi ≤ w.heap.size ∧ ∀ w', w.heap.size ≤ w'.heap.size → (∀ b, lo ≤ b → b < hi → w'.heap[b]? = w.heap[b]?) → F w'
section
variable {w w' a : World} {F G : World → Prop} {B n lo hi lo' hi' : Nat} {p : Prop}
theorem Kr.here (h : Kr w lo hi F) : F w := h.2 w (Nat.le_refl _) fun _ _ _ => rfl
theorem Kr.below (h : Kr w lo hi F) (hb : Below B w w') (hB : hi ≤ B) : Kr w' lo hi F :=
  ⟨Nat.le_trans h.1 hb.size, fun w2 hz h2 => h.2 w2 (Nat.le_trans hb.size hz) fun b h3 h4 => (h2 b h3 h4).trans (hb.block b (by omega))⟩
theorem Kr.move (h : Kr w lo hi F) (hm : Mv lo' hi' w w') (hd : hi ≤ lo' ∨ hi' ≤ lo) : Kr w' lo hi F :=
  ⟨Nat.le_trans h.1 hm.size, fun w2 hz h2 => h.2 w2 (Nat.le_trans hm.size hz) fun b h3 h4 => (h2 b h3 h4).trans (hm.block b (by have := h.1; omega) (by omega))⟩
theorem Kr.and (h : Kr w lo hi F) (k : Kr w lo hi G) : Kr w lo hi fun w => F w ∧ G w := ⟨h.1, fun w2 hz h2 => ⟨h.2 w2 hz h2, k.2 w2 hz h2⟩⟩
theorem Kr.map (h : Kr w lo hi F) (f : ∀ w, F w → G w) : Kr w lo hi G := ⟨h.1, fun w2 hz h2 => f w2 (h.2 w2 hz h2)⟩
theorem Kr.widen (h : Kr w lo hi F) (hl : lo' ≤ lo) (hh : hi ≤ hi') (hz : hi' ≤ w.heap.size) : Kr w lo' hi' F := ⟨hz, fun w2 hz h2 => h.2 w2 hz fun b h3 h4 => h2 b (by omega) (by omega)⟩
theorem Mv.of_below (h : Below B w w') (hB : w.heap.size ≤ B) : Mv lo hi w w' := ⟨h.os, h.tape, h.output, h.size, fun b hb _ => h.block b (by omega)⟩
theorem Mv.to_below (h : Mv lo hi w w') (hB : B ≤ lo) (hz : B ≤ w.heap.size) : Below B w w' := ⟨h.os, h.tape, h.output, h.size, fun b hb => h.block b (by omega) (by omega)⟩
theorem Mv.of_grown {g : Nat} (h : w.grownBy w' (some g)) (hl : lo ≤ g) (hh : g < hi) : Mv lo hi w w' := ⟨h.os, h.tape, h.output, h.size, fun b hb hn => h.block b hb (by simp; omega)⟩
theorem Mv.of_grown0 (h : w.grownBy w' none) : Mv lo hi w w' := ⟨h.os, h.tape, h.output, h.size, fun b hb hn => h.block b hb (by simp)⟩
end
end Go.Proofs.YtnfigpknejmkmaaGreatDoor
namespace Go.Proofs.YtnfigpknejmkmaaGreatDoor
open Go.RowKit Go.ChangeShapes Go.WideShapes
set_option linter.unusedVariables false

mutual
/-- How a key lies in memory, with Go's own bounds only. -/
def KZ (w : World) : KT → Value → Prop
  | .mk kd f t S ks, v => ∃ (AS : Option Addr) (nS cS : Nat) (AK : Option Addr) (nK cK : Nat), v = .agg #[.int .i64 kd, .int .i64 f, .string t, .slice AS nS cS, .slice AK nK cK] ∧ S.length = nS ∧ nS ≤ maxLen ∧ t.size ≤ maxLen ∧ SpA w AS S ∧ ks.length = nK ∧ nK ≤ maxLen ∧ KZs w AK 0 ks
def KZs (w : World) (AK : Option Addr) : Nat → List KT → Prop
  | _, [] => True
  | i, k :: r => (∃ (b o : Nat) (v0 v1 v2 v3 v4 : Value), AK = some ⟨b, o, none⟩ ∧ b < w.heap.size ∧ w.cell? ⟨b, o + i * 5, none⟩ = some v0 ∧ w.cell? ⟨b, o + i * 5 + 1, none⟩ = some v1 ∧ w.cell? ⟨b, o + i * 5 + 2, none⟩ = some v2 ∧
      w.cell? ⟨b, o + i * 5 + 3, none⟩ = some v3 ∧ w.cell? ⟨b, o + i * 5 + 4, none⟩ = some v4 ∧ KZ w k (.agg #[v0, v1, v2, v3, v4])) ∧ KZs w AK (i + 1) r
end
theorem kzs_of {w : World} {b o : Nat} {g : Nat → KT} : ∀ (n i : Nat), (∀ j, j < n → ∃ v0 v1 v2 v3 v4 : Value, b < w.heap.size ∧ w.cell? ⟨b, o + (i + j) * 5, none⟩ = some v0 ∧ w.cell? ⟨b, o + (i + j) * 5 + 1, none⟩ = some v1 ∧ w.cell? ⟨b, o + (i + j) * 5 + 2, none⟩ = some v2 ∧ w.cell? ⟨b, o + (i + j) * 5 + 3, none⟩ = some v3 ∧ w.cell? ⟨b, o + (i + j) * 5 + 4, none⟩ = some v4 ∧ KZ w (g (i + j)) (.agg #[v0, v1, v2, v3, v4])) →
    KZs w (some ⟨b, o, none⟩) i ((List.range' i n).map g)
  | 0, i, _ => by simp [KZs]
  | n + 1, i, h => by
    rw [List.range'_succ, List.map_cons, KZs]
    refine ⟨?_, kzs_of n (i + 1) fun j hj => ?_⟩
    · obtain ⟨v0, v1, v2, v3, v4, h0, h1⟩ := h 0 (by omega)
      rw [Nat.add_zero] at h1
      exact ⟨b, o, v0, v1, v2, v3, v4, rfl, h0, h1⟩
    · have h1 := h (j + 1) (by omega)
      rw [show i + (j + 1) = i + 1 + j by omega] at h1
      exact h1
section
variable {H : Type} {enc : TypeId × Value → H} {w : World} {base : Nat} {spare : Nat → Bool} {held : Bool}
theorem open_spansz {fuel : Nat} {cs : List Value} {x : DataW H × List MemPlace} (h : DataW.trod enc Tryz.prog w base spare held fuel 38 cs = some x) :
    ∃ A len cap, cs = [.slice A len cap] ∧ len ≤ maxLen ∧ ∃ S : List (Int × Int), S.length = len ∧ SpA w A S := by
  rcases Deep.open_slice_pairs Tryz.underlying38 Tryz.underlying121 (by kernel_rfl) rfl rfl (by kernel_rfl) (by kernel_rfl) h with ⟨hcs, _⟩ | ⟨a, len, cap, m, n, V0, V1, D0, D1, P0, P1, hcs, hb, hl, hm, hmm, _, hx⟩
  · exact ⟨none, 0, 0, hcs, Nat.zero_le _, [], rfl, SpA.nil _ _⟩
  · have each : ∀ i, i < len → ∃ q : Int × Int, w.cell? (a.add (i * 2)) = some (.int .i64 q.1) ∧ w.cell? (a.add (i * 2 + 1)) = some (.int .i64 q.2) := by
      intro i hi
      obtain ⟨e0, e1, g0, g1⟩ := hx i (by rw [hmm]; split <;> omega)
      obtain ⟨u, hu, _, _⟩ := DataW.trod_int Tryz.underlying3 g0
      obtain ⟨f, hf, _, _⟩ := DataW.trod_int Tryz.underlying3 g1
      simp only [List.cons.injEq, and_true] at hu hf
      rw [hu] at e0
      rw [hf] at e1
      exact ⟨(u, f), e0, e1⟩
    obtain ⟨q, hq⟩ := Deep.choose_lt each
    refine ⟨some a, len, cap, hcs, Nat.le_trans hl hm, (List.range len).map q, by simp, ?_⟩
    intro i y hy
    have hi : i < len := by have := (List.getElem?_eq_some_iff.1 hy).1; simpa using this
    obtain ⟨e0, e1⟩ := hq i hi
    have hs : a.spot = none := by
      have := World.cell?_spot (hq 0 (by omega)).1
      simpa [Addr.add] using this
    obtain ⟨xb, xo, spot⟩ := a
    simp only at hs
    subst hs
    have he : y = q i := by simp [hi] at hy; exact hy.symm
    subst he
    simp only [radd] at e0 e1
    refine ⟨xb, xo, rfl, by simpa using block_lt_of_cell e0, e0, ?_⟩
    rw [Nat.add_assoc]
    exact e1
set_option maxRecDepth 20000 in
set_option maxHeartbeats 1000000 in
theorem open_keyz : ∀ (fuel : Nat) {cs : List Value} {x : DataW H × List MemPlace}, DataW.trod enc Tryz.prog w base spare held fuel 41 cs = some x → ∃ k, KZ w k (.agg cs.toArray) := by
  intro fuel
  induction fuel using Nat.strongRecOn with
  | _ fuel ih =>
    intro cs x h
    obtain ⟨xs, n, hn, hxy, hlen, hxl, hf⟩ := DataW.trod_struct Tryz.underlying41 h
    have hlen5 : cs.length = 5 := hlen.trans (by kernel_rfl)
    match xs, hxl, cs, hlen5 with
    | [y0, y1, y2, y3, y4], _, [v0, v1, v2, v3, v4], _ =>
      have g0 := hf 0 _ rfl
      have g1 := hf 1 _ rfl
      have g2 := hf 2 _ rfl
      have g3 := hf 3 _ rfl
      have g4 := hf 4 _ rfl
      have c0 : Tryz.prog.cellsOf 3 = 1 := by kernel_rfl
      have c2 : Tryz.prog.cellsOf 9 = 1 := by kernel_rfl
      have c3 : Tryz.prog.cellsOf 38 = 1 := by kernel_rfl
      have c4 : Tryz.prog.cellsOf 39 = 1 := by kernel_rfl
      simp [c0, c2, c3, c4] at g0 g1 g2 g3 g4
      obtain ⟨kd, hkd, _, _⟩ := DataW.trod_int Tryz.underlying3 g0
      obtain ⟨f, hff, _, _⟩ := DataW.trod_int Tryz.underlying3 g1
      obtain ⟨t, ht, _, htz⟩ := DataW.trod_string Tryz.underlying9 g2
      obtain ⟨AS, nS, cS, hS, hSl, S, hSn, hsp⟩ := open_spansz g3
      simp only [List.cons.injEq, and_true] at hkd hff ht hS
      subst hkd
      subst hff
      subst ht
      subst hS
      rcases DataW.trod_slice Tryz.underlying39 g4 with ⟨hK, _⟩ | ⟨a, len, cap, elems, rest, m, hm, hK, _, hb, hl, hc, hel, he, _, _⟩
      · simp only [List.cons.injEq, and_true] at hK
        subst hK
        refine ⟨.mk kd f t S [], ?_⟩
        rw [KZ]
        exact ⟨AS, nS, cS, none, 0, 0, rfl, hSn, hSl, htz, hsp, rfl, Nat.zero_le _, by rw [KZs]; trivial⟩
      · simp only [List.cons.injEq, and_true] at hK
        subst hK
        have ce : Tryz.prog.cellsOf 41 = 5 := by kernel_rfl
        rw [ce] at he
        have each : ∀ i, i < len → ∃ k : KT, ∃ u0 u1 u2 u3 u4 : Value, w.cell? ((a.add (i * 5)).add 0) = some u0 ∧ w.cell? ((a.add (i * 5)).add 1) = some u1 ∧ w.cell? ((a.add (i * 5)).add 2) = some u2 ∧ w.cell? ((a.add (i * 5)).add 3) = some u3 ∧ w.cell? ((a.add (i * 5)).add 4) = some u4 ∧ KZ w k (.agg #[u0, u1, u2, u3, u4]) := by
          intro i hi
          have h1 := he i hi
          obtain ⟨z, hz⟩ : ∃ z, elems[i]? = some z := ⟨_, List.getElem?_eq_getElem (by omega)⟩
          rw [hz] at h1
          obtain ⟨cs', h2, h3⟩ := Option.bind_eq_some_iff.1 h1
          obtain ⟨_, hl5, hcell⟩ := World.cells?_some h2
          obtain ⟨k, hk⟩ := ih m (by omega) h3
          match cs', hl5 with
          | [u0, u1, u2, u3, u4], _ =>
            exact ⟨k, u0, u1, u2, u3, u4, by simpa using hcell 0 (by omega), by simpa using hcell 1 (by omega), by simpa using hcell 2 (by omega), by simpa using hcell 3 (by omega), by simpa using hcell 4 (by omega), hk⟩
        have : Inhabited KT := ⟨.mk 0 0 ⟨#[]⟩ [] []⟩
        obtain ⟨q, hq⟩ := Deep.choose_lt each
        refine ⟨.mk kd f t S ((List.range' 0 len).map q), ?_⟩
        rw [KZ]
        refine ⟨AS, nS, cS, some a, len, cap, rfl, hSn, hSl, htz, hsp, by simp, Nat.le_trans hl hc, ?_⟩
        by_cases h0 : len = 0
        · subst h0
          simp [KZs]
        · have hs : a.spot = none := by
            obtain ⟨u0, _, _, _, _, e0, _⟩ := hq 0 (by omega)
            have := World.cell?_spot e0
            simpa [Addr.add] using this
          obtain ⟨xb, xo, spot⟩ := a
          simp only at hs
          subst hs
          refine kzs_of len 0 fun j hj => ?_
          obtain ⟨u0, u1, u2, u3, u4, e0, e1, e2, e3, e4, hk⟩ := hq j hj
          simp only [radd, Nat.add_zero] at e0 e1 e2 e3 e4
          rw [Nat.zero_add]
          exact ⟨u0, u1, u2, u3, u4, by simpa using block_lt_of_cell e0, e0, e1, e2, e3, e4, hk⟩
end
end Go.Proofs.YtnfigpknejmkmaaGreatDoor
namespace Go.Proofs.YtnfigpknejmkmaaGreatDoor
open Go.RowKit
set_option linter.unusedVariables false

mutual
theorem KZ.below {w w' : World} {B : Nat} (hb : Below B w w') (hB : w.heap.size ≤ B) : ∀ (k : KT) (v : Value), KZ w k v → KZ w' k v
  | .mk kd f t S ks, v, h => by
    rw [KZ] at h ⊢
    obtain ⟨AS, nS, cS, AK, nK, cK, h1, h2, h3, h4, h5, h6, h7, h8⟩ := h
    exact ⟨AS, nS, cS, AK, nK, cK, h1, h2, h3, h4, h5.below hb hB, h6, h7, KZs.below hb hB AK 0 ks h8⟩
theorem KZs.below {w w' : World} {B : Nat} (hb : Below B w w') (hB : w.heap.size ≤ B) (AK : Option Addr) : ∀ (i : Nat) (ks : List KT), KZs w AK i ks → KZs w' AK i ks
  | i, [], h => by rw [KZs]; trivial
  | i, k :: r, h => by
    rw [KZs] at h ⊢
    obtain ⟨⟨b, o, v0, v1, v2, v3, v4, h1, h2, c0, c1, c2, c3, c4, h3⟩, h4⟩ := h
    have hc : ∀ j, w'.cell? ⟨b, j, none⟩ = w.cell? ⟨b, j, none⟩ := fun j => hb.cell (by show b < B; omega)
    exact ⟨⟨b, o, v0, v1, v2, v3, v4, h1, Nat.lt_of_lt_of_le h2 hb.size, (hc _).trans c0, (hc _).trans c1, (hc _).trans c2, (hc _).trans c3, (hc _).trans c4, KZ.below hb hB k _ h3⟩, KZs.below hb hB AK (i + 1) r h4⟩
end
theorem KZs.get {w : World} {AK : Option Addr} : ∀ {i : Nat} {ks : List KT} {j : Nat} {k : KT}, KZs w AK i ks → ks[j]? = some k →
    ∃ (b o : Nat) (v0 v1 v2 v3 v4 : Value), AK = some ⟨b, o, none⟩ ∧ b < w.heap.size ∧ w.cell? ⟨b, o + (i + j) * 5, none⟩ = some v0 ∧ w.cell? ⟨b, o + (i + j) * 5 + 1, none⟩ = some v1 ∧ w.cell? ⟨b, o + (i + j) * 5 + 2, none⟩ = some v2 ∧
      w.cell? ⟨b, o + (i + j) * 5 + 3, none⟩ = some v3 ∧ w.cell? ⟨b, o + (i + j) * 5 + 4, none⟩ = some v4 ∧ KZ w k (.agg #[v0, v1, v2, v3, v4])
  | i, [], j, k, h, hk => by simp at hk
  | i, x :: r, 0, k, h, hk => by
    rw [KZs] at h
    cases hk
    exact h.1
  | i, x :: r, j + 1, k, h, hk => by
    rw [KZs] at h
    have h1 := KZs.get h.2 hk
    rw [show i + 1 + j = i + (j + 1) by omega] at h1
    exact h1
mutual
/-- The size of a tree. -/
def szT : KT → Nat
  | .mk kd f t S ks => t.size + S.length + ks.length + szL ks
def szL : List KT → Nat
  | [] => 0
  | k :: r => szT k + szL r
end
theorem szL_take {k : KT} : ∀ {ks : List KT} {i : Nat}, ks[i]? = some k → szL (ks.take (i + 1)) = szL (ks.take i) + szT k
  | [], i, h => by simp at h
  | x :: r, 0, h => by
    cases h
    simp [szL]
  | x :: r, i + 1, h => by
    have h1 := szL_take (ks := r) h
    rw [List.take_succ_cons, List.take_succ_cons, szL, szL, h1]
    omega
theorem szL_le : ∀ (ks : List KT) (i : Nat), szL (ks.take i) ≤ szL ks
  | [], i => by simp
  | x :: r, 0 => by simp [szL]
  | x :: r, i + 1 => by
    have h1 := szL_le r i
    rw [List.take_succ_cons, szL, szL]
    omega
/-- What is left. -/
def lft (x : Int) : Int := if x < 0 then -1 else x
theorem lft_no {x : Int} (h : x < 0) : lft x = -1 := if_pos h
theorem lft_yes {x : Int} (h : 0 ≤ x) : lft x = x := if_neg (by omega)
theorem szk_spans {left : Int} {n : Nat} (A : Option Addr) (c : Nat) (w : World) (h0 : 0 ≤ left) (h1 : left ≤ 1048576) (hn : n ≤ maxLen) :
    Calls Tryz.prog 45 #[.slice A n c, .int .i64 left] w fun e w' => e = .returned (.int .i64 (lft (left - n))) ∧ Below w.heap.size w w' := by
  have hM : (n : Int) ≤ 9223372036854775807 := by unfold maxLen at hn; omega
  obtain ⟨x, hx⟩ : ∃ x, left - (n : Int) = x := ⟨_, rfl⟩
  have W : IntKind.i64.wrap (left - (n : Int)) = x := (IntWalk.i64_in _ (by omega)).trans hx
  rw [hx]
  by_cases hl : x < 0
  · rw [lft_no hl]
    clear hx hn
    go_enter Tryz.func45, Tryz.ntmps45
    go_wp2
    go_ret
    exact ⟨rfl, Below.refl _ _⟩
  · rw [lft_yes (by omega)]
    clear hx hn
    go_enter Tryz.func45, Tryz.ntmps45
    go_wp2
    go_ret
    exact ⟨rfl, Below.refl _ _⟩
/-- What szKey answers for a key. -/
def SzK (w : World) (k : KT) (l : Int) (e : Ending) (w' : World) : Prop := e = .returned (.int .i64 (lft (l - (szT k : Int)))) ∧ Below w.heap.size w w'
set_option maxRecDepth 20000 in
set_option maxHeartbeats 2000000 in
theorem sz_keys_step {n : Nat} (ih : ∀ (k : KT) (v : Value) (w1 : World) (l : Int), nodesT k ≤ n → 0 ≤ l → l ≤ 1048576 → KZ w1 k v → Calls Tryz.prog 16 #[v, .int .i64 l] w1 (SzK w1 k l))
    {ks : List KT} (hks : ∀ k ∈ ks, nodesT k ≤ n) {AK : Option Addr} {nK : Nat} (cK : Nat) (w : World) (h : KZs w AK 0 ks) (hn : ks.length = nK) (hm : nK ≤ maxLen) {left : Int} (h0 : 0 ≤ left) (h1 : left ≤ 1048576) :
    Calls Tryz.prog 46 #[.slice AK nK cK, .int .i64 left] w fun e w' => e = .returned (.int .i64 (lft (left - ((nK + szL ks : Nat) : Int)))) ∧ Below w.heap.size w w' := by
  have hM : (nK : Int) ≤ 9223372036854775807 := by unfold maxLen at hm; omega
  obtain ⟨R, hR⟩ : ∃ R, lft (left - ((nK + szL ks : Nat) : Int)) = R := ⟨_, rfl⟩
  have HNO : Hid (left < (nK : Int) + szL ks → R = -1) := Lib.hid fun hl => by rw [← hR]; exact lft_no (by omega)
  have HYES : Hid ((nK : Int) + szL ks ≤ left → R = left - nK - szL ks) := Lib.hid fun hl => by rw [← hR, lft_yes (by omega)]; omega
  obtain ⟨x, hx⟩ : ∃ x, left - (nK : Int) = x := ⟨_, rfl⟩
  have W : IntKind.i64.wrap (left - (nK : Int)) = x := (IntWalk.i64_in _ (by omega)).trans hx
  have HIH := Lib.hid ih
  have HKS := Lib.hid h
  have HNK := Lib.hid hn
  have HAL := Lib.hid hks
  rw [hR]
  clear ih h hn hks hR hm
  by_cases hl : x < 0
  · have HRR : Hid (R = -1) := Lib.hid (HNO.out (by omega))
    clear hx
    go_enter Tryz.func46, Tryz.ntmps46
    go_wp2
    go_ret
    exact ⟨by rw [HRR.out]; rfl, Below.refl _ _⟩
  · obtain ⟨s0, rfl⟩ : ∃ s0 : Nat, x = (s0 : Int) := ⟨x.toNat, by omega⟩
    have hs0 : s0 ≤ 1048576 := by omega
    have hnk : nK ≤ 1048576 := by omega
    have HX := Lib.hid hx
    have HBW := Lib.hid (Below.refl w.heap.size w)
    clear hx
    go_enter Tryz.func46, Tryz.ntmps46
    go_wp2
    go_loopw [1, 5] (fun lv iv wr => ∃ (i s : Nat), i ≤ nK ∧ s ≤ 1048576 ∧ lv = .int .i64 (s : Int) ∧ iv = .int .i64 (i : Int) ∧ Hid (s + szL (ks.take i) = s0) ∧ Hid (Below w.heap.size w wr)) (fun _ iv _ => nK - (intOf iv).toNat)
    case atStart => exact ⟨0, s0, Nat.zero_le _, hs0, by go_num, by go_num, Lib.hid (by simp [szL]), HBW⟩
    case round =>
      obtain ⟨i, s, hi, hs, rfl, rfl, HSR, HBr⟩ := hrel
      by_cases hlt : i < nK
      · have i0 : (0 : Int) ≤ (i : Int) := by omega
        have i5 : (i : Int) < (nK : Int) := by omega
        obtain ⟨k, hk⟩ : ∃ x, ks[i]? = some x := ⟨_, List.getElem?_eq_getElem (by rw [HNK.out]; exact hlt)⟩
        obtain ⟨b, o, v0, v1, v2, v3, v4, rfl, hbz, c0, c1, c2, c3, c4, hkz⟩ := (KZs.below HBr.out (Nat.le_refl _) _ _ _ HKS.out).get hk
        rw [Nat.zero_add] at c0 c1 c2 c3 c4
        have HC := Lib.hid (HIH.out k _ wr (s : Int) (HAL.out k (List.mem_of_getElem? hk)) (by omega) (by omega) hkz)
        have HT := Lib.hid (szL_take hk)
        have HLE := Lib.hid (szL_le ks (i + 1))
        have W1 : IntKind.i64.wrap ((i : Int) + 1) = (i : Int) + 1 := IntWalk.i64_in _ (by omega)
        clear hk hkz hbz
        go_wp2_with fail
        refine HC.out.mono ?_
        rintro e w2 ⟨rfl, hb⟩
        have HB2 := Lib.hid (HBr.out.trans (hb.mono HBr.out.size))
        clear hb c0 c1 c2 c3 c4
        obtain ⟨y, hy⟩ : ∃ y, lft ((s : Int) - (szT k : Int)) = y := ⟨_, rfl⟩
        rw [hy]
        by_cases hy0 : y < 0
        · have hlt2 : s < szT k := by
            rcases Nat.lt_or_ge s (szT k) with h | h
            · exact h
            · rw [lft_yes (by omega)] at hy; omega
          have HRR : Hid (R = -1) := Lib.hid (HNO.out (by have := HSR.out; have := HT.out; have := HLE.out; have := HX.out; omega))
          clear hy hlt2
          go_wp2
          go_ret
          exact ⟨by rw [HRR.out]; rfl, HB2.out⟩
        · have hge : szT k ≤ s := by
            rcases Nat.lt_or_ge s (szT k) with h | h
            · rw [lft_no (by omega)] at hy; omega
            · exact h
          obtain ⟨t, ht⟩ : ∃ t, s - szT k = t := ⟨_, rfl⟩
          have hyt : y = (t : Int) := by rw [← hy, lft_yes (by omega)]; omega
          subst hyt
          have HS2 : Hid (t + szL (ks.take (i + 1)) = s0) := Lib.hid (by rw [HT.out]; have := HSR.out; omega)
          have ht2 : t ≤ 1048576 := by omega
          clear hy hge ht
          go_wp2
          go_roundw
          case rel => exact ⟨i + 1, t, by omega, ht2, by go_num, by go_num, HS2, HB2⟩
          case measure => simp [intOf]; omega
      · have i5 : ¬ (i : Int) < (nK : Int) := by omega
        have hin : i = nK := by omega
        subst hin
        have HRR : Hid (R = (s : Int)) := Lib.hid (by
          have h1 := HSR.out
          rw [List.take_of_length_le (Nat.le_of_eq HNK.out)] at h1
          have h2 := HX.out
          rw [HYES.out (by omega)]
          omega)
        go_wp2
        go_ret
        exact ⟨by rw [HRR.out]; rfl, HBr.out⟩
set_option maxHeartbeats 2000000 in
theorem sz_key_step {n : Nat} (ih : ∀ (k : KT) (v : Value) (w1 : World) (l : Int), nodesT k ≤ n → 0 ≤ l → l ≤ 1048576 → KZ w1 k v → Calls Tryz.prog 16 #[v, .int .i64 l] w1 (SzK w1 k l))
    (k : KT) (v : Value) (w : World) {left : Int} (hn : nodesT k ≤ n + 1) (h0 : 0 ≤ left) (h1 : left ≤ 1048576) (h : KZ w k v) : Calls Tryz.prog 16 #[v, .int .i64 left] w (SzK w k left) := by
  obtain ⟨kd, f, t, S, ks⟩ := k
  rw [KZ] at h
  obtain ⟨AS, nS, cS, AK, nK, cK, rfl, h2, h3, h4, h5, h6, h7, h8⟩ := h
  have hT : szT (.mk kd f t S ks) = t.size + nS + (nK + szL ks) := by rw [szT, h2, h6]; omega
  have hall : ∀ k ∈ ks, nodesT k ≤ n := fun k hk => by
    rw [nodesT] at hn
    obtain ⟨i, hi⟩ := List.getElem?_of_mem hk
    have := nodesL_lt hi
    omega
  obtain ⟨B, hB⟩ : ∃ B, w.heap.size = B := ⟨_, rfl⟩
  obtain ⟨wa, hwa⟩ : ∃ wa, w.alloc (.cells #[.int .i64 kd, .int .i64 f, .string t, .slice AS nS cS, .slice AK nK cK] 41) = wa := ⟨_, rfl⟩
  have HC := Lib.hid (show Whole wa B 41 #[.int .i64 kd, .int .i64 f, .string t, .slice AS nS cS, .slice AK nK cK] by rw [← hwa]; exact hB ▸ Whole.made w _ _)
  have HBa := Lib.hid (show Below w.heap.size w wa by rw [← hwa]; exact below_newK w _)
  have HKS := Lib.hid (KZs.below HBa.out (Nat.le_refl _) _ _ _ h8)
  have HWA := Lib.hid hwa
  have HBB := Lib.hid hB
  have HNS := Lib.hid h3
  have HNK := Lib.hid h6
  have HNM := Lib.hid h7
  have HIH := Lib.hid ih
  have HALL := Lib.hid hall
  have htz : (t.size : Int) ≤ 9223372036854775807 := by unfold maxLen at h4; omega
  obtain ⟨R, hR⟩ : ∃ R, lft (left - (szT (.mk kd f t S ks) : Int)) = R := ⟨_, rfl⟩
  obtain ⟨x, hx⟩ : ∃ x, left - (t.size : Int) = x := ⟨_, rfl⟩
  have W : IntKind.i64.wrap (left - (t.size : Int)) = x := (IntWalk.i64_in _ (by omega)).trans hx
  have HNO : Hid (x - nS - (nK + szL ks) < 0 → R = -1) := Lib.hid fun hl => by rw [← hR]; exact lft_no (by rw [hT]; omega)
  have HYES : Hid (0 ≤ x - nS - (nK + szL ks) → R = x - nS - (nK + szL ks)) := Lib.hid fun hl => by rw [← hR, lft_yes (by rw [hT]; omega), hT]; omega
  have hx1 : x ≤ 1048576 := by omega
  unfold SzK
  rw [hR]
  clear hn h2 h3 h4 h5 h6 h7 h8 hT hall hwa hB ih hR
  have z2 : (w.alloc (.cells #[.int .i64 kd, .int .i64 f, .string t, .slice AS nS cS, .slice AK nK cK] 41)).cell? ⟨w.heap.size, 2, none⟩ = some (.string t) := by rw [HWA.out, HBB.out]; exact HC.out.cell 2
  have z3 : (w.alloc (.cells #[.int .i64 kd, .int .i64 f, .string t, .slice AS nS cS, .slice AK nK cK] 41)).cell? ⟨w.heap.size, 3, none⟩ = some (.slice AS nS cS) := by rw [HWA.out, HBB.out]; exact HC.out.cell 3
  by_cases hl : x < 0
  · have HRR : Hid (R = -1) := Lib.hid (HNO.out (by omega))
    clear hx
    go_enter Tryz.func16, Tryz.ntmps16
    go_wp2
    go_ret
    exact ⟨by rw [HRR.out]; rfl, HWA.out ▸ HBa.out⟩
  · have hl0 : 0 ≤ x := by omega
    clear hx
    go_enter Tryz.func16, Tryz.ntmps16
    go_wp2_with fail
    rw [HWA.out, HBB.out]
    refine (szk_spans AS cS wa hl0 hx1 HNS.out).mono ?_
    rintro e w2 ⟨rfl, hb⟩
    have HB2 := Lib.hid (HBa.out.trans (hb.mono HBa.out.size))
    have HC2 := Lib.hid (HC.out.below hb HC.out.lt)
    have HKS2 := Lib.hid (KZs.below hb (Nat.le_refl _) _ _ _ HKS.out)
    clear hb z2 z3
    obtain ⟨y, hy⟩ : ∃ y, lft (x - (nS : Int)) = y := ⟨_, rfl⟩
    rw [hy]
    by_cases hy0 : y < 0
    · have HRR : Hid (R = -1) := Lib.hid (HNO.out (by
        rcases Int.lt_or_le (x - nS) 0 with h | h
        · omega
        · rw [lft_yes h] at hy; omega))
      clear hy
      go_wp2
      go_ret
      exact ⟨by rw [HRR.out]; rfl, HB2.out⟩
    · have hyx : y = x - nS := by
        rcases Int.lt_or_le (x - nS) 0 with h | h
        · rw [lft_no h] at hy; omega
        · rw [← hy, lft_yes h]
      have HYX := Lib.hid hyx
      have hy1 : y ≤ 1048576 := by omega
      have hy00 : 0 ≤ y := by omega
      clear hy hyx
      have z4 : w2.cell? ⟨B, 4, none⟩ = some (.slice AK nK cK) := HC2.out.cell 4
      go_wp2_with fail
      refine (sz_keys_step HIH.out HALL.out cK w2 HKS2.out HNK.out HNM.out hy00 hy1).mono ?_
      rintro e w3 ⟨rfl, hb⟩
      have HB3 := Lib.hid (HB2.out.trans (hb.mono HB2.out.size))
      clear hb z4
      obtain ⟨u, hu⟩ : ∃ u, lft (y - ((nK + szL ks : Nat) : Int)) = u := ⟨_, rfl⟩
      rw [hu]
      have HRU : Hid (R = u) := Lib.hid (by
        have h1 := HYX.out
        rcases Int.lt_or_le (y - ((nK + szL ks : Nat) : Int)) 0 with h | h
        · rw [lft_no h] at hu
          rw [HNO.out (by omega)]
          exact hu
        · rw [lft_yes h] at hu
          rw [HYES.out (by omega)]
          omega)
      by_cases hu0 : u < 0
      · have hu1 : u = -1 := by
          rcases Int.lt_or_le (y - ((nK + szL ks : Nat) : Int)) 0 with h | h
          · rw [← hu]; exact lft_no h
          · rw [lft_yes h] at hu; omega
        have HUU := Lib.hid hu1
        clear hu hu1
        go_wp2
        go_ret
        exact ⟨by rw [HRU.out, HUU.out]; rfl, HB3.out⟩
      · clear hu
        go_wp2
        go_ret
        exact ⟨by rw [HRU.out]; rfl, HB3.out⟩
theorem sz_key : ∀ (n : Nat) (k : KT) (v : Value) (w : World) (l : Int), nodesT k ≤ n → 0 ≤ l → l ≤ 1048576 → KZ w k v → Calls Tryz.prog 16 #[v, .int .i64 l] w (SzK w k l)
  | 0, k, v, w, l, hn, _, _, _ => by have := nodesT_pos k; omega
  | n + 1, k, v, w, l, hn, h0, h1, h => sz_key_step (fun k v w1 l a b c d => sz_key n k v w1 l a b c d) k v w hn h0 h1 h
end Go.Proofs.YtnfigpknejmkmaaGreatDoor
namespace Go.Proofs.YtnfigpknejmkmaaGreatDoor
open Go.RowKit
set_option linter.unusedVariables false

theorem take_same {α : Type} {L M : List α} {k : Nat} {x : α} (h : L.take k = M.take k) (hl : L[k]? = some x) (hm : M[k]? = some x) : L.take (k + 1) = M.take (k + 1) := by
  rw [List.take_add_one, List.take_add_one, h, hl, hm]
theorem take_diff {α : Type} {L M : List α} {k : Nat} {x y : α} (hl : L[k]? = some x) (hm : M[k]? = some y) (h : x ≠ y) : L ≠ M := by
  rintro rfl
  rw [hl] at hm
  exact h (Option.some.inj hm)
theorem len_diff {α : Type} {L M : List α} (h : L.length ≠ M.length) : L ≠ M := fun e => h (by rw [e])
/-- A truth value is told, and old memory stays. -/
def Tests (w : World) (o : Bool) (e : Ending) (w' : World) : Prop := e = .returned (.bool o) ∧ Below w.heap.size w w'
theorem tests_mk {w w' : World} {o p : Bool} (h : o = p) (hb : Below w.heap.size w w') : Tests w o (.returned (.bool p)) w' := ⟨by rw [h], hb⟩
theorem dec_yes {p : Prop} [Decidable p] (h : p) : decide p = true := decide_eq_true h
theorem dec_no {p : Prop} [Decidable p] (h : ¬ p) : decide p = false := decide_eq_false h

theorem below_eq {a w w' : World} (h : Below a.heap.size a w) (h2 : Below w.drew.heap.size w.drew w') : Below a.heap.size a w' := by
  have h3 : Below w.heap.size w w' := ⟨h2.os, h2.tape, h2.output, h2.size, h2.block⟩
  exact h.trans (h3.mono h.size)
set_option maxHeartbeats 2000000 in
theorem eq_span_yes (x1 x2 : Int) (w : World) :
    Calls Tryz.prog 70 #[.agg #[.int .i64 x1, .int .i64 x2], .agg #[.int .i64 x1, .int .i64 x2]] w (Tests w true) := by
  have h1 : (x1 != x1) = false := by simp
  have h2 : (x2 != x2) = false := by simp
  go_enter Tryz.func70, Tryz.ntmps70
  go_wp2
  go_ret
  exact ⟨rfl, ((Below.refl _ _).alloc (Nat.le_refl _) _).alloc (by simp) _⟩
set_option maxHeartbeats 2000000 in
theorem eq_span_no (x1 x2 y1 y2 : Int) (w : World) (h : (x1, x2) ≠ (y1, y2)) :
    Calls Tryz.prog 70 #[.agg #[.int .i64 x1, .int .i64 x2], .agg #[.int .i64 y1, .int .i64 y2]] w (Tests w false) := by
  by_cases e1 : x1 = y1
  · have e2 : ¬ x2 = y2 := fun e => h (by rw [e1, e])
    subst e1
    have h1 : (x1 != x1) = false := by simp
    have h2 : (x2 != y2) = true := by simpa using e2
    clear e2 h
    go_enter Tryz.func70, Tryz.ntmps70
    go_wp2
    go_ret
    exact ⟨rfl, ((Below.refl _ _).alloc (Nat.le_refl _) _).alloc (by simp) _⟩
  · have h1 : (x1 != y1) = true := by simpa using e1
    clear e1 h
    go_enter Tryz.func70, Tryz.ntmps70
    go_wp2
    go_ret
    exact ⟨rfl, ((Below.refl _ _).alloc (Nat.le_refl _) _).alloc (by simp) _⟩
set_option maxHeartbeats 4000000 in
theorem eq_spans (A A2 : Option Addr) (cap cap2 : Nat) (L M : List (Int × Int)) (w : World) (h : SpA w A L) (h2 : SpA w A2 M) (hl : L.length ≤ 33554432) (hl2 : M.length ≤ 33554432) :
    Calls Tryz.prog 38 #[.slice A L.length cap, .slice A2 M.length cap2] w (Tests w (decide (L = M))) := by
  have H := Lib.hid h
  have H2 := Lib.hid h2
  clear h h2
  by_cases hlen : L.length = M.length
  · have hlb : ((L.length : Int) != (M.length : Int)) = false := by rw [hlen]; simp
    obtain ⟨m, hm⟩ : ∃ m, L.length = m := ⟨_, rfl⟩
    have hm2 : M.length = m := by rw [← hlen, hm]
    have HM := Lib.hid hm
    have HM2 := Lib.hid hm2
    rw [hm, hm2] at hlb
    rw [hm] at hl
    rw [hm, hm2]
    clear hlen hl2 hm hm2
    go_enter Tryz.func38, Tryz.ntmps38
    go_wp2
    go_loopw [5] (fun i wr => ∃ k : Nat, k ≤ m ∧ i = .int .i64 (k : Int) ∧ Hid (L.take k = M.take k) ∧ Hid (Below w.heap.size w wr)) (fun i _ => m - (intOf i).toNat)
    case atStart => exact ⟨0, Nat.zero_le _, by go_num, rfl, Below.refl _ _⟩
    case round =>
      obtain ⟨k, hk, rfl, HT, HB⟩ := hrel
      by_cases hlt : k < m
      · have h0 : (0 : Int) ≤ (k : Int) := by omega
        have h5 : (k : Int) < (m : Int) := by omega
        obtain ⟨⟨x1, x2⟩, hx⟩ : ∃ x, L[k]? = some x := ⟨_, List.getElem?_eq_getElem (by rw [HM.out]; exact hlt)⟩
        obtain ⟨⟨y1, y2⟩, hy⟩ : ∃ x, M[k]? = some x := ⟨_, List.getElem?_eq_getElem (by rw [HM2.out]; exact hlt)⟩
        obtain ⟨b, o, rfl, hb, c1, c2⟩ := (H.out.below HB.out (Nat.le_refl _)) k _ hx
        obtain ⟨b', o', rfl, hb', d1, d2⟩ := (H2.out.below HB.out (Nat.le_refl _)) k _ hy
        have HX := Lib.hid hx
        have HY := Lib.hid hy
        clear hx hy
        by_cases hd : (x1, x2) ≠ (y1, y2)
        · have HD := Lib.hid hd
          have HNE : Hid (L ≠ M) := take_diff HX.out HY.out hd
          clear hd
          go_wp2
          go_region_held3 (fun w' => w'.cell? ⟨b, o + k * 2, none⟩ = some (.int .i64 x1) ∧ w'.cell? ⟨b, o + k * 2 + 1, none⟩ = some (.int .i64 x2) ∧ w'.cell? ⟨b', o' + k * 2, none⟩ = some (.int .i64 y1) ∧ w'.cell? ⟨b', o' + k * 2 + 1, none⟩ = some (.int .i64 y2)) (go_keep) (first | (go_at_call 70; refine (eq_span_no _ _ _ _ _ HD.out).mono ?_; rintro e w5 ⟨rfl, hb5⟩; have k1 : w5.cell? ⟨b, o + k * 2, none⟩ = some (.int .i64 x1) := (hb5.cell (p := ⟨b, o + k * 2, none⟩) hb).trans c1; have k2 : w5.cell? ⟨b, o + k * 2 + 1, none⟩ = some (.int .i64 x2) := (hb5.cell (p := ⟨b, o + k * 2 + 1, none⟩) hb).trans c2; have k3 : w5.cell? ⟨b', o' + k * 2, none⟩ = some (.int .i64 y1) := (hb5.cell (p := ⟨b', o' + k * 2, none⟩) hb').trans d1; have k4 : w5.cell? ⟨b', o' + k * 2 + 1, none⟩ = some (.int .i64 y2) := (hb5.cell (p := ⟨b', o' + k * 2 + 1, none⟩) hb').trans d2; have HB5 := Lib.hid (below_eq HB.out hb5); clear hb5))
          all_goals
            go_wp2
            go_ret
            exact tests_mk (dec_no HNE.out) HB5.out
        · have hd := Prod.mk.inj (Decidable.not_not.1 hd)
          obtain ⟨rfl, rfl⟩ := hd
          go_wp2
          go_region_held3 (fun w' => w'.cell? ⟨b, o + k * 2, none⟩ = some (.int .i64 x1) ∧ w'.cell? ⟨b, o + k * 2 + 1, none⟩ = some (.int .i64 x2) ∧ w'.cell? ⟨b', o' + k * 2, none⟩ = some (.int .i64 x1) ∧ w'.cell? ⟨b', o' + k * 2 + 1, none⟩ = some (.int .i64 x2)) (go_keep) (first | (go_at_call 70; refine (eq_span_yes _ _ _).mono ?_; rintro e w5 ⟨rfl, hb5⟩; have k1 : w5.cell? ⟨b, o + k * 2, none⟩ = some (.int .i64 x1) := (hb5.cell (p := ⟨b, o + k * 2, none⟩) hb).trans c1; have k2 : w5.cell? ⟨b, o + k * 2 + 1, none⟩ = some (.int .i64 x2) := (hb5.cell (p := ⟨b, o + k * 2 + 1, none⟩) hb).trans c2; have k3 : w5.cell? ⟨b', o' + k * 2, none⟩ = some (.int .i64 x1) := (hb5.cell (p := ⟨b', o' + k * 2, none⟩) hb').trans d1; have k4 : w5.cell? ⟨b', o' + k * 2 + 1, none⟩ = some (.int .i64 x2) := (hb5.cell (p := ⟨b', o' + k * 2 + 1, none⟩) hb').trans d2; have HB5 := Lib.hid (below_eq HB.out hb5); clear hb5))
          all_goals
            go_wp2
            go_roundw
            case rel => exact ⟨k + 1, by omega, by go_num, take_same HT.out HX.out HY.out, HB5.out⟩
            case measure => simp [intOf]; omega
      · have h5 : ¬ (k : Int) < (m : Int) := by omega
        have HE : Hid (L = M) := by
          have h := HT.out
          rw [List.take_of_length_le (by rw [HM.out]; omega), List.take_of_length_le (by rw [HM2.out]; omega)] at h
          exact h
        go_wp2
        go_ret
        exact tests_mk (dec_yes HE.out) HB.out
  · have hlb : ((L.length : Int) != (M.length : Int)) = true := by simp; omega
    have HNE := Lib.hid (len_diff hlen)
    clear hlen
    go_enter Tryz.func38, Tryz.ntmps38
    go_wp2
    go_ret
    exact tests_mk (dec_no HNE.out) (Below.refl _ _)
set_option maxHeartbeats 1000000 in
theorem to_span (x1 x2 : Int) (w : World) : Calls Tryz.prog 78 #[.agg #[.int .i64 x1, .int .i64 x2]] w fun e w' => e = .returned (.agg #[.int .i64 x1, .int .i64 x2]) ∧ Below w.heap.size w w' := by
  go_enter Tryz.func78, Tryz.ntmps78
  go_wp2
  refine bodyPost_ret (v := .agg #[.int .i64 x1, .int .i64 x2]) (by simp [results, Tryz.results78, go_sem]) rfl ?_
  refine ⟨rfl, ?_⟩
  refine (((Below.refl _ _).alloc ?_ _).alloc ?_ _).alloc ?_ _ <;> (simp <;> try omega)

theorem made_spans (n : Nat) : (madeCells (Value.agg #[.int .i64 0, .int .i64 0]).cells (n * 2)).toList = spn (List.replicate n ((0 : Int), (0 : Int))) := by
  apply List.ext_getElem?
  intro j
  have hl : (spn (List.replicate n ((0 : Int), (0 : Int)))).length = n * 2 := by rw [spn_len, List.length_replicate]
  by_cases hj : j < n * 2
  · have h1 : (madeCells (Value.agg #[.int .i64 0, .int .i64 0]).cells (n * 2)).toList[j]? = some (.int .i64 0) := by
      simp [madeCells, Value.cells, hj]
      rcases (by omega : j % 2 = 0 ∨ j % 2 = 1) with e | e <;> simp [e]
    have hr : (List.replicate n ((0 : Int), (0 : Int)))[j / 2]? = some (0, 0) := by rw [List.getElem?_replicate, if_pos (by omega)]
    obtain ⟨s1, s2⟩ := spn_get _ _ _ hr
    rw [h1]
    rcases (by omega : j = j / 2 * 2 ∨ j = j / 2 * 2 + 1) with e | e
    · rw [e, s1]
    · rw [e, s2]
  · have h1 : (spn (List.replicate n ((0 : Int), (0 : Int))))[j]? = none := List.getElem?_eq_none (by rw [hl]; omega)
    have h2 : (madeCells (Value.agg #[.int .i64 0, .int .i64 0]).cells (n * 2)).toList[j]? = none := List.getElem?_eq_none (by simp [madeCells]; omega)
    rw [h1, h2]
theorem spn_set {L : List (Int × Int)} {k : Nat} {y x : Int × Int} (h : L[k]? = some y) : ((spn L).set (k * 2) (.int .i64 x.1)).set (k * 2 + 1) (.int .i64 x.2) = spn (L.set k x) := by
  have hk := (List.getElem?_eq_some_iff.1 h).1
  apply List.ext_getElem?
  intro j
  by_cases hj : j < L.length * 2
  · obtain ⟨z, hz⟩ : ∃ z, (L.set k x)[j / 2]? = some z := ⟨_, List.getElem?_eq_getElem (by rw [List.length_set]; omega)⟩
    obtain ⟨t1, t2⟩ := spn_get _ _ _ hz
    by_cases hjk : j / 2 = k
    · subst hjk
      rw [List.getElem?_set_self hk] at hz
      cases hz
      rcases (by omega : j = j / 2 * 2 ∨ j = j / 2 * 2 + 1) with e | e
      · rw [show (((spn L).set (j / 2 * 2) (.int .i64 x.1)).set (j / 2 * 2 + 1) (.int .i64 x.2))[j]? = (((spn L).set (j / 2 * 2) (.int .i64 x.1)).set (j / 2 * 2 + 1) (.int .i64 x.2))[j / 2 * 2]? from congrArg _ e, show (spn (L.set (j / 2) x))[j]? = (spn (L.set (j / 2) x))[j / 2 * 2]? from congrArg _ e, t1, List.getElem?_set_ne (by omega), List.getElem?_set_self (by rw [spn_len]; omega)]
      · rw [show (((spn L).set (j / 2 * 2) (.int .i64 x.1)).set (j / 2 * 2 + 1) (.int .i64 x.2))[j]? = (((spn L).set (j / 2 * 2) (.int .i64 x.1)).set (j / 2 * 2 + 1) (.int .i64 x.2))[j / 2 * 2 + 1]? from congrArg _ e, show (spn (L.set (j / 2) x))[j]? = (spn (L.set (j / 2) x))[j / 2 * 2 + 1]? from congrArg _ e, t2, List.getElem?_set_self (by rw [List.length_set, spn_len]; omega)]
    · rw [List.getElem?_set_ne (fun e => hjk e.symm)] at hz
      obtain ⟨s1, s2⟩ := spn_get _ _ _ hz
      rw [List.getElem?_set_ne (by omega), List.getElem?_set_ne (by omega)]
      rcases (by omega : j = j / 2 * 2 ∨ j = j / 2 * 2 + 1) with e | e
      · rw [show (spn L)[j]? = (spn L)[j / 2 * 2]? from congrArg _ e, show (spn (L.set k x))[j]? = (spn (L.set k x))[j / 2 * 2]? from congrArg _ e, s1, t1]
      · rw [show (spn L)[j]? = (spn L)[j / 2 * 2 + 1]? from congrArg _ e, show (spn (L.set k x))[j]? = (spn (L.set k x))[j / 2 * 2 + 1]? from congrArg _ e, s2, t2]
  · rw [List.getElem?_eq_none (by simp [spn_len]; omega), List.getElem?_eq_none (by simp [spn_len]; omega)]
theorem Own.stored {w : World} {B g n cap : Nat} {L : List (Int × Int)} (h : Own w B (.slice (some ⟨g, 0, none⟩) n cap) L) {k : Nat} (hk : k < L.length) (x : Int × Int) :
    Own ((w.setCell ⟨g, k * 2, none⟩ (.int .i64 x.1)).setCell ⟨g, k * 2 + 1, none⟩ (.int .i64 x.2)) B (.slice (some ⟨g, 0, none⟩) n cap) (L.set k x) ∧
    w.grownBy ((w.setCell ⟨g, k * 2, none⟩ (.int .i64 x.1)).setCell ⟨g, k * 2 + 1, none⟩ (.int .i64 x.2)) (some g) := by
  have hn : n = L.length := by
    obtain ⟨A, c, he, _⟩ := h.form
    cases he
    rfl
  subst hn
  obtain ⟨h1, g1⟩ := World.ownsRow.stored h (k * 2) (.int .i64 x.1)
  obtain ⟨h2, g2⟩ := World.ownsRow.stored h1 (k * 2 + 1) (.int .i64 x.2)
  refine ⟨?_, gr_trans g1 g2⟩
  rw [spn_set (List.getElem?_eq_getElem hk)] at h2
  unfold Own
  rw [List.length_set]
  exact h2

theorem set_step {L : List (Int × Int)} {n k : Nat} {x z : Int × Int} (hn : L.length = n) (hx : L[k]? = some x) : (L.take k ++ List.replicate (n - k) z).set k x = L.take (k + 1) ++ List.replicate (n - (k + 1)) z := by
  have hk := (List.getElem?_eq_some_iff.1 hx).1
  have hl : (L.take k).length = k := by rw [List.length_take]; omega
  rw [List.set_append_right _ _ (by omega), hl, Nat.sub_self, show n - k = (n - (k + 1)) + 1 by omega, List.replicate_succ, List.set_cons_zero, List.take_add_one, hx, List.append_assoc]
  rfl
theorem own_row' {w : World} {B n cap : Nat} {A : Option Addr} {L : List (Int × Int)} (h : Own w B (.slice A n cap) L) : w.ownsRow B 108 2 (.slice A n cap) n (spn L) := by
  have hn : n = L.length := by
    obtain ⟨A, c, he, _⟩ := h.form
    cases he
    rfl
  subst hn
  exact h
theorem own_cells {w : World} {B n cap g k : Nat} {L : List (Int × Int)} {x : Int × Int} (h : Own w B (.slice (some ⟨g, 0, none⟩) n cap) L) (hx : L[k]? = some x) :
    w.cell? ⟨g, k * 2, none⟩ = some (.int .i64 x.1) ∧ w.cell? ⟨g, k * 2 + 1, none⟩ = some (.int .i64 x.2) := by
  obtain ⟨A, c, he, _, _, hs⟩ := h.form
  cases he
  obtain ⟨b, o, he, _, h1, h2⟩ := hs k x hx
  cases he
  rw [Nat.zero_add] at h1 h2
  exact ⟨h1, h2⟩

set_option maxHeartbeats 4000000 in
theorem to_spans (A : Option Addr) (cap n : Nat) (L : List (Int × Int)) (w : World) (hn : L.length = n) (h : SpA w A L) (hl : n ≤ 1048576) :
    Calls Tryz.prog 50 #[.slice A n cap] w fun e w' => ∃ g, e = .returned (.slice (some ⟨g, 0, none⟩) n n) ∧ Own w' w.heap.size (.slice (some ⟨g, 0, none⟩) n n) L ∧ Below w.heap.size w w' := by
  obtain ⟨i0, hi, hq0, hq1, hq2⟩ := info_parts Tryz.infoSpan
  have HN := Lib.hid hn
  have H := Lib.hid h
  clear hn h
  have hb2 : i0.bytes * n ≤ 281474976710656 := by rw [hq2]; omega
  have hb3 : n ≤ maxLen := by unfold maxLen; omega
  go_enter Tryz.func50, Tryz.ntmps50
  go_wp2_with (at_make; refine wpList_make_full _ rfl _ _ 24 rfl w.heap.size 108 i0 (.agg #[.int .i64 0, .int .i64 0]) 2 Tryz.underlying24 hi hq0 hq1 .i64 .i64 (n : Int) (n : Int) n rfl rfl rfl rfl hb2 hb3 (Nat.le_refl _) ?_)
  intro w1 hown hgrow
  obtain ⟨N, hN⟩ : ∃ N, w.heap.size = N := ⟨_, rfl⟩
  have HNN := Lib.hid hN
  have HB1 : Hid (Below N w w1) := hN ▸ (Below.refl _ _).grown hgrow (Nat.le_refl _) (fun z hz => by cases hz)
  have hN1 : N ≤ w1.heap.size := hN ▸ hgrow.size
  have ho1 : Own w1 N (.slice (some ⟨N, 0, none⟩) n n) (List.replicate n ((0 : Int), (0 : Int))) := by
    unfold Own
    rw [List.length_replicate, ← made_spans, ← hN]
    exact hown
  have HO1 := Lib.hid ho1
  rw [hN]
  clear hown hgrow ho1 hN
  go_wp2
  go_loopw [4] (fun i wr => ∃ k : Nat, k ≤ n ∧ i = .int .i64 (k : Int) ∧ N ≤ wr.heap.size ∧ Hid (Below N w wr) ∧ Hid (Own wr N (.slice (some ⟨N, 0, none⟩) n n) (L.take k ++ List.replicate (n - k) ((0 : Int), (0 : Int))))) (fun i _ => n - (intOf i).toNat)
  case atStart => exact ⟨0, Nat.zero_le _, by go_num, hN1, HB1, by rw [List.take_zero, List.nil_append, Nat.sub_zero]; exact HO1⟩
  case round =>
    obtain ⟨k, hk, rfl, hNr, HB, HO⟩ := hrel
    by_cases hlt : k < n
    · have h0 : (0 : Int) ≤ (k : Int) := by omega
      have h5 : (k : Int) < (n : Int) := by omega
      obtain ⟨⟨x1, x2⟩, hx⟩ : ∃ x, L[k]? = some x := ⟨_, List.getElem?_eq_getElem (by rw [HN.out]; omega)⟩
      obtain ⟨b, o, rfl, hbz, c1, c2⟩ := (H.out.below HB.out (Nat.le_of_eq HNN.out)) k _ hx
      have HX := Lib.hid hx
      clear hx
      go_wp2_with fail
      refine (to_span x1 x2 _).mono ?_
      rintro e w2 ⟨rfl, hb⟩
      have HB2 := Lib.hid (HB.out.trans (hb.mono hNr))
      have HO2 := Lib.hid (HO.out.kept hb)
      have hN2 := Nat.le_trans hNr hb.size
      clear hb
      obtain ⟨y, hy⟩ : ∃ y, (L.take k ++ List.replicate (n - k) ((0 : Int), (0 : Int)))[k]? = some y := ⟨_, List.getElem?_eq_getElem (by rw [List.length_append, List.length_take, List.length_replicate, HN.out]; omega)⟩
      obtain ⟨d1, d2⟩ := own_cells HO2.out hy
      have d3 := World.ownsRow.frozenAt (show w2.ownsRow N 108 2 (.slice (some ⟨N, 0, none⟩) n n) n _ from own_row' HO2.out) (k * 2)
      have d4 := World.ownsRow.frozenAt (show w2.ownsRow N 108 2 (.slice (some ⟨N, 0, none⟩) n n) n _ from own_row' HO2.out) (k * 2 + 1)
      have HST := Lib.hid (HO2.out.stored (k := k) (List.getElem?_eq_some_iff.1 hy).1 (x1, x2))
      clear hy
      go_wp2
      go_roundw
      case rel =>
        refine ⟨k + 1, by omega, by go_num, by simpa using hN2, (HB2.out.setCell (Nat.le_refl _) _).setCell (Nat.le_refl _) _, ?_⟩
        rw [← set_step HN.out HX.out]
        exact HST.out.1
      case measure => simp [intOf]; omega
    · have h5 : ¬ (k : Int) < (n : Int) := by omega
      have hkn : k = n := by omega
      have ho := HO.out
      rw [hkn, List.take_of_length_le (by rw [HN.out]; exact Nat.le_refl _), Nat.sub_self, List.replicate_zero, List.append_nil] at ho
      have HOE := Lib.hid ho
      clear ho hkn
      go_wp2
      go_ret
      exact ⟨N, rfl, HNN.out ▸ HOE.out, HNN.out ▸ HB.out⟩
end Go.Proofs.YtnfigpknejmkmaaGreatDoor
namespace Go.Proofs.YtnfigpknejmkmaaGreatDoor
open Go.RowKit
set_option linter.unusedVariables false

mutual
/-- A key that is not too large reads as the contracts want it. -/
theorem kv_of {w : World} : ∀ (k : KT) (v : Value), KZ w k v → szT k ≤ 1048576 → KV w k v
  | .mk kd f t S ks, v, h, hs => by
    rw [KZ] at h
    rw [KV]
    rw [szT] at hs
    obtain ⟨AS, nS, cS, AK, nK, cK, h1, h2, h3, h4, h5, h6, h7, h8⟩ := h
    exact ⟨AS, nS, cS, AK, nK, cK, h1, h2, by omega, by omega, h5, h6, kvs_of ks 0 h8 (by omega)⟩
theorem kvs_of {w : World} {AK : Option Addr} : ∀ (ks : List KT) (i : Nat), KZs w AK i ks → szL ks ≤ 1048576 → KVs w AK i ks
  | [], i, h, _ => by rw [KVs]; trivial
  | k :: r, i, h, hs => by
    rw [KZs] at h
    rw [KVs]
    rw [szL] at hs
    obtain ⟨⟨b, o, v0, v1, v2, v3, v4, h1, h2, c0, c1, c2, c3, c4, h3⟩, h4⟩ := h
    exact ⟨⟨b, o, v0, v1, v2, v3, v4, h1, h2, c0, c1, c2, c3, c4, kv_of k _ h3 (by omega)⟩, kvs_of r (i + 1) h4 (by omega)⟩
end
mutual
theorem nodes_sz : ∀ k : KT, nodesT k ≤ szT k + 1
  | .mk kd f t S ks => by
    have := nodes_szL ks
    rw [nodesT, szT]
    omega
theorem nodes_szL : ∀ ks : List KT, nodesL ks ≤ szL ks + ks.length
  | [] => by rw [nodesL]; omega
  | k :: r => by
    have h1 := nodes_sz k
    have h2 := nodes_szL r
    rw [nodesL, szL, List.length_cons]
    omega
end
theorem szT_get : ∀ {ks : List KT} {i : Nat} {k : KT}, ks[i]? = some k → szT k ≤ szL ks
  | [], i, k, h => by simp at h
  | x :: r, 0, k, h => by cases h; rw [szL]; omega
  | x :: r, i + 1, k, h => by have := szT_get (ks := r) h; rw [szL]; omega
/-- What is in a key's row of nought. -/
def zR : KR := (0, 0, ⟨#[]⟩, (none, 0, 0), (none, 0, 0))
theorem gr_belowK {w w' : World} {row : Option Nat} (h : Below w.heap.size w w') : w.grownBy w' row := ⟨h.os, h.tape, h.output, h.size, fun b hb _ => h.block b hb⟩
theorem put_key {w : World} {B g n cap k : Nat} {L : List KR} {y : KR} (h : ROwn keyR w B (.slice (some ⟨g, 0, none⟩) n cap) L) (hy : L[k]? = some y) (x : KR) :
    ROwn keyR (((((w.setCell ⟨g, k * 5, none⟩ (.int .i64 x.1)).setCell ⟨g, k * 5 + 1, none⟩ (.int .i64 x.2.1)).setCell ⟨g, k * 5 + 2, none⟩ (.string x.2.2.1)).setCell ⟨g, k * 5 + 3, none⟩ (.slice x.2.2.2.1.1 x.2.2.2.1.2.1 x.2.2.2.1.2.2)).setCell ⟨g, k * 5 + 4, none⟩ (.slice x.2.2.2.2.1 x.2.2.2.2.2.1 x.2.2.2.2.2.2)) B (.slice (some ⟨g, 0, none⟩) n cap) (L.set k x) := by
  have hk : k < L.length := (List.getElem?_eq_some_iff.1 hy).1
  obtain ⟨y0, y1, y2, y3, y4⟩ := y
  obtain ⟨x0, x1, x2, x3, x4⟩ := x
  have h1 := (h.stored (y := (x0, y1, y2, y3, y4)) (j := 0) (u := .int .i64 x0) hy (by decide) rfl).1
  have h2 := (h1.stored (x := (x0, y1, y2, y3, y4)) (y := (x0, x1, y2, y3, y4)) (j := 1) (u := .int .i64 x1) (by rw [List.getElem?_set_self hk]) (by decide) rfl).1
  rw [List.set_set] at h2
  have h3 := (h2.stored (x := (x0, x1, y2, y3, y4)) (y := (x0, x1, x2, y3, y4)) (j := 2) (u := .string x2) (by rw [List.getElem?_set_self hk]) (by decide) rfl).1
  rw [List.set_set] at h3
  have h4 := (h3.stored (x := (x0, x1, x2, y3, y4)) (y := (x0, x1, x2, x3, y4)) (j := 3) (u := .slice x3.1 x3.2.1 x3.2.2) (by rw [List.getElem?_set_self hk]) (by decide) rfl).1
  rw [List.set_set] at h4
  have h5 := (h4.stored (x := (x0, x1, x2, x3, y4)) (y := (x0, x1, x2, x3, x4)) (j := 4) (u := .slice x4.1 x4.2.1 x4.2.2) (by rw [List.getElem?_set_self hk]) (by decide) rfl).1
  rw [List.set_set] at h5
  exact h5
theorem set_tailK {α : Type} {M : List α} {n k : Nat} {x z : α} (hm : M.length = k) (hk : k < n) : (M ++ List.replicate (n - k) z).set k x = (M ++ [x]) ++ List.replicate (n - (k + 1)) z := by
  obtain ⟨d, hd⟩ : ∃ d, n - k = d + 1 := ⟨n - k - 1, by omega⟩
  rw [hd, show n - (k + 1) = d by omega, List.replicate_succ, List.set_append_right k x (by omega), hm, Nat.sub_self, List.append_assoc]
  rfl
theorem takeK {α : Type} {L : List α} {k : Nat} {x : α} (h : L[k]? = some x) : L.take (k + 1) = L.take k ++ [x] := by rw [List.take_add_one, h]; rfl
/-- A key that was copied: its value, its memory in new blocks. -/
def ToK (w : World) (k : KT) (e : Ending) (w' : World) : Prop := ∃ r : KR, e = .returned (kval r) ∧ KA w.heap.size w'.heap.size w' k (kval r) ∧ Below w.heap.size w w'
set_option maxRecDepth 20000 in
set_option maxHeartbeats 8000000 in
theorem to_keys_step {n : Nat} (ih : ∀ (k : KT) (v : Value) (w1 : World), nodesT k ≤ n → szT k ≤ 1048576 → KV w1 k v → Calls Tryz.prog 19 #[v] w1 (ToK w1 k))
    {ks : List KT} (hks : ∀ k ∈ ks, nodesT k ≤ n) (hsz : ∀ k ∈ ks, szT k ≤ 1048576) {AK : Option Addr} {nK : Nat} (cK : Nat) (w : World) (h : KVs w AK 0 ks) (hn : ks.length = nK) (hm : nK ≤ 1048576) :
    Calls Tryz.prog 51 #[.slice AK nK cK] w fun e w' => ∃ g rs, e = .returned (.slice (some ⟨g, 0, none⟩) nK nK) ∧ ROwn keyR w' w.heap.size (.slice (some ⟨g, 0, none⟩) nK nK) rs ∧ KRs (KA w.heap.size w'.heap.size w') ks rs ∧ Below w.heap.size w w' := by
  obtain ⟨i0, hi, hq0, hq1, hq2⟩ := info_parts Tryz.infoKey
  have HIH := Lib.hid ih
  have HKS := Lib.hid h
  have HN := Lib.hid hn
  have HAL := Lib.hid hks
  have HSL := Lib.hid hsz
  clear ih h hn hks hsz
  have hb2 : i0.bytes * nK ≤ 281474976710656 := by rw [hq2]; omega
  have hb3 : nK ≤ maxLen := by unfold maxLen; omega
  go_enter Tryz.func51, Tryz.ntmps51
  go_wp2_with (at_make; refine wpList_make_full _ rfl _ _ 25 rfl w.heap.size 27 i0 (.agg #[.int .i64 0, .int .i64 0, .string ⟨#[]⟩, .slice none 0 0, .slice none 0 0]) 5 Tryz.underlying25 hi hq0 hq1 .i64 .i64 (nK : Int) (nK : Int) nK rfl rfl rfl rfl hb2 hb3 (Nat.le_refl _) ?_)
  intro w1 hown hgrow
  obtain ⟨N, hN⟩ : ∃ N, w.heap.size = N := ⟨_, rfl⟩
  have HNN := Lib.hid hN
  have HB1 : Hid (Below N w w1) := hN ▸ (Below.refl _ _).grown hgrow (Nat.le_refl _) (fun z hz => by cases hz)
  have ho1 : ROwn keyR w1 N (.slice (some ⟨N, 0, none⟩) nK nK) (List.replicate nK zR) := by
    unfold ROwn
    rw [List.length_replicate, ← made_rows keyR (.agg #[.int .i64 0, .int .i64 0, .string ⟨#[]⟩, .slice none 0 0, .slice none 0 0]) zR rfl (by decide), ← hN]
    exact hown
  have HO1 := Lib.hid ho1
  have hN1 : N + 1 ≤ w1.heap.size := by
    have := (World.ownsRow.lt ho1 N rfl).2
    omega
  rw [hN]
  clear hown hgrow ho1 hN
  go_wp2
  go_loopw [4] (fun i wr => ∃ (k : Nat) (rs : List KR), k ≤ nK ∧ i = .int .i64 (k : Int) ∧ N + 1 ≤ wr.heap.size ∧ Hid (rs.length = k) ∧ Hid (Below N w wr) ∧ Hid (KRs (KA (N + 1) wr.heap.size wr) (ks.take k) rs) ∧ Hid (ROwn keyR wr N (.slice (some ⟨N, 0, none⟩) nK nK) (rs ++ List.replicate (nK - k) zR))) (fun i _ => nK - (intOf i).toNat)
  case atStart => exact ⟨0, [], Nat.zero_le _, by go_num, hN1, rfl, HB1, rfl, by rw [List.nil_append, Nat.sub_zero]; exact HO1⟩
  case round =>
    obtain ⟨k, rs, hk, rfl, hNr, HL, HB, HK, HO⟩ := hrel
    by_cases hlt : k < nK
    · have h0 : (0 : Int) ≤ (k : Int) := by omega
      have h5 : (k : Int) < (nK : Int) := by omega
      obtain ⟨x, hx⟩ : ∃ x, ks[k]? = some x := ⟨_, List.getElem?_eq_getElem (by rw [HN.out]; exact hlt)⟩
      obtain ⟨b, o, v0, v1, v2, v3, v4, rfl, hbz, c0, c1, c2, c3, c4, hkv⟩ := (KVs.below HB.out (Nat.le_of_eq HNN.out) _ _ _ HKS.out).get hx
      rw [Nat.zero_add] at c0 c1 c2 c3 c4
      have HC := Lib.hid (HIH.out x _ wr (HAL.out x (List.mem_of_getElem? hx)) (HSL.out x (List.mem_of_getElem? hx)) hkv)
      have HTK := Lib.hid (takeK hx)
      clear hx hkv
      go_wp2_with fail
      refine HC.out.mono ?_
      rintro e w2 ⟨r, rfl, hka, hb⟩
      have HB2 := Lib.hid (HB.out.trans (hb.mono (Nat.le_trans (Nat.le_succ N) hNr)))
      have HO2 := Lib.hid (HO.out.kept hb)
      have hz2 := Nat.le_trans hNr hb.size
      have HK2 : Hid (KRs (KA (N + 1) w2.heap.size w2) (ks.take (k + 1)) (rs ++ [r])) := Lib.hid (by
        rw [HTK.out]
        exact KRs.push (KRs.imp (fun k' v' h' => (h'.grown (gr_belowK (row := none) hb) (fun g e => by cases e)).widen (Nat.le_refl _) hb.size) HK.out) (hka.widen hNr (Nat.le_refl _)))
      obtain ⟨y, hy⟩ : ∃ y, (rs ++ List.replicate (nK - k) zR)[k]? = some y := ⟨_, List.getElem?_eq_getElem (by rw [List.length_append, List.length_replicate, HL.out]; omega)⟩
      have d0 := HO2.out.cell hy (j := 0) rfl
      have d1 := HO2.out.cell hy (j := 1) rfl
      have d2 := HO2.out.cell hy (j := 2) rfl
      have d3 := HO2.out.cell hy (j := 3) rfl
      have d4 := HO2.out.cell hy (j := 4) rfl
      have f0 := HO2.out.free (k * 5)
      have f1 := HO2.out.free (k * 5 + 1)
      have f2 := HO2.out.free (k * 5 + 2)
      have f3 := HO2.out.free (k * 5 + 3)
      have f4 := HO2.out.free (k * 5 + 4)
      have hst := put_key HO2.out hy r
      obtain ⟨r0, r1, r2, ⟨r3, r4, r5⟩, ⟨r6, r7, r8⟩⟩ := r
      obtain ⟨ws, hws⟩ : ∃ z, (((((w2.setCell ⟨N, k * 5, none⟩ (.int .i64 r0)).setCell ⟨N, k * 5 + 1, none⟩ (.int .i64 r1)).setCell ⟨N, k * 5 + 2, none⟩ (.string r2)).setCell ⟨N, k * 5 + 3, none⟩ (.slice r3 r4 r5)).setCell ⟨N, k * 5 + 4, none⟩ (.slice r6 r7 r8)) = z := ⟨_, rfl⟩
      have hgs : w2.grownBy ws (some N) := by rw [← hws]; exact gr_one (gr_one (gr_one (gr_one (gr_one (gr_refl _ _) _ _) _ _) _ _) _ _) _ _
      have HST : Hid (ROwn keyR ws N (.slice (some ⟨N, 0, none⟩) nK nK) ((rs ++ [(r0, r1, r2, (r3, r4, r5), (r6, r7, r8))]) ++ List.replicate (nK - (k + 1)) zR)) := Lib.hid (by
        rw [← hws, ← set_tailK HL.out hlt]
        exact hst)
      have HBS : Hid (Below N w ws) := Lib.hid (HB2.out.grown hgs (by omega) (fun g e => by have := Option.some.inj e; omega))
      have HKS2 : Hid (KRs (KA (N + 1) ws.heap.size ws) (ks.take (k + 1)) (rs ++ [(r0, r1, r2, (r3, r4, r5), (r6, r7, r8))])) := Lib.hid (KRs.imp (fun k' v' h' => (h'.grown hgs (fun g e => by have := Option.some.inj e; omega)).widen (Nat.le_refl _) hgs.size) HK2.out)
      have HLS : Hid ((rs ++ [(r0, r1, r2, (r3, r4, r5), (r6, r7, r8))]).length = k + 1) := Lib.hid (by rw [List.length_append, HL.out]; rfl)
      have hzs : N + 1 ≤ ws.heap.size := Nat.le_trans hz2 hgs.size
      have HWS := Lib.hid hws
      simp only [keyR, Nat.add_zero] at d0 d1 d2 d3 d4
      clear hy hst hka hb hgs hws c0 c1 c2 c3 c4
      go_wp2
      try rw [HWS.out]
      go_roundw
      case rel => exact ⟨k + 1, _, by omega, by go_num, hzs, HLS, HBS, HKS2, HST⟩
      case measure => simp [intOf]; omega
    · have h5 : ¬ (k : Int) < (nK : Int) := by omega
      have hkn : k = nK := by omega
      have ho := HO.out
      have hkk := HK.out
      rw [hkn, Nat.sub_self, List.replicate_zero, List.append_nil] at ho
      rw [hkn, List.take_of_length_le (by rw [HN.out]; exact Nat.le_refl _)] at hkk
      have HOE := Lib.hid ho
      have HKE := Lib.hid (KRs.imp (fun k' v' h' => KA.widen h' (Nat.le_succ N) (Nat.le_refl _)) hkk)
      clear ho hkn hkk
      go_wp2
      go_ret
      exact ⟨N, rfl, rs, HNN.out ▸ HOE.out, HNN.out ▸ HKE.out, HNN.out ▸ HB.out⟩
set_option maxRecDepth 20000 in
set_option maxHeartbeats 4000000 in
theorem to_key_step {n : Nat} (ih : ∀ (k : KT) (v : Value) (w1 : World), nodesT k ≤ n → szT k ≤ 1048576 → KV w1 k v → Calls Tryz.prog 19 #[v] w1 (ToK w1 k))
    {kd f : Int} {t : ByteArray} {S : List (Int × Int)} {ks : List KT} {v : Value} (hks : ∀ k ∈ ks, nodesT k ≤ n) (hsz : szT (.mk kd f t S ks) ≤ 1048576) (w : World) (h : KV w (.mk kd f t S ks) v) :
    Calls Tryz.prog 19 #[v] w (ToK w (.mk kd f t S ks)) := by
  obtain ⟨AS, nS, cS, AK, nK, cK, rfl, h2, h3, h4, h5, h6, h7⟩ := h.open
  rw [szT] at hsz
  have hnS : nS ≤ 1048576 := by omega
  have hnK : nK ≤ 1048576 := by omega
  have hsk : ∀ k ∈ ks, szT k ≤ 1048576 := fun k hk => by
    obtain ⟨i, hi⟩ := List.mem_iff_getElem?.1 hk
    have := szT_get hi
    omega
  have HIH := Lib.hid ih
  have HKS := Lib.hid hks
  have HSK := Lib.hid hsk
  have HL := Lib.hid h2
  have HT := Lib.hid h4
  have HLK := Lib.hid h6
  obtain ⟨B, hB⟩ : ∃ B, w.heap.size = B := ⟨_, rfl⟩
  have HBB := Lib.hid hB
  obtain ⟨wq, hwq⟩ : ∃ wq, (((w.alloc (.cells #[.int .i64 kd, .int .i64 f, .string t, .slice AS nS cS, .slice AK nK cK] 41)).alloc (.cells #[.int .i64 0, .int .i64 0, .string ⟨#[]⟩, .slice none 0 0, .slice none 0 0] 27)).alloc (.cells #[.int .i64 kd, .int .i64 f, .string t, .slice none 0 0, .slice none 0 0] 27)) = wq := ⟨_, rfl⟩
  have HBA : Hid (Below B w wq) := Lib.hid (by rw [← hwq, ← hB]; exact (((Below.refl _ _).alloc (Nat.le_refl _) _).alloc (by simp) _).alloc (by simp; omega) _)
  have HW0 : Hid (Whole wq B 41 #[.int .i64 kd, .int .i64 f, .string t, .slice AS nS cS, .slice AK nK cK]) := Lib.hid (by
    rw [← hwq, ← hB]
    exact ((Whole.made w _ _).alloc _).alloc _)
  have HW1 : Hid (Whole wq (B + 1) 27 #[.int .i64 0, .int .i64 0, .string ⟨#[]⟩, .slice none 0 0, .slice none 0 0]) := Lib.hid (by
    rw [← hwq, ← hB]
    have h2 := Whole.made (w.alloc (.cells #[.int .i64 kd, .int .i64 f, .string t, .slice AS nS cS, .slice AK nK cK] 41)) 27 #[.int .i64 0, .int .i64 0, .string ⟨#[]⟩, .slice none 0 0, .slice none 0 0]
    rw [show (w.alloc (.cells #[.int .i64 kd, .int .i64 f, .string t, .slice AS nS cS, .slice AK nK cK] 41)).heap.size = w.heap.size + 1 by simp] at h2
    exact h2.alloc _)
  have HW2 : Hid (Whole wq (B + 1 + 1) 27 #[.int .i64 kd, .int .i64 f, .string t, .slice none 0 0, .slice none 0 0]) := Lib.hid (by
    rw [← hwq, ← hB]
    have h2 := Whole.made ((w.alloc (.cells #[.int .i64 kd, .int .i64 f, .string t, .slice AS nS cS, .slice AK nK cK] 41)).alloc (.cells #[.int .i64 0, .int .i64 0, .string ⟨#[]⟩, .slice none 0 0, .slice none 0 0] 27)) 27 #[.int .i64 kd, .int .i64 f, .string t, .slice none 0 0, .slice none 0 0]
    rw [show ((w.alloc (.cells #[.int .i64 kd, .int .i64 f, .string t, .slice AS nS cS, .slice AK nK cK] 41)).alloc (.cells #[.int .i64 0, .int .i64 0, .string ⟨#[]⟩, .slice none 0 0, .slice none 0 0] 27)).heap.size = w.heap.size + 1 + 1 by simp] at h2
    exact h2)
  have hzq : B + 1 + 1 < wq.heap.size := HW2.out.lt
  have HA := Lib.hid (h5.below HBA.out (Nat.le_of_eq hB))
  have HQ := Lib.hid h7
  clear h h2 h3 h4 h5 h6 h7 hsz hsk hks ih
  have c0 := HW0.out.cell 0
  have c1 := HW0.out.cell 1
  have c2 := HW0.out.cell 2
  have c3 := HW0.out.cell 3
  have c4 := HW0.out.cell 4
  simp at c0 c1 c2 c3 c4
  have HWQ := Lib.hid hwq
  go_enter Tryz.func19, Tryz.ntmps19
  go_wp2_with fail
  clear hwq
  refine (to_spans AS cS nS S wq HL.out HA.out hnS).mono ?_
  rintro e w2 ⟨g, rfl, hown, hb⟩
  have hgz : wq.heap.size ≤ g := (World.ownsRow.lt hown g rfl).1
  have HB2 := Lib.hid (HBA.out.trans (hb.mono (show B ≤ wq.heap.size by omega)))
  have HV0 := Lib.hid (HW0.out.below hb HW0.out.lt)
  have HV1 := Lib.hid (HW1.out.below hb HW1.out.lt)
  have HV2 := Lib.hid (HW2.out.below hb HW2.out.lt)
  have hz2 : wq.heap.size ≤ w2.heap.size := hb.size
  obtain ⟨w3, hw3⟩ : ∃ z, w2.setCell ⟨B + 1 + 1, 3, none⟩ (.slice (some ⟨g, 0, none⟩) nS nS) = z := ⟨_, rfl⟩
  have hg3 : w2.grownBy w3 (some (B + 1 + 1)) := by rw [← hw3]; exact gr_one (gr_refl _ _) _ _
  have HO3 : Hid (Own w3 wq.heap.size (.slice (some ⟨g, 0, none⟩) nS nS) S) := Lib.hid (World.ownsRow.kept hown hg3 (.inr (fun e => by have := Option.some.inj (show some g = some (B + 1 + 1) from e); omega)))
  have HU0 := Lib.hid (HV0.out.grown hg3 (fun e => by have := Option.some.inj e; omega))
  have HU1 := Lib.hid (HV1.out.grown hg3 (fun e => by have := Option.some.inj e; omega))
  have HU2 : Hid (Whole w3 (B + 1 + 1) 27 #[.int .i64 kd, .int .i64 f, .string t, .slice (some ⟨g, 0, none⟩) nS nS, .slice none 0 0]) := Lib.hid (by rw [← hw3]; exact HV2.out.store 3 _)
  have HB3 := Lib.hid (HB2.out.grown hg3 (by omega) (fun k e => by have := Option.some.inj e; omega))
  have HW3 := Lib.hid hw3
  have b3 := HV2.out.cell 3
  have e3 := HV2.out.free 3
  have hz3 : wq.heap.size ≤ w3.heap.size := Nat.le_trans hz2 hg3.size
  have q0 := HU0.out.cell 4
  simp at b3 q0
  clear hown hb hg3 c0 c1 c2 c3 c4
  go_wp2_with fail
  try rw [HW3.out]
  clear hw3
  refine (to_keys_step HIH.out HKS.out HSK.out cK w3 (KVs.below HB3.out (Nat.le_of_eq HBB.out) _ _ _ HQ.out) HLK.out hnK).mono ?_
  rintro e w4 ⟨g2, rs, rfl, hok, hkr, hb⟩
  have hg2 : w3.heap.size ≤ g2 := (World.ownsRow.lt hok g2 rfl).1
  have HO4 := Lib.hid (HO3.out.kept hb)
  have HB4 := Lib.hid (HB3.out.trans (hb.mono (show B ≤ w3.heap.size by omega)))
  have HX0 := Lib.hid (HU0.out.below hb HU0.out.lt)
  have HX1 := Lib.hid (HU1.out.below hb HU1.out.lt)
  have HX2 := Lib.hid (HU2.out.below hb HU2.out.lt)
  have hz4 : w3.heap.size ≤ w4.heap.size := hb.size
  obtain ⟨w5, hw5⟩ : ∃ z, w4.setCell ⟨B + 1 + 1, 4, none⟩ (.slice (some ⟨g2, 0, none⟩) nK nK) = z := ⟨_, rfl⟩
  have hg5 : w4.grownBy w5 (some (B + 1 + 1)) := by rw [← hw5]; exact gr_one (gr_refl _ _) _ _
  obtain ⟨w6, hw6⟩ : ∃ z, (((((w5.setCell ⟨B + 1, 0, none⟩ (.int .i64 kd)).setCell ⟨B + 1, 1, none⟩ (.int .i64 f)).setCell ⟨B + 1, 2, none⟩ (.string t)).setCell ⟨B + 1, 3, none⟩ (.slice (some ⟨g, 0, none⟩) nS nS)).setCell ⟨B + 1, 4, none⟩ (.slice (some ⟨g2, 0, none⟩) nK nK)) = z := ⟨_, rfl⟩
  have hg6 : w5.grownBy w6 (some (B + 1)) := by rw [← hw6]; exact gr_one (gr_one (gr_one (gr_one (gr_one (gr_refl _ _) _ _) _ _) _ _) _ _) _ _
  have HO6 : Hid (Own w6 wq.heap.size (.slice (some ⟨g, 0, none⟩) nS nS) S) := Lib.hid (World.ownsRow.kept (World.ownsRow.kept HO4.out hg5 (.inr (fun e => by have := Option.some.inj (show some g = some (B + 1 + 1) from e); omega))) hg6 (.inr (fun e => by have := Option.some.inj (show some g = some (B + 1) from e); omega)))
  have HR6 : Hid (ROwn keyR w6 w3.heap.size (.slice (some ⟨g2, 0, none⟩) nK nK) rs) := Lib.hid ((hok.apart hg5 (.inr (fun e => by have := Option.some.inj (show some g2 = some (B + 1 + 1) from e); omega))).apart hg6 (.inr (fun e => by have := Option.some.inj (show some g2 = some (B + 1) from e); omega)))
  have HK6 : Hid (KRs (KA B w6.heap.size w6) ks rs) := Lib.hid (KRs.imp (fun k' v' h' => ((h'.grown hg5 (fun g' e => by have := Option.some.inj e; omega)).grown hg6 (fun g' e => by have := Option.some.inj e; omega)).widen (by omega) (Nat.le_trans hg5.size hg6.size)) hkr)
  have HB6 := Lib.hid ((HB4.out.grown hg5 (by omega) (fun k e => by have := Option.some.inj e; omega)).grown hg6 (by have := hg5.size; omega) (fun k e => by have := Option.some.inj e; omega))
  have HY2 := Lib.hid (HX2.out.store 4 (.slice (some ⟨g2, 0, none⟩) nK nK))
  have HY1 := Lib.hid (HX1.out.grown hg5 (fun e => by have := Option.some.inj e; omega))
  rw [hw5] at HY2
  have x0 := HX2.out.cell 4
  have y0 := HX2.out.free 4
  have u0 := HY2.out.cell 0
  have u1 := HY2.out.cell 1
  have u2 := HY2.out.cell 2
  have u3 := HY2.out.cell 3
  have u4 := HY2.out.cell 4
  have j0 := HY1.out.cell 0
  have j1 := HY1.out.cell 1
  have j2 := HY1.out.cell 2
  have j3 := HY1.out.cell 3
  have j4 := HY1.out.cell 4
  have l0 := HY1.out.free 0
  have l1 := HY1.out.free 1
  have l2 := HY1.out.free 2
  have l3 := HY1.out.free 3
  have l4 := HY1.out.free 4
  simp at x0 u0 u1 u2 u3 u4 j0 j1 j2 j3 j4
  have HFIN : Hid (KA w.heap.size w6.heap.size w6 (.mk kd f t S ks) (kval (kd, f, t, (some ⟨g, 0, none⟩, nS, nS), (some ⟨g2, 0, none⟩, nK, nK)))) := Lib.hid (by
    rw [HBB.out]
    unfold KA
    rw [KV]
    exact ⟨_, _, _, _, _, _, rfl, HL.out, (show nS ≤ 33554432 by omega), HT.out, spa_own HO6.out (by omega), HLK.out, kvs_own HR6.out (by omega) HK6.out (Nat.le_refl _)⟩)
  have HB7 : Hid (Below w.heap.size w w6) := Lib.hid (by rw [HBB.out]; exact HB6.out)
  have HW5 := Lib.hid hw5
  have HW6 := Lib.hid hw6
  have hz1 := ((((HY1.out.store 0 (.int .i64 kd)).store 1 (.int .i64 f)).store 2 (.string t)).store 3 (.slice (some ⟨g, 0, none⟩) nS nS)).store 4 (.slice (some ⟨g2, 0, none⟩) nK nK)
  rw [hw6] at hz1
  have r0 := hz1.cell 0
  have r1 := hz1.cell 1
  have r2 := hz1.cell 2
  have r3 := hz1.cell 3
  have r4 := hz1.cell 4
  simp at r0 r1 r2 r3 r4
  clear hok hkr hb hg5 hg6 hw6 hz1 b3 e3 q0
  go_wp2
  try rw [HW6.out]
  refine bodyPost_ret (v := .agg #[.int .i64 kd, .int .i64 f, .string t, .slice (some ⟨g, 0, none⟩) nS nS, .slice (some ⟨g2, 0, none⟩) nK nK]) (by simp [results, Tryz.results19, go_sem, *]) rfl ?_
  exact ⟨(kd, f, t, (some ⟨g, 0, none⟩, nS, nS), (some ⟨g2, 0, none⟩, nK, nK)), rfl, HFIN.out, HB7.out⟩
theorem nodes_mem {ks : List KT} {n : Nat} (h : nodesL ks ≤ n) : ∀ k ∈ ks, nodesT k ≤ n := fun k hk => by
  obtain ⟨i, hi⟩ := List.mem_iff_getElem?.1 hk
  have := nodesL_lt hi
  omega
theorem to_key : ∀ (n : Nat) (k : KT) (v : Value) (w : World), nodesT k ≤ n → szT k ≤ 1048576 → KV w k v → Calls Tryz.prog 19 #[v] w (ToK w k)
  | 0, k, v, w, hn, _, _ => by have := nodesT_pos k; omega
  | n + 1, .mk kd f t S ks, v, w, hn, hs, h => by
    rw [nodesT] at hn
    exact to_key_step (n := n) (fun k' v' w1 h1 h2 h3 => to_key n k' v' w1 h1 h2 h3) (nodes_mem (by omega)) hs w h
set_option maxRecDepth 20000 in
set_option maxHeartbeats 8000000 in
theorem eq_keys_step {n : Nat} (ih : ∀ (k : KT) (v1 v2 : Value) (w1 : World), nodesT k ≤ n → KV w1 k v1 → KV w1 k v2 → Calls Tryz.prog 12 #[v1, v2] w1 fun e w' => e = .returned (.bool true) ∧ Below w1.heap.size w1 w')
    {ks : List KT} (hks : ∀ k ∈ ks, nodesT k ≤ n) {AK AL : Option Addr} {nK : Nat} (cK cL : Nat) (w : World) (h : KVs w AK 0 ks) (h2 : KVs w AL 0 ks) (hn : ks.length = nK) (hm : nK ≤ 33554432) :
    Calls Tryz.prog 39 #[.slice AK nK cK, .slice AL nK cL] w fun e w' => e = .returned (.bool true) ∧ Below w.heap.size w w' := by
  have HIH := Lib.hid ih
  have HKS := Lib.hid h
  have HLS := Lib.hid h2
  have HN := Lib.hid hn
  have HAL := Lib.hid hks
  have hnn : ((nK : Int) != (nK : Int)) = false := by simp
  clear ih h h2 hn hks
  go_enter Tryz.func39, Tryz.ntmps39
  go_wp2
  go_loopw [5] (fun i wr => ∃ k : Nat, k ≤ nK ∧ i = .int .i64 (k : Int) ∧ Hid (Below w.heap.size w wr)) (fun i _ => nK - (intOf i).toNat)
  case atStart => exact ⟨0, Nat.zero_le _, by go_num, Below.refl _ _⟩
  case round =>
    obtain ⟨k, hk, rfl, HB⟩ := hrel
    by_cases hlt : k < nK
    · have h0 : (0 : Int) ≤ (k : Int) := by omega
      have h5 : (k : Int) < (nK : Int) := by omega
      obtain ⟨x, hx⟩ : ∃ x, ks[k]? = some x := ⟨_, List.getElem?_eq_getElem (by rw [HN.out]; exact hlt)⟩
      have HBD : Hid (Below w.heap.size w wr.drew) := Lib.hid HB.out.drew
      obtain ⟨wd, hwd⟩ : ∃ z, wr.drew = z := ⟨_, rfl⟩
      rw [hwd] at HBD
      obtain ⟨b, o, v0, v1, v2, v3, v4, rfl, hbz, c0, c1, c2, c3, c4, hkv⟩ := (KVs.below HBD.out (Nat.le_refl _) _ _ _ HKS.out).get hx
      obtain ⟨b', o', u0, u1, u2, u3, u4, rfl, hbz', d0, d1, d2, d3, d4, hkv'⟩ := (KVs.below HBD.out (Nat.le_refl _) _ _ _ HLS.out).get hx
      rw [Nat.zero_add] at c0 c1 c2 c3 c4 d0 d1 d2 d3 d4
      have HC := Lib.hid (HIH.out x _ _ wd (HAL.out x (List.mem_of_getElem? hx)) hkv hkv')
      have HWD := Lib.hid hwd
      have HBZ := Lib.hid (And.intro hbz hbz')
      clear hx hkv hkv' hbz hbz' hwd
      go_upto_region 6 with fail
      refine wp_region_late (fun w' => w'.cell? ⟨b, o + k * 5, none⟩ = some v0 ∧ w'.cell? ⟨b, o + k * 5 + 1, none⟩ = some v1 ∧ w'.cell? ⟨b, o + k * 5 + 2, none⟩ = some v2 ∧ w'.cell? ⟨b, o + k * 5 + 3, none⟩ = some v3 ∧ w'.cell? ⟨b, o + k * 5 + 4, none⟩ = some v4 ∧ w'.cell? ⟨b', o' + k * 5, none⟩ = some u0 ∧ w'.cell? ⟨b', o' + k * 5 + 1, none⟩ = some u1 ∧ w'.cell? ⟨b', o' + k * 5 + 2, none⟩ = some u2 ∧ w'.cell? ⟨b', o' + k * 5 + 3, none⟩ = some u3 ∧ w'.cell? ⟨b', o' + k * 5 + 4, none⟩ = some u4) 9 (by kernel_rfl) ?_
      rw [HWD.out]
      refine wpLate_take (i := 0) (v := ?v0) rfl (by kernel_rfl) (by kernel_rfl) (by kernel_rfl) (by kernel_rfl) (by kernel_rfl) (fun _ _ _ h => h) ⟨c0, c1, c2, c3, c4, d0, d1, d2, d3, d4⟩ (by rfl) ?hy0 ?r0
      case hy0 =>
        rintro wz ⟨z0, z1, z2, z3, z4, z5, z6, z7, z8, z9⟩
        go_simp
        try with_reducible rfl
      try simp only [Act.put]
      refine wpLate_take (i := 1) (v := ?v1) rfl (by kernel_rfl) (by kernel_rfl) (by kernel_rfl) (by kernel_rfl) (by kernel_rfl) (fun _ _ _ h => h) ⟨c0, c1, c2, c3, c4, d0, d1, d2, d3, d4⟩ (by rfl) ?hy1 ?r1
      case hy1 =>
        rintro wz ⟨z0, z1, z2, z3, z4, z5, z6, z7, z8, z9⟩
        go_simp
        try with_reducible rfl
      try simp only [Act.put]
      refine wpLate_take (i := 2) (v := ?v2) rfl (by kernel_rfl) (by kernel_rfl) (by kernel_rfl) (by kernel_rfl) (by kernel_rfl) (fun _ _ _ h => h) ⟨c0, c1, c2, c3, c4, d0, d1, d2, d3, d4⟩ (by rfl) ?hy2 ?r2
      case hy2 =>
        rintro wz ⟨z0, z1, z2, z3, z4, z5, z6, z7, z8, z9⟩
        go_simp
        try with_reducible rfl
      try simp only [Act.put]
      refine wpLate_take (i := 3) (v := ?v3) rfl (by kernel_rfl) (by kernel_rfl) (by kernel_rfl) (by kernel_rfl) (by kernel_rfl) (fun _ _ _ h => h) ⟨c0, c1, c2, c3, c4, d0, d1, d2, d3, d4⟩ (by rfl) ?hy3 ?r3
      case hy3 =>
        rintro wz ⟨z0, z1, z2, z3, z4, z5, z6, z7, z8, z9⟩
        go_simp
        try with_reducible rfl
      try simp only [Act.put]
      refine wpLate_take (i := 4) (v := ?v4) rfl (by kernel_rfl) (by kernel_rfl) (by kernel_rfl) (by kernel_rfl) (by kernel_rfl) (fun _ _ _ h => h) ⟨c0, c1, c2, c3, c4, d0, d1, d2, d3, d4⟩ (by rfl) ?hy4 ?r4
      case hy4 =>
        rintro wz ⟨z0, z1, z2, z3, z4, z5, z6, z7, z8, z9⟩
        go_simp
        try with_reducible rfl
      try simp only [Act.put]
      refine wpLate_take (i := 5) (v := ?v5) rfl (by kernel_rfl) (by kernel_rfl) (by kernel_rfl) (by kernel_rfl) (by kernel_rfl) (fun _ _ _ h => h) ⟨c0, c1, c2, c3, c4, d0, d1, d2, d3, d4⟩ (by rfl) ?hy5 ?r5
      case hy5 =>
        rintro wz ⟨z0, z1, z2, z3, z4, z5, z6, z7, z8, z9⟩
        go_simp
        try with_reducible rfl
      try simp only [Act.put]
      refine wpLate_take (i := 6) (v := ?v6) rfl (by kernel_rfl) (by kernel_rfl) (by kernel_rfl) (by kernel_rfl) (by kernel_rfl) (fun _ _ _ h => h) ⟨c0, c1, c2, c3, c4, d0, d1, d2, d3, d4⟩ (by rfl) ?hy6 ?r6
      case hy6 =>
        rintro wz ⟨z0, z1, z2, z3, z4, z5, z6, z7, z8, z9⟩
        go_simp
        try with_reducible rfl
      try simp only [Act.put]
      refine wpLate_take (i := 7) (v := ?v7) rfl (by kernel_rfl) (by kernel_rfl) (by kernel_rfl) (by kernel_rfl) (by kernel_rfl) (fun _ _ _ h => h) ⟨c0, c1, c2, c3, c4, d0, d1, d2, d3, d4⟩ (by rfl) ?hy7 ?r7
      case hy7 =>
        rintro wz ⟨z0, z1, z2, z3, z4, z5, z6, z7, z8, z9⟩
        go_simp
        try with_reducible rfl
      try simp only [Act.put]
      refine wpLate_one (i := 8) (by kernel_rfl) rfl (fun K hK => ?_)
      go_simp
      refine HC.out.mono ?_
      rintro e w3 ⟨rfl, hb⟩
      refine hK.out _ _ (fun _ => ⟨(hb.cell (p := ⟨b, o + k * 5, none⟩) HBZ.out.1).trans c0, (hb.cell (p := ⟨b, o + k * 5 + 1, none⟩) HBZ.out.1).trans c1, (hb.cell (p := ⟨b, o + k * 5 + 2, none⟩) HBZ.out.1).trans c2, (hb.cell (p := ⟨b, o + k * 5 + 3, none⟩) HBZ.out.1).trans c3, (hb.cell (p := ⟨b, o + k * 5 + 4, none⟩) HBZ.out.1).trans c4, (hb.cell (p := ⟨b', o' + k * 5, none⟩) HBZ.out.2).trans d0, (hb.cell (p := ⟨b', o' + k * 5 + 1, none⟩) HBZ.out.2).trans d1, (hb.cell (p := ⟨b', o' + k * 5 + 2, none⟩) HBZ.out.2).trans d2, (hb.cell (p := ⟨b', o' + k * 5 + 3, none⟩) HBZ.out.2).trans d3, (hb.cell (p := ⟨b', o' + k * 5 + 4, none⟩) HBZ.out.2).trans d4⟩) ?_
      clear hK K
      try simp only [Act.put]
      refine wpLate_one (i := 9) (by kernel_rfl) rfl (fun K hK => ?_)
      go_simp
      refine hK.out _ _ (fun h => absurd rfl h) ?_
      clear hK K
      try simp only [Act.put]
      refine wpLate_done (by kernel_rfl) ?_ _
      have HBE := Lib.hid (HBD.out.trans (hb.mono HBD.out.size))
      clear hb c0 c1 c2 c3 c4 d0 d1 d2 d3 d4
      go_wp2
      go_roundw
      case rel => exact ⟨k + 1, by omega, by go_num, HBE⟩
      case measure => simp [intOf]; omega
    · have h5 : ¬ (k : Int) < (nK : Int) := by omega
      go_wp2
      go_ret
      exact ⟨rfl, HB.out⟩
set_option maxRecDepth 20000 in
set_option maxHeartbeats 4000000 in
theorem eq_key_step {n : Nat} (ih : ∀ (k : KT) (v1 v2 : Value) (w1 : World), nodesT k ≤ n → KV w1 k v1 → KV w1 k v2 → Calls Tryz.prog 12 #[v1, v2] w1 fun e w' => e = .returned (.bool true) ∧ Below w1.heap.size w1 w')
    {kd f : Int} {t : ByteArray} {S : List (Int × Int)} {ks : List KT} {v1 v2 : Value} (hks : ∀ k ∈ ks, nodesT k ≤ n) (hm : ks.length ≤ 33554432) (w : World) (h : KV w (.mk kd f t S ks) v1) (h2 : KV w (.mk kd f t S ks) v2) :
    Calls Tryz.prog 12 #[v1, v2] w fun e w' => e = .returned (.bool true) ∧ Below w.heap.size w w' := by
  obtain ⟨AS, nS, cS, AK, nK, cK, rfl, a2, a3, a4, a5, a6, a7⟩ := h.open
  obtain ⟨AT, nT, cT, AL, nL, cL, rfl, b2, b3, b4, b5, b6, b7⟩ := h2.open
  obtain rfl : nS = nT := a2.symm.trans b2
  obtain rfl : nK = nL := a6.symm.trans b6
  have hnK : nK ≤ 33554432 := by omega
  have hkd : (kd != kd) = false := by simp
  have hff : (f != f) = false := by simp
  have HIH := Lib.hid ih
  have HKS := Lib.hid hks
  have HL := Lib.hid a2
  have HLK := Lib.hid a6
  obtain ⟨B, hB⟩ : ∃ B, w.heap.size = B := ⟨_, rfl⟩
  obtain ⟨wq, hwq⟩ : ∃ wq, ((w.alloc (.cells #[.int .i64 kd, .int .i64 f, .string t, .slice AS nS cS, .slice AK nK cK] 27)).alloc (.cells #[.int .i64 kd, .int .i64 f, .string t, .slice AT nS cT, .slice AL nK cL] 27)) = wq := ⟨_, rfl⟩
  have e1 : (w.alloc (.cells #[.int .i64 kd, .int .i64 f, .string t, .slice AS nS cS, .slice AK nK cK] 27)).heap.size = B + 1 := by simp [hB]
  have HBA : Hid (Below w.heap.size w wq) := Lib.hid (by rw [← hwq]; exact ((Below.refl w.heap.size w).alloc (Nat.le_refl _) _).alloc (by simp) _)
  have HW0 : Hid (Whole wq B 27 #[.int .i64 kd, .int .i64 f, .string t, .slice AS nS cS, .slice AK nK cK]) := Lib.hid (by rw [← hwq, ← hB]; exact (Whole.made w _ _).alloc _)
  have HW1 : Hid (Whole wq (B + 1) 27 #[.int .i64 kd, .int .i64 f, .string t, .slice AT nS cT, .slice AL nK cL]) := Lib.hid (by rw [← hwq, ← e1]; exact Whole.made _ _ _)
  have HA := Lib.hid (a5.below HBA.out (Nat.le_refl _))
  have HA2 := Lib.hid (b5.below HBA.out (Nat.le_refl _))
  have HQ := Lib.hid (KVs.below HBA.out (Nat.le_refl _) _ _ _ a7)
  have HQ2 := Lib.hid (KVs.below HBA.out (Nat.le_refl _) _ _ _ b7)
  have HBB := Lib.hid hB
  have HWQ := Lib.hid hwq
  clear h h2 a2 a4 a5 a6 a7 b2 b3 b4 b5 b6 b7 hks ih e1 hB hwq
  have c0 := HW0.out.cell 0
  have c1 := HW0.out.cell 1
  have c2 := HW0.out.cell 2
  have c3 := HW0.out.cell 3
  have d0 := HW1.out.cell 0
  have d1 := HW1.out.cell 1
  have d2 := HW1.out.cell 2
  have d3 := HW1.out.cell 3
  simp only [List.getElem?_toArray, List.getElem?_cons_zero, List.getElem?_cons_succ] at c0 c1 c2 c3 d0 d1 d2 d3
  go_enter Tryz.func12, Tryz.ntmps12
  go_wp2_with fail
  rw [HBB.out, HWQ.out]
  go_wp2_with fail
  have HE := eq_spans AS AT cS cT S S wq HA.out HA2.out (by rw [HL.out]; exact a3) (by rw [HL.out]; exact a3)
  rw [decide_eq_true (rfl : S = S), HL.out] at HE
  refine HE.mono ?_
  rintro e w2 ⟨rfl, hb⟩
  have HB2 := Lib.hid (HBA.out.trans (hb.mono HBA.out.size))
  have HV0 := Lib.hid (HW0.out.below hb HW0.out.lt)
  have HV1 := Lib.hid (HW1.out.below hb HW1.out.lt)
  have HP := Lib.hid (KVs.below hb (Nat.le_refl _) _ _ _ HQ.out)
  have HP2 := Lib.hid (KVs.below hb (Nat.le_refl _) _ _ _ HQ2.out)
  clear hb c0 c1 c2 c3 d0 d1 d2 d3 HE
  have c4 := HV0.out.cell 4
  have d4 := HV1.out.cell 4
  simp only [List.getElem?_toArray, List.getElem?_cons_zero, List.getElem?_cons_succ] at c4 d4
  go_wp2_with fail
  refine (eq_keys_step HIH.out HKS.out cK cL w2 HP.out HP2.out HLK.out hnK).mono ?_
  rintro e w3 ⟨rfl, hb⟩
  have HB3 := Lib.hid (HB2.out.trans (hb.mono HB2.out.size))
  clear hb
  go_wp2
  go_ret
  exact ⟨rfl, HB3.out⟩
theorem eq_key : ∀ (n : Nat) (k : KT) (v1 v2 : Value) (w : World), nodesT k ≤ n → n ≤ 33554432 → KV w k v1 → KV w k v2 → Calls Tryz.prog 12 #[v1, v2] w fun e w' => e = .returned (.bool true) ∧ Below w.heap.size w w'
  | 0, k, v1, v2, w, hn, _, _, _ => by have := nodesT_pos k; omega
  | n + 1, .mk kd f t S ks, v1, v2, w, hn, hm, h, h2 => by
    rw [nodesT] at hn
    have hl := nodesL_len ks
    exact eq_key_step (n := n) (fun k' u1 u2 w1 h1 h3 h4 => eq_key n k' u1 u2 w1 h1 (by omega) h3 h4) (nodes_mem (by omega)) (by omega) w h h2
end Go.Proofs.YtnfigpknejmkmaaGreatDoor
namespace Go.Proofs.YtnfigpknejmkmaaGreatDoor
open Go.RowKit
set_option linter.unusedVariables false

theorem textB_le {L : List (Int × Int)} : (textB L).length ≤ 36 := by
  by_cases h : setB L = true
  · rw [textB_yes h]
    have h1 := joinW_len (dn L)
    have h2 := (setB_iff.1 h).2.2
    rw [dn_len] at h1
    omega
  · rw [textB_no (Bool.eq_false_iff.2 h)]
    simp
set_option maxRecDepth 20000 in

/-- The first words of a node. -/
def headW (kd f : Int) (t : ByteArray) (S : List (Int × Int)) : List UInt8 :=
  if kd = 0 then [97, 108, 108] else if kd = 1 then fwL f else if kd = 2 then [116, 101, 120, 116, 32] ++ t.data.toList else if kd = 3 then [97, 116, 32] ++ textB S
  else if kd = 4 then [117, 105, 100, 32] ++ textB S else if kd = 5 then [110, 111, 116] else if kd = 6 then [97, 110, 100] else [111, 114]
mutual
/-- The text of a key. -/
def fmtT : KT → List UInt8
  | .mk kd f t S ks => headW kd f t S ++ fmtL ks
def fmtL : List KT → List UInt8
  | [] => []
  | k :: r => 32 :: (fmtT k ++ fmtL r)
end
theorem fwL_len (f : Int) : (fwL f).length ≤ 8 := by
  unfold fwL
  split
  · decide
  · split
    · decide
    · split
      · decide
      · split
        · decide
        · split <;> decide
theorem node2 {f : Int} {t : ByteArray} {S : List (Int × Int)} {n : Nat} (h : nodeB 2 f t S n = true) : nameB t.data.toList = true := by
  unfold nodeB at h
  rw [if_neg (by decide), if_neg (by decide), if_pos rfl] at h
  simp only [Bool.and_eq_true] at h
  exact h.1.1.2
theorem node1 {f : Int} {t : ByteArray} {S : List (Int × Int)} {n : Nat} (h : nodeB 1 f t S n = true) : flag1 f = true := by
  unfold nodeB at h
  rw [if_neg (by decide), if_pos rfl] at h
  simp only [Bool.and_eq_true] at h
  exact h.1.1.1
theorem headW_len {kd f : Int} {t : ByteArray} {S : List (Int × Int)} {n : Nat} (h : nodeB kd f t S n = true) : (headW kd f t S).length ≤ 40 := by
  have h1 := fwL_len f
  have h2 := textB_le (L := S)
  have h3 : kd = 2 → t.data.toList.length ≤ 8 := fun e => by
    subst e
    have h4 := node2 h
    unfold nameB at h4
    simp only [Bool.and_eq_true, decide_eq_true_eq] at h4
    exact h4.2
  unfold headW
  split
  · decide
  · split
    · omega
    · split
      · rename_i e
        have := h3 e
        rw [List.length_append]
        show 5 + _ ≤ 40
        omega
      · split
        · rw [List.length_append]; show 3 + _ ≤ 40; omega
        · split
          · rw [List.length_append]; show 4 + _ ≤ 40; omega
          · split
            · decide
            · split <;> decide
mutual
theorem fmtT_len : ∀ k : KT, allT k = true → (fmtT k).length + 1 ≤ 42 * nodesT k
  | .mk kd f t S ks, h => by
    rw [allT, Bool.and_eq_true] at h
    have h1 := headW_len h.2
    have h2 := fmtL_len ks h.1
    rw [fmtT, nodesT, List.length_append]
    omega
theorem fmtL_len : ∀ ks : List KT, allL ks = true → (fmtL ks).length ≤ 42 * nodesL ks
  | [], _ => by rw [fmtL]; exact Nat.zero_le _
  | k :: r, h => by
    rw [allL, Bool.and_eq_true] at h
    have h1 := fmtT_len k h.1
    have h2 := fmtL_len r h.2
    rw [fmtL, nodesL, List.length_cons, List.length_append]
    omega
end
theorem fmtL_app : ∀ (a b : List KT), fmtL (a ++ b) = fmtL a ++ fmtL b
  | [], b => by rw [fmtL]; rfl
  | k :: a, b => by rw [List.cons_append, fmtL, fmtL, fmtL_app a b, List.cons_append, List.append_assoc]
theorem fmtL_take {ks : List KT} {i : Nat} {k : KT} (h : ks[i]? = some k) : fmtL (ks.take (i + 1)) = fmtL (ks.take i) ++ ([32] ++ fmtT k) := by
  rw [List.take_add_one, h, fmtL_app]
  show _ ++ fmtL [k] = _
  rw [fmtL, fmtL, List.append_nil]
  rfl
theorem fmtL_take_len {ks : List KT} (i : Nat) (h : allL ks = true) : (fmtL (ks.take i)).length ≤ 42 * nodesL ks := by
  have h1 : allL (ks.take i) = true := by
    have := allL_app (ks.take i) (ks.drop i)
    rw [List.take_append_drop, h] at this
    have h2 := this.symm
    rw [Bool.and_eq_true] at h2
    exact h2.1
  have h2 := fmtL_len _ h1
  have h3 := nodesL_le (ks := ks) i
  omega
theorem allL_get {ks : List KT} {i : Nat} {k : KT} (h : allL ks = true) (hk : ks[i]? = some k) : allT k = true := by
  cases ha : allT k with
  | true => rfl
  | false => rw [allL_no hk ha] at h; cases h
theorem cat_txt (a b : ByteArray) : (a ++ b).data.toList = a.data.toList ++ b.data.toList := by simp
theorem size_txt (a : ByteArray) : a.size = a.data.toList.length := by show a.data.size = _; rw [Array.length_toList]
theorem flag1_pow {f : Int} (h : flag1 f = true) : ∃ j : Nat, j < 5 ∧ f = ((2 ^ j : Nat) : Int) := by
  unfold flag1 at h
  simp only [Bool.or_eq_true, beq_iff_eq] at h
  rcases h with (((h | h) | h) | h) | h
  · exact ⟨0, by omega, h⟩
  · exact ⟨1, by omega, h⟩
  · exact ⟨2, by omega, h⟩
  · exact ⟨3, by omega, h⟩
  · exact ⟨4, by omega, h⟩
theorem pow_ne {i j : Nat} (hi : i < 5) (hj : j < 5) (h : i ≠ j) : (((2 ^ i : Nat) : Int) == ((2 ^ j : Nat) : Int)) = false := by
  have h1 : ∀ a b : Fin 5, a ≠ b → (((2 ^ a.1 : Nat) : Int) == ((2 ^ b.1 : Nat) : Int)) = false := by decide
  exact h1 ⟨i, hi⟩ ⟨j, hj⟩ (fun e => h (congrArg Fin.val e))
set_option maxHeartbeats 400000 in
theorem spec_bitk (k : Nat) (w : World) (hk : k < 5) : Calls Tryz.prog 57 #[.int .i64 (k : Int)] w fun e w' => e = .returned (.int .i64 ((2 ^ k : Nat) : Int)) ∧ Below w.heap.size w w' := by
  obtain ⟨q, hq⟩ : ∃ q, 2 ^ k = q := ⟨_, rfl⟩
  have hb := kbit_at hk hq
  rw [hq]
  have hc : (w.alloc (.cells #[.int .i64 1, .int .i64 2, .int .i64 4, .int .i64 8, .int .i64 16] 3)).cell? ⟨w.heap.size, k, none⟩ = some (.int .i64 (q : Int)) := (Whole.made w 3 #[.int .i64 1, .int .i64 2, .int .i64 4, .int .i64 8, .int .i64 16]).cell k |>.trans hb
  have HB := Lib.hid ((Below.refl w.heap.size w).alloc (Nat.le_refl _) (.cells #[.int .i64 1, .int .i64 2, .int .i64 4, .int .i64 8, .int .i64 16] 3))
  have h0 : (0 : Int) ≤ (k : Int) := by omega
  have h5 : (k : Int) < 5 := by omega
  clear hb hq
  go_enter Tryz.func57, Tryz.ntmps57
  go_wp2_with fail
  go_ret
  exact ⟨rfl, HB.out⟩
def nmA : Array Value := #[.string ⟨#[115, 101, 101, 110]⟩, .string ⟨#[97, 110, 115, 119, 101, 114, 101, 100]⟩, .string ⟨#[102, 108, 97, 103, 103, 101, 100]⟩, .string ⟨#[100, 101, 108, 101, 116, 101, 100]⟩, .string ⟨#[100, 114, 97, 102, 116]⟩]
theorem nmA_at {j : Nat} (h : j < 5) : nmA[j]? = some (.string (wB (fwL ((2 ^ j : Nat) : Int)))) := by
  match j, h with
  | 0, _ | 1, _ | 2, _ | 3, _ | 4, _ => rfl
/-- A key's text is told. -/
def Fm (w : World) (k : KT) (e : Ending) (w' : World) : Prop := ∃ v : ByteArray, v.data.toList = fmtT k ∧ e = .returned (.string v) ∧ Below w.heap.size w w'
/-- The first words of a node, as they stand behind the switch. -/
def Hd (kd f : Int) (t : ByteArray) (S : List (Int × Int)) (v : ByteArray) : Prop := v.data.toList = headW kd f t S
set_option maxRecDepth 20000 in
set_option maxHeartbeats 8000000 in
theorem spec_fmt_step {n : Nat} (ih : ∀ (k : KT) (v : Value) (w1 : World), nodesT k ≤ n → allT k = true → KV w1 k v → Calls Tryz.prog 35 #[v] w1 (Fm w1 k))
    {kd f : Int} {t : ByteArray} {S : List (Int × Int)} {ks : List KT} {v : Value} (hks : ∀ k ∈ ks, nodesT k ≤ n) (hn : nodesT (.mk kd f t S ks) ≤ 1000000) (ha : allT (.mk kd f t S ks) = true) (w : World) (h : KV w (.mk kd f t S ks) v) :
    Calls Tryz.prog 35 #[v] w (Fm w (.mk kd f t S ks)) := by
  obtain ⟨AS, nS, cS, AK, nK, cK, rfl, h2, h3, h4, h5, h6, h7⟩ := h.open
  rw [allT, Bool.and_eq_true] at ha
  rw [nodesT] at hn
  have hln := nodesL_len ks
  have hnK : nK ≤ 1000000 := by omega
  have hND := ha.2
  have HIH := Lib.hid ih
  have HMK := Lib.hid hks
  have HAL := Lib.hid ha.1
  have HL := Lib.hid h2
  have HLK := Lib.hid h6
  have HTS := Lib.hid h4
  have HS3 : Hid (S.length ≤ 33554432) := Lib.hid (by rw [h2]; exact h3)
  have HNL : Hid (nodesL ks ≤ 1000000) := Lib.hid (by omega)
  obtain ⟨B, hB⟩ : ∃ B, w.heap.size = B := ⟨_, rfl⟩
  have HBB := Lib.hid hB
  obtain ⟨wq, hwq⟩ : ∃ z, w.alloc (.cells #[.int .i64 kd, .int .i64 f, .string t, .slice AS nS cS, .slice AK nK cK] 27) = z := ⟨_, rfl⟩
  have HBA : Hid (Below w.heap.size w wq) := Lib.hid (by rw [← hwq]; exact below_new _ _)
  have HW0 : Hid (Whole wq B 27 #[.int .i64 kd, .int .i64 f, .string t, .slice AS nS cS, .slice AK nK cK]) := Lib.hid (by rw [← hwq, ← hB]; exact Whole.made w _ _)
  have HA := Lib.hid (h5.below HBA.out (Nat.le_refl _))
  have HQ := Lib.hid (KVs.below HBA.out (Nat.le_refl _) _ _ _ h7)
  have HND := Lib.hid hND
  have HWQ := Lib.hid hwq
  clear h h2 h4 h5 h6 h7 hks ih ha hn hln hB hwq
  have c0 := HW0.out.cell 0
  have c1 := HW0.out.cell 1
  have c2 := HW0.out.cell 2
  have c3 := HW0.out.cell 3
  have c4 := HW0.out.cell 4
  simp only [List.getElem?_toArray, List.getElem?_cons_zero, List.getElem?_cons_succ] at c0 c1 c2 c3 c4
  -- what the kind tells
  have hkd : 0 ≤ kd ∧ kd ≤ 7 := by
    unfold nodeB at hND
    split at hND
    · omega
    · split at hND
      · omega
      · split at hND
        · omega
        · split at hND
          · omega
          · split at hND
            · omega
            · split at hND
              · omega
              · cases hND
  clear hND
  have hk8 : kd = 0 ∨ kd = 1 ∨ kd = 2 ∨ kd = 3 ∨ kd = 4 ∨ kd = 5 ∨ kd = 6 ∨ kd = 7 := by omega
  clear hkd
  rcases hk8 with rfl | rfl | rfl | rfl | rfl | rfl | rfl | rfl
  ·
    go_enter Tryz.func35, Tryz.ntmps35
    go_wp2_with fail
    try rw [HBB.out, HWQ.out]
    clear c1 c2 c3
    go_wp2
    go_loopw [3, 6] (fun ov iv wr => ∃ (i : Nat) (X : ByteArray), i ≤ nK ∧ iv = .int .i64 (i : Int) ∧ ov = .string X ∧ X.size ≤ 42000100 ∧ Hid (X.data.toList = headW (0 : Int) f t S ++ fmtL (ks.take i)) ∧ Hid (Below wq.heap.size wq wr)) (fun _ iv _ => nK - (intOf iv).toNat)
    case atStart => exact ⟨0, (⟨#[97, 108, 108]⟩ : ByteArray), Nat.zero_le _, by go_num, rfl, (by decide), Lib.hid (by rw [List.take_zero, fmtL, List.append_nil]; exact rfl), Below.refl _ _⟩
    case round =>
      obtain ⟨i, X, hi, rfl, rfl, hX, HX, KB⟩ := hrel
      have HVr := Lib.hid (HW0.out.below KB.out HW0.out.lt)
      have z4 := HVr.out.cell 4
      simp only [List.getElem?_toArray, List.getElem?_cons_zero, List.getElem?_cons_succ] at z4
      by_cases hlt : i < nK
      · have i0 : (0 : Int) ≤ (i : Int) := by omega
        have i5 : (i : Int) < (nK : Int) := by omega
        obtain ⟨k, hk⟩ : ∃ x, ks[i]? = some x := ⟨_, List.getElem?_eq_getElem (by rw [HLK.out]; exact hlt)⟩
        obtain ⟨b, o, v0, v1, v2, v3, v4, rfl, hbz, d0, d1, d2, d3, d4, hkv⟩ := (KVs.below KB.out (Nat.le_refl _) _ _ _ HQ.out).get hk
        rw [Nat.zero_add] at d0 d1 d2 d3 d4
        have HAT := Lib.hid (allL_get HAL.out hk)
        have HC := Lib.hid (HIH.out k _ wr (HMK.out k (List.mem_of_getElem? hk)) HAT.out hkv)
        have HTK := Lib.hid (fmtL_take hk)
        have HLE := Lib.hid (fmtL_take_len (ks := ks) (i + 1) HAL.out)
        have HKL : Hid ((fmtT k).length ≤ 42000000) := Lib.hid (by
          have h1 := fmtT_len k HAT.out
          have h2 := nodesL_lt hk
          have h3 := HNL.out
          omega)
        clear hk hkv hbz
        go_wp2_with fail
        refine HC.out.mono ?_
        rintro e w2 ⟨y, hy, rfl, hb⟩
        have KB2 := Lib.hid (KB.out.trans (hb.mono KB.out.size))
        have hys : y.size ≤ 42000000 := by rw [size_txt, hy]; exact HKL.out
        have HN2 : Hid ((X ++ (⟨#[32]⟩ : ByteArray) ++ y).data.toList = headW (0 : Int) f t S ++ fmtL (ks.take (i + 1))) := Lib.hid (by
          rw [cat_txt, cat_txt, HX.out, hy, HTK.out, List.append_assoc, List.append_assoc])
        have HS2 : Hid ((X ++ (⟨#[32]⟩ : ByteArray) ++ y).size ≤ 42000100) := Lib.hid (by
          rw [size_txt, HN2.out, List.length_append]
          have h1 := headW_len HND.out
          have h2 := HLE.out
          have h3 := HNL.out
          omega)
        clear hb hy d0 d1 d2 d3 d4 z4
        go_wp2
        go_roundw
        case rel => exact ⟨i + 1, _, by omega, by go_num, rfl, HS2.out, HN2, KB2⟩
        case measure => simp [intOf]; omega
      · have i5 : ¬ (i : Int) < (nK : Int) := by omega
        have hin : i = nK := by omega
        have HF : Hid (X.data.toList = fmtT (.mk (0 : Int) f t S ks)) := Lib.hid (by
          have h1 := HX.out
          rw [List.take_of_length_le (by rw [HLK.out]; omega)] at h1
          rw [fmtT]
          exact h1)
        have KB2 := Lib.hid (HBA.out.trans (KB.out.mono HBA.out.size))
        clear hin
        go_wp2
        go_ret
        exact ⟨X, HF.out, rfl, KB2.out⟩
  ·
    obtain ⟨j, hj, hfj⟩ : ∃ j : Nat, j < 5 ∧ f = ((2 ^ j : Nat) : Int) := flag1_pow (node1 (n := ks.length) (show nodeB 1 f t S ks.length = true from HND.out))
    obtain ⟨wn, hwn⟩ : ∃ z, wq.alloc (.cells nmA 9) = z := ⟨_, rfl⟩
    obtain ⟨G, hGe⟩ : ∃ z, B + 1 = z := ⟨_, rfl⟩
    have hG : wq.heap.size = G := by rw [← HWQ.out, ← hGe, ← HBB.out]; simp
    have hbn : Below wq.heap.size wq wn := by rw [← hwn]; exact below_new _ _
    have HBN := Lib.hid (HBA.out.trans (hbn.mono HBA.out.size))
    have HVN := Lib.hid (HW0.out.below hbn HW0.out.lt)
    have HQN := Lib.hid (KVs.below hbn (Nat.le_refl _) _ _ _ HQ.out)
    have HGN := Lib.hid (show Whole wn G 9 nmA by rw [← hwn, ← hG]; exact Whole.made _ _ _)
    have HF := Lib.hid hfj
    clear hfj
    have hB2 := HBB.out
    have HWN := Lib.hid hwn
    rw [← HWQ.out] at HWN
    clear hbn c2 c3 hwn hG
    unfold nmA at HWN
    go_enter Tryz.func35, Tryz.ntmps35
    go_wp2_with fail
    rw [HWN.out]
    try rw [hGe]
    clear hB2 hGe
    clear c0 c1 c4
    go_loopw [3, 5] (fun ov iv wr => ∃ (i : Nat) (X : ByteArray), i ≤ 5 ∧ iv = .int .i64 (i : Int) ∧ ov = .string X ∧ X.size ≤ 8 ∧ Hid (j < i → X.data.toList = fwL f) ∧ Hid (Below wn.heap.size wn wr)) (fun _ iv _ => 5 - (intOf iv).toNat)
    case atStart => exact ⟨0, ⟨#[]⟩, Nat.zero_le _, by go_num, rfl, by decide, Lib.hid (fun h => absurd h (Nat.not_lt_zero _)), Below.refl _ _⟩
    case round =>
      obtain ⟨i, X, hi, rfl, rfl, hX, HX, KB⟩ := hrel
      by_cases hlt : i < 5
      · have i0 : (0 : Int) ≤ (i : Int) := by omega
        have i5 : (i : Int) < 5 := by omega
        have hgx : wn.cell? ⟨G, i, none⟩ = some (.string (wB (fwL ((2 ^ i : Nat) : Int)))) := (HGN.out.cell i).trans (nmA_at hlt)
        obtain ⟨fw, hfw⟩ : ∃ z, wB (fwL ((2 ^ i : Nat) : Int)) = z := ⟨_, rfl⟩
        rw [hfw] at hgx
        have HFW : Hid (fw.data.toList = fwL ((2 ^ i : Nat) : Int)) := Lib.hid (by rw [← hfw]; rfl)
        have hfs : fw.size ≤ 8 := by rw [size_txt, HFW.out]; exact fwL_len _
        obtain ⟨wz, hwz⟩ : ∃ z, wr.drew = z := ⟨_, rfl⟩
        have hbz : Below wr.heap.size wr wz := by rw [← hwz]; exact below_drew1 _
        have KBz := Lib.hid (KB.out.trans (hbz.mono KB.out.size))
        have HVz := Lib.hid (HVN.out.below KBz.out HVN.out.lt)
        have e1 := HVz.out.cell 1
        simp only [List.getElem?_toArray, List.getElem?_cons_zero, List.getElem?_cons_succ] at e1
        obtain ⟨pi, hpi⟩ : ∃ z : Int, ((2 ^ i : Nat) : Int) = z := ⟨_, rfl⟩
        have HPI := Lib.hid hpi
        have HWZ := Lib.hid hwz
        clear hfw hwz hbz
        go_upto_region 10 with fail
        refine wp_region_late (fun w' => w'.cell? ⟨B, 1, none⟩ = some (.int .i64 f)) 4 (by kernel_rfl) ?_
        rw [HWZ.out]
        refine wpLate_take (i := 0) (v := ?v0) rfl (by kernel_rfl) (by kernel_rfl) (by kernel_rfl) (by kernel_rfl) (by kernel_rfl) (fun _ _ _ h => h) e1 (by rfl) ?hy0 ?r0
        case hy0 =>
          rintro wz z0
          go_simp
          try with_reducible rfl
        try simp only [Act.put]
        refine wpLate_take (i := 2) (v := ?v2) rfl (by kernel_rfl) (by kernel_rfl) (by kernel_rfl) (by kernel_rfl) (by kernel_rfl) (fun _ _ _ h => h) e1 (by rfl) ?hy2 ?r2
        case hy2 =>
          rintro wz z0
          go_simp
          try with_reducible rfl
        try simp only [Act.put]
        refine wpLate_take (i := 3) (v := ?v3) rfl (by kernel_rfl) (by kernel_rfl) (by kernel_rfl) (by kernel_rfl) (by kernel_rfl) (fun _ _ _ h => h) e1 (by rfl) ?hy3 ?r3
        case hy3 =>
          rintro wz z0
          go_simp
          try with_reducible rfl
        try simp only [Act.put]
        refine wpLate_one (i := 1) (by kernel_rfl) rfl (fun K hK => ?_)
        go_simp
        refine (spec_bitk i wz hlt).mono ?_
        rintro e w9 ⟨rfl, hb⟩
        have KB9 := Lib.hid (KBz.out.trans (hb.mono KBz.out.size))
        have e9 := (HVz.out.below hb HVz.out.lt).cell 1
        simp only [List.getElem?_toArray, List.getElem?_cons_zero, List.getElem?_cons_succ] at e9
        rw [HPI.out]
        refine hK.out _ _ (fun _ => e9) ?_
        clear hK K hb
        try simp only [Act.put]
        refine wpLate_one (i := 4) (by kernel_rfl) rfl (fun K hK => ?_)
        go_simp
        refine hK.out _ _ (fun h => absurd rfl h) ?_
        clear hK K
        try simp only [Act.put]
        refine wpLate_done (by kernel_rfl) ?_ _
        by_cases hij : i = j
        · have hpe : (pi == f) = true := by rw [← hpi, HF.out, hij]; simp
          have HX2 : Hid (j < i + 1 → fw.data.toList = fwL f) := Lib.hid (fun _ => by rw [HFW.out, HF.out, hij])
          have hgy : w9.cell? ⟨G, i, none⟩ = some (.string fw) := (KB9.out.cell (p := ⟨G, i, none⟩) HGN.out.lt).trans hgx
          clear hpi hij hgx
          go_wp2
          go_roundw
          case rel => exact ⟨i + 1, fw, by omega, by go_num, rfl, hfs, HX2, KB9⟩
          case measure => simp [intOf]; omega
        · have hpe : (pi == f) = false := by rw [← hpi, HF.out]; exact pow_ne hlt hj hij
          have HX2 : Hid (j < i + 1 → X.data.toList = fwL f) := Lib.hid (fun h => HX.out (by omega))
          clear hpi hij hgx
          go_wp2
          go_roundw
          case rel => exact ⟨i + 1, X, by omega, by go_num, rfl, hX, HX2, KB9⟩
          case measure => simp [intOf]; omega
      · have i5 : ¬ (i : Int) < 5 := by omega
        have HTX : Hid (X.data.toList = headW 1 f t S) := Lib.hid ((HX.out (by omega)).trans rfl)
        have HVN2 := Lib.hid (HVN.out.below KB.out HVN.out.lt)
        have HQN2 := Lib.hid (KVs.below KB.out (Nat.le_refl _) _ _ _ HQN.out)
        have HBN2 := Lib.hid (HBN.out.trans (KB.out.mono HBN.out.size))
        have c4 := HVN2.out.cell 4
        simp only [List.getElem?_toArray, List.getElem?_cons_zero, List.getElem?_cons_succ] at c4
        obtain ⟨wv, hwv⟩ : ∃ z, wr = z := ⟨_, rfl⟩
        subst hwv
        go_wp2
        go_loopw [3, 6] (fun ov iv wr2 => ∃ (i : Nat) (X : ByteArray), i ≤ nK ∧ iv = .int .i64 (i : Int) ∧ ov = .string X ∧ X.size ≤ 42000100 ∧ Hid (X.data.toList = headW (1 : Int) f t S ++ fmtL (ks.take i)) ∧ Hid (Below wr.heap.size wr wr2)) (fun _ iv _ => nK - (intOf iv).toNat)
        case atStart => exact ⟨0, X, Nat.zero_le _, by go_num, rfl, (by omega), Lib.hid (by rw [List.take_zero, fmtL, List.append_nil]; exact HTX.out), Below.refl _ _⟩
        case round =>
          obtain ⟨i, X, hi, rfl, rfl, hX, HX, KB⟩ := hrel
          have HVr := Lib.hid (HVN2.out.below KB.out HVN2.out.lt)
          have z4 := HVr.out.cell 4
          simp only [List.getElem?_toArray, List.getElem?_cons_zero, List.getElem?_cons_succ] at z4
          by_cases hlt : i < nK
          · have i0 : (0 : Int) ≤ (i : Int) := by omega
            have i5 : (i : Int) < (nK : Int) := by omega
            obtain ⟨k, hk⟩ : ∃ x, ks[i]? = some x := ⟨_, List.getElem?_eq_getElem (by rw [HLK.out]; exact hlt)⟩
            obtain ⟨b, o, v0, v1, v2, v3, v4, rfl, hbz, d0, d1, d2, d3, d4, hkv⟩ := (KVs.below KB.out (Nat.le_refl _) _ _ _ HQN2.out).get hk
            rw [Nat.zero_add] at d0 d1 d2 d3 d4
            have HAT := Lib.hid (allL_get HAL.out hk)
            have HC := Lib.hid (HIH.out k _ wr (HMK.out k (List.mem_of_getElem? hk)) HAT.out hkv)
            have HTK := Lib.hid (fmtL_take hk)
            have HLE := Lib.hid (fmtL_take_len (ks := ks) (i + 1) HAL.out)
            have HKL : Hid ((fmtT k).length ≤ 42000000) := Lib.hid (by
              have h1 := fmtT_len k HAT.out
              have h2 := nodesL_lt hk
              have h3 := HNL.out
              omega)
            clear hk hkv hbz
            go_wp2_with fail
            refine HC.out.mono ?_
            rintro e w2 ⟨y, hy, rfl, hb⟩
            have KB2 := Lib.hid (KB.out.trans (hb.mono KB.out.size))
            have hys : y.size ≤ 42000000 := by rw [size_txt, hy]; exact HKL.out
            have HN2 : Hid ((X ++ (⟨#[32]⟩ : ByteArray) ++ y).data.toList = headW (1 : Int) f t S ++ fmtL (ks.take (i + 1))) := Lib.hid (by
              rw [cat_txt, cat_txt, HX.out, hy, HTK.out, List.append_assoc, List.append_assoc])
            have HS2 : Hid ((X ++ (⟨#[32]⟩ : ByteArray) ++ y).size ≤ 42000100) := Lib.hid (by
              rw [size_txt, HN2.out, List.length_append]
              have h1 := headW_len HND.out
              have h2 := HLE.out
              have h3 := HNL.out
              omega)
            clear hb hy d0 d1 d2 d3 d4 z4
            go_wp2
            go_roundw
            case rel => exact ⟨i + 1, _, by omega, by go_num, rfl, HS2.out, HN2, KB2⟩
            case measure => simp [intOf]; omega
          · have i5 : ¬ (i : Int) < (nK : Int) := by omega
            have hin : i = nK := by omega
            have HF : Hid (X.data.toList = fmtT (.mk (1 : Int) f t S ks)) := Lib.hid (by
              have h1 := HX.out
              rw [List.take_of_length_le (by rw [HLK.out]; omega)] at h1
              rw [fmtT]
              exact h1)
            have KB2 := Lib.hid (HBN2.out.trans (KB.out.mono HBN2.out.size))
            clear hin
            go_wp2
            go_ret
            exact ⟨X, HF.out, rfl, KB2.out⟩
  ·
    have ht8 : t.size ≤ 8 := by
      have h4 := node2 (n := ks.length) (show nodeB 2 f t S ks.length = true from HND.out)
      unfold nameB at h4
      simp only [Bool.and_eq_true, decide_eq_true_eq] at h4
      rw [size_txt]
      exact h4.2
    go_enter Tryz.func35, Tryz.ntmps35
    go_wp2_with fail
    try rw [HBB.out, HWQ.out]
    have HTX : Hid ((⟨#[116, 101, 120, 116, 32]⟩ ++ t : ByteArray).data.toList = headW 2 f t S) := Lib.hid (by rw [cat_txt]; rfl)
    have HTZ : Hid ((⟨#[116, 101, 120, 116, 32]⟩ ++ t : ByteArray).size ≤ 42000100) := Lib.hid (by rw [size_txt, cat_txt, List.length_append, ← size_txt t]; show 5 + _ ≤ _; omega)
    clear c1 c3
    go_wp2
    go_loopw [3, 6] (fun ov iv wr => ∃ (i : Nat) (X : ByteArray), i ≤ nK ∧ iv = .int .i64 (i : Int) ∧ ov = .string X ∧ X.size ≤ 42000100 ∧ Hid (X.data.toList = headW (2 : Int) f t S ++ fmtL (ks.take i)) ∧ Hid (Below wq.heap.size wq wr)) (fun _ iv _ => nK - (intOf iv).toNat)
    case atStart => exact ⟨0, (⟨#[116, 101, 120, 116, 32]⟩ ++ t), Nat.zero_le _, by go_num, rfl, HTZ.out, Lib.hid (by rw [List.take_zero, fmtL, List.append_nil]; exact HTX.out), Below.refl _ _⟩
    case round =>
      obtain ⟨i, X, hi, rfl, rfl, hX, HX, KB⟩ := hrel
      have HVr := Lib.hid (HW0.out.below KB.out HW0.out.lt)
      have z4 := HVr.out.cell 4
      simp only [List.getElem?_toArray, List.getElem?_cons_zero, List.getElem?_cons_succ] at z4
      by_cases hlt : i < nK
      · have i0 : (0 : Int) ≤ (i : Int) := by omega
        have i5 : (i : Int) < (nK : Int) := by omega
        obtain ⟨k, hk⟩ : ∃ x, ks[i]? = some x := ⟨_, List.getElem?_eq_getElem (by rw [HLK.out]; exact hlt)⟩
        obtain ⟨b, o, v0, v1, v2, v3, v4, rfl, hbz, d0, d1, d2, d3, d4, hkv⟩ := (KVs.below KB.out (Nat.le_refl _) _ _ _ HQ.out).get hk
        rw [Nat.zero_add] at d0 d1 d2 d3 d4
        have HAT := Lib.hid (allL_get HAL.out hk)
        have HC := Lib.hid (HIH.out k _ wr (HMK.out k (List.mem_of_getElem? hk)) HAT.out hkv)
        have HTK := Lib.hid (fmtL_take hk)
        have HLE := Lib.hid (fmtL_take_len (ks := ks) (i + 1) HAL.out)
        have HKL : Hid ((fmtT k).length ≤ 42000000) := Lib.hid (by
          have h1 := fmtT_len k HAT.out
          have h2 := nodesL_lt hk
          have h3 := HNL.out
          omega)
        clear hk hkv hbz
        go_wp2_with fail
        refine HC.out.mono ?_
        rintro e w2 ⟨y, hy, rfl, hb⟩
        have KB2 := Lib.hid (KB.out.trans (hb.mono KB.out.size))
        have hys : y.size ≤ 42000000 := by rw [size_txt, hy]; exact HKL.out
        have HN2 : Hid ((X ++ (⟨#[32]⟩ : ByteArray) ++ y).data.toList = headW (2 : Int) f t S ++ fmtL (ks.take (i + 1))) := Lib.hid (by
          rw [cat_txt, cat_txt, HX.out, hy, HTK.out, List.append_assoc, List.append_assoc])
        have HS2 : Hid ((X ++ (⟨#[32]⟩ : ByteArray) ++ y).size ≤ 42000100) := Lib.hid (by
          rw [size_txt, HN2.out, List.length_append]
          have h1 := headW_len HND.out
          have h2 := HLE.out
          have h3 := HNL.out
          omega)
        clear hb hy d0 d1 d2 d3 d4 z4
        go_wp2
        go_roundw
        case rel => exact ⟨i + 1, _, by omega, by go_num, rfl, HS2.out, HN2, KB2⟩
        case measure => simp [intOf]; omega
      · have i5 : ¬ (i : Int) < (nK : Int) := by omega
        have hin : i = nK := by omega
        have HF : Hid (X.data.toList = fmtT (.mk (2 : Int) f t S ks)) := Lib.hid (by
          have h1 := HX.out
          rw [List.take_of_length_le (by rw [HLK.out]; omega)] at h1
          rw [fmtT]
          exact h1)
        have KB2 := Lib.hid (HBA.out.trans (KB.out.mono HBA.out.size))
        clear hin
        go_wp2
        go_ret
        exact ⟨X, HF.out, rfl, KB2.out⟩
  ·
    go_enter Tryz.func35, Tryz.ntmps35
    go_wp2_with fail
    try rw [HBB.out, HWQ.out]
    have HCS := spec_settext AS cS S wq HA.out HS3.out
    rw [HL.out] at HCS
    go_wp2_with fail
    refine HCS.mono ?_
    rintro e w1 ⟨y, hy, rfl, hb⟩
    have hys : y.size ≤ 36 := by rw [size_txt, hy]; exact textB_le
    have HB1 := Lib.hid (HBA.out.trans (hb.mono HBA.out.size))
    have HV1 := Lib.hid (HW0.out.below hb HW0.out.lt)
    have HQ1 := Lib.hid (KVs.below hb (Nat.le_refl _) _ _ _ HQ.out)
    have HTX : Hid ((⟨#[97, 116, 32]⟩ ++ y : ByteArray).data.toList = headW 3 f t S) := Lib.hid (by rw [cat_txt, hy]; rfl)
    have HTZ : Hid ((⟨#[97, 116, 32]⟩ ++ y : ByteArray).size ≤ 42000100) := Lib.hid (by rw [size_txt, cat_txt, List.length_append, ← size_txt y]; show 3 + _ ≤ _; omega)
    have c4 := HV1.out.cell 4
    simp only [List.getElem?_toArray, List.getElem?_cons_zero, List.getElem?_cons_succ] at c4
    clear hb hy c0 c1 c2 c3 HCS
    go_wp2
    go_loopw [3, 6] (fun ov iv wr => ∃ (i : Nat) (X : ByteArray), i ≤ nK ∧ iv = .int .i64 (i : Int) ∧ ov = .string X ∧ X.size ≤ 42000100 ∧ Hid (X.data.toList = headW (3 : Int) f t S ++ fmtL (ks.take i)) ∧ Hid (Below w1.heap.size w1 wr)) (fun _ iv _ => nK - (intOf iv).toNat)
    case atStart => exact ⟨0, (⟨#[97, 116, 32]⟩ ++ y), Nat.zero_le _, by go_num, rfl, HTZ.out, Lib.hid (by rw [List.take_zero, fmtL, List.append_nil]; exact HTX.out), Below.refl _ _⟩
    case round =>
      obtain ⟨i, X, hi, rfl, rfl, hX, HX, KB⟩ := hrel
      have HVr := Lib.hid (HV1.out.below KB.out HV1.out.lt)
      have z4 := HVr.out.cell 4
      simp only [List.getElem?_toArray, List.getElem?_cons_zero, List.getElem?_cons_succ] at z4
      by_cases hlt : i < nK
      · have i0 : (0 : Int) ≤ (i : Int) := by omega
        have i5 : (i : Int) < (nK : Int) := by omega
        obtain ⟨k, hk⟩ : ∃ x, ks[i]? = some x := ⟨_, List.getElem?_eq_getElem (by rw [HLK.out]; exact hlt)⟩
        obtain ⟨b, o, v0, v1, v2, v3, v4, rfl, hbz, d0, d1, d2, d3, d4, hkv⟩ := (KVs.below KB.out (Nat.le_refl _) _ _ _ HQ1.out).get hk
        rw [Nat.zero_add] at d0 d1 d2 d3 d4
        have HAT := Lib.hid (allL_get HAL.out hk)
        have HC := Lib.hid (HIH.out k _ wr (HMK.out k (List.mem_of_getElem? hk)) HAT.out hkv)
        have HTK := Lib.hid (fmtL_take hk)
        have HLE := Lib.hid (fmtL_take_len (ks := ks) (i + 1) HAL.out)
        have HKL : Hid ((fmtT k).length ≤ 42000000) := Lib.hid (by
          have h1 := fmtT_len k HAT.out
          have h2 := nodesL_lt hk
          have h3 := HNL.out
          omega)
        clear hk hkv hbz
        go_wp2_with fail
        refine HC.out.mono ?_
        rintro e w2 ⟨y, hy, rfl, hb⟩
        have KB2 := Lib.hid (KB.out.trans (hb.mono KB.out.size))
        have hys : y.size ≤ 42000000 := by rw [size_txt, hy]; exact HKL.out
        have HN2 : Hid ((X ++ (⟨#[32]⟩ : ByteArray) ++ y).data.toList = headW (3 : Int) f t S ++ fmtL (ks.take (i + 1))) := Lib.hid (by
          rw [cat_txt, cat_txt, HX.out, hy, HTK.out, List.append_assoc, List.append_assoc])
        have HS2 : Hid ((X ++ (⟨#[32]⟩ : ByteArray) ++ y).size ≤ 42000100) := Lib.hid (by
          rw [size_txt, HN2.out, List.length_append]
          have h1 := headW_len HND.out
          have h2 := HLE.out
          have h3 := HNL.out
          omega)
        clear hb hy d0 d1 d2 d3 d4 z4
        go_wp2
        go_roundw
        case rel => exact ⟨i + 1, _, by omega, by go_num, rfl, HS2.out, HN2, KB2⟩
        case measure => simp [intOf]; omega
      · have i5 : ¬ (i : Int) < (nK : Int) := by omega
        have hin : i = nK := by omega
        have HF : Hid (X.data.toList = fmtT (.mk (3 : Int) f t S ks)) := Lib.hid (by
          have h1 := HX.out
          rw [List.take_of_length_le (by rw [HLK.out]; omega)] at h1
          rw [fmtT]
          exact h1)
        have KB2 := Lib.hid (HB1.out.trans (KB.out.mono HB1.out.size))
        clear hin
        go_wp2
        go_ret
        exact ⟨X, HF.out, rfl, KB2.out⟩
  ·
    go_enter Tryz.func35, Tryz.ntmps35
    go_wp2_with fail
    try rw [HBB.out, HWQ.out]
    have HCS := spec_settext AS cS S wq HA.out HS3.out
    rw [HL.out] at HCS
    go_wp2_with fail
    refine HCS.mono ?_
    rintro e w1 ⟨y, hy, rfl, hb⟩
    have hys : y.size ≤ 36 := by rw [size_txt, hy]; exact textB_le
    have HB1 := Lib.hid (HBA.out.trans (hb.mono HBA.out.size))
    have HV1 := Lib.hid (HW0.out.below hb HW0.out.lt)
    have HQ1 := Lib.hid (KVs.below hb (Nat.le_refl _) _ _ _ HQ.out)
    have HTX : Hid ((⟨#[117, 105, 100, 32]⟩ ++ y : ByteArray).data.toList = headW 4 f t S) := Lib.hid (by rw [cat_txt, hy]; rfl)
    have HTZ : Hid ((⟨#[117, 105, 100, 32]⟩ ++ y : ByteArray).size ≤ 42000100) := Lib.hid (by rw [size_txt, cat_txt, List.length_append, ← size_txt y]; show 4 + _ ≤ _; omega)
    have c4 := HV1.out.cell 4
    simp only [List.getElem?_toArray, List.getElem?_cons_zero, List.getElem?_cons_succ] at c4
    clear hb hy c0 c1 c2 c3 HCS
    go_wp2
    go_loopw [3, 6] (fun ov iv wr => ∃ (i : Nat) (X : ByteArray), i ≤ nK ∧ iv = .int .i64 (i : Int) ∧ ov = .string X ∧ X.size ≤ 42000100 ∧ Hid (X.data.toList = headW (4 : Int) f t S ++ fmtL (ks.take i)) ∧ Hid (Below w1.heap.size w1 wr)) (fun _ iv _ => nK - (intOf iv).toNat)
    case atStart => exact ⟨0, (⟨#[117, 105, 100, 32]⟩ ++ y), Nat.zero_le _, by go_num, rfl, HTZ.out, Lib.hid (by rw [List.take_zero, fmtL, List.append_nil]; exact HTX.out), Below.refl _ _⟩
    case round =>
      obtain ⟨i, X, hi, rfl, rfl, hX, HX, KB⟩ := hrel
      have HVr := Lib.hid (HV1.out.below KB.out HV1.out.lt)
      have z4 := HVr.out.cell 4
      simp only [List.getElem?_toArray, List.getElem?_cons_zero, List.getElem?_cons_succ] at z4
      by_cases hlt : i < nK
      · have i0 : (0 : Int) ≤ (i : Int) := by omega
        have i5 : (i : Int) < (nK : Int) := by omega
        obtain ⟨k, hk⟩ : ∃ x, ks[i]? = some x := ⟨_, List.getElem?_eq_getElem (by rw [HLK.out]; exact hlt)⟩
        obtain ⟨b, o, v0, v1, v2, v3, v4, rfl, hbz, d0, d1, d2, d3, d4, hkv⟩ := (KVs.below KB.out (Nat.le_refl _) _ _ _ HQ1.out).get hk
        rw [Nat.zero_add] at d0 d1 d2 d3 d4
        have HAT := Lib.hid (allL_get HAL.out hk)
        have HC := Lib.hid (HIH.out k _ wr (HMK.out k (List.mem_of_getElem? hk)) HAT.out hkv)
        have HTK := Lib.hid (fmtL_take hk)
        have HLE := Lib.hid (fmtL_take_len (ks := ks) (i + 1) HAL.out)
        have HKL : Hid ((fmtT k).length ≤ 42000000) := Lib.hid (by
          have h1 := fmtT_len k HAT.out
          have h2 := nodesL_lt hk
          have h3 := HNL.out
          omega)
        clear hk hkv hbz
        go_wp2_with fail
        refine HC.out.mono ?_
        rintro e w2 ⟨y, hy, rfl, hb⟩
        have KB2 := Lib.hid (KB.out.trans (hb.mono KB.out.size))
        have hys : y.size ≤ 42000000 := by rw [size_txt, hy]; exact HKL.out
        have HN2 : Hid ((X ++ (⟨#[32]⟩ : ByteArray) ++ y).data.toList = headW (4 : Int) f t S ++ fmtL (ks.take (i + 1))) := Lib.hid (by
          rw [cat_txt, cat_txt, HX.out, hy, HTK.out, List.append_assoc, List.append_assoc])
        have HS2 : Hid ((X ++ (⟨#[32]⟩ : ByteArray) ++ y).size ≤ 42000100) := Lib.hid (by
          rw [size_txt, HN2.out, List.length_append]
          have h1 := headW_len HND.out
          have h2 := HLE.out
          have h3 := HNL.out
          omega)
        clear hb hy d0 d1 d2 d3 d4 z4
        go_wp2
        go_roundw
        case rel => exact ⟨i + 1, _, by omega, by go_num, rfl, HS2.out, HN2, KB2⟩
        case measure => simp [intOf]; omega
      · have i5 : ¬ (i : Int) < (nK : Int) := by omega
        have hin : i = nK := by omega
        have HF : Hid (X.data.toList = fmtT (.mk (4 : Int) f t S ks)) := Lib.hid (by
          have h1 := HX.out
          rw [List.take_of_length_le (by rw [HLK.out]; omega)] at h1
          rw [fmtT]
          exact h1)
        have KB2 := Lib.hid (HB1.out.trans (KB.out.mono HB1.out.size))
        clear hin
        go_wp2
        go_ret
        exact ⟨X, HF.out, rfl, KB2.out⟩
  ·
    go_enter Tryz.func35, Tryz.ntmps35
    go_wp2_with fail
    try rw [HBB.out, HWQ.out]
    clear c1 c2 c3
    go_wp2
    go_loopw [3, 6] (fun ov iv wr => ∃ (i : Nat) (X : ByteArray), i ≤ nK ∧ iv = .int .i64 (i : Int) ∧ ov = .string X ∧ X.size ≤ 42000100 ∧ Hid (X.data.toList = headW (5 : Int) f t S ++ fmtL (ks.take i)) ∧ Hid (Below wq.heap.size wq wr)) (fun _ iv _ => nK - (intOf iv).toNat)
    case atStart => exact ⟨0, (⟨#[110, 111, 116]⟩ : ByteArray), Nat.zero_le _, by go_num, rfl, (by decide), Lib.hid (by rw [List.take_zero, fmtL, List.append_nil]; exact rfl), Below.refl _ _⟩
    case round =>
      obtain ⟨i, X, hi, rfl, rfl, hX, HX, KB⟩ := hrel
      have HVr := Lib.hid (HW0.out.below KB.out HW0.out.lt)
      have z4 := HVr.out.cell 4
      simp only [List.getElem?_toArray, List.getElem?_cons_zero, List.getElem?_cons_succ] at z4
      by_cases hlt : i < nK
      · have i0 : (0 : Int) ≤ (i : Int) := by omega
        have i5 : (i : Int) < (nK : Int) := by omega
        obtain ⟨k, hk⟩ : ∃ x, ks[i]? = some x := ⟨_, List.getElem?_eq_getElem (by rw [HLK.out]; exact hlt)⟩
        obtain ⟨b, o, v0, v1, v2, v3, v4, rfl, hbz, d0, d1, d2, d3, d4, hkv⟩ := (KVs.below KB.out (Nat.le_refl _) _ _ _ HQ.out).get hk
        rw [Nat.zero_add] at d0 d1 d2 d3 d4
        have HAT := Lib.hid (allL_get HAL.out hk)
        have HC := Lib.hid (HIH.out k _ wr (HMK.out k (List.mem_of_getElem? hk)) HAT.out hkv)
        have HTK := Lib.hid (fmtL_take hk)
        have HLE := Lib.hid (fmtL_take_len (ks := ks) (i + 1) HAL.out)
        have HKL : Hid ((fmtT k).length ≤ 42000000) := Lib.hid (by
          have h1 := fmtT_len k HAT.out
          have h2 := nodesL_lt hk
          have h3 := HNL.out
          omega)
        clear hk hkv hbz
        go_wp2_with fail
        refine HC.out.mono ?_
        rintro e w2 ⟨y, hy, rfl, hb⟩
        have KB2 := Lib.hid (KB.out.trans (hb.mono KB.out.size))
        have hys : y.size ≤ 42000000 := by rw [size_txt, hy]; exact HKL.out
        have HN2 : Hid ((X ++ (⟨#[32]⟩ : ByteArray) ++ y).data.toList = headW (5 : Int) f t S ++ fmtL (ks.take (i + 1))) := Lib.hid (by
          rw [cat_txt, cat_txt, HX.out, hy, HTK.out, List.append_assoc, List.append_assoc])
        have HS2 : Hid ((X ++ (⟨#[32]⟩ : ByteArray) ++ y).size ≤ 42000100) := Lib.hid (by
          rw [size_txt, HN2.out, List.length_append]
          have h1 := headW_len HND.out
          have h2 := HLE.out
          have h3 := HNL.out
          omega)
        clear hb hy d0 d1 d2 d3 d4 z4
        go_wp2
        go_roundw
        case rel => exact ⟨i + 1, _, by omega, by go_num, rfl, HS2.out, HN2, KB2⟩
        case measure => simp [intOf]; omega
      · have i5 : ¬ (i : Int) < (nK : Int) := by omega
        have hin : i = nK := by omega
        have HF : Hid (X.data.toList = fmtT (.mk (5 : Int) f t S ks)) := Lib.hid (by
          have h1 := HX.out
          rw [List.take_of_length_le (by rw [HLK.out]; omega)] at h1
          rw [fmtT]
          exact h1)
        have KB2 := Lib.hid (HBA.out.trans (KB.out.mono HBA.out.size))
        clear hin
        go_wp2
        go_ret
        exact ⟨X, HF.out, rfl, KB2.out⟩
  ·
    go_enter Tryz.func35, Tryz.ntmps35
    go_wp2_with fail
    try rw [HBB.out, HWQ.out]
    clear c1 c2 c3
    go_wp2
    go_loopw [3, 6] (fun ov iv wr => ∃ (i : Nat) (X : ByteArray), i ≤ nK ∧ iv = .int .i64 (i : Int) ∧ ov = .string X ∧ X.size ≤ 42000100 ∧ Hid (X.data.toList = headW (6 : Int) f t S ++ fmtL (ks.take i)) ∧ Hid (Below wq.heap.size wq wr)) (fun _ iv _ => nK - (intOf iv).toNat)
    case atStart => exact ⟨0, (⟨#[97, 110, 100]⟩ : ByteArray), Nat.zero_le _, by go_num, rfl, (by decide), Lib.hid (by rw [List.take_zero, fmtL, List.append_nil]; exact rfl), Below.refl _ _⟩
    case round =>
      obtain ⟨i, X, hi, rfl, rfl, hX, HX, KB⟩ := hrel
      have HVr := Lib.hid (HW0.out.below KB.out HW0.out.lt)
      have z4 := HVr.out.cell 4
      simp only [List.getElem?_toArray, List.getElem?_cons_zero, List.getElem?_cons_succ] at z4
      by_cases hlt : i < nK
      · have i0 : (0 : Int) ≤ (i : Int) := by omega
        have i5 : (i : Int) < (nK : Int) := by omega
        obtain ⟨k, hk⟩ : ∃ x, ks[i]? = some x := ⟨_, List.getElem?_eq_getElem (by rw [HLK.out]; exact hlt)⟩
        obtain ⟨b, o, v0, v1, v2, v3, v4, rfl, hbz, d0, d1, d2, d3, d4, hkv⟩ := (KVs.below KB.out (Nat.le_refl _) _ _ _ HQ.out).get hk
        rw [Nat.zero_add] at d0 d1 d2 d3 d4
        have HAT := Lib.hid (allL_get HAL.out hk)
        have HC := Lib.hid (HIH.out k _ wr (HMK.out k (List.mem_of_getElem? hk)) HAT.out hkv)
        have HTK := Lib.hid (fmtL_take hk)
        have HLE := Lib.hid (fmtL_take_len (ks := ks) (i + 1) HAL.out)
        have HKL : Hid ((fmtT k).length ≤ 42000000) := Lib.hid (by
          have h1 := fmtT_len k HAT.out
          have h2 := nodesL_lt hk
          have h3 := HNL.out
          omega)
        clear hk hkv hbz
        go_wp2_with fail
        refine HC.out.mono ?_
        rintro e w2 ⟨y, hy, rfl, hb⟩
        have KB2 := Lib.hid (KB.out.trans (hb.mono KB.out.size))
        have hys : y.size ≤ 42000000 := by rw [size_txt, hy]; exact HKL.out
        have HN2 : Hid ((X ++ (⟨#[32]⟩ : ByteArray) ++ y).data.toList = headW (6 : Int) f t S ++ fmtL (ks.take (i + 1))) := Lib.hid (by
          rw [cat_txt, cat_txt, HX.out, hy, HTK.out, List.append_assoc, List.append_assoc])
        have HS2 : Hid ((X ++ (⟨#[32]⟩ : ByteArray) ++ y).size ≤ 42000100) := Lib.hid (by
          rw [size_txt, HN2.out, List.length_append]
          have h1 := headW_len HND.out
          have h2 := HLE.out
          have h3 := HNL.out
          omega)
        clear hb hy d0 d1 d2 d3 d4 z4
        go_wp2
        go_roundw
        case rel => exact ⟨i + 1, _, by omega, by go_num, rfl, HS2.out, HN2, KB2⟩
        case measure => simp [intOf]; omega
      · have i5 : ¬ (i : Int) < (nK : Int) := by omega
        have hin : i = nK := by omega
        have HF : Hid (X.data.toList = fmtT (.mk (6 : Int) f t S ks)) := Lib.hid (by
          have h1 := HX.out
          rw [List.take_of_length_le (by rw [HLK.out]; omega)] at h1
          rw [fmtT]
          exact h1)
        have KB2 := Lib.hid (HBA.out.trans (KB.out.mono HBA.out.size))
        clear hin
        go_wp2
        go_ret
        exact ⟨X, HF.out, rfl, KB2.out⟩
  ·
    go_enter Tryz.func35, Tryz.ntmps35
    go_wp2_with fail
    try rw [HBB.out, HWQ.out]
    clear c1 c2 c3
    go_wp2
    go_loopw [3, 6] (fun ov iv wr => ∃ (i : Nat) (X : ByteArray), i ≤ nK ∧ iv = .int .i64 (i : Int) ∧ ov = .string X ∧ X.size ≤ 42000100 ∧ Hid (X.data.toList = headW (7 : Int) f t S ++ fmtL (ks.take i)) ∧ Hid (Below wq.heap.size wq wr)) (fun _ iv _ => nK - (intOf iv).toNat)
    case atStart => exact ⟨0, (⟨#[111, 114]⟩ : ByteArray), Nat.zero_le _, by go_num, rfl, (by decide), Lib.hid (by rw [List.take_zero, fmtL, List.append_nil]; exact rfl), Below.refl _ _⟩
    case round =>
      obtain ⟨i, X, hi, rfl, rfl, hX, HX, KB⟩ := hrel
      have HVr := Lib.hid (HW0.out.below KB.out HW0.out.lt)
      have z4 := HVr.out.cell 4
      simp only [List.getElem?_toArray, List.getElem?_cons_zero, List.getElem?_cons_succ] at z4
      by_cases hlt : i < nK
      · have i0 : (0 : Int) ≤ (i : Int) := by omega
        have i5 : (i : Int) < (nK : Int) := by omega
        obtain ⟨k, hk⟩ : ∃ x, ks[i]? = some x := ⟨_, List.getElem?_eq_getElem (by rw [HLK.out]; exact hlt)⟩
        obtain ⟨b, o, v0, v1, v2, v3, v4, rfl, hbz, d0, d1, d2, d3, d4, hkv⟩ := (KVs.below KB.out (Nat.le_refl _) _ _ _ HQ.out).get hk
        rw [Nat.zero_add] at d0 d1 d2 d3 d4
        have HAT := Lib.hid (allL_get HAL.out hk)
        have HC := Lib.hid (HIH.out k _ wr (HMK.out k (List.mem_of_getElem? hk)) HAT.out hkv)
        have HTK := Lib.hid (fmtL_take hk)
        have HLE := Lib.hid (fmtL_take_len (ks := ks) (i + 1) HAL.out)
        have HKL : Hid ((fmtT k).length ≤ 42000000) := Lib.hid (by
          have h1 := fmtT_len k HAT.out
          have h2 := nodesL_lt hk
          have h3 := HNL.out
          omega)
        clear hk hkv hbz
        go_wp2_with fail
        refine HC.out.mono ?_
        rintro e w2 ⟨y, hy, rfl, hb⟩
        have KB2 := Lib.hid (KB.out.trans (hb.mono KB.out.size))
        have hys : y.size ≤ 42000000 := by rw [size_txt, hy]; exact HKL.out
        have HN2 : Hid ((X ++ (⟨#[32]⟩ : ByteArray) ++ y).data.toList = headW (7 : Int) f t S ++ fmtL (ks.take (i + 1))) := Lib.hid (by
          rw [cat_txt, cat_txt, HX.out, hy, HTK.out, List.append_assoc, List.append_assoc])
        have HS2 : Hid ((X ++ (⟨#[32]⟩ : ByteArray) ++ y).size ≤ 42000100) := Lib.hid (by
          rw [size_txt, HN2.out, List.length_append]
          have h1 := headW_len HND.out
          have h2 := HLE.out
          have h3 := HNL.out
          omega)
        clear hb hy d0 d1 d2 d3 d4 z4
        go_wp2
        go_roundw
        case rel => exact ⟨i + 1, _, by omega, by go_num, rfl, HS2.out, HN2, KB2⟩
        case measure => simp [intOf]; omega
      · have i5 : ¬ (i : Int) < (nK : Int) := by omega
        have hin : i = nK := by omega
        have HF : Hid (X.data.toList = fmtT (.mk (7 : Int) f t S ks)) := Lib.hid (by
          have h1 := HX.out
          rw [List.take_of_length_le (by rw [HLK.out]; omega)] at h1
          rw [fmtT]
          exact h1)
        have KB2 := Lib.hid (HBA.out.trans (KB.out.mono HBA.out.size))
        clear hin
        go_wp2
        go_ret
        exact ⟨X, HF.out, rfl, KB2.out⟩
theorem spec_fmt : ∀ (n : Nat) (k : KT) (v : Value) (w : World), nodesT k ≤ n → n ≤ 1000000 → allT k = true → KV w k v → Calls Tryz.prog 35 #[v] w (Fm w k)
  | 0, k, v, w, hn, _, _, _ => by have := nodesT_pos k; omega
  | n + 1, .mk kd f t S ks, v, w, hn, hm, ha, h => by
    have hn2 := hn
    rw [nodesT] at hn
    exact spec_fmt_step (n := n) (fun k' v' w1 h1 h2 h3 => spec_fmt n k' v' w1 h1 (by omega) h2 h3) (fun k hk => by
      obtain ⟨i, hi⟩ := List.mem_iff_getElem?.1 hk
      have := nodesL_lt hi
      omega) (by omega) ha w h
end Go.Proofs.YtnfigpknejmkmaaGreatDoor
namespace Go.Proofs.YtnfigpknejmkmaaGreatDoor
open Go.RowKit
set_option linter.unusedVariables false

/-- The cursor's block: the text and the place. -/
def CurK (m : Nat) (w : World) (b : Nat) (s : ByteArray) (k : Nat) : Prop := Whole w b 67 #[.string s, .int .i64 (k : Int), .int .i64 (m : Int)]

section
variable {w w' : World} {m b k : Nat} {s : ByteArray}
theorem CurK.text (h : CurK m w b s k) : w.cell? ⟨b, 0, none⟩ = some (.string s) := Whole.cell h 0
theorem CurK.place (h : CurK m w b s k) : w.cell? ⟨b, 1, none⟩ = some (.int .i64 (k : Int)) := Whole.cell h 1
theorem CurK.free (h : CurK m w b s k) (i : Nat) : w.frozen? ⟨b, i, none⟩ = false := Whole.free h i
theorem CurK.drewN (h : CurK m w b s k) (n : Nat) : CurK m (w.drewN n) b s k := h
theorem CurK.go (h : CurK m w b s k) : CurK m (w.setCell ⟨b, 1, none⟩ (.int .i64 ((k + 1 : Nat) : Int))) b s (k + 1) := Whole.store h 1 _
end

set_option maxHeartbeats 400000 in
theorem done_yesK {m : Nat} (b k : Nat) (s : ByteArray) (w : World) (h : CurK m w b s k) (hk : k = s.size) :
    Calls Tryz.prog 87 #[.pointer (some ⟨b, 0, none⟩)] w fun e w' => e = .returned (.bool true) ∧ ∃ n, w' = w.drewN n := by
  have ht := h.text
  have hp := h.place
  clear h
  have hd : ((k : Int) == (s.size : Int)) = true := by rw [int_beq]; simpa using hk
  clear hk
  go_enter Tryz.func87, Tryz.ntmps87
  go_wp2
  go_quiet (fail)
  go_wp2
  go_ret
  exact ⟨rfl, _, rfl⟩
set_option maxHeartbeats 400000 in
theorem done_noK {m : Nat} (b k : Nat) (s : ByteArray) (w : World) (h : CurK m w b s k) (hk : k < s.size) :
    Calls Tryz.prog 87 #[.pointer (some ⟨b, 0, none⟩)] w fun e w' => e = .returned (.bool false) ∧ ∃ n, w' = w.drewN n := by
  have ht := h.text
  have hp := h.place
  clear h
  have hd : ((k : Int) == (s.size : Int)) = false := by rw [int_beq]; simp; omega
  clear hk
  go_enter Tryz.func87, Tryz.ntmps87
  go_wp2
  go_quiet (fail)
  go_wp2
  go_ret
  exact ⟨rfl, _, rfl⟩

/-- 'take' where the next byte is asked for. -/
def TookK (m : Nat) (w : World) (b : Nat) (s : ByteArray) (k : Nat) (r : Bool) (e : Ending) (w' : World) : Prop := e = .returned (.bool r) ∧ CurK m w' b s k ∧ w.grownBy w' (some b)
set_option maxHeartbeats 400000 in
theorem take_yesK {m : Nat} (b k : Nat) (s : ByteArray) (c : UInt8) (w : World) (h : CurK m w b s k) (hs : s.size ≤ 16777216) (hk : k < s.size) (hc : s[k] = c) :
    Calls Tryz.prog 63 #[.pointer (some ⟨b, 0, none⟩), .int .u8 (c.toNat : Int)] w (TookK m w b s (k + 1) true) := by
  have ht := h.text
  have hp := h.place
  have hf := h.free 1
  have H := Lib.hid h
  clear h
  subst hc
  have hne : ((s[k].toNat : Int) != (s[k].toNat : Int)) = false := by simp
  have h0 : (0 : Int) ≤ (k : Int) := by omega
  have h1 : (k : Int) < (s.size : Int) := by omega
  go_enter Tryz.func63, Tryz.ntmps63
  go_wp2
  go_quiet ((go_at_call 87; exact Calls.quiet_of (done_noK b k s _ (H.out.drewN _) hk)))
  go_wp2
  go_ret
  exact ⟨rfl, H.out.go.drewN _, gr_drewN (gr_store (gr_refl _ _) (.inl rfl) _) _⟩
set_option maxHeartbeats 400000 in
theorem take_endK {m : Nat} (b k : Nat) (s : ByteArray) (c : UInt8) (w : World) (h : CurK m w b s k) (hk : k = s.size) :
    Calls Tryz.prog 63 #[.pointer (some ⟨b, 0, none⟩), .int .u8 (c.toNat : Int)] w (TookK m w b s k false) := by
  have ht := h.text
  have hp := h.place
  have H := Lib.hid h
  have K := Lib.hid hk
  clear h hk
  go_enter Tryz.func63, Tryz.ntmps63
  go_wp2
  go_quiet ((go_at_call 87; exact Calls.quiet_of (done_yesK b k s _ (H.out.drewN _) K.out)))
  go_wp2
  go_ret
  exact ⟨rfl, H.out.drewN _, gr_drewN (gr_refl _ _) _⟩
set_option maxHeartbeats 400000 in
theorem take_otherK {m : Nat} (b k : Nat) (s : ByteArray) (c : UInt8) (w : World) (h : CurK m w b s k) (hs : s.size ≤ 16777216) (hk : k < s.size) (hc : s[k] ≠ c) :
    Calls Tryz.prog 63 #[.pointer (some ⟨b, 0, none⟩), .int .u8 (c.toNat : Int)] w (TookK m w b s k false) := by
  have ht := h.text
  have hp := h.place
  have H := Lib.hid h
  clear h
  have hne : ((s[k].toNat : Int) != (c.toNat : Int)) = true := by
    have : s[k].toNat ≠ c.toNat := fun e => hc (UInt8.toNat_inj.1 e)
    simp; omega
  clear hc
  have h0 : (0 : Int) ≤ (k : Int) := by omega
  have h1 : (k : Int) < (s.size : Int) := by omega
  go_enter Tryz.func63, Tryz.ntmps63
  go_wp2
  go_quiet ((go_at_call 87; exact Calls.quiet_of (done_noK b k s _ (H.out.drewN _) hk)))
  go_wp2
  go_ret
  exact ⟨rfl, H.out.drewN _, gr_drewN (gr_refl _ _) _⟩

theorem take_anyK {m : Nat} (b k : Nat) (s : ByteArray) (c : UInt8) (w : World) (h : CurK m w b s k) (hs : s.size ≤ 16777216) (hk : k ≤ s.size) :
    Calls Tryz.prog 63 #[.pointer (some ⟨b, 0, none⟩), .int .u8 (c.toNat : Int)] w (TookK m w b s (if nextIs s.data.toList k c then k + 1 else k) (nextIs s.data.toList k c)) := by
  have hl : s.data.toList.length = s.size := by simp
  by_cases h1 : k < s.size
  · have e : s.data.toList[k]? = some s[k] := List.getElem?_eq_getElem (by omega)
    by_cases h2 : s[k] = c
    · have : nextIs s.data.toList k c = true := by unfold nextIs; rw [e, h2]; simp
      rw [this]
      exact take_yesK b k s c w h hs h1 h2
    · have : nextIs s.data.toList k c = false := by unfold nextIs; rw [e]; simpa using h2
      rw [this]
      exact take_otherK b k s c w h hs h1 h2
  · have : nextIs s.data.toList k c = false := by unfold nextIs; rw [List.getElem?_eq_none (by omega)]; rfl
    rw [this]
    exact take_endK b k s c w h (by omega)

theorem CurK.left {w : World} {m b k : Nat} {s : ByteArray} (h : CurK m w b s k) : w.cell? ⟨b, 2, none⟩ = some (.int .i64 (m : Int)) := Whole.cell h 2
/-- How long the word at a place is. -/
def wl (L : List UInt8) (k : Nat) : Nat := ((L.drop k).takeWhile (fun c => !(c == 32))).length
theorem wl_go (L : List UInt8) (k : Nat) (h : k < L.length) (hs : (L[k] == 32) = false) : wl L k = wl L (k + 1) + 1 := by
  unfold wl
  rw [List.drop_eq_getElem_cons h, List.takeWhile_cons, if_pos (by simp [hs]), List.length_cons]
theorem wl_stop (L : List UInt8) (k : Nat) (h : k < L.length) (hs : (L[k] == 32) = true) : wl L k = 0 := by
  unfold wl
  rw [List.drop_eq_getElem_cons h, List.takeWhile_cons, if_neg (by simp [hs])]
  rfl
theorem wl_end (L : List UInt8) (k : Nat) (h : L.length ≤ k) : wl L k = 0 := by
  unfold wl
  rw [List.drop_eq_nil_of_le h]
  rfl
theorem wl_le (L : List UInt8) (k : Nat) (h : k ≤ L.length) : k + wl L k ≤ L.length := by
  unfold wl
  have h1 := (List.takeWhile_prefix (fun c : UInt8 => !(c == 32)) (l := L.drop k)).length_le
  rw [List.length_drop] at h1
  omega
/-- What 'word' leaves. -/
def Worded (m : Nat) (w : World) (b : Nat) (s : ByteArray) (k : Nat) (e : Ending) (w' : World) : Prop :=
  e = .returned (.string (s.extract k (k + wl s.data.toList k))) ∧ CurK m w' b s (k + wl s.data.toList k) ∧ w.grownBy w' (some b)
theorem worded_mk {m b k j : Nat} {s : ByteArray} {w wr : World} (n n2 : Nat) (hgr : w.grownBy wr (some b)) (hc : CurK m wr b s j) (hk : k + wl s.data.toList k = j) : Worded m w b s k (.returned (.string (s.extract k j))) ((wr.drewN n).drewN n2) := by
  subst hk
  exact ⟨rfl, (hc.drewN _).drewN _, gr_drewN (gr_drewN hgr _) _⟩
set_option maxHeartbeats 2000000 in
theorem word_any {m : Nat} (b k : Nat) (s : ByteArray) (w : World) (h : CurK m w b s k) (hs : s.size ≤ 16777216) (hk : k ≤ s.size) :
    Calls Tryz.prog 59 #[.pointer (some ⟨b, 0, none⟩)] w (Worded m w b s k) := by
  have hl : s.data.toList.length = s.size := by simp
  have hp := h.place
  have H := Lib.hid h
  have HL := Lib.hid hl
  clear h hl
  go_enter Tryz.func59, Tryz.ntmps59
  go_wp2
  clear hp
  go_loopg [] (s.size - k) (fun g wr => ∃ j, k ≤ j ∧ j ≤ s.size ∧ g = s.size - j ∧ j + wl s.data.toList j = k + wl s.data.toList k ∧ CurK m wr b s j ∧ w.grownBy wr (some b))
  case atStart => exact ⟨k, Nat.le_refl _, hk, rfl, rfl, H.out, gr_refl _ _⟩
  case round =>
    obtain ⟨j, hkj, hjs, hg, hnm, hcur, hgr⟩ := hrel
    have HN := Lib.hid hnm
    have HG := Lib.hid hg
    have HGR := Lib.hid hgr
    clear hnm hg hgr
    have HC := Lib.hid hcur
    have hte := hcur.text
    have hpl := hcur.place
    have hfr := hcur.free 1
    have h0 : (0 : Int) ≤ (j : Int) := by omega
    clear hcur
    by_cases hgo : ∃ hj : j < s.size, (s[j] == 32) = false
    · obtain ⟨hj, hsg⟩ := hgo
      have h1 : (j : Int) < (s.size : Int) := by omega
      have hne : ((s[j].toNat : Int) != 32) = true := by
        have : s[j].toNat ≠ (32 : UInt8).toNat := fun e => by rw [UInt8.toNat_inj] at e; rw [e] at hsg; cases hsg
        have h2 : (32 : UInt8).toNat = 32 := rfl
        simp; omega
      have HS := Lib.hid hsg
      clear hsg
      go_wp2
      go_quiet ((go_at_call 87; exact Calls.quiet_of (done_noK b j s _ (HC.out.drewN _) hj)))
      go_wp2
      go_roundg (s.size - (j + 1))
      case measure => have := HG.out; omega
      case rel =>
        refine ⟨j + 1, by omega, by omega, rfl, ?_, (HC.out.drewN _).go, gr_store (gr_drewN HGR.out _) (.inl rfl) _⟩
        have e1 := wl_go s.data.toList j (by rw [HL.out]; exact hj) HS.out
        have e2 := HN.out
        omega
    · have HK : Hid (k + wl s.data.toList k = j) := by
        have e2 := HN.out
        show _ = _
        by_cases hj : j < s.size
        · have e1 := wl_stop s.data.toList j (by rw [HL.out]; exact hj) ((Bool.not_eq_false _).mp fun h => hgo ⟨hj, h⟩)
          omega
        · have e1 := wl_end s.data.toList j (by rw [HL.out]; omega)
          omega
      have HX : Hid ((∃ hj : j < s.size, ((s[j].toNat : Int) != 32) = false) ∨ j = s.size) := by
        by_cases hj : j < s.size
        · have h1 : (s[j] == 32) = true := (Bool.not_eq_false _).mp fun h => hgo ⟨hj, h⟩
          have h2 : s[j] = 32 := by simpa using h1
          exact .inl ⟨hj, by rw [h2]; rfl⟩
        · exact .inr (by omega)
      clear hgo
      have h2 : (0 : Int) ≤ (k : Int) := by omega
      have h3 : (k : Int) ≤ (j : Int) := by omega
      have h4 : (j : Int) ≤ (s.size : Int) := by omega
      rcases HX.out with ⟨hj, hsg⟩ | hj
      · have h1 : (j : Int) < (s.size : Int) := by omega
        clear HX
        go_wp2
        go_quiet ((go_at_call 87; exact Calls.quiet_of (done_noK b j s _ (HC.out.drewN _) hj)))
        go_wp2
        go_quiet (fail)
        go_wp2
        go_ret
        exact worded_mk _ _ HGR.out HC.out HK.out
      · clear HX
        have HJ := Lib.hid hj
        clear hj
        go_wp2
        go_quiet ((go_at_call 87; exact Calls.quiet_of (done_yesK b j s _ (HC.out.drewN _) HJ.out)))
        go_wp2
        go_quiet (fail)
        go_wp2
        go_ret
        exact worded_mk _ _ HGR.out HC.out HK.out
/-- The place behind one blank, if one stands there. -/
def skp (L : List UInt8) (k : Nat) : Nat := if nextIs L k 32 then k + 1 else k
theorem skp_le {L : List UInt8} {k : Nat} (h : k ≤ L.length) : skp L k ≤ L.length := by
  unfold skp
  split
  · rename_i hn
    unfold nextIs at hn
    have h1 : L[k]? = some 32 := by simpa using hn
    have h2 := (List.getElem?_eq_some_iff.1 h1).1
    omega
  · exact h
set_option maxHeartbeats 1000000 in
theorem nextword_any {m : Nat} (b k : Nat) (s : ByteArray) (w : World) (h : CurK m w b s k) (hs : s.size ≤ 16777216) (hk : k ≤ s.size) :
    Calls Tryz.prog 61 #[.pointer (some ⟨b, 0, none⟩)] w (Worded m w b s (skp s.data.toList k)) := by
  have hl : s.data.toList.length = s.size := by simp
  have hq : skp s.data.toList k ≤ s.size := by have := skp_le (L := s.data.toList) (k := k) (by omega); omega
  have HC0 := take_anyK b k s 32 w h hs hk
  rw [show (if nextIs s.data.toList k 32 = true then k + 1 else k) = skp s.data.toList k from rfl] at HC0
  obtain ⟨q, hqe⟩ : ∃ q, skp s.data.toList k = q := ⟨_, rfl⟩
  obtain ⟨z, hz⟩ : ∃ z, nextIs s.data.toList k 32 = z := ⟨_, rfl⟩
  rw [hqe] at HC0 hq ⊢
  rw [hz] at HC0
  have HC := Lib.hid HC0
  clear HC0 hqe hz
  clear h hl
  go_enter Tryz.func61, Tryz.ntmps61
  go_wp2_with fail
  refine HC.out.mono ?_
  rintro e w1 ⟨rfl, hc, hg⟩
  have HG := Lib.hid hg
  have HD := Lib.hid (word_any b _ s w1 hc hs hq)
  clear hc hg
  go_wp2_with fail
  refine HD.out.mono ?_
  rintro e w2 ⟨rfl, hc, hg⟩
  have HC2 := Lib.hid hc
  have HG2 := Lib.hid (gr_trans HG.out hg)
  clear hc hg
  go_wp2
  go_ret
  exact ⟨rfl, HC2.out, HG2.out⟩
set_option maxHeartbeats 1000000 in
theorem spendK (g m k : Nat) (s : ByteArray) (w : World) (h : CurK m w g s k) (hm : m ≤ 9) :
    Calls Tryz.prog 60 #[.pointer (some ⟨g, 2, none⟩)] w fun e w' => e = .returned (.bool (decide (0 < m))) ∧ CurK (m - 1) w' g s k ∧ w.grownBy w' (some g) := by
  have H := Lib.hid h
  have c0 := h.left
  have f0 := h.free 2
  by_cases hz : m = 0
  · subst hz
    clear h
    go_enter Tryz.func60, Tryz.ntmps60
    go_wp2
    go_ret
    exact ⟨rfl, H.out, gr_refl _ _⟩
  · obtain ⟨q, rfl⟩ : ∃ q, m = q + 1 := ⟨m - 1, by omega⟩
    obtain ⟨p, hp⟩ : ∃ p, q + 1 = p := ⟨_, rfl⟩
    have hne : ((p : Int) == 0) = false := beq_eq_false_iff_ne.2 (by omega)
    have E1 : (p : Int) - 1 = (q : Int) := by omega
    have W1 : IntKind.i64.wrap ((p : Int) - 1) = (q : Int) := (IntWalk.i64_in _ (by omega)).trans E1
    have hd : decide (0 < q + 1) = true := decide_eq_true (by omega)
    rw [hd, Nat.add_sub_cancel]
    rw [hp] at c0 H hm
    have HS : Hid (CurK q (w.setCell ⟨g, 2, none⟩ (.int .i64 (q : Int))) g s k) := Lib.hid (Whole.store H.out 2 (.int .i64 (q : Int)))
    have HG : Hid (w.grownBy (w.setCell ⟨g, 2, none⟩ (.int .i64 (q : Int))) (some g)) := Lib.hid (gr_store (gr_refl _ _) (.inl rfl) _)
    clear h hz hp hd
    go_enter Tryz.func60, Tryz.ntmps60
    go_wp2
    go_ret
    exact ⟨rfl, HS.out, HG.out⟩
end Go.Proofs.YtnfigpknejmkmaaGreatDoor
namespace Go.Proofs.YtnfigpknejmkmaaGreatDoor
open Go.RowKit
set_option linter.unusedVariables false

/-- The kind and the flag that a word tells, and whether it is a word of keys. -/
def wk2 (L : List UInt8) : Int × Int × Bool := if L = [97, 108, 108] then (0, 0, true) else if L = [116, 101, 120, 116] then (2, 0, true) else if L = [97, 116] then (3, 0, true) else if L = [117, 105, 100] then (4, 0, true) else if L = [110, 111, 116] then (5, 0, true) else if L = [97, 110, 100] then (6, 0, true) else if L = [111, 114] then (7, 0, true) else (0, 0, false)
def wk (L : List UInt8) : Int × Int × Bool := if L = fwL 1 then (1, 1, true) else if L = fwL 2 then (1, 2, true) else if L = fwL 4 then (1, 4, true) else if L = fwL 8 then (1, 8, true) else if L = fwL 16 then (1, 16, true) else wk2 L
theorem wk_flag {L : List UInt8} {j : Nat} (hj : j < 5) (h : L = fwL ((2 ^ j : Nat) : Int)) : wk L = (1, ((2 ^ j : Nat) : Int), true) := by
  subst h
  match j, hj with
  | 0, _ | 1, _ | 2, _ | 3, _ | 4, _ => rfl
theorem wk_none {L : List UInt8} (h : ∀ j, j < 5 → L ≠ fwL ((2 ^ j : Nat) : Int)) : wk L = wk2 L := by
  unfold wk
  have h0 : ¬ L = fwL 1 := h 0 (by omega)
  have h1 : ¬ L = fwL 2 := h 1 (by omega)
  have h2 : ¬ L = fwL 4 := h 2 (by omega)
  have h3 : ¬ L = fwL 8 := h 3 (by omega)
  have h4 : ¬ L = fwL 16 := h 4 (by omega)
  rw [if_neg h0, if_neg h1, if_neg h2, if_neg h3, if_neg h4]
theorem txt_eq {a : ByteArray} {l : List UInt8} (h : a.data.toList = l) : (a.toList == l) = true := by rw [ByteArray.toList_eq, h]; simp
theorem txt_ne {a : ByteArray} {l : List UInt8} (h : a.data.toList ≠ l) : (a.toList == l) = false := by rw [ByteArray.toList_eq]; exact beq_eq_false_iff_ne.2 h
def WKE (w : World) (L : List UInt8) (e : Ending) (w' : World) : Prop := ∃ (kd f : Int) (o : Bool), wk L = (kd, f, o) ∧ e = .returned (.tuple #[.agg #[.int .i64 kd, .int .i64 f, .string ⟨#[]⟩, .slice none 0 0, .slice none 0 0], .bool o]) ∧ Below w.heap.size w w'
theorem wke_mk {w w' : World} {L : List UInt8} {kd f : Int} {o : Bool} (h : wk L = (kd, f, o)) (hb : Below w.heap.size w w') : WKE w L (.returned (.tuple #[.agg #[.int .i64 kd, .int .i64 f, .string ⟨#[]⟩, .slice none 0 0, .slice none 0 0], .bool o])) w' := ⟨kd, f, o, h, rfl, hb⟩
theorem pow_i {j : Nat} (hj : j < 5) : IntKind.i64.wrap (2 ^ j) = ((2 ^ j : Nat) : Int) := (pow5 hj rfl).2.2
theorem below_st5 {w w' : World} {S B : Nat} (h : Below S w w') (hS : S ≤ B) (a0 a1 a2 a3 a4 : Value) : Below S w (((((w'.setCell ⟨B, 0, none⟩ a0).setCell ⟨B, 1, none⟩ a1).setCell ⟨B, 2, none⟩ a2).setCell ⟨B, 3, none⟩ a3).setCell ⟨B, 4, none⟩ a4) :=
  ((((h.setCell (p := ⟨B, 0, none⟩) hS a0).setCell (p := ⟨B, 1, none⟩) hS a1).setCell (p := ⟨B, 2, none⟩) hS a2).setCell (p := ⟨B, 3, none⟩) hS a3).setCell (p := ⟨B, 4, none⟩) hS a4
set_option maxRecDepth 20000 in
set_option maxHeartbeats 8000000 in
theorem wordkey_any {t : ByteArray} (w : World) (hLs : Lst w) : Calls Tryz.prog 58 #[.string t] w (WKE w t.data.toList) := by
  obtain ⟨B, hB⟩ : ∃ B, w.heap.size = B := ⟨_, rfl⟩
  have HBB := Lib.hid hB
  obtain ⟨wa, hwa⟩ : ∃ wa, w.alloc (.cells #[.int .i64 0, .int .i64 0, .string ⟨#[]⟩, .slice none 0 0, .slice none 0 0] 27) = wa := ⟨_, rfl⟩
  have HWA := Lib.hid hwa
  have HBA : Hid (Below w.heap.size w wa) := Lib.hid (by rw [← hwa]; exact below_new _ _)
  have HKA : Hid (Whole wa B 27 #[.int .i64 0, .int .i64 0, .string ⟨#[]⟩, .slice none 0 0, .slice none 0 0]) := Lib.hid (by rw [← hwa, ← hB]; exact Whole.made w _ _)
  have HLA := Lib.hid (hLs.below HBA.out (Nat.le_refl _))
  have HSB : Hid (w.heap.size ≤ B) := Lib.hid (Nat.le_of_eq hB)
  clear hB hwa hLs
  go_enter Tryz.func58, Tryz.ntmps58
  go_wp2_with fail
  try rw [HBB.out, HWA.out]
  go_wp2
  go_loopw [4, 5] (fun _ iv wr => ∃ i : Nat, i ≤ 5 ∧ iv = .int .i64 (i : Int) ∧ Hid (∀ j, j < i → t.data.toList ≠ fwL ((2 ^ j : Nat) : Int)) ∧ Hid (Below wa.heap.size wa wr)) (fun _ iv _ => 5 - (intOf iv).toNat)
  case atStart => exact ⟨0, Nat.zero_le _, by go_num, Lib.hid (fun j hj => absurd hj (Nat.not_lt_zero _)), Below.refl _ _⟩
  case round =>
    obtain ⟨i, hi, rfl, HK, KB⟩ := hrel
    have HKr := Lib.hid (HKA.out.below KB.out HKA.out.lt)
    have HBr := Lib.hid (HBA.out.trans (KB.out.mono HBA.out.size))
    by_cases hlt : i < 5
    · have i0 : (0 : Int) ≤ (i : Int) := by omega
      have i5 : (i : Int) < 5 := by omega
      obtain ⟨q, hq⟩ : ∃ q : Int, ((2 ^ i : Nat) : Int) = q := ⟨_, rfl⟩
      have W1 : IntKind.i64.wrap (2 ^ i) = q := (pow_i hlt).trans hq
      have HQ := Lib.hid hq
      obtain ⟨fw, hfw⟩ : ∃ z, wB (fwL q) = z := ⟨_, rfl⟩
      have HC0 := impl_flagword q wr (HLA.out.below KB.out (Nat.le_refl _))
      rw [hfw] at HC0
      have HC := Lib.hid HC0
      have HFW : Hid (fw.data.toList = fwL q) := Lib.hid (by rw [← hfw]; rfl)
      clear hfw hq HC0
      go_wp2_with fail
      refine HC.out.mono ?_
      rintro e w2 ⟨rfl, hb⟩
      have KB2 := Lib.hid (KB.out.trans (hb.mono KB.out.size))
      have HK2 := Lib.hid (HKA.out.below KB2.out HKA.out.lt)
      have HB2 := Lib.hid (HBA.out.trans (KB2.out.mono HBA.out.size))
      clear hb
      by_cases he : t.data.toList = fwL q
      · have hx : (t.toList == fw.toList) = true := by rw [ByteArray.toList_eq, ByteArray.toList_eq, he, HFW.out]; simp
        have HWK : Hid (wk t.data.toList = (1, q, true)) := Lib.hid (by rw [← HQ.out]; exact wk_flag hlt (he.trans (by rw [HQ.out])))
        clear he
        have e0 := HK2.out.cell 0
        have e1 := HK2.out.cell 1
        have e2 := HK2.out.cell 2
        have e3 := HK2.out.cell 3
        have e4 := HK2.out.cell 4
        have j0 := HK2.out.free 0
        have j1 := HK2.out.free 1
        have j2 := HK2.out.free 2
        have j3 := HK2.out.free 3
        have j4 := HK2.out.free 4
        simp only [List.getElem?_toArray, List.getElem?_cons_zero, List.getElem?_cons_succ] at e0 e1 e2 e3 e4
        go_wp2
        refine bodyPost_ret (v := .tuple #[.agg #[.int .i64 1, .int .i64 q, .string ⟨#[]⟩, .slice none 0 0, .slice none 0 0], .bool true]) (by rw [results_cell_tmp Tryz.results58]; go_simp) rfl ?_
        exact wke_mk HWK.out (below_st5 HB2.out HSB.out _ _ _ _ _)
      · have hx : (t.toList == fw.toList) = false := by rw [ByteArray.toList_eq, ByteArray.toList_eq, HFW.out]; exact beq_eq_false_iff_ne.2 he
        have HK1 : Hid (∀ j, j < i + 1 → t.data.toList ≠ fwL ((2 ^ j : Nat) : Int)) := Lib.hid (fun j hj => by
          by_cases hji : j < i
          · exact HK.out j hji
          · have : j = i := by omega
            subst this
            rw [HQ.out]
            exact he)
        clear he
        go_wp2
        go_roundw
        case rel => exact ⟨i + 1, by omega, by go_num, HK1, KB2⟩
        case measure => simp [intOf]; omega
    · have i5 : ¬ (i : Int) < 5 := by omega
      have HE : Hid (wk t.data.toList = wk2 t.data.toList) := Lib.hid (wk_none (fun j hj => HK.out j (by omega)))
      have e0 := HKr.out.cell 0
      have e1 := HKr.out.cell 1
      have e2 := HKr.out.cell 2
      have e3 := HKr.out.cell 3
      have e4 := HKr.out.cell 4
      have j0 := HKr.out.free 0
      have j1 := HKr.out.free 1
      have j2 := HKr.out.free 2
      have j3 := HKr.out.free 3
      have j4 := HKr.out.free 4
      simp only [List.getElem?_toArray, List.getElem?_cons_zero, List.getElem?_cons_succ] at e0 e1 e2 e3 e4
      by_cases hw0 : t.data.toList = [97, 108, 108]
      · have hx0 := txt_eq hw0
        have HV : Hid (wk t.data.toList = (0, 0, true)) := Lib.hid (by rw [HE.out, wk2, if_pos hw0])
        clear hw0
        go_wp2
        refine bodyPost_ret (v := .tuple #[.agg #[.int .i64 0, .int .i64 0, .string ⟨#[]⟩, .slice none 0 0, .slice none 0 0], .bool true]) (by rw [results_cell_tmp Tryz.results58]; go_simp) rfl ?_
        exact wke_mk HV.out (below_st5 HBr.out HSB.out _ _ _ _ _)
      · have hx0 := txt_ne hw0
        have g0 := Lib.hid hw0
        clear hw0
        by_cases hw1 : t.data.toList = [116, 101, 120, 116]
        · have hx1 := txt_eq hw1
          have HV : Hid (wk t.data.toList = (2, 0, true)) := Lib.hid (by rw [HE.out, wk2, if_neg g0.out, if_pos hw1])
          clear hw1
          go_wp2
          refine bodyPost_ret (v := .tuple #[.agg #[.int .i64 2, .int .i64 0, .string ⟨#[]⟩, .slice none 0 0, .slice none 0 0], .bool true]) (by rw [results_cell_tmp Tryz.results58]; go_simp) rfl ?_
          exact wke_mk HV.out (below_st5 HBr.out HSB.out _ _ _ _ _)
        · have hx1 := txt_ne hw1
          have g1 := Lib.hid hw1
          clear hw1
          by_cases hw2 : t.data.toList = [97, 116]
          · have hx2 := txt_eq hw2
            have HV : Hid (wk t.data.toList = (3, 0, true)) := Lib.hid (by rw [HE.out, wk2, if_neg g0.out, if_neg g1.out, if_pos hw2])
            clear hw2
            go_wp2
            refine bodyPost_ret (v := .tuple #[.agg #[.int .i64 3, .int .i64 0, .string ⟨#[]⟩, .slice none 0 0, .slice none 0 0], .bool true]) (by rw [results_cell_tmp Tryz.results58]; go_simp) rfl ?_
            exact wke_mk HV.out (below_st5 HBr.out HSB.out _ _ _ _ _)
          · have hx2 := txt_ne hw2
            have g2 := Lib.hid hw2
            clear hw2
            by_cases hw3 : t.data.toList = [117, 105, 100]
            · have hx3 := txt_eq hw3
              have HV : Hid (wk t.data.toList = (4, 0, true)) := Lib.hid (by rw [HE.out, wk2, if_neg g0.out, if_neg g1.out, if_neg g2.out, if_pos hw3])
              clear hw3
              go_wp2
              refine bodyPost_ret (v := .tuple #[.agg #[.int .i64 4, .int .i64 0, .string ⟨#[]⟩, .slice none 0 0, .slice none 0 0], .bool true]) (by rw [results_cell_tmp Tryz.results58]; go_simp) rfl ?_
              exact wke_mk HV.out (below_st5 HBr.out HSB.out _ _ _ _ _)
            · have hx3 := txt_ne hw3
              have g3 := Lib.hid hw3
              clear hw3
              by_cases hw4 : t.data.toList = [110, 111, 116]
              · have hx4 := txt_eq hw4
                have HV : Hid (wk t.data.toList = (5, 0, true)) := Lib.hid (by rw [HE.out, wk2, if_neg g0.out, if_neg g1.out, if_neg g2.out, if_neg g3.out, if_pos hw4])
                clear hw4
                go_wp2
                refine bodyPost_ret (v := .tuple #[.agg #[.int .i64 5, .int .i64 0, .string ⟨#[]⟩, .slice none 0 0, .slice none 0 0], .bool true]) (by rw [results_cell_tmp Tryz.results58]; go_simp) rfl ?_
                exact wke_mk HV.out (below_st5 HBr.out HSB.out _ _ _ _ _)
              · have hx4 := txt_ne hw4
                have g4 := Lib.hid hw4
                clear hw4
                by_cases hw5 : t.data.toList = [97, 110, 100]
                · have hx5 := txt_eq hw5
                  have HV : Hid (wk t.data.toList = (6, 0, true)) := Lib.hid (by rw [HE.out, wk2, if_neg g0.out, if_neg g1.out, if_neg g2.out, if_neg g3.out, if_neg g4.out, if_pos hw5])
                  clear hw5
                  go_wp2
                  refine bodyPost_ret (v := .tuple #[.agg #[.int .i64 6, .int .i64 0, .string ⟨#[]⟩, .slice none 0 0, .slice none 0 0], .bool true]) (by rw [results_cell_tmp Tryz.results58]; go_simp) rfl ?_
                  exact wke_mk HV.out (below_st5 HBr.out HSB.out _ _ _ _ _)
                · have hx5 := txt_ne hw5
                  have g5 := Lib.hid hw5
                  clear hw5
                  by_cases hw6 : t.data.toList = [111, 114]
                  · have hx6 := txt_eq hw6
                    have HV : Hid (wk t.data.toList = (7, 0, true)) := Lib.hid (by rw [HE.out, wk2, if_neg g0.out, if_neg g1.out, if_neg g2.out, if_neg g3.out, if_neg g4.out, if_neg g5.out, if_pos hw6])
                    clear hw6
                    go_wp2
                    refine bodyPost_ret (v := .tuple #[.agg #[.int .i64 7, .int .i64 0, .string ⟨#[]⟩, .slice none 0 0, .slice none 0 0], .bool true]) (by rw [results_cell_tmp Tryz.results58]; go_simp) rfl ?_
                    exact wke_mk HV.out (below_st5 HBr.out HSB.out _ _ _ _ _)
                  · have hx6 := txt_ne hw6
                    have g6 := Lib.hid hw6
                    clear hw6
                    have HV : Hid (wk t.data.toList = (0, 0, false)) := Lib.hid (by rw [HE.out, wk2, if_neg g0.out, if_neg g1.out, if_neg g2.out, if_neg g3.out, if_neg g4.out, if_neg g5.out, if_neg g6.out])
                    go_wp2
                    refine bodyPost_ret (v := .tuple #[.agg #[.int .i64 0, .int .i64 0, .string ⟨#[]⟩, .slice none 0 0, .slice none 0 0], .bool false]) (by rw [results_cell_tmp Tryz.results58]; go_simp) rfl ?_
                    exact wke_mk HV.out (below_st5 HBr.out HSB.out _ _ _ _ _)
end Go.Proofs.YtnfigpknejmkmaaGreatDoor
namespace Go.Proofs.YtnfigpknejmkmaaGreatDoor
open Go.RowKit
set_option linter.unusedVariables false

/-- No blank stands in a word. -/
def Nb (W : List UInt8) : Prop := ∀ c ∈ W, c ≠ 32
/-- What may follow a word. -/
def Brk (R : List UInt8) : Prop := R = [] ∨ ∃ r, R = 32 :: r
theorem wl_word {L W R : List UInt8} {k : Nat} (h : L.drop k = W ++ R) (hw : Nb W) (hr : Brk R) : wl L k = W.length := by
  unfold wl
  rw [h, List.takeWhile_append_of_pos (fun c hc => by simpa using hw c hc)]
  rcases hr with rfl | ⟨r, rfl⟩
  · simp
  · rw [List.takeWhile_cons, if_neg (by decide), List.append_nil]
theorem ext_word {s : ByteArray} {W R : List UInt8} {k : Nat} (h : s.data.toList.drop k = W ++ R) : (s.extract k (k + W.length)).data.toList = W := by
  rw [extract_list, h, Nat.add_sub_cancel_left]
  simp
theorem drop_app {L W R : List UInt8} {k : Nat} (h : L.drop k = W ++ R) : L.drop (k + W.length) = R := by
  rw [← List.drop_drop, h]
  simp
theorem skp_blank {L R : List UInt8} {k : Nat} (h : L.drop k = 32 :: R) : skp L k = k + 1 ∧ L.drop (k + 1) = R ∧ nextIs L k 32 = true := by
  have hk : k < L.length := by
    rcases Nat.lt_or_ge k L.length with h1 | h1
    · exact h1
    · rw [List.drop_eq_nil_of_le h1] at h; cases h
  rw [List.drop_eq_getElem_cons hk] at h
  have h1 := (List.cons.inj h).1
  have h2 : nextIs L k 32 = true := by unfold nextIs; rw [List.getElem?_eq_getElem hk, h1]; rfl
  exact ⟨by unfold skp; rw [if_pos h2], (List.cons.inj h).2, h2⟩
theorem nb_name {l : List UInt8} (h : nameB l = true) : Nb l := by
  unfold nameB at h
  simp only [Bool.and_eq_true, List.all_eq_true] at h
  intro c hc e
  subst e
  have := h.1.1 _ hc
  revert this
  decide
theorem nb_flag (f : Int) : Nb (fwL f) := by
  unfold fwL Nb
  split
  · decide
  · split
    · decide
    · split
      · decide
      · split
        · decide
        · split <;> decide
theorem word_nb {n : Nat} (h : n ≤ 99) : ∀ x ∈ wordN n, x ≠ 32 := by
  have : ∀ k : Fin 100, ∀ x ∈ wordN k.val, x ≠ 32 := by decide
  exact this ⟨n, by omega⟩
theorem span_nb {s : Nat × Nat} (h1 : s.1 ≤ 99) (h2 : s.2 ≤ 99) : Nb (spanW s) := by
  intro x hx
  unfold spanW at hx
  split at hx
  · exact word_nb h1 x hx
  · rcases List.mem_append.1 hx with h | h
    · exact word_nb h1 x h
    · rcases List.mem_cons.1 h with rfl | h
      · decide
      · exact word_nb h2 x h
theorem join_nb : ∀ {l : List (Nat × Nat)}, (∀ s ∈ l, s.1 ≤ 99 ∧ s.2 ≤ 99) → Nb (joinW l)
  | [], _ => fun c hc => by cases hc
  | [s], h => span_nb (h s (by simp)).1 (h s (by simp)).2
  | s :: r :: t, h => fun c hc => by
    rw [joinW_cons] at hc
    rcases List.mem_append.1 hc with h1 | h1
    · exact span_nb (h s (by simp)).1 (h s (by simp)).2 c h1
    · rcases List.mem_cons.1 h1 with rfl | h1
      · decide
      · exact join_nb (fun q hq => h q (List.mem_cons_of_mem _ hq)) c h1
theorem dn_le {L : List (Int × Int)} (h : setB L = true) : ∀ s ∈ dn L, s.1 ≤ 99 ∧ s.2 ≤ 99 := by
  intro s hs
  unfold dn at hs
  obtain ⟨x, hx, rfl⟩ := List.mem_map.1 hs
  obtain ⟨⟨_, h2⟩, _, h4⟩ := spanB_iff.1 ((setB_iff.1 h).1 x hx)
  exact ⟨by show x.1.toNat ≤ 99; omega, by show x.2.toNat ≤ 99; omega⟩
theorem nb_text {S : List (Int × Int)} (h : setB S = true) : Nb (textB S) := by
  rw [textB_yes h]
  exact join_nb (dn_le h)
theorem up_dn' {L : List (Int × Int)} (h : setB L = true) : up (dn L) = L := by
  have hs := (setB_iff.1 h).1
  unfold up dn
  rw [List.map_map]
  conv => rhs; rw [← List.map_id L]
  refine List.map_congr_left fun x hx => ?_
  obtain ⟨⟨h1, _⟩, h2, _⟩ := spanB_iff.1 (hs x hx)
  obtain ⟨x1, x2⟩ := x
  simp at h1 h2 ⊢
  omega
theorem set_back_text {S : List (Int × Int)} (h : setB S = true) {L : List UInt8} (hL : L = textB S) : up ((setO L).getD []) = S := by
  subst hL
  obtain ⟨_, h1, h6⟩ := setB_iff.1 h
  have hb : setO (textB S) = some (dn S) := by
    rw [textB_yes h]
    refine set_back ?_ (by rw [dn_len]; exact h6) (dn_le h)
    intro e
    have := congrArg List.length e
    rw [dn_len] at this
    simp at this
    subst this
    simp at h1
  rw [hb]
  exact up_dn' h
/-- A key's first word. -/
def hw (kd f : Int) : List UInt8 :=
  if kd = 0 then [97, 108, 108] else if kd = 1 then fwL f else if kd = 2 then [116, 101, 120, 116] else if kd = 3 then [97, 116] else if kd = 4 then [117, 105, 100]
  else if kd = 5 then [110, 111, 116] else if kd = 6 then [97, 110, 100] else [111, 114]
/-- What follows a key's first word, ahead of its keys. -/
def hx (kd : Int) (t : ByteArray) (S : List (Int × Int)) : List UInt8 := if kd = 2 then 32 :: t.data.toList else if kd = 3 ∨ kd = 4 then 32 :: textB S else []
theorem headW_hw (kd f : Int) (t : ByteArray) (S : List (Int × Int)) : headW kd f t S = hw kd f ++ hx kd t S := by
  unfold headW hw hx
  by_cases h0 : kd = 0
  · subst h0; simp
  by_cases h1 : kd = 1
  · subst h1; simp
  by_cases h2 : kd = 2
  · subst h2; simp
  by_cases h3 : kd = 3
  · subst h3; simp
  by_cases h4 : kd = 4
  · subst h4; simp
  simp [h0, h1, h2, h3, h4]
theorem hw_nb (kd f : Int) : Nb (hw kd f) := by
  unfold hw
  split
  · unfold Nb; decide
  · split
    · exact nb_flag f
    · unfold Nb
      split
      · decide
      · split
        · decide
        · split
          · decide
          · split
            · decide
            · split <;> decide
theorem brk_fmtL (ks : List KT) {R : List UInt8} (h : Brk R) : Brk (fmtL ks ++ R) := by
  cases ks with
  | nil => rw [fmtL]; exact h
  | cons k r => rw [fmtL]; exact .inr ⟨_, rfl⟩
theorem brk_hx (kd : Int) (t : ByteArray) (S : List (Int × Int)) {R : List UInt8} (h : Brk R) : Brk (hx kd t S ++ R) := by
  unfold hx
  split
  · exact .inr ⟨_, rfl⟩
  · split
    · exact .inr ⟨_, rfl⟩
    · exact h
theorem wk_hw {kd f : Int} {t : ByteArray} {S : List (Int × Int)} {n : Nat} (h : nodeB kd f t S n = true) : wk (hw kd f) = (kd, f, true) := by
  unfold nodeB at h
  split at h
  · rename_i e; subst e
    simp only [Bool.and_eq_true, beq_iff_eq] at h
    obtain rfl : f = 0 := h.1.1.1
    decide
  · split at h
    · rename_i e; subst e
      simp only [Bool.and_eq_true] at h
      obtain ⟨j, hj, rfl⟩ := flag1_pow h.1.1.1
      exact wk_flag hj rfl
    · split at h
      · rename_i e; subst e
        simp only [Bool.and_eq_true, beq_iff_eq] at h
        obtain rfl : f = 0 := h.1.1.1
        decide
      · split at h
        · rename_i e
          simp only [Bool.and_eq_true, beq_iff_eq] at h
          obtain rfl : f = 0 := h.1.1.1
          rcases e with rfl | rfl <;> decide
        · split at h
          · rename_i e; subst e
            simp only [Bool.and_eq_true, beq_iff_eq] at h
            obtain rfl : f = 0 := h.1.1.1
            decide
          · split at h
            · rename_i e
              simp only [Bool.and_eq_true, beq_iff_eq] at h
              obtain rfl : f = 0 := h.1.1.1
              rcases e with rfl | rfl <;> decide
            · cases h
/-- A valid key's text stands at a place, and a word's end behind it. -/
def At (L : List UInt8) (k m : Nat) (K : KT) (R : List UInt8) : Prop := allT K = true ∧ nodesT K ≤ m ∧ L.drop k = fmtT K ++ R ∧ Brk R
/-- The first word of a text that stands there. -/
theorem At.word {s : ByteArray} {k m : Nat} {kd f : Int} {t : ByteArray} {S : List (Int × Int)} {ks : List KT} {R : List UInt8} (h : At s.data.toList k m (.mk kd f t S ks) R) :
    wk (s.extract k (k + wl s.data.toList k)).data.toList = (kd, f, true) ∧ s.data.toList.drop (k + wl s.data.toList k) = hx kd t S ++ (fmtL ks ++ R) ∧ wl s.data.toList k = (hw kd f).length := by
  obtain ⟨h1, h2, h3, h4⟩ := h
  rw [allT, Bool.and_eq_true] at h1
  rw [fmtT, headW_hw, List.append_assoc, List.append_assoc] at h3
  have hl := wl_word h3 (hw_nb kd f) (brk_hx kd t S (brk_fmtL ks h4))
  rw [hl]
  exact ⟨by rw [ext_word h3]; exact wk_hw h1.2, drop_app h3, rfl⟩
/-- The text's own word. -/
theorem word_text {s : ByteArray} {k : Nat} {W R : List UInt8} (h : s.data.toList.drop k = 32 :: W ++ R) (hn : Nb W) (hr : Brk R) :
    skp s.data.toList k = k + 1 ∧ wl s.data.toList (k + 1) = W.length ∧ (s.extract (k + 1) (k + 1 + wl s.data.toList (k + 1))).data.toList = W ∧ s.data.toList.drop (k + 1 + wl s.data.toList (k + 1)) = R := by
  obtain ⟨h1, h2, _⟩ := skp_blank (R := W ++ R) h
  have hl := wl_word h2 hn hr
  rw [hl]
  exact ⟨h1, rfl, ext_word h2, drop_app h2⟩
/-- One key of a node. -/
theorem At.key {L : List UInt8} {k m : Nat} {K : KT} {r : List KT} {R : List UInt8} (hd : L.drop k = fmtL (K :: r) ++ R) (ha : allL (K :: r) = true) (hm : nodesL (K :: r) ≤ m) (hr : Brk R) :
    nextIs L k 32 = true ∧ At L (k + 1) m K (fmtL r ++ R) := by
  rw [fmtL] at hd
  obtain ⟨_, h2, h3⟩ := skp_blank (R := (fmtT K ++ fmtL r) ++ R) hd
  rw [allL, Bool.and_eq_true] at ha
  rw [nodesL] at hm
  exact ⟨h3, ha.1, by omega, by rw [h2, List.append_assoc], brk_fmtL r hr⟩
theorem At.next {L : List UInt8} {k m : Nat} {K : KT} {R : List UInt8} (h : At L k m K R) : L.drop (k + (fmtT K).length) = R := drop_app h.2.2.1
end Go.Proofs.YtnfigpknejmkmaaGreatDoor
namespace Go.Proofs.YtnfigpknejmkmaaGreatDoor
open Go.RowKit
set_option linter.unusedVariables false

theorem node_lenR {kd f : Int} {t : ByteArray} {S : List (Int × Int)} {n : Nat} (h : nodeB kd f t S n = true) : (kd = 0 ∨ kd = 1 ∨ kd = 2 ∨ kd = 3 ∨ kd = 4 → n = 0) ∧ (kd = 3 ∨ kd = 4 → setB S = true) ∧ (kd = 5 → n = 1) ∧ (kd = 6 ∨ kd = 7 → n = 2) := by
  unfold nodeB at h
  split at h
  · simp only [Bool.and_eq_true, beq_iff_eq] at h; omega
  · split at h
    · simp only [Bool.and_eq_true, beq_iff_eq] at h; omega
    · split at h
      · simp only [Bool.and_eq_true, beq_iff_eq] at h; omega
      · split at h
        · simp only [Bool.and_eq_true, beq_iff_eq] at h
          exact ⟨fun _ => h.2, fun _ => h.1.2, by omega, by omega⟩
        · split at h
          · simp only [Bool.and_eq_true, beq_iff_eq] at h; omega
          · split at h
            · simp only [Bool.and_eq_true, beq_iff_eq] at h; omega
            · cases h
theorem txt_isR {v : ByteArray} {l : List UInt8} (h : v.data.toList = l) : v = wB l := by
  subst h
  rfl
/-- The key that a text holds is the one that was read. -/
def CompK (L : List UInt8) (k m : Nat) (o : Bool) (K : KT) (k' m' : Nat) : Prop := ∀ K2 R2, At L k m K2 R2 → o = true ∧ K = K2 ∧ k' = k + (fmtT K2).length ∧ m' + nodesT K2 = m
/-- What has been read of a key so far. -/
def CI (L : List UInt8) (k m : Nat) (kd f : Int) (t : ByteArray) (S : List (Int × Int)) (ks : List KT) (i k' m' : Nat) : Prop :=
  ∀ t2 S2 ks2 R2, At L k m (.mk kd f t2 S2 ks2) R2 → t = t2 ∧ S = S2 ∧ ks = ks2.take i ∧ L.drop k' = fmtL (ks2.drop i) ++ R2 ∧ k' = k + (headW kd f t2 S2 ++ fmtL (ks2.take i)).length ∧ m' + nodesL (ks2.take i) + 1 = m
def nOf (kd : Int) : Nat := if kd = 5 then 1 else if kd = 6 ∨ kd = 7 then 2 else 0
theorem node_n {kd f : Int} {t : ByteArray} {S : List (Int × Int)} {n : Nat} (h : nodeB kd f t S n = true) : n = nOf kd := by
  have h1 := node_lenR h
  have h2 : 0 ≤ kd ∧ kd ≤ 7 := by
    unfold nodeB at h
    repeat' (split at h)
    all_goals first | (cases h; done) | omega
  unfold nOf
  split
  · exact h1.2.2.1 (by assumption)
  · split
    · exact h1.2.2.2 (by assumption)
    · exact h1.1 (by omega)
theorem ci_child {L : List UInt8} {k m i k' m' : Nat} {kd f : Int} {t t2 : ByteArray} {S S2 : List (Int × Int)} {ks ks2 : List KT} {R2 : List UInt8} (h : CI L k m kd f t S ks i k' m') (ha : At L k m (.mk kd f t2 S2 ks2) R2) (hi : i < nOf kd) :
    ∃ K3, ks2[i]? = some K3 ∧ skp L k' = k' + 1 ∧ At L (skp L k') m' K3 (fmtL (ks2.drop (i + 1)) ++ R2) := by
  obtain ⟨_, _, _, h4, _, h6⟩ := h t2 S2 ks2 R2 ha
  obtain ⟨a1, a2, _, a4⟩ := ha
  rw [allT, Bool.and_eq_true] at a1
  have hl := node_n a1.2
  have hi2 : i < ks2.length := by omega
  have hd : ks2.drop i = ks2[i] :: ks2.drop (i + 1) := List.drop_eq_getElem_cons hi2
  have hal : allL (ks2.drop i) = true := by
    have h7 := allL_app (ks2.take i) (ks2.drop i)
    rw [List.take_append_drop, a1.1] at h7
    have h8 := h7.symm
    rw [Bool.and_eq_true] at h8
    exact h8.2
  have hnl : nodesL (ks2.take i) + nodesL (ks2.drop i) = nodesL ks2 := by rw [← nodesL_app, List.take_append_drop]
  rw [nodesT] at a2
  rw [hd] at h4 hal hnl
  obtain ⟨b1, b2⟩ := At.key (m := m') h4 hal (by omega) a4
  have hs : skp L k' = k' + 1 := by unfold skp; rw [if_pos b1]
  exact ⟨ks2[i], List.getElem?_eq_getElem hi2, hs, by rw [hs]; exact b2⟩
theorem ci_next {L : List UInt8} {k m i k' m' k6 m6 : Nat} {kd f : Int} {t : ByteArray} {S : List (Int × Int)} {ks : List KT} {K6 : KT} {o6 : Bool} (h : CI L k m kd f t S ks i k' m') (hi : i < nOf kd) (hc : CompK L (skp L k') m' o6 K6 k6 m6) :
    CI L k m kd f t S (ks ++ [K6]) (i + 1) k6 m6 := by
  intro t2 S2 ks2 R2 ha
  obtain ⟨K3, h1, h2, h3⟩ := ci_child h ha hi
  obtain ⟨c1, c2, c3, c4⟩ := h t2 S2 ks2 R2 ha
  obtain ⟨c5, c6, c7⟩ := c4
  obtain ⟨_, rfl, d3, d4⟩ := hc _ _ h3
  have e1 := h3.next
  have e2 : ks2.take (i + 1) = ks2.take i ++ [K6] := by rw [List.take_add_one, h1]; rfl
  refine ⟨c1, c2, by rw [c3, e2], by rw [d3]; exact e1, ?_, ?_⟩
  · rw [e2, fmtL_app, d3, h2, c6]
    simp only [List.length_append]
    rw [fmtL, fmtL, List.append_nil, List.length_cons]
    omega
  · rw [e2, nodesL_app, nodesL, nodesL]
    omega
theorem ci_stop {L : List UInt8} {k m i k' m' k6 m6 a b : Nat} {kd f : Int} {t : ByteArray} {S : List (Int × Int)} {ks : List KT} {K6 K : KT} (h : CI L k m kd f t S ks i k' m') (hi : i < nOf kd) (hc : CompK L (skp L k') m' false K6 k6 m6)
    (hw : ∀ K2 R2, At L k m K2 R2 → ∃ t2 S2 ks2, K2 = .mk kd f t2 S2 ks2) : CompK L k m false K a b := by
  intro K2 R2 ha
  obtain ⟨t2, S2, ks2, rfl⟩ := hw K2 R2 ha
  obtain ⟨K3, _, _, h3⟩ := ci_child h ha hi
  cases (hc _ _ h3).1
theorem ci_end {L : List UInt8} {k m k' m' : Nat} {kd f : Int} {t : ByteArray} {S : List (Int × Int)} {ks : List KT} (h : CI L k m kd f t S ks (nOf kd) k' m') (hw : ∀ K2 R2, At L k m K2 R2 → ∃ t2 S2 ks2, K2 = .mk kd f t2 S2 ks2) :
    CompK L k m true (.mk kd f t S ks) k' m' := by
  intro K2 R2 ha
  obtain ⟨t2, S2, ks2, rfl⟩ := hw K2 R2 ha
  obtain ⟨rfl, rfl, c3, _, c5, c6⟩ := h t2 S2 ks2 R2 ha
  have a1 := ha.1
  rw [allT, Bool.and_eq_true] at a1
  have hl := node_n a1.2
  have ht : ks2.take (nOf kd) = ks2 := List.take_of_length_le (by omega)
  rw [ht] at c3 c5 c6
  subst c3
  exact ⟨rfl, rfl, by rw [fmtT]; exact c5, by rw [nodesT]; omega⟩
/-- The first word was read, and it is one of keys. -/
theorem at_word {s : ByteArray} {k m : Nat} {kd f : Int} {o : Bool} (h : wk (s.extract k (k + wl s.data.toList k)).data.toList = (kd, f, o)) : ∀ K2 R2, At s.data.toList k m K2 R2 → o = true ∧ ∃ t2 S2 ks2, K2 = .mk kd f t2 S2 ks2 := by
  rintro ⟨kd2, f2, t2, S2, ks2⟩ R2 ha
  have h1 := ha.word.1
  rw [h] at h1
  obtain ⟨rfl, h2⟩ := Prod.mk.inj h1
  obtain ⟨rfl, rfl⟩ := Prod.mk.inj h2
  exact ⟨rfl, _, _, _, rfl⟩
theorem comp_none {L : List UInt8} {k m k' m' : Nat} {K : KT} (h : ∀ K2 R2, ¬ At L k m K2 R2) : CompK L k m false K k' m' := fun K2 R2 ha => absurd ha (h K2 R2)
/-- A node without text and set: nothing follows its word but its keys. -/
theorem ci_plain {s : ByteArray} {k m : Nat} {kd f : Int} (h2 : kd ≠ 2) (h3 : kd ≠ 3) (h4 : kd ≠ 4) : CI s.data.toList k m kd f ⟨#[]⟩ [] [] 0 (k + wl s.data.toList k) (m - 1) := by
  intro t2 S2 ks2 R2 ha
  obtain ⟨_, w2, w3⟩ := ha.word
  obtain ⟨a1, a2, _, _⟩ := ha
  rw [allT, Bool.and_eq_true] at a1
  rw [nodesT] at a2
  have hnd := a1.2
  have ht : t2.size = 0 ∧ S2.length = 0 := by
    unfold nodeB at hnd
    repeat' (split at hnd)
    all_goals first | (simp only [Bool.and_eq_true, beq_iff_eq] at hnd; omega) | (cases hnd; done)
  have ht2 : t2 = ⟨#[]⟩ := by
    have : t2.data.toList = [] := List.length_eq_zero_iff.1 (by rw [← size_txt]; exact ht.1)
    exact txt_isR this
  have hS2 : S2 = [] := List.length_eq_zero_iff.1 ht.2
  have hxe : hx kd t2 S2 = [] := by unfold hx; rw [if_neg h2, if_neg (by omega)]
  rw [hxe] at w2
  refine ⟨ht2.symm, hS2.symm, by rw [List.take_zero], by rw [List.drop_zero]; exact w2, ?_, by rw [List.take_zero, nodesL]; omega⟩
  rw [headW_hw, hxe, List.take_zero, fmtL, List.append_nil, List.append_nil, w3]
theorem ci_text {s : ByteArray} {k m k1 k2 : Nat} {f : Int} {t : ByteArray} (hk1 : k + wl s.data.toList k = k1) (hk2 : skp s.data.toList k1 + wl s.data.toList (skp s.data.toList k1) = k2) (ht : s.extract (skp s.data.toList k1) k2 = t) : CI s.data.toList k m 2 f t [] [] 0 k2 (m - 1) := by
  intro t2 S2 ks2 R2 ha
  obtain ⟨_, w2, w3⟩ := ha.word
  obtain ⟨a1, a2, _, a4⟩ := ha
  rw [allT, Bool.and_eq_true] at a1
  rw [nodesT] at a2
  have hn := node2 a1.2
  have hS2 : S2 = [] := by
    have h := a1.2
    unfold nodeB at h
    rw [if_neg (by decide), if_neg (by decide), if_pos rfl] at h
    simp only [Bool.and_eq_true, beq_iff_eq] at h
    exact List.length_eq_zero_iff.1 h.1.2
  have hxe : hx 2 t2 S2 = 32 :: t2.data.toList := rfl
  rw [hxe, hk1] at w2
  obtain ⟨b1, b2, b3, b4⟩ := word_text (R := fmtL ks2 ++ R2) w2 (nb_name hn) (brk_fmtL ks2 a4)
  rw [b1] at hk2 ht
  rw [hk2] at b3 b4
  have hte : t = t2 := by
    rw [ht] at b3
    exact (txt_isR b3).trans (txt_isR rfl).symm
  refine ⟨hte, hS2.symm, by rw [List.take_zero], by rw [List.drop_zero]; exact b4, ?_, by rw [List.take_zero, nodesL]; omega⟩
  rw [headW_hw, hxe, List.take_zero, fmtL, List.append_nil, List.length_append, List.length_cons]
  omega
theorem ci_set {s : ByteArray} {k m k1 k2 : Nat} {kd f : Int} {t : ByteArray} {S : List (Int × Int)} (h34 : kd = 3 ∨ kd = 4) (hk1 : k + wl s.data.toList k = k1) (hk2 : skp s.data.toList k1 + wl s.data.toList (skp s.data.toList k1) = k2) (ht : s.extract (skp s.data.toList k1) k2 = t)
    (hS : up ((setO t.data.toList).getD []) = S) : CI s.data.toList k m kd f ⟨#[]⟩ S [] 0 k2 (m - 1) := by
  intro t2 S2 ks2 R2 ha
  obtain ⟨_, w2, w3⟩ := ha.word
  obtain ⟨a1, a2, _, a4⟩ := ha
  rw [allT, Bool.and_eq_true] at a1
  rw [nodesT] at a2
  have hn := (node_lenR a1.2).2.1 h34
  have ht2 : t2 = ⟨#[]⟩ := by
    have h := a1.2
    unfold nodeB at h
    rw [if_neg (by omega), if_neg (by omega), if_neg (by omega), if_pos h34] at h
    simp only [Bool.and_eq_true, beq_iff_eq] at h
    have : t2.data.toList = [] := List.length_eq_zero_iff.1 (by rw [← size_txt]; exact h.1.1.2)
    exact txt_isR this
  have hxe : hx kd t2 S2 = 32 :: textB S2 := by unfold hx; rw [if_neg (by omega), if_pos h34]
  rw [hxe, hk1] at w2
  obtain ⟨b1, b2, b3, b4⟩ := word_text (R := fmtL ks2 ++ R2) w2 (nb_text hn) (brk_fmtL ks2 a4)
  rw [b1] at hk2 ht
  rw [hk2] at b3 b4
  rw [ht] at b3
  have hSe : S = S2 := by rw [← hS]; exact set_back_text hn b3
  refine ⟨ht2.symm, hSe, by rw [List.take_zero], by rw [List.drop_zero]; exact b4, ?_, by rw [List.take_zero, nodesL]; omega⟩
  rw [headW_hw, hxe, List.take_zero, fmtL, List.append_nil, List.length_append, List.length_cons]
  omega
end Go.Proofs.YtnfigpknejmkmaaGreatDoor
namespace Go.Proofs.YtnfigpknejmkmaaGreatDoor
open Go.RowKit
set_option linter.unusedVariables false

theorem Lst.grownR {w w' : World} {R : Nat} (h : Lst w) (hg : w.grownBy w' (some R)) (hR : 1 < R) : Lst w' :=
  ⟨Nat.lt_of_lt_of_le h.1 hg.size, fun k hk => (World.grownBy.cell_far hg ⟨1, k, none⟩ h.1 (fun e => by have := Option.some.inj e; simp only at this; omega)).trans (h.2 k hk)⟩
theorem Shp.grownR {w w' : World} {R : Nat} (h : Shp w) (hg : w.grownBy w' (some R)) (hR : 0 < R) : Shp w' :=
  ⟨Nat.lt_of_lt_of_le h.1 hg.size, fun k hk => (World.grownBy.cell_far hg ⟨0, k, none⟩ h.1 (fun e => by have := Option.some.inj e; simp only at this; omega)).trans (h.2 k hk)⟩
/-- What the reader of a key leaves. -/
def RdK (m R : Nat) (s : ByteArray) (k : Nat) (w : World) (e : Ending) (w' : World) : Prop :=
  ∃ (K : KT) (r : KR) (o : Bool) (k' m' : Nat), e = .returned (.tuple #[kval r, .bool o]) ∧ CurK m' w' R s k' ∧ k' ≤ s.size ∧ m' ≤ m ∧ w.grownBy w' (some R) ∧ KA w.heap.size w'.heap.size w' K (kval r) ∧ CompK s.data.toList k m o K k' m' ∧ (o = true → 0 < s.size)
/-- The loop over a key's keys. -/
def RdL (w : World) (R S0 D D6 E NN : Nat) (s : ByteArray) (k m : Nat) (kd f : Int) (t : ByteArray) (S : List (Int × Int)) (AS : Option Addr) (nS cS : Nat) (b1 b2 b3 : Bool) (i : Nat) (wr : World) : Prop :=
  ∃ (A : Option Addr) (cap base h k' m' : Nat) (ks : List KT) (rs : List KR), E ≤ base ∧ E ≤ h ∧ h ≤ wr.heap.size ∧ base ≤ wr.heap.size ∧ k' ≤ s.size ∧ m' < m ∧ (i = 0 → A = none ∧ cap = 0) ∧ (i < 2 → ∀ g, Value.ownBlock (.slice A i cap) = some g → h ≤ g) ∧
    Hid (CurK m' wr R s k') ∧ Hid (w.grownBy wr (some R)) ∧ Hid (Whole wr S0 27 #[.int .i64 0, .int .i64 0, .string ⟨#[]⟩, .slice none 0 0, .slice none 0 0]) ∧ Hid (Whole wr D 27 #[.int .i64 kd, .int .i64 f, .string t, .slice AS nS cS, .slice A i cap]) ∧
    Hid (Whole wr D6 99 #[.bool b1, .bool b2, .bool b3, .int .i64 (NN : Int)]) ∧ Hid (ROwn keyR wr base (.slice A i cap) rs) ∧ Hid (KRs (KA (D + 1) h wr) ks rs) ∧
    Hid (KA (D + 1) E wr (.mk kd f t S []) (kval (kd, f, t, (AS, nS, cS), (none, 0, 0)))) ∧ Hid (CI s.data.toList k m kd f t S ks i k' m')
theorem own_base2 {wr w6 : World} {base b i cap E : Nat} {A : Option Addr} {rs : List KR} (ho : ROwn keyR wr base (.slice A i cap) rs) (h0 : i = 0 → A = none ∧ cap = 0) (hg : wr.grownBy w6 (some b)) (hb : b < base) (hE : E ≤ base) (hEw : E ≤ wr.heap.size) :
    ∃ base2, ROwn keyR w6 base2 (.slice A i cap) rs ∧ E ≤ base2 ∧ base2 ≤ w6.heap.size ∧ (i = 0 → base2 = w6.heap.size) := by
  have hsz : wr.heap.size ≤ w6.heap.size := hg.size
  by_cases hi : i = 0
  · subst hi
    obtain ⟨rfl, rfl⟩ := h0 rfl
    have : rs = [] := List.eq_nil_of_length_eq_zero ho.len.1.symm
    subst this
    exact ⟨w6.heap.size, ROwn.nil _ _, by omega, Nat.le_refl _, fun _ => rfl⟩
  · refine ⟨min base w6.heap.size, (ho.grown hg hb).from (Nat.min_le_left _ _), by omega, Nat.min_le_right _ _, fun e => absurd e hi⟩
theorem rdl_next {w wr w6 w9 : World} {R S0 D D6 E NN i k m k' m' k6 m6 base base2 h cap c9 nS cS : Nat} {A A9 AS : Option Addr} {s t : ByteArray} {S : List (Int × Int)} {kd f : Int} {ks : List KT} {rs : List KR} {K6 : KT} {r6 : KR} {b1 b2 b3 : Bool}
    (hRS : R < S0) (hSD : S0 < D) (hD6 : D < D6) (h6E : D6 < E) (hSS : w.heap.size = S0) (hlt : i < NN) (hN : NN ≤ 2) (hba : E ≤ base) (hEh : E ≤ h) (hhw : h ≤ wr.heap.size)
    (hOB : i < 2 → ∀ g, Value.ownBlock (.slice A i cap) = some g → h ≤ g) (hG : w.grownBy wr (some R)) (hZ : Whole wr S0 27 #[.int .i64 0, .int .i64 0, .string ⟨#[]⟩, .slice none 0 0, .slice none 0 0])
    (hX : Whole wr D 27 #[.int .i64 kd, .int .i64 f, .string t, .slice AS nS cS, .slice A i cap]) (h6 : Whole wr D6 99 #[.bool b1, .bool b2, .bool b3, .int .i64 (NN : Int)])
    (hO : ROwn keyR wr base (.slice A i cap) rs) (hK : KRs (KA (D + 1) h wr) ks rs) (hL : KA (D + 1) E wr (.mk kd f t S []) (kval (kd, f, t, (AS, nS, cS), (none, 0, 0))))
    (hg : wr.grownBy w6 (some R)) (hC6 : CurK m6 w6 R s k6) (hk6 : k6 ≤ s.size) (hm6 : m6 < m) (hK6 : KA wr.heap.size w6.heap.size w6 K6 (kval r6))
    (hO6 : ROwn keyR w6 base2 (.slice A i cap) rs) (hb1 : E ≤ base2) (hb2 : base2 ≤ w6.heap.size) (hb3 : i = 0 → base2 = w6.heap.size)
    (hGW : ((w6.alloc (.cells (kcells r6).toArray 27)).alloc (.cells (kcells r6).toArray 27)).grownBy w9 (Value.ownBlock (.slice A i cap))) (hOW : ROwn keyR w9 base2 (.slice A9 (i + 1) c9) (rs ++ [r6]))
    (hCI : CI s.data.toList k m kd f t S (ks ++ [K6]) (i + 1) k6 m6) :
    RdL w R S0 D D6 E NN s k m kd f t S AS nS cS b1 b2 b3 (i + 1) (w9.setCell ⟨D, 4, none⟩ (.slice A9 (i + 1) c9)) := by
  have hrow : ∀ g, Value.ownBlock (.slice A i cap) = some g → base2 ≤ g ∧ g < w6.heap.size := fun g hg => World.ownsRow.lt hO6 g hg
  have hrow0 : ∀ g, Value.ownBlock (.slice A i cap) = some g → base ≤ g ∧ g < wr.heap.size := fun g hg => World.ownsRow.lt hO g hg
  have hrow9 : ∀ g, Value.ownBlock (.slice A9 (i + 1) c9) = some g → base2 ≤ g ∧ g < w9.heap.size := fun g hg => World.ownsRow.lt hOW g hg
  have hz6 : wr.heap.size ≤ w6.heap.size := hg.size
  have hz9 : w6.heap.size + 2 ≤ w9.heap.size := by have := hGW.size; simpa using this
  have al : w6.grownBy ((w6.alloc (.cells (kcells r6).toArray 27)).alloc (.cells (kcells r6).toArray 27)) none := gr_alloc (gr_alloc (gr_refl _ _) _) _
  have g1 : w.grownBy w6 (some R) := gr_trans hG hg
  have g2 : w.grownBy w9 (some R) := gr_row1 (gr_alloc (gr_alloc g1 _) _) hGW (fun g hg => by have := hrow g hg; omega)
  have sD : w9.grownBy (w9.setCell ⟨D, 4, none⟩ (.slice A9 (i + 1) c9)) (some D) := gr_one (gr_refl _ _) _ _
  have hXl := hX.lt
  have h9 : (w9.setCell ⟨D, 4, none⟩ (.slice A9 (i + 1) c9)).heap.size = w9.heap.size := by simp [World.setCell]
  refine ⟨A9, c9, base2, w6.heap.size, k6, m6, ks ++ [K6], rs ++ [r6], hb1, by omega, by omega, by omega, hk6, hm6, fun e => by omega, fun hi g hg => ?_, ?_, ?_, ?_, ?_, ?_, ?_, ?_, ?_, hCI⟩
  · have := hrow9 g hg
    have := hb3 (by omega)
    omega
  · exact ((Whole.grown (Whole.alloc (Whole.alloc hC6 _) _) hGW (fun e => by have := hrow R e.symm; omega)).apart (by show R ≠ D; omega) _)
  · exact gr_row1 g2 sD (fun g e => by cases e; omega)
  · exact (((((hZ.grown hg (fun e => by cases e; omega)).alloc _).alloc _).grown hGW (fun e => by have := hrow S0 e.symm; omega)).apart (by show S0 ≠ D; omega) _)
  · exact (((((hX.grown hg (fun e => by cases e; omega)).alloc _).alloc _).grown hGW (fun e => by have := hrow D e.symm; omega)).store 4 _)
  · exact (((((h6.grown hg (fun e => by cases e; omega)).alloc _).alloc _).grown hGW (fun e => by have := hrow D6 e.symm; omega)).apart (by show D6 ≠ D; omega) _)
  · exact hOW.store (fun e => by have := hrow9 D e; omega) _
  · refine KRs.push (KRs.imp (fun k v hk => ?_) hK) ?_
    · exact ((((hk.grown hg (fun g e => by cases e; omega)).grown al (fun g e => by cases e)).grown hGW (fun g e => .inr (hOB (by omega) g e))).grown sD (fun g e => by cases e; omega)).widen (Nat.le_refl _) (by omega)
    · exact (((hK6.grown al (fun g e => by cases e)).grown hGW (fun g e => .inl (hrow0 g e).2)).grown sD (fun g e => by cases e; exact .inl hXl)).widen hXl (Nat.le_refl _)
  · exact (((hL.grown hg (fun g e => by cases e; omega)).grown al (fun g e => by cases e)).grown hGW (fun g e => .inr (by have := hrow g e; omega))).grown sD (fun g e => by cases e; omega)
theorem ka_full {w : World} {B lo h n cap nS cS E : Nat} {A AS : Option Addr} {ks : List KT} {rs : List KR} {kd f : Int} {t : ByteArray} {S : List (Int × Int)} (ho : ROwn keyR w B (.slice A n cap) rs) (hB : lo ≤ B) (hk : KRs (KA lo h w) ks rs) (hh : h ≤ w.heap.size)
    (hL : KA lo E w (.mk kd f t S []) (kval (kd, f, t, (AS, nS, cS), (none, 0, 0)))) (hE : E ≤ w.heap.size) : KA lo w.heap.size w (.mk kd f t S ks) (kval (kd, f, t, (AS, nS, cS), (A, n, cap))) := by
  have hL2 := hL.widen (Nat.le_refl _) hE
  unfold KA at hL2 ⊢
  obtain ⟨A1, n1, c1, A2, n2, c2, he, h2, h3, h4, h5, h6, h7⟩ := hL2.open
  simp only [Value.agg.injEq, Array.mk.injEq, List.cons.injEq, Value.slice.injEq, and_true, true_and] at he
  obtain ⟨⟨rfl, rfl, rfl⟩, -⟩ := he
  rw [KV]
  have hl : ks.length = n := by rw [hk.len]; exact ho.len.1.symm
  exact ⟨_, _, _, A, n, cap, rfl, h2, h3, h4, h5, hl, kvs_own ho hB hk hh⟩
theorem wk_kd {L : List UInt8} {kd f : Int} (h : wk L = (kd, f, true)) : kd = 0 ∨ kd = 1 ∨ kd = 2 ∨ kd = 3 ∨ kd = 4 ∨ kd = 5 ∨ kd = 6 ∨ kd = 7 := by
  by_cases h0 : L = fwL 1
  · rw [wk, if_pos h0] at h
    have h' := (Prod.mk.inj h).1
    omega
  by_cases h1 : L = fwL 2
  · rw [wk, if_neg h0, if_pos h1] at h
    have h' := (Prod.mk.inj h).1
    omega
  by_cases h2 : L = fwL 4
  · rw [wk, if_neg h0, if_neg h1, if_pos h2] at h
    have h' := (Prod.mk.inj h).1
    omega
  by_cases h3 : L = fwL 8
  · rw [wk, if_neg h0, if_neg h1, if_neg h2, if_pos h3] at h
    have h' := (Prod.mk.inj h).1
    omega
  by_cases h4 : L = fwL 16
  · rw [wk, if_neg h0, if_neg h1, if_neg h2, if_neg h3, if_pos h4] at h
    have h' := (Prod.mk.inj h).1
    omega
  by_cases h5 : L = [97, 108, 108]
  · rw [wk, if_neg h0, if_neg h1, if_neg h2, if_neg h3, if_neg h4, wk2, if_pos h5] at h
    have h' := (Prod.mk.inj h).1
    omega
  by_cases h6 : L = [116, 101, 120, 116]
  · rw [wk, if_neg h0, if_neg h1, if_neg h2, if_neg h3, if_neg h4, wk2, if_neg h5, if_pos h6] at h
    have h' := (Prod.mk.inj h).1
    omega
  by_cases h7 : L = [97, 116]
  · rw [wk, if_neg h0, if_neg h1, if_neg h2, if_neg h3, if_neg h4, wk2, if_neg h5, if_neg h6, if_pos h7] at h
    have h' := (Prod.mk.inj h).1
    omega
  by_cases h8 : L = [117, 105, 100]
  · rw [wk, if_neg h0, if_neg h1, if_neg h2, if_neg h3, if_neg h4, wk2, if_neg h5, if_neg h6, if_neg h7, if_pos h8] at h
    have h' := (Prod.mk.inj h).1
    omega
  by_cases h9 : L = [110, 111, 116]
  · rw [wk, if_neg h0, if_neg h1, if_neg h2, if_neg h3, if_neg h4, wk2, if_neg h5, if_neg h6, if_neg h7, if_neg h8, if_pos h9] at h
    have h' := (Prod.mk.inj h).1
    omega
  by_cases h10 : L = [97, 110, 100]
  · rw [wk, if_neg h0, if_neg h1, if_neg h2, if_neg h3, if_neg h4, wk2, if_neg h5, if_neg h6, if_neg h7, if_neg h8, if_neg h9, if_pos h10] at h
    have h' := (Prod.mk.inj h).1
    omega
  by_cases h11 : L = [111, 114]
  · rw [wk, if_neg h0, if_neg h1, if_neg h2, if_neg h3, if_neg h4, wk2, if_neg h5, if_neg h6, if_neg h7, if_neg h8, if_neg h9, if_neg h10, if_pos h11] at h
    have h' := (Prod.mk.inj h).1
    omega
  rw [wk, if_neg h0, if_neg h1, if_neg h2, if_neg h3, if_neg h4, wk2, if_neg h5, if_neg h6, if_neg h7, if_neg h8, if_neg h9, if_neg h10, if_neg h11] at h
  have h' := (Prod.mk.inj (Prod.mk.inj h).2).2
  cases h'
theorem sz5 (w : World) (S : Nat) (a0 a1 a2 a3 a4 : Value) : (st5 w S a0 a1 a2 a3 a4).heap.size = w.heap.size := by simp [st5, World.setCell]
theorem cur5 {w : World} {m R S k : Nat} {s : ByteArray} (h : CurK m w R s k) (hRS : R < S) (a0 a1 a2 a3 a4 : Value) : CurK m (st5 w S a0 a1 a2 a3 a4) R s k := Whole.grown h (gr_st5 w S a0 a1 a2 a3 a4) (fun e => by cases e; omega)
theorem rdk_fail {w w' : World} {m m' R S0 k k' : Nat} {s : ByteArray} (hSS : w.heap.size = S0) (hRS : R < S0) (hS : S0 < w'.heap.size) (hC : CurK m' w' R s k') (hk : k' ≤ s.size) (hm : m' ≤ m) (hg : w.grownBy w' (some R)) (hc : ∀ K k' m', CompK s.data.toList k m false K k' m') (a0 a1 a2 a3 a4 : Value) :
    RdK m R s k w (.returned (.tuple #[kval (0, 0, ⟨#[]⟩, (none, 0, 0), (none, 0, 0)), .bool false])) (st5 w' S0 a0 a1 a2 a3 a4) :=
  ⟨.mk 0 0 ⟨#[]⟩ [] [], _, false, k', m', rfl, cur5 hC hRS _ _ _ _ _, hk, hm, gr_row1 hg (gr_st5 _ _ _ _ _ _ _) (fun g e => by cases e; omega), ka_leaf (by decide) rfl (by decide) (SpA.nil _ _), hc _ _ _, fun e => by cases e⟩
theorem rdk_end {w wr : World} {R S0 D E k m k' m' base h cap nS cS NN : Nat} {A AS : Option Addr} {s t : ByteArray} {S : List (Int × Int)} {kd f : Int} {ks : List KT} {rs : List KR}
    (hSS : w.heap.size = S0) (hRS : R < S0) (hSD : S0 < D) (hDE : D < E) (hba : E ≤ base) (hEh : E ≤ h) (hhw : h ≤ wr.heap.size) (hk : k' ≤ s.size) (hm : m' < m) (hC : CurK m' wr R s k') (hG : w.grownBy wr (some R))
    (hO : ROwn keyR wr base (.slice A NN cap) rs) (hK : KRs (KA (D + 1) h wr) ks rs) (hL : KA (D + 1) E wr (.mk kd f t S []) (kval (kd, f, t, (AS, nS, cS), (none, 0, 0)))) (hN : NN = nOf kd) (hCI : CI s.data.toList k m kd f t S ks NN k' m')
    (hw : ∀ K2 R2, At s.data.toList k m K2 R2 → ∃ t2 S2 ks2, K2 = .mk kd f t2 S2 ks2) (hz : 0 < s.size) (a0 a1 a2 a3 a4 : Value) :
    RdK m R s k w (.returned (.tuple #[kval (kd, f, t, (AS, nS, cS), (A, NN, cap)), .bool true])) (st5 wr S0 a0 a1 a2 a3 a4) := by
  have h5 := gr_st5 wr S0 a0 a1 a2 a3 a4
  subst hN
  refine ⟨.mk kd f t S ks, _, true, k', m', rfl, cur5 hC hRS _ _ _ _ _, hk, by omega, gr_row1 hG h5 (fun g e => by cases e; omega), ?_, ci_end hCI hw, fun _ => hz⟩
  have h1 := ka_full hO (by omega) hK hhw hL (by omega)
  exact (h1.grown h5 (fun g e => by cases e; omega)).widen (by omega) h5.size
theorem rdl_begin {w wr : World} {R S0 D D6 E NN k m k' m' nS cS : Nat} {AS : Option Addr} {s t : ByteArray} {S : List (Int × Int)} {kd f : Int} {b1 b2 b3 : Bool} (hE : wr.heap.size = E) (hk : k' ≤ s.size) (hm : m' < m)
    (hC : CurK m' wr R s k') (hG : w.grownBy wr (some R)) (hZ : Whole wr S0 27 #[.int .i64 0, .int .i64 0, .string ⟨#[]⟩, .slice none 0 0, .slice none 0 0]) (hX : Whole wr D 27 #[.int .i64 kd, .int .i64 f, .string t, .slice AS nS cS, .slice none 0 0])
    (h6 : Whole wr D6 99 #[.bool b1, .bool b2, .bool b3, .int .i64 (NN : Int)]) (hL : KA (D + 1) E wr (.mk kd f t S []) (kval (kd, f, t, (AS, nS, cS), (none, 0, 0)))) (hCI : CI s.data.toList k m kd f t S [] 0 k' m') :
    RdL w R S0 D D6 E NN s k m kd f t S AS nS cS b1 b2 b3 0 wr :=
  ⟨none, 0, E, E, k', m', [], [], Nat.le_refl _, Nat.le_refl _, by omega, by omega, hk, hm, fun _ => ⟨rfl, rfl⟩, fun _ g hg => (by cases hg), Lib.hid hC, Lib.hid hG, Lib.hid hZ, Lib.hid hX, Lib.hid h6, Lib.hid (ROwn.nil _ _), Lib.hid rfl, Lib.hid hL, Lib.hid hCI⟩
end Go.Proofs.YtnfigpknejmkmaaGreatDoor
namespace Go.Proofs.YtnfigpknejmkmaaGreatDoor
open Go.RowKit
set_option linter.unusedVariables false

/-- A query tells the text of its key. -/
def TXT (w : World) (k : KT) (q : Value) : Prop := ∃ T a fn, q = .iface T (.agg a) ∧ (∀ w1 : World, (method 331 T (.agg a) "loop.example/mailhost/impl.text").run Tryz.prog w1 = .ok (fn, .agg a) w1) ∧ (∀ w1 : World, (callFunc fn #[.agg a]).run Tryz.prog w1 = .ok (.enter fn #[.agg a]) w1) ∧ Calls Tryz.prog fn #[.agg a] w (Fm w k)
theorem fm_of {w w' : World} {k : KT} {v : ByteArray} (h1 : v.data.toList = fmtT k) (hb : Below w.heap.size w w') : Fm w k (.returned (.string v)) w' := ⟨v, h1, rfl, hb⟩
theorem ct_all  (w : World) : (callFunc 156 #[.agg #[]]).run Tryz.prog w = .ok (.enter 156 #[.agg #[]]) w := by kernel_rfl
theorem mt_all  (w : World) : (method 331 124 (.agg #[]) "loop.example/mailhost/impl.text").run Tryz.prog w = .ok (156, .agg #[]) w := by kernel_rfl
theorem ct_flag (f : Int) (w : World) : (callFunc 157 #[.agg #[.int .i64 f]]).run Tryz.prog w = .ok (.enter 157 #[.agg #[.int .i64 f]]) w := by kernel_rfl
theorem mt_flag (f : Int) (w : World) : (method 331 126 (.agg #[.int .i64 f]) "loop.example/mailhost/impl.text").run Tryz.prog w = .ok (157, .agg #[.int .i64 f]) w := by kernel_rfl
theorem ct_text (t : ByteArray) (w : World) : (callFunc 158 #[.agg #[.string t]]).run Tryz.prog w = .ok (.enter 158 #[.agg #[.string t]]) w := by kernel_rfl
theorem mt_text (t : ByteArray) (w : World) : (method 331 129 (.agg #[.string t]) "loop.example/mailhost/impl.text").run Tryz.prog w = .ok (158, .agg #[.string t]) w := by kernel_rfl
theorem ct_place (A : Option Addr) (n c : Nat) (w : World) : (callFunc 159 #[.agg #[.slice A n c]]).run Tryz.prog w = .ok (.enter 159 #[.agg #[.slice A n c]]) w := by kernel_rfl
theorem mt_place (A : Option Addr) (n c : Nat) (w : World) : (method 331 131 (.agg #[.slice A n c]) "loop.example/mailhost/impl.text").run Tryz.prog w = .ok (159, .agg #[.slice A n c]) w := by kernel_rfl
theorem ct_uid (A : Option Addr) (n c : Nat) (w : World) : (callFunc 178 #[.agg #[.slice A n c]]).run Tryz.prog w = .ok (.enter 178 #[.agg #[.slice A n c]]) w := by kernel_rfl
theorem mt_uid (A : Option Addr) (n c : Nat) (w : World) : (method 331 134 (.agg #[.slice A n c]) "loop.example/mailhost/impl.text").run Tryz.prog w = .ok (178, .agg #[.slice A n c]) w := by kernel_rfl
theorem ct_not (q : Value) (w : World) : (callFunc 179 #[.agg #[q]]).run Tryz.prog w = .ok (.enter 179 #[.agg #[q]]) w := by kernel_rfl
theorem mt_not (q : Value) (w : World) : (method 331 136 (.agg #[q]) "loop.example/mailhost/impl.text").run Tryz.prog w = .ok (179, .agg #[q]) w := by kernel_rfl
theorem ct_and (q r : Value) (w : World) : (callFunc 180 #[.agg #[q, r]]).run Tryz.prog w = .ok (.enter 180 #[.agg #[q, r]]) w := by kernel_rfl
theorem mt_and (q r : Value) (w : World) : (method 331 138 (.agg #[q, r]) "loop.example/mailhost/impl.text").run Tryz.prog w = .ok (180, .agg #[q, r]) w := by kernel_rfl
theorem ct_or (q r : Value) (w : World) : (callFunc 181 #[.agg #[q, r]]).run Tryz.prog w = .ok (.enter 181 #[.agg #[q, r]]) w := by kernel_rfl
theorem mt_or (q r : Value) (w : World) : (method 331 139 (.agg #[q, r]) "loop.example/mailhost/impl.text").run Tryz.prog w = .ok (181, .agg #[q, r]) w := by kernel_rfl
set_option maxRecDepth 20000 in
set_option maxHeartbeats 4000000 in
theorem text_all (f : Int) (t : ByteArray) (S : List (Int × Int)) (w : World) : Calls Tryz.prog 156 #[.agg #[]] w (Fm w (.mk 0 f t S [])) := by
  go_enter Tryz.func156, Tryz.ntmps156
  go_wp2
  go_ret
  exact fm_of (by rw [fmtT, fmtL, List.append_nil]; rfl) (below_new _ _)
set_option maxRecDepth 20000 in
set_option maxHeartbeats 4000000 in
theorem text_flag {f : Int} (t : ByteArray) (S : List (Int × Int)) (w : World) (hL : Lst w) : Calls Tryz.prog 157 #[.agg #[.int .i64 f]] w (Fm w (.mk 1 f t S [])) := by
  obtain ⟨B, hB⟩ : ∃ B, w.heap.size = B := ⟨_, rfl⟩
  have HBB := Lib.hid hB
  obtain ⟨wa, hwa⟩ : ∃ wa, w.alloc (.cells #[.int .i64 f] 126) = wa := ⟨_, rfl⟩
  have HWA := Lib.hid hwa
  have HBA : Hid (Below w.heap.size w wa) := Lib.hid (by rw [← hwa]; exact below_new _ _)
  have HKA : Hid (Whole wa B 126 #[.int .i64 f]) := Lib.hid (by rw [← hwa, ← hB]; exact Whole.made w _ _)
  have HC := impl_flagword f wa (hL.below HBA.out (Nat.le_refl _))
  have z0 := HKA.out.cell 0
  simp only [List.getElem?_toArray, List.getElem?_cons_zero] at z0
  clear hB hwa hL
  go_enter Tryz.func157, Tryz.ntmps157
  go_wp2_with fail
  try rw [HBB.out, HWA.out]
  refine HC.mono ?_
  rintro e w2 ⟨rfl, hb⟩
  have HB2 := Lib.hid (HBA.out.trans (hb.mono HBA.out.size))
  clear hb HC
  go_wp2
  go_ret
  exact fm_of (by rw [fmtT, fmtL, List.append_nil]; rfl) HB2.out
set_option maxRecDepth 20000 in
set_option maxHeartbeats 4000000 in
theorem text_text (f : Int) {t : ByteArray} (S : List (Int × Int)) (w : World) (ht : t.size ≤ 8) : Calls Tryz.prog 158 #[.agg #[.string t]] w (Fm w (.mk 2 f t S [])) := by
  obtain ⟨B, hB⟩ : ∃ B, w.heap.size = B := ⟨_, rfl⟩
  have HBB := Lib.hid hB
  obtain ⟨wa, hwa⟩ : ∃ wa, w.alloc (.cells #[.string t] 129) = wa := ⟨_, rfl⟩
  have HWA := Lib.hid hwa
  have HBA : Hid (Below w.heap.size w wa) := Lib.hid (by rw [← hwa]; exact below_new _ _)
  have HKA : Hid (Whole wa B 129 #[.string t]) := Lib.hid (by rw [← hwa, ← hB]; exact Whole.made w _ _)
  have z0 := HKA.out.cell 0
  simp only [List.getElem?_toArray, List.getElem?_cons_zero] at z0
  clear hB hwa
  go_enter Tryz.func158, Tryz.ntmps158
  go_wp2_with fail
  try rw [HBB.out, HWA.out]
  go_wp2
  go_ret
  exact fm_of (by rw [cat_txt, fmtT, fmtL, List.append_nil]; rfl) HBA.out
set_option maxRecDepth 20000 in
set_option maxHeartbeats 4000000 in
theorem text_place (f : Int) (t : ByteArray) (AS : Option Addr) (cS : Nat) {S : List (Int × Int)} (w : World) (h : SpA w AS S) (hl : S.length ≤ 33554432) : Calls Tryz.prog 159 #[.agg #[.slice AS S.length cS]] w (Fm w (.mk 3 f t S [])) := by
  obtain ⟨nS, hn⟩ : ∃ n, S.length = n := ⟨_, rfl⟩
  obtain ⟨B, hB⟩ : ∃ B, w.heap.size = B := ⟨_, rfl⟩
  have HBB := Lib.hid hB
  obtain ⟨wa, hwa⟩ : ∃ wa, w.alloc (.cells #[.slice AS nS cS] 131) = wa := ⟨_, rfl⟩
  have HWA := Lib.hid hwa
  have HBA : Hid (Below w.heap.size w wa) := Lib.hid (by rw [← hwa]; exact below_new _ _)
  have HKA : Hid (Whole wa B 131 #[.slice AS nS cS]) := Lib.hid (by rw [← hwa, ← hB]; exact Whole.made w _ _)
  have HC := impl_settext AS cS S wa (h.below HBA.out (Nat.le_refl _)) hl
  have z0 := HKA.out.cell 0
  simp only [List.getElem?_toArray, List.getElem?_cons_zero] at z0
  rw [hn] at HC ⊢
  clear hB hwa h hl hn
  go_enter Tryz.func159, Tryz.ntmps159
  go_wp2_with fail
  try rw [HBB.out, HWA.out]
  refine HC.mono ?_
  rintro e w2 ⟨y, hy, rfl, hb⟩
  have HB2 := Lib.hid (HBA.out.trans (hb.mono HBA.out.size))
  have HY := Lib.hid hy
  have hys : y.size ≤ 36 := by rw [size_txt, hy]; exact textB_le
  clear hb HC hy
  go_wp2
  go_ret
  exact fm_of (by rw [cat_txt, HY.out, fmtT, fmtL, List.append_nil]; rfl) HB2.out
set_option maxRecDepth 20000 in
set_option maxHeartbeats 4000000 in
theorem text_uid (f : Int) (t : ByteArray) (AS : Option Addr) (cS : Nat) {S : List (Int × Int)} (w : World) (h : SpA w AS S) (hl : S.length ≤ 33554432) : Calls Tryz.prog 178 #[.agg #[.slice AS S.length cS]] w (Fm w (.mk 4 f t S [])) := by
  obtain ⟨nS, hn⟩ : ∃ n, S.length = n := ⟨_, rfl⟩
  obtain ⟨B, hB⟩ : ∃ B, w.heap.size = B := ⟨_, rfl⟩
  have HBB := Lib.hid hB
  obtain ⟨wa, hwa⟩ : ∃ wa, w.alloc (.cells #[.slice AS nS cS] 134) = wa := ⟨_, rfl⟩
  have HWA := Lib.hid hwa
  have HBA : Hid (Below w.heap.size w wa) := Lib.hid (by rw [← hwa]; exact below_new _ _)
  have HKA : Hid (Whole wa B 134 #[.slice AS nS cS]) := Lib.hid (by rw [← hwa, ← hB]; exact Whole.made w _ _)
  have HC := impl_settext AS cS S wa (h.below HBA.out (Nat.le_refl _)) hl
  have z0 := HKA.out.cell 0
  simp only [List.getElem?_toArray, List.getElem?_cons_zero] at z0
  rw [hn] at HC ⊢
  clear hB hwa h hl hn
  go_enter Tryz.func178, Tryz.ntmps178
  go_wp2_with fail
  try rw [HBB.out, HWA.out]
  refine HC.mono ?_
  rintro e w2 ⟨y, hy, rfl, hb⟩
  have HB2 := Lib.hid (HBA.out.trans (hb.mono HBA.out.size))
  have HY := Lib.hid hy
  have hys : y.size ≤ 36 := by rw [size_txt, hy]; exact textB_le
  clear hb HC hy
  go_wp2
  go_ret
  exact fm_of (by rw [cat_txt, HY.out, fmtT, fmtL, List.append_nil]; rfl) HB2.out
set_option maxRecDepth 20000 in
set_option maxHeartbeats 4000000 in
theorem text_not (f : Int) (t : ByteArray) (S : List (Int × Int)) {k : KT} {q : Value} (w : World) (h : ∀ w1, Below w.heap.size w w1 → TXT w1 k q) (hk : (fmtT k).length ≤ 1000000) : Calls Tryz.prog 179 #[.agg #[q]] w (Fm w (.mk 5 f t S [k])) := by
  obtain ⟨B, hB⟩ : ∃ B, w.heap.size = B := ⟨_, rfl⟩
  have HBB := Lib.hid hB
  obtain ⟨wa, hwa⟩ : ∃ wa, w.alloc (.cells #[q] 136) = wa := ⟨_, rfl⟩
  have HWA := Lib.hid hwa
  have HBA : Hid (Below w.heap.size w wa) := Lib.hid (by rw [← hwa]; exact below_new _ _)
  have HKA : Hid (Whole wa B 136 #[q]) := Lib.hid (by rw [← hwa, ← hB]; exact Whole.made w _ _)
  obtain ⟨T, a, fn, rfl, m, cm, HC⟩ := h wa HBA.out
  have z0 := HKA.out.cell 0
  simp only [List.getElem?_toArray, List.getElem?_cons_zero] at z0
  have m0 := m wa
  have m1 := cm wa
  clear hB hwa h m cm
  go_enter Tryz.func179, Tryz.ntmps179
  go_wp2_with fail
  try rw [HBB.out, HWA.out]
  rw [m0]
  go_simp
  refine HC.mono ?_
  rintro e w2 ⟨y, hy, rfl, hb⟩
  have HB2 := Lib.hid (HBA.out.trans (hb.mono HBA.out.size))
  have HY := Lib.hid hy
  have hys : y.size ≤ 1000000 := by rw [size_txt, hy]; exact hk
  clear hb HC hy
  go_wp2
  go_ret
  exact fm_of (by rw [cat_txt, HY.out, fmtT, fmtL, fmtL, List.append_nil]; rfl) HB2.out
set_option maxRecDepth 20000 in
set_option maxHeartbeats 4000000 in
theorem text_and (f : Int) (t : ByteArray) (S : List (Int × Int)) {k l : KT} {q r : Value} (w : World) (h : ∀ w1, Below w.heap.size w w1 → TXT w1 k q) (h2 : ∀ w1, Below w.heap.size w w1 → TXT w1 l r) (hk : (fmtT k).length ≤ 1000000) (hk2 : (fmtT l).length ≤ 1000000) : Calls Tryz.prog 180 #[.agg #[q, r]] w (Fm w (.mk 6 f t S [k, l])) := by
  obtain ⟨U, b, -, rfl, -, -, -⟩ := h2 w (Below.refl _ _)
  obtain ⟨B, hB⟩ : ∃ B, w.heap.size = B := ⟨_, rfl⟩
  have HBB := Lib.hid hB
  obtain ⟨wa, hwa⟩ : ∃ wa, w.alloc (.cells #[q, .iface U (.agg b)] 138) = wa := ⟨_, rfl⟩
  have HWA := Lib.hid hwa
  have HBA : Hid (Below w.heap.size w wa) := Lib.hid (by rw [← hwa]; exact below_new _ _)
  have HKA : Hid (Whole wa B 138 #[q, .iface U (.agg b)]) := Lib.hid (by rw [← hwa, ← hB]; exact Whole.made w _ _)
  obtain ⟨wd, hwd⟩ : ∃ wd, wa.drew = wd := ⟨_, rfl⟩
  have HWD := Lib.hid hwd
  have HBD : Hid (Below w.heap.size w wd) := Lib.hid (by rw [← hwd]; exact HBA.out.trans ((below_drew1 wa).mono HBA.out.size))
  obtain ⟨T, a, fn, rfl, m, cm, HC⟩ := h wd HBD.out
  have HKD : Hid (Whole wd B 138 #[.iface T (.agg a), .iface U (.agg b)]) := Lib.hid (by rw [← hwd]; exact HKA.out.below (below_drew1 wa) HKA.out.lt)
  have CS : Hid (∀ wx, Below wd.heap.size wd wx → wx.cell? ⟨B, 0, none⟩ = some (.iface T (.agg a)) ∧ wx.cell? ⟨B, 1, none⟩ = some (.iface U (.agg b))) := Lib.hid (fun wx hbx => by
    have g := HKD.out.below hbx HKD.out.lt
    have g0 := g.cell 0
    have g1 := g.cell 1
    simp only [List.getElem?_toArray, List.getElem?_cons_zero, List.getElem?_cons_succ] at g0 g1
    exact ⟨g0, g1⟩)
  have hcd := CS.out wd (Below.refl _ _)
  have HH := Lib.hid h2
  have z0 := HKA.out.cell 0
  have z1 := HKA.out.cell 1
  simp only [List.getElem?_toArray, List.getElem?_cons_zero, List.getElem?_cons_succ] at z0 z1
  have m0 := m wd
  have m0c := cm wd
  clear hB hwa h h2 m cm hwd
  go_enter Tryz.func180, Tryz.ntmps180
  go_upto_region 1 with fail
  try rw [HBB.out, HWA.out]
  refine wp_region_late (fun w' => w'.cell? ⟨B, 0, none⟩ = some (.iface T (.agg a)) ∧ w'.cell? ⟨B, 1, none⟩ = some (.iface U (.agg b))) 9 (by kernel_rfl) ?_
  try rw [HWD.out]
  refine wpLate_take (i := 0) (v := ?v0) rfl (by kernel_rfl) (by kernel_rfl) (by kernel_rfl) (by kernel_rfl) (by kernel_rfl) (fun _ _ _ h => h) hcd (by rfl) ?hy0 ?r0
  case hy0 =>
    rintro wz ⟨z0, z1⟩
    go_simp
    try rw [if_neg (by omega)]
    try with_reducible rfl
  try simp only [Act.put]
  refine wpLate_take (i := 1) (v := ?v1) rfl (by kernel_rfl) (by kernel_rfl) (by kernel_rfl) (by kernel_rfl) (by kernel_rfl) (fun _ _ _ h => h) hcd (by rfl) ?hy1 ?r1
  case hy1 =>
    rintro wz ⟨z0, z1⟩
    go_simp
    try rw [if_neg (by omega)]
    try with_reducible rfl
  try simp only [Act.put]
  refine wpLate_take (i := 5) (v := ?v5) rfl (by kernel_rfl) (by kernel_rfl) (by kernel_rfl) (by kernel_rfl) (by kernel_rfl) (fun _ _ _ h => h) hcd (by rfl) ?hy5 ?r5
  case hy5 =>
    rintro wz ⟨z0, z1⟩
    go_simp
    try rw [if_neg (by omega)]
    try with_reducible rfl
  try simp only [Act.put]
  refine wpLate_take (i := 6) (v := ?v6) rfl (by kernel_rfl) (by kernel_rfl) (by kernel_rfl) (by kernel_rfl) (by kernel_rfl) (fun _ _ _ h => h) hcd (by rfl) ?hy6 ?r6
  case hy6 =>
    rintro wz ⟨z0, z1⟩
    go_simp
    try rw [if_neg (by omega)]
    try with_reducible rfl
  try simp only [Act.put]
  refine wpLate_one (i := 2) (by kernel_rfl) rfl (fun K hK => ?_)
  go_simp
  refine HC.mono ?_
  rintro e w2 ⟨y, hy, rfl, hb⟩
  have HB2 := Lib.hid (HBD.out.trans (hb.mono HBD.out.size))
  have HY := Lib.hid hy
  have hys : y.size ≤ 1000000 := by rw [size_txt, hy]; exact hk
  have hyt : ((⟨#[97, 110, 100, 32]⟩ : ByteArray) ++ y).size ≤ 1000004 := by rw [size_txt, cat_txt, List.length_append, ← size_txt y]; show 4 + _ ≤ _; omega
  obtain ⟨ya, hya⟩ : ∃ z, (⟨#[97, 110, 100, 32]⟩ : ByteArray) ++ y = z := ⟨_, rfl⟩
  rw [hya] at hyt
  have HYA := Lib.hid hya
  have hyu : (ya ++ (⟨#[32]⟩ : ByteArray)).size ≤ 1000005 := by rw [size_txt, cat_txt, List.length_append, ← size_txt ya]; show _ + 1 ≤ _; omega
  obtain ⟨yb, hyb⟩ : ∃ z, ya ++ (⟨#[32]⟩ : ByteArray) = z := ⟨_, rfl⟩
  rw [hyb] at hyu
  have HYB := Lib.hid hyb
  obtain ⟨U', b', gn, hU, m', cm', HC2⟩ := HH.out w2 HB2.out
  cases hU
  have m1 := m' w2
  have m1c := cm' w2
  have HD2 : Hid (Below wd.heap.size wd w2) := Lib.hid (hb.mono (Nat.le_refl _))
  have hcd2 := CS.out w2 HD2.out
  clear hy HC hya hyb m' cm'
  refine hK.out _ _ (fun _ => hcd2) ?_
  clear hK K hb
  try simp only [Act.put]
  refine wpLate_take (i := 3) (v := ?v3b) rfl (by kernel_rfl) (by kernel_rfl) (by kernel_rfl) (by kernel_rfl) (by kernel_rfl) (fun _ _ _ h => h) hcd2 (by rfl) ?hy3b ?r3b
  case hy3b =>
    rintro wz ⟨z0, z1⟩
    go_simp
    try rw [if_neg (by omega)]
    try with_reducible rfl
  try simp only [Act.put]
  try rw [HYA.out]
  refine wpLate_take (i := 4) (v := ?v4b) rfl (by kernel_rfl) (by kernel_rfl) (by kernel_rfl) (by kernel_rfl) (by kernel_rfl) (fun _ _ _ h => h) hcd2 (by rfl) ?hy4b ?r4b
  case hy4b =>
    rintro wz ⟨z0, z1⟩
    go_simp
    try rw [if_neg (by omega)]
    try with_reducible rfl
  try simp only [Act.put]
  try rw [HYB.out]
  refine wpLate_one (i := 7) (by kernel_rfl) rfl (fun K hK => ?_)
  go_simp
  refine HC2.mono ?_
  rintro e w3 ⟨u, hu, rfl, hb⟩
  have HB3 := Lib.hid (HB2.out.trans (hb.mono HB2.out.size))
  have HU := Lib.hid hu
  have hus : u.size ≤ 1000000 := by rw [size_txt, hu]; exact hk2
  have hcd3 := CS.out w3 (HD2.out.trans (hb.mono HD2.out.size))
  clear hu HC2
  refine hK.out _ _ (fun _ => hcd3) ?_
  clear hK K hb
  try simp only [Act.put]
  refine wpLate_take (i := 8) (v := ?v8c) rfl (by kernel_rfl) (by kernel_rfl) (by kernel_rfl) (by kernel_rfl) (by kernel_rfl) (fun _ _ _ h => h) hcd3 (by rfl) ?hy8c ?r8c
  case hy8c =>
    rintro wz ⟨z0, z1⟩
    go_simp
    try rw [if_neg (by omega)]
    try with_reducible rfl
  try simp only [Act.put]
  refine wpLate_one (i := 9) (by kernel_rfl) rfl (fun K hK => ?_)
  go_simp
  refine hK.out _ _ (fun h => absurd rfl h) ?_
  clear hK K
  try simp only [Act.put]
  refine wpLate_done (by kernel_rfl) ?_ _
  go_wp2
  go_ret
  exact fm_of (by rw [cat_txt, ← HYB.out, cat_txt, ← HYA.out, cat_txt, HY.out, HU.out, fmtT, fmtL, fmtL, fmtL, List.append_nil]; simp [headW]) HB3.out
set_option maxRecDepth 20000 in
set_option maxHeartbeats 4000000 in
theorem text_or (f : Int) (t : ByteArray) (S : List (Int × Int)) {k l : KT} {q r : Value} (w : World) (h : ∀ w1, Below w.heap.size w w1 → TXT w1 k q) (h2 : ∀ w1, Below w.heap.size w w1 → TXT w1 l r) (hk : (fmtT k).length ≤ 1000000) (hk2 : (fmtT l).length ≤ 1000000) : Calls Tryz.prog 181 #[.agg #[q, r]] w (Fm w (.mk 7 f t S [k, l])) := by
  obtain ⟨U, b, -, rfl, -, -, -⟩ := h2 w (Below.refl _ _)
  obtain ⟨B, hB⟩ : ∃ B, w.heap.size = B := ⟨_, rfl⟩
  have HBB := Lib.hid hB
  obtain ⟨wa, hwa⟩ : ∃ wa, w.alloc (.cells #[q, .iface U (.agg b)] 139) = wa := ⟨_, rfl⟩
  have HWA := Lib.hid hwa
  have HBA : Hid (Below w.heap.size w wa) := Lib.hid (by rw [← hwa]; exact below_new _ _)
  have HKA : Hid (Whole wa B 139 #[q, .iface U (.agg b)]) := Lib.hid (by rw [← hwa, ← hB]; exact Whole.made w _ _)
  obtain ⟨wd, hwd⟩ : ∃ wd, wa.drew = wd := ⟨_, rfl⟩
  have HWD := Lib.hid hwd
  have HBD : Hid (Below w.heap.size w wd) := Lib.hid (by rw [← hwd]; exact HBA.out.trans ((below_drew1 wa).mono HBA.out.size))
  obtain ⟨T, a, fn, rfl, m, cm, HC⟩ := h wd HBD.out
  have HKD : Hid (Whole wd B 139 #[.iface T (.agg a), .iface U (.agg b)]) := Lib.hid (by rw [← hwd]; exact HKA.out.below (below_drew1 wa) HKA.out.lt)
  have CS : Hid (∀ wx, Below wd.heap.size wd wx → wx.cell? ⟨B, 0, none⟩ = some (.iface T (.agg a)) ∧ wx.cell? ⟨B, 1, none⟩ = some (.iface U (.agg b))) := Lib.hid (fun wx hbx => by
    have g := HKD.out.below hbx HKD.out.lt
    have g0 := g.cell 0
    have g1 := g.cell 1
    simp only [List.getElem?_toArray, List.getElem?_cons_zero, List.getElem?_cons_succ] at g0 g1
    exact ⟨g0, g1⟩)
  have hcd := CS.out wd (Below.refl _ _)
  have HH := Lib.hid h2
  have z0 := HKA.out.cell 0
  have z1 := HKA.out.cell 1
  simp only [List.getElem?_toArray, List.getElem?_cons_zero, List.getElem?_cons_succ] at z0 z1
  have m0 := m wd
  have m0c := cm wd
  clear hB hwa h h2 m cm hwd
  go_enter Tryz.func181, Tryz.ntmps181
  go_upto_region 1 with fail
  try rw [HBB.out, HWA.out]
  refine wp_region_late (fun w' => w'.cell? ⟨B, 0, none⟩ = some (.iface T (.agg a)) ∧ w'.cell? ⟨B, 1, none⟩ = some (.iface U (.agg b))) 9 (by kernel_rfl) ?_
  try rw [HWD.out]
  refine wpLate_take (i := 0) (v := ?v0) rfl (by kernel_rfl) (by kernel_rfl) (by kernel_rfl) (by kernel_rfl) (by kernel_rfl) (fun _ _ _ h => h) hcd (by rfl) ?hy0 ?r0
  case hy0 =>
    rintro wz ⟨z0, z1⟩
    go_simp
    try rw [if_neg (by omega)]
    try with_reducible rfl
  try simp only [Act.put]
  refine wpLate_take (i := 1) (v := ?v1) rfl (by kernel_rfl) (by kernel_rfl) (by kernel_rfl) (by kernel_rfl) (by kernel_rfl) (fun _ _ _ h => h) hcd (by rfl) ?hy1 ?r1
  case hy1 =>
    rintro wz ⟨z0, z1⟩
    go_simp
    try rw [if_neg (by omega)]
    try with_reducible rfl
  try simp only [Act.put]
  refine wpLate_take (i := 5) (v := ?v5) rfl (by kernel_rfl) (by kernel_rfl) (by kernel_rfl) (by kernel_rfl) (by kernel_rfl) (fun _ _ _ h => h) hcd (by rfl) ?hy5 ?r5
  case hy5 =>
    rintro wz ⟨z0, z1⟩
    go_simp
    try rw [if_neg (by omega)]
    try with_reducible rfl
  try simp only [Act.put]
  refine wpLate_take (i := 6) (v := ?v6) rfl (by kernel_rfl) (by kernel_rfl) (by kernel_rfl) (by kernel_rfl) (by kernel_rfl) (fun _ _ _ h => h) hcd (by rfl) ?hy6 ?r6
  case hy6 =>
    rintro wz ⟨z0, z1⟩
    go_simp
    try rw [if_neg (by omega)]
    try with_reducible rfl
  try simp only [Act.put]
  refine wpLate_one (i := 2) (by kernel_rfl) rfl (fun K hK => ?_)
  go_simp
  refine HC.mono ?_
  rintro e w2 ⟨y, hy, rfl, hb⟩
  have HB2 := Lib.hid (HBD.out.trans (hb.mono HBD.out.size))
  have HY := Lib.hid hy
  have hys : y.size ≤ 1000000 := by rw [size_txt, hy]; exact hk
  have hyt : ((⟨#[111, 114, 32]⟩ : ByteArray) ++ y).size ≤ 1000004 := by rw [size_txt, cat_txt, List.length_append, ← size_txt y]; show 3 + _ ≤ _; omega
  obtain ⟨ya, hya⟩ : ∃ z, (⟨#[111, 114, 32]⟩ : ByteArray) ++ y = z := ⟨_, rfl⟩
  rw [hya] at hyt
  have HYA := Lib.hid hya
  have hyu : (ya ++ (⟨#[32]⟩ : ByteArray)).size ≤ 1000005 := by rw [size_txt, cat_txt, List.length_append, ← size_txt ya]; show _ + 1 ≤ _; omega
  obtain ⟨yb, hyb⟩ : ∃ z, ya ++ (⟨#[32]⟩ : ByteArray) = z := ⟨_, rfl⟩
  rw [hyb] at hyu
  have HYB := Lib.hid hyb
  obtain ⟨U', b', gn, hU, m', cm', HC2⟩ := HH.out w2 HB2.out
  cases hU
  have m1 := m' w2
  have m1c := cm' w2
  have HD2 : Hid (Below wd.heap.size wd w2) := Lib.hid (hb.mono (Nat.le_refl _))
  have hcd2 := CS.out w2 HD2.out
  clear hy HC hya hyb m' cm'
  refine hK.out _ _ (fun _ => hcd2) ?_
  clear hK K hb
  try simp only [Act.put]
  refine wpLate_take (i := 3) (v := ?v3b) rfl (by kernel_rfl) (by kernel_rfl) (by kernel_rfl) (by kernel_rfl) (by kernel_rfl) (fun _ _ _ h => h) hcd2 (by rfl) ?hy3b ?r3b
  case hy3b =>
    rintro wz ⟨z0, z1⟩
    go_simp
    try rw [if_neg (by omega)]
    try with_reducible rfl
  try simp only [Act.put]
  try rw [HYA.out]
  refine wpLate_take (i := 4) (v := ?v4b) rfl (by kernel_rfl) (by kernel_rfl) (by kernel_rfl) (by kernel_rfl) (by kernel_rfl) (fun _ _ _ h => h) hcd2 (by rfl) ?hy4b ?r4b
  case hy4b =>
    rintro wz ⟨z0, z1⟩
    go_simp
    try rw [if_neg (by omega)]
    try with_reducible rfl
  try simp only [Act.put]
  try rw [HYB.out]
  refine wpLate_one (i := 7) (by kernel_rfl) rfl (fun K hK => ?_)
  go_simp
  refine HC2.mono ?_
  rintro e w3 ⟨u, hu, rfl, hb⟩
  have HB3 := Lib.hid (HB2.out.trans (hb.mono HB2.out.size))
  have HU := Lib.hid hu
  have hus : u.size ≤ 1000000 := by rw [size_txt, hu]; exact hk2
  have hcd3 := CS.out w3 (HD2.out.trans (hb.mono HD2.out.size))
  clear hu HC2
  refine hK.out _ _ (fun _ => hcd3) ?_
  clear hK K hb
  try simp only [Act.put]
  refine wpLate_take (i := 8) (v := ?v8c) rfl (by kernel_rfl) (by kernel_rfl) (by kernel_rfl) (by kernel_rfl) (by kernel_rfl) (fun _ _ _ h => h) hcd3 (by rfl) ?hy8c ?r8c
  case hy8c =>
    rintro wz ⟨z0, z1⟩
    go_simp
    try rw [if_neg (by omega)]
    try with_reducible rfl
  try simp only [Act.put]
  refine wpLate_one (i := 9) (by kernel_rfl) rfl (fun K hK => ?_)
  go_simp
  refine hK.out _ _ (fun h => absurd rfl h) ?_
  clear hK K
  try simp only [Act.put]
  refine wpLate_done (by kernel_rfl) ?_ _
  go_wp2
  go_ret
  exact fm_of (by rw [cat_txt, ← HYB.out, cat_txt, ← HYA.out, cat_txt, HY.out, HU.out, fmtT, fmtL, fmtL, fmtL, List.append_nil]; simp [headW]) HB3.out
end Go.Proofs.YtnfigpknejmkmaaGreatDoor
namespace Go.Proofs.YtnfigpknejmkmaaGreatDoor
open Go.RowKit
set_option linter.unusedVariables false

theorem node_len {kd f : Int} {t : ByteArray} {S : List (Int × Int)} {n : Nat} (h : nodeB kd f t S n = true) : (kd = 0 ∨ kd = 1 ∨ kd = 2 ∨ kd = 3 ∨ kd = 4 → n = 0) ∧ (kd = 3 ∨ kd = 4 → setB S = true) ∧ (kd = 5 → n = 1) ∧ (kd = 6 ∨ kd = 7 → n = 2) := by
  unfold nodeB at h
  split at h
  · simp only [Bool.and_eq_true, beq_iff_eq] at h; omega
  · split at h
    · simp only [Bool.and_eq_true, beq_iff_eq] at h; omega
    · split at h
      · simp only [Bool.and_eq_true, beq_iff_eq] at h; omega
      · split at h
        · simp only [Bool.and_eq_true, beq_iff_eq] at h
          exact ⟨fun _ => h.2, fun _ => h.1.2, by omega, by omega⟩
        · split at h
          · simp only [Bool.and_eq_true, beq_iff_eq] at h; omega
          · split at h
            · simp only [Bool.and_eq_true, beq_iff_eq] at h; omega
            · cases h
theorem qvs_one {w : World} {ks : List KT} {q : Value} (h : QVs w ks [q]) : ∃ k, ks = [k] ∧ QV w k q := by
  match ks, h with
  | [], h => rw [QVs] at h; cases h
  | k :: r, h =>
    rw [QVs] at h
    obtain ⟨q', s, he, h1, h2⟩ := h
    cases he
    match r, h2 with
    | [], _ => exact ⟨k, rfl, h1⟩
    | _ :: _, h2 => rw [QVs] at h2; obtain ⟨_, _, he, _⟩ := h2; cases he
theorem qvs_two {w : World} {ks : List KT} {q r : Value} (h : QVs w ks [q, r]) : ∃ k l, ks = [k, l] ∧ QV w k q ∧ QV w l r := by
  match ks, h with
  | [], h => rw [QVs] at h; cases h
  | k :: ks', h =>
    rw [QVs] at h
    obtain ⟨q', s, he, h1, h2⟩ := h
    cases he
    obtain ⟨l, rfl, h3⟩ := qvs_one h2
    exact ⟨k, l, rfl, h1, h3⟩
theorem fmt_le {k : KT} {n : Nat} (h : allT k = true) (hn : nodesT k ≤ n) (hm : n ≤ 20000) : (fmtT k).length ≤ 1000000 := by
  have := fmtT_len k h
  omega
theorem text_of : ∀ (n : Nat) (k : KT) (q : Value) (w : World), nodesT k ≤ n → n ≤ 20000 → allT k = true → Lst w → QV w k q → TXT w k q
  | 0, k, q, w, hn, _, _, _, _ => by have := nodesT_pos k; omega
  | n + 1, .mk kd f t S ks, q, w, hn, hm, ha, hL, h => by
    rw [allT, Bool.and_eq_true] at ha
    obtain ⟨hal, hnd⟩ := ha
    rw [nodesT] at hn
    have hl := node_len hnd
    rw [QV] at h
    rcases h with ⟨rfl, rfl⟩ | ⟨rfl, rfl⟩ | ⟨rfl, rfl⟩ | ⟨rfl, AS, cS, rfl, h2⟩ | ⟨rfl, AS, cS, rfl, h2⟩ | ⟨rfl, q1, rfl, h2⟩ | ⟨rfl, q1, q2, rfl, h2⟩ | ⟨rfl, q1, q2, rfl, h2⟩
    · obtain rfl : ks = [] := List.length_eq_zero_iff.1 (hl.1 (by decide))
      exact ⟨_, _, _, rfl, mt_all, ct_all, text_all f t S w⟩
    · obtain rfl : ks = [] := List.length_eq_zero_iff.1 (hl.1 (by decide))
      exact ⟨_, _, _, rfl, mt_flag f, ct_flag f, text_flag t S w hL⟩
    · obtain rfl : ks = [] := List.length_eq_zero_iff.1 (hl.1 (by decide))
      have h4 := node2 hnd
      unfold nameB at h4
      simp only [Bool.and_eq_true, decide_eq_true_eq] at h4
      exact ⟨_, _, _, rfl, mt_text t, ct_text t, text_text f S w (by rw [size_txt]; exact h4.2)⟩
    · obtain rfl : ks = [] := List.length_eq_zero_iff.1 (hl.1 (by decide))
      have h5 := (setB_iff.1 (hl.2.1 (by decide))).2.2
      exact ⟨_, _, _, rfl, mt_place AS S.length cS, ct_place AS S.length cS, text_place f t AS cS w h2 (by omega)⟩
    · obtain rfl : ks = [] := List.length_eq_zero_iff.1 (hl.1 (by decide))
      have h5 := (setB_iff.1 (hl.2.1 (by decide))).2.2
      exact ⟨_, _, _, rfl, mt_uid AS S.length cS, ct_uid AS S.length cS, text_uid f t AS cS w h2 (by omega)⟩
    · obtain ⟨k, rfl, h3⟩ := qvs_one h2
      rw [nodesL, nodesL] at hn
      rw [allL, Bool.and_eq_true] at hal
      exact ⟨_, _, _, rfl, mt_not q1, ct_not q1, text_not f t S w (fun w1 hb => text_of n k q1 w1 (by omega) (by omega) hal.1 (hL.below hb (Nat.le_refl _)) (QV.below hb (Nat.le_refl _) _ _ h3)) (fmt_le hal.1 (n := n) (by omega) (by omega))⟩
    · obtain ⟨k, l, rfl, h3, h4⟩ := qvs_two h2
      rw [nodesL, nodesL, nodesL] at hn
      rw [allL, allL, Bool.and_eq_true, Bool.and_eq_true] at hal
      exact ⟨_, _, _, rfl, mt_and q1 q2, ct_and q1 q2, text_and f t S w (fun w1 hb => text_of n k q1 w1 (by omega) (by omega) hal.1 (hL.below hb (Nat.le_refl _)) (QV.below hb (Nat.le_refl _) _ _ h3)) (fun w1 hb => text_of n l q2 w1 (by omega) (by omega) hal.2.1 (hL.below hb (Nat.le_refl _)) (QV.below hb (Nat.le_refl _) _ _ h4)) (fmt_le hal.1 (n := n) (by omega) (by omega)) (fmt_le hal.2.1 (n := n) (by omega) (by omega))⟩
    · obtain ⟨k, l, rfl, h3, h4⟩ := qvs_two h2
      rw [nodesL, nodesL, nodesL] at hn
      rw [allL, allL, Bool.and_eq_true, Bool.and_eq_true] at hal
      exact ⟨_, _, _, rfl, mt_or q1 q2, ct_or q1 q2, text_or f t S w (fun w1 hb => text_of n k q1 w1 (by omega) (by omega) hal.1 (hL.below hb (Nat.le_refl _)) (QV.below hb (Nat.le_refl _) _ _ h3)) (fun w1 hb => text_of n l q2 w1 (by omega) (by omega) hal.2.1 (hL.below hb (Nat.le_refl _)) (QV.below hb (Nat.le_refl _) _ _ h4)) (fmt_le hal.1 (n := n) (by omega) (by omega)) (fmt_le hal.2.1 (n := n) (by omega) (by omega))⟩
def fmtY (k : KT) : ByteArray := if keyB k = true then wB (fmtT k) else ⟨#[]⟩
theorem txt_is {v : ByteArray} {l : List UInt8} (h : v.data.toList = l) : v = wB l := by
  subst h
  rfl
set_option maxRecDepth 20000 in
set_option maxHeartbeats 4000000 in
theorem impl_keyformat {k : KT} {v : Value} {Y : ByteArray} (hY : fmtY k = Y) (w : World) (hSh : Shp w) (hLs : Lst w) (h : KV w k v) : Calls Tryz.prog 11 #[v] w fun e w' => e = .returned (.string Y) ∧ Below w.heap.size w w' := by
  obtain ⟨kd, f, t, S, ks⟩ := k
  obtain ⟨AS, nS, cS, AK, nK, cK, rfl, -⟩ := h.open
  have HY := Lib.hid hY
  have HLS := Lib.hid hLs
  obtain ⟨B, hB⟩ : ∃ B, w.heap.size = B := ⟨_, rfl⟩
  have HBB := Lib.hid hB
  obtain ⟨wa, hwa⟩ : ∃ wa, w.alloc (.cells #[.int .i64 kd, .int .i64 f, .string t, .slice AS nS cS, .slice AK nK cK] 27) = wa := ⟨_, rfl⟩
  have HWA := Lib.hid hwa
  have HBa : Hid (Below w.heap.size w wa) := Lib.hid (by rw [← hwa]; exact (Below.refl _ _).alloc (Nat.le_refl _) _)
  have HKa : Hid (Whole wa B 27 #[.int .i64 kd, .int .i64 f, .string t, .slice AS nS cS, .slice AK nK cK]) := Lib.hid (by rw [← hwa, ← hB]; exact Whole.made w _ _)
  have HC := Lib.hid (impl_keyquery wa (hSh.below HBa.out (Nat.le_refl _)) (hLs.below HBa.out (Nat.le_refl _)) (KV.below HBa.out (Nat.le_refl _) _ _ h))
  have z0 := HKa.out.cell 0
  have z1 := HKa.out.cell 1
  have z2 := HKa.out.cell 2
  have z3 := HKa.out.cell 3
  have z4 := HKa.out.cell 4
  simp only [List.getElem?_toArray, List.getElem?_cons_zero, List.getElem?_cons_succ] at z0 z1 z2 z3 z4
  clear h hwa hSh hLs hB hY
  go_enter Tryz.func11, Tryz.ntmps11
  go_wp2_with fail
  rw [HBB.out, HWA.out]
  refine HC.out.mono ?_
  rintro e w2 ⟨q, o, rfl, ho, hq, hb2⟩
  have HB2 := Lib.hid (HBa.out.trans (hb2.mono HBa.out.size))
  have HO := Lib.hid ho
  cases o with
  | false =>
    clear hb2 ho hq
    go_wp2
    go_ret
    exact ⟨congrArg (fun z : ByteArray => Ending.returned (.string z)) (show (⟨#[]⟩ : ByteArray) = Y by rw [← HY.out, fmtY, if_neg (by rw [HO.out]; decide)]), HB2.out⟩
  | true =>
    have ho2 := ho
    unfold keyB at ho2
    rw [Bool.and_eq_true, decide_eq_true_eq] at ho2
    obtain ⟨T, a, fn, rfl, m, cm, HC2⟩ := text_of 9 _ q w2 ho2.2 (by omega) ho2.1 (HLS.out.below HB2.out (Nat.le_refl _)) (QV.below hb2 (Nat.le_refl _) _ _ (hq rfl))
    have m0 := m w2
    have m1 := cm w2
    clear hb2 ho hq ho2 m cm
    go_wp2_with fail
    try rw [m0]
    try go_simp
    refine HC2.mono ?_
    rintro e w3 ⟨y, hy, rfl, hb⟩
    have HB3 := Lib.hid (HB2.out.trans (hb.mono HB2.out.size))
    have HYY := Lib.hid (txt_is hy)
    clear hb hy HC2
    go_wp2
    go_ret
    exact ⟨congrArg (fun z : ByteArray => Ending.returned (.string z)) (show y = Y by rw [← HY.out, fmtY, if_pos HO.out, HYY.out]), HB3.out⟩
set_option maxRecDepth 20000 in
set_option maxHeartbeats 4000000 in
theorem spec_keyformat {k : KT} {v : Value} {Y : ByteArray} (hY : fmtY k = Y) (w : World) (hn : nodesT k ≤ 4000000) (h : KV w k v) : Calls Tryz.prog 27 #[v] w fun e w' => e = .returned (.string Y) ∧ Below w.heap.size w w' := by
  obtain ⟨o, ho⟩ : ∃ o, keyB k = o := ⟨_, rfl⟩
  obtain ⟨kd, f, t, S, ks⟩ := k
  have h0 := h
  obtain ⟨AS, nS, cS, AK, nK, cK, rfl, -⟩ := h.open
  have HY := Lib.hid hY
  obtain ⟨B, hB⟩ : ∃ B, w.heap.size = B := ⟨_, rfl⟩
  have HBB := Lib.hid hB
  obtain ⟨wa, hwa⟩ : ∃ wa, w.alloc (.cells #[.int .i64 kd, .int .i64 f, .string t, .slice AS nS cS, .slice AK nK cK] 27) = wa := ⟨_, rfl⟩
  have HWA := Lib.hid hwa
  have HBa : Hid (Below w.heap.size w wa) := Lib.hid (by rw [← hwa]; exact (Below.refl _ _).alloc (Nat.le_refl _) _)
  have HKa : Hid (Whole wa B 27 #[.int .i64 kd, .int .i64 f, .string t, .slice AS nS cS, .slice AK nK cK]) := Lib.hid (by rw [← hwa, ← hB]; exact Whole.made w _ _)
  have HV := Lib.hid (KV.below HBa.out (Nat.le_refl _) _ _ h)
  have HC := Lib.hid (spec_key HV.out hn ho)
  have HO := Lib.hid ho
  have z0 := HKa.out.cell 0
  have z1 := HKa.out.cell 1
  have z2 := HKa.out.cell 2
  have z3 := HKa.out.cell 3
  have z4 := HKa.out.cell 4
  simp only [List.getElem?_toArray, List.getElem?_cons_zero, List.getElem?_cons_succ] at z0 z1 z2 z3 z4
  clear h h0 hwa hB hY ho
  go_enter Tryz.func27, Tryz.ntmps27
  go_wp2_with fail
  rw [HBB.out, HWA.out]
  refine HC.out.mono ?_
  rintro e w2 ⟨rfl, hb2⟩
  have HB2 := Lib.hid (HBa.out.trans (hb2.mono HBa.out.size))
  have HV2 := Lib.hid (KV.below hb2 (Nat.le_refl _) _ _ HV.out)
  have HK2 := Lib.hid (HKa.out.below hb2 HKa.out.lt)
  clear hb2 z0 z1 z2 z3 z4
  cases o with
  | false =>
    go_wp2
    go_ret
    exact ⟨congrArg (fun z : ByteArray => Ending.returned (.string z)) (show (⟨#[]⟩ : ByteArray) = Y by rw [← HY.out, fmtY, if_neg (by rw [HO.out]; decide)]), HB2.out⟩
  | true =>
    have ho2 := HO.out
    unfold keyB at ho2
    rw [Bool.and_eq_true, decide_eq_true_eq] at ho2
    have HC2 := Lib.hid (spec_fmt 9 _ _ w2 ho2.2 (by omega) ho2.1 HV2.out)
    have z0 := HK2.out.cell 0
    have z1 := HK2.out.cell 1
    have z2 := HK2.out.cell 2
    have z3 := HK2.out.cell 3
    have z4 := HK2.out.cell 4
    simp only [List.getElem?_toArray, List.getElem?_cons_zero, List.getElem?_cons_succ] at z0 z1 z2 z3 z4
    clear ho2
    go_wp2_with fail
    refine HC2.out.mono ?_
    rintro e w3 ⟨y, hy, rfl, hb⟩
    have HB3 := Lib.hid (HB2.out.trans (hb.mono HB2.out.size))
    have HYY := Lib.hid (txt_is hy)
    clear hb hy
    go_wp2
    go_ret
    exact ⟨congrArg (fun z : ByteArray => Ending.returned (.string z)) (show y = Y by rw [← HY.out, fmtY, if_pos HO.out, HYY.out]), HB3.out⟩
end Go.Proofs.YtnfigpknejmkmaaGreatDoor
namespace Go.Proofs.YtnfigpknejmkmaaGreatDoor
open Go.RowKit
set_option linter.unusedVariables false

set_option maxRecDepth 20000 in
set_option maxHeartbeats 16000000 in
theorem key_step (d b p : Nat) (w : World) (hd : d ≤ 3) (hr : Rd w b p) (hp : p + cD d ≤ 500000) (ih : ∀ (e q : Nat) (w' : World), e + 1 = d → Rd w' b q → q + cD e ≤ 500000 → Calls Tryz.prog 28 #[.pointer (some ⟨b, 0, none⟩), .int .i64 (e : Int)] w' (DrewK w' b q e)) :
    Calls Tryz.prog 28 #[.pointer (some ⟨b, 0, none⟩), .int .i64 (d : Int)] w (DrewK w b p d) := by
    have HIH0 := Lib.hid ih
    clear ih
    have hcp := cD_pos d
    have hbl := hr.lt
    obtain ⟨S, hS⟩ : ∃ S, w.heap.size = S := ⟨_, rfl⟩
    have HSS := Lib.hid hS
    have hbS : b < S := by omega
    obtain ⟨w1, hw1⟩ : ∃ w1, w.alloc (.cells #[.int .i64 0, .int .i64 0, .string ⟨#[]⟩, .slice none 0 0, .slice none 0 0] 27) = w1 := ⟨_, rfl⟩
    have HW1 := Lib.hid hw1
    have HZ1 : Hid (Whole w1 S 27 #[.int .i64 0, .int .i64 0, .string ⟨#[]⟩, .slice none 0 0, .slice none 0 0]) := Lib.hid (by rw [← hw1, ← hS]; exact Whole.made w _ _)
    have HB1 : Hid (Below w.heap.size w w1) := Lib.hid (by rw [← hw1]; exact (Below.refl _ _).alloc (Nat.le_refl _) _)
    have HR1 := Lib.hid (hr.below HB1.out hbl)
    have HG1 := Lib.hid (gr_below HB1.out (some b))
    have hneS : some S ≠ some b := fun e => by cases e; omega
    clear hr hw1 hS hbl
    rcases Nat.eq_zero_or_pos d with hz | hpos
    · subst hz
      have hc0 : cD 0 = 60 := rfl
      go_enter Tryz.func28, Tryz.ntmps28
      go_wp2_with fail
      rw [HW1.out, HSS.out]
      refine (pick_any b p 9 _ HR1.out (by omega) (by omega) (by omega)).mono ?_
      rintro ee w3 ⟨x, hx, hee, hr, hg⟩
      have HR3 := Lib.hid hr
      have HG3 := Lib.hid (gr_trans HG1.out hg)
      have HZ3 := Lib.hid (HZ1.out.grown hg hneS)
      clear hr hg
      obtain ⟨y, hy⟩ : ∃ y : Int, (x : Int) = y := ⟨_, rfl⟩
      rw [hy] at hee
      subst hee
      have hyy : y = 0 ∨ (y = 1 ∨ y = 2) ∨ (y = 3 ∨ y = 4) ∨ (y = 5 ∨ y = 6) ∨ (y = 7 ∨ y = 8) := by omega
      clear hx hy
      rcases hyy with rfl | hy | hy | hy | hy
      · have r0 := HZ3.out.cell 0
        have r1 := HZ3.out.cell 1
        have r2 := HZ3.out.cell 2
        have r3 := HZ3.out.cell 3
        have r4 := HZ3.out.cell 4
        simp at r0 r1 r2 r3 r4
        have f0 := HZ3.out.free 0
        have f1 := HZ3.out.free 1
        have f2 := HZ3.out.free 2
        have f3 := HZ3.out.free 3
        have f4 := HZ3.out.free 4
        go_wp2
        refine bodyPost_ret (v := kval (0, 0, ⟨#[]⟩, (none, 0, 0), (none, 0, 0))) (by simp [results, Tryz.results28, go_sem, r0, r1, r2, r3, r4]) rfl ?_
        exact drewk_end HSS.out hbS (ka_leaf (by decide) rfl (by omega) (SpA.nil _ _)) (nodes_leaf _ _ _ _ _) (by omega) HR3.out HG3.out ⟨fun _ => rfl, fun q e => by cases e⟩
      · rcases hy with rfl | rfl
        all_goals (
          go_wp2_with fail
          refine (of_new b (p + 1) [[98, 111, 98], [120], [97, 109, 121], [111]] w3 HR3.out (by omega) (by decide) (by decide)).mono ?_
          rintro ee w4 ⟨l, hl, rfl, hr2, hg2⟩
          have HR4 := Lib.hid hr2
          have HG4 := Lib.hid (gr_trans HG3.out hg2)
          have HZ4 := Lib.hid (HZ3.out.grown hg2 hneS)
          have hlz : (⟨l.toArray⟩ : ByteArray).size ≤ 30 := text_le (by decide) hl
          clear hr2 hg2 hl
          unfold str
          obtain ⟨tx, htx⟩ : ∃ tx : ByteArray, ⟨l.toArray⟩ = tx := ⟨_, rfl⟩
          rw [htx] at hlz ⊢
          clear htx
          have r0 := HZ4.out.cell 0
          have r1 := HZ4.out.cell 1
          have r2 := HZ4.out.cell 2
          have r3 := HZ4.out.cell 3
          have r4 := HZ4.out.cell 4
          simp at r0 r1 r2 r3 r4
          have f0 := HZ4.out.free 0
          have f1 := HZ4.out.free 1
          have f2 := HZ4.out.free 2
          have f3 := HZ4.out.free 3
          have f4 := HZ4.out.free 4
          go_wp2
          refine bodyPost_ret (v := kval (2, 0, tx, (none, 0, 0), (none, 0, 0))) (by simp [results, Tryz.results28, go_sem, r0, r1, r2, r3, r4]) rfl ?_
          exact drewk_end HSS.out hbS (ka_leaf (by omega) rfl (by omega) (SpA.nil _ _)) (nodes_leaf _ _ _ _ _) (by omega) HR4.out HG4.out ⟨fun _ => rfl, fun q e => by cases e⟩)
      · rcases hy with rfl | rfl
        all_goals (
          go_wp2_with fail
          refine (set_draw b (p + 1) w3 HR3.out (by omega)).mono ?_
          rintro ee w4 ⟨v, L, q, hL, hq, rfl, hr2, hg2, ho⟩
          obtain ⟨A, n, c, rfl⟩ := own_slice ho
          have HR4 := Lib.hid hr2
          have HG4 := Lib.hid (gr_trans HG3.out hg2)
          have HZ4 := Lib.hid (HZ3.out.grown hg2 hneS)
          have HO4 := Lib.hid ho
          have hS3 : S + 1 ≤ w3.heap.size := HZ3.out.lt
          clear hr2 hg2 ho
          have r0 := HZ4.out.cell 0
          have r1 := HZ4.out.cell 1
          have r2 := HZ4.out.cell 2
          have r3 := HZ4.out.cell 3
          have r4 := HZ4.out.cell 4
          simp at r0 r1 r2 r3 r4
          have f0 := HZ4.out.free 0
          have f1 := HZ4.out.free 1
          have f2 := HZ4.out.free 2
          have f3 := HZ4.out.free 3
          have f4 := HZ4.out.free 4
          go_wp2
          refine bodyPost_ret (v := kval (3, 0, ⟨#[]⟩, (A, n, c), (none, 0, 0))) (by simp [results, Tryz.results28, go_sem, r0, r1, r2, r3, r4]) rfl ?_
          obtain ⟨hs1, hs2⟩ := spa_own1 HO4.out hS3
          exact drewk_end HSS.out hbS (ka_leaf (by decide) hs2 (by omega) hs1) (nodes_leaf _ _ _ _ _) (by omega) HR4.out HG4.out ⟨fun _ => rfl, fun q e => by cases e⟩)
      · rcases hy with rfl | rfl
        all_goals (
          go_wp2_with fail
          refine (set_draw b (p + 1) w3 HR3.out (by omega)).mono ?_
          rintro ee w4 ⟨v, L, q, hL, hq, rfl, hr2, hg2, ho⟩
          obtain ⟨A, n, c, rfl⟩ := own_slice ho
          have HR4 := Lib.hid hr2
          have HG4 := Lib.hid (gr_trans HG3.out hg2)
          have HZ4 := Lib.hid (HZ3.out.grown hg2 hneS)
          have HO4 := Lib.hid ho
          have hS3 : S + 1 ≤ w3.heap.size := HZ3.out.lt
          clear hr2 hg2 ho
          have r0 := HZ4.out.cell 0
          have r1 := HZ4.out.cell 1
          have r2 := HZ4.out.cell 2
          have r3 := HZ4.out.cell 3
          have r4 := HZ4.out.cell 4
          simp at r0 r1 r2 r3 r4
          have f0 := HZ4.out.free 0
          have f1 := HZ4.out.free 1
          have f2 := HZ4.out.free 2
          have f3 := HZ4.out.free 3
          have f4 := HZ4.out.free 4
          go_wp2
          refine bodyPost_ret (v := kval (4, 0, ⟨#[]⟩, (A, n, c), (none, 0, 0))) (by simp [results, Tryz.results28, go_sem, r0, r1, r2, r3, r4]) rfl ?_
          obtain ⟨hs1, hs2⟩ := spa_own1 HO4.out hS3
          exact drewk_end HSS.out hbS (ka_leaf (by decide) hs2 (by omega) hs1) (nodes_leaf _ _ _ _ _) (by omega) HR4.out HG4.out ⟨fun _ => rfl, fun q e => by cases e⟩)
      · rcases hy with rfl | rfl
        all_goals (
          go_wp2_with fail
          refine (pick_any b (p + 1) 5 _ HR3.out (by omega) (by omega) (by omega)).mono ?_
          rintro ee w4 ⟨z, hz5, rfl, hr2, hg2⟩
          have HR4 := Lib.hid hr2
          have HG4 := Lib.hid (gr_trans HG3.out hg2)
          have HZ4 := Lib.hid (HZ3.out.grown hg2 hneS)
          clear hr2 hg2
          go_wp2_with fail
          refine (kspec_bit z w4 hz5).mono ?_
          rintro ee w5 ⟨fl, rfl, hb5⟩
          have HR5 := Lib.hid (HR4.out.below hb5 HR4.out.lt)
          have HG5 := Lib.hid (gr_trans HG4.out (gr_below hb5 (some b)))
          have HZ5 := Lib.hid (HZ4.out.below hb5 HZ4.out.lt)
          clear hb5
          have r0 := HZ5.out.cell 0
          have r1 := HZ5.out.cell 1
          have r2 := HZ5.out.cell 2
          have r3 := HZ5.out.cell 3
          have r4 := HZ5.out.cell 4
          simp at r0 r1 r2 r3 r4
          have f0 := HZ5.out.free 0
          have f1 := HZ5.out.free 1
          have f2 := HZ5.out.free 2
          have f3 := HZ5.out.free 3
          have f4 := HZ5.out.free 4
          go_wp2
          refine bodyPost_ret (v := kval (1, fl, ⟨#[]⟩, (none, 0, 0), (none, 0, 0))) (by simp [results, Tryz.results28, go_sem, r0, r1, r2, r3, r4]) rfl ?_
          exact drewk_end HSS.out hbS (ka_leaf (by decide) rfl (by omega) (SpA.nil _ _)) (nodes_leaf _ _ _ _ _) (by omega) HR5.out HG5.out ⟨fun _ => rfl, fun q e => by cases e⟩)
    · obtain ⟨e, he⟩ : ∃ e, e + 1 = d := ⟨d - 1, by omega⟩
      have hcd : cD d = 2 * cD e + 60 := by rw [← he]; rfl
      have hmd : mD d = 2 * mD e + 1 := by rw [← he]; rfl
      have he3 : e ≤ 3 := by omega
      have hce := cD_pos e
      have hd0 : (0 : Int) < (d : Int) := by omega
      have WD : IntKind.i64.wrap ((d : Int) - 1) = (e : Int) := (IntWalk.i64_in _ (by omega)).trans (by omega)
      have IH := Lib.hid (fun (q : Nat) (w' : World) (h1 : Rd w' b q) (h2 : q + cD e ≤ 500000) => HIH0.out e q w' he h1 h2)
      go_enter Tryz.func28, Tryz.ntmps28
      go_wp2_with fail
      rw [HW1.out, HSS.out]
      refine (pick_any b p 2 _ HR1.out (by omega) (by omega) (by omega)).mono ?_
      rintro ee w2 ⟨x, hx, hee, hr, hg⟩
      have HR2 := Lib.hid hr
      have HG2 := Lib.hid (gr_trans HG1.out hg)
      have HZ2 := Lib.hid (HZ1.out.grown hg hneS)
      clear hr hg
      obtain ⟨y, hy⟩ : ∃ y : Int, (x : Int) = y := ⟨_, rfl⟩
      rw [hy] at hee
      subst hee
      have hyy : y = 0 ∨ y = 1 := by omega
      clear hx hy
      rcases hyy with rfl | rfl
      · skip
        go_wp2_with fail
        refine (pick_any b (p + 1) 3 _ HR2.out (by omega) (by omega) (by omega)).mono ?_
        rintro ee w3 ⟨x, hx, hee, hr, hg⟩
        have HR3 := Lib.hid hr
        have HG3 := Lib.hid (gr_trans HG2.out hg)
        have HZ3 := Lib.hid (HZ2.out.grown hg hneS)
        clear hr hg
        obtain ⟨y, hy⟩ : ∃ y : Int, (x : Int) = y := ⟨_, rfl⟩
        rw [hy] at hee
        subst hee
        have hyy : y = 0 ∨ y = 1 ∨ y = 2 := by omega
        clear hx hy
        obtain ⟨i0, hi, hq0, hq1, hq2⟩ := info_parts Tryz.infoKey
        obtain ⟨D, hD⟩ : ∃ D, w3.heap.size = D := ⟨_, rfl⟩
        have HDD := Lib.hid hD
        have hSD : S + 1 ≤ D := by have := HZ3.out.lt; omega
        have hSle : S ≤ w3.heap.size := by omega
        clear hD
        rcases hyy with rfl | rfl | rfl
        · obtain ⟨w4, hw4⟩ : ∃ w4, w3.alloc (.cells #[.int .i64 5, .int .i64 0, .string ⟨#[]⟩, .slice none 0 0, .slice none 0 0] 27) = w4 := ⟨_, rfl⟩
          have HW4 := Lib.hid hw4
          have HX4 : Hid (Whole w4 D 27 #[.int .i64 5, .int .i64 0, .string ⟨#[]⟩, .slice none 0 0, .slice none 0 0]) := Lib.hid (by rw [← hw4, ← HDD.out]; exact Whole.made w3 _ _)
          have HZ4 : Hid (Whole w4 S 27 #[.int .i64 0, .int .i64 0, .string ⟨#[]⟩, .slice none 0 0, .slice none 0 0]) := Lib.hid (by rw [← hw4]; exact HZ3.out.alloc _)
          have HG4 : Hid (w.grownBy w4 (some b)) := Lib.hid (by rw [← hw4]; exact gr_alloc HG3.out _)
          have HR4 : Hid (Rd w4 b (p + 1 + 1)) := Lib.hid (by rw [← hw4]; exact HR3.out.below (below_newK w3 _) HR3.out.lt)
          have hD4 : D + 1 ≤ w4.heap.size := HX4.out.lt
          clear hw4
          go_wp2
          rw [HW4.out, HDD.out]
          go_loopw [6] (fun iv wr => ∃ (i q : Nat) (A : Option Addr) (cap base h : Nat) (ks : List KT) (rs : List KR), i ≤ 1 ∧ iv = .int .i64 (i : Int) ∧ q ≤ p + 3 + i * cD e ∧ D + 1 ≤ base ∧ D + 1 ≤ h ∧ h ≤ wr.heap.size ∧ Hid (i = 0 → A = none ∧ cap = 0) ∧ Hid (i < 2 → ∀ g, Value.ownBlock (.slice A i cap) = some g → h ≤ g) ∧ Hid (Rd wr b q) ∧ Hid (w.grownBy wr (some b)) ∧ Hid (Whole wr S 27 #[.int .i64 0, .int .i64 0, .string ⟨#[]⟩, .slice none 0 0, .slice none 0 0]) ∧ Hid (Whole wr D 27 #[.int .i64 5, .int .i64 0, .string ⟨#[]⟩, .slice none 0 0, .slice A i cap]) ∧ Hid (ROwn keyR wr base (.slice A i cap) rs) ∧ Hid (KRs (KA (D + 1) h wr) ks rs) ∧ Hid (nodesL ks ≤ i * mD e)) (fun iv _ => 1 - (intOf iv).toNat)
          case atStart => exact ⟨0, p + 1 + 1, none, 0, D + 1, D + 1, [], [], Nat.zero_le _, by go_num, by omega, Nat.le_refl _, Nat.le_refl _, hD4, fun _ => ⟨rfl, rfl⟩, fun _ g hg => (by cases hg), HR4.out, HG4.out, HZ4.out, HX4.out, ROwn.nil _ _, rfl, by rw [nodesL]; exact Nat.zero_le _⟩
          case round =>
            obtain ⟨i, q, A, cap, base, h, ks, rs, hin, rfl, hq, hba, hDh, hhw, HA0, HOB, HR, HG, HZ, HX, HO, HK, HNL⟩ := hrel
            have x0 := HX.out.cell 0
            have x1 := HX.out.cell 1
            have x2 := HX.out.cell 2
            have x3 := HX.out.cell 3
            have x4 := HX.out.cell 4
            simp at x0 x1 x2 x3 x4
            by_cases hlt : i < 1
            · have h5 : (i : Int) < 1 := by omega
              have hqe : q + cD e ≤ 500000 := by
                have h1 : i * cD e ≤ 1 * cD e := Nat.mul_le_mul_right _ (by omega)
                omega
              have HLN : Hid (rs.length = i) := Lib.hid HO.out.len.1.symm
              have HIC := Lib.hid (IH.out q wr.drew (show Rd wr.drew b q from HR.out) hqe)
              have hml : i + 1 ≤ maxLen := by unfold maxLen; omega
              have hby : (i + 1) * 80 ≤ 140737488355328 := by omega
              go_wp2
              clear x0 x1 x2 x3
              go_region_law (first
                | (refine step_append_rows rfl (.tmp 28) (.tmp 33) 25 rfl keyR base2 i0 _ 80 Tryz.underlying25 hi hq0 hq1 hq2 rfl (by decide) _ rs [(a0, a1, a2, (a3, a4, a5), (a6, a7, a8))] i HLN.out rfl (HO6.out.alloc (.cells #[.int .i64 a0, .int .i64 a1, .string a2, .slice a3 a4 a5, .slice a6 a7 a8] 27)) (some ⟨w6.heap.size, 0, none⟩) 1 1 rfl rfl (RAt.made keyR w6 [(a0, a1, a2, (a3, a4, a5), (a6, a7, a8))] _ rfl) (fun e => by cases e) (fun q e => by cases e; rfl) hml hby (by simp; omega) ?_
                   intro v' w7 hown hgrow hnn
                   obtain ⟨A7, N7, cap7, rfl⟩ := hown.val
                   have hN7 : N7 = i + 1 := by
                     have := hown.len.1
                     rw [List.length_append, HLN.out] at this
                     exact this
                   subst hN7
                   have HOW := Lib.hid hown
                   have HGW := Lib.hid hgrow
                   have hx7 := (HX6.out.alloc (.cells #[.int .i64 a0, .int .i64 a1, .string a2, .slice a3 a4 a5, .slice a6 a7 a8] 27)).grown hgrow (fun e => by have := (World.ownsRow.lt HO6.out D e.symm).1; omega)
                   have HX7 := Lib.hid hx7
                   have x47 := hx7.cell 4
                   simp at x47
                   have f47 := hx7.free 4
                   clear hown hgrow hnn hx7)
                | (go_simp
                   go_at_call 28
                   refine HIC.out.mono ?_
                   rintro ee w6 ⟨k6, ⟨a0, a1, a2, ⟨a3, a4, a5⟩, ⟨a6, a7, a8⟩⟩, q6, rfl, hk6, -, hn6, hq6, hr6, hg6⟩
                   have HK6 := Lib.hid hk6
                   have HN6 := Lib.hid hn6
                   have HR6 := Lib.hid hr6
                   have HGR6 := Lib.hid hg6
                   have hx6 := HX.out.drew.grown hg6 (fun e => by cases e; omega)
                   have HX6 := Lib.hid hx6
                   have x46 := hx6.cell 4
                   simp at x46
                   have x46a := (hx6.alloc (.cells #[.int .i64 a0, .int .i64 a1, .string a2, .slice a3 a4 a5, .slice a6 a7 a8] 27)).cell 4
                   simp at x46a
                   have hle6 : wr.heap.size ≤ w6.heap.size := hg6.size
                   obtain ⟨base2, hO6, hb61, hb62, hb63⟩ := own_base (i := i) HO.out HA0.out hg6 (by omega) hba (by have := HX.out.lt; omega)
                   have HO6 := Lib.hid hO6
                   clear hk6 hn6 hr6 hg6 hx6 hO6))
              all_goals (
                go_wp2
                go_roundw
                case rel => exact loop_rel hSD hbS HSS.out hin hlt (by omega) hq hba hDh hhw HOB.out HR6.out HG.out HZ.out HX.out HO.out HK.out HNL.out HGR6.out HK6.out HN6.out hq6 HO6.out hb61 hb62 hb63 HGW.out HX7.out HOW.out HLN.out
                case measure => simp [intOf]; omega)
            · have h5 : ¬ (i : Int) < 1 := by omega
              obtain rfl : i = 1 := by omega
              have r0 := HZ.out.cell 0
              have r1 := HZ.out.cell 1
              have r2 := HZ.out.cell 2
              have r3 := HZ.out.cell 3
              have r4 := HZ.out.cell 4
              simp at r0 r1 r2 r3 r4
              have f0 := HZ.out.free 0
              have f1 := HZ.out.free 1
              have f2 := HZ.out.free 2
              have f3 := HZ.out.free 3
              have f4 := HZ.out.free 4
              go_wp2
              refine bodyPost_ret (v := kval (5, 0, ⟨#[]⟩, (none, 0, 0), (A, 1, cap))) (by simp [results, Tryz.results28, go_sem, r0, r1, r2, r3, r4]) rfl ?_
              exact drewk_end HSS.out hbS (ka_node HO.out (by omega) HK.out (by omega) hhw) (by rw [nodesT]; have := HNL.out; omega) (by omega) HR.out HG.out ⟨fun e => HO.out.nilcap e, fun q e => HO.out.spot q e⟩
        · obtain ⟨w4, hw4⟩ : ∃ w4, w3.alloc (.cells #[.int .i64 6, .int .i64 0, .string ⟨#[]⟩, .slice none 0 0, .slice none 0 0] 27) = w4 := ⟨_, rfl⟩
          have HW4 := Lib.hid hw4
          have HX4 : Hid (Whole w4 D 27 #[.int .i64 6, .int .i64 0, .string ⟨#[]⟩, .slice none 0 0, .slice none 0 0]) := Lib.hid (by rw [← hw4, ← HDD.out]; exact Whole.made w3 _ _)
          have HZ4 : Hid (Whole w4 S 27 #[.int .i64 0, .int .i64 0, .string ⟨#[]⟩, .slice none 0 0, .slice none 0 0]) := Lib.hid (by rw [← hw4]; exact HZ3.out.alloc _)
          have HG4 : Hid (w.grownBy w4 (some b)) := Lib.hid (by rw [← hw4]; exact gr_alloc HG3.out _)
          have HR4 : Hid (Rd w4 b (p + 1 + 1)) := Lib.hid (by rw [← hw4]; exact HR3.out.below (below_newK w3 _) HR3.out.lt)
          have hD4 : D + 1 ≤ w4.heap.size := HX4.out.lt
          clear hw4
          go_wp2
          rw [HW4.out, HDD.out]
          go_loopw [6] (fun iv wr => ∃ (i q : Nat) (A : Option Addr) (cap base h : Nat) (ks : List KT) (rs : List KR), i ≤ 2 ∧ iv = .int .i64 (i : Int) ∧ q ≤ p + 3 + i * cD e ∧ D + 1 ≤ base ∧ D + 1 ≤ h ∧ h ≤ wr.heap.size ∧ Hid (i = 0 → A = none ∧ cap = 0) ∧ Hid (i < 2 → ∀ g, Value.ownBlock (.slice A i cap) = some g → h ≤ g) ∧ Hid (Rd wr b q) ∧ Hid (w.grownBy wr (some b)) ∧ Hid (Whole wr S 27 #[.int .i64 0, .int .i64 0, .string ⟨#[]⟩, .slice none 0 0, .slice none 0 0]) ∧ Hid (Whole wr D 27 #[.int .i64 6, .int .i64 0, .string ⟨#[]⟩, .slice none 0 0, .slice A i cap]) ∧ Hid (ROwn keyR wr base (.slice A i cap) rs) ∧ Hid (KRs (KA (D + 1) h wr) ks rs) ∧ Hid (nodesL ks ≤ i * mD e)) (fun iv _ => 2 - (intOf iv).toNat)
          case atStart => exact ⟨0, p + 1 + 1, none, 0, D + 1, D + 1, [], [], Nat.zero_le _, by go_num, by omega, Nat.le_refl _, Nat.le_refl _, hD4, fun _ => ⟨rfl, rfl⟩, fun _ g hg => (by cases hg), HR4.out, HG4.out, HZ4.out, HX4.out, ROwn.nil _ _, rfl, by rw [nodesL]; exact Nat.zero_le _⟩
          case round =>
            obtain ⟨i, q, A, cap, base, h, ks, rs, hin, rfl, hq, hba, hDh, hhw, HA0, HOB, HR, HG, HZ, HX, HO, HK, HNL⟩ := hrel
            have x0 := HX.out.cell 0
            have x1 := HX.out.cell 1
            have x2 := HX.out.cell 2
            have x3 := HX.out.cell 3
            have x4 := HX.out.cell 4
            simp at x0 x1 x2 x3 x4
            by_cases hlt : i < 2
            · have h5 : (i : Int) < 2 := by omega
              have hqe : q + cD e ≤ 500000 := by
                have h1 : i * cD e ≤ 1 * cD e := Nat.mul_le_mul_right _ (by omega)
                omega
              have HLN : Hid (rs.length = i) := Lib.hid HO.out.len.1.symm
              have HIC := Lib.hid (IH.out q wr.drew (show Rd wr.drew b q from HR.out) hqe)
              have hml : i + 1 ≤ maxLen := by unfold maxLen; omega
              have hby : (i + 1) * 80 ≤ 140737488355328 := by omega
              go_wp2
              clear x0 x1 x2 x3
              go_region_law (first
                | (refine step_append_rows rfl (.tmp 28) (.tmp 33) 25 rfl keyR base2 i0 _ 80 Tryz.underlying25 hi hq0 hq1 hq2 rfl (by decide) _ rs [(a0, a1, a2, (a3, a4, a5), (a6, a7, a8))] i HLN.out rfl (HO6.out.alloc (.cells #[.int .i64 a0, .int .i64 a1, .string a2, .slice a3 a4 a5, .slice a6 a7 a8] 27)) (some ⟨w6.heap.size, 0, none⟩) 1 1 rfl rfl (RAt.made keyR w6 [(a0, a1, a2, (a3, a4, a5), (a6, a7, a8))] _ rfl) (fun e => by cases e) (fun q e => by cases e; rfl) hml hby (by simp; omega) ?_
                   intro v' w7 hown hgrow hnn
                   obtain ⟨A7, N7, cap7, rfl⟩ := hown.val
                   have hN7 : N7 = i + 1 := by
                     have := hown.len.1
                     rw [List.length_append, HLN.out] at this
                     exact this
                   subst hN7
                   have HOW := Lib.hid hown
                   have HGW := Lib.hid hgrow
                   have hx7 := (HX6.out.alloc (.cells #[.int .i64 a0, .int .i64 a1, .string a2, .slice a3 a4 a5, .slice a6 a7 a8] 27)).grown hgrow (fun e => by have := (World.ownsRow.lt HO6.out D e.symm).1; omega)
                   have HX7 := Lib.hid hx7
                   have x47 := hx7.cell 4
                   simp at x47
                   have f47 := hx7.free 4
                   clear hown hgrow hnn hx7)
                | (go_simp
                   go_at_call 28
                   refine HIC.out.mono ?_
                   rintro ee w6 ⟨k6, ⟨a0, a1, a2, ⟨a3, a4, a5⟩, ⟨a6, a7, a8⟩⟩, q6, rfl, hk6, -, hn6, hq6, hr6, hg6⟩
                   have HK6 := Lib.hid hk6
                   have HN6 := Lib.hid hn6
                   have HR6 := Lib.hid hr6
                   have HGR6 := Lib.hid hg6
                   have hx6 := HX.out.drew.grown hg6 (fun e => by cases e; omega)
                   have HX6 := Lib.hid hx6
                   have x46 := hx6.cell 4
                   simp at x46
                   have x46a := (hx6.alloc (.cells #[.int .i64 a0, .int .i64 a1, .string a2, .slice a3 a4 a5, .slice a6 a7 a8] 27)).cell 4
                   simp at x46a
                   have hle6 : wr.heap.size ≤ w6.heap.size := hg6.size
                   obtain ⟨base2, hO6, hb61, hb62, hb63⟩ := own_base (i := i) HO.out HA0.out hg6 (by omega) hba (by have := HX.out.lt; omega)
                   have HO6 := Lib.hid hO6
                   clear hk6 hn6 hr6 hg6 hx6 hO6))
              all_goals (
                go_wp2
                go_roundw
                case rel => exact loop_rel hSD hbS HSS.out hin hlt (by omega) hq hba hDh hhw HOB.out HR6.out HG.out HZ.out HX.out HO.out HK.out HNL.out HGR6.out HK6.out HN6.out hq6 HO6.out hb61 hb62 hb63 HGW.out HX7.out HOW.out HLN.out
                case measure => simp [intOf]; omega)
            · have h5 : ¬ (i : Int) < 2 := by omega
              obtain rfl : i = 2 := by omega
              have r0 := HZ.out.cell 0
              have r1 := HZ.out.cell 1
              have r2 := HZ.out.cell 2
              have r3 := HZ.out.cell 3
              have r4 := HZ.out.cell 4
              simp at r0 r1 r2 r3 r4
              have f0 := HZ.out.free 0
              have f1 := HZ.out.free 1
              have f2 := HZ.out.free 2
              have f3 := HZ.out.free 3
              have f4 := HZ.out.free 4
              go_wp2
              refine bodyPost_ret (v := kval (6, 0, ⟨#[]⟩, (none, 0, 0), (A, 2, cap))) (by simp [results, Tryz.results28, go_sem, r0, r1, r2, r3, r4]) rfl ?_
              exact drewk_end HSS.out hbS (ka_node HO.out (by omega) HK.out (by omega) hhw) (by rw [nodesT]; have := HNL.out; omega) (by omega) HR.out HG.out ⟨fun e => HO.out.nilcap e, fun q e => HO.out.spot q e⟩
        · obtain ⟨w4, hw4⟩ : ∃ w4, w3.alloc (.cells #[.int .i64 7, .int .i64 0, .string ⟨#[]⟩, .slice none 0 0, .slice none 0 0] 27) = w4 := ⟨_, rfl⟩
          have HW4 := Lib.hid hw4
          have HX4 : Hid (Whole w4 D 27 #[.int .i64 7, .int .i64 0, .string ⟨#[]⟩, .slice none 0 0, .slice none 0 0]) := Lib.hid (by rw [← hw4, ← HDD.out]; exact Whole.made w3 _ _)
          have HZ4 : Hid (Whole w4 S 27 #[.int .i64 0, .int .i64 0, .string ⟨#[]⟩, .slice none 0 0, .slice none 0 0]) := Lib.hid (by rw [← hw4]; exact HZ3.out.alloc _)
          have HG4 : Hid (w.grownBy w4 (some b)) := Lib.hid (by rw [← hw4]; exact gr_alloc HG3.out _)
          have HR4 : Hid (Rd w4 b (p + 1 + 1)) := Lib.hid (by rw [← hw4]; exact HR3.out.below (below_newK w3 _) HR3.out.lt)
          have hD4 : D + 1 ≤ w4.heap.size := HX4.out.lt
          clear hw4
          go_wp2
          rw [HW4.out, HDD.out]
          go_loopw [6] (fun iv wr => ∃ (i q : Nat) (A : Option Addr) (cap base h : Nat) (ks : List KT) (rs : List KR), i ≤ 2 ∧ iv = .int .i64 (i : Int) ∧ q ≤ p + 3 + i * cD e ∧ D + 1 ≤ base ∧ D + 1 ≤ h ∧ h ≤ wr.heap.size ∧ Hid (i = 0 → A = none ∧ cap = 0) ∧ Hid (i < 2 → ∀ g, Value.ownBlock (.slice A i cap) = some g → h ≤ g) ∧ Hid (Rd wr b q) ∧ Hid (w.grownBy wr (some b)) ∧ Hid (Whole wr S 27 #[.int .i64 0, .int .i64 0, .string ⟨#[]⟩, .slice none 0 0, .slice none 0 0]) ∧ Hid (Whole wr D 27 #[.int .i64 7, .int .i64 0, .string ⟨#[]⟩, .slice none 0 0, .slice A i cap]) ∧ Hid (ROwn keyR wr base (.slice A i cap) rs) ∧ Hid (KRs (KA (D + 1) h wr) ks rs) ∧ Hid (nodesL ks ≤ i * mD e)) (fun iv _ => 2 - (intOf iv).toNat)
          case atStart => exact ⟨0, p + 1 + 1, none, 0, D + 1, D + 1, [], [], Nat.zero_le _, by go_num, by omega, Nat.le_refl _, Nat.le_refl _, hD4, fun _ => ⟨rfl, rfl⟩, fun _ g hg => (by cases hg), HR4.out, HG4.out, HZ4.out, HX4.out, ROwn.nil _ _, rfl, by rw [nodesL]; exact Nat.zero_le _⟩
          case round =>
            obtain ⟨i, q, A, cap, base, h, ks, rs, hin, rfl, hq, hba, hDh, hhw, HA0, HOB, HR, HG, HZ, HX, HO, HK, HNL⟩ := hrel
            have x0 := HX.out.cell 0
            have x1 := HX.out.cell 1
            have x2 := HX.out.cell 2
            have x3 := HX.out.cell 3
            have x4 := HX.out.cell 4
            simp at x0 x1 x2 x3 x4
            by_cases hlt : i < 2
            · have h5 : (i : Int) < 2 := by omega
              have hqe : q + cD e ≤ 500000 := by
                have h1 : i * cD e ≤ 1 * cD e := Nat.mul_le_mul_right _ (by omega)
                omega
              have HLN : Hid (rs.length = i) := Lib.hid HO.out.len.1.symm
              have HIC := Lib.hid (IH.out q wr.drew (show Rd wr.drew b q from HR.out) hqe)
              have hml : i + 1 ≤ maxLen := by unfold maxLen; omega
              have hby : (i + 1) * 80 ≤ 140737488355328 := by omega
              go_wp2
              clear x0 x1 x2 x3
              go_region_law (first
                | (refine step_append_rows rfl (.tmp 28) (.tmp 33) 25 rfl keyR base2 i0 _ 80 Tryz.underlying25 hi hq0 hq1 hq2 rfl (by decide) _ rs [(a0, a1, a2, (a3, a4, a5), (a6, a7, a8))] i HLN.out rfl (HO6.out.alloc (.cells #[.int .i64 a0, .int .i64 a1, .string a2, .slice a3 a4 a5, .slice a6 a7 a8] 27)) (some ⟨w6.heap.size, 0, none⟩) 1 1 rfl rfl (RAt.made keyR w6 [(a0, a1, a2, (a3, a4, a5), (a6, a7, a8))] _ rfl) (fun e => by cases e) (fun q e => by cases e; rfl) hml hby (by simp; omega) ?_
                   intro v' w7 hown hgrow hnn
                   obtain ⟨A7, N7, cap7, rfl⟩ := hown.val
                   have hN7 : N7 = i + 1 := by
                     have := hown.len.1
                     rw [List.length_append, HLN.out] at this
                     exact this
                   subst hN7
                   have HOW := Lib.hid hown
                   have HGW := Lib.hid hgrow
                   have hx7 := (HX6.out.alloc (.cells #[.int .i64 a0, .int .i64 a1, .string a2, .slice a3 a4 a5, .slice a6 a7 a8] 27)).grown hgrow (fun e => by have := (World.ownsRow.lt HO6.out D e.symm).1; omega)
                   have HX7 := Lib.hid hx7
                   have x47 := hx7.cell 4
                   simp at x47
                   have f47 := hx7.free 4
                   clear hown hgrow hnn hx7)
                | (go_simp
                   go_at_call 28
                   refine HIC.out.mono ?_
                   rintro ee w6 ⟨k6, ⟨a0, a1, a2, ⟨a3, a4, a5⟩, ⟨a6, a7, a8⟩⟩, q6, rfl, hk6, -, hn6, hq6, hr6, hg6⟩
                   have HK6 := Lib.hid hk6
                   have HN6 := Lib.hid hn6
                   have HR6 := Lib.hid hr6
                   have HGR6 := Lib.hid hg6
                   have hx6 := HX.out.drew.grown hg6 (fun e => by cases e; omega)
                   have HX6 := Lib.hid hx6
                   have x46 := hx6.cell 4
                   simp at x46
                   have x46a := (hx6.alloc (.cells #[.int .i64 a0, .int .i64 a1, .string a2, .slice a3 a4 a5, .slice a6 a7 a8] 27)).cell 4
                   simp at x46a
                   have hle6 : wr.heap.size ≤ w6.heap.size := hg6.size
                   obtain ⟨base2, hO6, hb61, hb62, hb63⟩ := own_base (i := i) HO.out HA0.out hg6 (by omega) hba (by have := HX.out.lt; omega)
                   have HO6 := Lib.hid hO6
                   clear hk6 hn6 hr6 hg6 hx6 hO6))
              all_goals (
                go_wp2
                go_roundw
                case rel => exact loop_rel hSD hbS HSS.out hin hlt (by omega) hq hba hDh hhw HOB.out HR6.out HG.out HZ.out HX.out HO.out HK.out HNL.out HGR6.out HK6.out HN6.out hq6 HO6.out hb61 hb62 hb63 HGW.out HX7.out HOW.out HLN.out
                case measure => simp [intOf]; omega)
            · have h5 : ¬ (i : Int) < 2 := by omega
              obtain rfl : i = 2 := by omega
              have r0 := HZ.out.cell 0
              have r1 := HZ.out.cell 1
              have r2 := HZ.out.cell 2
              have r3 := HZ.out.cell 3
              have r4 := HZ.out.cell 4
              simp at r0 r1 r2 r3 r4
              have f0 := HZ.out.free 0
              have f1 := HZ.out.free 1
              have f2 := HZ.out.free 2
              have f3 := HZ.out.free 3
              have f4 := HZ.out.free 4
              go_wp2
              refine bodyPost_ret (v := kval (7, 0, ⟨#[]⟩, (none, 0, 0), (A, 2, cap))) (by simp [results, Tryz.results28, go_sem, r0, r1, r2, r3, r4]) rfl ?_
              exact drewk_end HSS.out hbS (ka_node HO.out (by omega) HK.out (by omega) hhw) (by rw [nodesT]; have := HNL.out; omega) (by omega) HR.out HG.out ⟨fun e => HO.out.nilcap e, fun q e => HO.out.spot q e⟩

      · skip
        go_wp2_with fail
        refine (pick_any b (p + 1) 9 _ HR2.out (by omega) (by omega) (by omega)).mono ?_
        rintro ee w3 ⟨x, hx, hee, hr, hg⟩
        have HR3 := Lib.hid hr
        have HG3 := Lib.hid (gr_trans HG2.out hg)
        have HZ3 := Lib.hid (HZ2.out.grown hg hneS)
        clear hr hg
        obtain ⟨y, hy⟩ : ∃ y : Int, (x : Int) = y := ⟨_, rfl⟩
        rw [hy] at hee
        subst hee
        have hyy : y = 0 ∨ (y = 1 ∨ y = 2) ∨ (y = 3 ∨ y = 4) ∨ (y = 5 ∨ y = 6) ∨ (y = 7 ∨ y = 8) := by omega
        clear hx hy
        rcases hyy with rfl | hy | hy | hy | hy
        · have r0 := HZ3.out.cell 0
          have r1 := HZ3.out.cell 1
          have r2 := HZ3.out.cell 2
          have r3 := HZ3.out.cell 3
          have r4 := HZ3.out.cell 4
          simp at r0 r1 r2 r3 r4
          have f0 := HZ3.out.free 0
          have f1 := HZ3.out.free 1
          have f2 := HZ3.out.free 2
          have f3 := HZ3.out.free 3
          have f4 := HZ3.out.free 4
          go_wp2
          refine bodyPost_ret (v := kval (0, 0, ⟨#[]⟩, (none, 0, 0), (none, 0, 0))) (by simp [results, Tryz.results28, go_sem, r0, r1, r2, r3, r4]) rfl ?_
          exact drewk_end HSS.out hbS (ka_leaf (by decide) rfl (by omega) (SpA.nil _ _)) (nodes_leaf _ _ _ _ _) (by omega) HR3.out HG3.out ⟨fun _ => rfl, fun q e => by cases e⟩
        · rcases hy with rfl | rfl
          all_goals (
            go_wp2_with fail
            refine (of_new b ((p + 1) + 1) [[98, 111, 98], [120], [97, 109, 121], [111]] w3 HR3.out (by omega) (by decide) (by decide)).mono ?_
            rintro ee w4 ⟨l, hl, rfl, hr2, hg2⟩
            have HR4 := Lib.hid hr2
            have HG4 := Lib.hid (gr_trans HG3.out hg2)
            have HZ4 := Lib.hid (HZ3.out.grown hg2 hneS)
            have hlz : (⟨l.toArray⟩ : ByteArray).size ≤ 30 := text_le (by decide) hl
            clear hr2 hg2 hl
            unfold str
            obtain ⟨tx, htx⟩ : ∃ tx : ByteArray, ⟨l.toArray⟩ = tx := ⟨_, rfl⟩
            rw [htx] at hlz ⊢
            clear htx
            have r0 := HZ4.out.cell 0
            have r1 := HZ4.out.cell 1
            have r2 := HZ4.out.cell 2
            have r3 := HZ4.out.cell 3
            have r4 := HZ4.out.cell 4
            simp at r0 r1 r2 r3 r4
            have f0 := HZ4.out.free 0
            have f1 := HZ4.out.free 1
            have f2 := HZ4.out.free 2
            have f3 := HZ4.out.free 3
            have f4 := HZ4.out.free 4
            go_wp2
            refine bodyPost_ret (v := kval (2, 0, tx, (none, 0, 0), (none, 0, 0))) (by simp [results, Tryz.results28, go_sem, r0, r1, r2, r3, r4]) rfl ?_
            exact drewk_end HSS.out hbS (ka_leaf (by omega) rfl (by omega) (SpA.nil _ _)) (nodes_leaf _ _ _ _ _) (by omega) HR4.out HG4.out ⟨fun _ => rfl, fun q e => by cases e⟩)
        · rcases hy with rfl | rfl
          all_goals (
            go_wp2_with fail
            refine (set_draw b ((p + 1) + 1) w3 HR3.out (by omega)).mono ?_
            rintro ee w4 ⟨v, L, q, hL, hq, rfl, hr2, hg2, ho⟩
            obtain ⟨A, n, c, rfl⟩ := own_slice ho
            have HR4 := Lib.hid hr2
            have HG4 := Lib.hid (gr_trans HG3.out hg2)
            have HZ4 := Lib.hid (HZ3.out.grown hg2 hneS)
            have HO4 := Lib.hid ho
            have hS3 : S + 1 ≤ w3.heap.size := HZ3.out.lt
            clear hr2 hg2 ho
            have r0 := HZ4.out.cell 0
            have r1 := HZ4.out.cell 1
            have r2 := HZ4.out.cell 2
            have r3 := HZ4.out.cell 3
            have r4 := HZ4.out.cell 4
            simp at r0 r1 r2 r3 r4
            have f0 := HZ4.out.free 0
            have f1 := HZ4.out.free 1
            have f2 := HZ4.out.free 2
            have f3 := HZ4.out.free 3
            have f4 := HZ4.out.free 4
            go_wp2
            refine bodyPost_ret (v := kval (3, 0, ⟨#[]⟩, (A, n, c), (none, 0, 0))) (by simp [results, Tryz.results28, go_sem, r0, r1, r2, r3, r4]) rfl ?_
            obtain ⟨hs1, hs2⟩ := spa_own1 HO4.out hS3
            exact drewk_end HSS.out hbS (ka_leaf (by decide) hs2 (by omega) hs1) (nodes_leaf _ _ _ _ _) (by omega) HR4.out HG4.out ⟨fun _ => rfl, fun q e => by cases e⟩)
        · rcases hy with rfl | rfl
          all_goals (
            go_wp2_with fail
            refine (set_draw b ((p + 1) + 1) w3 HR3.out (by omega)).mono ?_
            rintro ee w4 ⟨v, L, q, hL, hq, rfl, hr2, hg2, ho⟩
            obtain ⟨A, n, c, rfl⟩ := own_slice ho
            have HR4 := Lib.hid hr2
            have HG4 := Lib.hid (gr_trans HG3.out hg2)
            have HZ4 := Lib.hid (HZ3.out.grown hg2 hneS)
            have HO4 := Lib.hid ho
            have hS3 : S + 1 ≤ w3.heap.size := HZ3.out.lt
            clear hr2 hg2 ho
            have r0 := HZ4.out.cell 0
            have r1 := HZ4.out.cell 1
            have r2 := HZ4.out.cell 2
            have r3 := HZ4.out.cell 3
            have r4 := HZ4.out.cell 4
            simp at r0 r1 r2 r3 r4
            have f0 := HZ4.out.free 0
            have f1 := HZ4.out.free 1
            have f2 := HZ4.out.free 2
            have f3 := HZ4.out.free 3
            have f4 := HZ4.out.free 4
            go_wp2
            refine bodyPost_ret (v := kval (4, 0, ⟨#[]⟩, (A, n, c), (none, 0, 0))) (by simp [results, Tryz.results28, go_sem, r0, r1, r2, r3, r4]) rfl ?_
            obtain ⟨hs1, hs2⟩ := spa_own1 HO4.out hS3
            exact drewk_end HSS.out hbS (ka_leaf (by decide) hs2 (by omega) hs1) (nodes_leaf _ _ _ _ _) (by omega) HR4.out HG4.out ⟨fun _ => rfl, fun q e => by cases e⟩)
        · rcases hy with rfl | rfl
          all_goals (
            go_wp2_with fail
            refine (pick_any b ((p + 1) + 1) 5 _ HR3.out (by omega) (by omega) (by omega)).mono ?_
            rintro ee w4 ⟨z, hz5, rfl, hr2, hg2⟩
            have HR4 := Lib.hid hr2
            have HG4 := Lib.hid (gr_trans HG3.out hg2)
            have HZ4 := Lib.hid (HZ3.out.grown hg2 hneS)
            clear hr2 hg2
            go_wp2_with fail
            refine (kspec_bit z w4 hz5).mono ?_
            rintro ee w5 ⟨fl, rfl, hb5⟩
            have HR5 := Lib.hid (HR4.out.below hb5 HR4.out.lt)
            have HG5 := Lib.hid (gr_trans HG4.out (gr_below hb5 (some b)))
            have HZ5 := Lib.hid (HZ4.out.below hb5 HZ4.out.lt)
            clear hb5
            have r0 := HZ5.out.cell 0
            have r1 := HZ5.out.cell 1
            have r2 := HZ5.out.cell 2
            have r3 := HZ5.out.cell 3
            have r4 := HZ5.out.cell 4
            simp at r0 r1 r2 r3 r4
            have f0 := HZ5.out.free 0
            have f1 := HZ5.out.free 1
            have f2 := HZ5.out.free 2
            have f3 := HZ5.out.free 3
            have f4 := HZ5.out.free 4
            go_wp2
            refine bodyPost_ret (v := kval (1, fl, ⟨#[]⟩, (none, 0, 0), (none, 0, 0))) (by simp [results, Tryz.results28, go_sem, r0, r1, r2, r3, r4]) rfl ?_
            exact drewk_end HSS.out hbS (ka_leaf (by decide) rfl (by omega) (SpA.nil _ _)) (nodes_leaf _ _ _ _ _) (by omega) HR5.out HG5.out ⟨fun _ => rfl, fun q e => by cases e⟩)
theorem key_draw : ∀ (d : Nat) (b p : Nat) (w : World), d ≤ 3 → Rd w b p → p + cD d ≤ 500000 → Calls Tryz.prog 28 #[.pointer (some ⟨b, 0, none⟩), .int .i64 (d : Int)] w (DrewK w b p d)
  | 0, b, p, w, hd, hr, hp => key_step 0 b p w hd hr hp fun e q w' h => by omega
  | d + 1, b, p, w, hd, hr, hp => key_step (d + 1) b p w hd hr hp fun e q w' h h1 h2 => by
    obtain rfl : e = d := by omega
    exact key_draw e b q w' (by omega) h1 h2
end Go.Proofs.YtnfigpknejmkmaaGreatDoor
