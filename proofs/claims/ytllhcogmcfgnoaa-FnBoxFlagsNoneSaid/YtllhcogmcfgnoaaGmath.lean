/-
  The plain mathematics of mailboxes: when one is valid, and what its functions make of it, on lists of messages. Plain definitions and lemmas; no condition.
-/
import Derived.Test.YtllhcogmcfgnoaaFmath
namespace Go.Proofs.Ytllhcogmcfgnoaa
set_option linter.unusedVariables false

/-- A message: its number, its flags, its text. -/
abbrev ML := Int × Int × List UInt8
/-- A valid message. -/
def mOk (m : ML) : Bool := (decide (1 ≤ m.1) && decide (m.1 ≤ 99)) && isF m.2.1 && decide (m.2.2.length ≤ 20)
theorem mOk_iff {m : ML} : mOk m = true ↔ (1 ≤ m.1 ∧ m.1 ≤ 99) ∧ isF m.2.1 = true ∧ m.2.2.length ≤ 20 := by
  unfold mOk
  simp [and_assoc]
/-- The greatest number of ascending valid messages behind 'l', if they are so. -/
def chk : Int → List ML → Option Int
  | l, [] => some l
  | l, m :: r => if mOk m && decide (l < m.1) then chk m.1 r else none
/-- A valid mailbox. -/
def bOk (n : Int) (L : List ML) : Bool :=
  match chk 0 L with
  | none => false
  | some l => (decide (l + 1 ≤ n) && decide (n ≤ 100)) && decide (L.length ≤ 10)
def Asc (L : List ML) : Prop := L.Pairwise fun a b => a.1 < b.1

theorem chk_some : ∀ {L : List ML} {l z : Int}, chk l L = some z → (∀ m ∈ L, mOk m = true ∧ l < m.1 ∧ m.1 ≤ z) ∧ Asc L ∧ l ≤ z ∧ (z = l ∨ ∃ m ∈ L, m.1 = z)
  | [], l, z, h => by
    rw [chk] at h
    cases h
    exact ⟨fun m hm => (by cases hm), List.Pairwise.nil, Int.le_refl _, .inl rfl⟩
  | x :: L, l, z, h => by
    rw [chk] at h
    split at h
    · rename_i hx
      rw [Bool.and_eq_true, decide_eq_true_eq] at hx
      obtain ⟨h1, h2, h3, h4⟩ := chk_some h
      refine ⟨fun m hm => ?_, ?_, by omega, ?_⟩
      · rcases List.mem_cons.1 hm with rfl | hm
        · exact ⟨hx.1, hx.2, h3⟩
        · have := h1 m hm
          exact ⟨this.1, by omega, this.2.2⟩
      · exact .cons (fun m hm => (h1 m hm).2.1) h2
      · rcases h4 with rfl | ⟨m, hm, e⟩
        · exact .inr ⟨x, by simp, rfl⟩
        · exact .inr ⟨m, by simp [hm], e⟩
    · cases h
theorem chk_of : ∀ {L : List ML} {l : Int}, (∀ m ∈ L, mOk m = true ∧ l < m.1) → Asc L → ∃ z, chk l L = some z
  | [], l, _, _ => ⟨l, rfl⟩
  | x :: L, l, h, ha => by
    have hx := h x (by simp)
    rw [chk, if_pos (by rw [hx.1, decide_eq_true hx.2]; rfl)]
    cases ha with
    | cons h1 h2 => exact chk_of (fun m hm => ⟨(h m (by simp [hm])).1, h1 m hm⟩) h2
theorem bOk_iff {n : Int} {L : List ML} : bOk n L = true ↔ (∀ m ∈ L, mOk m = true ∧ m.1 < n) ∧ Asc L ∧ 1 ≤ n ∧ n ≤ 100 ∧ L.length ≤ 10 := by
  unfold bOk
  constructor
  · intro h
    cases hc : chk 0 L with
    | none => rw [hc] at h; cases h
    | some z =>
      rw [hc] at h
      simp at h
      obtain ⟨h1, h2, h3, _⟩ := chk_some hc
      exact ⟨fun m hm => ⟨(h1 m hm).1, by have := (h1 m hm).2.2; omega⟩, h2, by omega, h.1.2, h.2⟩
  · rintro ⟨h1, h2, h3, h4, h5⟩
    obtain ⟨z, hz⟩ := chk_of (L := L) (l := 0) (fun m hm => ⟨(h1 m hm).1, by have := (mOk_iff.1 (h1 m hm).1).1; omega⟩) h2
    rw [hz]
    have h6 : z + 1 ≤ n := by
      rcases (chk_some hz).2.2.2 with rfl | ⟨m, hm, rfl⟩
      · omega
      · have := (h1 m hm).2; omega
    simp [h4, h5, h6]
theorem bOk_sub {n : Int} {L M : List ML} (h : bOk n L = true) (hs : List.Sublist M L) : bOk n M = true := by
  obtain ⟨h1, h2, h3, h4, h5⟩ := bOk_iff.1 h
  exact bOk_iff.2 ⟨fun m hm => h1 m (hs.subset hm), List.Pairwise.sublist hs h2, h3, h4, Nat.le_trans hs.length_le h5⟩

/-- A mailbox with a message more, if there is space and a number. -/
def bxAdd (n : Int) (L : List ML) (f : Int) (t : List UInt8) : Int × List ML × Bool := if 10 ≤ L.length ∨ 99 < n then (n, L, false) else (n + 1, L ++ [(n, f, t)], true)
/-- BoxAppend. -/
def bxAp (n : Int) (L : List ML) (f : Int) (t : List UInt8) : Int × List ML × Bool := if bOk n L && isF f && decide (t.length ≤ 20) then bxAdd n L f t else (0, [], false)
theorem app_ok {n : Int} {L : List ML} {f : Int} {t : List UInt8} (h : bOk n L = true) (hf : isF f = true) (ht : t.length ≤ 20) (hl : L.length < 10) (hn : n ≤ 99) : bOk (n + 1) (L ++ [(n, f, t)]) = true := by
  obtain ⟨h1, h2, h3, h4, h5⟩ := bOk_iff.1 h
  refine bOk_iff.2 ⟨fun m hm => ?_, ?_, by omega, by omega, by rw [List.length_append, List.length_singleton]; omega⟩
  · rcases List.mem_append.1 hm with hm | hm
    · exact ⟨(h1 m hm).1, by have := (h1 m hm).2; omega⟩
    · rw [List.mem_singleton.1 hm]
      exact ⟨mOk_iff.2 ⟨⟨h3, hn⟩, hf, ht⟩, by show n < n + 1; omega⟩
  · refine List.pairwise_append.2 ⟨h2, List.pairwise_singleton _ _, fun a ha b hb => ?_⟩
    rw [List.mem_singleton.1 hb]
    exact (h1 a ha).2
theorem bxAp_yes {n : Int} {L : List ML} {f : Int} {t : List UInt8} (h : (bxAp n L f t).2.2 = true) : bOk n L = true ∧ isF f = true ∧ t.length ≤ 20 ∧ L.length < 10 ∧ n ≤ 99 ∧ bxAp n L f t = (n + 1, L ++ [(n, f, t)], true) := by
  unfold bxAp at h ⊢
  split at h
  · rename_i hc
    rw [Bool.and_eq_true, Bool.and_eq_true, decide_eq_true_eq] at hc
    rw [if_pos (by rw [hc.1.1, hc.1.2, decide_eq_true hc.2]; rfl)]
    unfold bxAdd at h ⊢
    split at h
    · cases h
    · rename_i hs
      rw [if_neg hs]
      exact ⟨hc.1.1, hc.1.2, hc.2, by omega, by omega, rfl⟩
  · cases h
theorem dup_bad {n : Int} {L : List ML} {k : Nat} (hk : k < L.length) : bOk n (L.take (k + 1) ++ L.drop k) = false := by
  rw [← Bool.not_eq_true]
  intro h
  obtain ⟨_, h2, _⟩ := bOk_iff.1 h
  have := (List.pairwise_append.1 h2).2.2 L[k] (by rw [List.take_succ_eq_append_getElem hk]; exact List.mem_append_right _ (List.mem_singleton.2 rfl)) L[k] (by rw [List.drop_eq_getElem_cons hk]; exact List.mem_cons_self)
  omega
theorem without_ok {n : Int} {L : List ML} {k : Nat} (h : bOk n L = true) : bOk n (L.take k ++ L.drop (k + 1)) = true := by
  refine bOk_sub h ?_
  conv => rhs; rw [← List.take_append_drop k L]
  refine List.Sublist.append (List.Sublist.refl _) ?_
  rw [← List.drop_drop]
  exact List.drop_sublist _ _
theorem next_bad {n : Int} {L : List ML} {m : ML} (hm : m ∈ L) : bOk m.1 L = false := by
  rw [← Bool.not_eq_true]
  intro h
  have := ((bOk_iff.1 h).1 m hm).2
  omega
theorem next_top {n : Int} {L : List ML} (h : bOk n L = true) : bOk 100 L = true := by
  obtain ⟨h1, h2, h3, h4, h5⟩ := bOk_iff.1 h
  exact bOk_iff.2 ⟨fun m hm => ⟨(h1 m hm).1, by have := (h1 m hm).2; omega⟩, h2, by omega, by omega, h5⟩

/-- Ascending places of 'len' messages, behind 'l'. -/
def plc (len : Nat) : Int → List Int → Bool
  | _, [] => true
  | l, x :: r => decide (l < x) && decide (x ≤ (len : Int)) && plc len x r
theorem plc_iff {len : Nat} : ∀ {P : List Int} {l : Int}, plc len l P = true ↔ (∀ x ∈ P, l < x ∧ x ≤ (len : Int)) ∧ P.Pairwise (· < ·)
  | [], l => by simp [plc]
  | x :: P, l => by
    rw [plc, Bool.and_eq_true, Bool.and_eq_true, decide_eq_true_eq, decide_eq_true_eq, plc_iff, List.pairwise_cons]
    constructor
    · rintro ⟨⟨h1, h2⟩, h3, h4⟩
      refine ⟨fun y hy => ?_, fun y hy => (h3 y hy).1, h4⟩
      rcases List.mem_cons.1 hy with rfl | hy
      · exact ⟨h1, h2⟩
      · have := h3 y hy; exact ⟨by omega, this.2⟩
    · rintro ⟨h1, h2, h3⟩
      have hx := h1 x (by simp)
      exact ⟨⟨hx.1, hx.2⟩, fun y hy => ⟨h2 y hy, (h1 y (by simp [hy])).2⟩, h3⟩

/-- A message with changed flags. -/
def chM (h f : Int) (m : ML) : ML := (m.1, (chN m.2.1.toNat h f.toNat : Int), m.2.2)
/-- The messages at the given places with changed flags; 'i' is the place of the first one. -/
def flM (P : List Int) (h f : Int) : Nat → List ML → List ML
  | _, [] => []
  | i, m :: r => (if P.contains (i : Int) then chM h f m else m) :: flM P h f (i + 1) r
theorem flM_len (P : List Int) (h f : Int) : ∀ (i : Nat) (L : List ML), (flM P h f i L).length = L.length
  | _, [] => rfl
  | i, m :: r => by rw [flM, List.length_cons, flM_len, List.length_cons]
theorem flM_get (P : List Int) (h f : Int) : ∀ (i k : Nat) (L : List ML) (m : ML), L[k]? = some m → (flM P h f i L)[k]? = some (if P.contains ((i + k : Nat) : Int) then chM h f m else m)
  | i, k, [], m, hk => by simp at hk
  | i, 0, x :: r, m, hk => by
    simp at hk
    subst hk
    rw [flM]
    rfl
  | i, k + 1, x :: r, m, hk => by
    rw [flM, List.getElem?_cons_succ, flM_get P h f (i + 1) k r m (by simpa using hk)]
    rw [show i + 1 + k = i + (k + 1) by omega]
theorem flM_nil (h f : Int) : ∀ (i : Nat) (L : List ML), flM [] h f i L = L
  | _, [] => rfl
  | i, m :: r => by rw [flM, flM_nil]; rfl
/-- BoxFlags. -/
def bxFl (n : Int) (L : List ML) (P : List Int) (h f : Int) : Int × List ML × Bool := if bOk n L && plc L.length 0 P && howB h && isF f then (n, flM P h f 1 L, true) else (0, [], false)

/-- A deleted message. -/
def dlM (m : ML) : Bool := tb m.2.1.toNat 3
def kpM (L : List ML) : List ML := L.filter fun m => !dlM m
/-- The places of the deleted messages, where 'k' others are kept ahead. -/
def gnM : Nat → List ML → List Nat
  | _, [] => []
  | k, m :: r => if dlM m then (k + 1) :: gnM k r else gnM (k + 1) r
/-- BoxExpunge. -/
def bxEx (n : Int) (L : List ML) : Int × List ML × List Nat := if bOk n L then (n, kpM L, gnM 0 L) else (0, [], [])

/-- Messages appended one after the other. -/
def cpA : Int → List ML → List ML → Option (Int × List ML)
  | n, M, [] => some (n, M)
  | n, M, m :: r => if 10 ≤ M.length ∨ 99 < n then none else cpA (n + 1) (M ++ [(n, m.2.1, m.2.2)]) r
/-- The messages at places. -/
def atM (L : List ML) (P : List Int) : List ML := P.map fun x => L.getD (x.toNat - 1) (0, 0, [])
/-- BoxCopy. -/
def bxCp (n : Int) (L : List ML) (P : List Int) (m : Int) (M : List ML) : Int × List ML × Bool :=
  if bOk n L && bOk m M && plc L.length 0 P then
    match cpA m M (atM L P) with
    | some r => (r.1, r.2, true)
    | none => (m, M, false)
  else (0, [], false)

/-- BoxUids; 'i' is the place of the first message. -/
def udM (U : List Int) : Nat → List ML → List Nat
  | _, [] => []
  | i, m :: r => if U.contains m.1 then i :: udM U (i + 1) r else udM U (i + 1) r
def bxUd (n : Int) (L : List ML) (U : List Int) : List Nat := if bOk n L then udM U 1 L else []
/-- BoxSize. -/
def szM (L : List ML) : Nat := (L.map fun m => m.2.2.length).sum
def bxSz (n : Int) (L : List ML) : Int := if bOk n L then (szM L : Int) else -1
end Go.Proofs.Ytllhcogmcfgnoaa
