/-
  The cursor's view of names, domains and addresses agrees with the view by parts. Plain lemmas on lists of bytes; no condition.
-/
import Derived.Test.YtkhfflbgnojcfaaSpecB
namespace Go.Proofs.Ytkhfflbgnojcfaa
set_option linter.unusedVariables false

theorem sgn_ne {x c : UInt8} (h : sgn x = true) (hc : sgn c = false) : x ≠ c := by rintro rfl; rw [h] at hc; cases hc
theorem sgn46 : sgn 46 = false := by decide
theorem sgn64 : sgn 64 = false := by decide
theorem sgn62 : sgn 62 = false := by decide

/-- A list is its leading signs, and nothing or something that begins with no sign. -/
theorem span_sgn (r : List UInt8) : ∃ p q, r = p ++ q ∧ p.all sgn = true ∧ (r.takeWhile sgn) = p ∧ (q = [] ∨ ∃ x t, q = x :: t ∧ sgn x = false) := by
  induction r with
  | nil => exact ⟨[], [], rfl, rfl, rfl, .inl rfl⟩
  | cons a r ih =>
    by_cases ha : sgn a = true
    · obtain ⟨p, q, rfl, hp, ht, hq⟩ := ih
      refine ⟨a :: p, q, rfl, by simp [ha, hp], by rw [List.takeWhile_cons, if_pos ha, ht], hq⟩
    · refine ⟨[], a :: r, rfl, rfl, by rw [List.takeWhile_cons, if_neg ha], .inr ⟨a, r, rfl, Bool.eq_false_iff.2 ha⟩⟩

theorem nameB_all {p : List UInt8} (h : p.all sgn = true) : nameB p = okLen p.length := by unfold nameB okLen; rw [h]; rfl
theorem nameB_bad {p : List UInt8} {x : UInt8} (hx : x ∈ p) (h : sgn x = false) : nameB p = false := by
  unfold nameB
  have : p.all sgn = false := by
    rw [← Bool.not_eq_true]; intro ha; rw [List.all_eq_true] at ha; have := ha x hx; rw [h] at this; cases this
  rw [this]; rfl

theorem cutGo_skip (c : UInt8) (p q : List UInt8) (hp : ∀ x ∈ p, x ≠ c) : ∀ cur, cutGo c cur (p ++ q) = cutGo c (cur ++ p) q := by
  induction p with
  | nil => intro cur; simp
  | cons a p ih =>
    intro cur
    rw [List.cons_append, cutGo, if_neg (hp a (by simp)), ih (fun x hx => hp x (by simp [hx]))]
    simp
theorem cutGo_head (c : UInt8) (l : List UInt8) : ∀ cur, ∃ q rest, cutGo c cur l = (cur ++ q) :: rest := by
  induction l with
  | nil => intro cur; exact ⟨[], [], by simp [cutGo]⟩
  | cons a l ih =>
    intro cur
    unfold cutGo
    split
    · exact ⟨[], cutGo c [] l, by simp⟩
    · obtain ⟨q, rest, h⟩ := ih (cur ++ [a])
      exact ⟨a :: q, rest, by rw [h]; simp⟩
theorem cut_nil_of (c : UInt8) (p : List UInt8) (hp : ∀ x ∈ p, x ≠ c) : cut c p = [p] := by
  have := cutGo_skip c p [] hp []
  simp [cutGo] at this
  exact this
theorem cut_at (c : UInt8) (p t : List UInt8) (hp : ∀ x ∈ p, x ≠ c) : cut c (p ++ c :: t) = p :: cut c t := by
  unfold cut
  rw [cutGo_skip c p _ hp, cutGo, if_pos rfl]
  simp
theorem cut_other (c : UInt8) (p t : List UInt8) (x : UInt8) (hp : ∀ y ∈ p, y ≠ c) (hx : x ≠ c) : ∃ q rest, cut c (p ++ x :: t) = (p ++ x :: q) :: rest := by
  unfold cut
  rw [cutGo_skip c p _ hp, cutGo, if_neg hx]
  obtain ⟨q, rest, h⟩ := cutGo_head c t ([] ++ p ++ [x])
  exact ⟨q, rest, by rw [h]; simp⟩
theorem cutGo_mem (c : UInt8) (l : List UInt8) : ∀ cur x, (x ∈ cur ∨ x ∈ l) → x ≠ c → ∃ y ∈ cutGo c cur l, x ∈ y := by
  induction l with
  | nil => intro cur x hx hc; exact ⟨cur, by simp [cutGo], by simpa using hx⟩
  | cons a l ih =>
    intro cur x hx hc
    unfold cutGo
    split
    · rename_i ha
      rcases hx with hx | hx
      · exact ⟨cur, by simp, hx⟩
      · rcases List.mem_cons.1 hx with rfl | h
        · exact absurd ha hc
        · obtain ⟨y, hy, hxy⟩ := ih [] x (.inr h) hc
          exact ⟨y, by simp [hy], hxy⟩
    · refine ih (cur ++ [a]) x ?_ hc
      rcases hx with hx | hx
      · exact .inl (by simp [hx])
      · rcases List.mem_cons.1 hx with rfl | h
        · exact .inl (by simp)
        · exact .inr h

theorem nm_eq (L : List UInt8) (k : Nat) {p q : List UInt8} (h : L.drop k = p ++ q) (ht : (L.drop k).takeWhile sgn = p) : nmLen L k = p.length ∧ L.drop (k + nmLen L k) = q := by
  have e : nmLen L k = p.length := by unfold nmLen; rw [ht]
  refine ⟨e, ?_⟩
  rw [e, ← List.drop_drop, h, List.drop_left]
theorem next_nil {L : List UInt8} {k : Nat} {c : UInt8} (h : L.drop k = []) : nextIs L k c = false := by
  unfold nextIs
  rw [List.getElem?_eq_none (by simpa using h)]; rfl
theorem next_cons {L : List UInt8} {k : Nat} {c x : UInt8} {t : List UInt8} (h : L.drop k = x :: t) : nextIs L k c = (x == c) ∧ L.drop (k + 1) = t ∧ k < L.length := by
  have h1 : L[k]? = some x := by
    have : (L.drop k)[0]? = some x := by rw [h]; rfl
    simpa using this
  refine ⟨by unfold nextIs; rw [h1]; rfl, by rw [← List.drop_drop, h]; rfl, ?_⟩
  rcases Nat.lt_or_ge k L.length with hl | hl
  · exact hl
  · rw [List.getElem?_eq_none hl] at h1; cases h1
theorem len_of_drop {L : List UInt8} {k : Nat} (hk : k ≤ L.length) (h : L.drop k = []) : k = L.length := by
  have : L.length ≤ k := by simpa using h
  omega

theorem domGo_eq (L : List UInt8) : ∀ (n k : Nat), k ≤ L.length → (((domGo L n (okLen (nmLen L k)) (k + nmLen L k)).1 && decide ((domGo L n (okLen (nmLen L k)) (k + nmLen L k)).2 = L.length)) =
    ((cut 46 (L.drop k)).all nameB && decide ((cut 46 (L.drop k)).length ≤ n + 1))) := by
  intro n
  induction n with
  | zero =>
    intro k hk
    obtain ⟨p, q, hpq, hp, ht, hq⟩ := span_sgn (L.drop k)
    obtain ⟨e1, e2⟩ := nm_eq L k hpq ht
    have hle := nmLen_le L k hk
    have hne : ∀ x ∈ p, x ≠ (46 : UInt8) := fun x hx => sgn_ne (List.all_eq_true.1 hp x hx) sgn46
    rw [domGo_zero]
    rcases hq with rfl | ⟨x, t, rfl, hx⟩
    · have e3 := len_of_drop hle e2
      rw [hpq, List.append_nil, cut_nil_of 46 p hne]
      simp only [List.all_cons, List.all_nil, Bool.and_true, List.length_singleton]
      rw [nameB_all hp, ← e1, decide_eq_true e3]
      simp
    · obtain ⟨e3, e4, e5⟩ := next_cons (c := 46) e2
      rw [decide_eq_false (p := k + nmLen L k = L.length) (by omega), Bool.and_false, hpq]
      by_cases hx4 : x = 46
      · subst hx4
        rw [cut_at 46 p t hne]
        have := (cut_len 46 t).1
        rw [decide_eq_false (by rw [List.length_cons]; omega), Bool.and_false]
      · obtain ⟨q', rest, hc⟩ := cut_other 46 p t x hne hx4
        rw [hc, List.all_cons, nameB_bad (x := x) (by simp) hx]
        rfl
  | succ n ih =>
    intro k hk
    obtain ⟨p, q, hpq, hp, ht, hq⟩ := span_sgn (L.drop k)
    obtain ⟨e1, e2⟩ := nm_eq L k hpq ht
    have hle := nmLen_le L k hk
    have hne : ∀ x ∈ p, x ≠ (46 : UInt8) := fun x hx => sgn_ne (List.all_eq_true.1 hp x hx) sgn46
    rcases hq with rfl | ⟨x, t, rfl, hx⟩
    · have e3 := len_of_drop hle e2
      rw [domGo_no L _ _ _ (next_nil e2), hpq, List.append_nil, cut_nil_of 46 p hne]
      simp only [List.all_cons, List.all_nil, Bool.and_true, List.length_singleton]
      rw [nameB_all hp, ← e1, decide_eq_true e3]
      simp
    · obtain ⟨e3, e4, e5⟩ := next_cons (c := 46) e2
      by_cases hx4 : x = 46
      · subst hx4
        rw [hpq, cut_at 46 p t hne, List.all_cons, nameB_all hp, ← e1]
        by_cases ho : okLen (nmLen L k) = true
        · rw [ho, domGo_yes L n _ (by rw [e3]; rfl), ih (k + nmLen L k + 1) (by omega), e4]
          simp
        · rw [Bool.eq_false_iff.2 ho, domGo_off]; rfl
      · have h0 : nextIs L (k + nmLen L k) 46 = false := by rw [e3]; simpa using hx4
        rw [domGo_no L _ _ _ h0, decide_eq_false (p := k + nmLen L k = L.length) (by omega), Bool.and_false, hpq]
        obtain ⟨q', rest, hc⟩ := cut_other 46 p t x hne hx4
        rw [hc, List.all_cons, nameB_bad (x := x) (by simp) hx]
        rfl

theorem name_eq (L : List UInt8) : (okLen (nmLen L 0) && decide (nmLen L 0 = L.length)) = nameB L := by
  obtain ⟨p, q, hpq, hp, ht, hq⟩ := span_sgn (L.drop 0)
  obtain ⟨e1, e2⟩ := nm_eq L 0 hpq ht
  have hle := nmLen_le L 0 (Nat.zero_le _)
  rw [Nat.zero_add] at e2 hle
  rw [List.drop_zero] at hpq
  rcases hq with rfl | ⟨x, t, rfl, hx⟩
  · have e3 := len_of_drop hle e2
    rw [decide_eq_true e3, Bool.and_true, hpq, List.append_nil, nameB_all hp, ← hpq.trans (List.append_nil p), ← e3]
  · obtain ⟨e3, e4, e5⟩ := next_cons (c := 46) e2
    rw [decide_eq_false (by omega), Bool.and_false, nameB_bad (x := x) (by rw [hpq]; simp) hx]

theorem dom_eq (L : List UInt8) (k : Nat) (hk : k ≤ L.length) : (domOk L k && decide (domEnd L k = L.length)) = domB (L.drop k) := by
  have h := domGo_eq L 2 k hk
  unfold domOk domEnd domB
  by_cases he : (domGo L 2 (okLen (nmLen L k)) (k + nmLen L k)).2 = L.length
  · rw [decide_eq_true he, Bool.and_true] at h ⊢
    rw [he, h, List.length_drop]
  · rw [decide_eq_false he, Bool.and_false] at h ⊢
    rw [← h]; rfl

theorem dom_eq0 (L : List UInt8) : (domOk L 0 && decide (domEnd L 0 = L.length)) = domB L := dom_eq L 0 (Nat.zero_le _)
theorem domB_bad {t : List UInt8} (h : (64 : UInt8) ∈ t) : domB t = false := by
  obtain ⟨y, hy, hxy⟩ := cutGo_mem 46 t [] 64 (.inr h) (by decide)
  have : (cut 46 t).all nameB = false := by
    rw [← Bool.not_eq_true]; intro ha; rw [List.all_eq_true] at ha; have := ha y hy; rw [nameB_bad hxy sgn64] at this; cases this
  unfold domB
  rw [this]; rfl
theorem cut_more {c : UInt8} {t : List UInt8} (h : c ∈ t) : 2 ≤ (cut c t).length := by
  obtain ⟨a, b, rfl, hn⟩ := List.append_of_mem h |>.elim fun a h1 => h1.elim fun b h2 => (⟨a, b, h2, trivial⟩ : ∃ a b, t = a ++ c :: b ∧ True)
  unfold cut
  have key : ∀ (l cur : List UInt8), 1 ≤ (cutGo c cur l).length := fun l cur => (cutGo_len c l cur).1
  have : ∀ (a cur : List UInt8), 2 ≤ (cutGo c cur (a ++ c :: b)).length := by
    intro a
    induction a with
    | nil => intro cur; rw [List.nil_append, cutGo, if_pos rfl, List.length_cons]; have := key b []; omega
    | cons x a ih =>
      intro cur
      rw [List.cons_append, cutGo]
      split
      · rw [List.length_cons]; have := ih []; omega
      · exact ih _
  exact this a []

theorem ad_eq (L : List UInt8) : apB L = spB L ∧ (apB L = true → adUser L 0 = (two L).getD 0 [] ∧ adDom L 0 = (two L).getD 1 []) := by
  obtain ⟨p, q, hpq, hp, ht, hq⟩ := span_sgn (L.drop 0)
  obtain ⟨e1, e2⟩ := nm_eq L 0 hpq ht
  have hle := nmLen_le L 0 (Nat.zero_le _)
  rw [Nat.zero_add] at e2 hle
  rw [List.drop_zero] at hpq
  have hne : ∀ x ∈ p, x ≠ (64 : UInt8) := fun x hx => sgn_ne (List.all_eq_true.1 hp x hx) sgn64
  unfold apB adOk adEnd spB two
  rw [Nat.zero_add]
  rcases hq with rfl | ⟨x, t, rfl, hx⟩
  · rw [next_nil e2, Bool.and_false, Bool.false_and, Bool.false_and]
    refine ⟨?_, fun h => by cases h⟩
    rw [hpq, List.append_nil, cut_nil_of 64 p hne]
    rfl
  · obtain ⟨e3, e4, e5⟩ := next_cons (c := 64) e2
    by_cases hx4 : x = 64
    · subst hx4
      have e6 := dom_eq L (nmLen L 0 + 1) (by omega)
      rw [e4] at e6
      have en : okLen (nmLen L 0) = nameB p := by rw [e1, nameB_all hp]
      have hc : cut 64 L = p :: cut 64 t := (congrArg (cut 64) hpq).trans (cut_at 64 p t hne)
      rw [e3, beq_self_eq_true, Bool.and_true, Bool.and_assoc, e6, en, hc]
      simp only [List.getD_cons_succ, List.getD_cons_zero]
      by_cases hm : (64 : UInt8) ∈ t
      · rw [domB_bad hm, Bool.and_false, decide_eq_false (by rw [List.length_cons]; have := cut_more hm; omega)]
        exact ⟨rfl, fun h => by cases h⟩
      · rw [cut_nil_of 64 t (fun y hy e => hm (e ▸ hy))]
        refine ⟨rfl, fun h => ?_⟩
        have hd : domB t = true := by
          rw [Bool.and_eq_true] at h; exact h.2
        rw [← e6, Bool.and_eq_true] at hd
        have hend : domEnd L (nmLen L 0 + 1) = L.length := of_decide_eq_true hd.2
        constructor
        · unfold adUser
          rw [List.drop_zero, e1]
          conv => lhs; rw [hpq]
          simp
        · unfold adDom adEnd
          rw [Nat.zero_add, hend, e4]
          simp only [List.getD_cons_zero]
          rw [List.take_of_length_le]
          rw [← e4, List.length_drop]
          exact Nat.le_refl _
    · have h0 : nextIs L (nmLen L 0) 64 = false := by rw [e3]; simpa using hx4
      rw [h0, Bool.and_false, Bool.false_and, Bool.false_and]
      refine ⟨?_, fun h => by cases h⟩
      obtain ⟨q', rest, hc⟩ := cut_other 64 p t x hne hx4
      rw [hpq, hc]
      simp only [List.getD_cons_zero]
      rw [nameB_bad (x := x) (by simp) hx]
      simp
end Go.Proofs.Ytkhfflbgnojcfaa
