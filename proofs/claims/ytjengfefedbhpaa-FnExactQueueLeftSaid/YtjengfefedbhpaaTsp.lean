/-
  What strings.Split leaves at a blank is what cutting at a blank leaves. Plain lemmas; no condition.
-/
import Derived.Test.YtjengfefedbhpaaTm
import Derived.Shelf.Strings.Split
namespace Go.Proofs.Ytjengfefedbhpaa
set_option linter.unusedVariables false

theorem splitK_one (c : UInt8) (l : List UInt8) : ∃ p ps, Lib.splitK [c] 0 (l.count c) l = p :: ps ∧ ∀ cur, cutGo c cur l = (cur ++ p) :: ps := by
  induction l with
  | nil => exact ⟨[], [], rfl, fun cur => by simp [cutGo]⟩
  | cons x l ih =>
    obtain ⟨p, ps, h1, h2⟩ := ih
    by_cases hx : x = c
    · subst hx
      refine ⟨[], p :: ps, ?_, fun cur => ?_⟩
      · have hi : Lib.index (x :: l) [x] = 0 := by
          rw [Lib.index_one]
          unfold Lib.indexByte
          simp
        rw [List.count_cons_self, Lib.splitK, hi]
        simp [h1]
      · have := h2 []
        rw [List.nil_append] at this
        rw [cutGo, if_pos rfl, this, List.append_nil]
    · refine ⟨x :: p, ps, ?_, fun cur => ?_⟩
      · rw [List.count_cons_of_ne (by simpa using hx)]
        cases hk : l.count c with
        | zero =>
          rw [hk, Lib.splitK] at h1
          rw [Lib.splitK]
          simp at h1 ⊢
          exact ⟨h1.1, h1.2⟩
        | succ k =>
          rw [hk, Lib.splitK] at h1
          rw [Lib.splitK]
          rw [Lib.index_one] at h1 ⊢
          have hb : Lib.indexByte (x :: l) c = if Lib.indexByte l c == -1 then -1 else Lib.indexByte l c + 1 := by
            rw [Lib.indexByte, if_neg (by simpa using hx)]
          have hge := Lib.indexByte_ge l c
          rw [hb]
          by_cases hm : Lib.indexByte l c = -1
          · rw [hm] at h1 ⊢
            simp at h1 ⊢
            exact ⟨h1.1, h1.2⟩
          · have hm' : (Lib.indexByte l c == -1) = false := beq_eq_false_iff_ne.2 hm
            rw [hm'] at h1 ⊢
            obtain ⟨i, hi⟩ : ∃ i : Nat, Lib.indexByte l c = (i : Int) := ⟨(Lib.indexByte l c).toNat, by omega⟩
            rw [hi] at h1 ⊢
            have e1 : (((i : Int) + 1) == -1) = false := beq_eq_false_iff_ne.2 (by omega)
            have e2 : ((i : Int) + 1).toNat = i + 1 := by omega
            have e3 : ((i : Int)).toNat = i := by omega
            simp only [Bool.false_eq_true, if_false, e1, e2, e3, List.length_cons, List.length_nil, Nat.zero_add, Nat.add_zero] at h1 ⊢
            rw [List.take_succ_cons, List.drop_succ_cons]
            simp only [List.cons.injEq] at h1 ⊢
            first
              | exact ⟨⟨rfl, h1.1⟩, h1.2⟩
              | exact ⟨⟨trivial, h1.1⟩, h1.2⟩
              | exact ⟨h1.1, h1.2⟩
      · rw [cutGo, if_neg hx, h2]
        simp
theorem cutGo_part (c : UInt8) (l : List UInt8) : ∀ cur p, p ∈ cutGo c cur l → p.length ≤ cur.length + l.length := by
  induction l with
  | nil => intro cur p hp; simp [cutGo] at hp; subst hp; simp
  | cons x l ih =>
    intro cur p hp
    rw [cutGo] at hp
    split at hp
    · rcases List.mem_cons.1 hp with h | h
      · rw [h, List.length_cons]; omega
      · have := ih [] p h; simp at this; rw [List.length_cons]; omega
    · have := ih _ p hp; simp at this; rw [List.length_cons]; omega
theorem cut_part {c : UInt8} {l p : List UInt8} (hp : p ∈ cut c l) : p.length ≤ l.length := by
  have := cutGo_part c l [] p hp
  simpa using this
theorem split_words (s : ByteArray) : Lib.splitB ⟨#[32]⟩ 0 (Lib.countB s ⟨#[32]⟩) s = wdsF s := by
  have h1 : Lib.countB s ⟨#[32]⟩ = (kb s).count 32 := Lib.count_one 32 s.data.toList
  have h2 := Lib.splitB_data ⟨#[32]⟩ 0 (Lib.countB s ⟨#[32]⟩) s
  obtain ⟨p, ps, h3, h4⟩ := splitK_one 32 (kb s)
  have h5 : (Lib.splitB ⟨#[32]⟩ 0 (Lib.countB s ⟨#[32]⟩) s).map (·.data.toList) = cut 32 (kb s) := by
    rw [h2, h1]
    unfold cut
    rw [h4 []]
    exact h3
  unfold wdsF
  rw [← h5, List.map_map]
  conv => lhs; rw [← List.map_id (Lib.splitB ⟨#[32]⟩ 0 (Lib.countB s ⟨#[32]⟩) s)]
  exact List.map_congr_left fun x _ => (rB_of x).symm
theorem split_count (s : ByteArray) : Lib.countB s ⟨#[32]⟩ + 1 = (wdsF s).length := by
  rw [← split_words]
  exact (Lib.splitB_all ⟨#[32]⟩ (by decide) 0 _ s rfl).symm
end Go.Proofs.Ytjengfefedbhpaa
