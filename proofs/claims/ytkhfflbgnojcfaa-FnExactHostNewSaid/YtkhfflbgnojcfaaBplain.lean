/-
  The decoder of the model on lists of bytes; proofs of a user's password in base64. Plain definitions and lemmas; no condition.
-/
import Derived.Test.YtkhfflbgnojcfaaBmath
import Derived.Test.YtkhfflbgnojcfaaAmath
namespace Go.Proofs.Ytkhfflbgnojcfaa
set_option linter.unusedVariables false

/-- The number of a sign; other signs count as 0. -/
def val (c : UInt8) : Nat := (num c).getD 0
theorem val_sig {n : Nat} (h : n < 64) : val (sig n) = n := by unfold val; rw [num_sig h]; rfl
theorem val61 : val 61 = 0 := by decide
theorem val_lt (c : UInt8) : val c < 64 := by
  unfold val
  cases h : num c with
  | none => simp
  | some n => exact (num_some h).1
/-- The number of four signs. -/
def n4 (a b c d : UInt8) : Nat := 64 * (64 * (64 * val a + val b) + val c) + val d
theorem n4_lt (a b c d : UInt8) : n4 a b c d < 16777216 := by
  unfold n4
  have := val_lt a; have := val_lt b; have := val_lt c; have := val_lt d
  omega
/-- What the model's decoder makes of groups of four signs. -/
def dl : List UInt8 → List UInt8
  | a :: b :: c :: d :: t => UInt8.ofNat (n4 a b c d / 65536) :: UInt8.ofNat (n4 a b c d / 256 % 256) :: UInt8.ofNat (n4 a b c d % 256) :: dl t
  | _ => []
theorem dl_more (a b c d : UInt8) (t : List UInt8) : dl (a :: b :: c :: d :: t) = UInt8.ofNat (n4 a b c d / 65536) :: UInt8.ofNat (n4 a b c d / 256 % 256) :: UInt8.ofNat (n4 a b c d % 256) :: dl t := rfl
theorem dl_len : ∀ t : List UInt8, (dl t).length = t.length / 4 * 3
  | [] => rfl
  | [_] => by simp [dl]
  | [_, _] => by simp [dl]
  | [_, _, _] => by simp [dl]
  | a :: b :: c :: d :: t => by
    rw [dl_more]
    simp only [List.length_cons]
    rw [dl_len t]
    omega
theorem byte_back (a : UInt8) (n : Nat) (h : n = a.toNat) : UInt8.ofNat n = a := by subst h; simp
theorem n4_full (n : Nat) (h : n < 16777216) : n4 (q0 n) (q1 n) (q2 n) (q3 n) = n := by
  unfold n4 q0 q1 q2 q3
  rw [val_sig (q0_lt h), val_sig (by omega), val_sig (by omega), val_sig (by omega)]
  omega
theorem n4_two (n : Nat) (h : n < 16777216) (h6 : n % 64 = 0) : n4 (q0 n) (q1 n) (q2 n) 61 = n := by
  unfold n4 q0 q1 q2
  rw [val_sig (q0_lt h), val_sig (by omega), val_sig (by omega), val61]
  omega
theorem n4_one (n : Nat) (h : n < 16777216) (h6 : n % 4096 = 0) : n4 (q0 n) (q1 n) 61 61 = n := by
  unfold n4 q0 q1
  rw [val_sig (q0_lt h), val_sig (by omega), val61]
  omega
theorem bytes3 (a b c : UInt8) : UInt8.ofNat (n24 a b c / 65536) = a ∧ UInt8.ofNat (n24 a b c / 256 % 256) = b ∧ UInt8.ofNat (n24 a b c % 256) = c := by
  have := a.toNat_lt; have := b.toNat_lt; have := c.toNat_lt
  unfold n24
  exact ⟨byte_back a _ (by omega), byte_back b _ (by omega), byte_back c _ (by omega)⟩
/-- The decoder gives the bytes back, and zeros behind them. -/
theorem dl_enc : ∀ s : List UInt8, ∃ k, k ≤ 2 ∧ dl (enc s) = s ++ List.replicate k 0
  | [] => ⟨0, by omega, rfl⟩
  | [a] => by
    refine ⟨2, by omega, ?_⟩
    have hz : (0 : UInt8).toNat = 0 := rfl
    rw [enc_one, dl_more, n4_one _ (n24_lt a 0 0) (by unfold n24; rw [hz]; omega), (bytes3 a 0 0).1, (bytes3 a 0 0).2.1, (bytes3 a 0 0).2.2]
    rfl
  | [a, b] => by
    refine ⟨1, by omega, ?_⟩
    have hz : (0 : UInt8).toNat = 0 := rfl
    rw [enc_two, dl_more, n4_two _ (n24_lt a b 0) (by unfold n24; rw [hz]; omega), (bytes3 a b 0).1, (bytes3 a b 0).2.1, (bytes3 a b 0).2.2]
    rfl
  | a :: b :: c :: t => by
    obtain ⟨k, hk, h⟩ := dl_enc t
    refine ⟨k, hk, ?_⟩
    rw [enc_more, dl_more, n4_full _ (n24_lt a b c), (bytes3 a b c).1, (bytes3 a b c).2.1, (bytes3 a b c).2.2, h]
    rfl
/-- A beginning of what was decoded whose text is the given one. -/
theorem dec_hit {text : List UInt8} {k : Nat} (hl : text.length ≤ 40) (h : enc ((dl text).take k) = text) : Dec text true ((dl text).take k) := by
  refine ⟨fun _ => ⟨?_, h⟩, fun h => by cases h⟩
  have := dl_len text
  rw [List.length_take]
  omega
/-- None of the beginnings has the given text. -/
theorem dec_miss {text : List UInt8} (h : ∀ k, k ≤ 2 → k ≤ (dl text).length → enc ((dl text).take ((dl text).length - k)) ≠ text) : Dec text false [] := dec_no (by
  rintro t rfl
  obtain ⟨k, hk, he⟩ := dl_enc t
  refine h k hk (by rw [he]; simp) ?_
  rw [he]
  congr 1
  simp)

/-- The bytes of a proof. -/
def two0 (u p : List UInt8) : List UInt8 := 0 :: (u ++ 0 :: p)
/-- The text of a proof. -/
def mk (u p : List UInt8) : List UInt8 := if (nameB u && nameB p) = true then enc (two0 u p) else []
theorem mk_yes {u p : List UInt8} (hu : nameB u = true) (hp : nameB p = true) : mk u p = enc (two0 u p) := by unfold mk; rw [hu, hp]; rfl
theorem mk_no {u p : List UInt8} (h : (nameB u && nameB p) = false) : mk u p = [] := by unfold mk; rw [h]; rfl
theorem enc_ne {s : List UInt8} (h : s ≠ []) : enc s ≠ [] := by
  obtain ⟨p, x, y, h1, _⟩ := enc_last s h
  rw [h1]
  simp
theorem mk_ne {u p : List UInt8} (h : mk u p ≠ []) : nameB u = true ∧ nameB p = true := by
  cases hv : (nameB u && nameB p)
  · exact absurd (mk_no hv) h
  · simpa using hv
theorem two0_len {u p : List UInt8} (hu : nameB u = true) (hp : nameB p = true) : (two0 u p).length ≤ 30 := by
  have := (nameB_iff.1 hu).2.2
  have := (nameB_iff.1 hp).2.2
  unfold two0
  simp only [List.length_cons, List.length_append]
  omega
theorem sgn0 : sgn 0 = false := by decide
theorem cut_two0 {u p : List UInt8} (hu : nameB u = true) (hp : nameB p = true) : cut 0 (two0 u p) = [[], u, p] := by
  unfold two0
  have h1 := cut_at 0 [] (u ++ 0 :: p) (by simp)
  rw [List.nil_append] at h1
  rw [h1, cut_at 0 u p (name_no46 hu 0 sgn0), cut_nil_of 0 p (name_no46 hp 0 sgn0)]
theorem cutGo_three (c : UInt8) (l : List UInt8) : ∀ cur a b d, cutGo c cur l = [a, b, d] → cur ++ l = a ++ c :: (b ++ c :: d) := by
  induction l with
  | nil => intro cur a b d h; simp [cutGo] at h
  | cons x t ih =>
    intro cur a b d h
    unfold cutGo at h
    split at h
    · rename_i hx
      rw [List.cons.injEq] at h
      have h2 := cutGo_two c t [] b d h.2
      rw [← h.1, ← h2, hx]
      rfl
    · have := ih _ _ _ _ h
      simpa using this
/-- What a reader of proofs tells. -/
def PP (text : List UInt8) (o : Bool) (u p : List UInt8) : Prop :=
  (o = true → nameB u = true ∧ nameB p = true ∧ enc (two0 u p) = text) ∧ (o = false → u = [] ∧ p = [] ∧ ∀ a b : List UInt8, nameB a = true → nameB b = true → enc (two0 a b) ≠ text)
theorem two0_inj {u p v q : List UInt8} (hu : nameB u = true) (hp : nameB p = true) (hv : nameB v = true) (hq : nameB q = true) (h : two0 u p = two0 v q) : u = v ∧ p = q := by
  have h1 := cut_two0 hu hp
  rw [h, cut_two0 hv hq] at h1
  simp only [List.cons.injEq, and_true, true_and] at h1
  exact ⟨h1.1.symm, h1.2.symm⟩
theorem pp_any (text : List UInt8) : ∃ o u p, PP text o u p := by
  by_cases h : ∃ u p : List UInt8, nameB u = true ∧ nameB p = true ∧ enc (two0 u p) = text
  · obtain ⟨u, p, h1, h2, h3⟩ := h
    exact ⟨true, u, p, fun _ => ⟨h1, h2, h3⟩, fun h => by cases h⟩
  · exact ⟨false, [], [], fun h => (by cases h), fun _ => ⟨rfl, rfl, fun a b h1 h2 h3 => h ⟨a, b, h1, h2, h3⟩⟩⟩
theorem pp_one {text : List UInt8} {o o' : Bool} {u p u' p' : List UInt8} (h : PP text o u p) (k : PP text o' u' p') : o = o' ∧ u = u' ∧ p = p' := by
  cases o <;> cases o'
  · obtain ⟨h1, h2, _⟩ := h.2 rfl
    obtain ⟨k1, k2, _⟩ := k.2 rfl
    rw [h1, h2, k1, k2]
    exact ⟨rfl, rfl, rfl⟩
  · obtain ⟨k1, k2, k3⟩ := k.1 rfl
    exact absurd k3 ((h.2 rfl).2.2 _ _ k1 k2)
  · obtain ⟨k1, k2, k3⟩ := h.1 rfl
    exact absurd k3 ((k.2 rfl).2.2 _ _ k1 k2)
  · obtain ⟨h1, h2, h3⟩ := h.1 rfl
    obtain ⟨k1, k2, k3⟩ := k.1 rfl
    obtain ⟨e1, e2⟩ := two0_inj h1 h2 k1 k2 (enc_inj _ _ (h3.trans k3.symm))
    exact ⟨rfl, e1, e2⟩
theorem pp_yes {text s u p : List UInt8} (hd : Dec text true s) (hc : cut 0 s = [[], u, p]) (hu : nameB u = true) (hp : nameB p = true) : PP text true u p := by
  refine ⟨fun _ => ⟨hu, hp, ?_⟩, fun h => by cases h⟩
  have h := cutGo_three 0 s [] [] u p hc
  rw [← (hd.1 rfl).2]
  congr 1
  unfold two0
  simpa using h.symm
theorem pp_no {text s : List UInt8} {o : Bool} (hd : Dec text o s) (h : o = true → ∀ u p, cut 0 s = [[], u, p] → nameB u = true → nameB p = true → False) : PP text false [] [] := by
  refine ⟨fun h => (by cases h), fun _ => ⟨rfl, rfl, ?_⟩⟩
  intro a b ha hb he
  have hk := dec_of (two0_len ha hb)
  rw [he] at hk
  obtain ⟨e1, e2⟩ := dec_one hd hk
  exact h e1 a b (by rw [e2]; exact cut_two0 ha hb) ha hb
theorem pp_mk {u p : List UInt8} (h : mk u p ≠ []) : PP (mk u p) true u p := by
  obtain ⟨h1, h2⟩ := mk_ne h
  exact ⟨fun _ => ⟨h1, h2, (mk_yes h1 h2).symm⟩, fun h => by cases h⟩
theorem mk_pp {text u p : List UInt8} (h : PP text true u p) : mk u p = text := by
  obtain ⟨h1, h2, h3⟩ := h.1 rfl
  rw [mk_yes h1 h2, h3]
theorem mk_dec {u p : List UInt8} (h : mk u p ≠ []) : Dec (mk u p) true (two0 u p) := by
  obtain ⟨h1, h2⟩ := mk_ne h
  rw [mk_yes h1 h2]
  exact dec_of (two0_len h1 h2)
theorem mk_nil {u p : List UInt8} : mk u p = [] ↔ (nameB u = false ∨ nameB p = false) := by
  constructor
  · intro h
    cases hv : (nameB u && nameB p)
    · exact Bool.and_eq_false_iff.1 hv
    · rw [Bool.and_eq_true] at hv
      rw [mk_yes hv.1 hv.2] at h
      exact absurd h (enc_ne (by unfold two0; simp))
  · intro h
    refine mk_no ?_
    rcases h with h | h <;> rw [h] <;> simp
theorem mk_swap {u p : List UInt8} (h : mk u p ≠ []) : mk p u = mk u p ↔ u = p := by
  obtain ⟨h1, h2⟩ := mk_ne h
  constructor
  · intro he
    rw [mk_yes h1 h2, mk_yes h2 h1] at he
    exact (two0_inj h2 h1 h1 h2 (enc_inj _ _ he)).2
  · rintro rfl
    rfl
theorem enc000 : enc [0, 0, 0] = [65, 65, 65, 65] := by decide
theorem pp_more {text u p : List UInt8} (h : PP text true u p) : PP ([65, 65, 65, 65] ++ text) false [] [] := by
  obtain ⟨_, _, h3⟩ := h.1 rfl
  refine ⟨fun h => (by cases h), fun _ => ⟨rfl, rfl, ?_⟩⟩
  intro a b ha hb he
  rw [← h3, ← enc000, ← enc_app _ _ (by rfl)] at he
  have h4 := enc_inj _ _ he
  unfold two0 at h4
  rw [List.cons_append, List.cons.injEq] at h4
  have h5 := h4.2
  obtain ⟨q1, q2, _⟩ := nameB_iff.1 ha
  match a, q1, q2, h5 with
  | x :: a', q1, _, h5 =>
    rw [List.cons_append, List.cons_append, List.cons.injEq] at h5
    have hx := List.all_eq_true.1 q1 x (by simp)
    rw [h5.1] at hx
    exact absurd hx (by decide)
end Go.Proofs.Ytkhfflbgnojcfaa
