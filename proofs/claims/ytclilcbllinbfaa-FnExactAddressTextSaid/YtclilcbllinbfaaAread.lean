/-
  What follows from a text that was read: its own text, a second at sign, the path of it. Plain lemmas; no condition.
-/
import Derived.Test.YtclilcbllinbfaaApath
namespace Go.Proofs.Ytclilcbllinbfaa
open Go.RowKit
set_option linter.unusedVariables false

theorem text_back {s u d : ByteArray} (h : Is s true u d) : adT u d = s := by
  obtain ⟨h1, rfl, rfl⟩ := h
  unfold adT
  rw [bs_list, bs_list, ad_back h1, bs_of]
theorem itext_at {u d t : ByteArray} (h : adT u d = t) (w : World) (hu : u.size ≤ 16777216) (hd : d.size ≤ 16777216) : Calls Try.prog 33 #[.agg #[.string u, .string d]] w (Told w t) := by
  subst h
  exact itext u d w hu hd
theorem stext_at {u d t : ByteArray} (h : adT u d = t) (w : World) (hu : u.size ≤ 16777216) (hd : d.size ≤ 16777216) : Calls Try.prog 35 #[.agg #[.string u, .string d]] w (Told w t) := by
  subst h
  exact stext u d w hu hd
theorem itext_back {s u d : ByteArray} (h : Is s true u d) (w : World) (hu : u.size ≤ 16777216) (hd : d.size ≤ 16777216) : Calls Try.prog 33 #[.agg #[.string u, .string d]] w (Told w s) :=
  itext_at (text_back h) w hu hd
theorem at_no {s u d v : ByteArray} {k : Nat} (h : Is s true u d) (hv : v.data.toList = ins s.data.toList k (⟨#[64]⟩ : ByteArray).data.toList) : ∃ u2 d2, Is v false u2 d2 :=
  ⟨_, _, by rw [hv]; exact sp_more k h.1, rfl, rfl⟩
theorem bare_parts {s u d : ByteArray} {o : Bool} (h : IsP s o u d) (hb : s.data.toList = bare) : u = ⟨#[]⟩ ∧ d = ⟨#[]⟩ := by
  obtain ⟨_, rfl, rfl⟩ := h
  exact (q_bare hb).2
theorem path_back {s u d : ByteArray} (h : IsP s true u d) (hb : ¬ s.data.toList = bare) : s = (⟨#[60]⟩ : ByteArray) ++ adT u d ++ (⟨#[62]⟩ : ByteArray) := by
  obtain ⟨h1, rfl, rfl⟩ := h
  have h2 := path_text h1 hb
  refine (bs_of s).symm.trans (Eq.trans ?_ (bs_of ((⟨#[60]⟩ : ByteArray) ++ adT (bs (qU s.data.toList)) (bs (qD s.data.toList)) ++ (⟨#[62]⟩ : ByteArray))))
  refine congrArg bs ?_
  rw [cat_list, cat_list]
  unfold adT
  rw [bs_list, bs_list, bs_list]
  exact h2
theorem of_path {s u d : ByteArray} (h : Is s true u d) : IsP ((⟨#[60]⟩ : ByteArray) ++ s ++ (⟨#[62]⟩ : ByteArray)) true u d := by
  obtain ⟨h1, rfl, rfl⟩ := h
  obtain ⟨e1, e2, e3⟩ := path_of h1
  have e : ((⟨#[60]⟩ : ByteArray) ++ s ++ (⟨#[62]⟩ : ByteArray)).data.toList = 60 :: (s.data.toList ++ [62]) := by rw [cat_list, cat_list]; rfl
  unfold IsP
  rw [e, e2, e3]
  exact ⟨e1, rfl, rfl⟩
theorem bare0 {s u d : ByteArray} (h : Is s true u d) : ∃ a b, IsP s false a b := ⟨_, _, path_bare1 h.1, rfl, rfl⟩
theorem bare1 {s u d : ByteArray} (h : Is s true u d) : ∃ a b, IsP ((⟨#[60]⟩ : ByteArray) ++ s) false a b := ⟨_, _, by rw [cat_list]; exact path_bare2 h.1, rfl, rfl⟩
theorem bare2 {s u d : ByteArray} (h : Is s true u d) : ∃ a b, IsP (s ++ (⟨#[62]⟩ : ByteArray)) false a b := ⟨_, _, by rw [cat_list]; exact path_bare3 h.1, rfl, rfl⟩
end Go.Proofs.Ytclilcbllinbfaa
