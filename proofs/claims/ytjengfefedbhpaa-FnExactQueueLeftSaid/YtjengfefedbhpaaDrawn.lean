/-
  The contracts of the drawers of names, domains, addresses and paths: each leaves a short text. Condition: the code can be read.
-/
import Derived.Test.YtjengfefedbhpaaDraw
namespace Go.Proofs.Ytjengfefedbhpaa
open Go.RowKit
set_option linter.unusedVariables false

theorem of_new (b p : Nat) (ls : List (List UInt8)) (w : World) (h : Rd w b p) (hp : p ≤ 1000000) (hn : 1 ≤ ls.length) (hn' : ls.length ≤ 1000000) :
    Calls Try.prog 71 #[.pointer (some ⟨b, 0, none⟩), .slice (some ⟨w.heap.size, 0, none⟩) ls.length ls.length] (w.alloc (.cells (ls.map str).toArray 9))
      fun e w' => ∃ l, l ∈ ls ∧ e = .returned (str l) ∧ Rd w' b (p + 1) ∧ w.grownBy w' (some b) := by
  have hb := h.lt
  have hA := (Below.refl w.heap.size w).alloc (Nat.le_refl _) (.cells (ls.map str).toArray 9)
  refine (of_any b p w.heap.size ls.length ls _ (h.below hA hb) hp hn hn' (by omega) (by simp) (fun j hj => ?_)).mono ?_
  · rw [(Whole.made w 9 (ls.map str).toArray).cell j, List.getElem?_toArray, List.getElem?_map, List.getD_eq_getElem?_getD, List.getElem?_eq_getElem hj]
    rfl
  · rintro e w' ⟨l, hl, he, hr, hg⟩
    exact ⟨l, hl, he, hr, gr_trans (gr_alloc (gr_refl _ _) _) hg⟩

/-- A drawn text. -/
def Text (w : World) (b p : Nat) (e : Ending) (w' : World) : Prop := ∃ s : ByteArray, s.size ≤ 30 ∧ e = .returned (.string s) ∧ Rd w' b (p + 2) ∧ w.grownBy w' (some b)
theorem text_le {ls : List (List UInt8)} {l : List UInt8} (h : ls.all (fun x => decide (x.length ≤ 30)) = true) (hl : l ∈ ls) : (⟨l.toArray⟩ : ByteArray).size ≤ 30 := by
  rw [List.all_eq_true] at h
  exact of_decide_eq_true (h l hl)

set_option maxHeartbeats 1000000 in
theorem name_text (b p : Nat) (w : World) (h : Rd w b p) (hp : p ≤ 900000) :
    Calls Try.prog 58 #[.pointer (some ⟨b, 0, none⟩)] w (Text w b p) := by
  have H := Lib.hid h
  clear h
  go_enter Try.func58, Try.ntmps58
  go_wp2_with fail
  refine (pick_any b p 16 w H.out (by omega) (by omega) (by omega)).mono ?_
  rintro e w1 ⟨x, hx, rfl, hr, hg⟩
  have HR := Lib.hid hr
  have HG := Lib.hid hg
  clear hr hg
  by_cases h0 : x = 0
  · subst h0
    go_wp2_with fail
    refine (of_new b (p + 1) [[], [65], [116, 111, 111, 108, 111, 110, 103, 49, 50], [97, 45, 98], [101, 105, 103, 104, 116, 56, 56, 56], [48], [97, 110, 121, 111, 110, 101]] w1 HR.out (by omega) (by decide) (by decide)).mono ?_
    rintro e w2 ⟨l, hl, rfl, hr2, hg2⟩
    have H2 := Lib.hid (And.intro hr2 hg2)
    have HL := Lib.hid hl
    clear hr2 hg2 hl
    unfold str
    go_wp2
    go_ret
    exact ⟨_, text_le (by decide) HL.out, rfl, H2.out.1, gr_trans HG.out H2.out.2⟩
  · have h0' : ((x : Int) == 0) = false := by simp; omega
    go_wp2_with fail
    refine (of_new b (p + 1) [[97, 109, 121], [98, 111, 98], [99, 121, 100], [100, 97, 110], [98, 111, 120, 49], [120]] w1 HR.out (by omega) (by decide) (by decide)).mono ?_
    rintro e w2 ⟨l, hl, rfl, hr2, hg2⟩
    have H2 := Lib.hid (And.intro hr2 hg2)
    have HL := Lib.hid hl
    clear hr2 hg2 hl
    unfold str
    go_wp2
    go_ret
    exact ⟨_, text_le (by decide) HL.out, rfl, H2.out.1, gr_trans HG.out H2.out.2⟩
end Go.Proofs.Ytjengfefedbhpaa
