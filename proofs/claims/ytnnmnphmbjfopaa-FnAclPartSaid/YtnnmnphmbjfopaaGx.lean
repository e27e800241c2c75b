/-
  The contracts of DrawAclValid, DrawAclSet and DrawAclRights. Condition: the code can be read.
-/
import Derived.Test.YtnnmnphmbjfopaaGw
namespace Go.Proofs.Ytnnmnphmbjfopaa
open Go.RowKit
set_option linter.unusedVariables false

/-- Grants that were drawn. -/
def Grs (w w' : World) (A : Option Addr) (N cap : Nat) (L : List Gr) : Prop := N ≤ 8 ∧ (∀ g ∈ L, g.1.size ≤ 30) ∧ ROwn grR w' w.heap.size (.slice A N cap) L ∧ Below w.heap.size w w'
theorem Grs.gin {w w' : World} {A : Option Addr} {N cap : Nat} {L : List Gr} (h : Grs w w' A N cap L) : GIn w' A N cap L := GIn.of h.2.2.1 (by have := h.1; omega) (fun g hg => Nat.le_trans (h.2.1 g hg) (by omega))
def DrewAL (w : World) (e : Ending) (w' : World) : Prop := ∃ A N cap L, e = .returned (.slice A N cap) ∧ Grs w w' A N cap L
def DrewAS (w : World) (e : Ending) (w' : World) : Prop := ∃ A N cap L s x, e = .returned (.tuple #[.slice A N cap, .string s, .int .i64 x]) ∧ s.size ≤ 30 ∧ Grs w w' A N cap L
def DrewAR (w : World) (e : Ending) (w' : World) : Prop := ∃ A N cap L s t, e = .returned (.tuple #[.slice A N cap, .string s, .string t]) ∧ s.size ≤ 30 ∧ t.size ≤ 30 ∧ Grs w w' A N cap L
/-- Beside a reader. -/
def GrR (w wr : World) (b q N : Nat) (v : Value) (L : List Gr) : Prop := Rd wr b q ∧ ROwn grR wr (b + 1) v L ∧ Below b w wr ∧ (∀ g ∈ L, g.1.size ≤ 30) ∧ N ≤ 8 ∧ b = w.heap.size
theorem GrR.read {w wr w' : World} {b q q' N : Nat} {v : Value} {L : List Gr} (h : GrR w wr b q N v L) (hr : Rd w' b q') (hg : wr.grownBy w' (some b)) : GrR w w' b q' N v L :=
  ⟨hr, h.2.1.grown hg (by omega), below_gr h.2.2.1 hg (by have := h.1.lt; omega) (Nat.le_refl _), h.2.2.2⟩
theorem GrR.done {w wr : World} {b q N cap : Nat} {A : Option Addr} {L : List Gr} (h : GrR w wr b q N (.slice A N cap) L) : Grs w wr A N cap L := ⟨h.2.2.2.2.1, h.2.2.2.1, h.2.1.from (by have := h.2.2.2.2.2; omega), by rw [← h.2.2.2.2.2]; exact h.2.2.1⟩
theorem acl_first {b : Nat} (w w1 : World) (hb : b = w.heap.size) (hr : Rd w1 b 0) (hB : Below b w w1) : Calls Try.prog 54 #[.pointer (some ⟨b, 0, none⟩)] w1 fun e w' => ∃ A N cap L q, e = .returned (.slice A N cap) ∧ q ≤ 30 ∧ GrR w w' b q N (.slice A N cap) L := by
  refine (acl_draw b 0 w1 hr (by omega)).mono ?_
  rintro e w' ⟨A, N, cap, L, q, rfl, hq, hN, hz, ho, hr2, hg⟩
  have hlt := hr.lt
  exact ⟨A, N, cap, L, q, rfl, by omega, hr2, ho.from (by omega), below_gr hB hg (by omega) (Nat.le_refl _), hz, hN, hb⟩
set_option maxHeartbeats 2000000 in
theorem draw_aclvalid (A : Option Addr) (len cap : Nat) (w : World) (h : Coded w A len cap) : Calls Try.prog 27 #[.slice A len cap] w (DrewAL w) := by
  have HK := Lib.hid h.2.2
  have hk1 := h.1
  have hk2 := h.2.1
  clear h
  go_enter Try.func27, Try.ntmps27
  go_wp2_with fail
  refine (open_any A len cap _ hk1 hk2 HK.out).mono ?_
  rintro e w1 ⟨rfl, hr, hb, hz⟩
  have HR := Lib.hid hr
  have HB := Lib.hid hb
  clear hr hb
  go_wp2_with fail
  refine (acl_first w w1 rfl HR.out HB.out).mono ?_
  rintro e w2 ⟨A2, N2, cap2, L, q, rfl, hq, hg⟩
  have HG := Lib.hid hg.done
  clear hg
  go_wp2
  go_ret
  exact ⟨A2, N2, cap2, L, rfl, HG.out⟩
set_option maxHeartbeats 2000000 in
theorem draw_aclrights (A : Option Addr) (len cap : Nat) (w : World) (h : Coded w A len cap) : Calls Try.prog 36 #[.slice A len cap] w (DrewAR w) := by
  have HK := Lib.hid h.2.2
  have hk1 := h.1
  have hk2 := h.2.1
  clear h
  go_enter Try.func36, Try.ntmps36
  go_wp2_with fail
  refine (open_any A len cap _ hk1 hk2 HK.out).mono ?_
  rintro e w1 ⟨rfl, hr, hb, hz⟩
  have HR := Lib.hid hr
  have HB := Lib.hid hb
  clear hr hb
  go_wp2_with fail
  refine (acl_first w w1 rfl HR.out HB.out).mono ?_
  rintro e w2 ⟨A2, N2, cap2, L, q, rfl, hq, hg⟩
  have HG := Lib.hid hg
  clear hg
  go_wp2_with fail
  refine (name_text w.heap.size q w2 HG.out.1 (by omega)).mono ?_
  rintro e w3 ⟨s, hs, rfl, hr, hg⟩
  have HG3 := Lib.hid (HG.out.read hr hg)
  clear hr hg
  go_wp2_with fail
  refine (name_text w.heap.size (q + 2) w3 HG3.out.1 (by omega)).mono ?_
  rintro e w4 ⟨t, ht, rfl, hr, hg⟩
  have HG4 := Lib.hid (HG3.out.read hr hg)
  clear hr hg
  go_wp2
  go_ret3
  exact ⟨A2, N2, cap2, L, s, t, rfl, hs, ht, HG4.out.done⟩
def fourG : List Gr := [(⟨#[97]⟩, 1), (⟨#[98]⟩, 2), (⟨#[99]⟩, 3), (⟨#[100]⟩, 63)]
theorem four_size : ∀ g ∈ fourG, g.1.size ≤ 30 := by decide
set_option maxHeartbeats 4000000 in
theorem draw_aclset (A : Option Addr) (len cap : Nat) (w : World) (h : Coded w A len cap) : Calls Try.prog 30 #[.slice A len cap] w (DrewAS w) := by
  have HK := Lib.hid h.2.2
  have hk1 := h.1
  have hk2 := h.2.1
  clear h
  go_enter Try.func30, Try.ntmps30
  go_wp2_with fail
  refine (open_any A len cap _ hk1 hk2 HK.out).mono ?_
  rintro e w1 ⟨rfl, hr, hb, hz⟩
  have HR := Lib.hid hr
  have HB := Lib.hid hb
  clear hr hb
  go_wp2_with fail
  refine (acl_first w w1 rfl HR.out HB.out).mono ?_
  rintro e w2 ⟨A2, N2, cap2, L, q, rfl, hq, hg⟩
  have HG := Lib.hid hg
  clear hg
  go_wp2_with fail
  refine (pick_any w.heap.size q 12 w2 HG.out.1 (by omega) (by omega) (by omega)).mono ?_
  rintro e w3 ⟨x, hx, rfl, hr, hg⟩
  have HG3 := Lib.hid (HG.out.read hr hg)
  clear hr hg
  obtain ⟨w4, A4, N4, cap4, L4, h4, HG4⟩ : ∃ w4 A4 N4 cap4 L4, ((x = 0 ∧ w4 = w3.alloc (.cells #[.string ⟨#[97]⟩, .int .i64 1, .string ⟨#[98]⟩, .int .i64 2, .string ⟨#[99]⟩, .int .i64 3, .string ⟨#[100]⟩, .int .i64 63] 40) ∧ A4 = some ⟨w3.heap.size, 0, none⟩ ∧ N4 = 4 ∧ cap4 = 4) ∨ (x ≠ 0 ∧ w4 = w3 ∧ A4 = A2 ∧ N4 = N2 ∧ cap4 = cap2)) ∧ Hid (GrR w w4 w.heap.size (q + 1) N4 (.slice A4 N4 cap4) L4) := by
    by_cases h0 : x = 0
    · refine ⟨_, _, _, _, fourG, .inl ⟨h0, rfl, rfl, rfl, rfl⟩, ?_⟩
      have hlt := HG3.out.1.lt
      have hA := (Below.refl w3.heap.size w3).alloc (Nat.le_refl _) (.cells #[.string ⟨#[97]⟩, .int .i64 1, .string ⟨#[98]⟩, .int .i64 2, .string ⟨#[99]⟩, .int .i64 3, .string ⟨#[100]⟩, .int .i64 63] 40)
      refine ⟨HG3.out.1.below hA hlt, ?_, HG3.out.2.2.1.trans (hA.mono (by omega)), four_size, by omega, rfl⟩
      exact World.ownsRow_lit w3 #[.string ⟨#[97]⟩, .int .i64 1, .string ⟨#[98]⟩, .int .i64 2, .string ⟨#[99]⟩, .int .i64 3, .string ⟨#[100]⟩, .int .i64 63] 4 (by omega) (by unfold maxLen; omega) rfl
    · exact ⟨w3, A2, N2, cap2, L, .inr ⟨h0, rfl, rfl, rfl, rfl⟩, HG3⟩
  rcases h4 with ⟨rfl, rfl, rfl, rfl, rfl⟩ | ⟨h0, rfl, rfl, rfl, rfl⟩
  · go_wp2_with fail
    refine (name_text w.heap.size (q + 1) _ HG4.out.1 (by omega)).mono ?_
    rintro e w5 ⟨s, hs, rfl, hr, hg⟩
    have HG5 := Lib.hid (HG4.out.read hr hg)
    clear hr hg
    go_wp2_with fail
    refine (pick_any w.heap.size (q + 1 + 2) 4 _ HG5.out.1 (by omega) (by omega) (by omega)).mono ?_
    rintro e w6 ⟨y, hy, rfl, hr, hg⟩
    have HG6 := Lib.hid (HG5.out.read hr hg)
    clear hr hg
    by_cases hy0 : y = 0
    · subst hy0
      go_wp2
      go_ret3
      exact ⟨_, _, _, _, s, 0, rfl, hs, HG6.out.done⟩
    · have hy0' : ((y : Int) == 0) = false := beq_eq_false_iff_ne.2 (by omega)
      clear hy0
      go_wp2_with fail
      refine (rights_draw w.heap.size (q + 1 + 2 + 1) w6 HG6.out.1 (by omega)).mono ?_
      rintro e w7 ⟨f, q2, hf1, hf2, hq2, rfl, hr, hg⟩
      have HG7 := Lib.hid (HG6.out.read hr hg)
      clear hr hg
      go_wp2
      go_ret3
      exact ⟨_, _, _, _, s, f, rfl, hs, HG7.out.done⟩
  · have h0' : ((x : Int) == 0) = false := beq_eq_false_iff_ne.2 (by omega)
    clear h0
    go_wp2_with fail
    refine (name_text w.heap.size (q + 1) _ HG4.out.1 (by omega)).mono ?_
    rintro e w5 ⟨s, hs, rfl, hr, hg⟩
    have HG5 := Lib.hid (HG4.out.read hr hg)
    clear hr hg
    go_wp2_with fail
    refine (pick_any w.heap.size (q + 1 + 2) 4 _ HG5.out.1 (by omega) (by omega) (by omega)).mono ?_
    rintro e w6 ⟨y, hy, rfl, hr, hg⟩
    have HG6 := Lib.hid (HG5.out.read hr hg)
    clear hr hg
    by_cases hy0 : y = 0
    · subst hy0
      go_wp2
      go_ret3
      exact ⟨_, _, _, _, s, 0, rfl, hs, HG6.out.done⟩
    · have hy0' : ((y : Int) == 0) = false := beq_eq_false_iff_ne.2 (by omega)
      clear hy0
      go_wp2_with fail
      refine (rights_draw w.heap.size (q + 1 + 2 + 1) w6 HG6.out.1 (by omega)).mono ?_
      rintro e w7 ⟨f, q2, hf1, hf2, hq2, rfl, hr, hg⟩
      have HG7 := Lib.hid (HG6.out.read hr hg)
      clear hr hg
      go_wp2
      go_ret3
      exact ⟨_, _, _, _, s, f, rfl, hs, HG7.out.done⟩
end Go.Proofs.Ytnnmnphmbjfopaa
