/-
  The contracts of the functions that draw grants, and names and rights beside them. Condition: the code can be read.
-/
import Derived.Test.YtnnmnphmbjfopaaGs
import Derived.Test.YtnnmnphmbjfopaaRd
namespace Go.Proofs.Ytnnmnphmbjfopaa
open Go.RowKit
set_option linter.unusedVariables false

theorem aclG_true {L M : List Gr} {u : ByteArray} {r : Int} (h : aclG L u r = (M, true)) : vG L = true ∧ nameB (kb u) = true ∧ isR r = true ∧ M = setG L u r ∧ M.length ≤ 4 := by
  cases hc : (vG L && (nameB (kb u) && isR r)) with
  | false => rw [aclG_no hc] at h; cases h
  | true =>
    simp only [Bool.and_eq_true] at hc
    rw [aclG_yes hc.1 hc.2.1 hc.2.2] at h
    split at h
    · rename_i hl
      cases h
      exact ⟨hc.1, hc.2.1, hc.2.2, rfl, hl⟩
    · cases h
theorem setG_small {L : List Gr} {u : ByteArray} {r : Int} {m : Nat} (ha : ascG L) (hs : ∀ x ∈ L, x.1.size ≤ m) (hu : u.size ≤ m) : ∀ x ∈ setG L u r, x.1.size ≤ m := by
  intro x hx
  unfold setG at hx
  split at hx
  · exact hs x (delG_mem.1 hx).1
  · rcases (insG_mem ha).1 hx with h | rfl
    · exact hs x h.1
    · exact hu
/-- Drawn grants, so far. -/
def DrG (w wr : World) (b q N : Nat) (v : Value) (L : List Gr) : Prop := Rd wr b q ∧ ROwn grR wr w.heap.size v L ∧ w.grownBy wr (some b) ∧ (∀ g ∈ L, g.1.size ≤ 30) ∧ N ≤ 4 ∧ b < w.heap.size
theorem DrG.read {w wr w' : World} {b q q' N : Nat} {v : Value} {L : List Gr} (h : DrG w wr b q N v L) (hr : Rd w' b q') (hg : wr.grownBy w' (some b)) : DrG w w' b q' N v L := ⟨hr, h.2.1.grown hg h.2.2.2.2.2, gr_trans h.2.2.1 hg, h.2.2.2⟩
theorem DrG.gin {w wr : World} {b q N cap : Nat} {A : Option Addr} {L : List Gr} (h : DrG w wr b q N (.slice A N cap) L) : GIn wr A N cap L := GIn.of h.2.1 (by have := h.2.2.2.2.1; omega) (fun g hg => Nat.le_trans (h.2.2.2.1 g hg) (by omega))
theorem DrG.later {w wr w' : World} {b q N : Nat} {v : Value} {L : List Gr} (h : DrG w wr b q N v L) (hb : Below wr.heap.size wr w') : DrG w w' b q N v L :=
  ⟨h.1.below hb h.1.lt, h.2.1.kept hb, ⟨hb.os.trans h.2.2.1.os, hb.tape.trans h.2.2.1.tape, hb.output.trans h.2.2.1.output, Nat.le_trans h.2.2.1.size hb.size, fun i hi hne => (hb.block i (Nat.lt_of_lt_of_le hi h.2.2.1.size)).trans (h.2.2.1.block i hi hne)⟩, h.2.2.2⟩
theorem rd_far {w w' : World} {b p : Nat} {row : Option Nat} (h : Rd w b p) (hg : w.grownBy w' row) (hne : ∀ g, row = some g → b < g) : Rd w' b p := by
  cases row with
  | none =>
    obtain ⟨A, len, cap, hW, hB⟩ := h
    have hl := hW.lt
    exact ⟨A, len, cap, hW.grown hg (by simp), hB.kept fun q hq => World.cell?_of_block (hg.block q.block (by omega) (by simp))⟩
  | some g => exact h.grown hg (hne g rfl)
theorem gr_far {w a c : World} {b : Nat} {row : Option Nat} (h : w.grownBy a (some b)) (hg : a.grownBy c row) (hrow : ∀ g, row = some g → w.heap.size ≤ g) : w.grownBy c (some b) :=
  ⟨hg.os.trans h.os, hg.tape.trans h.tape, hg.output.trans h.output, Nat.le_trans h.size hg.size, fun i hi hne => (hg.block i (Nat.lt_of_lt_of_le hi h.size) (fun e => by have := hrow i e.symm; omega)).trans (h.block i hi hne)⟩
/-- Drawn grants. -/
def DrewA (w : World) (b p : Nat) (e : Ending) (w' : World) : Prop := ∃ A N cap L q, e = .returned (.slice A N cap) ∧ q ≤ p + 30 ∧ N ≤ 8 ∧ (∀ g ∈ L, g.1.size ≤ 30) ∧ ROwn grR w' w.heap.size (.slice A N cap) L ∧ Rd w' b q ∧ w.grownBy w' (some b)
def gnames : List (List UInt8) := [[97, 109, 121], [98, 111, 98], [99, 121, 100], [97, 110, 121, 111, 110, 101], [100, 97, 110]]
set_option maxRecDepth 20000 in
set_option maxHeartbeats 8000000 in
theorem acl_draw (b p : Nat) (w : World) (h : Rd w b p) (hp : p ≤ 800000) : Calls Try.prog 54 #[.pointer (some ⟨b, 0, none⟩)] w (DrewA w b p) := by
  obtain ⟨i0, hi, hq0, hq1, hq2⟩ := info_parts Try.infoGrant
  have hbl := h.lt
  have HBL := Lib.hid hbl
  have HD0 : Hid (DrG w (w.alloc (.cells #[] 40)) b p 0 (.slice (some ⟨w.heap.size, 0, none⟩) 0 0) []) := Lib.hid ⟨h.below ((Below.refl w.heap.size w).alloc (Nat.le_refl _) _) hbl, ROwn.lit w _ (Nat.le_refl _) rfl, gr_alloc (gr_refl _ _) _, (fun g hg => by cases hg), by omega, hbl⟩
  obtain ⟨w0, hw0⟩ : ∃ w0, w.alloc (.cells #[] 40) = w0 := ⟨_, rfl⟩
  rw [hw0] at HD0
  have HW0 := Lib.hid hw0
  obtain ⟨S, hS⟩ : ∃ S, w.heap.size = S := ⟨_, rfl⟩
  have HS := Lib.hid hS
  rw [hS] at HD0
  clear h hbl hw0 hS
  go_enter Try.func54, Try.ntmps54
  go_wp2_with fail
  rw [HW0.out, HS.out]
  refine (pick_any b p 4 w0 HD0.out.1 (by omega) (by omega) (by omega)).mono ?_
  rintro e w1 ⟨n, hn, rfl, hr, hg⟩
  have HD1 := Lib.hid (HD0.out.read hr hg)
  clear hr hg
  go_wp2
  go_loopw [3, 5] (fun v i wr => ∃ (k q N : Nat) (A : Option Addr) (cap : Nat) (L : List Gr), k ≤ n ∧ q ≤ p + 1 + 3 * k ∧ v = .slice A N cap ∧ i = .int .i64 (k : Int) ∧ Hid (DrG w wr b q N (.slice A N cap) L)) (fun _ i _ => n - (intOf i).toNat)
  case atStart => exact ⟨0, p + 1, 0, _, _, [], Nat.zero_le _, by omega, rfl, by go_num, HD1.out⟩
  case round =>
    obtain ⟨k, q, N, A, cap, L, hk, hq, rfl, rfl, HD⟩ := hrel
    by_cases hlt : k < n
    · have h5 : (k : Int) < (n : Int) := by omega
      go_wp2_with fail
      refine (of_new b q gnames wr HD.out.1 (by omega) (by decide) (by decide)).mono ?_
      rintro e w2 ⟨l, hl, rfl, hr, hg⟩
      have hls : (⟨l.toArray⟩ : ByteArray).size ≤ 30 := by
        have h : ∀ l ∈ gnames, l.length ≤ 30 := by decide
        have := h l hl
        rw [ByteArray.size]
        simpa using this
      have HD2 := Lib.hid (HD.out.read hr hg)
      clear hr hg
      go_wp2_with fail
      refine (pick_any b (q + 1) 8 _ HD2.out.1 (by omega) (by omega) (by omega)).mono ?_
      rintro e w3 ⟨y, hy, rfl, hr, hg⟩
      have HD3 := Lib.hid (HD2.out.read hr hg)
      obtain ⟨m, hm⟩ : ∃ m, y * 8 = m := ⟨_, rfl⟩
      have hm56 : m ≤ 56 := by omega
      have W1 : IntKind.i64.wrap ((y : Int) * 8) = (y : Int) * 8 := IntWalk.i64_in _ (by omega)
      have E1 : (y : Int) * 8 % 63 = (m : Int) := by rw [Int.emod_eq_of_lt (by omega) (by omega)]; omega
      have E2 : ((y : Int) * 8).tmod 63 = (m : Int) := by rw [Int.tmod_eq_emod_of_nonneg (by omega)]; exact E1
      have W2 : IntKind.i64.wrap (1 + (m : Int)) = 1 + (m : Int) := IntWalk.i64_in _ (by omega)
      clear hr hg hm
      go_wp2_with fail
      refine (pick_any b (q + 1 + 1) 7 _ HD3.out.1 (by omega) (by omega) (by omega)).mono ?_
      rintro e w4 ⟨z, hz, rfl, hr, hg⟩
      have HD4 := Lib.hid (HD3.out.read hr hg)
      obtain ⟨x, hx⟩ : ∃ x : Int, 1 + (m : Int) + (z : Int) = x := ⟨_, rfl⟩
      have W3 : IntKind.i64.wrap (1 + (m : Int) + (z : Int)) = x := (IntWalk.i64_in _ (by omega)).trans hx
      obtain ⟨uu, huu⟩ : ∃ uu : ByteArray, (⟨l.toArray⟩ : ByteArray) = uu := ⟨_, rfl⟩
      have HUU : Hid (str l = .string uu) := Lib.hid (congrArg Value.string huu)
      rw [huu] at hls
      obtain ⟨⟨M, zz⟩, hac⟩ : ∃ y, aclG L uu x = y := ⟨_, rfl⟩
      have HAC := Lib.hid hac
      rw [HUU.out]
      clear hr hg hx huu hac
      go_wp2_with fail
      refine (spec_aclset HAC.out _ HD4.out.gin (by omega)).mono ?_
      rintro e w5 ⟨A5, N5, cap5, rfl, ho, hb⟩
      have HD5 := Lib.hid (HD4.out.later hb)
      have HO5 := Lib.hid (ho.from (show w.heap.size ≤ w4.heap.size from HD4.out.2.2.1.size))
      clear ho hb
      cases zz with
      | true =>
        have HT := Lib.hid (aclG_true HAC.out)
        have hl5 : N5 ≤ 4 := by rw [HO5.out.len.1]; exact HT.out.2.2.2.2
        have HDE : Hid (DrG w w5 b (q + 1 + 1 + 1) N5 (.slice A5 N5 cap5) M) := Lib.hid ⟨HD5.out.1, HO5.out, HD5.out.2.2.1, by rw [HT.out.2.2.2.1]; exact setG_small (vG_iff.1 HT.out.1).2.2 HD5.out.2.2.2.1 hls, hl5, HD5.out.2.2.2.2.2⟩
        go_wp2
        go_roundw
        case rel => exact ⟨k + 1, q + 1 + 1 + 1, N5, A5, cap5, M, by omega, by omega, rfl, by go_num, HDE⟩
        case measure => simp [intOf]; omega
      | false =>
        go_wp2
        go_roundw
        case rel => exact ⟨k + 1, q + 1 + 1 + 1, N, A, cap, L, by omega, by omega, rfl, by go_num, HD5⟩
        case measure => simp [intOf]; omega
    · have h5 : ¬ (k : Int) < (n : Int) := by omega
      go_wp2_with fail
      refine (pick_any b q 20 wr HD.out.1 (by omega) (by omega) (by omega)).mono ?_
      rintro e w2 ⟨x, hx, rfl, hr, hg⟩
      have HD2 := Lib.hid (HD.out.read hr hg)
      have hN4 : N ≤ 4 := HD.out.2.2.2.2.1
      clear hr hg
      by_cases h0 : x = 0
      · subst h0
        go_wp2_with fail
        refine (name_text b (q + 1) w2 HD2.out.1 (by omega)).mono ?_
        rintro e w3 ⟨s, hs, rfl, hr, hg⟩
        have HD3 := Lib.hid (HD2.out.read hr hg)
        clear hr hg
        go_wp2_with fail
        refine (pick_any b (q + 1 + 2) 3 _ HD3.out.1 (by omega) (by omega) (by omega)).mono ?_
        rintro e w4 ⟨y, hy, rfl, hr, hg⟩
        have HD4 := Lib.hid (HD3.out.read hr hg)
        clear hr hg
        have HN := Lib.hid HD4.out.2.1.len.1.symm
        have hml : N + 1 ≤ maxLen := by unfold maxLen; omega
        have hby : (N + 1) * 24 ≤ 140737488355328 := by omega
        have hown4 := HD4.out.2.1.alloc (.cells #[.string s, .int .i64 (y : Int)] 40)
        have hnew4 := RAt.made grR w4 [(s, (y : Int))] w4.heap.size rfl
        have hws : w.heap.size ≤ w4.heap.size := HD4.out.2.2.1.size
        go_wp2_with (at_builtin; refine wpList_append_rows rfl (.tmp 38) (.tmp 44) 29 rfl grR w.heap.size i0 _ 24 Try.underlying29 hi hq0 hq1 hq2 rfl (by decide) _ L [(s, (y : Int))] N HN.out rfl hown4 (some ⟨w4.heap.size, 0, none⟩) 1 1 rfl rfl hnew4 (fun e => by cases e) (fun q e => by cases e; rfl) hml hby (by simp; omega) ?_)
        intro v' w5 ho hg _
        obtain ⟨A5, N5, cap5, rfl⟩ := ho.val
        have HO5 := Lib.hid ho
        have hN5 : N5 ≤ 8 := by
          have h1 := ho.len.1
          have h2 := HN.out
          simp only [List.length_append, List.length_cons, List.length_nil] at h1
          omega
        have hfar : ∀ g, (Value.slice A N cap).ownBlock = some g → w.heap.size ≤ g := fun g e => (World.ownsRow.lt HD4.out.2.1 g e).1
        have HR5 := Lib.hid (rd_far (HD4.out.1.below ((Below.refl w4.heap.size w4).alloc (Nat.le_refl _) (.cells #[.string s, .int .i64 (y : Int)] 40)) HD4.out.1.lt) hg (fun g e => Nat.lt_of_lt_of_le HBL.out (hfar g e)))
        have HG5 := Lib.hid (gr_far (gr_alloc HD4.out.2.2.1 _) hg hfar)
        have HZ5 : Hid (∀ g ∈ L ++ [(s, (y : Int))], g.1.size ≤ 30) := Lib.hid (fun g hg => by
          rcases List.mem_append.1 hg with h | h
          · exact HD4.out.2.2.2.1 g h
          · simp at h
            rw [h]
            exact hs)
        clear ho hg hown4 hnew4
        go_wp2
        go_ret
        exact ⟨A5, N5, cap5, _, _, rfl, by omega, hN5, HZ5.out, HO5.out, HR5.out, HG5.out⟩
      · have h0' : ((x : Int) == 0) = false := beq_eq_false_iff_ne.2 (by omega)
        by_cases h1 : x = 1
        · subst h1
          have HN := Lib.hid HD2.out.2.1.len.1.symm
          have hml : N + N ≤ maxLen := by unfold maxLen; omega
          have hby : (N + N) * 24 ≤ 140737488355328 := by omega
          have hown4 := HD2.out.2.1
          have hat := hown4.at
          have hnc := hown4.nilcap
          have hsp := hown4.spot
          have hws : w.heap.size ≤ w2.heap.size := HD2.out.2.2.1.size
          go_wp2_with (at_builtin; refine wpList_append_rows rfl (.tmp 48) (.tmp 49) 29 rfl grR w.heap.size i0 _ 24 Try.underlying29 hi hq0 hq1 hq2 rfl (by decide) _ L L N HN.out rfl hown4 A N cap rfl HN.out hat hnc hsp hml hby hws ?_)
          intro v' w5 ho hg _
          obtain ⟨A5, N5, cap5, rfl⟩ := ho.val
          have HO5 := Lib.hid ho
          have hN5 : N5 ≤ 8 := by
            have h1 := ho.len.1
            have h2 := HN.out
            simp only [List.length_append] at h1
            omega
          have hfar : ∀ g, (Value.slice A N cap).ownBlock = some g → w.heap.size ≤ g := fun g e => (World.ownsRow.lt HD2.out.2.1 g e).1
          have HR5 := Lib.hid (rd_far HD2.out.1 hg (fun g e => Nat.lt_of_lt_of_le HBL.out (hfar g e)))
          have HG5 := Lib.hid (gr_far HD2.out.2.2.1 hg hfar)
          have HZ5 : Hid (∀ g ∈ L ++ L, g.1.size ≤ 30) := Lib.hid (fun g hg => by
            rcases List.mem_append.1 hg with h | h <;> exact HD2.out.2.2.2.1 g h)
          clear ho hg hown4 hat hnc hsp
          go_wp2
          go_ret
          exact ⟨A5, N5, cap5, _, _, rfl, by omega, hN5, HZ5.out, HO5.out, HR5.out, HG5.out⟩
        · have h1' : ((x : Int) == 1) = false := beq_eq_false_iff_ne.2 (by omega)
          clear h0 h1
          go_wp2
          go_ret
          exact ⟨A, N, cap, L, q + 1, rfl, by omega, by omega, HD2.out.2.2.2.1, HD2.out.2.1, HD2.out.1, HD2.out.2.2.1⟩
end Go.Proofs.Ytnnmnphmbjfopaa
