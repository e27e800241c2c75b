/-
  The contracts of the functions that draw users, and names, passwords and texts beside them. Condition: the code can be read.
-/
import Derived.Test.YtmangdkaklnpdaaUs
import Derived.Test.YtmangdkaklnpdaaPdraw
namespace Go.Proofs.Ytmangdkaklnpdaa
open Go.RowKit
set_option linter.unusedVariables false

theorem ROwn.front {α : Type} {R : RowT α} {w : World} {B g n cap k : Nat} {L : List α} (h : ROwn R w B (.slice (some ⟨g, 0, none⟩) n cap) L) (hk : k ≤ n) : ROwn R w B (.slice (some ⟨g, 0, none⟩) k cap) (L.take k) := by
  have hn := h.len.1
  have hkl : (L.take k).length = k := by rw [List.length_take]; omega
  rcases h.2 with ⟨he, _⟩ | ⟨g', c, cur, he, hB, hg, h1, h2, h3, h4⟩
  · cases he
  · cases he
    refine ⟨rcells_len R _, .inr ⟨g, cap, cur, by rw [hkl], hB, hg, by omega, h2, h3, ?_⟩⟩
    have e : (rcells R L).take (k * R.sz) = rcells R (L.take k) := by
      have e2 : rcells R L = rcells R (L.take k) ++ rcells R (L.drop k) := by rw [← rcells_app, List.take_append_drop]
      rw [e2, List.take_append_of_le_length (by rw [rcells_len, hkl]; exact Nat.le_refl _), List.take_of_length_le (by rw [rcells_len, hkl]; exact Nat.le_refl _)]
    rw [hkl, ← e, ← h4, List.take_take]
    congr 1
    have := Nat.mul_le_mul_right R.sz (show k ≤ L.length by omega)
    omega
/-- Drawn users, so far. -/
def DrU (w wr : World) (b q N : Nat) (v : Value) (L : List Us) : Prop := Rd wr b q ∧ ROwn usR wr w.heap.size v L ∧ w.grownBy wr (some b) ∧ (∀ g ∈ L, g.1.size ≤ 30 ∧ g.2.1.size ≤ 30) ∧ (1 ≤ N ∧ N ≤ 5) ∧ b < w.heap.size
theorem DrU.read {w wr w' : World} {b q q' N : Nat} {v : Value} {L : List Us} (h : DrU w wr b q N v L) (hr : Rd w' b q') (hg : wr.grownBy w' (some b)) : DrU w w' b q' N v L := ⟨hr, h.2.1.grown hg h.2.2.2.2.2, gr_trans h.2.2.1 hg, h.2.2.2⟩
theorem DrU.alloc {w wr : World} {b q N : Nat} {v : Value} {L : List Us} (h : DrU w wr b q N v L) (o : Obj) : DrU w (wr.alloc o) b q N v L := ⟨h.1.below ((Below.refl _ _).alloc (Nat.le_refl _) _) h.1.lt, h.2.1.alloc o, gr_alloc h.2.2.1 _, h.2.2.2⟩
theorem DrU.set {w wr : World} {b q N cap g k : Nat} {L : List Us} {x y : Us} {j : Nat} {u : Value} (h : DrU w wr b q N (.slice (some ⟨g, 0, none⟩) N cap) L) (hx : L[k]? = some x) (hj : j < 3) (hy : usR.enc y = (usR.enc x).set j u) (hs : y.1.size ≤ 30 ∧ y.2.1.size ≤ 30) :
    DrU w (wr.setCell ⟨g, k * 3 + j, none⟩ u) b q N (.slice (some ⟨g, 0, none⟩) N cap) (L.set k y) := by
  obtain ⟨h1, g1⟩ := h.2.1.stored (y := y) hx hj hy
  have hg : w.heap.size ≤ g := (World.ownsRow.lt h.2.1 g rfl).1
  refine ⟨rd_far h.1 g1 (fun z e => by cases e; exact Nat.lt_of_lt_of_le h.2.2.2.2.2 hg), h1, gr_far h.2.2.1 g1 (fun z e => by cases e; exact hg), fun z hz => ?_, h.2.2.2.2.1, h.2.2.2.2.2⟩
  rcases List.mem_or_eq_of_mem_set hz with h2 | h2
  · exact h.2.2.2.1 z h2
  · rw [h2]; exact hs
/-- Drawn users. -/
def DrewU (w : World) (b p : Nat) (e : Ending) (w' : World) : Prop := ∃ g N cap L q, e = .returned (.slice (some ⟨g, 0, none⟩) N cap) ∧ q ≤ p + 10 ∧ DrU w w' b q N (.slice (some ⟨g, 0, none⟩) N cap) L
def usL (y z : Nat) : List Us := [(⟨#[97, 109, 121]⟩, ⟨#[97, 49]⟩, 60), (⟨#[98, 111, 98]⟩, ⟨#[98, 50]⟩, 20 + (y : Int)), (⟨#[99, 121, 100]⟩, ⟨#[99, 51]⟩, 100 + (z : Int))]
theorem usL_size (y z : Nat) : ∀ g ∈ usL y z, g.1.size ≤ 30 ∧ g.2.1.size ≤ 30 := by
  intro g hg
  simp [usL] at hg
  rcases hg with rfl | rfl | rfl <;> exact ⟨Nat.le_of_ble_eq_true rfl, Nat.le_of_ble_eq_true rfl⟩
def usCells (y z : Int) : Array Value := #[.string ⟨#[97, 109, 121]⟩, .string ⟨#[97, 49]⟩, .int .i64 60, .string ⟨#[98, 111, 98]⟩, .string ⟨#[98, 50]⟩, .int .i64 (20 + y), .string ⟨#[99, 121, 100]⟩, .string ⟨#[99, 51]⟩, .int .i64 (100 + z)]
theorem usq_at {y : Nat} (h : y < 4) : ∃ z : Int, (#[Value.int .i64 (-1), .int .i64 0, .int .i64 200, .int .i64 201] : Array Value)[y]? = some (.int .i64 z) := by
  match y, h with
  | 0, _ => exact ⟨-1, rfl⟩
  | 1, _ => exact ⟨0, rfl⟩
  | 2, _ => exact ⟨200, rfl⟩
  | 3, _ => exact ⟨201, rfl⟩
set_option maxRecDepth 20000 in
set_option maxHeartbeats 8000000 in
theorem users_draw (b p : Nat) (w : World) (h : Rd w b p) (hp : p ≤ 800000) : Calls Try.prog 33 #[.pointer (some ⟨b, 0, none⟩)] w (DrewU w b p) := by
  obtain ⟨i0, hi, hq0, hq1, hq2⟩ := info_parts Try.infoUser
  have hbl := h.lt
  have HR0 := Lib.hid h
  clear h
  go_enter Try.func33, Try.ntmps33
  go_wp2_with fail
  refine (pick_any b p 60 w HR0.out (by omega) (by omega) (by omega)).mono ?_
  rintro e w1 ⟨y, hy, rfl, hr, hg⟩
  have HR1 := Lib.hid hr
  have HG1 := Lib.hid hg
  have W1 : IntKind.i64.wrap (20 + (y : Int)) = 20 + (y : Int) := IntWalk.i64_in _ (by omega)
  clear hr hg
  go_wp2_with fail
  refine (pick_any b (p + 1) 100 _ HR1.out (by omega) (by omega) (by omega)).mono ?_
  rintro e w2 ⟨z, hz, rfl, hr, hg⟩
  have W2 : IntKind.i64.wrap (100 + (z : Int)) = 100 + (z : Int) := IntWalk.i64_in _ (by omega)
  obtain ⟨S, hS⟩ : ∃ S, w2.heap.size = S := ⟨_, rfl⟩
  obtain ⟨wa, hwa⟩ : ∃ wa, w2.alloc (.cells #[.string ⟨#[97, 109, 121]⟩, .string ⟨#[97, 49]⟩, .int .i64 60, .string ⟨#[98, 111, 98]⟩, .string ⟨#[98, 50]⟩, .int .i64 (20 + (y : Int)), .string ⟨#[99, 121, 100]⟩, .string ⟨#[99, 51]⟩, .int .i64 (100 + (z : Int))] 27) = wa := ⟨_, rfl⟩
  have hgw := gr_trans HG1.out hg
  have hle : w.heap.size ≤ w2.heap.size := hgw.size
  have HD : Hid (DrU w wa b (p + 1 + 1) 3 (.slice (some ⟨S, 0, none⟩) 3 3) (usL y z)) := Lib.hid ⟨by rw [← hwa]; exact hr.below ((Below.refl w2.heap.size w2).alloc (Nat.le_refl _) _) hr.lt, by rw [← hwa, ← hS]; exact World.ownsRow_lit w2 #[.string ⟨#[97, 109, 121]⟩, .string ⟨#[97, 49]⟩, .int .i64 60, .string ⟨#[98, 111, 98]⟩, .string ⟨#[98, 50]⟩, .int .i64 (20 + (y : Int)), .string ⟨#[99, 121, 100]⟩, .string ⟨#[99, 51]⟩, .int .i64 (100 + (z : Int))] 3 hle (by unfold maxLen; omega) rfl, by rw [← hwa]; exact gr_alloc hgw _, usL_size y z, by omega, hbl⟩
  have HWA := Lib.hid hwa
  have HSS := Lib.hid hS
  clear hr hg hgw hle hwa hS
  go_wp2_with fail
  rw [HWA.out, HSS.out]
  refine (pick_any b (p + 1 + 1) 3 _ HD.out.1 (by omega) (by omega) (by omega)).mono ?_
  rintro e w3 ⟨x, hx, rfl, hr, hg⟩
  have hd := HD.out.read hr hg
  obtain ⟨m, hm⟩ : ∃ m, 1 + x = m := ⟨_, rfl⟩
  have hm1 : 1 ≤ m := by omega
  have hm3 : m ≤ 3 := by omega
  have E1 : (1 : Int) + (x : Int) = (m : Int) := by omega
  have W3 : IntKind.i64.wrap (1 + (x : Int)) = (m : Int) := (IntWalk.i64_in _ (by omega)).trans E1
  have HD3 : Hid (DrU w w3 b (p + 1 + 1 + 1) m (.slice (some ⟨S, 0, none⟩) m 3) ((usL y z).take m)) := Lib.hid ⟨hd.1, hd.2.1.front hm3, hd.2.2.1, fun g hg => hd.2.2.2.1 g (List.mem_of_mem_take hg), by omega, hbl⟩
  obtain ⟨L, hL⟩ : ∃ L, (usL y z).take m = L := ⟨_, rfl⟩
  rw [hL] at HD3
  have m0 : (0 : Int) ≤ (m : Int) := by omega
  have m1 : (m : Int) ≤ 3 := by omega
  clear hr hg hm hd hL
  go_wp2_with fail
  refine (pick_any b (p + 1 + 1 + 1) m _ HD3.out.1 (by omega) (by omega) (by omega)).mono ?_
  rintro e w4 ⟨k, hk, rfl, hr, hg⟩
  have HD4 := Lib.hid (HD3.out.read hr hg)
  have k0 : (0 : Int) ≤ (k : Int) := by omega
  have k1 : (k : Int) < (m : Int) := by omega
  clear hr hg
  go_wp2_with fail
  refine (pick_any b (p + 1 + 1 + 1 + 1) 20 _ HD4.out.1 (by omega) (by omega) (by omega)).mono ?_
  rintro e w5 ⟨c, hc, rfl, hr, hg⟩
  have HD5 := Lib.hid (HD4.out.read hr hg)
  clear hr hg
  by_cases h0 : c = 0
  · subst h0
    go_wp2_with fail
    refine (name_text b (p + 1 + 1 + 1 + 1 + 1) _ HD5.out.1 (by omega)).mono ?_
    rintro e w6 ⟨s, hs, rfl, hr, hg⟩
    have HD6 := Lib.hid (HD5.out.read hr hg)
    clear hr hg
    obtain ⟨⟨n1, p1, q1⟩, hx⟩ : ∃ x, L[k]? = some x := ⟨_, List.getElem?_eq_getElem (by rw [← HD6.out.2.1.len.1]; exact hk)⟩
    have hsz := HD6.out.2.2.2.1 _ (List.mem_of_getElem? hx)
    have d0 := HD6.out.2.1.cell hx (j := 0) rfl
    have f0 := HD6.out.2.1.free (k * 3 + 0)
    simp only [usR, Nat.add_zero] at d0 f0
    have HE := Lib.hid (HD6.out.set (j := 0) (y := (s, p1, q1)) hx (by omega) rfl ⟨hs, hsz.2⟩)
    simp only [Nat.add_zero] at HE
    clear hx
    go_wp2
    go_ret
    exact ⟨S, m, 3, _, _, rfl, by omega, HE.out⟩
  · have h0' : ((c : Int) == 0) = false := beq_eq_false_iff_ne.2 (by omega)
    by_cases h1 : c = 1
    · subst h1
      go_wp2_with fail
      refine (name_text b (p + 1 + 1 + 1 + 1 + 1) _ HD5.out.1 (by omega)).mono ?_
      rintro e w6 ⟨s, hs, rfl, hr, hg⟩
      have HD6 := Lib.hid (HD5.out.read hr hg)
      clear hr hg
      obtain ⟨⟨n1, p1, q1⟩, hx⟩ : ∃ x, L[k]? = some x := ⟨_, List.getElem?_eq_getElem (by rw [← HD6.out.2.1.len.1]; exact hk)⟩
      have hsz := HD6.out.2.2.2.1 _ (List.mem_of_getElem? hx)
      have d1 := HD6.out.2.1.cell hx (j := 1) rfl
      have f1 := HD6.out.2.1.free (k * 3 + 1)
      simp only [usR] at d1 f1
      have HE := Lib.hid (HD6.out.set (j := 1) (y := (n1, s, q1)) hx (by omega) rfl ⟨hsz.1, hs⟩)
      skip
      clear hx
      go_wp2
      go_ret
      exact ⟨S, m, 3, _, _, rfl, by omega, HE.out⟩
    · have h1' : ((c : Int) == 1) = false := beq_eq_false_iff_ne.2 (by omega)
      by_cases h2 : c = 2
      · subst h2
        have HA5 := Lib.hid (HD5.out.alloc (.cells #[.int .i64 (-1), .int .i64 0, .int .i64 200, .int .i64 201] 3))
        have hbl5 := HD5.out.1.lt
        go_wp2_with fail
        refine (pick_any b (p + 1 + 1 + 1 + 1 + 1) 4 _ HA5.out.1 (by omega) (by omega) (by omega)).mono ?_
        rintro e w6 ⟨t, ht, rfl, hr, hg⟩
        have HD6 := Lib.hid (HA5.out.read hr hg)
        obtain ⟨v, hv⟩ := usq_at ht
        have hcv : w6.cell? ⟨w5.heap.size, t, none⟩ = some (.int .i64 v) := (((Whole.made w5 3 #[.int .i64 (-1), .int .i64 0, .int .i64 200, .int .i64 201]).grown hg (by simp; omega)).cell t).trans hv
        have t0 : (0 : Int) ≤ (t : Int) := by omega
        have t4 : (t : Int) < 4 := by omega
        clear hr hg hv
        obtain ⟨⟨n1, p1, q1⟩, hx⟩ : ∃ x, L[k]? = some x := ⟨_, List.getElem?_eq_getElem (by rw [← HD6.out.2.1.len.1]; exact hk)⟩
        have hsz := HD6.out.2.2.2.1 _ (List.mem_of_getElem? hx)
        have d2 := HD6.out.2.1.cell hx (j := 2) rfl
        have f2 := HD6.out.2.1.free (k * 3 + 2)
        simp only [usR] at d2 f2
        have HE := Lib.hid (HD6.out.set (j := 2) (y := (n1, p1, v)) hx (by omega) rfl hsz)
        clear hx
        go_wp2
        go_ret
        exact ⟨S, m, 3, _, _, rfl, by omega, HE.out⟩
      · have h2' : ((c : Int) == 2) = false := beq_eq_false_iff_ne.2 (by omega)
        by_cases h3 : c = 3
        · subst h3
          have HN := Lib.hid HD5.out.2.1.len.1.symm
          have hml : m + 2 ≤ maxLen := by unfold maxLen; omega
          have hby : (m + 2) * 40 ≤ 140737488355328 := by omega
          have hown5 := HD5.out.2.1.alloc (.cells #[.string ⟨#[100, 97, 110]⟩, .string ⟨#[100, 52]⟩, .int .i64 9, .string ⟨#[101, 118, 101]⟩, .string ⟨#[101, 53]⟩, .int .i64 9] 27)
          have hnew5 := RAt.made usR w5 [((⟨#[100, 97, 110]⟩ : ByteArray), (⟨#[100, 52]⟩ : ByteArray), (9 : Int)), (⟨#[101, 118, 101]⟩, ⟨#[101, 53]⟩, 9)] w5.heap.size rfl
          have hws : w.heap.size ≤ w5.heap.size := HD5.out.2.2.1.size
          go_wp2_with (at_builtin; refine wpList_append_rows rfl (.tmp 55) (.tmp 58) 23 rfl usR w.heap.size i0 _ 40 Try.underlying23 hi hq0 hq1 hq2 rfl (by decide) _ L [((⟨#[100, 97, 110]⟩ : ByteArray), (⟨#[100, 52]⟩ : ByteArray), (9 : Int)), (⟨#[101, 118, 101]⟩, ⟨#[101, 53]⟩, 9)] m HN.out rfl hown5 (some ⟨w5.heap.size, 0, none⟩) 2 2 rfl rfl hnew5 (fun e => by cases e) (fun q e => by cases e; rfl) hml hby (by simp; omega) ?_)
          intro v' w6 ho hg hnn
          have hfar : ∀ g, (Value.slice (some (⟨S, 0, none⟩ : Addr)) m 3).ownBlock = some g → w.heap.size ≤ g := fun g e => (World.ownsRow.lt HD5.out.2.1 g e).1
          have HR6 := Lib.hid (rd_far (HD5.out.alloc (.cells #[.string ⟨#[100, 97, 110]⟩, .string ⟨#[100, 52]⟩, .int .i64 9, .string ⟨#[101, 118, 101]⟩, .string ⟨#[101, 53]⟩, .int .i64 9] 27)).1 hg (fun g e => Nat.lt_of_lt_of_le hbl (hfar g e)))
          have HG6 := Lib.hid (gr_far (gr_alloc HD5.out.2.2.1 _) hg hfar)
          obtain ⟨A6, N6, cap6, rfl⟩ := ho.val
          have hN6 : N6 = m + 2 := by
            have h1 := ho.len.1
            have h2 := HN.out
            simp only [List.length_append, List.length_cons, List.length_nil] at h1
            omega
          obtain ⟨g6, hg6⟩ : ∃ g6, A6 = some ⟨g6, 0, none⟩ := by
            obtain ⟨A', cap', hv', _, _, _, _, hne⟩ := ho.form
            cases hv'
            exact hne (by simp)
          subst hg6
          have HO6 := Lib.hid ho
          have HZ6 : Hid (∀ g ∈ L ++ [((⟨#[100, 97, 110]⟩ : ByteArray), (⟨#[100, 52]⟩ : ByteArray), (9 : Int)), (⟨#[101, 118, 101]⟩, ⟨#[101, 53]⟩, 9)], g.1.size ≤ 30 ∧ g.2.1.size ≤ 30) := Lib.hid (fun g hg => by
            rcases List.mem_append.1 hg with h | h
            · exact HD5.out.2.2.2.1 g h
            · simp at h
              rcases h with rfl | rfl <;> exact ⟨(by decide), (by decide)⟩)
          clear ho hg hown5 hnew5 hnn
          go_wp2
          go_ret
          exact ⟨g6, N6, cap6, _, _, rfl, by omega, HR6.out, HO6.out, HG6.out, HZ6.out, by omega, hbl⟩
        · have h3' : ((c : Int) == 3) = false := beq_eq_false_iff_ne.2 (by omega)
          clear h0 h1 h2 h3
          go_wp2
          go_ret
          exact ⟨S, m, 3, L, _, rfl, by omega, HD5.out⟩
def passes : List (List UInt8) := [[97, 49], [98, 50], [120], []]
/-- A drawn text, with some picks. -/
def TextQ (w : World) (b p : Nat) (e : Ending) (w' : World) : Prop := ∃ (s : ByteArray) (q : Nat), s.size ≤ 30 ∧ q ≤ p + 2 ∧ e = .returned (.string s) ∧ Rd w' b q ∧ w.grownBy w' (some b)
set_option maxRecDepth 20000 in
set_option maxHeartbeats 4000000 in
theorem pass_draw (b p : Nat) (A : Option Addr) (N cap : Nat) (L : List Us) (n : ByteArray) (w : World) (h : Rd w b p) (hp : p ≤ 800000) (hU : UIn w A N cap L) (hs : ∀ g ∈ L, g.2.1.size ≤ 30) (hAb : ∀ bb o, A = some ⟨bb, o, none⟩ → bb ≠ b) : Calls Try.prog 41 #[.pointer (some ⟨b, 0, none⟩), .slice A N cap, .string n] w (TextQ w b p) := by
  have HR := Lib.hid h
  have HU := Lib.hid hU
  have HS := Lib.hid hs
  have HAB := Lib.hid hAb
  clear h hU hs hAb
  rcases ixG_case L n 0 with ⟨_, hi⟩ | ⟨j, x, hj, _, hi⟩
  · have HI := Lib.hid hi
    clear hi
    go_enter Try.func41, Try.ntmps41
    go_wp2_with fail
    refine (spec_l14 HI.out _ HU.out).mono ?_
    rintro e w1 ⟨rfl, hw⟩
    subst hw
    go_wp2_with fail
    refine (of_new b p passes w1 HR.out (by omega) (by decide) (by decide)).mono ?_
    rintro e w2 ⟨l, hl, rfl, hr, hg⟩
    have hls : (⟨l.toArray⟩ : ByteArray).size ≤ 30 := by
      have h : ∀ l ∈ passes, l.length ≤ 30 := by decide
      have := h l hl
      rw [ByteArray.size]
      simpa using this
    have H2 := Lib.hid (And.intro hr hg)
    clear hr hg
    go_wp2
    go_ret
    exact ⟨_, _, hls, by omega, rfl, H2.out.1, H2.out.2⟩
  · rw [Nat.zero_add] at hi
    have HI := Lib.hid hi
    have HJ := Lib.hid hj
    have hjN : j < N := by rw [← HU.out.1]; exact (List.getElem?_eq_some_iff.1 hj).1
    have j0 : (0 : Int) ≤ (j : Int) := by omega
    have j1 : ¬ (j : Int) < 0 := by omega
    have j2 : (j : Int) < (N : Int) := by omega
    obtain ⟨n1, p1, q1⟩ := x
    have hps : p1.size ≤ 30 := HS.out _ (List.mem_of_getElem? hj)
    clear hi hj
    go_enter Try.func41, Try.ntmps41
    go_wp2_with fail
    refine (spec_l14 HI.out _ HU.out).mono ?_
    rintro e w1 ⟨rfl, hw⟩
    subst hw
    go_wp2_with fail
    refine (pick_any b p 4 _ HR.out (by omega) (by omega) (by omega)).mono ?_
    rintro e w2 ⟨x, hx, rfl, hr, hg⟩
    have H2 := Lib.hid (And.intro hr hg)
    obtain ⟨bb, o, rfl, hbz, c0, c1, c2⟩ := user_at (HU.out.2.2.1.grown hg HAB.out) HJ.out
    clear hr hg
    by_cases h0 : x = 0
    · subst h0
      go_wp2_with fail
      refine (of_new b (p + 1) passes w2 H2.out.1 (by omega) (by decide) (by decide)).mono ?_
      rintro e w3 ⟨l, hl, rfl, hr, hg⟩
      have hls : (⟨l.toArray⟩ : ByteArray).size ≤ 30 := by
        have h : ∀ l ∈ passes, l.length ≤ 30 := by decide
        have := h l hl
        rw [ByteArray.size]
        simpa using this
      have H3 := Lib.hid (And.intro hr (gr_trans H2.out.2 hg))
      clear hr hg
      go_wp2
      go_ret
      exact ⟨_, _, hls, by omega, rfl, H3.out.1, H3.out.2⟩
    · have h0' : (0 : Int) < (x : Int) := by omega
      clear h0
      go_wp2
      go_ret
      exact ⟨p1, _, hps, by omega, rfl, H2.out.1, H2.out.2⟩
/-- Users that were drawn. -/
def Uss (w w' : World) (A : Option Addr) (N cap : Nat) (L : List Us) : Prop := 1 ≤ N ∧ N ≤ 5 ∧ (∀ g ∈ L, g.1.size ≤ 30 ∧ g.2.1.size ≤ 30) ∧ ROwn usR w' w.heap.size (.slice A N cap) L ∧ Below w.heap.size w w'
theorem Uss.uin {w w' : World} {A : Option Addr} {N cap : Nat} {L : List Us} (h : Uss w w' A N cap L) : UIn w' A N cap L := UIn.made h.2.2.2.1 ⟨by have := h.2.2.2.1.len.1; have := h.2.1; omega, fun g hg => ⟨Nat.le_trans (h.2.2.1 g hg).1 (by omega), Nat.le_trans (h.2.2.1 g hg).2 (by omega)⟩⟩
def DrewUL (w : World) (e : Ending) (w' : World) : Prop := ∃ A N cap L, e = .returned (.slice A N cap) ∧ Uss w w' A N cap L
def DrewUF (w : World) (e : Ending) (w' : World) : Prop := ∃ A N cap L s, e = .returned (.tuple #[.slice A N cap, .string s]) ∧ s.size ≤ 100 ∧ Uss w w' A N cap L
def DrewUP (w : World) (e : Ending) (w' : World) : Prop := ∃ A N cap L s t, e = .returned (.tuple #[.slice A N cap, .string s, .string t]) ∧ s.size ≤ 30 ∧ t.size ≤ 30 ∧ Uss w w' A N cap L
/-- Beside a reader. -/
def UsR (w wr : World) (b q g N cap : Nat) (L : List Us) : Prop := Rd wr b q ∧ ROwn usR wr (b + 1) (.slice (some ⟨g, 0, none⟩) N cap) L ∧ Below b w wr ∧ (∀ g ∈ L, g.1.size ≤ 30 ∧ g.2.1.size ≤ 30) ∧ (1 ≤ N ∧ N ≤ 5) ∧ b = w.heap.size
theorem UsR.read {w wr w' : World} {b q q' g N cap : Nat} {L : List Us} (h : UsR w wr b q g N cap L) (hr : Rd w' b q') (hg : wr.grownBy w' (some b)) : UsR w w' b q' g N cap L :=
  ⟨hr, h.2.1.grown hg (by omega), below_gr h.2.2.1 hg (by have := h.1.lt; omega) (Nat.le_refl _), h.2.2.2⟩
theorem UsR.later {w wr w' : World} {b q g N cap : Nat} {L : List Us} (h : UsR w wr b q g N cap L) (hb : Below wr.heap.size wr w') : UsR w w' b q g N cap L :=
  ⟨h.1.below hb h.1.lt, h.2.1.kept hb, h.2.2.1.trans (hb.mono (Nat.le_of_lt h.1.lt)), h.2.2.2⟩
theorem UsR.done {w wr : World} {b q g N cap : Nat} {L : List Us} (h : UsR w wr b q g N cap L) : Uss w wr (some ⟨g, 0, none⟩) N cap L := ⟨h.2.2.2.2.1.1, h.2.2.2.2.1.2, h.2.2.2.1, h.2.1.from (by have := h.2.2.2.2.2; omega), by rw [← h.2.2.2.2.2]; exact h.2.2.1⟩
theorem UsR.uin {w wr : World} {b q g N cap : Nat} {L : List Us} (h : UsR w wr b q g N cap L) : UIn wr (some ⟨g, 0, none⟩) N cap L := h.done.uin
theorem UsR.off {w wr : World} {b q g N cap : Nat} {L : List Us} (h : UsR w wr b q g N cap L) : ∀ bb o, (some (⟨g, 0, none⟩ : Addr)) = some ⟨bb, o, none⟩ → bb ≠ b := fun bb o e => by
  cases e
  have := (World.ownsRow.lt h.2.1 g rfl).1
  omega
theorem users_first {b : Nat} (w w1 : World) (hb : b = w.heap.size) (hr : Rd w1 b 0) (hB : Below b w w1) : Calls Try.prog 33 #[.pointer (some ⟨b, 0, none⟩)] w1 fun e w' => ∃ g N cap L q, e = .returned (.slice (some ⟨g, 0, none⟩) N cap) ∧ q ≤ 10 ∧ UsR w w' b q g N cap L := by
  refine (users_draw b 0 w1 hr (by omega)).mono ?_
  rintro e w' ⟨g, N, cap, L, q, rfl, hq, hr2, ho, hg, hz, hN, hbl⟩
  have hlt := hr.lt
  exact ⟨g, N, cap, L, q, rfl, by omega, hr2, ho.from (by omega), below_gr hB hg (by omega) (Nat.le_refl _), hz, hN, hb⟩
set_option maxHeartbeats 2000000 in
theorem draw_uvalid (A : Option Addr) (len cap : Nat) (w : World) (h : Coded w A len cap) : Calls Try.prog 18 #[.slice A len cap] w (DrewUL w) := by
  have HC := Lib.hid h
  have HK := Lib.hid h.2.2
  have hk1 := h.1
  have hk2 := h.2.1
  clear h
  go_enter Try.func18, Try.ntmps18
  go_wp2_with fail
  refine (open_any A len cap _ hk1 hk2 HK.out).mono ?_
  rintro e w1 ⟨rfl, hr, hb, hz⟩
  have HR := Lib.hid hr
  have HB := Lib.hid hb
  clear hr hb
  go_wp2_with fail
  refine (users_first w w1 rfl HR.out HB.out).mono ?_
  rintro e w2 ⟨g2, N2, cap2, L, q, rfl, hq, hg⟩
  have HG := Lib.hid hg
  clear hg
  go_wp2
  go_ret
  exact ⟨_, N2, cap2, L, rfl, HG.out.done⟩
set_option maxHeartbeats 2000000 in
theorem draw_ufind (A : Option Addr) (len cap : Nat) (w : World) (h : Coded w A len cap) : Calls Try.prog 15 #[.slice A len cap] w (DrewUF w) := by
  have HC := Lib.hid h
  have HK := Lib.hid h.2.2
  have hk1 := h.1
  have hk2 := h.2.1
  clear h
  go_enter Try.func15, Try.ntmps15
  go_wp2_with fail
  refine (open_any A len cap _ hk1 hk2 HK.out).mono ?_
  rintro e w1 ⟨rfl, hr, hb, hz⟩
  have HR := Lib.hid hr
  have HB := Lib.hid hb
  clear hr hb
  go_wp2_with fail
  refine (users_first w w1 rfl HR.out HB.out).mono ?_
  rintro e w2 ⟨g2, N2, cap2, L, q, rfl, hq, hg⟩
  have HG := Lib.hid hg
  clear hg
  go_wp2_with fail
  refine (name_text w.heap.size q w2 HG.out.1 (by omega)).mono ?_
  rintro e w3 ⟨s, hs, rfl, hr, hg⟩
  have HG3 := Lib.hid (HG.out.read hr hg)
  clear hr hg
  go_wp2
  go_ret2
  exact ⟨_, N2, cap2, L, s, rfl, by omega, HG3.out.done⟩
set_option maxHeartbeats 2000000 in
theorem draw_uprove (A : Option Addr) (len cap : Nat) (w : World) (h : Coded w A len cap) : Calls Try.prog 21 #[.slice A len cap] w (DrewUP w) := by
  have HC := Lib.hid h
  have HK := Lib.hid h.2.2
  have hk1 := h.1
  have hk2 := h.2.1
  clear h
  go_enter Try.func21, Try.ntmps21
  go_wp2_with fail
  refine (open_any A len cap _ hk1 hk2 HK.out).mono ?_
  rintro e w1 ⟨rfl, hr, hb, hz⟩
  have HR := Lib.hid hr
  have HB := Lib.hid hb
  clear hr hb
  go_wp2_with fail
  refine (users_first w w1 rfl HR.out HB.out).mono ?_
  rintro e w2 ⟨g2, N2, cap2, L, q, rfl, hq, hg⟩
  have HG := Lib.hid hg
  clear hg
  go_wp2_with fail
  refine (name_text w.heap.size q w2 HG.out.1 (by omega)).mono ?_
  rintro e w3 ⟨s, hs, rfl, hr, hg⟩
  have HG3 := Lib.hid (HG.out.read hr hg)
  clear hr hg
  go_wp2_with fail
  refine (pass_draw w.heap.size (q + 2) _ N2 cap2 L s w3 HG3.out.1 (by omega) HG3.out.uin (fun g hg => (HG3.out.2.2.2.1 g hg).2) HG3.out.off).mono ?_
  rintro e w4 ⟨t, q4, ht, hq4, rfl, hr, hg⟩
  have HG4 := Lib.hid (HG3.out.read hr hg)
  clear hr hg
  go_wp2
  go_ret3
  exact ⟨_, N2, cap2, L, s, t, rfl, hs, ht, HG4.out.done⟩
set_option maxHeartbeats 2000000 in
theorem draw_uplain (A : Option Addr) (len cap : Nat) (w : World) (h : Coded w A len cap) : Calls Try.prog 26 #[.slice A len cap] w (DrewUF w) := by
  have HC := Lib.hid h
  have HK := Lib.hid h.2.2
  have hk1 := h.1
  have hk2 := h.2.1
  clear h
  go_enter Try.func26, Try.ntmps26
  go_wp2_with fail
  refine (open_any A len cap _ hk1 hk2 HK.out).mono ?_
  rintro e w1 ⟨rfl, hr, hb, hz⟩
  have HR := Lib.hid hr
  have HB := Lib.hid hb
  clear hr hb
  go_wp2_with fail
  refine (users_first w w1 rfl HR.out HB.out).mono ?_
  rintro e w2 ⟨g2, N2, cap2, L, q, rfl, hq, hg⟩
  have HG := Lib.hid hg
  clear hg
  go_wp2_with fail
  refine (name_text w.heap.size q w2 HG.out.1 (by omega)).mono ?_
  rintro e w3 ⟨s, hs, rfl, hr, hg⟩
  have HG3 := Lib.hid (HG.out.read hr hg)
  clear hr hg
  go_wp2_with fail
  refine (pick_any w.heap.size (q + 2) 6 _ HG3.out.1 (by omega) (by omega) (by omega)).mono ?_
  rintro e w5 ⟨x, hx, rfl, hr, hg⟩
  have HG5 := Lib.hid (HG3.out.read hr hg)
  clear hr hg
  by_cases h0 : x = 0
  · subst h0
    have HC5 := Lib.hid (HC.out.below HG5.out.2.2.1 (Nat.le_refl _))
    go_wp2_with fail
    refine (draw_pp A len cap _ HC5.out).mono ?_
    rintro e w6 ⟨t, ht, rfl, hb⟩
    have HG6 := Lib.hid (HG5.out.later hb)
    clear hb
    go_wp2
    go_ret2
    exact ⟨_, N2, cap2, L, t, rfl, by omega, HG6.out.done⟩
  · have h0' : ((x : Int) == 0) = false := beq_eq_false_iff_ne.2 (by omega)
    clear h0
    go_wp2_with fail
    refine (pass_draw w.heap.size (q + 2 + 1) _ N2 cap2 L s w5 HG5.out.1 (by omega) HG5.out.uin (fun g hg => (HG5.out.2.2.2.1 g hg).2) HG5.out.off).mono ?_
    rintro e w4 ⟨t, q4, ht, hq4, rfl, hr, hg⟩
    have HG4 := Lib.hid (HG5.out.read hr hg)
    clear hr hg
    go_wp2_with fail
    refine (smake s t _ (by omega) (by omega)).mono ?_
    rintro e w6 ⟨rfl, hb⟩
    have HG6 := Lib.hid (HG4.out.later hb)
    have hmk := mkB_le s t
    clear hb
    go_wp2
    go_ret2
    exact ⟨_, N2, cap2, L, _, rfl, by omega, HG6.out.done⟩
end Go.Proofs.Ytmangdkaklnpdaa
