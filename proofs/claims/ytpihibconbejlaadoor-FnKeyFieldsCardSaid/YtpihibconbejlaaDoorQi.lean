/-
  My texts Hr, Lawa, Fdraw, Gtext, Gbox, Ksd, Kb in one, so that a claim holds fewer files. Conditions: each contract's own.
-/
import Derived.Test.YtpihibconbejlaaDoorQh
import Derived.Deep.RegionWith
import Derived.Outline
import Derived.Deep.LoopGhost
import Derived.Deep.RegionLaw
import Derived.BigRegion
import Derived.Deep.RegionHeld3
import Derived.Deep.DeepCutAuto
namespace Go.Proofs.YtpihibconbejlaaDoor
open Go.RowKit
set_option linter.unusedVariables false

theorem fst_set {X Y : NX} {k g : Nat} {m m' : ML} (h : Y.map (·.1) = X.map (·.1)) (hk : Y[k]? = some (g, m)) : (Y.set k (g, m')).map (·.1) = X.map (·.1) := by
  rw [← h, List.map_set]
  refine List.ext_getElem? fun j => ?_
  by_cases e : k = j
  · subst e
    have := (List.getElem?_eq_some_iff.1 hk).1
    rw [List.getElem?_set_self (by simpa using this), List.getElem?_map, hk]
    rfl
  · rw [List.getElem?_set_ne e]
theorem fst_at {X Y : NX} {k g : Nat} {m m' : ML} (h : Y.map (·.1) = X.map (·.1)) (hx : X[k]? = some (g, m)) (hy : (Y.map (·.2))[k]? = some m') : Y[k]? = some (g, m') := by
  have h1 := congrArg (fun l => l[k]?) h
  simp only [List.getElem?_map, hx] at h1
  rw [List.getElem?_map] at hy
  cases hk : Y[k]? with
  | none => rw [hk] at hy; cases hy
  | some z =>
    rw [hk] at hy h1
    simp at hy h1
    rw [← hy, ← h1]
theorem plc_place {len : Nat} {P : List Int} (h : plc len 0 P = true) {i : Nat} {x : Int} (hx : P[i]? = some x) : ∃ k : Nat, x = ((k + 1 : Nat) : Int) ∧ k < len := by
  have := plc_get h hx
  exact ⟨x.toNat - 1, by omega, by omega⟩
/-- No mailbox is handed back. -/
theorem no_box {w w' : World} {B : Nat} {u u2 : Value} {r : Int × List ML × Bool} (hB : w.heap.size = B) (hr : r = (0, [], false)) (hb : Below B w w') :
    GivesBB w r.1 r.2.1 r.2.2 (.returned (.tuple #[.agg #[.int .i64 0, .slice none 0 0], .bool false])) ((w'.setCell ⟨B + 1, 0, none⟩ u).setCell ⟨B + 1, 1, none⟩ u2) := by
  subst hr
  exact give_two hB (ROwn.nil _ _) hb

/-- Some change is given. -/
def GivesSome (w : World) (e : Ending) (w' : World) : Prop := ∃ k : Nat, e = .returned (.tuple #[.func (.func k) #[] #[.pointer (some ⟨w.heap.size, 0, none⟩)], .bool true]) ∧ Below w.heap.size w w'
end Go.Proofs.YtpihibconbejlaaDoor

namespace Go.Proofs.YtpihibconbejlaaDoor
open Go.RowKit
set_option linter.unusedVariables false

/-- Three new blocks, one after the other. -/
theorem kp_three (w : World) (t1 t2 t3 : TypeId) (c1 c2 c3 : Array Value) {B : Nat} (hB : w.heap.size = B) :
    Kp (((w.alloc (.cells c1 t1)).alloc (.cells c2 t2)).alloc (.cells c3 t3)) fun w' => (Below B w w' ∧ B + 1 + 1 + 1 ≤ w'.heap.size) ∧ Whole w' B t1 c1 ∧ Whole w' (B + 1) t2 c2 ∧ Whole w' (B + 1 + 1) t3 c3 := fun w2 h2 => by
  have h12 := kp_two w t1 t2 c1 c2 hB
  have e : ((w.alloc (.cells c1 t1)).alloc (.cells c2 t2)).heap.size = B + 1 + 1 := by simp [hB]
  have h3 := kp_one ((w.alloc (.cells c1 t1)).alloc (.cells c2 t2)) t3 c3 e
  obtain ⟨a1, a2, a3⟩ := h3 w2 h2
  obtain ⟨b1, b2, b3, b4⟩ := h12 w2 (e ▸ a1)
  exact ⟨⟨b1, a3⟩, b2, b3, a2⟩
theorem give_at {w w' : World} {B r N cap : Nat} {A : Option Addr} {n : Int} {L : List ML} {b : Bool} {u u2 : Value} (hB : w.heap.size = B) (hr : B ≤ r) (ho : ROwn mailR w' (r + 1) (.slice A N cap) L) (hb : Below B w w') :
    GivesBB w n L b (.returned (.tuple #[.agg #[.int .i64 n, .slice A N cap], .bool b])) ((w'.setCell ⟨r, 0, none⟩ u).setCell ⟨r, 1, none⟩ u2) := by
  refine ⟨A, N, cap, rfl, ?_, ?_⟩
  · rw [hB]
    exact ((ho.store (p := ⟨r, 0, none⟩) (ho.base r (by omega)) _).store (p := ⟨r, 1, none⟩) (ho.base r (by omega)) _).from (by omega)
  · rw [hB]
    exact (hb.setCell (p := ⟨r, 0, none⟩) hr _).setCell (p := ⟨r, 1, none⟩) hr _
theorem no_box_at {w w' : World} {B q : Nat} {u u2 : Value} {r : Int × List ML × Bool} (hB : w.heap.size = B) (hq : B ≤ q) (hr : r = (0, [], false)) (hb : Below B w w') :
    GivesBB w r.1 r.2.1 r.2.2 (.returned (.tuple #[.agg #[.int .i64 0, .slice none 0 0], .bool false])) ((w'.setCell ⟨q, 0, none⟩ u).setCell ⟨q, 1, none⟩ u2) := by
  subst hr
  exact give_at hB hq (ROwn.nil _ _) hb

end Go.Proofs.YtpihibconbejlaaDoor

namespace Go.Proofs.YtpihibconbejlaaDoor
open Go.RowKit
set_option linter.unusedVariables false

end Go.Proofs.YtpihibconbejlaaDoor

namespace Go.Proofs.YtpihibconbejlaaDoor
open Go.RowKit
set_option linter.unusedVariables false

theorem lnk_app (c : Nat) {K R : NX} {i : Nat} (h : i ≤ K.length) : lnk c (K ++ R) i = lnk c K i := by
  cases i with
  | zero => rfl
  | succ j =>
    show (⟨((K ++ R).getD j (0, (0, 0, []))).1, 3, none⟩ : Addr) = ⟨(K.getD j (0, (0, 0, []))).1, 3, none⟩
    rw [List.getD_eq_getElem?_getD, List.getD_eq_getElem?_getD, List.getElem?_append_left (by omega)]
theorem mid_at {K R : NX} {y : Nat × ML} : (K ++ y :: R)[K.length]? = some y := by rw [List.getElem?_append_right (Nat.le_refl _), Nat.sub_self]; rfl
theorem mid_next {K R : NX} {y : Nat × ML} : nxt (K ++ y :: R) (K.length + 1) = nxt R 0 := by rw [nxt_app_r (by omega), show K.length + 1 - K.length = 1 by omega]; rfl
end Go.Proofs.YtpihibconbejlaaDoor

namespace Go.Proofs.YtpihibconbejlaaDoor
open Go.RowKit
set_option linter.unusedVariables false

end Go.Proofs.YtpihibconbejlaaDoor

namespace Go.Proofs.YtpihibconbejlaaDoor
open Go.RowKit
set_option linter.unusedVariables false

theorem boxvalid_at {n : Int} {L : List ML} {b : Bool} (hb : bOk n L = b) (A : Option Addr) (N cap : Nat) (w : World) (h : MIn w A N cap L) :
    Calls Tryd.prog 32 #[.agg #[.int .i64 n, .slice A N cap]] w (SaysB w b) := by subst hb; exact spec_boxvalid n A N cap L w h.1 h.2.2.1 h.2.1
end Go.Proofs.YtpihibconbejlaaDoor

namespace Go.Proofs.YtpihibconbejlaaDoor
open Go.RowKit
set_option linter.unusedVariables false

end Go.Proofs.YtpihibconbejlaaDoor

namespace Go.Proofs.YtpihibconbejlaaDoor
open Go.RowKit
set_option linter.unusedVariables false

theorem add_full {n : Int} {L : List ML} {f : Int} {t : List UInt8} (h : 10 ≤ L.length ∨ 99 < n) : bxAdd n L f t = (n, L, false) := by unfold bxAdd; rw [if_pos h]
theorem add_more {n : Int} {L : List ML} {f : Int} {t : List UInt8} (h : ¬ (10 ≤ L.length ∨ 99 < n)) : bxAdd n L f t = (n + 1, L ++ [(n, f, t)], true) := by unfold bxAdd; rw [if_neg h]
theorem add_at {n n2 : Int} {L L2 : List ML} {f : Int} {t : List UInt8} {v : ByteArray} {b : Bool} (hv : sB t = v) (hb : bxAdd n L f t = (n2, L2, b)) (A : Option Addr) (N cap : Nat) (w : World) (h : MIn w A N cap L) (hn : -1000 ≤ n) :
    Calls Tryd.prog 104 #[.agg #[.int .i64 n, .slice A N cap], .int .i64 f, .string v] w (GivesBB w n2 L2 b) := by
  subst hv
  have := spec_add n A N cap L f t w h hn
  rw [hb] at this
  exact this
end Go.Proofs.YtpihibconbejlaaDoor
namespace Go.Proofs.YtpihibconbejlaaDoor
open Go.RowKit
set_option linter.unusedVariables false

/-- A law holds here. -/
def Holds1 (w : World) (e : Ending) (w' : World) : Prop := e = .returned (.bool true) ∧ Below w.heap.size w w'

end Go.Proofs.YtpihibconbejlaaDoor
namespace Go.Proofs.YtpihibconbejlaaDoor
open Go.RowKit
set_option linter.unusedVariables false

/-- Drawn flags. -/
def DrewF (w : World) (b p : Nat) (e : Ending) (w' : World) : Prop := ∃ (z : Int) (q : Nat), -1 ≤ z ∧ z ≤ 32 ∧ q ≤ p + 2 ∧ e = .returned (.int .i64 z) ∧ Rd w' b q ∧ w.grownBy w' (some b)
theorem three_at {y : Nat} (h : y < 3) : ∃ z : Int, -1 ≤ z ∧ z ≤ 32 ∧ (#[Value.int .i64 (-1), .int .i64 31, .int .i64 32] : Array Value)[y]? = some (.int .i64 z) := by
  match y, h with
  | 0, _ => exact ⟨-1, by omega, by omega, rfl⟩
  | 1, _ => exact ⟨31, by omega, by omega, rfl⟩
  | 2, _ => exact ⟨32, by omega, by omega, rfl⟩
/-- A drawn number. -/
def DrewI (w : World) (e : Ending) (w' : World) : Prop := ∃ f : Int, e = .returned (.int .i64 f) ∧ Below w.heap.size w w'
/-- A drawn change. -/
def DrewC (w : World) (e : Ending) (w' : World) : Prop := ∃ f h o : Int, e = .returned (.tuple #[.int .i64 f, .int .i64 h, .int .i64 o]) ∧ Below w.heap.size w w'
/-- Two drawn flags. -/
def DrewH (w : World) (e : Ending) (w' : World) : Prop := ∃ f o : Int, e = .returned (.tuple #[.int .i64 f, .int .i64 o]) ∧ Below w.heap.size w w'
end Go.Proofs.YtpihibconbejlaaDoor
namespace Go.Proofs.YtpihibconbejlaaDoor
open Go.RowKit
set_option linter.unusedVariables false

theorem many_odd {k s o T : Nat} (h : o + k * s ≤ T) (hk : k % 2 = 1) : (o + s) + k / 2 * (s + s) ≤ T := by
  have e : k * s = k / 2 * (s + s) + s := by
    conv => lhs; rw [← Nat.div_add_mod k 2, hk, Nat.add_mul, Nat.one_mul, Nat.mul_comm 2, Nat.mul_assoc, Nat.two_mul]
  omega
theorem many_even {k s o T : Nat} (h : o + k * s ≤ T) (hk : k % 2 = 0) : o + k / 2 * (s + s) ≤ T := by
  have e : k * s = k / 2 * (s + s) := by
    conv => lhs; rw [← Nat.div_add_mod k 2, hk, Nat.add_zero, Nat.mul_comm 2, Nat.mul_assoc, Nat.two_mul]
  omega
theorem many_le {k s o T : Nat} (h : o + k * s ≤ T) (hk : 0 < k) : s ≤ T ∧ o ≤ T := by
  have : s ≤ k * s := Nat.le_mul_of_pos_left s hk
  omega
theorem many_odd' {k : Nat} (h : k % 2 = 1) : (k : Int) % 2 = 1 := by omega
theorem many_even' {k : Nat} (h : ¬ k % 2 = 1) : (k : Int) % 2 = 0 := by omega
/-- A text of at most so many bytes. -/
def SaysMany (T : Nat) (w : World) (e : Ending) (w' : World) : Prop := ∃ v : ByteArray, v.size ≤ T ∧ e = .returned (.string v) ∧ w = w'
set_option maxHeartbeats 2000000 in
theorem spec_many (s : ByteArray) (k T : Nat) (w : World) (hk : k ≤ 1000) (h : k * s.size ≤ T) (hT : T ≤ 100000) (hs : s.size ≤ 100000) :
    Calls Tryd.prog 105 #[.string s, .int .i64 (k : Int)] w (SaysMany T w) := by
  have HI := Lib.hid (show (ByteArray.empty).size + k * s.size ≤ T by rw [ByteArray.size_empty]; omega)
  clear h
  go_enter Tryd.func105, Tryd.ntmps105
  go_wp2
  go_loop [0, 1, 5] (fun x y z => ∃ (k : Nat) (s o : ByteArray), k ≤ 1000 ∧ s.size ≤ 200000 ∧ o.size ≤ 100000 ∧ x = .string s ∧ y = .int .i64 (k : Int) ∧ z = .string o ∧ Hid (o.size + k * s.size ≤ T)) (fun _ y _ => (intOf y).toNat)
  case atStart => exact ⟨k, s, ByteArray.empty, hk, by omega, by rw [ByteArray.size_empty]; omega, rfl, rfl, rfl, HI⟩
  case round =>
    clear HI
    obtain ⟨k, s, o, hk, hs, ho, rfl, rfl, rfl, HI⟩ := hrel
    by_cases hlt : 0 < k
    · have hlt' : (0 : Int) < (k : Int) := by omega
      obtain ⟨m1, m2⟩ := many_le HI.out hlt
      have m1' : s.size ≤ 100000 := by omega
      by_cases hm : k % 2 = 1
      · have hm' := many_odd' hm
        have HN := Lib.hid (many_odd HI.out hm)
        have m3 : o.size + s.size ≤ T := by have := HN.out; omega
        clear hm
        go_wp2
        go_round
        case rel => exact ⟨k / 2, s ++ s, o ++ s, by omega, by rw [ByteArray.size_append]; omega, by rw [ByteArray.size_append]; omega, rfl, by go_num, rfl, by show _ ≤ _; rw [ByteArray.size_append, ByteArray.size_append]; exact HN.out⟩
        case measure => simp [intOf]; omega
      · have hm' := many_even' hm
        have HN := Lib.hid (many_even HI.out (by omega))
        clear hm
        go_wp2
        go_round
        case rel => exact ⟨k / 2, s ++ s, o, by omega, by rw [ByteArray.size_append]; omega, by omega, rfl, by go_num, rfl, by show _ ≤ _; rw [ByteArray.size_append]; exact HN.out⟩
        case measure => simp [intOf]; omega
    · have hlt' : ¬ (0 : Int) < (k : Int) := by omega
      have HO : Hid (o.size ≤ T) := by have := HI.out; show _ ≤ _; omega
      go_wp2
      go_ret
      exact ⟨o, HO.out, rfl, rfl⟩

/-- A drawn text of a message. -/
def DrewT (w : World) (b p : Nat) (e : Ending) (w' : World) : Prop := ∃ (t : List UInt8) (q : Nat), t.length ≤ 30 ∧ q ≤ p + 2 ∧ e = .returned (.string (sB t)) ∧ Rd w' b q ∧ w.grownBy w' (some b)
theorem texts_le {l : List UInt8} (h : l ∈ [([] : List UInt8), [104, 101, 108, 108, 111], [97, 109, 121, 32, 97, 110, 100, 32, 98, 111, 98], [120], [98, 111, 120, 49, 32, 111, 114, 32, 120], [116, 111, 32, 98, 111, 98]]) : l.length ≤ 30 := by
  simp at h
  rcases h with rfl | rfl | rfl | rfl | rfl | rfl <;> decide
set_option maxRecDepth 20000 in
set_option maxHeartbeats 2000000 in
theorem text_draw (b p : Nat) (w : World) (h : Rd w b p) (hp : p ≤ 900000) :
    Calls Tryd.prog 81 #[.pointer (some ⟨b, 0, none⟩)] w (DrewT w b p) := by
  have H := Lib.hid h
  clear h
  go_enter Tryd.func81, Tryd.ntmps81
  go_wp2_with fail
  refine (pick_any b p 16 w H.out (by omega) (by omega) (by omega)).mono ?_
  rintro e w1 ⟨x, hx, rfl, hr, hg⟩
  have HR := Lib.hid hr
  have HG := Lib.hid hg
  clear hr hg
  by_cases h0 : x = 0
  · subst h0
    go_wp2_with fail
    refine (pick_any b (p + 1) 3 _ HR.out (by omega) (by omega) (by omega)).mono ?_
    rintro e w2 ⟨y, hy, rfl, hr, hg⟩
    have H2 := Lib.hid (And.intro hr (gr_trans HG.out hg))
    clear hr hg
    obtain ⟨z, hz⟩ : ∃ z, 19 + y = z := ⟨_, rfl⟩
    have hz21 : z ≤ 21 := by omega
    have e1 : (19 : Int) + (y : Int) = (z : Int) := by omega
    have W1 : IntKind.i64.wrap (19 + (y : Int)) = (z : Int) := (IntWalk.i64_in _ (by omega)).trans e1
    clear hz
    go_wp2_with fail
    refine (spec_many ⟨#[120]⟩ z 21 _ (by omega) (by show z * 1 ≤ 21; omega) (by omega) (by decide)).mono ?_
    rintro e w3 ⟨v, hv, rfl, rfl⟩
    go_wp2_with fail
    go_ret
    have hvl : v.data.toList.length = v.size := by rw [← sB_size, sB_of]
    exact ⟨v.data.toList, _, by omega, by omega, by rw [sB_of]; rfl, H2.out.1, H2.out.2⟩
  · have h0' : ((x : Int) == 0) = false := beq_eq_false_iff_ne.2 (by omega)
    clear h0
    go_wp2_with fail
    refine (of_new b (p + 1) [[], [104, 101, 108, 108, 111], [97, 109, 121, 32, 97, 110, 100, 32, 98, 111, 98], [120], [98, 111, 120, 49, 32, 111, 114, 32, 120], [116, 111, 32, 98, 111, 98]] w1 HR.out (by omega) (by decide) (by decide)).mono ?_
    rintro e w2 ⟨l, hl, rfl, hr, hg⟩
    have H2 := Lib.hid (And.intro hr (gr_trans HG.out hg))
    have hl30 := texts_le hl
    clear hr hg hl
    unfold str
    go_wp2_with fail
    go_ret
    exact ⟨l, _, hl30, by omega, rfl, H2.out.1, H2.out.2⟩
end Go.Proofs.YtpihibconbejlaaDoor
namespace Go.Proofs.YtpihibconbejlaaDoor
open Go.RowKit
set_option linter.unusedVariables false

/-- A drawn mailbox. -/
def DrewB (w : World) (b p : Nat) (e : Ending) (w' : World) : Prop := ∃ (n : Int) (A : Option Addr) (N cap : Nat) (L : List ML) (q : Nat), e = .returned (.agg #[.int .i64 n, .slice A N cap]) ∧ N ≤ 14 ∧ -1 ≤ n ∧ n ≤ 200 ∧ q ≤ p + 200 ∧ Rd w' b q ∧ ROwn mailR w' w.heap.size (.slice A N cap) L ∧ w.grownBy w' (some b)
/-- What the drawing holds in memory: the reader, the result's block, the mailbox in the making. -/
structure Mk (w wr : World) (b B C : Nat) (p : Nat) (m : Int) (v : Value) (M : List ML) : Prop where
  rd : Rd wr b p
  res : Whole wr B 37 #[.int .i64 0, .slice none 0 0]
  box : Whole wr C 37 #[.int .i64 m, v]
  own : ROwn mailR wr (B + 1) v M
  gr : w.grownBy wr (some b)
theorem ROwn.gr {α : Type} {R : RowT α} {w w' : World} {B b : Nat} {v : Value} {L : List α} (h : ROwn R w B v L) (hg : w.grownBy w' (some b)) (hb : b < B) : ROwn R w' B v L := h.grown hg hb
section
variable {w wr w' : World} {b B C p q : Nat} {m m' : Int} {v v' : Value} {M M' : List ML}
theorem Mk.drew (h : Mk w wr b B C p m v M) : Mk w wr.drew b B C p m v M := ⟨h.rd, h.res, h.box, h.own, gr_drew h.gr⟩
theorem Mk.alloc (h : Mk w wr b B C p m v M) (o : Obj) : Mk w (wr.alloc o) b B C p m v M :=
  ⟨h.rd.below ((Below.refl wr.heap.size wr).alloc (Nat.le_refl _) _) h.rd.lt, h.res.alloc o, h.box.alloc o, h.own.alloc o, gr_alloc h.gr o⟩
/-- The reader reads on. -/
theorem Mk.read (h : Mk w wr b B C p m v M) (hr : Rd w' b q) (hg : wr.grownBy w' (some b)) (hb : b < B) (hC : B < C) : Mk w w' b B C q m v M :=
  ⟨hr, h.res.grown hg (by simp; omega), h.box.grown hg (by simp; omega), h.own.gr hg (by omega), gr_trans h.gr hg⟩
theorem rd_store {F i : Nat} (h : Rd wr b p) (hbF : b < F) (u : Value) : Rd (wr.setCell ⟨F, i, none⟩ u) b p := by
  obtain ⟨A, len, cap, hW, hB⟩ := h
  exact ⟨A, len, cap, hW.apart (by show b ≠ F; omega) u, hB.kept fun q hq => World.cell?_setCell_other wr _ q _ (fun e => by subst e; simp at hq; omega)⟩
/-- A store into another mailbox's block. -/
theorem Mk.store {F i : Nat} {cs : Array Value} (h : Mk w wr b B C p m v M) (hF : Whole wr F 37 cs) (hbB : b < B) (hB : B < F) (hC : F ≠ C) (hw : w.heap.size = B) (u : Value) : Mk w (wr.setCell ⟨F, i, none⟩ u) b B C p m v M :=
  ⟨rd_store h.rd (by omega) u, h.res.apart (by show B ≠ F; omega) u, h.box.apart (by show C ≠ F; omega) u, h.own.store (p := ⟨F, i, none⟩) (h.own.whole hF (by decide)) u, gr_store h.gr (.inr (by show _ ≤ F; omega)) u⟩
/-- Another mailbox is taken. -/
theorem Mk.put (h : Mk w wr b B C p m v M) (ho : ROwn mailR wr (B + 1) v' M') (hbB : b < B) (hBC : B < C) (hw : w.heap.size = B) : Mk w ((wr.setCell ⟨C, 0, none⟩ (.int .i64 m')).setCell ⟨C, 1, none⟩ v') b B C p m' v' M' :=
  ⟨rd_store (rd_store h.rd (by omega) _) (by omega) _, (h.res.apart (by show B ≠ C; omega) _).apart (by show B ≠ C; omega) _, (h.box.store 0 _).store 1 _,
    (ho.store (p := ⟨C, 0, none⟩) (ho.whole h.box (by decide)) _).store (p := ⟨C, 1, none⟩) (ho.whole h.box (by decide)) _, gr_store (gr_store h.gr (.inr (by show _ ≤ C; omega)) _) (.inr (by show _ ≤ C; omega)) _⟩
/-- Another number is set. -/
theorem Mk.next (h : Mk w wr b B C p m v M) (hbB : b < B) (hBC : B < C) (hw : w.heap.size = B) : Mk w (wr.setCell ⟨C, 0, none⟩ (.int .i64 m')) b B C p m' v M :=
  ⟨rd_store h.rd (by omega) _, h.res.apart (by show B ≠ C; omega) _, h.box.store 0 _, h.own.store (p := ⟨C, 0, none⟩) (h.own.whole h.box (by decide)) _, gr_store h.gr (.inr (by show _ ≤ C; omega)) _⟩
/-- Another message is set in place. -/
theorem Mk.mail {g k j N cap : Nat} {x y : ML} {u : Value} (h : Mk w wr b B C p m (.slice (some ⟨g, 0, none⟩) N cap) M) (hx : M[k]? = some x) (hj : j < 3) (hy : mailR.enc y = (mailR.enc x).set j u) (hbB : b < B) (hBC : B < C) (hw : w.heap.size = B) :
    Mk w (wr.setCell ⟨g, k * 3 + j, none⟩ u) b B C p m (.slice (some ⟨g, 0, none⟩) N cap) (M.set k y) := by
  have hg := World.ownsRow.lt h.own g rfl
  have hC : C ≠ g := fun e => h.own.whole h.box (by decide) (by rw [e]; rfl)
  exact ⟨rd_store h.rd (by omega) _, h.res.apart (by show B ≠ g; omega) _, h.box.apart (by show C ≠ g; exact hC) _, (h.own.stored hx hj hy).1, gr_store h.gr (.inr (by show _ ≤ g; omega)) _⟩
theorem Mk.below (h : Mk w wr b B C p m v M) (hb : Below wr.heap.size wr w') : Mk w w' b B C p m v M :=
  ⟨h.rd.below hb h.rd.lt, h.res.below hb h.res.lt, h.box.below hb h.box.lt, h.own.kept hb, gr_trans h.gr (gr_below hb _)⟩
end

/-- What an append leaves, as the drawing sees it. -/
def GivesAp (w : World) (m : Int) (M : List ML) (e : Ending) (w' : World) : Prop := ∃ (n : Int) (A : Option Addr) (N cap : Nat) (L : List ML) (ok : Bool), e = .returned (.tuple #[.agg #[.int .i64 n, .slice A N cap], .bool ok]) ∧ (ok = true → n = m + 1 ∧ L.length = M.length + 1) ∧ ROwn mailR w' w.heap.size (.slice A N cap) L ∧ Below w.heap.size w w'
theorem append_some {t : List UInt8} {v : ByteArray} (hv : sB t = v) (m : Int) (A : Option Addr) (N cap : Nat) (M : List ML) (f : Int) (w : World) (h : MIn w A N cap M) :
    Calls Tryd.prog 80 #[.agg #[.int .i64 m, .slice A N cap], .int .i64 f, .string v] w (GivesAp w m M) := by
  subst hv
  refine (spec_append m A N cap M f t w h).mono ?_
  rintro e w' ⟨A', N', cap', rfl, ho, hb⟩
  refine ⟨_, A', N', cap', _, _, rfl, fun hok => ?_, ho, hb⟩
  obtain ⟨-, -, -, -, -, he⟩ := bxAp_yes hok
  rw [he]
  exact ⟨rfl, by rw [List.length_append]; rfl⟩
/-- What a removal leaves, as the drawing sees it. -/
def GivesEx (w : World) (m : Int) (M : List ML) (e : Ending) (w' : World) : Prop := ∃ (n : Int) (A : Option Addr) (N cap : Nat) (A2 : Option Addr) (N2 cap2 : Nat) (L : List ML), e = .returned (.tuple #[.agg #[.int .i64 n, .slice A N cap], .slice A2 N2 cap2]) ∧ (n = m ∨ n = 0) ∧ L.length ≤ M.length ∧ ROwn mailR w' w.heap.size (.slice A N cap) L ∧ Below w.heap.size w w'
theorem expunge_some (m : Int) (A : Option Addr) (N cap : Nat) (M : List ML) (w : World) (h : MIn w A N cap M) :
    Calls Tryd.prog 82 #[.agg #[.int .i64 m, .slice A N cap]] w (GivesEx w m M) := by
  cases hv : bOk m M with
  | false =>
    refine (spec_expunge_no m A N cap M w h hv).mono ?_
    rintro e w' ⟨A', N', cap', A2, N2, cap2, rfl, ho, -, hb⟩
    exact ⟨0, A', N', cap', A2, N2, cap2, [], rfl, .inr rfl, Nat.zero_le _, ho, hb⟩
  | true =>
    refine (spec_expunge_yes m A N cap M w h hv).mono ?_
    rintro e w' ⟨A', N', cap', A2, N2, cap2, rfl, ho, -, hb⟩
    exact ⟨m, A', N', cap', A2, N2, cap2, _, rfl, .inl rfl, kpM_le M, ho, hb⟩

theorem Mk.fin {w wr : World} {b B C p q N cap : Nat} {m : Int} {A : Option Addr} {M : List ML} (h : Mk w wr b B C q m (.slice A N cap) M) (hbB : b < B) (hB : w.heap.size = B) (hN : N ≤ 14) (h1 : -1 ≤ m) (h2 : m ≤ 200) (hq : q ≤ p + 200) (u u2 : Value) :
    DrewB w b p (.returned (.agg #[.int .i64 m, .slice A N cap])) ((wr.setCell ⟨B, 0, none⟩ u).setCell ⟨B, 1, none⟩ u2) := by
  refine ⟨m, A, N, cap, M, q, rfl, hN, h1, h2, hq, rd_store (rd_store h.rd hbB _) hbB _, ?_, gr_store (gr_store h.gr (.inr (by show _ ≤ B; omega)) _) (.inr (by show _ ≤ B; omega)) _⟩
  rw [hB]
  exact ((h.own.store (p := ⟨B, 0, none⟩) (h.own.base B (by omega)) _).store (p := ⟨B, 1, none⟩) (h.own.base B (by omega)) _).from (by omega)
theorem pick_12 (b p : Nat) (w : World) (h : Rd w b p) (hp : p ≤ 1000000) : Calls Tryd.prog 69 #[.pointer (some ⟨b, 0, none⟩), .int .i64 12] w (Picked w b p 12) := pick_any b p 12 w h hp (by omega) (by omega)
theorem four_next {y : Nat} (h : y < 4) : ∃ z : Int, 0 ≤ z ∧ z ≤ 101 ∧ (#[Value.int .i64 0, .int .i64 99, .int .i64 100, .int .i64 101] : Array Value)[y]? = some (.int .i64 z) := by
  match y, h with
  | 0, _ => exact ⟨0, by omega, by omega, rfl⟩
  | 1, _ => exact ⟨99, by omega, by omega, rfl⟩
  | 2, _ => exact ⟨100, by omega, by omega, rfl⟩
  | 3, _ => exact ⟨101, by omega, by omega, rfl⟩

set_option maxRecDepth 20000 in
set_option maxHeartbeats 8000000 in
theorem box_draw (b p : Nat) (w : World) (h : Rd w b p) (hp : p ≤ 800000) :
    Calls Tryd.prog 51 #[.pointer (some ⟨b, 0, none⟩)] w (DrewB w b p) := by
  obtain ⟨B, hB⟩ : ∃ B, w.heap.size = B := ⟨_, rfl⟩
  have HBB := Lib.hid hB
  have hbB := h.lt
  rw [hB] at hbB
  have H := Lib.hid (h.below (below_new w (.cells #[.int .i64 0, .slice none 0 0] 37)) h.lt)
  have hres := Whole.made w 37 #[.int .i64 0, .slice none 0 0]
  rw [hB] at hres
  have HRS := Lib.hid hres
  have hsz : (w.alloc (.cells #[.int .i64 0, .slice none 0 0] 37)).heap.size = B + 1 := by simp [hB]
  have HSZ := Lib.hid hsz
  clear h hres hsz
  go_enter Tryd.func51, Tryd.ntmps51
  go_wp2_with fail
  refine (pick_any b p 3 _ H.out (by omega) (by omega) (by omega)).mono ?_
  rintro e w1 ⟨x, hx, rfl, hr, hg⟩
  have hz1 : B + 1 ≤ w1.heap.size := by rw [← HSZ.out]; exact hg.size
  have HR1 := Lib.hid hr
  have HS1 := Lib.hid (HRS.out.grown hg (by simp; omega))
  have HG1 := Lib.hid (gr_trans (gr_alloc (gr_refl w (some b)) (.cells #[.int .i64 0, .slice none 0 0] 37)) hg)
  clear hr hg
  obtain ⟨S, hS⟩ : ∃ S, w1.heap.size = S := ⟨_, rfl⟩
  obtain ⟨m0, hm0⟩ : ∃ m0 : Int, 1 + (x : Int) = m0 := ⟨_, rfl⟩
  have hm1 : 1 ≤ m0 := by omega
  have hm3 : m0 ≤ 3 := by omega
  have W0 : IntKind.i64.wrap (1 + (x : Int)) = m0 := (IntWalk.i64_in _ (by omega)).trans hm0
  have hmk : Mk w ((w1.alloc (.cells #[] 48)).alloc (.cells #[.int .i64 m0, .slice (some ⟨S, 0, none⟩) 0 0] 37)) b B (S + 1) (p + 1) m0 (.slice (some ⟨S, 0, none⟩) 0 0) [] := by
    have hb2 := (below_new w1 (.cells #[] 48)).alloc (by simp) (.cells #[.int .i64 m0, .slice (some ⟨S, 0, none⟩) 0 0] 37)
    have hbx := Whole.made (w1.alloc (.cells #[] 48)) 37 #[.int .i64 m0, .slice (some ⟨S, 0, none⟩) 0 0]
    rw [show (w1.alloc (.cells #[] 48)).heap.size = S + 1 by simp [hS]] at hbx
    exact ⟨HR1.out.below hb2 HR1.out.lt, HS1.out.below hb2 HS1.out.lt, hbx, (ROwn.lit (R := mailR) (B := B + 1) w1 S (by omega) hS).alloc _, gr_trans HG1.out (gr_below hb2 _)⟩
  have HMK := Lib.hid hmk
  rw [hS] at hz1
  clear hmk
  go_wp2_with fail
  refine (pick_any b (p + 1) 8 _ HMK.out.rd (by omega) (by omega) (by omega)).mono ?_
  rintro e w2 ⟨y, hy, rfl, hr, hg⟩
  have HM2 := Lib.hid (HMK.out.read hr hg hbB (by omega))
  clear hr hg HMK HR1 HS1 HG1 H HRS HSZ W0 hm0
  go_wp2_with fail
  refine (pick_any b (p + 1 + 1) 12 _ HM2.out.rd (by omega) (by omega) (by omega)).mono ?_
  rintro e w3 ⟨y2, hy2, rfl, hr, hg⟩
  have HM3 := Lib.hid (HM2.out.read hr hg hbB (by omega))
  clear hr hg HM2
  go_upto_if 17 with (fail)
  go_cut [4] (fun v wx => ∃ k : Nat, k ≤ 14 ∧ v = .int .i64 (k : Int) ∧ w3 = wx)
  case first =>
    by_cases h0 : y2 = 0
    · subst h0
      go_wp2_with fail
      go_meet
      case rel => exact ⟨14, by omega, rfl, rfl⟩
    · have h0' : ((y2 : Int) == 0) = false := beq_eq_false_iff_ne.2 (by omega)
      clear h0
      go_wp2_with fail
      go_meet
      case rel => exact ⟨y, by omega, rfl, rfl⟩
  case rest =>
    obtain ⟨k, hk, rfl, rfl⟩ := hcut
    clear y2 hy2 y hy x hx
    obtain ⟨C, hC⟩ : ∃ C, S + 1 = C := ⟨_, rfl⟩
    have hBC : B < C := by omega
    rw [hC] at HM3 ⊢
    clear hC
    go_wp2_with fail
    go_loopg [5] k (fun gk i wr => ∃ (j q : Nat) (m : Int) (A : Option Addr) (N cap : Nat) (M : List ML), j + gk = k ∧ i = .int .i64 (j : Int) ∧ q ≤ p + 3 + 6 * j ∧ 0 ≤ m ∧ m ≤ 3 + 3 * (j : Int) ∧ N ≤ j ∧ Hid (Mk w wr b B C q m (.slice A N cap) M))
    case atStart => exact ⟨0, _, m0, _, _, _, _, by omega, by go_num, by omega, by omega, by omega, Nat.zero_le _, HM3⟩
    case round =>
      obtain ⟨j, q, m, A, N, cap, M, hj, rfl, hq, hm0', hm3', hN, HM⟩ := hrel
      clear HM3
      by_cases hlt : j < k
      · have h5 : (j : Int) < (k : Int) := by omega
        go_upto_region 8 with fail
        go_cut [6, 7] (fun s6 s7 wx => ∃ (F : Nat) (n' : Int) (A' : Option Addr) (N' cap' : Nat) (L' : List ML) (ok : Bool) (q' : Nat), s6 = .pointer (some ⟨F, 0, none⟩) ∧ s7 = .bool ok ∧ q' ≤ q + 3 ∧ F ≠ C ∧ Hid (ok = true → n' = m + 1 ∧ L'.length = M.length + 1) ∧ Hid (Mk w wx b B C q' m (.slice A N cap) M) ∧ Hid (Whole wx F 37 #[.int .i64 n', .slice A' N' cap']) ∧ Hid (ROwn mailR wx (B + 1) (.slice A' N' cap') L'))
        case first =>
          have hNl : N ≤ 33554432 := by omega
          have x0 := HM.out.box.cell 0
          have x1 := HM.out.box.cell 1
          simp at x0 x1
          have za := HM.out.alloc (.cells #[.int .i64 0, .slice none 0 0] 37)
          have x0z := za.box.cell 0
          have x1z := za.box.cell 1
          simp at x0z x1z
          have HZA := Lib.hid za
          have hCw := HM.out.box.lt
          clear za
          go_region_with (first
            | (go_at_call 69
               refine (pick_any b q 32 _ (by first | exact HM.out.drew.rd | exact HZA.out.drew.rd) (by omega) (by omega) (by omega)).mono ?_
               rintro e w4 ⟨y, hy, rfl, hr, hg⟩
               have hm4 := Mk.read (by first | exact HM.out.drew | exact HZA.out.drew) hr hg hbB hBC
               have x04 := hm4.box.cell 0
               have x14 := hm4.box.cell 1
               have zb := hm4.alloc (.cells #[.int .i64 0, .slice none 0 0] 37)
               have x04z := zb.box.cell 0
               have x14z := zb.box.cell 1
               simp at x04 x14 x04z x14z
               have HM4 := Lib.hid hm4
               have HZB := Lib.hid zb
               first
                 | (have HF4 := Lib.hid (show Whole w4 wr.heap.size 37 #[.int .i64 0, .slice none 0 0] from Whole.grown (Whole.drew (Whole.made wr 37 #[.int .i64 0, .slice none 0 0])) hg (by simp; omega)))
                 | skip
               have hCw4 := HM4.out.box.lt
               clear hr hg hm4 zb)
            | (go_at_call 81
               refine (text_draw b (q + 1) _ (by first | exact HM4.out.rd | exact HZB.out.rd) (by omega)).mono ?_
               rintro e w5 ⟨t, q5, ht, hq5, rfl, hr, hg⟩
               obtain ⟨v5, hv5⟩ : ∃ v, sB t = v := ⟨_, rfl⟩
               rw [hv5]
               have HV5 := Lib.hid hv5
               have hm5 := Mk.read (by first | exact HM4.out | exact HZB.out) hr hg hbB hBC
               have x05 := hm5.box.cell 0
               have x15 := hm5.box.cell 1
               have zc := hm5.alloc (.cells #[.int .i64 0, .slice none 0 0] 37)
               have x05z := zc.box.cell 0
               have x15z := zc.box.cell 1
               simp at x05 x15 x05z x15z
               have HM5 := Lib.hid hm5
               have HZC := Lib.hid zc
               first
                 | (have HF5 := Lib.hid (show Whole w5 wr.heap.size 37 #[.int .i64 0, .slice none 0 0] from Whole.grown HF4.out hg (by simp; omega)))
                 | (have HF5 := Lib.hid (show Whole w5 w4.heap.size 37 #[.int .i64 0, .slice none 0 0] from Whole.grown (Whole.made w4 37 #[.int .i64 0, .slice none 0 0]) hg (by simp; omega)))
                 | skip
               have hCw5 := HM5.out.box.lt
               clear hr hg hm5 zc hv5)
            | (go_at_call 80
               refine (append_some HV5.out m A N cap M _ _ (by first | exact MIn.of HM5.out.own hNl | exact MIn.of HZC.out.own hNl)).mono ?_
               rintro e w6 ⟨n6, A6, N6, cap6, L6, ok6, rfl, hok, hown, hb⟩
               have HM6 := Lib.hid (Mk.below (by first | exact HM5.out | exact HZC.out) hb)
               have HOK6 := Lib.hid hok
               have HO6 := Lib.hid (hown.from (show B + 1 ≤ _ by first | omega | (simp; omega)))
               first
                 | (have HF6 := Lib.hid (show Whole w6 wr.heap.size 37 #[.int .i64 0, .slice none 0 0] from Whole.below HF5.out hb HF5.out.lt)
                    have HFN := Lib.hid (show wr.heap.size ≠ C by omega)
                    have f60 := HF6.out.cell 0
                    have f61 := HF6.out.cell 1
                    simp at f60 f61
                    have f6f := HF6.out.free 0
                    have f6g := HF6.out.free 1)
                 | (have HF6 := Lib.hid (show Whole w6 w4.heap.size 37 #[.int .i64 0, .slice none 0 0] from Whole.below HF5.out hb HF5.out.lt)
                    have HFN := Lib.hid (show w4.heap.size ≠ C by omega)
                    have f60 := HF6.out.cell 0
                    have f61 := HF6.out.cell 1
                    simp at f60 f61
                    have f6f := HF6.out.free 0
                    have f6g := HF6.out.free 1)
                 | (have HF6 := Lib.hid (show Whole w6 w5.heap.size 37 #[.int .i64 0, .slice none 0 0] from Whole.below (Whole.made w5 37 #[.int .i64 0, .slice none 0 0]) hb (by simp))
                    have HFN := Lib.hid (show w5.heap.size ≠ C by omega)
                    have f60 := HF6.out.cell 0
                    have f61 := HF6.out.cell 1
                    simp at f60 f61
                    have f6f := HF6.out.free 0
                    have f6g := HF6.out.free 1)
                 | skip
               have hCw6 := HM6.out.box.lt
               clear hok hown hb))
          all_goals
            go_wp2_with fail
            go_meet
            case rel =>
              first
                | exact ⟨_, n6, A6, N6, cap6, L6, ok6, q5, rfl, rfl, by omega, HFN.out, HOK6, (HM6.out.store HF6.out hbB (by omega) HFN.out hB _).store (HF6.out.store 0 _) hbB (by omega) HFN.out hB _, (HF6.out.store 0 _).store 1 _, (HO6.out.store (HO6.out.whole HF6.out (by decide)) _).store (HO6.out.whole HF6.out (by decide)) _⟩
                | exact ⟨_, n6, A6, N6, cap6, L6, ok6, q5, rfl, rfl, by omega, by omega, HOK6, HM6.out.alloc _, Whole.made _ _ _, HO6.out.alloc _⟩
        case rest =>
          obtain ⟨F, n', A', N', cap', L', ok, q', rfl, rfl, hq', hFC, HOK, HM', HF, HO⟩ := hcut
          clear HM
          have x0 := HM'.out.box.cell 0
          have x1 := HM'.out.box.cell 1
          have f0 := HF.out.cell 0
          have f1 := HF.out.cell 1
          simp at x0 x1 f0 f1
          have xf0 := HM'.out.box.free 0
          have xf1 := HM'.out.box.free 1
          go_upto_if 32 with (fail)
          go_cut [] (fun wx => ∃ (q2 : Nat) (m2 : Int) (A2 : Option Addr) (N2 cap2 : Nat) (M2 : List ML), q2 ≤ q + 4 ∧ 0 ≤ m2 ∧ m2 ≤ 3 + 3 * (j : Int) + 3 ∧ N2 ≤ j + 1 ∧ Hid (Mk w wx b B C q2 m2 (.slice A2 N2 cap2) M2))
          case first =>
            cases ok with
            | false =>
              go_wp2_with fail
              go_meet
              case rel => exact ⟨q', m, A, N, cap, M, by omega, by omega, by omega, by omega, HM'⟩
            | true =>
              obtain ⟨hn', hL'⟩ := HOK.out rfl
              have hNN : N' = N + 1 := by rw [HO.out.len.1, hL', ← HM'.out.own.len.1]
              subst hNN
              have h0m : 0 ≤ n' := by omega
              have h1m : n' ≤ 3 + 3 * (j : Int) + 1 := by omega
              have hmp := Mk.put (m' := n') HM'.out HO.out hbB hBC hB
              have y0 := hmp.drew.box.cell 0
              simp at y0
              have yf := hmp.drew.box.free 0
              have HMP := Lib.hid hmp
              clear hn' hL' HOK hmp
              go_upto_region 11 with fail
              go_region_with (go_at_call 69
                              refine (pick_any b q' 3 _ HMP.out.drew.rd (by omega) (by omega) (by omega)).mono ?_
                              rintro e w8 ⟨z, hz, rfl, hr, hg⟩
                              have hm8 := Mk.read HMP.out.drew hr hg hbB hBC
                              have y80 := hm8.box.cell 0
                              simp at y80
                              have yf8 := hm8.box.free 0
                              have HM8 := Lib.hid hm8
                              have HW8 : Hid (IntKind.i64.wrap (n' + (z : Int)) = n' + (z : Int)) := IntWalk.i64_in _ (by omega)
                              clear hr hg hm8)
              all_goals
                go_wp2_with fail
                go_meet
                case rel => exact ⟨q' + 1, n' + (z : Int), A', N + 1, cap', L', by omega, by omega, by omega, by omega, by rw [HW8.out]; exact HM8.out.next hbB hBC hB⟩
          case rest =>
            obtain ⟨q2, m2, A2, N2, cap2, M2, hq2, hm20, hm23, hN2, HM2⟩ := hcut
            clear HM' HF HO HOK x0 x1 f0 f1 xf0 xf1
            go_wp2_with fail
            refine (pick_any b q2 8 _ HM2.out.rd (by omega) (by omega) (by omega)).mono ?_
            rintro e w9 ⟨z, hz, rfl, hr, hg⟩
            have HM9 := Lib.hid (Mk.read HM2.out hr hg hbB hBC)
            clear hr hg HM2
            by_cases h0 : z = 0
            · subst h0
              have x0 := HM9.out.box.cell 0
              have x1 := HM9.out.box.cell 1
              simp at x0 x1
              go_wp2_with fail
              refine (expunge_some m2 A2 N2 cap2 M2 _ (MIn.of HM9.out.own (by omega))).mono ?_
              rintro e wa ⟨n3, A3, N3, cap3, A4, N4, cap4, L3, rfl, hn3, hL3, hown, hb⟩
              have hma := Mk.below HM9.out hb
              have hCa := HM9.out.box.lt
              have HOA := Lib.hid (hown.from (show B + 1 ≤ _ by omega))
              have hNN : N3 ≤ N2 := by rw [HOA.out.len.1, HM9.out.own.len.1]; exact hL3
              have y0 := hma.box.cell 0
              have y1 := hma.box.cell 1
              simp at y0 y1
              have yf0 := hma.box.free 0
              have yf1 := hma.box.free 1
              have HMA := Lib.hid hma
              have hn30 : 0 ≤ n3 := by omega
              have hn33 : n3 ≤ 3 + 3 * (j : Int) + 3 := by omega
              clear hb hown hma hn3 hL3 x0 x1
              go_wp2_with fail
              go_roundg (gk - 1)
              case measure => omega
              case rel => exact ⟨j + 1, q2 + 1, n3, A3, N3, cap3, L3, by omega, by go_num, by omega, by omega, by omega, by omega, Mk.put HMA.out HOA.out hbB hBC hB⟩
            · have h0' : ((z : Int) == 0) = false := beq_eq_false_iff_ne.2 (by omega)
              clear h0
              go_wp2_with fail
              go_roundg (gk - 1)
              case measure => omega
              case rel => exact ⟨j + 1, q2 + 1, m2, A2, N2, cap2, M2, by omega, by go_num, by omega, by omega, by omega, by omega, HM9⟩
      · have h5 : ¬ (j : Int) < (k : Int) := by omega
        have hN14 : N ≤ 14 := by omega
        have hm60 : m ≤ 60 := by omega
        have hq90 : q ≤ p + 90 := by omega
        clear hq hm3' hN hj hk hlt
        go_wp2_with fail
        refine (pick_any b q 20 _ HM.out.rd (by omega) (by omega) (by omega)).mono ?_
        rintro e w4 ⟨x, hx, rfl, hr, hg⟩
        have HM4 := Lib.hid (Mk.read HM.out hr hg hbB hBC)
        clear hr hg HM
        by_cases e0 : x = 0
        · subst e0
          have hC0 := HM4.out.box.lt
          have hma := HM4.out.alloc (.cells #[.int .i64 0, .int .i64 99, .int .i64 100, .int .i64 101] 3)
          have HMA := Lib.hid hma
          clear hma
          go_wp2_with fail
          refine (pick_any b (q + 1) 4 _ HMA.out.rd (by omega) (by omega) (by omega)).mono ?_
          rintro e w5 ⟨y, hy, rfl, hr, hg⟩
          obtain ⟨z, z1, z2, hz4⟩ := four_next hy
          have hcz : w5.cell? ⟨w4.heap.size, y, none⟩ = some (.int .i64 z) := (((Whole.made w4 3 #[.int .i64 0, .int .i64 99, .int .i64 100, .int .i64 101]).grown hg (by simp; omega)).cell y).trans hz4
          have y0 : (0 : Int) ≤ (y : Int) := by omega
          have y4 : (y : Int) < 4 := by omega
          have HM5 := Lib.hid (Mk.read HMA.out hr hg hbB hBC)
          have xx0 := HM5.out.box.cell 0
          simp at xx0
          have xf0 := HM5.out.box.free 0
          have HMN := Lib.hid (HM5.out.next (m' := z) hbB hBC hB)
          have hCB : ¬ C = B := by omega
          clear hr hg hz4
          have x0 := HMN.out.box.cell 0
          have x1 := HMN.out.box.cell 1
          have r0 := HMN.out.res.cell 0
          have r1 := HMN.out.res.cell 1
          simp at x0 x1 r0 r1
          have rf0 := HMN.out.res.free 0
          have rf1 := HMN.out.res.free 1
          go_wp2
          refine bodyPost_ret (v := .agg #[.int .i64 z, .slice A N cap]) (by simp [results, Tryd.results51, go_sem, r0, r1]) rfl ?_
          exact Mk.fin HMN.out hbB hB hN14 (by omega) (by omega) (by omega) _ _
        · have e0' : ((x : Int) == 0) = false := beq_eq_false_iff_ne.2 (by omega)
          by_cases e1 : x = 1
          · subst e1
            by_cases hz : N = 0
            · subst hz
              have x0 := HM4.out.box.cell 0
              have x1 := HM4.out.box.cell 1
              have r0 := HM4.out.res.cell 0
              have r1 := HM4.out.res.cell 1
              simp at x0 x1 r0 r1
              have rf0 := HM4.out.res.free 0
              have rf1 := HM4.out.res.free 1
              go_wp2
              refine bodyPost_ret (v := .agg #[.int .i64 m, .slice A 0 cap]) (by simp [results, Tryd.results51, go_sem, r0, r1]) rfl ?_
              exact Mk.fin HM4.out hbB hB hN14 (by omega) (by omega) (by omega) _ _
            · have hpos : 0 < N := by omega
              have hpos' : (0 : Int) < (N : Int) := by omega
              have HNL := Lib.hid HM4.out.own.len.1
              obtain ⟨g, hg⟩ : ∃ g, A = some ⟨g, 0, none⟩ := by
                obtain ⟨A', c', he, -, -, -, -, hne⟩ := HM4.out.own.form
                cases he
                exact hne (fun e => by rw [e] at hpos; simp at hpos)
              subst hg
              have x0 := HM4.out.box.cell 0
              have x1 := HM4.out.box.cell 1
              simp at x0 x1
              have HMD := Lib.hid HM4.out.drew
              go_wp2
              go_region_with (first
                | (go_at_call 69
                   (with_reducible refine (pick_any b (q + 1) N _ HMD.out.rd (by omega) (by omega) (by omega)).mono ?_)
                   rintro e w5 ⟨y, hy, rfl, hr, hgr⟩
                   obtain ⟨⟨u, f, t⟩, hx⟩ : ∃ x, M[y]? = some x := ⟨_, List.getElem?_eq_getElem (by rw [← HNL.out]; exact hy)⟩
                   have HX := Lib.hid hx
                   have y0 : (0 : Int) ≤ (y : Int) := by omega
                   have y4 : (y : Int) < (N : Int) := by omega
                   have hm5 := Mk.read HMD.out hr hgr hbB hBC
                   have x15 := hm5.box.cell 1
                   have c05 := hm5.own.cell hx (j := 0) rfl
                   have c0f := hm5.own.free (y * 3 + 0)
                   have e3 : mailR.sz = 3 := rfl
                   rw [e3] at c05
                   simp at x15 c05 c0f
                   have HM5 := Lib.hid hm5
                   clear hr hgr hm5 hx e3)
                | (go_at_call 69
                   (with_reducible refine (pick_12 b (q + 1 + 1) _ HM5.out.rd (by omega)).mono ?_)
                   rintro e w6 ⟨z, hz6, rfl, hr, hgr⟩
                   have hm6 := Mk.read HM5.out hr hgr hbB hBC
                   have x16 := hm6.box.cell 1
                   have c06 := hm6.own.cell HX.out (j := 0) rfl
                   have c0g := hm6.own.free (y * 3 + 0)
                   have e3 : mailR.sz = 3 := rfl
                   rw [e3] at c06
                   simp at x16 c06 c0g
                   have HM6 := Lib.hid hm6
                   have HMN := Lib.hid (hm6.mail (j := 0) (u := .int .i64 (z : Int)) (y := ((z : Int), f, t)) HX.out (by omega) rfl hbB hBC hB)
                   clear hr hgr hm6 e3))
              all_goals
                have hmn : Mk w (w6.setCell ⟨g, y * 3, none⟩ (.int .i64 (z : Int))) b B C _ m (.slice (some ⟨g, 0, none⟩) N cap) _ := HMN.out
                obtain ⟨wf, hwf⟩ : ∃ wf, w6.setCell ⟨g, y * 3, none⟩ (.int .i64 (z : Int)) = wf := ⟨_, rfl⟩
                rw [hwf] at hmn ⊢
                have x0 := hmn.box.cell 0
                have x1 := hmn.box.cell 1
                have r0 := hmn.res.cell 0
                have r1 := hmn.res.cell 1
                simp at x0 x1 r0 r1
                have rf0 := hmn.res.free 0
                have rf1 := hmn.res.free 1
                have HMF := Lib.hid hmn
                clear hmn hwf
                go_wp2
                refine bodyPost_ret (v := .agg #[.int .i64 m, .slice (some ⟨g, 0, none⟩) N cap]) (by simp [results, Tryd.results51, go_sem, r0, r1]) rfl ?_
                exact Mk.fin HMF.out hbB hB hN14 (by omega) (by omega) (by omega) _ _
          · have e1' : ((x : Int) == 1) = false := beq_eq_false_iff_ne.2 (by omega)
            by_cases e2 : x = 2
            · subst e2
              by_cases hz : N = 0
              · subst hz
                have x0 := HM4.out.box.cell 0
                have x1 := HM4.out.box.cell 1
                have r0 := HM4.out.res.cell 0
                have r1 := HM4.out.res.cell 1
                simp at x0 x1 r0 r1
                have rf0 := HM4.out.res.free 0
                have rf1 := HM4.out.res.free 1
                go_wp2
                refine bodyPost_ret (v := .agg #[.int .i64 m, .slice A 0 cap]) (by simp [results, Tryd.results51, go_sem, r0, r1]) rfl ?_
                exact Mk.fin HM4.out hbB hB hN14 (by omega) (by omega) (by omega) _ _
              · have hpos : 0 < N := by omega
                have hpos' : (0 : Int) < (N : Int) := by omega
                have HNL := Lib.hid HM4.out.own.len.1
                obtain ⟨g, hg⟩ : ∃ g, A = some ⟨g, 0, none⟩ := by
                  obtain ⟨A', c', he, -, -, -, -, hne⟩ := HM4.out.own.form
                  cases he
                  exact hne (fun e => by rw [e] at hpos; simp at hpos)
                subst hg
                have x0 := HM4.out.box.cell 0
                have x1 := HM4.out.box.cell 1
                simp at x0 x1
                have HMD := Lib.hid HM4.out.drew
                go_wp2
                go_region_with (first
                  | (go_at_call 69
                     (with_reducible refine (pick_any b (q + 1) N _ HMD.out.rd (by omega) (by omega) (by omega)).mono ?_)
                     rintro e w5 ⟨y, hy, rfl, hr, hgr⟩
                     obtain ⟨⟨u, f, t⟩, hx⟩ : ∃ x, M[y]? = some x := ⟨_, List.getElem?_eq_getElem (by rw [← HNL.out]; exact hy)⟩
                     have HX := Lib.hid hx
                     have y0 : (0 : Int) ≤ (y : Int) := by omega
                     have y4 : (y : Int) < (N : Int) := by omega
                     have hm5 := Mk.read HMD.out hr hgr hbB hBC
                     have x15 := hm5.box.cell 1
                     have c05 := hm5.own.cell hx (j := 1) rfl
                     have c0f := hm5.own.free (y * 3 + 1)
                     have e3 : mailR.sz = 3 := rfl
                     rw [e3] at c05
                     simp at x15 c05 c0f
                     have HM5 := Lib.hid hm5
                     clear hr hgr hm5 hx e3))
                all_goals
                  have HMN := Lib.hid (HM5.out.mail (j := 1) (u := .int .i64 32) (y := (u, 32, t)) HX.out (by omega) rfl hbB hBC hB)
                  have hmn := HMN.out
                  obtain ⟨wf, hwf⟩ : ∃ wf, w5.setCell ⟨g, y * 3 + 1, none⟩ (.int .i64 32) = wf := ⟨_, rfl⟩
                  rw [hwf] at hmn ⊢
                  have x0 := hmn.box.cell 0
                  have x1 := hmn.box.cell 1
                  have r0 := hmn.res.cell 0
                  have r1 := hmn.res.cell 1
                  simp at x0 x1 r0 r1
                  have rf0 := hmn.res.free 0
                  have rf1 := hmn.res.free 1
                  have HMF := Lib.hid hmn
                  clear hmn hwf
                  go_wp2
                  refine bodyPost_ret (v := .agg #[.int .i64 m, .slice (some ⟨g, 0, none⟩) N cap]) (by simp [results, Tryd.results51, go_sem, r0, r1]) rfl ?_
                  exact Mk.fin HMF.out hbB hB hN14 (by omega) (by omega) (by omega) _ _
            · have e2' : ((x : Int) == 2) = false := beq_eq_false_iff_ne.2 (by omega)
              clear e0 e1 e2
              have x0 := HM4.out.box.cell 0
              have x1 := HM4.out.box.cell 1
              have r0 := HM4.out.res.cell 0
              have r1 := HM4.out.res.cell 1
              simp at x0 x1 r0 r1
              have rf0 := HM4.out.res.free 0
              have rf1 := HM4.out.res.free 1
              go_wp2
              refine bodyPost_ret (v := .agg #[.int .i64 m, .slice A N cap]) (by simp [results, Tryd.results51, go_sem, r0, r1]) rfl ?_
              exact Mk.fin HM4.out hbB hB hN14 (by omega) (by omega) (by omega) _ _
end Go.Proofs.YtpihibconbejlaaDoor
namespace Go.Proofs.YtpihibconbejlaaDoor
open Go.RowKit
set_option linter.unusedVariables false

/-- A mailbox and a key that were drawn. -/
def DSB (w : World) (e : Ending) (w' : World) : Prop := ∃ (n : Int) (A : Option Addr) (N cap : Nat) (L : List ML) (k : KT) (r : KR), e = .returned (.tuple #[boxV n A N cap, kval r]) ∧ N ≤ 14 ∧ -1 ≤ n ∧ n ≤ 200 ∧ nodesT k ≤ 16 ∧ Nice r ∧ MIn w' A N cap L ∧ KV w' k (kval r) ∧ Below w.heap.size w w'
theorem kown_store {α : Type} {R : RowT α} {w : World} {B B' r : Nat} {v : Value} {L : List α} (h : ROwn R w B' v L) (hB : r < B') (hb : B ≤ B') (u u2 : Value) : ROwn R ((w.setCell ⟨r, 0, none⟩ u).setCell ⟨r, 1, none⟩ u2) B v L := ((h.store (h.base r hB) u).store (h.base r hB) u2).from hb
theorem kcoded_alloc {w : World} {A : Option Addr} {len cap : Nat} (h : Coded w A len cap) (o : Obj) : Coded (w.alloc o) A len cap := h.below (below_new w o) (Nat.le_refl _)
theorem kbelow_store {w w' : World} {B : Nat} (h : Below B w w') (u u2 : Value) : Below B w ((w'.setCell ⟨B, 0, none⟩ u).setCell ⟨B, 1, none⟩ u2) := (h.setCell (p := ⟨B, 0, none⟩) (Nat.le_refl _) u).setCell (p := ⟨B, 1, none⟩) (Nat.le_refl _) u2
theorem gr_st2 (w : World) (S : Nat) (a0 a1 : Value) : w.grownBy ((w.setCell ⟨S, 0, none⟩ a0).setCell ⟨S, 1, none⟩ a1) (some S) := gr_one (gr_one (gr_refl _ _) _ _) _ _
set_option maxRecDepth 20000 in
set_option maxHeartbeats 8000000 in
theorem draw_search (hkd : KD3) (A : Option Addr) (len cap : Nat) (w : World) (h : Coded w A len cap) :
    Calls Tryd.prog 28 #[.slice A len cap] w (DSB w) := by
  obtain ⟨B, hB⟩ : ∃ B, w.heap.size = B := ⟨_, rfl⟩
  have hsz : ((w.alloc (.cells #[.int .i64 0, .slice none 0 0] 37)).alloc (.cells #[.int .i64 0, .int .i64 0, .string ⟨#[]⟩, .slice none 0 0, .slice none 0 0] 26)).heap.size = B + 1 + 1 := by simp [hB]
  have HSZ := Lib.hid hsz
  have hc := kcoded_alloc (kcoded_alloc h (.cells #[.int .i64 0, .slice none 0 0] 37)) (.cells #[.int .i64 0, .int .i64 0, .string ⟨#[]⟩, .slice none 0 0, .slice none 0 0] 26)
  have HK := Lib.hid hc.2.2
  have HKD := Lib.hid hkd
  have hk1 := hc.1
  have hk2 := hc.2.1
  have K0 := Lib.hid (kp_two w 37 26 #[.int .i64 0, .slice none 0 0] #[.int .i64 0, .int .i64 0, .string ⟨#[]⟩, .slice none 0 0, .slice none 0 0] hB)
  clear h hc hsz hkd
  go_enter Tryd.func28, Tryd.ntmps28
  go_wp2_with fail
  refine (open_any A len cap _ hk1 hk2 HK.out).mono ?_
  rintro e w1 ⟨rfl, hr, hb, hz⟩
  rw [HSZ.out] at hr hz
  have HR := Lib.hid hr
  have K1 := Lib.hid (K0.out.move hb)
  clear hr hb
  rw [HSZ.out]
  go_wp2_with fail
  refine (box_draw (B + 1 + 1) 0 w1 HR.out (by omega)).mono ?_
  rintro e w2 ⟨n, A2, N2, cap2, L, q, rfl, hN, h1, h2, hq, hr, hown, hg⟩
  obtain ⟨D, hD⟩ : ∃ D, w2.heap.size = D := ⟨_, rfl⟩
  have hDB : B + 1 + 1 < D := by rw [← hD]; exact Nat.lt_of_lt_of_le hz hg.size
  obtain ⟨w4, hw4⟩ : ∃ w4, w2.alloc (.cells #[.int .i64 n, .slice A2 N2 cap2] 37) = w4 := ⟨_, rfl⟩
  have HR4 := Lib.hid (show Rd w4 (B + 1 + 1) q by rw [← hw4]; exact hr.below (below_new w2 _) hr.lt)
  have HO4 := Lib.hid (show ROwn mailR w4 (B + 1 + 1 + 1) (.slice A2 N2 cap2) L by rw [← hw4]; exact (hown.from (show B + 1 + 1 + 1 ≤ w1.heap.size by omega)).alloc _)
  have HW4 := Lib.hid (show Whole w4 B 37 #[.int .i64 0, .slice none 0 0] by rw [← hw4]; exact (K1.out.here.2.1.grown hg (by simp <;> omega)).alloc _)
  have HV4 := Lib.hid (show Whole w4 (B + 1) 26 #[.int .i64 0, .int .i64 0, .string ⟨#[]⟩, .slice none 0 0, .slice none 0 0] by rw [← hw4]; exact (K1.out.here.2.2.1.grown hg (by simp)).alloc _)
  have HB4 := Lib.hid (show Below B w w4 by rw [← hw4]; exact ((below_gr K1.out.here.1 hg (by omega) (by omega)).alloc (by omega) _))
  have HD4 := Lib.hid (show Whole w4 D 37 #[.int .i64 n, .slice A2 N2 cap2] by rw [← hw4, ← hD]; exact Whole.made w2 _ _)
  have hz4 : w4.heap.size = D + 1 := by rw [← hw4, ← hD]; simp
  have HZ4 := Lib.hid hz4
  have x0 : w4.cell? ⟨D, 0, none⟩ = some (.int .i64 n) := HD4.out.cell 0
  have x1 : w4.cell? ⟨D, 1, none⟩ = some (.slice A2 N2 cap2) := HD4.out.cell 1
  have HWW := Lib.hid hw4
  have HDD := Lib.hid hD
  clear hr hown hg HR K0 K1 hw4 hD hz4 hz
  go_wp2
  rw [HWW.out, HDD.out]
  go_region_with (go_at_call 43
                  refine (odd_draw HKD.out (B + 1 + 1) q _ (show Rd w4.drew (B + 1 + 1) q from HR4.out) (by omega)).mono ?_
                  rintro e w5 ⟨k, ⟨a0, a1, a2, ⟨a3, a4, a5⟩, ⟨a6, a7, a8⟩⟩, q5, rfl, hk, hni, hn, -, hr, hg⟩
                  have hd5 := HD4.out.drew.grown hg (by simp; omega)
                  have hw5 := HW4.out.drew.grown hg (by simp <;> omega)
                  have hv5 := HV4.out.drew.grown hg (by simp <;> omega)
                  have HO5 := Lib.hid ((show ROwn mailR w4.drew (B + 1 + 1 + 1) (.slice A2 N2 cap2) L from HO4.out).grown hg (by omega))
                  have HB5 := Lib.hid (below_gr (fbelow_drew HB4.out) hg (by show B ≤ w4.heap.size; have := HZ4.out; omega) (by omega))
                  have HK5 := Lib.hid (show KA (D + 1) w5.heap.size w5 k (kval (a0, a1, a2, (a3, a4, a5), (a6, a7, a8))) from (HZ4.out : w4.heap.size = D + 1) ▸ hk)
                  have HNI := Lib.hid hni
                  have HNT := Lib.hid hn
                  have HS5 := Lib.hid (show B + 1 + 1 < w5.heap.size from hr.lt)
                  have x05 : w5.cell? ⟨D, 0, none⟩ = some (.int .i64 n) := hd5.cell 0
                  have x15 : w5.cell? ⟨D, 1, none⟩ = some (.slice A2 N2 cap2) := hd5.cell 1
                  have r0 := hw5.cell 0
                  have r1 := hw5.cell 1
                  have s0 := hv5.cell 0
                  have s1 := hv5.cell 1
                  have s2 := hv5.cell 2
                  have s3 := hv5.cell 3
                  have s4 := hv5.cell 4
                  simp at r0 r1 s0 s1 s2 s3 s4
                  have g0 := hw5.free 0
                  have g1 := hw5.free 1
                  have f0 := hv5.free 0
                  have f1 := hv5.free 1
                  have f2 := hv5.free 2
                  have f3 := hv5.free 3
                  have f4 := hv5.free 4
                  have hDB' : ¬ D = B := by omega
                  have hDB'' : ¬ D = B + 1 := by omega
                  clear hr hg hk hni hn hd5 hw5 hv5)
  all_goals
    go_wp2
    refine bodyPost_ret (v := .tuple #[boxV n A2 N2 cap2, kval (a0, a1, a2, (a3, a4, a5), (a6, a7, a8))]) (by simp [results, Tryd.results28, go_sem, r0, r1, s0, s1, s2, s3, s4]) rfl ?_
    have hg2 := gr_st2 w5 B (.int .i64 n) (.slice A2 N2 cap2)
    have h5 := gr_st5 ((w5.setCell ⟨B, 0, none⟩ (.int .i64 n)).setCell ⟨B, 1, none⟩ (.slice A2 N2 cap2)) (B + 1) (.int .i64 a0) (.int .i64 a1) (.string a2) (.slice a3 a4 a5) (.slice a6 a7 a8)
    refine ⟨n, A2, N2, cap2, L, k, _, rfl, hN, h1, h2, HNT.out, HNI.out, ?_, ?_, ?_⟩
    · exact MIn.of ((kown_store (B := B + 1 + 1) HO5.out (by omega) (by omega) _ _).grown h5 (by omega)) (by omega)
    · exact ((HK5.out.grown hg2 (fun g e => by cases e; left; omega)).grown h5 (fun g e => by cases e; left; omega)).kv
    · rw [hB]
      exact below_gr (kbelow_store HB5.out _ _) h5 (by have := HS5.out; simp [World.setCell]; omega) (by omega)
end Go.Proofs.YtpihibconbejlaaDoor
namespace Go.Proofs.YtpihibconbejlaaDoor
open Go.RowKit
set_option linter.unusedVariables false

set_option maxRecDepth 20000 in
set_option maxHeartbeats 16000000 in
theorem key_step (d b p : Nat) (w : World) (hd : d ≤ 3) (hr : Rd w b p) (hp : p + cD d ≤ 500000) (ih : ∀ (e q : Nat) (w' : World), e + 1 = d → Rd w' b q → q + cD e ≤ 500000 → Calls Tryd.prog 68 #[.pointer (some ⟨b, 0, none⟩), .int .i64 (e : Int)] w' (DrewK w' b q e)) :
    Calls Tryd.prog 68 #[.pointer (some ⟨b, 0, none⟩), .int .i64 (d : Int)] w (DrewK w b p d) := by
    have HIH0 := Lib.hid ih
    clear ih
    have hcp := cD_pos d
    have hbl := hr.lt
    obtain ⟨S, hS⟩ : ∃ S, w.heap.size = S := ⟨_, rfl⟩
    have HSS := Lib.hid hS
    have hbS : b < S := by omega
    obtain ⟨w1, hw1⟩ : ∃ w1, w.alloc (.cells #[.int .i64 0, .int .i64 0, .string ⟨#[]⟩, .slice none 0 0, .slice none 0 0] 26) = w1 := ⟨_, rfl⟩
    have HW1 := Lib.hid hw1
    have HZ1 : Hid (Whole w1 S 26 #[.int .i64 0, .int .i64 0, .string ⟨#[]⟩, .slice none 0 0, .slice none 0 0]) := Lib.hid (by rw [← hw1, ← hS]; exact Whole.made w _ _)
    have HB1 : Hid (Below w.heap.size w w1) := Lib.hid (by rw [← hw1]; exact (Below.refl _ _).alloc (Nat.le_refl _) _)
    have HR1 := Lib.hid (hr.below HB1.out hbl)
    have HG1 := Lib.hid (gr_below HB1.out (some b))
    have hneS : some S ≠ some b := fun e => by cases e; omega
    clear hr hw1 hS hbl
    rcases Nat.eq_zero_or_pos d with hz | hpos
    · subst hz
      have hc0 : cD 0 = 60 := rfl
      go_enter Tryd.func68, Tryd.ntmps68
      go_wp2_with fail
      rw [HW1.out, HSS.out]
      refine (pick_any b p 9 _ HR1.out (by omega) (by omega) (by omega)).mono ?_
      rintro ee w3 ⟨x, hx, hee, hr, hg⟩
      have HR3 := Lib.hid hr
      have HG3 := Lib.hid (gr_trans HG1.out hg)
      have HZ3 := Lib.hid (HZ1.out.grown hg hneS)
      clear hr hg
      obtain ⟨y, hy⟩ : ∃ y : Int, (x : Int) = y := ⟨_, rfl⟩
      rw [hy] at hee
      subst hee
      have hyy : y = 0 ∨ (y = 1 ∨ y = 2) ∨ (y = 3 ∨ y = 4) ∨ (y = 5 ∨ y = 6) ∨ (y = 7 ∨ y = 8) := by omega
      clear hx hy
      rcases hyy with rfl | hy | hy | hy | hy
      · have r0 := HZ3.out.cell 0
        have r1 := HZ3.out.cell 1
        have r2 := HZ3.out.cell 2
        have r3 := HZ3.out.cell 3
        have r4 := HZ3.out.cell 4
        simp at r0 r1 r2 r3 r4
        have f0 := HZ3.out.free 0
        have f1 := HZ3.out.free 1
        have f2 := HZ3.out.free 2
        have f3 := HZ3.out.free 3
        have f4 := HZ3.out.free 4
        go_wp2
        refine bodyPost_ret (v := kval (0, 0, ⟨#[]⟩, (none, 0, 0), (none, 0, 0))) (by simp [results, Tryd.results68, go_sem, r0, r1, r2, r3, r4]) rfl ?_
        exact drewk_end HSS.out hbS (ka_leaf (by decide) rfl (by omega) (SpA.nil _ _)) (nodes_leaf _ _ _ _ _) (by omega) HR3.out HG3.out ⟨fun _ => rfl, fun q e => by cases e⟩
      · rcases hy with rfl | rfl
        all_goals (
          go_wp2_with fail
          refine (of_new b (p + 1) [[98, 111, 98], [120], [97, 109, 121], [111]] w3 HR3.out (by omega) (by decide) (by decide)).mono ?_
          rintro ee w4 ⟨l, hl, rfl, hr2, hg2⟩
          have HR4 := Lib.hid hr2
          have HG4 := Lib.hid (gr_trans HG3.out hg2)
          have HZ4 := Lib.hid (HZ3.out.grown hg2 hneS)
          have hlz : (⟨l.toArray⟩ : ByteArray).size ≤ 30 := text_le (by decide) hl
          clear hr2 hg2 hl
          unfold str
          obtain ⟨tx, htx⟩ : ∃ tx : ByteArray, ⟨l.toArray⟩ = tx := ⟨_, rfl⟩
          rw [htx] at hlz ⊢
          clear htx
          have r0 := HZ4.out.cell 0
          have r1 := HZ4.out.cell 1
          have r2 := HZ4.out.cell 2
          have r3 := HZ4.out.cell 3
          have r4 := HZ4.out.cell 4
          simp at r0 r1 r2 r3 r4
          have f0 := HZ4.out.free 0
          have f1 := HZ4.out.free 1
          have f2 := HZ4.out.free 2
          have f3 := HZ4.out.free 3
          have f4 := HZ4.out.free 4
          go_wp2
          refine bodyPost_ret (v := kval (2, 0, tx, (none, 0, 0), (none, 0, 0))) (by simp [results, Tryd.results68, go_sem, r0, r1, r2, r3, r4]) rfl ?_
          exact drewk_end HSS.out hbS (ka_leaf (by omega) rfl (by omega) (SpA.nil _ _)) (nodes_leaf _ _ _ _ _) (by omega) HR4.out HG4.out ⟨fun _ => rfl, fun q e => by cases e⟩)
      · rcases hy with rfl | rfl
        all_goals (
          go_wp2_with fail
          refine (set_draw b (p + 1) w3 HR3.out (by omega)).mono ?_
          rintro ee w4 ⟨v, L, q, hL, hq, rfl, hr2, hg2, ho⟩
          obtain ⟨A, n, c, rfl⟩ := own_slice ho
          have HR4 := Lib.hid hr2
          have HG4 := Lib.hid (gr_trans HG3.out hg2)
          have HZ4 := Lib.hid (HZ3.out.grown hg2 hneS)
          have HO4 := Lib.hid ho
          have hS3 : S + 1 ≤ w3.heap.size := HZ3.out.lt
          clear hr2 hg2 ho
          have r0 := HZ4.out.cell 0
          have r1 := HZ4.out.cell 1
          have r2 := HZ4.out.cell 2
          have r3 := HZ4.out.cell 3
          have r4 := HZ4.out.cell 4
          simp at r0 r1 r2 r3 r4
          have f0 := HZ4.out.free 0
          have f1 := HZ4.out.free 1
          have f2 := HZ4.out.free 2
          have f3 := HZ4.out.free 3
          have f4 := HZ4.out.free 4
          go_wp2
          refine bodyPost_ret (v := kval (3, 0, ⟨#[]⟩, (A, n, c), (none, 0, 0))) (by simp [results, Tryd.results68, go_sem, r0, r1, r2, r3, r4]) rfl ?_
          obtain ⟨hs1, hs2⟩ := spa_own1 HO4.out hS3
          exact drewk_end HSS.out hbS (ka_leaf (by decide) hs2 (by omega) hs1) (nodes_leaf _ _ _ _ _) (by omega) HR4.out HG4.out ⟨fun _ => rfl, fun q e => by cases e⟩)
      · rcases hy with rfl | rfl
        all_goals (
          go_wp2_with fail
          refine (set_draw b (p + 1) w3 HR3.out (by omega)).mono ?_
          rintro ee w4 ⟨v, L, q, hL, hq, rfl, hr2, hg2, ho⟩
          obtain ⟨A, n, c, rfl⟩ := own_slice ho
          have HR4 := Lib.hid hr2
          have HG4 := Lib.hid (gr_trans HG3.out hg2)
          have HZ4 := Lib.hid (HZ3.out.grown hg2 hneS)
          have HO4 := Lib.hid ho
          have hS3 : S + 1 ≤ w3.heap.size := HZ3.out.lt
          clear hr2 hg2 ho
          have r0 := HZ4.out.cell 0
          have r1 := HZ4.out.cell 1
          have r2 := HZ4.out.cell 2
          have r3 := HZ4.out.cell 3
          have r4 := HZ4.out.cell 4
          simp at r0 r1 r2 r3 r4
          have f0 := HZ4.out.free 0
          have f1 := HZ4.out.free 1
          have f2 := HZ4.out.free 2
          have f3 := HZ4.out.free 3
          have f4 := HZ4.out.free 4
          go_wp2
          refine bodyPost_ret (v := kval (4, 0, ⟨#[]⟩, (A, n, c), (none, 0, 0))) (by simp [results, Tryd.results68, go_sem, r0, r1, r2, r3, r4]) rfl ?_
          obtain ⟨hs1, hs2⟩ := spa_own1 HO4.out hS3
          exact drewk_end HSS.out hbS (ka_leaf (by decide) hs2 (by omega) hs1) (nodes_leaf _ _ _ _ _) (by omega) HR4.out HG4.out ⟨fun _ => rfl, fun q e => by cases e⟩)
      · rcases hy with rfl | rfl
        all_goals (
          go_wp2_with fail
          refine (pick_any b (p + 1) 5 _ HR3.out (by omega) (by omega) (by omega)).mono ?_
          rintro ee w4 ⟨z, hz5, rfl, hr2, hg2⟩
          have HR4 := Lib.hid hr2
          have HG4 := Lib.hid (gr_trans HG3.out hg2)
          have HZ4 := Lib.hid (HZ3.out.grown hg2 hneS)
          clear hr2 hg2
          go_wp2_with fail
          refine (kspec_bit z w4 hz5).mono ?_
          rintro ee w5 ⟨fl, rfl, hb5⟩
          have HR5 := Lib.hid (HR4.out.below hb5 HR4.out.lt)
          have HG5 := Lib.hid (gr_trans HG4.out (gr_below hb5 (some b)))
          have HZ5 := Lib.hid (HZ4.out.below hb5 HZ4.out.lt)
          clear hb5
          have r0 := HZ5.out.cell 0
          have r1 := HZ5.out.cell 1
          have r2 := HZ5.out.cell 2
          have r3 := HZ5.out.cell 3
          have r4 := HZ5.out.cell 4
          simp at r0 r1 r2 r3 r4
          have f0 := HZ5.out.free 0
          have f1 := HZ5.out.free 1
          have f2 := HZ5.out.free 2
          have f3 := HZ5.out.free 3
          have f4 := HZ5.out.free 4
          go_wp2
          refine bodyPost_ret (v := kval (1, fl, ⟨#[]⟩, (none, 0, 0), (none, 0, 0))) (by simp [results, Tryd.results68, go_sem, r0, r1, r2, r3, r4]) rfl ?_
          exact drewk_end HSS.out hbS (ka_leaf (by decide) rfl (by omega) (SpA.nil _ _)) (nodes_leaf _ _ _ _ _) (by omega) HR5.out HG5.out ⟨fun _ => rfl, fun q e => by cases e⟩)
    · obtain ⟨e, he⟩ : ∃ e, e + 1 = d := ⟨d - 1, by omega⟩
      have hcd : cD d = 2 * cD e + 60 := by rw [← he]; rfl
      have hmd : mD d = 2 * mD e + 1 := by rw [← he]; rfl
      have he3 : e ≤ 3 := by omega
      have hce := cD_pos e
      have hd0 : (0 : Int) < (d : Int) := by omega
      have WD : IntKind.i64.wrap ((d : Int) - 1) = (e : Int) := (IntWalk.i64_in _ (by omega)).trans (by omega)
      have IH := Lib.hid (fun (q : Nat) (w' : World) (h1 : Rd w' b q) (h2 : q + cD e ≤ 500000) => HIH0.out e q w' he h1 h2)
      go_enter Tryd.func68, Tryd.ntmps68
      go_wp2_with fail
      rw [HW1.out, HSS.out]
      refine (pick_any b p 2 _ HR1.out (by omega) (by omega) (by omega)).mono ?_
      rintro ee w2 ⟨x, hx, hee, hr, hg⟩
      have HR2 := Lib.hid hr
      have HG2 := Lib.hid (gr_trans HG1.out hg)
      have HZ2 := Lib.hid (HZ1.out.grown hg hneS)
      clear hr hg
      obtain ⟨y, hy⟩ : ∃ y : Int, (x : Int) = y := ⟨_, rfl⟩
      rw [hy] at hee
      subst hee
      have hyy : y = 0 ∨ y = 1 := by omega
      clear hx hy
      rcases hyy with rfl | rfl
      · skip
        go_wp2_with fail
        refine (pick_any b (p + 1) 3 _ HR2.out (by omega) (by omega) (by omega)).mono ?_
        rintro ee w3 ⟨x, hx, hee, hr, hg⟩
        have HR3 := Lib.hid hr
        have HG3 := Lib.hid (gr_trans HG2.out hg)
        have HZ3 := Lib.hid (HZ2.out.grown hg hneS)
        clear hr hg
        obtain ⟨y, hy⟩ : ∃ y : Int, (x : Int) = y := ⟨_, rfl⟩
        rw [hy] at hee
        subst hee
        have hyy : y = 0 ∨ y = 1 ∨ y = 2 := by omega
        clear hx hy
        obtain ⟨i0, hi, hq0, hq1, hq2⟩ := info_parts Tryd.infoKey
        obtain ⟨D, hD⟩ : ∃ D, w3.heap.size = D := ⟨_, rfl⟩
        have HDD := Lib.hid hD
        have hSD : S + 1 ≤ D := by have := HZ3.out.lt; omega
        have hSle : S ≤ w3.heap.size := by omega
        clear hD
        rcases hyy with rfl | rfl | rfl
        · obtain ⟨w4, hw4⟩ : ∃ w4, w3.alloc (.cells #[.int .i64 5, .int .i64 0, .string ⟨#[]⟩, .slice none 0 0, .slice none 0 0] 26) = w4 := ⟨_, rfl⟩
          have HW4 := Lib.hid hw4
          have HX4 : Hid (Whole w4 D 26 #[.int .i64 5, .int .i64 0, .string ⟨#[]⟩, .slice none 0 0, .slice none 0 0]) := Lib.hid (by rw [← hw4, ← HDD.out]; exact Whole.made w3 _ _)
          have HZ4 : Hid (Whole w4 S 26 #[.int .i64 0, .int .i64 0, .string ⟨#[]⟩, .slice none 0 0, .slice none 0 0]) := Lib.hid (by rw [← hw4]; exact HZ3.out.alloc _)
          have HG4 : Hid (w.grownBy w4 (some b)) := Lib.hid (by rw [← hw4]; exact gr_alloc HG3.out _)
          have HR4 : Hid (Rd w4 b (p + 1 + 1)) := Lib.hid (by rw [← hw4]; exact HR3.out.below (below_newK w3 _) HR3.out.lt)
          have hD4 : D + 1 ≤ w4.heap.size := HX4.out.lt
          clear hw4
          go_wp2
          rw [HW4.out, HDD.out]
          go_loopw [6] (fun iv wr => ∃ (i q : Nat) (A : Option Addr) (cap base h : Nat) (ks : List KT) (rs : List KR), i ≤ 1 ∧ iv = .int .i64 (i : Int) ∧ q ≤ p + 3 + i * cD e ∧ D + 1 ≤ base ∧ D + 1 ≤ h ∧ h ≤ wr.heap.size ∧ Hid (i = 0 → A = none ∧ cap = 0) ∧ Hid (i < 2 → ∀ g, Value.ownBlock (.slice A i cap) = some g → h ≤ g) ∧ Hid (Rd wr b q) ∧ Hid (w.grownBy wr (some b)) ∧ Hid (Whole wr S 26 #[.int .i64 0, .int .i64 0, .string ⟨#[]⟩, .slice none 0 0, .slice none 0 0]) ∧ Hid (Whole wr D 26 #[.int .i64 5, .int .i64 0, .string ⟨#[]⟩, .slice none 0 0, .slice A i cap]) ∧ Hid (ROwn keyR wr base (.slice A i cap) rs) ∧ Hid (KRs (KA (D + 1) h wr) ks rs) ∧ Hid (nodesL ks ≤ i * mD e)) (fun iv _ => 1 - (intOf iv).toNat)
          case atStart => exact ⟨0, p + 1 + 1, none, 0, D + 1, D + 1, [], [], Nat.zero_le _, by go_num, by omega, Nat.le_refl _, Nat.le_refl _, hD4, fun _ => ⟨rfl, rfl⟩, fun _ g hg => (by cases hg), HR4.out, HG4.out, HZ4.out, HX4.out, ROwn.nil _ _, rfl, by rw [nodesL]; exact Nat.zero_le _⟩
          case round =>
            obtain ⟨i, q, A, cap, base, h, ks, rs, hin, rfl, hq, hba, hDh, hhw, HA0, HOB, HR, HG, HZ, HX, HO, HK, HNL⟩ := hrel
            have x0 := HX.out.cell 0
            have x1 := HX.out.cell 1
            have x2 := HX.out.cell 2
            have x3 := HX.out.cell 3
            have x4 := HX.out.cell 4
            simp at x0 x1 x2 x3 x4
            by_cases hlt : i < 1
            · have h5 : (i : Int) < 1 := by omega
              have hqe : q + cD e ≤ 500000 := by
                have h1 : i * cD e ≤ 1 * cD e := Nat.mul_le_mul_right _ (by omega)
                omega
              have HLN : Hid (rs.length = i) := Lib.hid HO.out.len.1.symm
              have HIC := Lib.hid (IH.out q wr.drew (show Rd wr.drew b q from HR.out) hqe)
              have hml : i + 1 ≤ maxLen := by unfold maxLen; omega
              have hby : (i + 1) * 80 ≤ 140737488355328 := by omega
              go_wp2
              clear x0 x1 x2 x3
              go_region_law (first
                | (refine step_append_rows rfl (.tmp 28) (.tmp 33) 24 rfl keyR base2 i0 _ 80 Tryd.underlying24 hi hq0 hq1 hq2 rfl (by decide) _ rs [(a0, a1, a2, (a3, a4, a5), (a6, a7, a8))] i HLN.out rfl (HO6.out.alloc (.cells #[.int .i64 a0, .int .i64 a1, .string a2, .slice a3 a4 a5, .slice a6 a7 a8] 26)) (some ⟨w6.heap.size, 0, none⟩) 1 1 rfl rfl (RAt.made keyR w6 [(a0, a1, a2, (a3, a4, a5), (a6, a7, a8))] _ rfl) (fun e => by cases e) (fun q e => by cases e; rfl) hml hby (by simp; omega) ?_
                   intro v' w7 hown hgrow hnn
                   obtain ⟨A7, N7, cap7, rfl⟩ := hown.val
                   have hN7 : N7 = i + 1 := by
                     have := hown.len.1
                     rw [List.length_append, HLN.out] at this
                     exact this
                   subst hN7
                   have HOW := Lib.hid hown
                   have HGW := Lib.hid hgrow
                   have hx7 := (HX6.out.alloc (.cells #[.int .i64 a0, .int .i64 a1, .string a2, .slice a3 a4 a5, .slice a6 a7 a8] 26)).grown hgrow (fun e => by have := (World.ownsRow.lt HO6.out D e.symm).1; omega)
                   have HX7 := Lib.hid hx7
                   have x47 := hx7.cell 4
                   simp at x47
                   have f47 := hx7.free 4
                   clear hown hgrow hnn hx7)
                | (go_simp
                   go_at_call 68
                   refine HIC.out.mono ?_
                   rintro ee w6 ⟨k6, ⟨a0, a1, a2, ⟨a3, a4, a5⟩, ⟨a6, a7, a8⟩⟩, q6, rfl, hk6, -, hn6, hq6, hr6, hg6⟩
                   have HK6 := Lib.hid hk6
                   have HN6 := Lib.hid hn6
                   have HR6 := Lib.hid hr6
                   have HGR6 := Lib.hid hg6
                   have hx6 := HX.out.drew.grown hg6 (fun e => by cases e; omega)
                   have HX6 := Lib.hid hx6
                   have x46 := hx6.cell 4
                   simp at x46
                   have x46a := (hx6.alloc (.cells #[.int .i64 a0, .int .i64 a1, .string a2, .slice a3 a4 a5, .slice a6 a7 a8] 26)).cell 4
                   simp at x46a
                   have hle6 : wr.heap.size ≤ w6.heap.size := hg6.size
                   obtain ⟨base2, hO6, hb61, hb62, hb63⟩ := own_base (i := i) HO.out HA0.out hg6 (by omega) hba (by have := HX.out.lt; omega)
                   have HO6 := Lib.hid hO6
                   clear hk6 hn6 hr6 hg6 hx6 hO6))
              all_goals (
                go_wp2
                go_roundw
                case rel => exact loop_rel hSD hbS HSS.out hin hlt (by omega) hq hba hDh hhw HOB.out HR6.out HG.out HZ.out HX.out HO.out HK.out HNL.out HGR6.out HK6.out HN6.out hq6 HO6.out hb61 hb62 hb63 HGW.out HX7.out HOW.out HLN.out
                case measure => simp [intOf]; omega)
            · have h5 : ¬ (i : Int) < 1 := by omega
              obtain rfl : i = 1 := by omega
              have r0 := HZ.out.cell 0
              have r1 := HZ.out.cell 1
              have r2 := HZ.out.cell 2
              have r3 := HZ.out.cell 3
              have r4 := HZ.out.cell 4
              simp at r0 r1 r2 r3 r4
              have f0 := HZ.out.free 0
              have f1 := HZ.out.free 1
              have f2 := HZ.out.free 2
              have f3 := HZ.out.free 3
              have f4 := HZ.out.free 4
              go_wp2
              refine bodyPost_ret (v := kval (5, 0, ⟨#[]⟩, (none, 0, 0), (A, 1, cap))) (by simp [results, Tryd.results68, go_sem, r0, r1, r2, r3, r4]) rfl ?_
              exact drewk_end HSS.out hbS (ka_node HO.out (by omega) HK.out (by omega) hhw) (by rw [nodesT]; have := HNL.out; omega) (by omega) HR.out HG.out ⟨fun e => HO.out.nilcap e, fun q e => HO.out.spot q e⟩
        · obtain ⟨w4, hw4⟩ : ∃ w4, w3.alloc (.cells #[.int .i64 6, .int .i64 0, .string ⟨#[]⟩, .slice none 0 0, .slice none 0 0] 26) = w4 := ⟨_, rfl⟩
          have HW4 := Lib.hid hw4
          have HX4 : Hid (Whole w4 D 26 #[.int .i64 6, .int .i64 0, .string ⟨#[]⟩, .slice none 0 0, .slice none 0 0]) := Lib.hid (by rw [← hw4, ← HDD.out]; exact Whole.made w3 _ _)
          have HZ4 : Hid (Whole w4 S 26 #[.int .i64 0, .int .i64 0, .string ⟨#[]⟩, .slice none 0 0, .slice none 0 0]) := Lib.hid (by rw [← hw4]; exact HZ3.out.alloc _)
          have HG4 : Hid (w.grownBy w4 (some b)) := Lib.hid (by rw [← hw4]; exact gr_alloc HG3.out _)
          have HR4 : Hid (Rd w4 b (p + 1 + 1)) := Lib.hid (by rw [← hw4]; exact HR3.out.below (below_newK w3 _) HR3.out.lt)
          have hD4 : D + 1 ≤ w4.heap.size := HX4.out.lt
          clear hw4
          go_wp2
          rw [HW4.out, HDD.out]
          go_loopw [6] (fun iv wr => ∃ (i q : Nat) (A : Option Addr) (cap base h : Nat) (ks : List KT) (rs : List KR), i ≤ 2 ∧ iv = .int .i64 (i : Int) ∧ q ≤ p + 3 + i * cD e ∧ D + 1 ≤ base ∧ D + 1 ≤ h ∧ h ≤ wr.heap.size ∧ Hid (i = 0 → A = none ∧ cap = 0) ∧ Hid (i < 2 → ∀ g, Value.ownBlock (.slice A i cap) = some g → h ≤ g) ∧ Hid (Rd wr b q) ∧ Hid (w.grownBy wr (some b)) ∧ Hid (Whole wr S 26 #[.int .i64 0, .int .i64 0, .string ⟨#[]⟩, .slice none 0 0, .slice none 0 0]) ∧ Hid (Whole wr D 26 #[.int .i64 6, .int .i64 0, .string ⟨#[]⟩, .slice none 0 0, .slice A i cap]) ∧ Hid (ROwn keyR wr base (.slice A i cap) rs) ∧ Hid (KRs (KA (D + 1) h wr) ks rs) ∧ Hid (nodesL ks ≤ i * mD e)) (fun iv _ => 2 - (intOf iv).toNat)
          case atStart => exact ⟨0, p + 1 + 1, none, 0, D + 1, D + 1, [], [], Nat.zero_le _, by go_num, by omega, Nat.le_refl _, Nat.le_refl _, hD4, fun _ => ⟨rfl, rfl⟩, fun _ g hg => (by cases hg), HR4.out, HG4.out, HZ4.out, HX4.out, ROwn.nil _ _, rfl, by rw [nodesL]; exact Nat.zero_le _⟩
          case round =>
            obtain ⟨i, q, A, cap, base, h, ks, rs, hin, rfl, hq, hba, hDh, hhw, HA0, HOB, HR, HG, HZ, HX, HO, HK, HNL⟩ := hrel
            have x0 := HX.out.cell 0
            have x1 := HX.out.cell 1
            have x2 := HX.out.cell 2
            have x3 := HX.out.cell 3
            have x4 := HX.out.cell 4
            simp at x0 x1 x2 x3 x4
            by_cases hlt : i < 2
            · have h5 : (i : Int) < 2 := by omega
              have hqe : q + cD e ≤ 500000 := by
                have h1 : i * cD e ≤ 1 * cD e := Nat.mul_le_mul_right _ (by omega)
                omega
              have HLN : Hid (rs.length = i) := Lib.hid HO.out.len.1.symm
              have HIC := Lib.hid (IH.out q wr.drew (show Rd wr.drew b q from HR.out) hqe)
              have hml : i + 1 ≤ maxLen := by unfold maxLen; omega
              have hby : (i + 1) * 80 ≤ 140737488355328 := by omega
              go_wp2
              clear x0 x1 x2 x3
              go_region_law (first
                | (refine step_append_rows rfl (.tmp 28) (.tmp 33) 24 rfl keyR base2 i0 _ 80 Tryd.underlying24 hi hq0 hq1 hq2 rfl (by decide) _ rs [(a0, a1, a2, (a3, a4, a5), (a6, a7, a8))] i HLN.out rfl (HO6.out.alloc (.cells #[.int .i64 a0, .int .i64 a1, .string a2, .slice a3 a4 a5, .slice a6 a7 a8] 26)) (some ⟨w6.heap.size, 0, none⟩) 1 1 rfl rfl (RAt.made keyR w6 [(a0, a1, a2, (a3, a4, a5), (a6, a7, a8))] _ rfl) (fun e => by cases e) (fun q e => by cases e; rfl) hml hby (by simp; omega) ?_
                   intro v' w7 hown hgrow hnn
                   obtain ⟨A7, N7, cap7, rfl⟩ := hown.val
                   have hN7 : N7 = i + 1 := by
                     have := hown.len.1
                     rw [List.length_append, HLN.out] at this
                     exact this
                   subst hN7
                   have HOW := Lib.hid hown
                   have HGW := Lib.hid hgrow
                   have hx7 := (HX6.out.alloc (.cells #[.int .i64 a0, .int .i64 a1, .string a2, .slice a3 a4 a5, .slice a6 a7 a8] 26)).grown hgrow (fun e => by have := (World.ownsRow.lt HO6.out D e.symm).1; omega)
                   have HX7 := Lib.hid hx7
                   have x47 := hx7.cell 4
                   simp at x47
                   have f47 := hx7.free 4
                   clear hown hgrow hnn hx7)
                | (go_simp
                   go_at_call 68
                   refine HIC.out.mono ?_
                   rintro ee w6 ⟨k6, ⟨a0, a1, a2, ⟨a3, a4, a5⟩, ⟨a6, a7, a8⟩⟩, q6, rfl, hk6, -, hn6, hq6, hr6, hg6⟩
                   have HK6 := Lib.hid hk6
                   have HN6 := Lib.hid hn6
                   have HR6 := Lib.hid hr6
                   have HGR6 := Lib.hid hg6
                   have hx6 := HX.out.drew.grown hg6 (fun e => by cases e; omega)
                   have HX6 := Lib.hid hx6
                   have x46 := hx6.cell 4
                   simp at x46
                   have x46a := (hx6.alloc (.cells #[.int .i64 a0, .int .i64 a1, .string a2, .slice a3 a4 a5, .slice a6 a7 a8] 26)).cell 4
                   simp at x46a
                   have hle6 : wr.heap.size ≤ w6.heap.size := hg6.size
                   obtain ⟨base2, hO6, hb61, hb62, hb63⟩ := own_base (i := i) HO.out HA0.out hg6 (by omega) hba (by have := HX.out.lt; omega)
                   have HO6 := Lib.hid hO6
                   clear hk6 hn6 hr6 hg6 hx6 hO6))
              all_goals (
                go_wp2
                go_roundw
                case rel => exact loop_rel hSD hbS HSS.out hin hlt (by omega) hq hba hDh hhw HOB.out HR6.out HG.out HZ.out HX.out HO.out HK.out HNL.out HGR6.out HK6.out HN6.out hq6 HO6.out hb61 hb62 hb63 HGW.out HX7.out HOW.out HLN.out
                case measure => simp [intOf]; omega)
            · have h5 : ¬ (i : Int) < 2 := by omega
              obtain rfl : i = 2 := by omega
              have r0 := HZ.out.cell 0
              have r1 := HZ.out.cell 1
              have r2 := HZ.out.cell 2
              have r3 := HZ.out.cell 3
              have r4 := HZ.out.cell 4
              simp at r0 r1 r2 r3 r4
              have f0 := HZ.out.free 0
              have f1 := HZ.out.free 1
              have f2 := HZ.out.free 2
              have f3 := HZ.out.free 3
              have f4 := HZ.out.free 4
              go_wp2
              refine bodyPost_ret (v := kval (6, 0, ⟨#[]⟩, (none, 0, 0), (A, 2, cap))) (by simp [results, Tryd.results68, go_sem, r0, r1, r2, r3, r4]) rfl ?_
              exact drewk_end HSS.out hbS (ka_node HO.out (by omega) HK.out (by omega) hhw) (by rw [nodesT]; have := HNL.out; omega) (by omega) HR.out HG.out ⟨fun e => HO.out.nilcap e, fun q e => HO.out.spot q e⟩
        · obtain ⟨w4, hw4⟩ : ∃ w4, w3.alloc (.cells #[.int .i64 7, .int .i64 0, .string ⟨#[]⟩, .slice none 0 0, .slice none 0 0] 26) = w4 := ⟨_, rfl⟩
          have HW4 := Lib.hid hw4
          have HX4 : Hid (Whole w4 D 26 #[.int .i64 7, .int .i64 0, .string ⟨#[]⟩, .slice none 0 0, .slice none 0 0]) := Lib.hid (by rw [← hw4, ← HDD.out]; exact Whole.made w3 _ _)
          have HZ4 : Hid (Whole w4 S 26 #[.int .i64 0, .int .i64 0, .string ⟨#[]⟩, .slice none 0 0, .slice none 0 0]) := Lib.hid (by rw [← hw4]; exact HZ3.out.alloc _)
          have HG4 : Hid (w.grownBy w4 (some b)) := Lib.hid (by rw [← hw4]; exact gr_alloc HG3.out _)
          have HR4 : Hid (Rd w4 b (p + 1 + 1)) := Lib.hid (by rw [← hw4]; exact HR3.out.below (below_newK w3 _) HR3.out.lt)
          have hD4 : D + 1 ≤ w4.heap.size := HX4.out.lt
          clear hw4
          go_wp2
          rw [HW4.out, HDD.out]
          go_loopw [6] (fun iv wr => ∃ (i q : Nat) (A : Option Addr) (cap base h : Nat) (ks : List KT) (rs : List KR), i ≤ 2 ∧ iv = .int .i64 (i : Int) ∧ q ≤ p + 3 + i * cD e ∧ D + 1 ≤ base ∧ D + 1 ≤ h ∧ h ≤ wr.heap.size ∧ Hid (i = 0 → A = none ∧ cap = 0) ∧ Hid (i < 2 → ∀ g, Value.ownBlock (.slice A i cap) = some g → h ≤ g) ∧ Hid (Rd wr b q) ∧ Hid (w.grownBy wr (some b)) ∧ Hid (Whole wr S 26 #[.int .i64 0, .int .i64 0, .string ⟨#[]⟩, .slice none 0 0, .slice none 0 0]) ∧ Hid (Whole wr D 26 #[.int .i64 7, .int .i64 0, .string ⟨#[]⟩, .slice none 0 0, .slice A i cap]) ∧ Hid (ROwn keyR wr base (.slice A i cap) rs) ∧ Hid (KRs (KA (D + 1) h wr) ks rs) ∧ Hid (nodesL ks ≤ i * mD e)) (fun iv _ => 2 - (intOf iv).toNat)
          case atStart => exact ⟨0, p + 1 + 1, none, 0, D + 1, D + 1, [], [], Nat.zero_le _, by go_num, by omega, Nat.le_refl _, Nat.le_refl _, hD4, fun _ => ⟨rfl, rfl⟩, fun _ g hg => (by cases hg), HR4.out, HG4.out, HZ4.out, HX4.out, ROwn.nil _ _, rfl, by rw [nodesL]; exact Nat.zero_le _⟩
          case round =>
            obtain ⟨i, q, A, cap, base, h, ks, rs, hin, rfl, hq, hba, hDh, hhw, HA0, HOB, HR, HG, HZ, HX, HO, HK, HNL⟩ := hrel
            have x0 := HX.out.cell 0
            have x1 := HX.out.cell 1
            have x2 := HX.out.cell 2
            have x3 := HX.out.cell 3
            have x4 := HX.out.cell 4
            simp at x0 x1 x2 x3 x4
            by_cases hlt : i < 2
            · have h5 : (i : Int) < 2 := by omega
              have hqe : q + cD e ≤ 500000 := by
                have h1 : i * cD e ≤ 1 * cD e := Nat.mul_le_mul_right _ (by omega)
                omega
              have HLN : Hid (rs.length = i) := Lib.hid HO.out.len.1.symm
              have HIC := Lib.hid (IH.out q wr.drew (show Rd wr.drew b q from HR.out) hqe)
              have hml : i + 1 ≤ maxLen := by unfold maxLen; omega
              have hby : (i + 1) * 80 ≤ 140737488355328 := by omega
              go_wp2
              clear x0 x1 x2 x3
              go_region_law (first
                | (refine step_append_rows rfl (.tmp 28) (.tmp 33) 24 rfl keyR base2 i0 _ 80 Tryd.underlying24 hi hq0 hq1 hq2 rfl (by decide) _ rs [(a0, a1, a2, (a3, a4, a5), (a6, a7, a8))] i HLN.out rfl (HO6.out.alloc (.cells #[.int .i64 a0, .int .i64 a1, .string a2, .slice a3 a4 a5, .slice a6 a7 a8] 26)) (some ⟨w6.heap.size, 0, none⟩) 1 1 rfl rfl (RAt.made keyR w6 [(a0, a1, a2, (a3, a4, a5), (a6, a7, a8))] _ rfl) (fun e => by cases e) (fun q e => by cases e; rfl) hml hby (by simp; omega) ?_
                   intro v' w7 hown hgrow hnn
                   obtain ⟨A7, N7, cap7, rfl⟩ := hown.val
                   have hN7 : N7 = i + 1 := by
                     have := hown.len.1
                     rw [List.length_append, HLN.out] at this
                     exact this
                   subst hN7
                   have HOW := Lib.hid hown
                   have HGW := Lib.hid hgrow
                   have hx7 := (HX6.out.alloc (.cells #[.int .i64 a0, .int .i64 a1, .string a2, .slice a3 a4 a5, .slice a6 a7 a8] 26)).grown hgrow (fun e => by have := (World.ownsRow.lt HO6.out D e.symm).1; omega)
                   have HX7 := Lib.hid hx7
                   have x47 := hx7.cell 4
                   simp at x47
                   have f47 := hx7.free 4
                   clear hown hgrow hnn hx7)
                | (go_simp
                   go_at_call 68
                   refine HIC.out.mono ?_
                   rintro ee w6 ⟨k6, ⟨a0, a1, a2, ⟨a3, a4, a5⟩, ⟨a6, a7, a8⟩⟩, q6, rfl, hk6, -, hn6, hq6, hr6, hg6⟩
                   have HK6 := Lib.hid hk6
                   have HN6 := Lib.hid hn6
                   have HR6 := Lib.hid hr6
                   have HGR6 := Lib.hid hg6
                   have hx6 := HX.out.drew.grown hg6 (fun e => by cases e; omega)
                   have HX6 := Lib.hid hx6
                   have x46 := hx6.cell 4
                   simp at x46
                   have x46a := (hx6.alloc (.cells #[.int .i64 a0, .int .i64 a1, .string a2, .slice a3 a4 a5, .slice a6 a7 a8] 26)).cell 4
                   simp at x46a
                   have hle6 : wr.heap.size ≤ w6.heap.size := hg6.size
                   obtain ⟨base2, hO6, hb61, hb62, hb63⟩ := own_base (i := i) HO.out HA0.out hg6 (by omega) hba (by have := HX.out.lt; omega)
                   have HO6 := Lib.hid hO6
                   clear hk6 hn6 hr6 hg6 hx6 hO6))
              all_goals (
                go_wp2
                go_roundw
                case rel => exact loop_rel hSD hbS HSS.out hin hlt (by omega) hq hba hDh hhw HOB.out HR6.out HG.out HZ.out HX.out HO.out HK.out HNL.out HGR6.out HK6.out HN6.out hq6 HO6.out hb61 hb62 hb63 HGW.out HX7.out HOW.out HLN.out
                case measure => simp [intOf]; omega)
            · have h5 : ¬ (i : Int) < 2 := by omega
              obtain rfl : i = 2 := by omega
              have r0 := HZ.out.cell 0
              have r1 := HZ.out.cell 1
              have r2 := HZ.out.cell 2
              have r3 := HZ.out.cell 3
              have r4 := HZ.out.cell 4
              simp at r0 r1 r2 r3 r4
              have f0 := HZ.out.free 0
              have f1 := HZ.out.free 1
              have f2 := HZ.out.free 2
              have f3 := HZ.out.free 3
              have f4 := HZ.out.free 4
              go_wp2
              refine bodyPost_ret (v := kval (7, 0, ⟨#[]⟩, (none, 0, 0), (A, 2, cap))) (by simp [results, Tryd.results68, go_sem, r0, r1, r2, r3, r4]) rfl ?_
              exact drewk_end HSS.out hbS (ka_node HO.out (by omega) HK.out (by omega) hhw) (by rw [nodesT]; have := HNL.out; omega) (by omega) HR.out HG.out ⟨fun e => HO.out.nilcap e, fun q e => HO.out.spot q e⟩

      · skip
        go_wp2_with fail
        refine (pick_any b (p + 1) 9 _ HR2.out (by omega) (by omega) (by omega)).mono ?_
        rintro ee w3 ⟨x, hx, hee, hr, hg⟩
        have HR3 := Lib.hid hr
        have HG3 := Lib.hid (gr_trans HG2.out hg)
        have HZ3 := Lib.hid (HZ2.out.grown hg hneS)
        clear hr hg
        obtain ⟨y, hy⟩ : ∃ y : Int, (x : Int) = y := ⟨_, rfl⟩
        rw [hy] at hee
        subst hee
        have hyy : y = 0 ∨ (y = 1 ∨ y = 2) ∨ (y = 3 ∨ y = 4) ∨ (y = 5 ∨ y = 6) ∨ (y = 7 ∨ y = 8) := by omega
        clear hx hy
        rcases hyy with rfl | hy | hy | hy | hy
        · have r0 := HZ3.out.cell 0
          have r1 := HZ3.out.cell 1
          have r2 := HZ3.out.cell 2
          have r3 := HZ3.out.cell 3
          have r4 := HZ3.out.cell 4
          simp at r0 r1 r2 r3 r4
          have f0 := HZ3.out.free 0
          have f1 := HZ3.out.free 1
          have f2 := HZ3.out.free 2
          have f3 := HZ3.out.free 3
          have f4 := HZ3.out.free 4
          go_wp2
          refine bodyPost_ret (v := kval (0, 0, ⟨#[]⟩, (none, 0, 0), (none, 0, 0))) (by simp [results, Tryd.results68, go_sem, r0, r1, r2, r3, r4]) rfl ?_
          exact drewk_end HSS.out hbS (ka_leaf (by decide) rfl (by omega) (SpA.nil _ _)) (nodes_leaf _ _ _ _ _) (by omega) HR3.out HG3.out ⟨fun _ => rfl, fun q e => by cases e⟩
        · rcases hy with rfl | rfl
          all_goals (
            go_wp2_with fail
            refine (of_new b ((p + 1) + 1) [[98, 111, 98], [120], [97, 109, 121], [111]] w3 HR3.out (by omega) (by decide) (by decide)).mono ?_
            rintro ee w4 ⟨l, hl, rfl, hr2, hg2⟩
            have HR4 := Lib.hid hr2
            have HG4 := Lib.hid (gr_trans HG3.out hg2)
            have HZ4 := Lib.hid (HZ3.out.grown hg2 hneS)
            have hlz : (⟨l.toArray⟩ : ByteArray).size ≤ 30 := text_le (by decide) hl
            clear hr2 hg2 hl
            unfold str
            obtain ⟨tx, htx⟩ : ∃ tx : ByteArray, ⟨l.toArray⟩ = tx := ⟨_, rfl⟩
            rw [htx] at hlz ⊢
            clear htx
            have r0 := HZ4.out.cell 0
            have r1 := HZ4.out.cell 1
            have r2 := HZ4.out.cell 2
            have r3 := HZ4.out.cell 3
            have r4 := HZ4.out.cell 4
            simp at r0 r1 r2 r3 r4
            have f0 := HZ4.out.free 0
            have f1 := HZ4.out.free 1
            have f2 := HZ4.out.free 2
            have f3 := HZ4.out.free 3
            have f4 := HZ4.out.free 4
            go_wp2
            refine bodyPost_ret (v := kval (2, 0, tx, (none, 0, 0), (none, 0, 0))) (by simp [results, Tryd.results68, go_sem, r0, r1, r2, r3, r4]) rfl ?_
            exact drewk_end HSS.out hbS (ka_leaf (by omega) rfl (by omega) (SpA.nil _ _)) (nodes_leaf _ _ _ _ _) (by omega) HR4.out HG4.out ⟨fun _ => rfl, fun q e => by cases e⟩)
        · rcases hy with rfl | rfl
          all_goals (
            go_wp2_with fail
            refine (set_draw b ((p + 1) + 1) w3 HR3.out (by omega)).mono ?_
            rintro ee w4 ⟨v, L, q, hL, hq, rfl, hr2, hg2, ho⟩
            obtain ⟨A, n, c, rfl⟩ := own_slice ho
            have HR4 := Lib.hid hr2
            have HG4 := Lib.hid (gr_trans HG3.out hg2)
            have HZ4 := Lib.hid (HZ3.out.grown hg2 hneS)
            have HO4 := Lib.hid ho
            have hS3 : S + 1 ≤ w3.heap.size := HZ3.out.lt
            clear hr2 hg2 ho
            have r0 := HZ4.out.cell 0
            have r1 := HZ4.out.cell 1
            have r2 := HZ4.out.cell 2
            have r3 := HZ4.out.cell 3
            have r4 := HZ4.out.cell 4
            simp at r0 r1 r2 r3 r4
            have f0 := HZ4.out.free 0
            have f1 := HZ4.out.free 1
            have f2 := HZ4.out.free 2
            have f3 := HZ4.out.free 3
            have f4 := HZ4.out.free 4
            go_wp2
            refine bodyPost_ret (v := kval (3, 0, ⟨#[]⟩, (A, n, c), (none, 0, 0))) (by simp [results, Tryd.results68, go_sem, r0, r1, r2, r3, r4]) rfl ?_
            obtain ⟨hs1, hs2⟩ := spa_own1 HO4.out hS3
            exact drewk_end HSS.out hbS (ka_leaf (by decide) hs2 (by omega) hs1) (nodes_leaf _ _ _ _ _) (by omega) HR4.out HG4.out ⟨fun _ => rfl, fun q e => by cases e⟩)
        · rcases hy with rfl | rfl
          all_goals (
            go_wp2_with fail
            refine (set_draw b ((p + 1) + 1) w3 HR3.out (by omega)).mono ?_
            rintro ee w4 ⟨v, L, q, hL, hq, rfl, hr2, hg2, ho⟩
            obtain ⟨A, n, c, rfl⟩ := own_slice ho
            have HR4 := Lib.hid hr2
            have HG4 := Lib.hid (gr_trans HG3.out hg2)
            have HZ4 := Lib.hid (HZ3.out.grown hg2 hneS)
            have HO4 := Lib.hid ho
            have hS3 : S + 1 ≤ w3.heap.size := HZ3.out.lt
            clear hr2 hg2 ho
            have r0 := HZ4.out.cell 0
            have r1 := HZ4.out.cell 1
            have r2 := HZ4.out.cell 2
            have r3 := HZ4.out.cell 3
            have r4 := HZ4.out.cell 4
            simp at r0 r1 r2 r3 r4
            have f0 := HZ4.out.free 0
            have f1 := HZ4.out.free 1
            have f2 := HZ4.out.free 2
            have f3 := HZ4.out.free 3
            have f4 := HZ4.out.free 4
            go_wp2
            refine bodyPost_ret (v := kval (4, 0, ⟨#[]⟩, (A, n, c), (none, 0, 0))) (by simp [results, Tryd.results68, go_sem, r0, r1, r2, r3, r4]) rfl ?_
            obtain ⟨hs1, hs2⟩ := spa_own1 HO4.out hS3
            exact drewk_end HSS.out hbS (ka_leaf (by decide) hs2 (by omega) hs1) (nodes_leaf _ _ _ _ _) (by omega) HR4.out HG4.out ⟨fun _ => rfl, fun q e => by cases e⟩)
        · rcases hy with rfl | rfl
          all_goals (
            go_wp2_with fail
            refine (pick_any b ((p + 1) + 1) 5 _ HR3.out (by omega) (by omega) (by omega)).mono ?_
            rintro ee w4 ⟨z, hz5, rfl, hr2, hg2⟩
            have HR4 := Lib.hid hr2
            have HG4 := Lib.hid (gr_trans HG3.out hg2)
            have HZ4 := Lib.hid (HZ3.out.grown hg2 hneS)
            clear hr2 hg2
            go_wp2_with fail
            refine (kspec_bit z w4 hz5).mono ?_
            rintro ee w5 ⟨fl, rfl, hb5⟩
            have HR5 := Lib.hid (HR4.out.below hb5 HR4.out.lt)
            have HG5 := Lib.hid (gr_trans HG4.out (gr_below hb5 (some b)))
            have HZ5 := Lib.hid (HZ4.out.below hb5 HZ4.out.lt)
            clear hb5
            have r0 := HZ5.out.cell 0
            have r1 := HZ5.out.cell 1
            have r2 := HZ5.out.cell 2
            have r3 := HZ5.out.cell 3
            have r4 := HZ5.out.cell 4
            simp at r0 r1 r2 r3 r4
            have f0 := HZ5.out.free 0
            have f1 := HZ5.out.free 1
            have f2 := HZ5.out.free 2
            have f3 := HZ5.out.free 3
            have f4 := HZ5.out.free 4
            go_wp2
            refine bodyPost_ret (v := kval (1, fl, ⟨#[]⟩, (none, 0, 0), (none, 0, 0))) (by simp [results, Tryd.results68, go_sem, r0, r1, r2, r3, r4]) rfl ?_
            exact drewk_end HSS.out hbS (ka_leaf (by decide) rfl (by omega) (SpA.nil _ _)) (nodes_leaf _ _ _ _ _) (by omega) HR5.out HG5.out ⟨fun _ => rfl, fun q e => by cases e⟩)
theorem key_draw : ∀ (d : Nat) (b p : Nat) (w : World), d ≤ 3 → Rd w b p → p + cD d ≤ 500000 → Calls Tryd.prog 68 #[.pointer (some ⟨b, 0, none⟩), .int .i64 (d : Int)] w (DrewK w b p d)
  | 0, b, p, w, hd, hr, hp => key_step 0 b p w hd hr hp fun e q w' h => by omega
  | d + 1, b, p, w, hd, hr, hp => key_step (d + 1) b p w hd hr hp fun e q w' h h1 h2 => by
    obtain rfl : e = d := by omega
    exact key_draw e b q w' (by omega) h1 h2
end Go.Proofs.YtpihibconbejlaaDoor
