/-
  The contracts of DrawBoxValid, DrawBoxExpunge, DrawBoxSize, DrawBoxAppend, DrawBoxFlags and DrawBoxCopy. Condition: the code can be read.
  The contract of DrawBoxCopy. Condition: the code can be read.
  The contract of DrawBoxUids. Condition: the code can be read.
  What the walks of the laws of mailboxes share: the contracts of both sides told with their results by name, and what is known of these. Plain lemmas; no condition.
-/
import Derived.Test.YtllhcogmcfgnoaaGbox
import Derived.Test.YtllhcogmcfgnoaaGplace
import Derived.Deep.RegionLaw
import Derived.Deep.LoopGhost
import Derived.Test.YtllhcogmcfgnoaaHr
namespace Go.Proofs.Ytllhcogmcfgnoaa
open Go.RowKit
set_option linter.unusedVariables false

/-- A mailbox that was drawn from a code. -/
def DB (w : World) (e : Ending) (w' : World) : Prop := ∃ (n : Int) (A : Option Addr) (N cap : Nat) (L : List ML), e = .returned (.agg #[.int .i64 n, .slice A N cap]) ∧ N ≤ 14 ∧ -1 ≤ n ∧ n ≤ 200 ∧ ROwn mailR w' w.heap.size (.slice A N cap) L ∧ Below w.heap.size w w'
theorem coded_alloc {w : World} {A : Option Addr} {len cap : Nat} (h : Coded w A len cap) (o : Obj) : Coded (w.alloc o) A len cap := h.below (below_new w o) (Nat.le_refl _)
theorem below_store {w w' : World} {B : Nat} (h : Below B w w') (u u2 : Value) : Below B w ((w'.setCell ⟨B, 0, none⟩ u).setCell ⟨B, 1, none⟩ u2) := (h.setCell (p := ⟨B, 0, none⟩) (Nat.le_refl _) u).setCell (p := ⟨B, 1, none⟩) (Nat.le_refl _) u2
theorem own_store {α : Type} {R : RowT α} {w : World} {B B' r : Nat} {v : Value} {L : List α} (h : ROwn R w B' v L) (hB : r < B') (hb : B ≤ B') (u u2 : Value) : ROwn R ((w.setCell ⟨r, 0, none⟩ u).setCell ⟨r, 1, none⟩ u2) B v L := ((h.store (p := ⟨r, 0, none⟩) (h.base r hB) u).store (p := ⟨r, 1, none⟩) (h.base r hB) u2).from hb
/-- A mailbox, flags and a text that were drawn. -/
def DBA (w : World) (e : Ending) (w' : World) : Prop := ∃ (n : Int) (A : Option Addr) (N cap : Nat) (L : List ML) (f : Int) (t : List UInt8), e = .returned (.tuple #[.agg #[.int .i64 n, .slice A N cap], .int .i64 f, .string (sB t)]) ∧ N ≤ 14 ∧ -1 ≤ n ∧ n ≤ 200 ∧ t.length ≤ 30 ∧ ROwn mailR w' w.heap.size (.slice A N cap) L ∧ Below w.heap.size w w'
/-- A mailbox, places, a change and flags that were drawn. -/
def DBF (w : World) (e : Ending) (w' : World) : Prop := ∃ (n : Int) (A : Option Addr) (N cap : Nat) (L : List ML) (A2 : Option Addr) (N2 cap2 : Nat) (P : List Int) (h f : Int), e = .returned (.tuple #[.agg #[.int .i64 n, .slice A N cap], .slice A2 N2 cap2, .int .i64 h, .int .i64 f]) ∧ N ≤ 14 ∧ N2 ≤ 15 ∧ -1 ≤ n ∧ n ≤ 200 ∧ ROwn mailR w' w.heap.size (.slice A N cap) L ∧ ROwn intR w' w.heap.size (.slice A2 N2 cap2) P ∧ Below w.heap.size w w'
theorem pick_3 (b p : Nat) (w : World) (h : Rd w b p) (hp : p ≤ 1000000) : Calls Try.prog 11 #[.pointer (some ⟨b, 0, none⟩), .int .i64 3] w (Picked w b p 3) := pick_any b p 3 w h hp (by omega) (by omega)
theorem pick_24 (b p : Nat) (w : World) (h : Rd w b p) (hp : p ≤ 1000000) : Calls Try.prog 11 #[.pointer (some ⟨b, 0, none⟩), .int .i64 24] w (Picked w b p 24) := pick_any b p 24 w h hp (by omega) (by omega)
/-- What drawing holds: the reader, the result's block, the mailbox's block, the mailbox and the places. -/
structure Dk (w wr : World) (b B D q : Nat) (n : Int) (v : Value) (L : List ML) (u : Value) (P : List Int) : Prop where
  rd : Rd wr b q
  res : Whole wr B 25 #[.int .i64 0, .slice none 0 0]
  box : Whole wr D 25 #[.int .i64 n, v]
  own : ROwn mailR wr (b + 1) v L
  plc : ROwn intR wr (b + 1) u P
  bel : Below B w wr
  sz : D < wr.heap.size
theorem Dk.read {w wr w' : World} {b B D q q' : Nat} {n : Int} {v u : Value} {L : List ML} {P : List Int} (h : Dk w wr b B D q n v L u P) (hr : Rd w' b q') (hg : wr.grownBy w' (some b)) (hB : B < b) (hD : b < D) : Dk w w' b B D q' n v L u P :=
  ⟨hr, h.res.grown hg (by simp; omega), h.box.grown hg (by simp; omega), own_gr h.own hg (by omega), own_gr h.plc hg (by omega), below_gr h.bel hg (by have := h.sz; omega) (by omega), Nat.lt_of_lt_of_le h.sz hg.size⟩
set_option maxRecDepth 20000 in
set_option maxHeartbeats 8000000 in
theorem draw_bflags (A : Option Addr) (len cap : Nat) (w : World) (h : Coded w A len cap) :
    Calls Try.prog 4 #[.slice A len cap] w (DBF w) := by
  obtain ⟨B, hB⟩ : ∃ B, w.heap.size = B := ⟨_, rfl⟩
  have hsz : (w.alloc (.cells #[.int .i64 0, .slice none 0 0] 25)).heap.size = B + 1 := by simp [hB]
  have HSZ := Lib.hid hsz
  have hc := coded_alloc h (.cells #[.int .i64 0, .slice none 0 0] 25)
  have HK := Lib.hid hc.2.2
  have hk1 := hc.1
  have hk2 := hc.2.1
  have HW0 := Lib.hid (hB ▸ Whole.made w 25 #[.int .i64 0, .slice none 0 0] : Whole (w.alloc (.cells #[.int .i64 0, .slice none 0 0] 25)) B 25 #[.int .i64 0, .slice none 0 0])
  have HB0 := Lib.hid (hB ▸ below_new w (.cells #[.int .i64 0, .slice none 0 0] 25) : Below B w (w.alloc (.cells #[.int .i64 0, .slice none 0 0] 25)))
  clear h hc hsz
  go_enter Try.func4, Try.ntmps4
  go_wp2_with fail
  refine (open_any A len cap _ hk1 hk2 HK.out).mono ?_
  rintro e w1 ⟨rfl, hr, hb, hz⟩
  rw [HSZ.out] at hr hb hz
  have HR := Lib.hid hr
  have HW1 := Lib.hid (HW0.out.below hb (by omega))
  have HB1 := Lib.hid (HB0.out.trans (hb.mono (by omega)))
  clear hr hb
  rw [HSZ.out]
  go_wp2_with fail
  refine (box_draw (B + 1) 0 w1 HR.out (by omega)).mono ?_
  rintro e w2 ⟨n, A2, N2, cap2, L, q, rfl, hN, h1, h2, hq, hr, hown, hg⟩
  obtain ⟨D, hD⟩ : ∃ D, w2.heap.size = D := ⟨_, rfl⟩
  have hDB : B + 1 < D := by rw [← hD]; exact Nat.lt_of_lt_of_le hz hg.size
  have HR2 := Lib.hid (hr.below (below_new w2 (.cells #[.int .i64 n, .slice A2 N2 cap2] 25)) hr.lt)
  have HO2 := Lib.hid ((hown.from (show B + 1 + 1 ≤ w1.heap.size by omega)).alloc (.cells #[.int .i64 n, .slice A2 N2 cap2] 25))
  have HW2 := Lib.hid ((HW1.out.grown hg (by simp)).alloc (.cells #[.int .i64 n, .slice A2 N2 cap2] 25))
  have HB2 := Lib.hid ((below_gr HB1.out hg (by omega) (by omega)).alloc (by omega) (.cells #[.int .i64 n, .slice A2 N2 cap2] 25))
  have HD2 := Lib.hid (hD ▸ Whole.made w2 25 #[.int .i64 n, .slice A2 N2 cap2] : Whole (w2.alloc (.cells #[.int .i64 n, .slice A2 N2 cap2] 25)) D 25 #[.int .i64 n, .slice A2 N2 cap2])
  clear hr hown hg HR HW1 HB1 HW0 HB0
  have x0 := HD2.out.cell 0
  have x1 := HD2.out.cell 1
  simp at x0 x1
  go_wp2_with fail
  refine (places_draw (B + 1) q n A2 N2 cap2 _ HR2.out (by omega) hN).mono ?_
  rintro e w4 ⟨A4, N4, cap4, P, q4, rfl, hN4, hq4, hr, hown, hg⟩
  have hdk : Dk w w4 (B + 1) B D q4 n (.slice A2 N2 cap2) L (.slice A4 N4 cap4) P := ⟨hr, HW2.out.grown hg (by simp), HD2.out.grown hg (by simp; omega), own_gr HO2.out hg (by omega), hown.from (by simp; omega), below_gr HB2.out hg (by simp; omega) (by omega), (HD2.out.grown hg (by simp; omega)).lt⟩
  have hdd : Dk w w4.drew (B + 1) B D q4 n (.slice A2 N2 cap2) L (.slice A4 N4 cap4) P := ⟨hdk.rd, hdk.res.drew, hdk.box.drew, hdk.own, hdk.plc, fbelow_drew hdk.bel, hdk.sz⟩
  have HDK := Lib.hid hdd
  have y0 := hdk.box.cell 0
  have y1 := hdk.box.cell 1
  simp at y0 y1
  have hDB' : ¬ D = B := by omega
  clear hr hg hown hdk hdd HR2 HD2 HW2 HO2 HB2 x0 x1
  go_wp2
  go_region_with (first
    | (go_at_call 12
       refine (flags_draw (B + 1) (q4 + 1 + 1) _ HD6.out.rd (by omega)).mono ?_
       rintro e w7 ⟨f, q7, hf1, hf2, hq7, rfl, hr, hg⟩
       have hd7 := Dk.read HD6.out hr hg (by omega) (by omega)
       have y07 := hd7.box.cell 0
       have y17 := hd7.box.cell 1
       have r0 := hd7.res.cell 0
       have r1 := hd7.res.cell 1
       simp at y07 y17 r0 r1
       have g0 := hd7.res.free 0
       have g1 := hd7.res.free 1
       have HD7 := Lib.hid hd7
       clear hr hg hd7)
    | (go_at_call 11
       (with_reducible refine (pick_3 (B + 1) q4 _ HDK.out.rd (by omega)).mono ?_)
       rintro e w5 ⟨x, hx, rfl, hr, hg⟩
       obtain ⟨X, hX⟩ : ∃ X : Int, (x : Int) - 1 = X := ⟨_, rfl⟩
       have hX1 : -1 ≤ X := by omega
       have hX2 : X ≤ 1 := by omega
       have W1 : IntKind.i64.wrap ((x : Int) - 1) = X := (IntWalk.i64_in _ (by omega)).trans hX
       have hd5 := Dk.read HDK.out hr hg (by omega) (by omega)
       have y05 := hd5.box.cell 0
       have y15 := hd5.box.cell 1
       simp at y05 y15
       have HD5 := Lib.hid hd5
       clear hr hg hd5 hX)
    | (go_at_call 11
       (with_reducible refine (pick_24 (B + 1) (q4 + 1) _ HD5.out.rd (by omega)).mono ?_)
       rintro e w6 ⟨y, hy, rfl, hr, hg⟩
       obtain ⟨d, hd⟩ : ∃ d : Nat, y / 23 = d := ⟨_, rfl⟩
       have hd1 : d ≤ 1 := by omega
       have E1 : (y : Int).tdiv 23 = (d : Int) := by rw [← hd]; exact IntWalk.up_tdiv rfl rfl
       have E2 : (y : Int) / 23 = (d : Int) := by omega
       have W2 : IntKind.i64.wrap (d : Int) = (d : Int) := IntWalk.i64_in _ (by omega)
       obtain ⟨T, hT⟩ : ∃ T : Int, (d : Int) * 2 = T := ⟨_, rfl⟩
       have W3 : IntKind.i64.wrap ((d : Int) * 2) = T := (IntWalk.i64_in _ (by omega)).trans hT
       have W5 : IntKind.i64.wrap T = T := IntWalk.i64_in _ (by omega)
       obtain ⟨H, hH⟩ : ∃ H : Int, X + T = H := ⟨_, rfl⟩
       have W4 : IntKind.i64.wrap (X + T) = H := (IntWalk.i64_in _ (by omega)).trans hH
       have W6 : IntKind.i64.wrap H = H := IntWalk.i64_in _ (by omega)
       have hd6 := Dk.read HD5.out hr hg (by omega) (by omega)
       have y06 := hd6.box.cell 0
       have y16 := hd6.box.cell 1
       simp at y06 y16
       have HD6 := Lib.hid hd6
       clear hr hg hd6 hd))
  all_goals
    go_wp2
    refine bodyPost_ret (v := .tuple #[.agg #[.int .i64 n, .slice A2 N2 cap2], .slice A4 N4 cap4, .int .i64 H, .int .i64 f]) (by simp [results, Try.results4, go_sem, r0, r1]) rfl ?_
    clear E1 E2 W1 W2 W3 W4 W5 W6 hT hH
    refine ⟨n, A2, N2, cap2, L, A4, N4, cap4, P, H, f, rfl, hN, hN4, h1, h2, ?_, ?_, ?_⟩
    · rw [hB]
      exact own_store HD7.out.own (by omega) (by omega) _ _
    · rw [hB]
      exact own_store HD7.out.plc (by omega) (by omega) _ _
    · rw [hB]
      exact below_store HD7.out.bel _ _
end Go.Proofs.Ytllhcogmcfgnoaa

namespace Go.Proofs.Ytllhcogmcfgnoaa
open Go.RowKit
set_option linter.unusedVariables false

/-- Two mailboxes and places that were drawn. -/
def DBC (w : World) (e : Ending) (w' : World) : Prop := ∃ (n : Int) (A : Option Addr) (N cap : Nat) (L : List ML) (A2 : Option Addr) (N2 cap2 : Nat) (P : List Int) (m : Int) (A3 : Option Addr) (N3 cap3 : Nat) (M : List ML), e = .returned (.tuple #[.agg #[.int .i64 n, .slice A N cap], .slice A2 N2 cap2, .agg #[.int .i64 m, .slice A3 N3 cap3]]) ∧ N ≤ 14 ∧ N2 ≤ 15 ∧ N3 ≤ 14 ∧ -1 ≤ n ∧ n ≤ 200 ∧ -1 ≤ m ∧ m ≤ 200 ∧
  ROwn mailR w' w.heap.size (.slice A N cap) L ∧ ROwn intR w' w.heap.size (.slice A2 N2 cap2) P ∧ ROwn mailR w' w.heap.size (.slice A3 N3 cap3) M ∧ Below w.heap.size w w'
theorem own_store4 {α : Type} {R : RowT α} {w : World} {B B' r : Nat} {v : Value} {L : List α} (h : ROwn R w B' v L) (hB : r + 1 < B') (hb : B ≤ B') (u u2 u3 u4 : Value) : ROwn R ((((w.setCell ⟨r, 0, none⟩ u).setCell ⟨r, 1, none⟩ u2).setCell ⟨r + 1, 0, none⟩ u3).setCell ⟨r + 1, 1, none⟩ u4) B v L :=
  own_store (B := B) (own_store (B := B') h (by omega) (Nat.le_refl _) u u2) (by omega) hb u3 u4
end Go.Proofs.Ytllhcogmcfgnoaa

namespace Go.Proofs.Ytllhcogmcfgnoaa
open Go.RowKit
set_option linter.unusedVariables false

/-- A mailbox and numbers that were drawn. -/
def DBU (w : World) (e : Ending) (w' : World) : Prop := ∃ (n : Int) (A : Option Addr) (N cap : Nat) (L : List ML) (A2 : Option Addr) (N2 cap2 : Nat) (P : List Int), e = .returned (.tuple #[.agg #[.int .i64 n, .slice A N cap], .slice A2 N2 cap2]) ∧ N ≤ 14 ∧ N2 ≤ 15 ∧ -1 ≤ n ∧ n ≤ 200 ∧ ROwn mailR w' w.heap.size (.slice A N cap) L ∧ ROwn intR w' w.heap.size (.slice A2 N2 cap2) P ∧ Below w.heap.size w w'
/-- A number is put behind the others. -/
theorem Dk.push {w wr w' : World} {b B D q : Nat} {n x : Int} {v : Value} {L : List ML} {P : List Int} {A A' : Option Addr} {N cap N' cap' : Nat} (h : Dk w wr b B D q n v L (.slice A N cap) P) (hown : ROwn intR w' (b + 1) (.slice A' N' cap') (P ++ [x])) (hg : (wr.alloc (.cells #[.int .i64 x] 3)).grownBy w' (Value.slice A N cap).ownBlock) (hB : B < b) (hD : b < D) : N' = N + 1 ∧ Dk w w' b B D q n v L (.slice A' N' cap') (P ++ [x]) := by
  have hp := h.plc.alloc (.cells #[.int .i64 x] 3)
  have hrow : ∀ g, (Value.slice A N cap).ownBlock = some g → b + 1 ≤ g := fun g e => (World.ownsRow.lt hp g e).1
  have hz := hg.size
  simp at hz
  refine ⟨?_, rd_grown (h.rd.below (below_new wr (.cells #[.int .i64 x] 3)) h.rd.lt) hg hrow (Nat.lt_succ_self b), (h.res.alloc _).grown hg (fun e => by have := hrow _ e.symm; omega), (h.box.alloc _).grown hg (fun e => h.plc.whole h.box (by decide) e.symm), (h.own.alloc _).apart hg (own_apart h.own h.plc (by decide)), hown, (h.bel.alloc (by have := h.sz; omega) _).grown hg (by simp; have := h.sz; omega) (fun z hz => by have := hrow z hz; omega), by have := h.sz; omega⟩
  have h1 := hown.len.1
  have h2 := h.plc.len.1
  rw [List.length_append, List.length_singleton] at h1
  omega
end Go.Proofs.Ytllhcogmcfgnoaa

namespace Go.Proofs.Ytllhcogmcfgnoaa
open Go.RowKit
set_option linter.unusedVariables false

section
variable {n m n2 : Int} {L M L2 : List ML} {f h : Int} {t : List UInt8} {v : ByteArray} {ok : Bool} {P : List Int}
theorem bxAp_len (hr : bxAp n L f t = (n2, L2, ok)) : L2.length ≤ L.length + 1 := by
  unfold bxAp bxAdd at hr
  split at hr
  · split at hr
    · cases hr; omega
    · cases hr; simp
  · cases hr; simp
theorem bxFl_len (hr : bxFl n L P h f = (n2, L2, ok)) : L2.length ≤ L.length := by
  unfold bxFl at hr
  split at hr
  · cases hr; rw [flM_len]; exact Nat.le_refl _
  · cases hr; simp
theorem cpA_len : ∀ {X M M' : List ML} {n n' : Int}, cpA n M X = some (n', M') → M'.length = M.length + X.length
  | X, M, M', n, n', h => by
    obtain ⟨-, e⟩ := cpA_some h
    rw [e, List.length_append, nbM_len]
theorem bxCp_len (hr : bxCp n L P m M = (n2, L2, ok)) : L2.length ≤ M.length + P.length := by
  unfold bxCp at hr
  split at hr
  · split at hr
    · rename_i r hc
      cases hr
      have := cpA_len (n' := r.1) (M' := r.2) hc
      rw [atM_len] at this
      omega
    · cases hr; omega
  · cases hr; simp
theorem spec_append_at (hv : sB t = v) (hr : bxAp n L f t = (n2, L2, ok)) (A : Option Addr) (N cap : Nat) (w : World) (hM : MIn w A N cap L) : Calls Try.prog 24 #[.agg #[.int .i64 n, .slice A N cap], .int .i64 f, .string v] w (GivesBB w n2 L2 ok) := by
  subst hv
  have := spec_append n A N cap L f t w hM
  rw [hr] at this
  exact this
theorem impl_flags_at (hr : bxFl n L P h f = (n2, L2, ok)) (A : Option Addr) (N cap : Nat) (A2 : Option Addr) (N2 cap2 : Nat) (w : World) (hM : MIn w A N cap L) (hI : IIn w A2 N2 cap2 P) : Calls Try.prog 5 #[.agg #[.int .i64 n, .slice A N cap], .slice A2 N2 cap2, .int .i64 h, .int .i64 f] w (GivesBB w n2 L2 ok) := by
  have := impl_flags n A N cap L A2 N2 cap2 P h f w hM hI
  rw [hr] at this
  exact this
theorem spec_flags_at (hr : bxFl n L P h f = (n2, L2, ok)) (A : Option Addr) (N cap : Nat) (A2 : Option Addr) (N2 cap2 : Nat) (w : World) (hM : MIn w A N cap L) (hI : IIn w A2 N2 cap2 P) : Calls Try.prog 6 #[.agg #[.int .i64 n, .slice A N cap], .slice A2 N2 cap2, .int .i64 h, .int .i64 f] w (GivesBB w n2 L2 ok) := by
  have := spec_flags n A N cap L A2 N2 cap2 P h f w hM hI
  rw [hr] at this
  exact this
/-- BoxExpunge, as numbers. -/
def bxEI (n : Int) (L : List ML) : Int × List ML × List Int := if bOk n L then (n, kpM L, gnI L) else (0, [], [])
theorem bxEI_len {G : List Int} (hr : bxEI n L = (n2, L2, G)) : L2.length ≤ L.length ∧ G.length ≤ L.length := by
  unfold bxEI at hr
  split at hr
  · cases hr
    refine ⟨kpM_le L, ?_⟩
    have := gnM_len 0 L
    unfold gnI
    rw [List.length_map]
    omega
  · cases hr; simp
theorem spec_expunge_at {G : List Int} (hr : bxEI n L = (n2, L2, G)) (A : Option Addr) (N cap : Nat) (w : World) (hM : MIn w A N cap L) : Calls Try.prog 26 #[.agg #[.int .i64 n, .slice A N cap]] w (GivesE w n2 L2 G) := by
  unfold bxEI at hr
  cases hv : bOk n L with
  | true => rw [hv] at hr; cases hr; exact spec_expunge_yes n A N cap L w hM hv
  | false => rw [hv] at hr; cases hr; exact spec_expunge_no n A N cap L w hM hv
theorem implvalid_at {b : Bool} (hb : bOk n L = b) (A : Option Addr) (N cap : Nat) (w : World) (hM : MIn w A N cap L) : Calls Try.prog 27 #[.agg #[.int .i64 n, .slice A N cap]] w (SaysB w b) := by
  subst hb
  exact impl_boxvalid n A N cap L w hM
theorem same_box_at {A A2 : Option Addr} {N N2 cap cap2 : Nat} {o : Bool} (n m : Int) (w : World) (h : MIn w A N cap L) (h2 : MIn w A2 N2 cap2 M) (ho : decide (n = m ∧ L = M) = o) :
    Calls Try.prog 7 #[.agg #[.int .i64 n, .slice A N cap], .agg #[.int .i64 m, .slice A2 N2 cap2]] w (SaysB w o) := by
  subst ho
  exact same_box n m w h h2
theorem same_mail_at {A A2 : Option Addr} {N N2 cap cap2 : Nat} {o : Bool} (w : World) (h : MIn w A N cap L) (h2 : MIn w A2 N2 cap2 M) (ho : decide (L = M) = o) :
    Calls Try.prog 23 #[.slice A N cap, .slice A2 N2 cap2] w (SaysB w o) := by
  subst ho
  exact same_mail w h h2
/-- The first messages of a slice. -/
theorem MIn.take {w : World} {A : Option Addr} {N cap : Nat} {L : List ML} (h : MIn w A N cap L) {k : Nat} (hk : k ≤ N) : MIn w A k cap (L.take k) := ⟨by rw [List.length_take, h.1]; omega, by have := h.2.1; omega, h.2.2.1.take k, h.2.2.2⟩
end
end Go.Proofs.Ytllhcogmcfgnoaa
