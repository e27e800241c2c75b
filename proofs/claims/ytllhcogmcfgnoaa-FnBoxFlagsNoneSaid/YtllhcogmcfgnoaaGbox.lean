/-
  The contract of the model's l91Box, which draws a mailbox. Condition: the code can be read.
-/
import Derived.Test.YtllhcogmcfgnoaaGtext
import Derived.Deep.RegionWith
import Derived.Deep.RegionHeld3
import Derived.Deep.DeepCutAuto
import Derived.Deep.LoopGhost
namespace Go.Proofs.Ytllhcogmcfgnoaa
open Go.RowKit
set_option linter.unusedVariables false

/-- A drawn mailbox. -/
def DrewB (w : World) (b p : Nat) (e : Ending) (w' : World) : Prop := ∃ (n : Int) (A : Option Addr) (N cap : Nat) (L : List ML) (q : Nat), e = .returned (.agg #[.int .i64 n, .slice A N cap]) ∧ N ≤ 14 ∧ -1 ≤ n ∧ n ≤ 200 ∧ q ≤ p + 200 ∧ Rd w' b q ∧ ROwn mailR w' w.heap.size (.slice A N cap) L ∧ w.grownBy w' (some b)
/-- What the drawing holds in memory: the reader, the result's block, the mailbox in the making. -/
structure Mk (w wr : World) (b B C : Nat) (p : Nat) (m : Int) (v : Value) (M : List ML) : Prop where
  rd : Rd wr b p
  res : Whole wr B 25 #[.int .i64 0, .slice none 0 0]
  box : Whole wr C 25 #[.int .i64 m, v]
  own : ROwn mailR wr (B + 1) v M
  gr : w.grownBy wr (some b)
theorem ROwn.gr {α : Type} {R : RowT α} {w w' : World} {B b : Nat} {v : Value} {L : List α} (h : ROwn R w B v L) (hg : w.grownBy w' (some b)) (hb : b < B) : ROwn R w' B v L := h.grown hg hb
section
variable {w wr w' : World} {b B C p q : Nat} {m m' : Int} {v v' : Value} {M M' : List ML}
theorem Mk.drew (h : Mk w wr b B C p m v M) : Mk w wr.drew b B C p m v M := ⟨h.rd, h.res, h.box, h.own, gr_drew h.gr⟩
theorem Mk.alloc (h : Mk w wr b B C p m v M) (o : Obj) : Mk w (wr.alloc o) b B C p m v M :=
  ⟨h.rd.below ((Below.refl wr.heap.size wr).alloc (Nat.le_refl _) _) h.rd.lt, h.res.alloc o, h.box.alloc o, h.own.alloc o, gr_alloc h.gr o⟩
/-- The reader reads on. -/
theorem Mk.read (h : Mk w wr b B C p m v M) (hr : Rd w' b q) (hg : wr.grownBy w' (some b)) (hb : b < B) (hC : B < C) : Mk w w' b B C q m v M :=
  ⟨hr, h.res.grown hg (by simp; omega), h.box.grown hg (by simp; omega), h.own.gr hg (by omega), gr_trans h.gr hg⟩
theorem rd_store {F i : Nat} (h : Rd wr b p) (hbF : b < F) (u : Value) : Rd (wr.setCell ⟨F, i, none⟩ u) b p := by
  obtain ⟨A, len, cap, hW, hB⟩ := h
  exact ⟨A, len, cap, hW.apart (by show b ≠ F; omega) u, hB.kept fun q hq => World.cell?_setCell_other wr _ q _ (fun e => by subst e; simp at hq; omega)⟩
/-- A store into another mailbox's block. -/
theorem Mk.store {F i : Nat} {cs : Array Value} (h : Mk w wr b B C p m v M) (hF : Whole wr F 25 cs) (hbB : b < B) (hB : B < F) (hC : F ≠ C) (hw : w.heap.size = B) (u : Value) : Mk w (wr.setCell ⟨F, i, none⟩ u) b B C p m v M :=
  ⟨rd_store h.rd (by omega) u, h.res.apart (by show B ≠ F; omega) u, h.box.apart (by show C ≠ F; omega) u, h.own.store (p := ⟨F, i, none⟩) (h.own.whole hF (by decide)) u, gr_store h.gr (.inr (by show _ ≤ F; omega)) u⟩
/-- Another mailbox is taken. -/
theorem Mk.put (h : Mk w wr b B C p m v M) (ho : ROwn mailR wr (B + 1) v' M') (hbB : b < B) (hBC : B < C) (hw : w.heap.size = B) : Mk w ((wr.setCell ⟨C, 0, none⟩ (.int .i64 m')).setCell ⟨C, 1, none⟩ v') b B C p m' v' M' :=
  ⟨rd_store (rd_store h.rd (by omega) _) (by omega) _, (h.res.apart (by show B ≠ C; omega) _).apart (by show B ≠ C; omega) _, (h.box.store 0 _).store 1 _,
    (ho.store (p := ⟨C, 0, none⟩) (ho.whole h.box (by decide)) _).store (p := ⟨C, 1, none⟩) (ho.whole h.box (by decide)) _, gr_store (gr_store h.gr (.inr (by show _ ≤ C; omega)) _) (.inr (by show _ ≤ C; omega)) _⟩
/-- Another number is set. -/
theorem Mk.next (h : Mk w wr b B C p m v M) (hbB : b < B) (hBC : B < C) (hw : w.heap.size = B) : Mk w (wr.setCell ⟨C, 0, none⟩ (.int .i64 m')) b B C p m' v M :=
  ⟨rd_store h.rd (by omega) _, h.res.apart (by show B ≠ C; omega) _, h.box.store 0 _, h.own.store (p := ⟨C, 0, none⟩) (h.own.whole h.box (by decide)) _, gr_store h.gr (.inr (by show _ ≤ C; omega)) _⟩
/-- Another message is set in place. -/
theorem Mk.mail {g k j N cap : Nat} {x y : ML} {u : Value} (h : Mk w wr b B C p m (.slice (some ⟨g, 0, none⟩) N cap) M) (hx : M[k]? = some x) (hj : j < 3) (hy : mailR.enc y = (mailR.enc x).set j u) (hbB : b < B) (hBC : B < C) (hw : w.heap.size = B) :
    Mk w (wr.setCell ⟨g, k * 3 + j, none⟩ u) b B C p m (.slice (some ⟨g, 0, none⟩) N cap) (M.set k y) := by
  have hg := World.ownsRow.lt h.own g rfl
  have hC : C ≠ g := fun e => h.own.whole h.box (by decide) (by rw [e]; rfl)
  exact ⟨rd_store h.rd (by omega) _, h.res.apart (by show B ≠ g; omega) _, h.box.apart (by show C ≠ g; exact hC) _, (h.own.stored hx hj hy).1, gr_store h.gr (.inr (by show _ ≤ g; omega)) _⟩
theorem Mk.below (h : Mk w wr b B C p m v M) (hb : Below wr.heap.size wr w') : Mk w w' b B C p m v M :=
  ⟨h.rd.below hb h.rd.lt, h.res.below hb h.res.lt, h.box.below hb h.box.lt, h.own.kept hb, gr_trans h.gr (gr_below hb _)⟩
end

/-- What an append leaves, as the drawing sees it. -/
def GivesAp (w : World) (m : Int) (M : List ML) (e : Ending) (w' : World) : Prop := ∃ (n : Int) (A : Option Addr) (N cap : Nat) (L : List ML) (ok : Bool), e = .returned (.tuple #[.agg #[.int .i64 n, .slice A N cap], .bool ok]) ∧ (ok = true → n = m + 1 ∧ L.length = M.length + 1) ∧ ROwn mailR w' w.heap.size (.slice A N cap) L ∧ Below w.heap.size w w'
theorem append_some {t : List UInt8} {v : ByteArray} (hv : sB t = v) (m : Int) (A : Option Addr) (N cap : Nat) (M : List ML) (f : Int) (w : World) (h : MIn w A N cap M) :
    Calls Try.prog 24 #[.agg #[.int .i64 m, .slice A N cap], .int .i64 f, .string v] w (GivesAp w m M) := by
  subst hv
  refine (spec_append m A N cap M f t w h).mono ?_
  rintro e w' ⟨A', N', cap', rfl, ho, hb⟩
  refine ⟨_, A', N', cap', _, _, rfl, fun hok => ?_, ho, hb⟩
  obtain ⟨-, -, -, -, -, he⟩ := bxAp_yes hok
  rw [he]
  exact ⟨rfl, by rw [List.length_append]; rfl⟩
/-- What a removal leaves, as the drawing sees it. -/
def GivesEx (w : World) (m : Int) (M : List ML) (e : Ending) (w' : World) : Prop := ∃ (n : Int) (A : Option Addr) (N cap : Nat) (A2 : Option Addr) (N2 cap2 : Nat) (L : List ML), e = .returned (.tuple #[.agg #[.int .i64 n, .slice A N cap], .slice A2 N2 cap2]) ∧ (n = m ∨ n = 0) ∧ L.length ≤ M.length ∧ ROwn mailR w' w.heap.size (.slice A N cap) L ∧ Below w.heap.size w w'
theorem expunge_some (m : Int) (A : Option Addr) (N cap : Nat) (M : List ML) (w : World) (h : MIn w A N cap M) :
    Calls Try.prog 26 #[.agg #[.int .i64 m, .slice A N cap]] w (GivesEx w m M) := by
  cases hv : bOk m M with
  | false =>
    refine (spec_expunge_no m A N cap M w h hv).mono ?_
    rintro e w' ⟨A', N', cap', A2, N2, cap2, rfl, ho, -, hb⟩
    exact ⟨0, A', N', cap', A2, N2, cap2, [], rfl, .inr rfl, Nat.zero_le _, ho, hb⟩
  | true =>
    refine (spec_expunge_yes m A N cap M w h hv).mono ?_
    rintro e w' ⟨A', N', cap', A2, N2, cap2, rfl, ho, -, hb⟩
    exact ⟨m, A', N', cap', A2, N2, cap2, _, rfl, .inl rfl, kpM_le M, ho, hb⟩

theorem Mk.fin {w wr : World} {b B C p q N cap : Nat} {m : Int} {A : Option Addr} {M : List ML} (h : Mk w wr b B C q m (.slice A N cap) M) (hbB : b < B) (hB : w.heap.size = B) (hN : N ≤ 14) (h1 : -1 ≤ m) (h2 : m ≤ 200) (hq : q ≤ p + 200) (u u2 : Value) :
    DrewB w b p (.returned (.agg #[.int .i64 m, .slice A N cap])) ((wr.setCell ⟨B, 0, none⟩ u).setCell ⟨B, 1, none⟩ u2) := by
  refine ⟨m, A, N, cap, M, q, rfl, hN, h1, h2, hq, rd_store (rd_store h.rd hbB _) hbB _, ?_, gr_store (gr_store h.gr (.inr (by show _ ≤ B; omega)) _) (.inr (by show _ ≤ B; omega)) _⟩
  rw [hB]
  exact ((h.own.store (p := ⟨B, 0, none⟩) (h.own.base B (by omega)) _).store (p := ⟨B, 1, none⟩) (h.own.base B (by omega)) _).from (by omega)
theorem pick_12 (b p : Nat) (w : World) (h : Rd w b p) (hp : p ≤ 1000000) : Calls Try.prog 11 #[.pointer (some ⟨b, 0, none⟩), .int .i64 12] w (Picked w b p 12) := pick_any b p 12 w h hp (by omega) (by omega)
theorem four_next {y : Nat} (h : y < 4) : ∃ z : Int, 0 ≤ z ∧ z ≤ 101 ∧ (#[Value.int .i64 0, .int .i64 99, .int .i64 100, .int .i64 101] : Array Value)[y]? = some (.int .i64 z) := by
  match y, h with
  | 0, _ => exact ⟨0, by omega, by omega, rfl⟩
  | 1, _ => exact ⟨99, by omega, by omega, rfl⟩
  | 2, _ => exact ⟨100, by omega, by omega, rfl⟩
  | 3, _ => exact ⟨101, by omega, by omega, rfl⟩

set_option maxRecDepth 20000 in
set_option maxHeartbeats 8000000 in
theorem box_draw (b p : Nat) (w : World) (h : Rd w b p) (hp : p ≤ 800000) :
    Calls Try.prog 9 #[.pointer (some ⟨b, 0, none⟩)] w (DrewB w b p) := by
  obtain ⟨B, hB⟩ : ∃ B, w.heap.size = B := ⟨_, rfl⟩
  have HBB := Lib.hid hB
  have hbB := h.lt
  rw [hB] at hbB
  have H := Lib.hid (h.below (below_new w (.cells #[.int .i64 0, .slice none 0 0] 25)) h.lt)
  have hres := Whole.made w 25 #[.int .i64 0, .slice none 0 0]
  rw [hB] at hres
  have HRS := Lib.hid hres
  have hsz : (w.alloc (.cells #[.int .i64 0, .slice none 0 0] 25)).heap.size = B + 1 := by simp [hB]
  have HSZ := Lib.hid hsz
  clear h hres hsz
  go_enter Try.func9, Try.ntmps9
  go_wp2_with fail
  refine (pick_any b p 3 _ H.out (by omega) (by omega) (by omega)).mono ?_
  rintro e w1 ⟨x, hx, rfl, hr, hg⟩
  have hz1 : B + 1 ≤ w1.heap.size := by rw [← HSZ.out]; exact hg.size
  have HR1 := Lib.hid hr
  have HS1 := Lib.hid (HRS.out.grown hg (by simp; omega))
  have HG1 := Lib.hid (gr_trans (gr_alloc (gr_refl w (some b)) (.cells #[.int .i64 0, .slice none 0 0] 25)) hg)
  clear hr hg
  obtain ⟨S, hS⟩ : ∃ S, w1.heap.size = S := ⟨_, rfl⟩
  obtain ⟨m0, hm0⟩ : ∃ m0 : Int, 1 + (x : Int) = m0 := ⟨_, rfl⟩
  have hm1 : 1 ≤ m0 := by omega
  have hm3 : m0 ≤ 3 := by omega
  have W0 : IntKind.i64.wrap (1 + (x : Int)) = m0 := (IntWalk.i64_in _ (by omega)).trans hm0
  have hmk : Mk w ((w1.alloc (.cells #[] 49)).alloc (.cells #[.int .i64 m0, .slice (some ⟨S, 0, none⟩) 0 0] 25)) b B (S + 1) (p + 1) m0 (.slice (some ⟨S, 0, none⟩) 0 0) [] := by
    have hb2 := (below_new w1 (.cells #[] 49)).alloc (by simp) (.cells #[.int .i64 m0, .slice (some ⟨S, 0, none⟩) 0 0] 25)
    have hbx := Whole.made (w1.alloc (.cells #[] 49)) 25 #[.int .i64 m0, .slice (some ⟨S, 0, none⟩) 0 0]
    rw [show (w1.alloc (.cells #[] 49)).heap.size = S + 1 by simp [hS]] at hbx
    exact ⟨HR1.out.below hb2 HR1.out.lt, HS1.out.below hb2 HS1.out.lt, hbx, (ROwn.lit (R := mailR) (B := B + 1) w1 S (by omega) hS).alloc _, gr_trans HG1.out (gr_below hb2 _)⟩
  have HMK := Lib.hid hmk
  rw [hS] at hz1
  clear hmk
  go_wp2_with fail
  refine (pick_any b (p + 1) 8 _ HMK.out.rd (by omega) (by omega) (by omega)).mono ?_
  rintro e w2 ⟨y, hy, rfl, hr, hg⟩
  have HM2 := Lib.hid (HMK.out.read hr hg hbB (by omega))
  clear hr hg HMK HR1 HS1 HG1 H HRS HSZ W0 hm0
  go_wp2_with fail
  refine (pick_any b (p + 1 + 1) 12 _ HM2.out.rd (by omega) (by omega) (by omega)).mono ?_
  rintro e w3 ⟨y2, hy2, rfl, hr, hg⟩
  have HM3 := Lib.hid (HM2.out.read hr hg hbB (by omega))
  clear hr hg HM2
  go_upto_if 17 with (fail)
  go_cut [4] (fun v wx => ∃ k : Nat, k ≤ 14 ∧ v = .int .i64 (k : Int) ∧ w3 = wx)
  case first =>
    by_cases h0 : y2 = 0
    · subst h0
      go_wp2_with fail
      go_meet
      case rel => exact ⟨14, by omega, rfl, rfl⟩
    · have h0' : ((y2 : Int) == 0) = false := beq_eq_false_iff_ne.2 (by omega)
      clear h0
      go_wp2_with fail
      go_meet
      case rel => exact ⟨y, by omega, rfl, rfl⟩
  case rest =>
    obtain ⟨k, hk, rfl, rfl⟩ := hcut
    clear y2 hy2 y hy x hx
    obtain ⟨C, hC⟩ : ∃ C, S + 1 = C := ⟨_, rfl⟩
    have hBC : B < C := by omega
    rw [hC] at HM3 ⊢
    clear hC
    go_wp2_with fail
    go_loopg [5] k (fun gk i wr => ∃ (j q : Nat) (m : Int) (A : Option Addr) (N cap : Nat) (M : List ML), j + gk = k ∧ i = .int .i64 (j : Int) ∧ q ≤ p + 3 + 6 * j ∧ 0 ≤ m ∧ m ≤ 3 + 3 * (j : Int) ∧ N ≤ j ∧ Hid (Mk w wr b B C q m (.slice A N cap) M))
    case atStart => exact ⟨0, _, m0, _, _, _, _, by omega, by go_num, by omega, by omega, by omega, Nat.zero_le _, HM3⟩
    case round =>
      obtain ⟨j, q, m, A, N, cap, M, hj, rfl, hq, hm0', hm3', hN, HM⟩ := hrel
      clear HM3
      by_cases hlt : j < k
      · have h5 : (j : Int) < (k : Int) := by omega
        go_upto_region 8 with fail
        go_cut [6, 7] (fun s6 s7 wx => ∃ (F : Nat) (n' : Int) (A' : Option Addr) (N' cap' : Nat) (L' : List ML) (ok : Bool) (q' : Nat), s6 = .pointer (some ⟨F, 0, none⟩) ∧ s7 = .bool ok ∧ q' ≤ q + 3 ∧ F ≠ C ∧ Hid (ok = true → n' = m + 1 ∧ L'.length = M.length + 1) ∧ Hid (Mk w wx b B C q' m (.slice A N cap) M) ∧ Hid (Whole wx F 25 #[.int .i64 n', .slice A' N' cap']) ∧ Hid (ROwn mailR wx (B + 1) (.slice A' N' cap') L'))
        case first =>
          have hNl : N ≤ 33554432 := by omega
          have x0 := HM.out.box.cell 0
          have x1 := HM.out.box.cell 1
          simp at x0 x1
          have za := HM.out.alloc (.cells #[.int .i64 0, .slice none 0 0] 25)
          have x0z := za.box.cell 0
          have x1z := za.box.cell 1
          simp at x0z x1z
          have HZA := Lib.hid za
          have hCw := HM.out.box.lt
          clear za
          go_region_with (first
            | (go_at_call 11
               refine (pick_any b q 32 _ (by first | exact HM.out.drew.rd | exact HZA.out.drew.rd) (by omega) (by omega) (by omega)).mono ?_
               rintro e w4 ⟨y, hy, rfl, hr, hg⟩
               have hm4 := Mk.read (by first | exact HM.out.drew | exact HZA.out.drew) hr hg hbB hBC
               have x04 := hm4.box.cell 0
               have x14 := hm4.box.cell 1
               have zb := hm4.alloc (.cells #[.int .i64 0, .slice none 0 0] 25)
               have x04z := zb.box.cell 0
               have x14z := zb.box.cell 1
               simp at x04 x14 x04z x14z
               have HM4 := Lib.hid hm4
               have HZB := Lib.hid zb
               first
                 | (have HF4 := Lib.hid (show Whole w4 wr.heap.size 25 #[.int .i64 0, .slice none 0 0] from Whole.grown (Whole.drew (Whole.made wr 25 #[.int .i64 0, .slice none 0 0])) hg (by simp; omega)))
                 | skip
               have hCw4 := HM4.out.box.lt
               clear hr hg hm4 zb)
            | (go_at_call 25
               refine (text_draw b (q + 1) _ (by first | exact HM4.out.rd | exact HZB.out.rd) (by omega)).mono ?_
               rintro e w5 ⟨t, q5, ht, hq5, rfl, hr, hg⟩
               obtain ⟨v5, hv5⟩ : ∃ v, sB t = v := ⟨_, rfl⟩
               rw [hv5]
               have HV5 := Lib.hid hv5
               have hm5 := Mk.read (by first | exact HM4.out | exact HZB.out) hr hg hbB hBC
               have x05 := hm5.box.cell 0
               have x15 := hm5.box.cell 1
               have zc := hm5.alloc (.cells #[.int .i64 0, .slice none 0 0] 25)
               have x05z := zc.box.cell 0
               have x15z := zc.box.cell 1
               simp at x05 x15 x05z x15z
               have HM5 := Lib.hid hm5
               have HZC := Lib.hid zc
               first
                 | (have HF5 := Lib.hid (show Whole w5 wr.heap.size 25 #[.int .i64 0, .slice none 0 0] from Whole.grown HF4.out hg (by simp; omega)))
                 | (have HF5 := Lib.hid (show Whole w5 w4.heap.size 25 #[.int .i64 0, .slice none 0 0] from Whole.grown (Whole.made w4 25 #[.int .i64 0, .slice none 0 0]) hg (by simp; omega)))
                 | skip
               have hCw5 := HM5.out.box.lt
               clear hr hg hm5 zc hv5)
            | (go_at_call 24
               refine (append_some HV5.out m A N cap M _ _ (by first | exact MIn.of HM5.out.own hNl | exact MIn.of HZC.out.own hNl)).mono ?_
               rintro e w6 ⟨n6, A6, N6, cap6, L6, ok6, rfl, hok, hown, hb⟩
               have HM6 := Lib.hid (Mk.below (by first | exact HM5.out | exact HZC.out) hb)
               have HOK6 := Lib.hid hok
               have HO6 := Lib.hid (hown.from (show B + 1 ≤ _ by first | omega | (simp; omega)))
               first
                 | (have HF6 := Lib.hid (show Whole w6 wr.heap.size 25 #[.int .i64 0, .slice none 0 0] from Whole.below HF5.out hb HF5.out.lt)
                    have HFN := Lib.hid (show wr.heap.size ≠ C by omega)
                    have f60 := HF6.out.cell 0
                    have f61 := HF6.out.cell 1
                    simp at f60 f61
                    have f6f := HF6.out.free 0
                    have f6g := HF6.out.free 1)
                 | (have HF6 := Lib.hid (show Whole w6 w4.heap.size 25 #[.int .i64 0, .slice none 0 0] from Whole.below HF5.out hb HF5.out.lt)
                    have HFN := Lib.hid (show w4.heap.size ≠ C by omega)
                    have f60 := HF6.out.cell 0
                    have f61 := HF6.out.cell 1
                    simp at f60 f61
                    have f6f := HF6.out.free 0
                    have f6g := HF6.out.free 1)
                 | (have HF6 := Lib.hid (show Whole w6 w5.heap.size 25 #[.int .i64 0, .slice none 0 0] from Whole.below (Whole.made w5 25 #[.int .i64 0, .slice none 0 0]) hb (by simp))
                    have HFN := Lib.hid (show w5.heap.size ≠ C by omega)
                    have f60 := HF6.out.cell 0
                    have f61 := HF6.out.cell 1
                    simp at f60 f61
                    have f6f := HF6.out.free 0
                    have f6g := HF6.out.free 1)
                 | skip
               have hCw6 := HM6.out.box.lt
               clear hok hown hb))
          all_goals
            go_wp2_with fail
            go_meet
            case rel =>
              first
                | exact ⟨_, n6, A6, N6, cap6, L6, ok6, q5, rfl, rfl, by omega, HFN.out, HOK6, (HM6.out.store HF6.out hbB (by omega) HFN.out hB _).store (HF6.out.store 0 _) hbB (by omega) HFN.out hB _, (HF6.out.store 0 _).store 1 _, (HO6.out.store (HO6.out.whole HF6.out (by decide)) _).store (HO6.out.whole HF6.out (by decide)) _⟩
                | exact ⟨_, n6, A6, N6, cap6, L6, ok6, q5, rfl, rfl, by omega, by omega, HOK6, HM6.out.alloc _, Whole.made _ _ _, HO6.out.alloc _⟩
        case rest =>
          obtain ⟨F, n', A', N', cap', L', ok, q', rfl, rfl, hq', hFC, HOK, HM', HF, HO⟩ := hcut
          clear HM
          have x0 := HM'.out.box.cell 0
          have x1 := HM'.out.box.cell 1
          have f0 := HF.out.cell 0
          have f1 := HF.out.cell 1
          simp at x0 x1 f0 f1
          have xf0 := HM'.out.box.free 0
          have xf1 := HM'.out.box.free 1
          go_upto_if 32 with (fail)
          go_cut [] (fun wx => ∃ (q2 : Nat) (m2 : Int) (A2 : Option Addr) (N2 cap2 : Nat) (M2 : List ML), q2 ≤ q + 4 ∧ 0 ≤ m2 ∧ m2 ≤ 3 + 3 * (j : Int) + 3 ∧ N2 ≤ j + 1 ∧ Hid (Mk w wx b B C q2 m2 (.slice A2 N2 cap2) M2))
          case first =>
            cases ok with
            | false =>
              go_wp2_with fail
              go_meet
              case rel => exact ⟨q', m, A, N, cap, M, by omega, by omega, by omega, by omega, HM'⟩
            | true =>
              obtain ⟨hn', hL'⟩ := HOK.out rfl
              have hNN : N' = N + 1 := by rw [HO.out.len.1, hL', ← HM'.out.own.len.1]
              subst hNN
              have h0m : 0 ≤ n' := by omega
              have h1m : n' ≤ 3 + 3 * (j : Int) + 1 := by omega
              have hmp := Mk.put (m' := n') HM'.out HO.out hbB hBC hB
              have y0 := hmp.drew.box.cell 0
              simp at y0
              have yf := hmp.drew.box.free 0
              have HMP := Lib.hid hmp
              clear hn' hL' HOK hmp
              go_upto_region 11 with fail
              go_region_with (go_at_call 11
                              refine (pick_any b q' 3 _ HMP.out.drew.rd (by omega) (by omega) (by omega)).mono ?_
                              rintro e w8 ⟨z, hz, rfl, hr, hg⟩
                              have hm8 := Mk.read HMP.out.drew hr hg hbB hBC
                              have y80 := hm8.box.cell 0
                              simp at y80
                              have yf8 := hm8.box.free 0
                              have HM8 := Lib.hid hm8
                              have HW8 : Hid (IntKind.i64.wrap (n' + (z : Int)) = n' + (z : Int)) := IntWalk.i64_in _ (by omega)
                              clear hr hg hm8)
              all_goals
                go_wp2_with fail
                go_meet
                case rel => exact ⟨q' + 1, n' + (z : Int), A', N + 1, cap', L', by omega, by omega, by omega, by omega, by rw [HW8.out]; exact HM8.out.next hbB hBC hB⟩
          case rest =>
            obtain ⟨q2, m2, A2, N2, cap2, M2, hq2, hm20, hm23, hN2, HM2⟩ := hcut
            clear HM' HF HO HOK x0 x1 f0 f1 xf0 xf1
            go_wp2_with fail
            refine (pick_any b q2 8 _ HM2.out.rd (by omega) (by omega) (by omega)).mono ?_
            rintro e w9 ⟨z, hz, rfl, hr, hg⟩
            have HM9 := Lib.hid (Mk.read HM2.out hr hg hbB hBC)
            clear hr hg HM2
            by_cases h0 : z = 0
            · subst h0
              have x0 := HM9.out.box.cell 0
              have x1 := HM9.out.box.cell 1
              simp at x0 x1
              go_wp2_with fail
              refine (expunge_some m2 A2 N2 cap2 M2 _ (MIn.of HM9.out.own (by omega))).mono ?_
              rintro e wa ⟨n3, A3, N3, cap3, A4, N4, cap4, L3, rfl, hn3, hL3, hown, hb⟩
              have hma := Mk.below HM9.out hb
              have hCa := HM9.out.box.lt
              have HOA := Lib.hid (hown.from (show B + 1 ≤ _ by omega))
              have hNN : N3 ≤ N2 := by rw [HOA.out.len.1, HM9.out.own.len.1]; exact hL3
              have y0 := hma.box.cell 0
              have y1 := hma.box.cell 1
              simp at y0 y1
              have yf0 := hma.box.free 0
              have yf1 := hma.box.free 1
              have HMA := Lib.hid hma
              have hn30 : 0 ≤ n3 := by omega
              have hn33 : n3 ≤ 3 + 3 * (j : Int) + 3 := by omega
              clear hb hown hma hn3 hL3 x0 x1
              go_wp2_with fail
              go_roundg (gk - 1)
              case measure => omega
              case rel => exact ⟨j + 1, q2 + 1, n3, A3, N3, cap3, L3, by omega, by go_num, by omega, by omega, by omega, by omega, Mk.put HMA.out HOA.out hbB hBC hB⟩
            · have h0' : ((z : Int) == 0) = false := beq_eq_false_iff_ne.2 (by omega)
              clear h0
              go_wp2_with fail
              go_roundg (gk - 1)
              case measure => omega
              case rel => exact ⟨j + 1, q2 + 1, m2, A2, N2, cap2, M2, by omega, by go_num, by omega, by omega, by omega, by omega, HM9⟩
      · have h5 : ¬ (j : Int) < (k : Int) := by omega
        have hN14 : N ≤ 14 := by omega
        have hm60 : m ≤ 60 := by omega
        have hq90 : q ≤ p + 90 := by omega
        clear hq hm3' hN hj hk hlt
        go_wp2_with fail
        refine (pick_any b q 20 _ HM.out.rd (by omega) (by omega) (by omega)).mono ?_
        rintro e w4 ⟨x, hx, rfl, hr, hg⟩
        have HM4 := Lib.hid (Mk.read HM.out hr hg hbB hBC)
        clear hr hg HM
        by_cases e0 : x = 0
        · subst e0
          have hC0 := HM4.out.box.lt
          have hma := HM4.out.alloc (.cells #[.int .i64 0, .int .i64 99, .int .i64 100, .int .i64 101] 3)
          have HMA := Lib.hid hma
          clear hma
          go_wp2_with fail
          refine (pick_any b (q + 1) 4 _ HMA.out.rd (by omega) (by omega) (by omega)).mono ?_
          rintro e w5 ⟨y, hy, rfl, hr, hg⟩
          obtain ⟨z, z1, z2, hz4⟩ := four_next hy
          have hcz : w5.cell? ⟨w4.heap.size, y, none⟩ = some (.int .i64 z) := (((Whole.made w4 3 #[.int .i64 0, .int .i64 99, .int .i64 100, .int .i64 101]).grown hg (by simp; omega)).cell y).trans hz4
          have y0 : (0 : Int) ≤ (y : Int) := by omega
          have y4 : (y : Int) < 4 := by omega
          have HM5 := Lib.hid (Mk.read HMA.out hr hg hbB hBC)
          have xx0 := HM5.out.box.cell 0
          simp at xx0
          have xf0 := HM5.out.box.free 0
          have HMN := Lib.hid (HM5.out.next (m' := z) hbB hBC hB)
          have hCB : ¬ C = B := by omega
          clear hr hg hz4
          have x0 := HMN.out.box.cell 0
          have x1 := HMN.out.box.cell 1
          have r0 := HMN.out.res.cell 0
          have r1 := HMN.out.res.cell 1
          simp at x0 x1 r0 r1
          have rf0 := HMN.out.res.free 0
          have rf1 := HMN.out.res.free 1
          go_wp2
          refine bodyPost_ret (v := .agg #[.int .i64 z, .slice A N cap]) (by simp [results, Try.results9, go_sem, r0, r1]) rfl ?_
          exact Mk.fin HMN.out hbB hB hN14 (by omega) (by omega) (by omega) _ _
        · have e0' : ((x : Int) == 0) = false := beq_eq_false_iff_ne.2 (by omega)
          by_cases e1 : x = 1
          · subst e1
            by_cases hz : N = 0
            · subst hz
              have x0 := HM4.out.box.cell 0
              have x1 := HM4.out.box.cell 1
              have r0 := HM4.out.res.cell 0
              have r1 := HM4.out.res.cell 1
              simp at x0 x1 r0 r1
              have rf0 := HM4.out.res.free 0
              have rf1 := HM4.out.res.free 1
              go_wp2
              refine bodyPost_ret (v := .agg #[.int .i64 m, .slice A 0 cap]) (by simp [results, Try.results9, go_sem, r0, r1]) rfl ?_
              exact Mk.fin HM4.out hbB hB hN14 (by omega) (by omega) (by omega) _ _
            · have hpos : 0 < N := by omega
              have hpos' : (0 : Int) < (N : Int) := by omega
              have HNL := Lib.hid HM4.out.own.len.1
              obtain ⟨g, hg⟩ : ∃ g, A = some ⟨g, 0, none⟩ := by
                obtain ⟨A', c', he, -, -, -, -, hne⟩ := HM4.out.own.form
                cases he
                exact hne (fun e => by rw [e] at hpos; simp at hpos)
              subst hg
              have x0 := HM4.out.box.cell 0
              have x1 := HM4.out.box.cell 1
              simp at x0 x1
              have HMD := Lib.hid HM4.out.drew
              go_wp2
              go_region_with (first
                | (go_at_call 11
                   (with_reducible refine (pick_any b (q + 1) N _ HMD.out.rd (by omega) (by omega) (by omega)).mono ?_)
                   rintro e w5 ⟨y, hy, rfl, hr, hgr⟩
                   obtain ⟨⟨u, f, t⟩, hx⟩ : ∃ x, M[y]? = some x := ⟨_, List.getElem?_eq_getElem (by rw [← HNL.out]; exact hy)⟩
                   have HX := Lib.hid hx
                   have y0 : (0 : Int) ≤ (y : Int) := by omega
                   have y4 : (y : Int) < (N : Int) := by omega
                   have hm5 := Mk.read HMD.out hr hgr hbB hBC
                   have x15 := hm5.box.cell 1
                   have c05 := hm5.own.cell hx (j := 0) rfl
                   have c0f := hm5.own.free (y * 3 + 0)
                   have e3 : mailR.sz = 3 := rfl
                   rw [e3] at c05
                   simp at x15 c05 c0f
                   have HM5 := Lib.hid hm5
                   clear hr hgr hm5 hx e3)
                | (go_at_call 11
                   (with_reducible refine (pick_12 b (q + 1 + 1) _ HM5.out.rd (by omega)).mono ?_)
                   rintro e w6 ⟨z, hz6, rfl, hr, hgr⟩
                   have hm6 := Mk.read HM5.out hr hgr hbB hBC
                   have x16 := hm6.box.cell 1
                   have c06 := hm6.own.cell HX.out (j := 0) rfl
                   have c0g := hm6.own.free (y * 3 + 0)
                   have e3 : mailR.sz = 3 := rfl
                   rw [e3] at c06
                   simp at x16 c06 c0g
                   have HM6 := Lib.hid hm6
                   have HMN := Lib.hid (hm6.mail (j := 0) (u := .int .i64 (z : Int)) (y := ((z : Int), f, t)) HX.out (by omega) rfl hbB hBC hB)
                   clear hr hgr hm6 e3))
              all_goals
                have hmn : Mk w (w6.setCell ⟨g, y * 3, none⟩ (.int .i64 (z : Int))) b B C _ m (.slice (some ⟨g, 0, none⟩) N cap) _ := HMN.out
                obtain ⟨wf, hwf⟩ : ∃ wf, w6.setCell ⟨g, y * 3, none⟩ (.int .i64 (z : Int)) = wf := ⟨_, rfl⟩
                rw [hwf] at hmn ⊢
                have x0 := hmn.box.cell 0
                have x1 := hmn.box.cell 1
                have r0 := hmn.res.cell 0
                have r1 := hmn.res.cell 1
                simp at x0 x1 r0 r1
                have rf0 := hmn.res.free 0
                have rf1 := hmn.res.free 1
                have HMF := Lib.hid hmn
                clear hmn hwf
                go_wp2
                refine bodyPost_ret (v := .agg #[.int .i64 m, .slice (some ⟨g, 0, none⟩) N cap]) (by simp [results, Try.results9, go_sem, r0, r1]) rfl ?_
                exact Mk.fin HMF.out hbB hB hN14 (by omega) (by omega) (by omega) _ _
          · have e1' : ((x : Int) == 1) = false := beq_eq_false_iff_ne.2 (by omega)
            by_cases e2 : x = 2
            · subst e2
              by_cases hz : N = 0
              · subst hz
                have x0 := HM4.out.box.cell 0
                have x1 := HM4.out.box.cell 1
                have r0 := HM4.out.res.cell 0
                have r1 := HM4.out.res.cell 1
                simp at x0 x1 r0 r1
                have rf0 := HM4.out.res.free 0
                have rf1 := HM4.out.res.free 1
                go_wp2
                refine bodyPost_ret (v := .agg #[.int .i64 m, .slice A 0 cap]) (by simp [results, Try.results9, go_sem, r0, r1]) rfl ?_
                exact Mk.fin HM4.out hbB hB hN14 (by omega) (by omega) (by omega) _ _
              · have hpos : 0 < N := by omega
                have hpos' : (0 : Int) < (N : Int) := by omega
                have HNL := Lib.hid HM4.out.own.len.1
                obtain ⟨g, hg⟩ : ∃ g, A = some ⟨g, 0, none⟩ := by
                  obtain ⟨A', c', he, -, -, -, -, hne⟩ := HM4.out.own.form
                  cases he
                  exact hne (fun e => by rw [e] at hpos; simp at hpos)
                subst hg
                have x0 := HM4.out.box.cell 0
                have x1 := HM4.out.box.cell 1
                simp at x0 x1
                have HMD := Lib.hid HM4.out.drew
                go_wp2
                go_region_with (first
                  | (go_at_call 11
                     (with_reducible refine (pick_any b (q + 1) N _ HMD.out.rd (by omega) (by omega) (by omega)).mono ?_)
                     rintro e w5 ⟨y, hy, rfl, hr, hgr⟩
                     obtain ⟨⟨u, f, t⟩, hx⟩ : ∃ x, M[y]? = some x := ⟨_, List.getElem?_eq_getElem (by rw [← HNL.out]; exact hy)⟩
                     have HX := Lib.hid hx
                     have y0 : (0 : Int) ≤ (y : Int) := by omega
                     have y4 : (y : Int) < (N : Int) := by omega
                     have hm5 := Mk.read HMD.out hr hgr hbB hBC
                     have x15 := hm5.box.cell 1
                     have c05 := hm5.own.cell hx (j := 1) rfl
                     have c0f := hm5.own.free (y * 3 + 1)
                     have e3 : mailR.sz = 3 := rfl
                     rw [e3] at c05
                     simp at x15 c05 c0f
                     have HM5 := Lib.hid hm5
                     clear hr hgr hm5 hx e3))
                all_goals
                  have HMN := Lib.hid (HM5.out.mail (j := 1) (u := .int .i64 32) (y := (u, 32, t)) HX.out (by omega) rfl hbB hBC hB)
                  have hmn := HMN.out
                  obtain ⟨wf, hwf⟩ : ∃ wf, w5.setCell ⟨g, y * 3 + 1, none⟩ (.int .i64 32) = wf := ⟨_, rfl⟩
                  rw [hwf] at hmn ⊢
                  have x0 := hmn.box.cell 0
                  have x1 := hmn.box.cell 1
                  have r0 := hmn.res.cell 0
                  have r1 := hmn.res.cell 1
                  simp at x0 x1 r0 r1
                  have rf0 := hmn.res.free 0
                  have rf1 := hmn.res.free 1
                  have HMF := Lib.hid hmn
                  clear hmn hwf
                  go_wp2
                  refine bodyPost_ret (v := .agg #[.int .i64 m, .slice (some ⟨g, 0, none⟩) N cap]) (by simp [results, Try.results9, go_sem, r0, r1]) rfl ?_
                  exact Mk.fin HMF.out hbB hB hN14 (by omega) (by omega) (by omega) _ _
            · have e2' : ((x : Int) == 2) = false := beq_eq_false_iff_ne.2 (by omega)
              clear e0 e1 e2
              have x0 := HM4.out.box.cell 0
              have x1 := HM4.out.box.cell 1
              have r0 := HM4.out.res.cell 0
              have r1 := HM4.out.res.cell 1
              simp at x0 x1 r0 r1
              have rf0 := HM4.out.res.free 0
              have rf1 := HM4.out.res.free 1
              go_wp2
              refine bodyPost_ret (v := .agg #[.int .i64 m, .slice A N cap]) (by simp [results, Try.results9, go_sem, r0, r1]) rfl ?_
              exact Mk.fin HM4.out hbB hB hN14 (by omega) (by omega) (by omega) _ _
end Go.Proofs.Ytllhcogmcfgnoaa
