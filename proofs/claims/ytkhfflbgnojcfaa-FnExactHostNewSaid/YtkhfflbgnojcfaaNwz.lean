/-
  Nwa, Nwb, Nwc, Nwd, Nwe, Nwf, Nwg, Nwh, Nwi, Nwj in one text. Conditions: each contract's own.
-/
import Derived.Test.YtkhfflbgnojcfaaUe
import Derived.Test.YtkhfflbgnojcfaaKeep
import Derived.BigQuiet
import Derived.OwnWalk
import Derived.Laws.OwnMore
import Derived.Deep.RegionHeld3
import Derived.Outline
import Derived.Deep.RegionLaw
import Derived.Deep.LoopGhost
import Derived.WalkSpells
import Derived.Test.YtkhfflbgnojcfaaTil
import Derived.Test.YtkhfflbgnojcfaaTim
import Derived.Deep.Cut
namespace Go.Proofs.Ytkhfflbgnojcfaa
open Go.RowKit
set_option linter.unusedVariables false
set_option linter.unusedSimpArgs false

/-- A mailbox without grants and messages: owner, name, where the grants are, the next number, where the messages are. -/
abbrev FR := ByteArray × ByteArray × (Option Addr × Nat) × Int × (Option Addr × Nat)
abbrev foC (x : FR) : List Value := [.string x.1, .string x.2.1, .slice x.2.2.1.1 0 x.2.2.1.2, .int .i64 x.2.2.2.1, .slice x.2.2.2.2.1 0 x.2.2.2.2.2]
abbrev foV (x : FR) : Value := .agg #[.string x.1, .string x.2.1, .slice x.2.2.1.1 0 x.2.2.1.2, .int .i64 x.2.2.2.1, .slice x.2.2.2.2.1 0 x.2.2.2.2.2]
def foR : RowT FR where
  t := 48
  sz := 5
  enc := foC
  len := fun _ => rfl
  one := fun x u hu => by
    simp at hu
    rcases hu with rfl | rfl | rfl | rfl | rfl <;> rfl
theorem Try.infoFolder : (Try.prog.info? 48).map (fun i => (i.zero, i.size, i.bytes)) = some (some (.agg #[.string ⟨#[]⟩, .string ⟨#[]⟩, .slice none 0 0, .int .i64 0, .slice none 0 0]), 5, 88) := by kernel_rfl
theorem Try.infoHost : (Try.prog.info? 30).map (fun i => (i.zero, i.size, i.bytes)) = some (some (.agg #[.string ⟨#[]⟩, .slice none 0 0, .slice none 0 0, .int .i64 0, .slice none 0 0]), 5, 96) := by kernel_rfl
/-- What counts of a mailbox. -/
def foK (x : FR) : ByteArray × ByteArray × Int := (x.1, x.2.1, x.2.2.2.1)
theorem fo_at {w : World} {A : Option Addr} {L : List FR} {k : Nat} {x : FR} (h : RAt foR w A L) (hx : L[k]? = some x) :
    ∃ b o, A = some ⟨b, o, none⟩ ∧ b < w.heap.size ∧ w.cell? ⟨b, o + k * 5, none⟩ = some (.string x.1) ∧ w.cell? ⟨b, o + k * 5 + 1, none⟩ = some (.string x.2.1) ∧ w.cell? ⟨b, o + k * 5 + 2, none⟩ = some (.slice x.2.2.1.1 0 x.2.2.1.2) ∧ w.cell? ⟨b, o + k * 5 + 3, none⟩ = some (.int .i64 x.2.2.2.1) ∧ w.cell? ⟨b, o + k * 5 + 4, none⟩ = some (.slice x.2.2.2.2.1 0 x.2.2.2.2.2) := by
  obtain ⟨b, o, hA, hb, h1⟩ := h k _ hx
  exact ⟨b, o, hA, hb, h1 0 _ rfl, h1 1 _ rfl, h1 2 _ rfl, h1 3 _ rfl, h1 4 _ rfl⟩
/-- Mailboxes that can be read. -/
def FIn (w : World) (A : Option Addr) (N cap : Nat) (L : List FR) : Prop := L.length = N ∧ N ≤ 4194304 ∧ RAt foR w A L ∧ (A = none → cap = 0) ∧ (∀ q, A = some q → q.spot = none)
theorem FIn.below {w w' : World} {A : Option Addr} {N cap B : Nat} {L : List FR} (h : FIn w A N cap L) (hb : Below B w w') (hB : w.heap.size ≤ B) : FIn w' A N cap L := ⟨h.1, h.2.1, h.2.2.1.below hb hB, h.2.2.2⟩
theorem FIn.of {w : World} {B N cap : Nat} {A : Option Addr} {L : List FR} (h : ROwn foR w B (.slice A N cap) L) (hl : N ≤ 4194304) : FIn w A N cap L := ⟨h.len.1.symm, hl, h.at, h.nilcap, h.spot⟩
set_option maxHeartbeats 2000000 in
theorem eq_grants0 (A A2 : Option Addr) (c c2 : Nat) (w : World) : Calls Try.prog 59 #[.slice A 0 c, .slice A2 0 c2] w (SayB w true) := by
  have h5 : ¬ (0 : Int) < 0 := by decide
  have h6 : ((0 : Int) != 0) = false := by decide
  go_enter Try.func59, Try.ntmps59
  go_wp2
  go_loopw [5] (fun i wr => i = .int .i64 0 ∧ wr = w) (fun _ _ => 0)
  case atStart => exact ⟨by go_num, rfl⟩
  case round =>
    obtain ⟨rfl, rfl⟩ := hrel
    go_wp2
    go_ret
    exact ⟨rfl, Below.refl _ _⟩
set_option maxHeartbeats 2000000 in
theorem eq_mails0 (A A2 : Option Addr) (c c2 : Nat) (w : World) : Calls Try.prog 68 #[.slice A 0 c, .slice A2 0 c2] w (SayB w true) := by
  have h5 : ¬ (0 : Int) < 0 := by decide
  have h6 : ((0 : Int) != 0) = false := by decide
  go_enter Try.func68, Try.ntmps68
  go_wp2
  go_loopw [5] (fun i wr => i = .int .i64 0 ∧ wr = w) (fun _ _ => 0)
  case atStart => exact ⟨by go_num, rfl⟩
  case round =>
    obtain ⟨rfl, rfl⟩ := hrel
    go_wp2
    go_ret
    exact ⟨rfl, Below.refl _ _⟩
set_option maxHeartbeats 2000000 in
theorem eq_items0 (A A2 : Option Addr) (c c2 : Nat) (w : World) : Calls Try.prog 41 #[.slice A 0 c, .slice A2 0 c2] w (SayB w true) := by
  have h5 : ¬ (0 : Int) < 0 := by decide
  have h6 : ((0 : Int) != 0) = false := by decide
  go_enter Try.func41, Try.ntmps41
  go_wp2
  go_loopw [5] (fun i wr => i = .int .i64 0 ∧ wr = w) (fun _ _ => 0)
  case atStart => exact ⟨by go_num, rfl⟩
  case round =>
    obtain ⟨rfl, rfl⟩ := hrel
    go_wp2
    go_ret
    exact ⟨rfl, Below.refl _ _⟩
theorem say_b {w w' : World} (h : Below w.heap.size w w') : SayB w true (.returned (.bool true)) w' := ⟨rfl, h⟩
set_option maxHeartbeats 2000000 in
theorem eq_box0 (n : Int) (A A2 : Option Addr) (c c2 : Nat) (w : World) : Calls Try.prog 60 #[.agg #[.int .i64 n, .slice A 0 c], .agg #[.int .i64 n, .slice A2 0 c2]] w (SayB w true) := by
  have HB := Lib.hid (((Below.refl w.heap.size w).alloc (Nat.le_refl _) (.cells #[.int .i64 n, .slice A 0 c] 46)).alloc (by simp) (.cells #[.int .i64 n, .slice A2 0 c2] 46))
  have hnn : (n != n) = false := by simp
  go_enter Try.func60, Try.ntmps60
  go_wp2_with fail
  refine (eq_mails0 A A2 c c2 _).mono ?_
  rintro e w2 ⟨rfl, hb⟩
  have HB2 := Lib.hid (HB.out.trans (hb.mono HB.out.size))
  clear hb
  go_wp2
  go_ret
  exact say_b HB2.out
set_option maxHeartbeats 2000000 in
theorem eq_queue0 (n : Int) (A A2 : Option Addr) (c c2 : Nat) (w : World) : Calls Try.prog 21 #[.agg #[.int .i64 n, .slice A 0 c], .agg #[.int .i64 n, .slice A2 0 c2]] w (SayB w true) := by
  have HB := Lib.hid (((Below.refl w.heap.size w).alloc (Nat.le_refl _) (.cells #[.int .i64 n, .slice A 0 c] 28)).alloc (by simp) (.cells #[.int .i64 n, .slice A2 0 c2] 28))
  have hnn : (n != n) = false := by simp
  go_enter Try.func21, Try.ntmps21
  go_wp2_with fail
  refine (eq_items0 A A2 c c2 _).mono ?_
  rintro e w2 ⟨rfl, hb⟩
  have HB2 := Lib.hid (HB.out.trans (hb.mono HB.out.size))
  clear hb
  go_wp2
  go_ret
  exact say_b HB2.out
set_option maxHeartbeats 4000000 in
theorem eq_folder0 (o n : ByteArray) (nx : Int) (A A2 B B2 : Option Addr) (c c2 d d2 : Nat) (w : World) : Calls Try.prog 40 #[.agg #[.string o, .string n, .slice A 0 c, .int .i64 nx, .slice B 0 d], .agg #[.string o, .string n, .slice A2 0 c2, .int .i64 nx, .slice B2 0 d2]] w (SayB w true) := by
  obtain ⟨D, hD⟩ : ∃ D, w.heap.size = D := ⟨_, rfl⟩
  obtain ⟨wq, hwq⟩ : ∃ z, w.alloc (.cells #[.string o, .string n, .slice A 0 c, .int .i64 nx, .slice B 0 d] 48) = z := ⟨_, rfl⟩
  obtain ⟨E, hE⟩ : ∃ D, wq.heap.size = D := ⟨_, rfl⟩
  obtain ⟨w0, hw0⟩ : ∃ z, wq.alloc (.cells #[.string o, .string n, .slice A2 0 c2, .int .i64 nx, .slice B2 0 d2] 48) = z := ⟨_, rfl⟩
  have hbq : Below w.heap.size w wq := by rw [← hwq]; exact (Below.refl _ _).alloc (Nat.le_refl _) _
  have hb0 : Below wq.heap.size wq w0 := by rw [← hw0]; exact (Below.refl _ _).alloc (Nat.le_refl _) _
  have HB := Lib.hid (hbq.trans (hb0.mono hbq.size))
  have hx : Whole wq D 48 #[.string o, .string n, .slice A 0 c, .int .i64 nx, .slice B 0 d] := by rw [← hwq, ← hD]; exact Whole.made w _ _
  have HX := Lib.hid (Whole.below hx hb0 hx.lt)
  have HY := Lib.hid (show Whole w0 E 48 #[.string o, .string n, .slice A2 0 c2, .int .i64 nx, .slice B2 0 d2] by rw [← hw0, ← hE]; exact Whole.made wq _ _)
  have hoo : (o.toList != o.toList) = false := by simp
  have hnn : (n.toList != n.toList) = false := by simp
  clear hbq hb0 hx
  have x0 := HX.out.cell 0
  have x1 := HX.out.cell 1
  have x2 := HX.out.cell 2
  have y0 := HY.out.cell 0
  have y1 := HY.out.cell 1
  have y2 := HY.out.cell 2
  simp only [List.getElem?_toArray, List.getElem?_cons_zero, List.getElem?_cons_succ] at x0 x1 x2 y0 y1 y2
  go_enter Try.func40, Try.ntmps40
  go_wp2_with fail
  refine (eq_grants0 A A2 c c2 w0).mono ?_
  rintro e w2 ⟨rfl, hb⟩
  have HB2 := Lib.hid (HB.out.trans (hb.mono HB.out.size))
  have HX2 := Lib.hid (HX.out.below hb HX.out.lt)
  have HY2 := Lib.hid (HY.out.below hb HY.out.lt)
  clear hb x0 x1 x2 y0 y1 y2
  have x3 := HX2.out.cell 3
  have x4 := HX2.out.cell 4
  have y3 := HY2.out.cell 3
  have y4 := HY2.out.cell 4
  simp only [List.getElem?_toArray, List.getElem?_cons_zero, List.getElem?_cons_succ] at x3 x4 y3 y4
  go_wp2_with fail
  refine (eq_box0 nx B B2 d d2 w2).mono ?_
  rintro e w3 ⟨rfl, hb⟩
  have HB3 := Lib.hid (HB2.out.trans (hb.mono HB2.out.size))
  clear hb
  go_wp2
  go_ret
  exact say_b HB3.out
set_option maxHeartbeats 4000000 in
theorem eq_folders0 {A A2 : Option Addr} {n cap cap2 : Nat} {L M : List FR} (w : World) (h : FIn w A n cap L) (h2 : FIn w A2 n cap2 M) (hk : L.map foK = M.map foK) :
    Calls Try.prog 20 #[.slice A n cap, .slice A2 n cap2] w (SayB w true) := by
  have H := Lib.hid h
  have H2 := Lib.hid h2
  have HK := Lib.hid hk
  have hl := h.2.1
  clear h h2 hk
  have hlb : ((n : Int) != (n : Int)) = false := by simp
  go_enter Try.func20, Try.ntmps20
  go_wp2
  go_loopw [5] (fun i wr => ∃ k : Nat, k ≤ n ∧ i = .int .i64 (k : Int) ∧ Hid (Below w.heap.size w wr)) (fun i _ => n - (intOf i).toNat)
  case atStart => exact ⟨0, Nat.zero_le _, by go_num, Below.refl _ _⟩
  case round =>
    obtain ⟨k, hk, rfl, HB⟩ := hrel
    by_cases hlt : k < n
    · have h0 : (0 : Int) ≤ (k : Int) := by omega
      have h5 : (k : Int) < (n : Int) := by omega
      obtain ⟨x, hx⟩ : ∃ x, L[k]? = some x := ⟨_, List.getElem?_eq_getElem (by rw [H.out.1]; exact hlt)⟩
      obtain ⟨y, hy⟩ : ∃ x, M[k]? = some x := ⟨_, List.getElem?_eq_getElem (by rw [H2.out.1]; exact hlt)⟩
      have hxy : foK x = foK y := by
        have h1 : (L.map foK)[k]? = (M.map foK)[k]? := by rw [HK.out]
        rw [List.getElem?_map, List.getElem?_map, hx, hy] at h1
        exact Option.some.inj h1
      obtain ⟨b, o, rfl, hb, c0, c1, c2, c3, c4⟩ := fo_at (H.out.2.2.1.below HB.out (Nat.le_refl _)) hx
      obtain ⟨b', o', rfl, hb', d0, d1, d2, d3, d4⟩ := fo_at (H2.out.2.2.1.below HB.out (Nat.le_refl _)) hy
      obtain ⟨x0, x1, ⟨x2, x3⟩, x4, ⟨x5, x6⟩⟩ := x
      obtain ⟨y0, y1, ⟨y2, y3⟩, y4, ⟨y5, y6⟩⟩ := y
      simp only [foK, Prod.mk.injEq] at hxy
      obtain ⟨rfl, rfl, rfl⟩ := hxy
      simp only at c0 c1 c2 c3 c4 d0 d1 d2 d3 d4
      have l0 : ∀ x : Later wr.heap.size wr, x.v.cell? ⟨b, o + k * 5, none⟩ = some (.string x0) := fun x => x.cell hb c0
      have l1 : ∀ x : Later wr.heap.size wr, x.v.cell? ⟨b, o + k * 5 + 1, none⟩ = some (.string x1) := fun x => x.cell hb c1
      have l2 : ∀ x : Later wr.heap.size wr, x.v.cell? ⟨b, o + k * 5 + 2, none⟩ = some (.slice x2 0 x3) := fun x => x.cell hb c2
      have l3 : ∀ x : Later wr.heap.size wr, x.v.cell? ⟨b, o + k * 5 + 3, none⟩ = some (.int .i64 x4) := fun x => x.cell hb c3
      have l4 : ∀ x : Later wr.heap.size wr, x.v.cell? ⟨b, o + k * 5 + 4, none⟩ = some (.slice x5 0 x6) := fun x => x.cell hb c4
      have m0 : ∀ x : Later wr.heap.size wr, x.v.cell? ⟨b', o' + k * 5, none⟩ = some (.string x0) := fun x => x.cell hb' d0
      have m1 : ∀ x : Later wr.heap.size wr, x.v.cell? ⟨b', o' + k * 5 + 1, none⟩ = some (.string x1) := fun x => x.cell hb' d1
      have m2 : ∀ x : Later wr.heap.size wr, x.v.cell? ⟨b', o' + k * 5 + 2, none⟩ = some (.slice y2 0 y3) := fun x => x.cell hb' d2
      have m3 : ∀ x : Later wr.heap.size wr, x.v.cell? ⟨b', o' + k * 5 + 3, none⟩ = some (.int .i64 x4) := fun x => x.cell hb' d3
      have m4 : ∀ x : Later wr.heap.size wr, x.v.cell? ⟨b', o' + k * 5 + 4, none⟩ = some (.slice y5 0 y6) := fun x => x.cell hb' d4
      clear hx hy
      go_wp2
      refine wp_region_later wr.heap.size wr (by kernel_rfl) (by kernel_rfl) ?_
      repeat (go_big_quiet_step ((go_at_call 40; refine (eq_folder0 x0 x1 x4 x2 y2 x5 y5 x3 y3 x6 y6 _).mono ?_; rintro e w2 ⟨rfl, hb2⟩; exact ⟨rfl, Later.call _ hb2 (Nat.le_refl _)⟩)))
      refine wpQuiet_nil ?_
      intro _ hw'
      obtain ⟨⟨w9, hb9⟩, rfl⟩ := hw'
      have HB9 := Lib.hid (HB.out.trans (hb9.mono HB.out.size))
      clear hb9
      go_wp2
      go_roundw
      case rel => exact ⟨k + 1, by omega, by go_num, HB9⟩
      case measure => simp [intOf]; omega
    · have h5 : ¬ (k : Int) < (n : Int) := by omega
      go_wp2
      go_ret
      exact ⟨rfl, HB.out⟩
/-- A host as a value. -/
abbrev hoV (d : ByteArray) (U : Option Addr) (nU cU : Nat) (F : Option Addr) (nF cF : Nat) (nx : Int) (I : Option Addr) (cI : Nat) : Value := .agg #[.string d, .slice U nU cU, .slice F nF cF, .int .i64 nx, .slice I 0 cI]
set_option maxHeartbeats 4000000 in
theorem eq_host0 (d : ByteArray) (U U2 F F2 I I2 : Option Addr) (nU cU cU2 nF cF cF2 cI cI2 : Nat) (nx : Int) {Us1 : List Us} {L M : List FR} (w : World) (h1 : UIn w U nU cU Us1) (h2 : UIn w U2 nU cU2 Us1) (h3 : FIn w F nF cF L) (h4 : FIn w F2 nF cF2 M) (hk : L.map foK = M.map foK) :
    Calls Try.prog 8 #[hoV d U nU cU F nF cF nx I cI, hoV d U2 nU cU2 F2 nF cF2 nx I2 cI2] w (SayB w true) := by
  obtain ⟨D, hD⟩ : ∃ D, w.heap.size = D := ⟨_, rfl⟩
  obtain ⟨wq, hwq⟩ : ∃ z, w.alloc (.cells #[.string d, .slice U nU cU, .slice F nF cF, .int .i64 nx, .slice I 0 cI] 30) = z := ⟨_, rfl⟩
  obtain ⟨E, hE⟩ : ∃ D, wq.heap.size = D := ⟨_, rfl⟩
  obtain ⟨w0, hw0⟩ : ∃ z, wq.alloc (.cells #[.string d, .slice U2 nU cU2, .slice F2 nF cF2, .int .i64 nx, .slice I2 0 cI2] 30) = z := ⟨_, rfl⟩
  have hbq : Below w.heap.size w wq := by rw [← hwq]; exact (Below.refl _ _).alloc (Nat.le_refl _) _
  have hb0 : Below wq.heap.size wq w0 := by rw [← hw0]; exact (Below.refl _ _).alloc (Nat.le_refl _) _
  have hbA := hbq.trans (hb0.mono hbq.size)
  have HB := Lib.hid hbA
  have hx : Whole wq D 30 #[.string d, .slice U nU cU, .slice F nF cF, .int .i64 nx, .slice I 0 cI] := by rw [← hwq, ← hD]; exact Whole.made w _ _
  have HX := Lib.hid (Whole.below hx hb0 hx.lt)
  have HY := Lib.hid (show Whole w0 E 30 #[.string d, .slice U2 nU cU2, .slice F2 nF cF2, .int .i64 nx, .slice I2 0 cI2] by rw [← hw0, ← hE]; exact Whole.made wq _ _)
  have H1 := Lib.hid (h1.below hbA (Nat.le_refl _))
  have H2 := Lib.hid (h2.below hbA (Nat.le_refl _))
  have H3 := Lib.hid (h3.below hbA (Nat.le_refl _))
  have H4 := Lib.hid (h4.below hbA (Nat.le_refl _))
  have HK := Lib.hid hk
  have hdd : (d.toList != d.toList) = false := by simp
  clear hbq hb0 hx hbA h1 h2 h3 h4 hk
  have x0 := HX.out.cell 0
  have x1 := HX.out.cell 1
  have y0 := HY.out.cell 0
  have y1 := HY.out.cell 1
  simp only [List.getElem?_toArray, List.getElem?_cons_zero, List.getElem?_cons_succ] at x0 x1 y0 y1
  go_enter Try.func8, Try.ntmps8
  go_wp2_with fail
  refine (eq_users w0 H1.out H2.out).mono ?_
  rintro e w2 ⟨rfl, hb⟩
  have HB2 := Lib.hid (HB.out.trans (hb.mono HB.out.size))
  have HX2 := Lib.hid (HX.out.below hb HX.out.lt)
  have HY2 := Lib.hid (HY.out.below hb HY.out.lt)
  have H32 := Lib.hid (H3.out.below hb (Nat.le_refl _))
  have H42 := Lib.hid (H4.out.below hb (Nat.le_refl _))
  clear hb x0 x1 y0 y1
  have x2 := HX2.out.cell 2
  have y2 := HY2.out.cell 2
  simp only [List.getElem?_toArray, List.getElem?_cons_zero, List.getElem?_cons_succ] at x2 y2
  go_wp2_with fail
  refine (eq_folders0 w2 H32.out H42.out HK.out).mono ?_
  rintro e w3 ⟨rfl, hb⟩
  have HB3 := Lib.hid (HB2.out.trans (hb.mono HB2.out.size))
  have HX3 := Lib.hid (HX2.out.below hb HX2.out.lt)
  have HY3 := Lib.hid (HY2.out.below hb HY2.out.lt)
  clear hb x2 y2
  have x3 := HX3.out.cell 3
  have x4 := HX3.out.cell 4
  have y3 := HY3.out.cell 3
  have y4 := HY3.out.cell 4
  simp only [List.getElem?_toArray, List.getElem?_cons_zero, List.getElem?_cons_succ] at x3 x4 y3 y4
  go_wp2_with fail
  refine (eq_queue0 nx I I2 cI cI2 w3).mono ?_
  rintro e w4 ⟨rfl, hb⟩
  have HB4 := Lib.hid (HB3.out.trans (hb.mono HB3.out.size))
  clear hb
  go_wp2
  go_ret
  exact say_b HB4.out
end Go.Proofs.Ytkhfflbgnojcfaa
namespace Go.Proofs.Ytkhfflbgnojcfaa
open Go.RowKit
set_option linter.unusedVariables false
set_option linter.unusedSimpArgs false

theorem conv_oneE (W : World) (N : Nat) (c : UInt8) (z : Int) (hz : (c.toNat : Int) = z) (h : W.cell? ⟨N, 0, none⟩ = some (.int .u8 z)) :
    (convert 77 9 (.slice (some ⟨N, 0, none⟩) 1 1)).run Try.prog W = .ok (.string ⟨#[c]⟩) W := by
  have := run_convert_bytes_back (P := Try.prog) W 77 9 5 ⟨N, 0, none⟩ 1 [c] Try.underlying77 Try.underlying5 Try.underlying9 (fun j hj => by
    have : j = 0 := by simpa using hj
    subst this
    rw [radd, Nat.zero_add, h, ← hz]
    rfl)
  exact this
theorem dig_natE {d : Nat} (h : d ≤ 9) : ((UInt8.ofNat (48 + d)).toNat : Int) = 48 + (d : Int) := by
  have : (UInt8.ofNat (48 + d)).toNat = 48 + d := by
    rw [UInt8.toNat_ofNat']
    exact Nat.mod_eq_of_lt (by omega)
  omega
/-- A number's digits ahead of a text. -/
def mtGo (k : Nat) (out : List UInt8) : List UInt8 := if h : k = 0 then out else mtGo (k / 10) (UInt8.ofNat (48 + k % 10) :: out)
termination_by k
decreasing_by omega
theorem mtGo_zero (out : List UInt8) : mtGo 0 out = out := by rw [mtGo]; simp
theorem mtGo_step {k : Nat} (h : k ≠ 0) (out : List UInt8) : mtGo k out = mtGo (k / 10) (UInt8.ofNat (48 + k % 10) :: out) := by rw [mtGo]; simp [h]
/-- The text that stands for a mark. -/
def mt (k : Nat) : List UInt8 := 109 :: mtGo k []
set_option maxHeartbeats 2000000 in
theorem mark_text (k : Nat) (w : World) (hk : 0 < k) (hk2 : k ≤ 1000000000) :
    Calls Try.prog 23 #[.int .i64 (k : Int)] w fun e w' => e = .returned (.string (rB (mt k))) ∧ Below w.heap.size w w' := by
  have h0 : ¬ (k : Int) ≤ 0 := by omega
  go_enter Try.func23, Try.ntmps23
  go_wp2
  go_loopw [0, 3] (fun kv ov wr => ∃ (q : Nat) (o : List UInt8) (v : ByteArray), q ≤ k ∧ o.length ≤ 10 ∧ kv = .int .i64 (q : Int) ∧ ov = .string v ∧ Hid (rB o = v) ∧ Hid (q * 10 ^ o.length ≤ k) ∧ Hid (mtGo q o = mtGo k []) ∧ Hid (Below w.heap.size w wr)) (fun kv _ _ => (intOf kv).toNat)
  case atStart => exact ⟨k, [], _, Nat.le_refl _, (by show 0 ≤ 10; omega), rfl, rfl, rfl, (by show k * 10 ^ 0 ≤ k; omega), rfl, Below.refl _ _⟩
  case round =>
    obtain ⟨q, o, v, hq, hol, rfl, rfl, HV, HP, HM, HB⟩ := hrel
    have hlen : 0 < q → o.length ≤ 9 := fun h => by
      have h1 := HP.out
      have h2 : 10 ^ o.length ≤ 10 ^ 9 := by
        have : 1 * 10 ^ o.length ≤ q * 10 ^ o.length := Nat.mul_le_mul_right _ h
        omega
      exact (Nat.pow_le_pow_iff_right (by decide)).1 h2
    have hv9 : 0 < q → v.size ≤ 9 := fun h => by rw [← HV.out, rB_size]; exact hlen h
    by_cases hq0 : 0 < q
    · have h1 : (0 : Int) < (q : Int) := by omega
      have hv := hv9 hq0
      obtain ⟨d, hd⟩ : ∃ d, q % 10 = d := ⟨_, rfl⟩
      obtain ⟨p, hp⟩ : ∃ p, q / 10 = p := ⟨_, rfl⟩
      have hd9 : d ≤ 9 := by omega
      have E1 : (q : Int).tmod 10 = (d : Int) := by rw [Int.tmod_eq_emod_of_nonneg (by omega)]; omega
      have E2 : (q : Int).tdiv 10 = (p : Int) := by rw [Int.tdiv_eq_ediv_of_nonneg (by omega)]; omega
      have E3 : (q : Int) % 10 = (d : Int) := by omega
      have E4 : (q : Int) / 10 = (p : Int) := by omega
      have W1 : IntKind.i64.wrap (d : Int) = (d : Int) := IntWalk.i64_in _ (by omega)
      have W2 : IntKind.i64.wrap (p : Int) = (p : Int) := IntWalk.i64_in _ (by omega)
      have W3 : IntKind.i64.wrap (48 + (d : Int)) = 48 + (d : Int) := IntWalk.i64_in _ (by omega)
      have W4 : IntKind.u8.wrap (48 + (d : Int)) = 48 + (d : Int) := by rw [IntKind.wrap_u8]; omega
      obtain ⟨c, hc⟩ : ∃ c, UInt8.ofNat (48 + d) = c := ⟨_, rfl⟩
      have hcv := fun (W : World) (N : Nat) h => conv_oneE W N c _ (hc ▸ dig_natE hd9) h
      have HSTEP : Hid (mtGo p (c :: o) = mtGo k []) := by
        have h2 := HM.out
        rw [mtGo_step (by omega), hd, hp, hc] at h2
        exact h2
      have HV2 : Hid (rB (c :: o) = (⟨#[c]⟩ : ByteArray) ++ v) := by
        rw [← HV.out, show (⟨#[c]⟩ : ByteArray) = rB [c] from rfl, rB_cat]
        rfl
      have HP2 : Hid (p * 10 ^ (c :: o).length ≤ k) := by
        have h2 := HP.out
        show p * 10 ^ (o.length + 1) ≤ k
        rw [Nat.pow_succ, ← Nat.mul_assoc, Nat.mul_right_comm]
        have h3 : p * 10 * 10 ^ o.length ≤ q * 10 ^ o.length := Nat.mul_le_mul_right _ (by omega)
        omega
      have hpq : p < q := by omega
      have hol1 : (c :: o).length ≤ 10 := by have := hlen hq0; show o.length + 1 ≤ 10; omega
      have HOL := Lib.hid hol1
      clear hlen hv9 hd hp hol1 hol hc
      have HS := Lib.hid HB.out.size
      go_wp2_with fail
      go_roundw
      case rel => exact ⟨p, c :: o, _, by omega, HOL.out, rfl, rfl, HV2, HP2, HSTEP, HB.out.alloc HS.out _⟩
      case measure => simp [intOf]; omega
    · obtain rfl : q = 0 := by omega
      have hend : v.size ≤ 10 := by rw [← HV.out, rB_size]; exact hol
      have HE : Hid (mt k = 109 :: o) := by
        have h2 := HM.out
        rw [mtGo_zero] at h2
        show 109 :: mtGo k [] = _
        rw [← h2]
      clear hlen hv9 hol
      go_wp2_with fail
      go_ret
      refine ⟨?_, HB.out⟩
      rw [HE.out, ← HV.out, show (109 : UInt8) :: o = [109] ++ o from rfl, ← rB_cat]
      rfl
set_option maxHeartbeats 2000000 in
theorem mark_grants0 (z : Int) (A : Option Addr) (c : Nat) (w : World) : Calls Try.prog 42 #[.slice A 0 c, .int .i64 z] w fun e w' => e = .returned (.int .i64 z) ∧ w = w' := by
  have h5 : ¬ (0 : Int) < 0 := by decide
  go_enter Try.func42, Try.ntmps42
  go_wp2
  go_loopw [1, 5] (fun m i wr => m = .int .i64 z ∧ i = .int .i64 0 ∧ wr = w) (fun _ _ _ => 0)
  case atStart => exact ⟨rfl, by go_num, rfl⟩
  case round =>
    obtain ⟨rfl, rfl, rfl⟩ := hrel
    go_wp2
    go_ret
    exact ⟨rfl, rfl⟩
set_option maxHeartbeats 2000000 in
theorem mark_mails0 (z : Int) (A : Option Addr) (c : Nat) (w : World) : Calls Try.prog 43 #[.slice A 0 c, .int .i64 z] w fun e w' => e = .returned (.int .i64 z) ∧ w = w' := by
  have h5 : ¬ (0 : Int) < 0 := by decide
  go_enter Try.func43, Try.ntmps43
  go_wp2
  go_loopw [1, 5] (fun m i wr => m = .int .i64 z ∧ i = .int .i64 0 ∧ wr = w) (fun _ _ _ => 0)
  case atStart => exact ⟨rfl, by go_num, rfl⟩
  case round =>
    obtain ⟨rfl, rfl, rfl⟩ := hrel
    go_wp2
    go_ret
    exact ⟨rfl, rfl⟩
set_option maxHeartbeats 2000000 in
theorem mark_items0 (z : Int) (A : Option Addr) (c : Nat) (w : World) : Calls Try.prog 44 #[.slice A 0 c, .int .i64 z] w fun e w' => e = .returned (.int .i64 z) ∧ w = w' := by
  have h5 : ¬ (0 : Int) < 0 := by decide
  go_enter Try.func44, Try.ntmps44
  go_wp2
  go_loopw [1, 5] (fun m i wr => m = .int .i64 z ∧ i = .int .i64 0 ∧ wr = w) (fun _ _ _ => 0)
  case atStart => exact ⟨rfl, by go_num, rfl⟩
  case round =>
    obtain ⟨rfl, rfl, rfl⟩ := hrel
    go_wp2
    go_ret
    exact ⟨rfl, rfl⟩
set_option maxHeartbeats 2000000 in
theorem held_grants0 (z : Int) (A : Option Addr) (c : Nat) (w : World) : Calls Try.prog 45 #[.slice A 0 c, .int .i64 z] w fun e w' => e = .returned (.int .i64 z) ∧ w = w' := by
  have h5 : ¬ (0 : Int) < 0 := by decide
  go_enter Try.func45, Try.ntmps45
  go_wp2
  go_loopw [1, 5] (fun m i wr => m = .int .i64 z ∧ i = .int .i64 0 ∧ wr = w) (fun _ _ _ => 0)
  case atStart => exact ⟨rfl, by go_num, rfl⟩
  case round =>
    obtain ⟨rfl, rfl, rfl⟩ := hrel
    go_wp2
    go_ret
    exact ⟨rfl, rfl⟩
set_option maxHeartbeats 2000000 in
theorem held_mails0 (z : Int) (A : Option Addr) (c : Nat) (w : World) : Calls Try.prog 46 #[.slice A 0 c, .int .i64 z] w fun e w' => e = .returned (.int .i64 z) ∧ w = w' := by
  have h5 : ¬ (0 : Int) < 0 := by decide
  go_enter Try.func46, Try.ntmps46
  go_wp2
  go_loopw [1, 5] (fun m i wr => m = .int .i64 z ∧ i = .int .i64 0 ∧ wr = w) (fun _ _ _ => 0)
  case atStart => exact ⟨rfl, by go_num, rfl⟩
  case round =>
    obtain ⟨rfl, rfl, rfl⟩ := hrel
    go_wp2
    go_ret
    exact ⟨rfl, rfl⟩
set_option maxHeartbeats 2000000 in
theorem held_items0 (z : Int) (A : Option Addr) (c : Nat) (w : World) : Calls Try.prog 47 #[.slice A 0 c, .int .i64 z] w fun e w' => e = .returned (.int .i64 z) ∧ w = w' := by
  have h5 : ¬ (0 : Int) < 0 := by decide
  go_enter Try.func47, Try.ntmps47
  go_wp2
  go_loopw [1, 5] (fun m i wr => m = .int .i64 z ∧ i = .int .i64 0 ∧ wr = w) (fun _ _ _ => 0)
  case atStart => exact ⟨rfl, by go_num, rfl⟩
  case round =>
    obtain ⟨rfl, rfl, rfl⟩ := hrel
    go_wp2
    go_ret
    exact ⟨rfl, rfl⟩
/-- The marks on users. -/
def mkU (s n : Nat) : List Us := (List.range n).map fun i => (rB (mt (s + 3 * i)), rB (mt (s + 3 * i + 1)), ((s + 3 * i + 2 : Nat) : Int))
theorem mkU_len (s n : Nat) : (mkU s n).length = n := by unfold mkU; simp
theorem mkU_succ (s n : Nat) : mkU s (n + 1) = mkU s n ++ [(rB (mt (s + 3 * n)), rB (mt (s + 3 * n + 1)), ((s + 3 * n + 2 : Nat) : Int))] := by unfold mkU; rw [List.range_succ, List.map_append]; rfl
theorem mkU_at {s n i : Nat} (h : i < n) : (mkU s n)[i]? = some (rB (mt (s + 3 * i)), rB (mt (s + 3 * i + 1)), ((s + 3 * i + 2 : Nat) : Int)) := by unfold mkU; simp [h]
/-- A mailbox that is marked. -/
def mkX (s : Nat) (x : FR) : FR := (rB (mt s), rB (mt (s + 1)), x.2.2.1, ((s + 2 : Nat) : Int), x.2.2.2.2)
def mkF : Nat → List FR → List FR
  | _, [] => []
  | s, x :: L => mkX s x :: mkF (s + 3) L
theorem mkF_len : ∀ (s : Nat) (L : List FR), (mkF s L).length = L.length
  | s, [] => rfl
  | s, x :: L => by rw [mkF, List.length_cons, List.length_cons, mkF_len]
theorem mkF_app : ∀ (s : Nat) (L M : List FR), mkF s (L ++ M) = mkF s L ++ mkF (s + 3 * L.length) M
  | s, [], M => rfl
  | s, x :: L, M => by rw [List.cons_append, mkF, mkF, mkF_app, List.cons_append, List.length_cons, show s + 3 + 3 * L.length = s + 3 * (L.length + 1) by omega]
theorem mkF_one {L : List FR} {k : Nat} {y : FR} (h : L[k]? = some y) (s : Nat) : mkF s (L.take (k + 1)) = mkF s (L.take k) ++ [mkX (s + 3 * k) y] := by
  have hk := (List.getElem?_eq_some_iff.1 h).1
  rw [List.take_add_one, h, mkF_app, List.length_take, show min k L.length = k by omega]
  rfl
theorem mkF_at {L : List FR} {k : Nat} {y : FR} (h : L[k]? = some y) (s : Nat) : (mkF s L)[k]? = some (mkX (s + 3 * k) y) := by
  have hk := (List.getElem?_eq_some_iff.1 h).1
  have h1 : L = L.take (k + 1) ++ L.drop (k + 1) := (List.take_append_drop _ _).symm
  rw [h1, mkF_app, List.getElem?_append_left (by rw [mkF_len, List.length_take]; omega), mkF_one h, List.getElem?_append_right (by rw [mkF_len, List.length_take]; omega), mkF_len, List.length_take, show k - min k L.length = 0 by omega]
  rfl
theorem own_blockN {α : Type} {R : RowT α} {w : World} {B n cap : Nat} {A : Option Addr} {L : List α} (h : ROwn R w B (.slice A n cap) L) (h0 : 0 < n) : ∃ g, A = some ⟨g, 0, none⟩ := by
  have hl := h.len.1
  obtain ⟨A', c, he, _, _, _, _, hne⟩ := h.form
  cases he
  exact hne (by intro e; rw [hl, e] at h0; simp at h0)
theorem gr_belowN {w w' : World} {row : Option Nat} (h : Below w.heap.size w w') : w.grownBy w' row := ⟨h.os, h.tape, h.output, h.size, fun b hb _ => h.block b hb⟩
theorem gr_reflN (w : World) (row : Option Nat) : w.grownBy w row := ⟨rfl, rfl, rfl, Nat.le_refl _, fun _ _ _ => rfl⟩
theorem gr_transN {a b c : World} {row : Option Nat} (h : a.grownBy b row) (k : b.grownBy c row) : a.grownBy c row :=
  ⟨k.os.trans h.os, k.tape.trans h.tape, k.output.trans h.output, Nat.le_trans h.size k.size, fun i hi hne => (k.block i (Nat.lt_of_lt_of_le hi h.size) hne).trans (h.block i hi hne)⟩
set_option maxRecDepth 20000 in
set_option maxHeartbeats 8000000 in
theorem mark_users (s r : Nat) (A : Option Addr) (cap n B : Nat) (P : List Us) (w : World) (hn : P.length = n) (h : ROwn usR w B (.slice A n cap) P) (hl : n ≤ 4000000) (hs : 0 < s) (hs2 : s ≤ 100000000) (hr : s + 3 * n = r) :
    Calls Try.prog 10 #[.slice A n cap, .int .i64 (s : Int)] w fun e w' => e = .returned (.int .i64 (r : Int)) ∧ ROwn usR w' B (.slice A n cap) (mkU s n) ∧ w.grownBy w' (Value.slice A n cap).ownBlock := by
  have HN := Lib.hid hn
  have HO := Lib.hid h
  have HR := Lib.hid hr
  clear h hn hr
  go_enter Try.func10, Try.ntmps10
  go_wp2
  go_loopw [1, 5] (fun m i wr => ∃ k z : Nat, k ≤ n ∧ z = s + 3 * k ∧ m = .int .i64 (z : Int) ∧ i = .int .i64 (k : Int) ∧ Hid (w.grownBy wr (Value.slice A n cap).ownBlock) ∧ Hid (ROwn usR wr B (.slice A n cap) (mkU s k ++ P.drop k))) (fun _ i _ => n - (intOf i).toNat)
  case atStart => exact ⟨0, s, Nat.zero_le _, rfl, by go_num, by go_num, gr_reflN _ _, HO.out⟩
  case round =>
    obtain ⟨k, z, hk, hz, rfl, rfl, HG, HW⟩ := hrel
    have HZ := Lib.hid hz
    by_cases hlt : k < n
    · have h0 : (0 : Int) ≤ (k : Int) := by omega
      have h5 : (k : Int) < (n : Int) := by omega
      have z1 : z ≤ 200000000 := by omega
      have z0 : 0 < z := by omega
      obtain ⟨g, rfl⟩ := own_blockN HW.out (by omega)
      have hkL : k < P.length := by rw [HN.out]; exact hlt
      obtain ⟨x, hx⟩ : ∃ x, P[k]? = some x := ⟨_, List.getElem?_eq_getElem hkL⟩
      have hpl : (mkU s k).length = k := by exact mkU_len s k
      have hC : (mkU s k ++ P.drop k)[k]? = some x := by
        rw [front_some hpl hkL]
        exact hx ▸ (List.getElem?_eq_getElem hkL).symm
      have hkC : k < (mkU s k ++ P.drop k).length := (List.getElem?_eq_some_iff.1 hC).1
      have HEND := Lib.hid (show ∀ y : Us, (mkU s k ++ P.drop k).set k y = mkU s k ++ [y] ++ P.drop (k + 1) from fun y => set_front y hpl hkL)
      have HTK := Lib.hid (mkU_succ s k)
      obtain ⟨C, hCC⟩ : ∃ C, mkU s k ++ P.drop k = C := ⟨_, rfl⟩
      rw [hCC] at hC hkC HEND
      have HW0 := Lib.hid (show ROwn usR wr B (.slice (some ⟨g, 0, none⟩) n cap) C from hCC ▸ HW.out)
      obtain ⟨x0, x1, x2⟩ := x
      obtain ⟨q1, hq1⟩ : ∃ q, z + 1 = q := ⟨_, rfl⟩
      obtain ⟨q2, hq2⟩ : ∃ q, z + 2 = q := ⟨_, rfl⟩
      obtain ⟨q3, hq3⟩ : ∃ q, z + 3 = q := ⟨_, rfl⟩
      have E1 : (z : Int) + 1 = (q1 : Int) := by omega
      have E2 : (q1 : Int) + 1 = (q2 : Int) := by omega
      have E3 : (q2 : Int) + 1 = (q3 : Int) := by omega
      have HQ0 : Hid (0 < z ∧ z ≤ 1000000000) := Lib.hid (by omega)
      have HQ1 : Hid (0 < q1 ∧ q1 ≤ 1000000000) := Lib.hid (by omega)
      have HQZ : Hid (q1 = z + 1 ∧ q2 = z + 2 ∧ q3 = z + 3) := Lib.hid (by omega)
      have hq1b : q1 ≤ 200000001 := by omega
      have hq2b : q2 ≤ 200000002 := by omega
      have hq3b : q3 ≤ 200000003 := by omega
      obtain ⟨v0, hv0⟩ : ∃ v, rB (mt z) = v := ⟨_, rfl⟩
      obtain ⟨v1, hv1⟩ : ∃ v, rB (mt q1) = v := ⟨_, rfl⟩
      have HV0 := Lib.hid hv0
      have HV1 := Lib.hid hv1
      have HC := Lib.hid hC
      have HKC := Lib.hid hkC
      clear hx hpl hkL hCC hC hkC hv0 hv1 hz hq1 hq2 hq3
      go_wp2_with fail
      refine (mark_text z wr HQ0.out.1 HQ0.out.2).mono ?_
      rintro e w1 ⟨rfl, hb⟩
      have hO1 := HW0.out.kept hb
      have G1 := Lib.hid (gr_transN HG.out (gr_belowN (row := (Value.slice (some ⟨g, 0, none⟩) n cap).ownBlock) hb))
      have d0 := hO1.cell HC.out (j := 0) rfl
      have f0 := hO1.free (k * 3)
      have hA := hO1.stored (y := (v0, x1, x2)) (j := 0) (u := .string v0) HC.out (by decide) rfl
      simp only [usR, Nat.add_zero] at d0 hA
      obtain ⟨wa, hwa⟩ : ∃ wa, w1.setCell ⟨g, k * 3, none⟩ (.string v0) = wa := ⟨_, rfl⟩
      rw [hwa] at hA
      have HA := Lib.hid hA.1
      have GA := Lib.hid (gr_transN G1.out hA.2)
      have HWA := Lib.hid hwa
      have HCA : Hid ((C.set k (v0, x1, x2))[k]? = some (v0, x1, x2)) := Lib.hid (List.getElem?_set_self HKC.out)
      rw [HV0.out]
      clear hb hO1 hA hwa
      go_wp2_with fail
      rw [HWA.out]
      refine (mark_text q1 wa HQ1.out.1 HQ1.out.2).mono ?_
      rintro e w2 ⟨rfl, hb⟩
      have hO2 := HA.out.kept hb
      have G2 := Lib.hid (gr_transN GA.out (gr_belowN (row := (Value.slice (some ⟨g, 0, none⟩) n cap).ownBlock) hb))
      have d1 := hO2.cell HCA.out (j := 1) rfl
      have f1 := hO2.free (k * 3 + 1)
      have hB := hO2.stored (y := (v0, v1, x2)) (j := 1) (u := .string v1) HCA.out (by decide) rfl
      rw [List.set_set] at hB
      have d2 := hO2.cell HCA.out (j := 2) rfl
      have f2 := hO2.free (k * 3 + 2)
      have hD := hB.1.stored (y := (v0, v1, (q2 : Int))) (j := 2) (u := .int .i64 (q2 : Int)) (List.getElem?_set_self HKC.out) (by decide) rfl
      rw [List.set_set, HEND.out] at hD
      simp only [usR] at d1 d2 hB hD
      have HD := Lib.hid (show ROwn usR ((w2.setCell ⟨g, k * 3 + 1, none⟩ (.string v1)).setCell ⟨g, k * 3 + 2, none⟩ (.int .i64 (q2 : Int))) B (.slice (some ⟨g, 0, none⟩) n cap) (mkU s (k + 1) ++ P.drop (k + 1)) by
        rw [HTK.out, ← HZ.out, HV0.out, ← HQZ.out.1, HV1.out, show ((z + 2 : Nat) : Int) = (q2 : Int) by rw [HQZ.out.2.1]]
        exact hD.1)
      have GD := Lib.hid (gr_transN (gr_transN G2.out hB.2) hD.2)
      rw [HV1.out]
      clear hb hO2 hB hD d0 f0
      go_wp2
      go_roundw
      case rel => exact ⟨k + 1, q3, by omega, by have := HZ.out; have := HQZ.out; omega, by go_num, by go_num, GD, HD⟩
      case measure => simp [intOf]; omega
    · have h5 : ¬ (k : Int) < (n : Int) := by omega
      have hkn : k = n := by omega
      have ho := HW.out
      rw [hkn, List.drop_of_length_le (by rw [HN.out]; exact Nat.le_refl _), List.append_nil] at ho
      have HOE := Lib.hid ho
      have HZ2 := Lib.hid (show r = z by have := HR.out; omega)
      clear ho hkn hz
      go_wp2
      go_ret
      refine ⟨?_, HOE.out, HG.out⟩
      rw [HZ2.out]
      rfl
set_option maxRecDepth 20000 in
set_option maxHeartbeats 8000000 in
theorem held_users (s r : Nat) (A : Option Addr) (cap n : Nat) (w : World) (h : RAt usR w A (mkU s n)) (hl : n ≤ 4000000) (hs : 0 < s) (hs2 : s ≤ 100000000) (hr : s + 3 * n = r) :
    Calls Try.prog 26 #[.slice A n cap, .int .i64 (s : Int)] w fun e w' => e = .returned (.int .i64 (r : Int)) ∧ Below w.heap.size w w' := by
  have H := Lib.hid h
  have HR := Lib.hid hr
  clear h hr
  go_enter Try.func26, Try.ntmps26
  go_wp2
  go_loopw [1, 5] (fun m i wr => ∃ k z : Nat, k ≤ n ∧ z = s + 3 * k ∧ m = .int .i64 (z : Int) ∧ i = .int .i64 (k : Int) ∧ Hid (Below w.heap.size w wr)) (fun _ i _ => n - (intOf i).toNat)
  case atStart => exact ⟨0, s, Nat.zero_le _, rfl, by go_num, by go_num, Below.refl _ _⟩
  case round =>
    obtain ⟨k, z, hk, hz, rfl, rfl, HB⟩ := hrel
    have HZ := Lib.hid hz
    by_cases hlt : k < n
    · have h0 : (0 : Int) ≤ (k : Int) := by omega
      have h5 : (k : Int) < (n : Int) := by omega
      have z1 : z ≤ 200000000 := by omega
      have z0 : 0 < z := by omega
      obtain ⟨q1, hq1⟩ : ∃ q, z + 1 = q := ⟨_, rfl⟩
      obtain ⟨q2, hq2⟩ : ∃ q, z + 2 = q := ⟨_, rfl⟩
      obtain ⟨q3, hq3⟩ : ∃ q, z + 3 = q := ⟨_, rfl⟩
      have hx := mkU_at (s := s) hlt
      rw [← hz, hq1, hq2] at hx
      obtain ⟨b, o, rfl, hbz, x0, x1, x2⟩ := user_at (H.out.below HB.out (Nat.le_refl _)) hx
      have E1 : (z : Int) + 1 = (q1 : Int) := by omega
      have E2 : (q1 : Int) + 1 = (q2 : Int) := by omega
      have E3 : (q2 : Int) + 1 = (q3 : Int) := by omega
      have HQ0 : Hid (0 < z ∧ z ≤ 1000000000) := Lib.hid (by omega)
      have HQ1 : Hid (0 < q1 ∧ q1 ≤ 1000000000) := Lib.hid (by omega)
      have HQZ : Hid (q1 = z + 1 ∧ q2 = z + 2 ∧ q3 = z + 3) := Lib.hid (by omega)
      have hq1b : q1 ≤ 200000001 := by omega
      have hq2b : q2 ≤ 200000002 := by omega
      have hq3b : q3 ≤ 200000003 := by omega
      obtain ⟨v0, hv0⟩ : ∃ v, rB (mt z) = v := ⟨_, rfl⟩
      obtain ⟨v1, hv1⟩ : ∃ v, rB (mt q1) = v := ⟨_, rfl⟩
      rw [hv0] at x0
      rw [hv1] at x1
      have HV0 := Lib.hid hv0
      have HV1 := Lib.hid hv1
      have hne2 : ((q2 : Int) != (q2 : Int)) = false := by simp
      have q20 : ¬ (q2 : Int) < 0 := by omega
      have q30 : ¬ (q3 : Int) < 0 := by omega
      have HX1 := Lib.hid x1
      have HX2 := Lib.hid x2
      have HBD : Hid (Below w.heap.size w wr.drew) := HB.out.drew
      have HSZ := Lib.hid HBD.out.size
      clear hx hz hv0 hv1 hq1 hq2 hq3 x1 x2 
      go_wp2
      go_region_held3 (fun w' => w'.cell? ⟨b, o + k * 3, none⟩ = some (.string v0)) (first | exact x0 | go_keep)
        ((go_at_call 23; refine (mark_text z wr.drew HQ0.out.1 HQ0.out.2).mono ?_; rw [HV0.out]; rintro e w2 ⟨rfl, hb2⟩; have HBW := Lib.hid (show Below wr.heap.size wr w2 from (Below.refl wr.heap.size wr).drew.trans hb2); have c0' := (HBW.out.cell (p := ⟨b, o + k * 3, none⟩) hbz).trans x0; clear hb2))
      all_goals
        have HB2 := Lib.hid (show Below w.heap.size w w2 from HB.out.trans (HBW.out.mono HB.out.size))
        have hbz2 : b < w2.heap.size := Nat.lt_of_lt_of_le hbz HBW.out.size
        have x1 := (HBW.out.cell (p := ⟨b, o + k * 3 + 1, none⟩) hbz).trans HX1.out
        have HY2 := Lib.hid ((HBW.out.cell (p := ⟨b, o + k * 3 + 2, none⟩) hbz).trans HX2.out)
        clear c0'
        go_wp2
        go_region_held3 (fun w' => w'.cell? ⟨b, o + k * 3 + 1, none⟩ = some (.string v1)) (first | exact x1 | go_keep)
          ((go_at_call 23; refine (mark_text q1 w2.drew HQ1.out.1 HQ1.out.2).mono ?_; rw [HV1.out]; rintro e w4 ⟨rfl, hb4⟩; have HBV := Lib.hid (show Below w2.heap.size w2 w4 from (Below.refl w2.heap.size w2).drew.trans hb4); have c1' := (HBV.out.cell (p := ⟨b, o + k * 3 + 1, none⟩) hbz2).trans x1; clear hb4))
        all_goals
          have HB4 := Lib.hid (show Below w.heap.size w w4 from HB2.out.trans (HBV.out.mono HB2.out.size))
          have x2 := (HBV.out.cell (p := ⟨b, o + k * 3 + 2, none⟩) hbz2).trans HY2.out
          clear c1' x1
          go_wp2
          go_roundw
          case rel => exact ⟨k + 1, q3, by omega, by have := HZ.out; have := HQZ.out; omega, by go_num, by go_num, HB4⟩
          case measure => simp [intOf]; omega
    · have h5 : ¬ (k : Int) < (n : Int) := by omega
      have HZ2 := Lib.hid (show r = z by have := HR.out; omega)
      clear hz
      go_wp2
      go_ret
      refine ⟨?_, HB.out⟩
      rw [HZ2.out]
      rfl
set_option maxRecDepth 20000 in
set_option maxHeartbeats 8000000 in
theorem mark_folders0 (s r : Nat) (A : Option Addr) (cap n B : Nat) (P : List FR) (w : World) (hn : P.length = n) (h : ROwn foR w B (.slice A n cap) P) (hl : n ≤ 4000000) (hs : 0 < s) (hs2 : s ≤ 100000000) (hr : s + 3 * n = r) :
    Calls Try.prog 24 #[.slice A n cap, .int .i64 (s : Int)] w fun e w' => e = .returned (.int .i64 (r : Int)) ∧ ROwn foR w' B (.slice A n cap) (mkF s P) ∧ w.grownBy w' (Value.slice A n cap).ownBlock := by
  have HN := Lib.hid hn
  have HO := Lib.hid h
  have HR := Lib.hid hr
  clear h hn hr
  go_enter Try.func24, Try.ntmps24
  go_wp2
  go_loopw [1, 5] (fun m i wr => ∃ k z : Nat, k ≤ n ∧ z = s + 3 * k ∧ m = .int .i64 (z : Int) ∧ i = .int .i64 (k : Int) ∧ Hid (w.grownBy wr (Value.slice A n cap).ownBlock) ∧ Hid (ROwn foR wr B (.slice A n cap) (mkF s (P.take k) ++ P.drop k))) (fun _ i _ => n - (intOf i).toNat)
  case atStart => exact ⟨0, s, Nat.zero_le _, rfl, by go_num, by go_num, gr_reflN _ _, HO.out⟩
  case round =>
    obtain ⟨k, z, hk, hz, rfl, rfl, HG, HW⟩ := hrel
    have HZ := Lib.hid hz
    by_cases hlt : k < n
    · have h0 : (0 : Int) ≤ (k : Int) := by omega
      have h5 : (k : Int) < (n : Int) := by omega
      have z1 : z ≤ 200000000 := by omega
      have z0 : 0 < z := by omega
      obtain ⟨g, rfl⟩ := own_blockN HW.out (by omega)
      have hkL : k < P.length := by rw [HN.out]; exact hlt
      obtain ⟨x, hx⟩ : ∃ x, P[k]? = some x := ⟨_, List.getElem?_eq_getElem hkL⟩
      have hpl : (mkF s (P.take k)).length = k := by rw [mkF_len, List.length_take]; omega
      have hC : (mkF s (P.take k) ++ P.drop k)[k]? = some x := by
        rw [front_some hpl hkL]
        exact hx ▸ (List.getElem?_eq_getElem hkL).symm
      have hkC : k < (mkF s (P.take k) ++ P.drop k).length := (List.getElem?_eq_some_iff.1 hC).1
      have HEND := Lib.hid (show ∀ y : FR, (mkF s (P.take k) ++ P.drop k).set k y = mkF s (P.take k) ++ [y] ++ P.drop (k + 1) from fun y => set_front y hpl hkL)
      have HTK := Lib.hid (mkF_one hx s)
      obtain ⟨C, hCC⟩ : ∃ C, mkF s (P.take k) ++ P.drop k = C := ⟨_, rfl⟩
      rw [hCC] at hC hkC HEND
      have HW0 := Lib.hid (show ROwn foR wr B (.slice (some ⟨g, 0, none⟩) n cap) C from hCC ▸ HW.out)
      obtain ⟨x0, x1, ⟨x2, x3⟩, x4, ⟨x5, x6⟩⟩ := x
      obtain ⟨q1, hq1⟩ : ∃ q, z + 1 = q := ⟨_, rfl⟩
      obtain ⟨q2, hq2⟩ : ∃ q, z + 2 = q := ⟨_, rfl⟩
      obtain ⟨q3, hq3⟩ : ∃ q, z + 3 = q := ⟨_, rfl⟩
      have E1 : (z : Int) + 1 = (q1 : Int) := by omega
      have E2 : (q1 : Int) + 1 = (q2 : Int) := by omega
      have E3 : (q2 : Int) + 1 = (q3 : Int) := by omega
      have HQ0 : Hid (0 < z ∧ z ≤ 1000000000) := Lib.hid (by omega)
      have HQ1 : Hid (0 < q1 ∧ q1 ≤ 1000000000) := Lib.hid (by omega)
      have HQZ : Hid (q1 = z + 1 ∧ q2 = z + 2 ∧ q3 = z + 3) := Lib.hid (by omega)
      have hq1b : q1 ≤ 200000001 := by omega
      have hq2b : q2 ≤ 200000002 := by omega
      have hq3b : q3 ≤ 200000003 := by omega
      obtain ⟨v0, hv0⟩ : ∃ v, rB (mt z) = v := ⟨_, rfl⟩
      obtain ⟨v1, hv1⟩ : ∃ v, rB (mt q1) = v := ⟨_, rfl⟩
      have HV0 := Lib.hid hv0
      have HV1 := Lib.hid hv1
      have HC := Lib.hid hC
      have HKC := Lib.hid hkC
      clear hx hpl hkL hCC hC hkC hv0 hv1 hz hq1 hq2 hq3
      go_wp2_with fail
      refine (mark_text z wr HQ0.out.1 HQ0.out.2).mono ?_
      rintro e w1 ⟨rfl, hb⟩
      have hO1 := HW0.out.kept hb
      have G1 := Lib.hid (gr_transN HG.out (gr_belowN (row := (Value.slice (some ⟨g, 0, none⟩) n cap).ownBlock) hb))
      have d0 := hO1.cell HC.out (j := 0) rfl
      have f0 := hO1.free (k * 5)
      have hA := hO1.stored (y := (v0, x1, (x2, x3), x4, (x5, x6))) (j := 0) (u := .string v0) HC.out (by decide) rfl
      simp only [foR, Nat.add_zero] at d0 hA
      obtain ⟨wa, hwa⟩ : ∃ wa, w1.setCell ⟨g, k * 5, none⟩ (.string v0) = wa := ⟨_, rfl⟩
      rw [hwa] at hA
      have HA := Lib.hid hA.1
      have GA := Lib.hid (gr_transN G1.out hA.2)
      have HWA := Lib.hid hwa
      have HCA : Hid ((C.set k (v0, x1, (x2, x3), x4, (x5, x6)))[k]? = some (v0, x1, (x2, x3), x4, (x5, x6))) := Lib.hid (List.getElem?_set_self HKC.out)
      rw [HV0.out]
      clear hb hO1 hA hwa
      go_wp2_with fail
      rw [HWA.out]
      refine (mark_text q1 wa HQ1.out.1 HQ1.out.2).mono ?_
      rintro e w2 ⟨rfl, hb⟩
      have hO2 := HA.out.kept hb
      have G2 := Lib.hid (gr_transN GA.out (gr_belowN (row := (Value.slice (some ⟨g, 0, none⟩) n cap).ownBlock) hb))
      have d1 := hO2.cell HCA.out (j := 1) rfl
      have f1 := hO2.free (k * 5 + 1)
      have hB := hO2.stored (y := (v0, v1, (x2, x3), x4, (x5, x6))) (j := 1) (u := .string v1) HCA.out (by decide) rfl
      rw [List.set_set] at hB
      simp only [foR] at d1 hB
      obtain ⟨wb, hwb⟩ : ∃ wb, w2.setCell ⟨g, k * 5 + 1, none⟩ (.string v1) = wb := ⟨_, rfl⟩
      rw [hwb] at hB
      have HBB := Lib.hid hB.1
      have GB := Lib.hid (gr_transN G2.out hB.2)
      have HWB := Lib.hid hwb
      have HCB : Hid ((C.set k (v0, v1, (x2, x3), x4, (x5, x6)))[k]? = some (v0, v1, (x2, x3), x4, (x5, x6))) := Lib.hid (List.getElem?_set_self HKC.out)
      have d2 := HBB.out.cell HCB.out (j := 2) rfl
      simp only [foR] at d2
      rw [HV1.out]
      clear hb hO2 hB d0 f0
      go_wp2_with fail
      try rw [HWB.out]
      refine (mark_grants0 (q2 : Int) x2 x3 wb).mono ?_
      rintro e w3 ⟨rfl, rfl⟩
      have d3 := HBB.out.cell HCB.out (j := 3) rfl
      have f3 := HBB.out.free (k * 5 + 3)
      have hD := HBB.out.stored (y := (v0, v1, (x2, x3), (q2 : Int), (x5, x6))) (j := 3) (u := .int .i64 (q2 : Int)) HCB.out (by decide) rfl
      rw [List.set_set] at hD
      simp only [foR] at d3 hD
      obtain ⟨wc, hwc⟩ : ∃ wc, wb.setCell ⟨g, k * 5 + 3, none⟩ (.int .i64 (q2 : Int)) = wc := ⟨_, rfl⟩
      rw [hwc] at hD
      have d4 : wc.cell? ⟨g, k * 5 + 3 + 1, none⟩ = some (.slice x5 0 x6) := (show ROwn foR wc B (.slice (some ⟨g, 0, none⟩) n cap) (C.set k (v0, v1, (x2, x3), (q2 : Int), (x5, x6))) from hD.1).cell (List.getElem?_set_self HKC.out) (j := 4) rfl
      rw [HEND.out] at hD
      have HD := Lib.hid (show ROwn foR wc B (.slice (some ⟨g, 0, none⟩) n cap) (mkF s (P.take (k + 1)) ++ P.drop (k + 1)) by
        rw [HTK.out, ← HZ.out, mkX, HV0.out, ← HQZ.out.1, HV1.out, show ((z + 2 : Nat) : Int) = (q2 : Int) by rw [HQZ.out.2.1]]
        exact hD.1)
      have GD := Lib.hid (gr_transN GB.out hD.2)
      have HWC := Lib.hid hwc
      clear d1 f1 d2 hwb hD
      go_wp2_with fail
      try rw [HWC.out]
      refine (mark_mails0 (q3 : Int) x5 x6 wc).mono ?_
      rintro e w4 ⟨rfl, rfl⟩
      clear d3 f3 d4 hwc
      go_wp2
      go_roundw
      case rel => exact ⟨k + 1, q3, by omega, by have := HZ.out; have := HQZ.out; omega, by go_num, by go_num, GD, HD⟩
      case measure => simp [intOf]; omega
    · have h5 : ¬ (k : Int) < (n : Int) := by omega
      have hkn : k = n := by omega
      have ho := HW.out
      rw [hkn, List.drop_of_length_le (by rw [HN.out]; exact Nat.le_refl _), List.append_nil, List.take_of_length_le (by rw [HN.out]; exact Nat.le_refl _)] at ho
      have HOE := Lib.hid ho
      have HZ2 := Lib.hid (show r = z by have := HR.out; omega)
      clear ho hkn hz
      go_wp2
      go_ret
      refine ⟨?_, HOE.out, HG.out⟩
      rw [HZ2.out]
      rfl
set_option maxRecDepth 20000 in
set_option maxHeartbeats 8000000 in
theorem held_folders0 (s r : Nat) (A : Option Addr) (cap n : Nat) (w : World) (P : List FR) (hn : P.length = n) (h : RAt foR w A (mkF s P)) (hl : n ≤ 4000000) (hs : 0 < s) (hs2 : s ≤ 100000000) (hr : s + 3 * n = r) :
    Calls Try.prog 27 #[.slice A n cap, .int .i64 (s : Int)] w fun e w' => e = .returned (.int .i64 (r : Int)) ∧ Below w.heap.size w w' := by
  have H := Lib.hid h
  have HR := Lib.hid hr
  have HN := Lib.hid hn
  clear h hr
  go_enter Try.func27, Try.ntmps27
  go_wp2
  go_loopw [1, 5] (fun m i wr => ∃ k z : Nat, k ≤ n ∧ z = s + 3 * k ∧ m = .int .i64 (z : Int) ∧ i = .int .i64 (k : Int) ∧ Hid (Below w.heap.size w wr)) (fun _ i _ => n - (intOf i).toNat)
  case atStart => exact ⟨0, s, Nat.zero_le _, rfl, by go_num, by go_num, Below.refl _ _⟩
  case round =>
    obtain ⟨k, z, hk, hz, rfl, rfl, HB⟩ := hrel
    have HZ := Lib.hid hz
    by_cases hlt : k < n
    · have h0 : (0 : Int) ≤ (k : Int) := by omega
      have h5 : (k : Int) < (n : Int) := by omega
      have z1 : z ≤ 200000000 := by omega
      have z0 : 0 < z := by omega
      obtain ⟨q1, hq1⟩ : ∃ q, z + 1 = q := ⟨_, rfl⟩
      obtain ⟨q2, hq2⟩ : ∃ q, z + 2 = q := ⟨_, rfl⟩
      obtain ⟨q3, hq3⟩ : ∃ q, z + 3 = q := ⟨_, rfl⟩
      obtain ⟨y, hy⟩ : ∃ y, P[k]? = some y := ⟨_, List.getElem?_eq_getElem (by rw [HN.out]; exact hlt)⟩
      have hx := mkF_at hy s
      rw [← hz, mkX, hq1, hq2] at hx
      obtain ⟨b, o, rfl, hbz, x0, x1, x2, x3, x4⟩ := fo_at (H.out.below HB.out (Nat.le_refl _)) hx
      simp only at x0 x1 x2 x3 x4
      have HX3 := Lib.hid x3
      have HX4 := Lib.hid x4
      have E1 : (z : Int) + 1 = (q1 : Int) := by omega
      have E2 : (q1 : Int) + 1 = (q2 : Int) := by omega
      have E3 : (q2 : Int) + 1 = (q3 : Int) := by omega
      have HQ0 : Hid (0 < z ∧ z ≤ 1000000000) := Lib.hid (by omega)
      have HQ1 : Hid (0 < q1 ∧ q1 ≤ 1000000000) := Lib.hid (by omega)
      have HQZ : Hid (q1 = z + 1 ∧ q2 = z + 2 ∧ q3 = z + 3) := Lib.hid (by omega)
      have hq1b : q1 ≤ 200000001 := by omega
      have hq2b : q2 ≤ 200000002 := by omega
      have hq3b : q3 ≤ 200000003 := by omega
      obtain ⟨v0, hv0⟩ : ∃ v, rB (mt z) = v := ⟨_, rfl⟩
      obtain ⟨v1, hv1⟩ : ∃ v, rB (mt q1) = v := ⟨_, rfl⟩
      rw [hv0] at x0
      rw [hv1] at x1
      have HV0 := Lib.hid hv0
      have HV1 := Lib.hid hv1
      have hne2 : ((q2 : Int) != (q2 : Int)) = false := by simp
      have q20 : ¬ (q2 : Int) < 0 := by omega
      have q30 : ¬ (q3 : Int) < 0 := by omega
      have HX1 := Lib.hid x1
      have HX2 := Lib.hid x2
      have HBD : Hid (Below w.heap.size w wr.drew) := HB.out.drew
      have HSZ := Lib.hid HBD.out.size
      clear hx hz hv0 hv1 hq1 hq2 hq3 x1 x2 hy x3 x4
      go_wp2
      go_region_held3 (fun w' => w'.cell? ⟨b, o + k * 5, none⟩ = some (.string v0)) (first | exact x0 | go_keep)
        ((go_at_call 23; refine (mark_text z wr.drew HQ0.out.1 HQ0.out.2).mono ?_; rw [HV0.out]; rintro e w2 ⟨rfl, hb2⟩; have HBW := Lib.hid (show Below wr.heap.size wr w2 from (Below.refl wr.heap.size wr).drew.trans hb2); have c0' := (HBW.out.cell (p := ⟨b, o + k * 5, none⟩) hbz).trans x0; clear hb2))
      all_goals
        have HB2 := Lib.hid (show Below w.heap.size w w2 from HB.out.trans (HBW.out.mono HB.out.size))
        have hbz2 : b < w2.heap.size := Nat.lt_of_lt_of_le hbz HBW.out.size
        have x1 := (HBW.out.cell (p := ⟨b, o + k * 5 + 1, none⟩) hbz).trans HX1.out
        have HY2 := Lib.hid ((HBW.out.cell (p := ⟨b, o + k * 5 + 2, none⟩) hbz).trans HX2.out)
        have HY3 := Lib.hid ((HBW.out.cell (p := ⟨b, o + k * 5 + 3, none⟩) hbz).trans HX3.out)
        have HY4 := Lib.hid ((HBW.out.cell (p := ⟨b, o + k * 5 + 4, none⟩) hbz).trans HX4.out)
        clear c0'
        go_wp2
        go_region_held3 (fun w' => w'.cell? ⟨b, o + k * 5 + 1, none⟩ = some (.string v1)) (first | exact x1 | go_keep)
          ((go_at_call 23; refine (mark_text q1 w2.drew HQ1.out.1 HQ1.out.2).mono ?_; rw [HV1.out]; rintro e w4 ⟨rfl, hb4⟩; have HBV := Lib.hid (show Below w2.heap.size w2 w4 from (Below.refl w2.heap.size w2).drew.trans hb4); have c1' := (HBV.out.cell (p := ⟨b, o + k * 5 + 1, none⟩) hbz2).trans x1; clear hb4))
        all_goals
          have HB4 := Lib.hid (show Below w.heap.size w w4 from HB2.out.trans (HBV.out.mono HB2.out.size))
          have x2 := (HBV.out.cell (p := ⟨b, o + k * 5 + 2, none⟩) hbz2).trans HY2.out
          have x3 := (HBV.out.cell (p := ⟨b, o + k * 5 + 3, none⟩) hbz2).trans HY3.out
          have x4 := (HBV.out.cell (p := ⟨b, o + k * 5 + 4, none⟩) hbz2).trans HY4.out
          clear c1' x1
          go_wp2_with fail
          refine (held_grants0 (q2 : Int) _ _ w4).mono ?_
          rintro e w5 ⟨rfl, rfl⟩
          go_wp2_with fail
          refine (held_mails0 (q3 : Int) _ _ w4).mono ?_
          rintro e w6 ⟨rfl, rfl⟩
          go_wp2
          go_roundw
          case rel => exact ⟨k + 1, q3, by omega, by have := HZ.out; have := HQZ.out; omega, by go_num, by go_num, HB4⟩
          case measure => simp [intOf]; omega
    · have h5 : ¬ (k : Int) < (n : Int) := by omega
      have HZ2 := Lib.hid (show r = z by have := HR.out; omega)
      clear hz
      go_wp2
      go_ret
      refine ⟨?_, HB.out⟩
      rw [HZ2.out]
      rfl
end Go.Proofs.Ytkhfflbgnojcfaa
namespace Go.Proofs.Ytkhfflbgnojcfaa
open Go.RowKit
set_option linter.unusedVariables false
set_option linter.unusedSimpArgs false

/-- What is written lies in some blocks alone: step by step. -/
inductive Writ (S : Nat → Prop) : World → World → Prop
  | refl (w : World) : Writ S w w
  | step {w w1 w2 : World} {row : Option Nat} (h : w.grownBy w1 row) (hr : ∀ g, row = some g → S g) (h2 : Writ S w1 w2) : Writ S w w2
section
variable {S S' : Nat → Prop} {w w' w2 : World}
theorem Writ.trans (h : Writ S w w') (h2 : Writ S w' w2) : Writ S w w2 := by
  induction h with
  | refl _ => exact h2
  | step hg hr _ ih => exact .step hg hr (ih h2)
theorem Writ.one {row : Option Nat} (h : w.grownBy w' row) (hr : ∀ g, row = some g → S g) : Writ S w w' := .step h hr (.refl _)
theorem Writ.mono (h : Writ S w w') (hs : ∀ g, S g → S' g) : Writ S' w w' := by
  induction h with
  | refl _ => exact .refl _
  | step hg hr _ ih => exact .step hg (fun g e => hs g (hr g e)) ih
theorem Writ.under {w0 : World} {B : Nat} (h : Writ S w w') (hb : Below B w0 w) (hB : B ≤ w.heap.size) (hs : ∀ g, S g → B ≤ g) : Below B w0 w' := by
  induction h with
  | refl _ => exact hb
  | step hg hr _ ih => exact ih (hb.grown hg hB (fun k e => hs k (hr k e))) (Nat.le_trans hB hg.size)
theorem Writ.size (h : Writ S w w') : w.heap.size ≤ w'.heap.size := by
  induction h with
  | refl _ => exact Nat.le_refl _
  | step hg _ _ ih => exact Nat.le_trans hg.size ih
theorem Whole.writ {b : Nat} {t : TypeId} {cs : Array Value} (h : Whole w b t cs) (hc : Writ S w w') (hs : ¬ S b) : Whole w' b t cs := by
  induction hc with
  | refl _ => exact h
  | step hg hr _ ih => exact ih (h.grown hg (fun e => hs (hr b e.symm)))
theorem ROwn.writ {α : Type} {R : RowT α} {B : Nat} {v : Value} {K : List α} (h : ROwn R w B v K) (hc : Writ S w w') (hs : ∀ g, v.ownBlock = some g → ¬ S g) : ROwn R w' B v K := by
  induction hc with
  | refl _ => exact h
  | step hg hr _ ih =>
    refine ih (h.apart hg ?_)
    cases hv : v.ownBlock with
    | none => exact .inl rfl
    | some g => exact .inr (fun e => hs g hv (hr g e.symm))
end
set_option maxHeartbeats 2000000 in
theorem mark_queue0 (z n : Int) (A : Option Addr) (c : Nat) (w : World) (hz : 0 ≤ z) : Calls Try.prog 25 #[.agg #[.int .i64 n, .slice A 0 c], .int .i64 z] w fun e w' => e = .returned (.int .i64 z) ∧ Below w.heap.size w w' := by
  have HB := Lib.hid ((Below.refl w.heap.size w).alloc (Nat.le_refl _) (.cells #[.int .i64 n, .slice A 0 c] 28))
  have hz0 : ¬ z < 0 := by omega
  go_enter Try.func25, Try.ntmps25
  go_wp2_with fail
  refine (mark_items0 z A c _).mono ?_
  rintro e w2 ⟨rfl, rfl⟩
  go_wp2
  go_ret
  exact ⟨rfl, HB.out⟩
set_option maxHeartbeats 2000000 in
theorem held_queue0 (z n : Int) (A : Option Addr) (c : Nat) (w : World) (hz : 0 ≤ z) : Calls Try.prog 28 #[.agg #[.int .i64 n, .slice A 0 c], .int .i64 z] w fun e w' => e = .returned (.int .i64 z) ∧ Below w.heap.size w w' := by
  have HB := Lib.hid ((Below.refl w.heap.size w).alloc (Nat.le_refl _) (.cells #[.int .i64 n, .slice A 0 c] 28))
  have hz0 : ¬ z < 0 := by omega
  go_enter Try.func28, Try.ntmps28
  go_wp2_with fail
  refine (held_items0 z A c _).mono ?_
  rintro e w2 ⟨rfl, rfl⟩
  go_wp2
  go_ret
  exact ⟨rfl, HB.out⟩

/-- The blocks of a new host's lists. -/
def hoB (U : Option Addr) (nU cU : Nat) (F : Option Addr) (nF cF : Nat) : Nat → Prop := fun b => (Value.slice U nU cU).ownBlock = some b ∨ (Value.slice F nF cF).ownBlock = some b
set_option maxRecDepth 20000 in
set_option maxHeartbeats 4000000 in
theorem mark_host0 (s r : Nat) (d : ByteArray) (U F I : Option Addr) (nU cU nF cF cI B : Nat) (nx : Int) (L : List Us) (M : List FR) (w : World) (h1 : ROwn usR w B (.slice U nU cU) L) (h2 : ROwn foR w B (.slice F nF cF) M)
    (hap : ∀ b, (Value.slice U nU cU).ownBlock = some b → (Value.slice F nF cF).ownBlock ≠ some b) (hl1 : nU ≤ 1000000) (hl2 : nF ≤ 1000000) (hs : 0 < s) (hs2 : s ≤ 1000000) (hr : s + 3 * nU + 3 * nF = r) :
    Calls Try.prog 11 #[hoV d U nU cU F nF cF nx I cI, .int .i64 (s : Int)] w fun e w' => e = .returned (.int .i64 (r : Int)) ∧ ROwn usR w' B (.slice U nU cU) (mkU s nU) ∧ ROwn foR w' B (.slice F nF cF) (mkF (s + 3 * nU) M) ∧ Writ (hoB U nU cU F nF cF) w w' := by
  obtain ⟨q, hq⟩ : ∃ q, s + 3 * nU = q := ⟨_, rfl⟩
  obtain ⟨D, hD⟩ : ∃ D, w.heap.size = D := ⟨_, rfl⟩
  obtain ⟨w0, hw0⟩ : ∃ z, w.alloc (.cells #[.string d, .slice U nU cU, .slice F nF cF, .int .i64 nx, .slice I 0 cI] 30) = z := ⟨_, rfl⟩
  have hb0 : Below w.heap.size w w0 := by rw [← hw0]; exact (Below.refl _ _).alloc (Nat.le_refl _) _
  have HX := Lib.hid (show Whole w0 D 30 #[.string d, .slice U nU cU, .slice F nF cF, .int .i64 nx, .slice I 0 cI] by rw [← hw0, ← hD]; exact Whole.made w _ _)
  have H1 := Lib.hid (h1.kept hb0)
  have H2 := Lib.hid (h2.kept hb0)
  have HAP := Lib.hid hap
  have hn1 : D ≠ D → False := fun h => h rfl
  have HU1 := Lib.hid (show ∀ b, (Value.slice U nU cU).ownBlock = some b → b ≠ D from fun b e e2 => by have := (World.ownsRow.lt h1 b e).2; omega)
  have HU2 := Lib.hid (show ∀ b, (Value.slice F nF cF).ownBlock = some b → b ≠ D from fun b e e2 => by have := (World.ownsRow.lt h2 b e).2; omega)
  have C0 : Hid (Writ (hoB U nU cU F nF cF) w w0) := Lib.hid (Writ.one (gr_belowN (row := none) hb0) (fun _ e => by cases e))
  have HL1 := Lib.hid h1.len.1.symm
  have HL2 := Lib.hid h2.len.1.symm
  have HQ := Lib.hid hq
  have HR := Lib.hid hr
  have hqq : q + 3 * nF = r := by omega
  have HQQ := Lib.hid hqq
  have hqb : q ≤ 100000000 := by omega
  have hq0 : 0 < q := by omega
  have hr0 : (0 : Int) ≤ (r : Int) := by omega
  rw [hq]
  clear h1 h2 hap hb0 hq hr hqq hn1
  have x1 := HX.out.cell 1
  simp only [List.getElem?_toArray, List.getElem?_cons_zero, List.getElem?_cons_succ] at x1
  go_enter Try.func11, Try.ntmps11
  go_wp2_with fail
  refine (mark_users s q U cU nU B L w0 HL1.out H1.out (by omega) hs (by omega) HQ.out).mono ?_
  rintro e w1 ⟨rfl, ho, hg⟩
  have hwr : Writ (fun b => (Value.slice U nU cU).ownBlock = some b) w0 w1 := Writ.one hg (fun b e => e)
  have HX1 := Lib.hid (HX.out.writ hwr (fun e => HU1.out D e rfl))
  have H11 := Lib.hid ho
  have H21 := Lib.hid (H2.out.writ hwr (fun b e h => HAP.out b h e))
  have C1 : Hid (Writ (hoB U nU cU F nF cF) w w1) := Lib.hid (C0.out.trans (hwr.mono (fun b h => .inl h)))
  clear ho hg hwr x1
  have x2 := HX1.out.cell 2
  simp only [List.getElem?_toArray, List.getElem?_cons_zero, List.getElem?_cons_succ] at x2
  go_wp2_with fail
  refine (mark_folders0 q r F cF nF B M w1 HL2.out H21.out (by omega) hq0 hqb HQQ.out).mono ?_
  rintro e w2 ⟨rfl, ho, hg⟩
  have hwr : Writ (fun b => (Value.slice F nF cF).ownBlock = some b) w1 w2 := Writ.one hg (fun b e => e)
  have HX2 := Lib.hid (HX1.out.writ hwr (fun e => HU2.out D e rfl))
  have H12 := Lib.hid (H11.out.writ hwr (fun b e h => HAP.out b e h))
  have H22 := Lib.hid ho
  have C2 : Hid (Writ (hoB U nU cU F nF cF) w w2) := Lib.hid (C1.out.trans (hwr.mono (fun b h => .inr h)))
  clear ho hg hwr x2
  have x3 := HX2.out.cell 3
  have x4 := HX2.out.cell 4
  simp only [List.getElem?_toArray, List.getElem?_cons_zero, List.getElem?_cons_succ] at x3 x4
  go_wp2_with fail
  refine (mark_queue0 (r : Int) nx I cI w2 hr0).mono ?_
  rintro e w3 ⟨rfl, hb⟩
  have H13 := Lib.hid (H12.out.kept hb)
  have H23 := Lib.hid (H22.out.kept hb)
  have C3 : Hid (Writ (hoB U nU cU F nF cF) w w3) := Lib.hid (C2.out.trans (Writ.one (gr_belowN (row := none) hb) (fun _ e => by cases e)))
  clear hb
  go_wp2
  go_ret
  exact ⟨rfl, H13.out, H23.out, C3.out⟩
set_option maxRecDepth 20000 in
set_option maxHeartbeats 4000000 in
theorem held_host0 (s r : Nat) (d : ByteArray) (U F I : Option Addr) (nU cU nF cF cI : Nat) (nx : Int) (M : List FR) (w : World) (h1 : RAt usR w U (mkU s nU)) (h2 : RAt foR w F (mkF (s + 3 * nU) M)) (hn : M.length = nF) (hl1 : nU ≤ 1000000) (hl2 : nF ≤ 1000000) (hs : 0 < s) (hs2 : s ≤ 1000000) (hr : s + 3 * nU + 3 * nF = r) :
    Calls Try.prog 12 #[hoV d U nU cU F nF cF nx I cI, .int .i64 (s : Int)] w fun e w' => e = .returned (.int .i64 (r : Int)) ∧ Below w.heap.size w w' := by
  obtain ⟨q, hq⟩ : ∃ q, s + 3 * nU = q := ⟨_, rfl⟩
  obtain ⟨D, hD⟩ : ∃ D, w.heap.size = D := ⟨_, rfl⟩
  obtain ⟨w0, hw0⟩ : ∃ z, w.alloc (.cells #[.string d, .slice U nU cU, .slice F nF cF, .int .i64 nx, .slice I 0 cI] 30) = z := ⟨_, rfl⟩
  have hb0 : Below w.heap.size w w0 := by rw [← hw0]; exact (Below.refl _ _).alloc (Nat.le_refl _) _
  have HB := Lib.hid hb0
  have HX := Lib.hid (show Whole w0 D 30 #[.string d, .slice U nU cU, .slice F nF cF, .int .i64 nx, .slice I 0 cI] by rw [← hw0, ← hD]; exact Whole.made w _ _)
  rw [hq] at h2
  have H1 := Lib.hid (h1.below hb0 (Nat.le_refl _))
  have H2 := Lib.hid (h2.below hb0 (Nat.le_refl _))
  have HQ := Lib.hid hq
  have hqq : q + 3 * nF = r := by omega
  have HQQ := Lib.hid hqq
  have HN := Lib.hid hn
  have hqb : q ≤ 100000000 := by omega
  have hq0 : 0 < q := by omega
  have hqf : ¬ (q : Int) < 0 := by omega
  have hr0 : (0 : Int) ≤ (r : Int) := by omega
  have hrf : ¬ (r : Int) < 0 := by omega
  clear h1 h2 hb0 hq hr hqq hn
  have x1 := HX.out.cell 1
  simp only [List.getElem?_toArray, List.getElem?_cons_zero, List.getElem?_cons_succ] at x1
  go_enter Try.func12, Try.ntmps12
  go_wp2_with fail
  refine (held_users s q U cU nU w0 H1.out (by omega) hs (by omega) HQ.out).mono ?_
  rintro e w1 ⟨rfl, hb⟩
  have HB1 := Lib.hid (HB.out.trans (hb.mono HB.out.size))
  have HX1 := Lib.hid (HX.out.below hb HX.out.lt)
  have H21 := Lib.hid (H2.out.below hb (Nat.le_refl _))
  clear hb x1
  have x2 := HX1.out.cell 2
  simp only [List.getElem?_toArray, List.getElem?_cons_zero, List.getElem?_cons_succ] at x2
  go_wp2_with fail
  refine (held_folders0 q r F cF nF w1 M HN.out H21.out (by omega) hq0 hqb HQQ.out).mono ?_
  rintro e w2 ⟨rfl, hb⟩
  have HB2 := Lib.hid (HB1.out.trans (hb.mono HB1.out.size))
  have HX2 := Lib.hid (HX1.out.below hb HX1.out.lt)
  clear hb x2
  have x3 := HX2.out.cell 3
  have x4 := HX2.out.cell 4
  simp only [List.getElem?_toArray, List.getElem?_cons_zero, List.getElem?_cons_succ] at x3 x4
  go_wp2_with fail
  refine (held_queue0 (r : Int) nx I cI w2 hr0).mono ?_
  rintro e w3 ⟨rfl, hb⟩
  have HB3 := Lib.hid (HB2.out.trans (hb.mono HB2.out.size))
  clear hb
  go_wp2
  go_ret
  exact ⟨rfl, HB3.out⟩
end Go.Proofs.Ytkhfflbgnojcfaa
namespace Go.Proofs.Ytkhfflbgnojcfaa
open Go.RowKit
set_option linter.unusedVariables false
set_option linter.unusedSimpArgs false

set_option maxHeartbeats 2000000 in
theorem l11size0 (n : Int) (A : Option Addr) (c : Nat) (w : World) : Calls Try.prog 55 #[.agg #[.int .i64 n, .slice A 0 c]] w fun e w' => e = .returned (.int .i64 0) ∧ Below w.heap.size w w' := by
  have h5 : ¬ (0 : Int) < 0 := by decide
  obtain ⟨D, hD⟩ : ∃ D, w.heap.size = D := ⟨_, rfl⟩
  obtain ⟨w0, hw0⟩ : ∃ z, w.alloc (.cells #[.int .i64 n, .slice A 0 c] 46) = z := ⟨_, rfl⟩
  have hbw0 : Below w.heap.size w w0 := by rw [← hw0]; exact (Below.refl _ _).alloc (Nat.le_refl _) _
  have HX := Lib.hid (show Whole w0 D 46 #[.int .i64 n, .slice A 0 c] by rw [← hw0, ← hD]; exact Whole.made w _ _)
  have HB := Lib.hid hbw0
  clear hbw0
  have x1 := HX.out.cell 1
  simp only [List.getElem?_toArray, List.getElem?_cons_zero, List.getElem?_cons_succ] at x1
  go_enter Try.func55, Try.ntmps55
  go_wp2
  go_loopw [3, 4] (fun m i wr => m = .int .i64 0 ∧ i = .int .i64 0 ∧ wr = w0) (fun _ _ _ => 0)
  case atStart => exact ⟨by go_num, by go_num, by first | rfl | assumption⟩
  case round =>
    obtain ⟨rfl, rfl, rfl⟩ := hrel
    go_wp2
    go_ret
    exact ⟨rfl, HB.out⟩
set_option maxHeartbeats 2000000 in
theorem acl0 (A : Option Addr) (c : Nat) (w : World) : Calls Try.prog 52 #[.slice A 0 c] w (SayB w true) := by
  have h5 : ¬ (0 : Int) < 0 := by decide
  have h6 : (0 : Int) ≤ 4 := by decide
  go_enter Try.func52, Try.ntmps52
  go_wp2
  go_loopw [3] (fun i wr => i = .int .i64 0 ∧ wr = w) (fun _ _ => 0)
  case atStart => exact ⟨by go_num, rfl⟩
  case round =>
    obtain ⟨rfl, rfl⟩ := hrel
    go_wp2
    go_ret
    exact ⟨rfl, Below.refl _ _⟩
set_option maxHeartbeats 2000000 in
theorem box0 (A : Option Addr) (c : Nat) (w : World) : Calls Try.prog 53 #[.agg #[.int .i64 1, .slice A 0 c]] w (SayB w true) := by
  have h5 : ¬ (0 : Int) < 0 := by decide
  have h6 : (0 : Int) ≤ 10 := by decide
  have W1 : IntKind.i64.wrap (0 + 1) = 1 := by decide
  obtain ⟨D, hD⟩ : ∃ D, w.heap.size = D := ⟨_, rfl⟩
  obtain ⟨w0, hw0⟩ : ∃ z, w.alloc (.cells #[.int .i64 1, .slice A 0 c] 46) = z := ⟨_, rfl⟩
  have hbw0 : Below w.heap.size w w0 := by rw [← hw0]; exact (Below.refl _ _).alloc (Nat.le_refl _) _
  have HX := Lib.hid (show Whole w0 D 46 #[.int .i64 1, .slice A 0 c] by rw [← hw0, ← hD]; exact Whole.made w _ _)
  have HB := Lib.hid hbw0
  clear hbw0
  have x0 := HX.out.cell 0
  have x1 := HX.out.cell 1
  simp only [List.getElem?_toArray, List.getElem?_cons_zero, List.getElem?_cons_succ] at x0 x1
  go_enter Try.func53, Try.ntmps53
  go_wp2
  go_loopw [3, 4] (fun m i wr => m = .int .i64 0 ∧ i = .int .i64 0 ∧ wr = w0) (fun _ _ _ => 0)
  case atStart => exact ⟨by go_num, by go_num, by first | rfl | assumption⟩
  case round =>
    obtain ⟨rfl, rfl, rfl⟩ := hrel
    go_wp2_with fail
    refine (sin_at (r := 1) (a := 1) (b := 100) (z := true) (by decide) _).mono ?_
    rintro e w2 ⟨rfl, rfl⟩
    go_wp2
    go_ret
    exact ⟨rfl, HB.out⟩
set_option maxHeartbeats 2000000 in
theorem queue0 (A : Option Addr) (c : Nat) (w : World) : Calls Try.prog 31 #[.agg #[.int .i64 1, .slice A 0 c]] w (SayB w true) := by
  have h5 : ¬ (0 : Int) < 0 := by decide
  have h6 : (0 : Int) ≤ 6 := by decide
  have W1 : IntKind.i64.wrap (0 + 1) = 1 := by decide
  obtain ⟨D, hD⟩ : ∃ D, w.heap.size = D := ⟨_, rfl⟩
  obtain ⟨w0, hw0⟩ : ∃ z, w.alloc (.cells #[.int .i64 1, .slice A 0 c] 28) = z := ⟨_, rfl⟩
  have hbw0 : Below w.heap.size w w0 := by rw [← hw0]; exact (Below.refl _ _).alloc (Nat.le_refl _) _
  have HX := Lib.hid (show Whole w0 D 28 #[.int .i64 1, .slice A 0 c] by rw [← hw0, ← hD]; exact Whole.made w _ _)
  have HB := Lib.hid hbw0
  clear hbw0
  have x0 := HX.out.cell 0
  have x1 := HX.out.cell 1
  simp only [List.getElem?_toArray, List.getElem?_cons_zero, List.getElem?_cons_succ] at x0 x1
  go_enter Try.func31, Try.ntmps31
  go_wp2
  go_loopw [3, 4] (fun m i wr => m = .int .i64 0 ∧ i = .int .i64 0 ∧ wr = w0) (fun _ _ _ => 0)
  case atStart => exact ⟨by go_num, by go_num, by first | rfl | assumption⟩
  case round =>
    obtain ⟨rfl, rfl, rfl⟩ := hrel
    go_wp2_with fail
    refine (sin_at (r := 1) (a := 1) (b := 100) (z := true) (by decide) _).mono ?_
    rintro e w2 ⟨rfl, rfl⟩
    go_wp2
    go_ret
    exact ⟨rfl, HB.out⟩
set_option maxHeartbeats 2000000 in
theorem less0 (x0 x1 y0 y1 : ByteArray) (x2 x5 y2 y5 : Option Addr) (x3 x6 y3 y6 : Nat) (x4 y4 : Int) (w : World) (h : ltG x0 y0 = true) : Calls Try.prog 54 #[.agg #[.string x0, .string x1, .slice x2 0 x3, .int .i64 x4, .slice x5 0 x6], .agg #[.string y0, .string y1, .slice y2 0 y3, .int .i64 y4, .slice y5 0 y6]] w (SayB w true) := by
  have hl := lessW h
  obtain ⟨D, hD⟩ : ∃ D, w.heap.size = D := ⟨_, rfl⟩
  obtain ⟨wq, hwq⟩ : ∃ z, w.alloc (.cells #[.string x0, .string x1, .slice x2 0 x3, .int .i64 x4, .slice x5 0 x6] 48) = z := ⟨_, rfl⟩
  have hbwq : Below w.heap.size w wq := by rw [← hwq]; exact (Below.refl _ _).alloc (Nat.le_refl _) _
  have HX0 := Lib.hid (show Whole wq D 48 #[.string x0, .string x1, .slice x2 0 x3, .int .i64 x4, .slice x5 0 x6] by rw [← hwq, ← hD]; exact Whole.made w _ _)
  obtain ⟨E, hE⟩ : ∃ D, wq.heap.size = D := ⟨_, rfl⟩
  obtain ⟨w0, hw0⟩ : ∃ z, wq.alloc (.cells #[.string y0, .string y1, .slice y2 0 y3, .int .i64 y4, .slice y5 0 y6] 48) = z := ⟨_, rfl⟩
  have hbw0 : Below wq.heap.size wq w0 := by rw [← hw0]; exact (Below.refl _ _).alloc (Nat.le_refl _) _
  have HY := Lib.hid (show Whole w0 E 48 #[.string y0, .string y1, .slice y2 0 y3, .int .i64 y4, .slice y5 0 y6] by rw [← hw0, ← hE]; exact Whole.made wq _ _)
  have HB := Lib.hid (hbwq.trans (hbw0.mono hbwq.size))
  have HX := Lib.hid (Whole.below HX0.out hbw0 HX0.out.lt)
  clear hbwq hbw0 h
  have u0 := HX.out.cell 0
  simp only [List.getElem?_toArray, List.getElem?_cons_zero, List.getElem?_cons_succ] at u0
  have v0 := HY.out.cell 0
  simp only [List.getElem?_toArray, List.getElem?_cons_zero, List.getElem?_cons_succ] at v0
  go_enter Try.func54, Try.ntmps54
  go_wp2
  go_ret
  exact ⟨rfl, HB.out⟩
set_option maxRecDepth 20000 in
set_option maxHeartbeats 4000000 in
theorem find0 (d : ByteArray) (U F I : Option Addr) (nU cU nF cF cI : Nat) (nx : Int) (o m : ByteArray) {M : List FR} {k0 : Nat} {x : FR} (w : World) (h : FIn w F nF cF M) (hx : M[k0]? = some x) (ho : x.1 = o) (hm : x.2.1 = m) :
    Calls Try.prog 33 #[hoV d U nU cU F nF cF nx I cI, .string o, .string m] w fun e w' => (∃ j : Nat, e = .returned (.int .i64 (j : Int))) ∧ Below w.heap.size w w' := by
  obtain ⟨D, hD⟩ : ∃ D, w.heap.size = D := ⟨_, rfl⟩
  obtain ⟨w0, hw0⟩ : ∃ z, w.alloc (.cells #[.string d, .slice U nU cU, .slice F nF cF, .int .i64 nx, .slice I 0 cI] 30) = z := ⟨_, rfl⟩
  have hbw0 : Below w.heap.size w w0 := by rw [← hw0]; exact (Below.refl _ _).alloc (Nat.le_refl _) _
  have HX := Lib.hid (show Whole w0 D 30 #[.string d, .slice U nU cU, .slice F nF cF, .int .i64 nx, .slice I 0 cI] by rw [← hw0, ← hD]; exact Whole.made w _ _)
  have HB := Lib.hid hbw0
  have HF := Lib.hid (h.below hbw0 (Nat.le_refl _))
  have HM := Lib.hid hx
  have hk0 : k0 < nF := by rw [← h.1]; exact (List.getElem?_eq_some_iff.1 hx).1
  have hn := h.2.1
  have HOM : Hid (x.1 = o ∧ x.2.1 = m) := Lib.hid ⟨ho, hm⟩
  have hoo : (o.toList == o.toList) = true := by simp
  have hmm : (m.toList == m.toList) = true := by simp
  clear hbw0 h hx ho hm
  have x2 := HX.out.cell 2
  simp only [List.getElem?_toArray, List.getElem?_cons_zero, List.getElem?_cons_succ] at x2
  go_enter Try.func33, Try.ntmps33
  go_wp2
  go_loopw [7] (fun i wr => ∃ k : Nat, k ≤ k0 ∧ i = .int .i64 (k : Int) ∧ wr = w0) (fun i _ => k0 - (intOf i).toNat)
  case atStart => exact ⟨0, Nat.zero_le _, by go_num, by first | rfl | assumption⟩
  case round =>
    obtain ⟨k, hk, rfl, rfl⟩ := hrel
    have h0 : (0 : Int) ≤ (k : Int) := by omega
    have h5 : (k : Int) < (nF : Int) := by omega
    obtain ⟨y, hy⟩ : ∃ y, M[k]? = some y := ⟨_, List.getElem?_eq_getElem (by rw [HF.out.1]; omega)⟩
    obtain ⟨b, of, rfl, hbz, c0, c1, c2, c3, c4⟩ := fo_at HF.out.2.2.1 hy
    by_cases e1 : y.1 = o
    · by_cases e2 : y.2.1 = m
      · rw [e1] at c0
        rw [e2] at c1
        clear hy
        go_wp2
        go_ret
        exact ⟨⟨k, rfl⟩, HB.out⟩
      · obtain ⟨hne, hne'⟩ := ne_walk e2
        have hlt : k < k0 := by
          rcases Nat.lt_or_ge k k0 with h | h
          · exact h
          · have hkk : k = k0 := by omega
            rw [hkk, HM.out] at hy
            cases hy
            exact absurd HOM.out.2 e2
        rw [e1] at c0
        obtain ⟨t1, ht1⟩ : ∃ t, y.2.1 = t := ⟨_, rfl⟩
        rw [ht1] at c1 hne hne'
        clear hy e2
        go_wp2
        go_roundw
        case rel => exact ⟨k + 1, by omega, by go_num, trivial⟩
        case measure => simp [intOf]; omega
    · obtain ⟨hne, hne'⟩ := ne_walk e1
      have hlt : k < k0 := by
        rcases Nat.lt_or_ge k k0 with h | h
        · exact h
        · have hkk : k = k0 := by omega
          rw [hkk, HM.out] at hy
          cases hy
          exact absurd HOM.out.1 e1
      obtain ⟨t0, ht0⟩ : ∃ t, y.1 = t := ⟨_, rfl⟩
      rw [ht0] at c0 hne hne'
      clear hy e1
      go_wp2
      go_roundw
      case rel => exact ⟨k + 1, by omega, by go_num, trivial⟩
      case measure => simp [intOf]; omega
set_option maxRecDepth 20000 in
set_option maxHeartbeats 4000000 in
theorem used0 (d : ByteArray) (U F I : Option Addr) (nU cU nF cF cI : Nat) (nx : Int) (o : ByteArray) {M : List FR} (w : World) (h : FIn w F nF cF M) :
    Calls Try.prog 34 #[hoV d U nU cU F nF cF nx I cI, .string o] w fun e w' => e = .returned (.int .i64 0) ∧ Below w.heap.size w w' := by
  obtain ⟨D, hD⟩ : ∃ D, w.heap.size = D := ⟨_, rfl⟩
  obtain ⟨w0, hw0⟩ : ∃ z, w.alloc (.cells #[.string d, .slice U nU cU, .slice F nF cF, .int .i64 nx, .slice I 0 cI] 30) = z := ⟨_, rfl⟩
  have hbw0 : Below w.heap.size w w0 := by rw [← hw0]; exact (Below.refl _ _).alloc (Nat.le_refl _) _
  have HX := Lib.hid (show Whole w0 D 30 #[.string d, .slice U nU cU, .slice F nF cF, .int .i64 nx, .slice I 0 cI] by rw [← hw0, ← hD]; exact Whole.made w _ _)
  have HB := Lib.hid hbw0
  have HF := Lib.hid (h.below hbw0 (Nat.le_refl _))
  have hn := h.2.1
  have hoo : (o.toList == o.toList) = true := by simp
  have W0 : IntKind.i64.wrap (0 + 0) = 0 := by decide
  have HW0 := Lib.hid hw0
  have HDD := Lib.hid hD
  clear hbw0 h
  go_enter Try.func34, Try.ntmps34
  go_wp2
  go_loopw [5, 6] (fun m i wr => ∃ k : Nat, k ≤ nF ∧ m = .int .i64 0 ∧ i = .int .i64 (k : Int) ∧ Hid (Below w0.heap.size w0 wr)) (fun _ i _ => nF - (intOf i).toNat)
  case atStart => exact ⟨0, Nat.zero_le _, by go_num, by go_num, Lib.hid (Below.refl _ _)⟩
  case round =>
    obtain ⟨k, hk, rfl, rfl, HR⟩ := hrel
    have HXr := Lib.hid (HX.out.below HR.out HX.out.lt)
    have x2 := HXr.out.cell 2
    simp only [List.getElem?_toArray, List.getElem?_cons_zero, List.getElem?_cons_succ] at x2
    by_cases hlt : k < nF
    · have h0 : (0 : Int) ≤ (k : Int) := by omega
      have h5 : (k : Int) < (nF : Int) := by omega
      obtain ⟨y, hy⟩ : ∃ y, M[k]? = some y := ⟨_, List.getElem?_eq_getElem (by rw [HF.out.1]; exact hlt)⟩
      obtain ⟨b, of, rfl, hbz, c0, c1, c2, c3, c4⟩ := fo_at (HF.out.2.2.1.below HR.out (Nat.le_refl _)) hy
      obtain ⟨y0, y1, ⟨y2, y3⟩, y4, ⟨y5, y6⟩⟩ := y
      simp only at c0 c1 c2 c3 c4
      clear hy
      by_cases e1 : y0 = o
      · subst e1
        go_wp2_with fail
        refine (l11size0 y4 y5 y6 wr).mono ?_
        rintro e w2 ⟨rfl, hb⟩
        have HR2 := Lib.hid (HR.out.trans (hb.mono HR.out.size))
        clear hb
        go_wp2
        go_roundw
        case rel => exact ⟨k + 1, by omega, by go_num, by go_num, HR2⟩
        case measure => simp [intOf]; omega
      · obtain ⟨hne, hne'⟩ := ne_walk e1
        clear e1
        go_wp2
        go_roundw
        case rel => exact ⟨k + 1, by omega, by go_num, by go_num, HR⟩
        case measure => simp [intOf]; omega
    · have h5 : ¬ (k : Int) < (nF : Int) := by omega
      go_wp2
      go_ret
      refine ⟨rfl, ?_⟩
      try rw [← HDD.out]
      exact HB.out.trans (HR.out.mono HB.out.size)
end Go.Proofs.Ytkhfflbgnojcfaa
namespace Go.Proofs.Ytkhfflbgnojcfaa
open Go.RowKit
set_option linter.unusedVariables false
set_option linter.unusedSimpArgs false

/-- The name of the inbox. -/
def inbB : ByteArray := ⟨#[105, 110, 98, 111, 120]⟩
theorem inb_name : nameB (kb inbB) = true := by decide
/-- What counts of a user's inbox. -/
def inbK (u : Us) : ByteArray × ByteArray × Int := (u.1, inbB, 1)
theorem inb_at {L : List Us} {M : List FR} {k : Nat} {x : FR} (hk : M.map foK = L.map inbK) (hx : M[k]? = some x) : ∃ u, L[k]? = some u ∧ x.1 = u.1 ∧ x.2.1 = inbB ∧ x.2.2.2.1 = 1 := by
  have h1 : (M.map foK)[k]? = (L.map inbK)[k]? := by rw [hk]
  rw [List.getElem?_map, List.getElem?_map, hx] at h1
  cases hu : L[k]? with
  | none => rw [hu] at h1; cases h1
  | some u =>
    rw [hu] at h1
    have h2 := Option.some.inj h1
    simp only [foK, inbK, Prod.mk.injEq] at h2
    exact ⟨u, rfl, h2.1, h2.2.1, h2.2.2⟩
theorem asc_next {L : List Us} (h : ascU L) {j : Nat} {p u : Us} (hp : L[j]? = some p) (hu : L[j + 1]? = some u) : ltG p.1 u.1 = true := by
  obtain ⟨h1, rfl⟩ := List.getElem?_eq_some_iff.1 hp
  obtain ⟨h2, rfl⟩ := List.getElem?_eq_some_iff.1 hu
  exact List.pairwise_iff_getElem.1 h j (j + 1) h1 h2 (Nat.lt_succ_self j)
theorem ix_user {L : List Us} (h : ascU L) {u : Us} (hu : u ∈ L) : ∃ j : Nat, ixG L u.1 0 = (j : Int) := by
  have h1 := fU_mem h hu
  rcases ixG_case L u.1 0 with ⟨h2, _⟩ | ⟨j, v, _, _, h3⟩
  · rw [h1] at h2; cases h2
  · exact ⟨j, by rw [h3, Nat.zero_add]⟩
set_option maxRecDepth 20000 in
set_option maxHeartbeats 16000000 in
theorem folders0 (d : ByteArray) (U F I : Option Addr) (nU cU nF cF cI : Nat) (nx : Int) {L : List Us} {M : List FR} (w : World) (hu : UIn w U nU cU L) (h : FIn w F nF cF M) (hk : M.map foK = L.map inbK) (hv : vU L = true) :
    Calls Try.prog 32 #[hoV d U nU cU F nF cF nx I cI] w (SayB w true) := by
  obtain ⟨⟨hv1, hv2⟩, hv3, hv4⟩ := vU_iff.1 hv
  have hlen : nF ≤ 4 := by
    have h1 := congrArg List.length hk
    rw [List.length_map, List.length_map] at h1
    have := h.1
    omega
  have hle : (nF : Int) ≤ 8 := by omega
  have HK := Lib.hid hk
  have HASC := Lib.hid hv4
  have hin : inbB.size ≤ 16777216 := by decide
  have HIN := Lib.hid inb_name
  obtain ⟨D, hD⟩ : ∃ D, w.heap.size = D := ⟨_, rfl⟩
  obtain ⟨w0, hw0⟩ : ∃ z, w.alloc (.cells #[.string d, .slice U nU cU, .slice F nF cF, .int .i64 nx, .slice I 0 cI] 30) = z := ⟨_, rfl⟩
  have hbw0 : Below w.heap.size w w0 := by rw [← hw0]; exact (Below.refl _ _).alloc (Nat.le_refl _) _
  have HX := Lib.hid (show Whole w0 D 30 #[.string d, .slice U nU cU, .slice F nF cF, .int .i64 nx, .slice I 0 cI] by rw [← hw0, ← hD]; exact Whole.made w _ _)
  have HB := Lib.hid hbw0
  have HU := Lib.hid (hu.below hbw0 (Nat.le_refl _))
  have HF := Lib.hid (h.below hbw0 (Nat.le_refl _))
  have HDD := Lib.hid hD
  clear hbw0 hu h hk hv hv1 hv2 hv3 hv4
  go_enter Try.func32, Try.ntmps32
  go_wp2
  go_loopw [3] (fun i wr => ∃ k : Nat, k ≤ nF ∧ i = .int .i64 (k : Int) ∧ Hid (Below w0.heap.size w0 wr)) (fun i _ => nF - (intOf i).toNat)
  case atStart => exact ⟨0, Nat.zero_le _, by go_num, Lib.hid (Below.refl _ _)⟩
  case round =>
    obtain ⟨k, hk, rfl, HR⟩ := hrel
    have HXr := Lib.hid (HX.out.below HR.out HX.out.lt)
    have z2 := HXr.out.cell 2
    simp only [List.getElem?_toArray, List.getElem?_cons_zero, List.getElem?_cons_succ] at z2
    by_cases hlt : k < nF
    · have h0 : (0 : Int) ≤ (k : Int) := by omega
      have h5 : (k : Int) < (nF : Int) := by omega
      obtain ⟨y, hy⟩ : ∃ y, M[k]? = some y := ⟨_, List.getElem?_eq_getElem (by rw [HF.out.1]; exact hlt)⟩
      obtain ⟨u, hu, e0, e1, e4⟩ := inb_at HK.out hy
      obtain ⟨b, of, rfl, hbz, c0, c1, c2, c3, c4⟩ := fo_at (HF.out.2.2.1.below HR.out (Nat.le_refl _)) hy
      obtain ⟨j, hj⟩ := ix_user HASC.out (List.mem_of_getElem? hu)
      obtain ⟨y0, y1, ⟨y2, y3⟩, y4, ⟨y5, y6⟩⟩ := y
      simp only at c0 c1 c2 c3 c4 e0 e1 e4
      subst e1
      subst e4
      have HUK := Lib.hid (show L[k]? = some u from hu)
      have HE0 := Lib.hid e0
      obtain ⟨B, hB⟩ : ∃ B, wr.heap.size = B := ⟨_, rfl⟩
      have HA0 := Lib.hid (HR.out.alloc HR.out.size (.cells #[.string y0, .string inbB, .slice y2 0 y3, .int .i64 1, .slice y5 0 y6] 48))
      obtain ⟨wo, hwo⟩ : ∃ wo, wr.alloc (.cells #[.string y0, .string inbB, .slice y2 0 y3, .int .i64 1, .slice y5 0 y6] 48) = wo := ⟨_, rfl⟩
      have hsz : wo.heap.size = B + 1 := by rw [← hwo, ← hB]; simp
      have HWO := Lib.hid (show Whole wo B 48 #[.string y0, .string inbB, .slice y2 0 y3, .int .i64 1, .slice y5 0 y6] by rw [← hwo, ← hB]; exact Whole.made wr _ _)
      rw [hwo] at HA0
      have HHW := Lib.hid hwo
      have HSZ : Hid (B + 1 ≤ wo.heap.size) := Lib.hid (by omega)
      have HBB : Hid (w0.heap.size ≤ B + 1) := Lib.hid (by have := HR.out.size; omega)
      have HXo := Lib.hid (HX.out.below HA0.out HX.out.lt)
      have hDB : D < B := by have := HXr.out.lt; omega
      have hbB : b < B := by omega
      have HUo := Lib.hid (HU.out.below HA0.out (Nat.le_refl _))
      have HFo := Lib.hid (HF.out.2.2.1.below HA0.out (Nat.le_refl _))
      have HL14 : Hid (∀ x : Later (B + 1) wo, Calls Try.prog 35 #[.slice U nU cU, .string y0] x.v fun e w' => e = .returned (.int .i64 (j : Int)) ∧ w' = x.v) := Lib.hid (fun x => spec_l14 (by rw [HE0.out]; exact hj) x.v (HUo.out.below x.h (Nat.le_of_eq hsz)))
      have hj0 : ¬ (j : Int) < 0 := by omega
      have hjd : decide ((j : Int) < 0) = false := decide_eq_false hj0
      have g0 := HWO.out.cell 0
      have g1 := HWO.out.cell 1
      have g2 := HWO.out.cell 2
      have g3 := HWO.out.cell 3
      have g4 := HWO.out.cell 4
      have i1 := HXo.out.cell 1
      have i2 := HXo.out.cell 2
      simp only [List.getElem?_toArray, List.getElem?_cons_zero, List.getElem?_cons_succ] at g0 g1 g2 g3 g4 i1 i2
      have l0 : ∀ x : Later (B + 1) wo, x.v.cell? ⟨B, 0, none⟩ = some (.string y0) := fun x => x.cell (by simp) g0
      have l1 : ∀ x : Later (B + 1) wo, x.v.cell? ⟨B, 1, none⟩ = some (.string inbB) := fun x => x.cell (by simp) g1
      have l2 : ∀ x : Later (B + 1) wo, x.v.cell? ⟨B, 2, none⟩ = some (.slice y2 0 y3) := fun x => x.cell (by simp) g2
      have l3 : ∀ x : Later (B + 1) wo, x.v.cell? ⟨B, 3, none⟩ = some (.int .i64 1) := fun x => x.cell (by simp) g3
      have l4 : ∀ x : Later (B + 1) wo, x.v.cell? ⟨B, 4, none⟩ = some (.slice y5 0 y6) := fun x => x.cell (by simp) g4
      have m1 : ∀ x : Later (B + 1) wo, x.v.cell? ⟨D, 1, none⟩ = some (.slice U nU cU) := fun x => x.cell (by simp; omega) i1
      have m2 : ∀ x : Later (B + 1) wo, x.v.cell? ⟨D, 2, none⟩ = some (.slice (some ⟨b, of, none⟩) nF cF) := fun x => x.cell (by simp; omega) i2
      clear hwo hy hu hj e0
      obtain rfl | ⟨i, rfl⟩ : k = 0 ∨ ∃ i, k = i + 1 := by
        cases k with
        | zero => exact .inl rfl
        | succ i => exact .inr ⟨i, rfl⟩
      · have hz0 : ¬ (0 : Int) < ((0 : Nat) : Int) := by decide
        simp only [Nat.zero_mul, Nat.add_zero] at c0 c1 c2 c3 c4
        go_wp2
        rw [HHW.out]
        refine wp_region_later (B + 1) wo (by kernel_rfl) (by kernel_rfl) ?_
        repeat (go_big_quiet_step (first | (go_at_call 35; refine (HL14.out _).mono ?_; rintro e w2 ⟨rfl, rfl⟩; exact ⟨rfl, _, rfl⟩) | (go_at_call 49; with_reducible refine (sname_at HIN.out hin _).mono ?_; rintro e w2 ⟨rfl, rfl⟩; exact ⟨rfl, _, rfl⟩) | (go_at_call 52; refine (acl0 y2 y3 _).mono ?_; rintro e w2 ⟨rfl, hb2⟩; exact ⟨rfl, Later.call _ hb2 HSZ.out⟩) | (go_at_call 53; refine (box0 y5 y6 _).mono ?_; rintro e w2 ⟨rfl, hb2⟩; exact ⟨rfl, Later.call _ hb2 HSZ.out⟩)))
        refine wpQuiet_nil ?_
        intro _ hw'
        obtain ⟨⟨w2, hb2⟩, rfl⟩ := hw'
        have H6 := Lib.hid (HA0.out.trans (hb2.mono HBB.out))
        clear hb2
        go_wp2
        go_roundw
        case rel => exact ⟨1, by omega, by go_num, H6⟩
        case measure => simp [intOf]; omega
      · obtain ⟨p, hp⟩ : ∃ p, M[i]? = some p := ⟨_, List.getElem?_eq_getElem (by rw [HF.out.1]; omega)⟩
        obtain ⟨up, hup, f0, f1, f4⟩ := inb_at HK.out hp
        obtain ⟨b', of', he, _, a0, a1, a2, a3, a4⟩ := fo_at HFo.out hp
        cases he
        obtain ⟨p0, p1, ⟨p2, p3⟩, p4, ⟨p5, p6⟩⟩ := p
        simp only at a0 a1 a2 a3 a4 f0 f1 f4
        subst f1
        subst f4
        have HLT : Hid (ltG p0 y0 = true) := Lib.hid (by rw [f0, HE0.out]; exact asc_next HASC.out hup HUK.out)
        have j0 : (0 : Int) < ((i + 1 : Nat) : Int) := by omega
        have j1 : (0 : Int) ≤ (i : Int) := by omega
        have j2 : (i : Int) < (nF : Int) := by omega
        have W1 : IntKind.i64.wrap (((i + 1 : Nat) : Int) - 1) = (i : Int) := by rw [IntWalk.i64_in _ (by omega)]; omega
        have n0 : ∀ x : Later (B + 1) wo, x.v.cell? ⟨b, of + i * 5, none⟩ = some (.string p0) := fun x => x.cell (by simp; omega) a0
        have n1 : ∀ x : Later (B + 1) wo, x.v.cell? ⟨b, of + i * 5 + 1, none⟩ = some (.string inbB) := fun x => x.cell (by simp; omega) a1
        have n2 : ∀ x : Later (B + 1) wo, x.v.cell? ⟨b, of + i * 5 + 2, none⟩ = some (.slice p2 0 p3) := fun x => x.cell (by simp; omega) a2
        have n3 : ∀ x : Later (B + 1) wo, x.v.cell? ⟨b, of + i * 5 + 3, none⟩ = some (.int .i64 1) := fun x => x.cell (by simp; omega) a3
        have n4 : ∀ x : Later (B + 1) wo, x.v.cell? ⟨b, of + i * 5 + 4, none⟩ = some (.slice p5 0 p6) := fun x => x.cell (by simp; omega) a4
        clear hp hup f0 a0 a1 a2 a3 a4
        go_wp2
        rw [HHW.out]
        refine wp_region_later (B + 1) wo (by kernel_rfl) (by kernel_rfl) ?_
        repeat (go_big_quiet_step (first | (go_at_call 35; refine (HL14.out _).mono ?_; rintro e w2 ⟨rfl, rfl⟩; exact ⟨rfl, _, rfl⟩) | (go_at_call 49; with_reducible refine (sname_at HIN.out hin _).mono ?_; rintro e w2 ⟨rfl, rfl⟩; exact ⟨rfl, _, rfl⟩) | (go_at_call 52; refine (acl0 y2 y3 _).mono ?_; rintro e w2 ⟨rfl, hb2⟩; exact ⟨rfl, Later.call _ hb2 HSZ.out⟩) | (go_at_call 53; refine (box0 y5 y6 _).mono ?_; rintro e w2 ⟨rfl, hb2⟩; exact ⟨rfl, Later.call _ hb2 HSZ.out⟩) | (go_at_call 54; refine (less0 p0 inbB y0 inbB p2 p5 y2 y5 p3 p6 y3 y6 1 1 _ HLT.out).mono ?_; rintro e w2 ⟨rfl, hb2⟩; exact ⟨rfl, Later.call _ hb2 HSZ.out⟩)))
        refine wpQuiet_nil ?_
        intro _ hw'
        obtain ⟨⟨w2, hb2⟩, rfl⟩ := hw'
        have H6 := Lib.hid (HA0.out.trans (hb2.mono HBB.out))
        clear hb2
        go_wp2
        go_roundw
        case rel => exact ⟨i + 1 + 1, by omega, by go_num, H6⟩
        case measure => simp [intOf]; omega
    · have h5 : ¬ (k : Int) < (nF : Int) := by omega
      go_wp2
      go_ret
      refine ⟨rfl, ?_⟩
      try rw [← HDD.out]
      exact HB.out.trans (HR.out.mono HB.out.size)
end Go.Proofs.Ytkhfflbgnojcfaa
namespace Go.Proofs.Ytkhfflbgnojcfaa
open Go.RowKit
set_option linter.unusedVariables false
set_option linter.unusedSimpArgs false

/-- The place of a mailbox, or -1. -/
def fiG : List FR → ByteArray → ByteArray → Nat → Int
  | [], _, _, _ => -1
  | x :: L, o, m, k => if x.1 = o ∧ x.2.1 = m then (k : Int) else fiG L o m (k + 1)
theorem fiG_skip {M : List FR} {k : Nat} {x : FR} {o m : ByteArray} (hx : M[k]? = some x) (h : ¬ (x.1 = o ∧ x.2.1 = m)) : fiG (M.drop k) o m k = fiG (M.drop (k + 1)) o m (k + 1) := by
  obtain ⟨hk, rfl⟩ := List.getElem?_eq_some_iff.1 hx
  rw [List.drop_eq_getElem_cons hk, fiG, if_neg h]
theorem fiG_here {M : List FR} {k : Nat} {x : FR} {o m : ByteArray} (hx : M[k]? = some x) (h : x.1 = o ∧ x.2.1 = m) : fiG (M.drop k) o m k = (k : Int) := by
  obtain ⟨hk, rfl⟩ := List.getElem?_eq_some_iff.1 hx
  rw [List.drop_eq_getElem_cons hk, fiG, if_pos h]
theorem fiG_mem : ∀ (M : List FR) (o m : ByteArray) (k : Nat), (∃ x ∈ M, x.1 = o ∧ x.2.1 = m) → ∃ j : Nat, fiG M o m k = (j : Int)
  | [], o, m, k, ⟨x, hx, _⟩ => by simp at hx
  | y :: M, o, m, k, ⟨x, hx, h⟩ => by
    rw [fiG]
    split
    · exact ⟨k, rfl⟩
    · rename_i hy
      rcases List.mem_cons.1 hx with rfl | hx
      · exact absurd h hy
      · exact fiG_mem M o m (k + 1) ⟨x, hx, h⟩
theorem fi_user {L : List Us} {M : List FR} (hk : M.map foK = L.map inbK) {u : Us} (hu : u ∈ L) : ∃ j : Nat, fiG M u.1 inbB 0 = (j : Int) := by
  have h1 : inbK u ∈ M.map foK := by rw [hk]; exact List.mem_map.2 ⟨u, hu, rfl⟩
  obtain ⟨x, hx, he⟩ := List.mem_map.1 h1
  simp only [foK, inbK, Prod.mk.injEq] at he
  exact fiG_mem M u.1 inbB 0 ⟨x, hx, he.1, he.2.1⟩
set_option maxRecDepth 20000 in
set_option maxHeartbeats 4000000 in
theorem find1 (d : ByteArray) (U F I : Option Addr) (nU cU nF cF cI : Nat) (nx : Int) (o m : ByteArray) {M : List FR} {z : Int} (hz : fiG M o m 0 = z) (w : World) (h : FIn w F nF cF M) :
    Calls Try.prog 33 #[hoV d U nU cU F nF cF nx I cI, .string o, .string m] w fun e w' => e = .returned (.int .i64 z) ∧ Below w.heap.size w w' := by
  obtain ⟨D, hD⟩ : ∃ D, w.heap.size = D := ⟨_, rfl⟩
  obtain ⟨w0, hw0⟩ : ∃ z, w.alloc (.cells #[.string d, .slice U nU cU, .slice F nF cF, .int .i64 nx, .slice I 0 cI] 30) = z := ⟨_, rfl⟩
  have hbw0 : Below w.heap.size w w0 := by rw [← hw0]; exact (Below.refl _ _).alloc (Nat.le_refl _) _
  have HX := Lib.hid (show Whole w0 D 30 #[.string d, .slice U nU cU, .slice F nF cF, .int .i64 nx, .slice I 0 cI] by rw [← hw0, ← hD]; exact Whole.made w _ _)
  have HB := Lib.hid hbw0
  have HF := Lib.hid (h.below hbw0 (Nat.le_refl _))
  have hn := h.2.1
  have HZ := Lib.hid hz
  have hoo : (o.toList == o.toList) = true := by simp
  have hmm : (m.toList == m.toList) = true := by simp
  have HDD := Lib.hid hD
  clear hbw0 h hz
  have x2 := HX.out.cell 2
  simp only [List.getElem?_toArray, List.getElem?_cons_zero, List.getElem?_cons_succ] at x2
  go_enter Try.func33, Try.ntmps33
  go_wp2
  go_loopw [7] (fun i wr => ∃ k : Nat, k ≤ nF ∧ i = .int .i64 (k : Int) ∧ Hid (z = fiG (M.drop k) o m k) ∧ wr = w0) (fun i _ => nF - (intOf i).toNat)
  case atStart => exact ⟨0, Nat.zero_le _, by go_num, Lib.hid HZ.out.symm, by first | rfl | assumption⟩
  case round =>
    obtain ⟨k, hk, rfl, HT, rfl⟩ := hrel
    by_cases hlt : k < nF
    · have h0 : (0 : Int) ≤ (k : Int) := by omega
      have h5 : (k : Int) < (nF : Int) := by omega
      obtain ⟨y, hy⟩ : ∃ y, M[k]? = some y := ⟨_, List.getElem?_eq_getElem (by rw [HF.out.1]; omega)⟩
      obtain ⟨b, of, rfl, hbz, c0, c1, c2, c3, c4⟩ := fo_at HF.out.2.2.1 hy
      by_cases e1 : y.1 = o
      · by_cases e2 : y.2.1 = m
        · have HE := Lib.hid (HT.out.trans (fiG_here hy ⟨e1, e2⟩))
          rw [e1] at c0
          rw [e2] at c1
          clear hy e1 e2
          go_wp2
          go_ret
          refine ⟨by rw [HE.out]; rfl, ?_⟩
          try rw [← HDD.out]
          exact HB.out
        · have HE := Lib.hid (HT.out.trans (fiG_skip hy (fun h => e2 h.2)))
          obtain ⟨hne, hne'⟩ := ne_walk e2
          rw [e1] at c0
          obtain ⟨t1, ht1⟩ : ∃ t, y.2.1 = t := ⟨_, rfl⟩
          rw [ht1] at c1 hne hne'
          clear hy e2
          go_wp2
          go_roundw
          case rel => exact ⟨k + 1, by omega, by go_num, HE, trivial⟩
          case measure => simp [intOf]; omega
      · have HE := Lib.hid (HT.out.trans (fiG_skip hy (fun h => e1 h.1)))
        obtain ⟨hne, hne'⟩ := ne_walk e1
        obtain ⟨t0, ht0⟩ : ∃ t, y.1 = t := ⟨_, rfl⟩
        rw [ht0] at c0 hne hne'
        clear hy e1
        go_wp2
        go_roundw
        case rel => exact ⟨k + 1, by omega, by go_num, HE, trivial⟩
        case measure => simp [intOf]; omega
    · have h5 : ¬ (k : Int) < (nF : Int) := by omega
      have HE : Hid (z = -1) := Lib.hid (by rw [HT.out, List.drop_eq_nil_of_le (by rw [HF.out.1]; omega)]; rfl)
      go_wp2
      go_ret
      refine ⟨by rw [HE.out]; rfl, ?_⟩
      try rw [← HDD.out]
      exact HB.out
theorem sdom_at {s : ByteArray} {z : Bool} (h : domB s.data.toList = z) (hs : s.size ≤ 16777216) (w : World) : Calls Try.prog 29 #[.string s] w (SayB w z) := by
  subst h
  exact spec_domain s w hs
set_option maxRecDepth 20000 in
set_option maxHeartbeats 16000000 in
theorem hostvalid0 (d : ByteArray) (U F I : Option Addr) (nU cU nF cF cI : Nat) {L : List Us} {M : List FR} {z : Bool} (hz : (domB d.data.toList && vU L) = z) (w : World) (hds : d.size ≤ 16777216) (hu : UIn w U nU cU L) (h : FIn w F nF cF M) (hk : M.map foK = L.map inbK) :
    Calls Try.prog 14 #[hoV d U nU cU F nF cF 1 I cI] w (SayB w z) := by
  obtain ⟨D, hD⟩ : ∃ D, w.heap.size = D := ⟨_, rfl⟩
  obtain ⟨w0, hw0⟩ : ∃ z, w.alloc (.cells #[.string d, .slice U nU cU, .slice F nF cF, .int .i64 1, .slice I 0 cI] 30) = z := ⟨_, rfl⟩
  have hbw0 : Below w.heap.size w w0 := by rw [← hw0]; exact (Below.refl _ _).alloc (Nat.le_refl _) _
  have HX := Lib.hid (show Whole w0 D 30 #[.string d, .slice U nU cU, .slice F nF cF, .int .i64 1, .slice I 0 cI] by rw [← hw0, ← hD]; exact Whole.made w _ _)
  have HB := Lib.hid hbw0
  have HU := Lib.hid (hu.below hbw0 (Nat.le_refl _))
  have HF := Lib.hid (h.below hbw0 (Nat.le_refl _))
  have HK := Lib.hid hk
  have HDD := Lib.hid hD
  have HU0 := Lib.hid hu.1
  have hnU := hu.2.1
  clear hbw0 hu h hk
  have x0 := HX.out.cell 0
  simp only [List.getElem?_toArray, List.getElem?_cons_zero, List.getElem?_cons_succ] at x0
  cases hdm : domB d.data.toList with
  | false =>
    obtain rfl : z = false := by rw [← hz, hdm]; rfl
    have HDM := Lib.hid hdm
    clear hdm hz
    go_enter Try.func14, Try.ntmps14
    go_wp2_with fail
    refine (sdom_at HDM.out hds w0).mono ?_
    rintro e w1 ⟨rfl, hb⟩
    have HB1 := Lib.hid (HB.out.trans (hb.mono HB.out.size))
    have HX1 := Lib.hid (HX.out.below hb HX.out.lt)
    have HU1 := Lib.hid (HU.out.below hb (Nat.le_refl _))
    have HF1 := Lib.hid (HF.out.below hb (Nat.le_refl _))
    clear hb x0
    go_wp2
    go_ret
    refine ⟨rfl, ?_⟩
    try rw [← HDD.out]
    exact HB1.out
  | true =>
    have HDM := Lib.hid hdm
    cases hvu : vU L with
    | false =>
      obtain rfl : z = false := by rw [← hz, hdm, hvu]; rfl
      have HVU := Lib.hid hvu
      clear hdm hz hvu
      go_enter Try.func14, Try.ntmps14
      go_wp2_with fail
      refine (sdom_at HDM.out hds w0).mono ?_
      rintro e w1 ⟨rfl, hb⟩
      have HB1 := Lib.hid (HB.out.trans (hb.mono HB.out.size))
      have HX1 := Lib.hid (HX.out.below hb HX.out.lt)
      have HU1 := Lib.hid (HU.out.below hb (Nat.le_refl _))
      have HF1 := Lib.hid (HF.out.below hb (Nat.le_refl _))
      clear hb x0
      have x1 := HX1.out.cell 1
      simp only [List.getElem?_toArray, List.getElem?_cons_zero, List.getElem?_cons_succ] at x1
      go_wp2_with fail
      refine (spec_uv HVU.out w1 HU1.out).mono ?_
      rintro e w2 ⟨rfl, hb⟩
      have HB2 := Lib.hid (HB1.out.trans (hb.mono HB1.out.size))
      clear hb x1
      go_wp2
      go_ret
      refine ⟨rfl, ?_⟩
      try rw [← HDD.out]
      exact HB2.out
    | true =>
      obtain rfl : z = true := by rw [← hz, hdm, hvu]; rfl
      have HVU := Lib.hid hvu
      obtain ⟨⟨hv1, hv2⟩, hv3, hv4⟩ := vU_iff.1 hvu
      have HOK := Lib.hid hv3
      have hnU4 : nU ≤ 4 := by rw [← HU0.out]; exact hv2
      clear hdm hz hvu hv1 hv2 hv3 hv4
      go_enter Try.func14, Try.ntmps14
      go_wp2_with fail
      refine (sdom_at HDM.out hds w0).mono ?_
      rintro e w1 ⟨rfl, hb⟩
      have HB1 := Lib.hid (HB.out.trans (hb.mono HB.out.size))
      have HX1 := Lib.hid (HX.out.below hb HX.out.lt)
      have HU1 := Lib.hid (HU.out.below hb (Nat.le_refl _))
      have HF1 := Lib.hid (HF.out.below hb (Nat.le_refl _))
      clear hb x0
      have x1 := HX1.out.cell 1
      simp only [List.getElem?_toArray, List.getElem?_cons_zero, List.getElem?_cons_succ] at x1
      go_wp2_with fail
      refine (spec_uv HVU.out w1 HU1.out).mono ?_
      rintro e w2 ⟨rfl, hb⟩
      have HB2 := Lib.hid (HB1.out.trans (hb.mono HB1.out.size))
      have HX2 := Lib.hid (HX1.out.below hb HX1.out.lt)
      have HU2 := Lib.hid (HU1.out.below hb (Nat.le_refl _))
      have HF2 := Lib.hid (HF1.out.below hb (Nat.le_refl _))
      clear hb x1
      have x3 := HX2.out.cell 3
      have x4 := HX2.out.cell 4
      simp only [List.getElem?_toArray, List.getElem?_cons_zero, List.getElem?_cons_succ] at x3 x4
      go_wp2_with fail
      refine (queue0 I cI w2).mono ?_
      rintro e w3 ⟨rfl, hb⟩
      have HB3 := Lib.hid (HB2.out.trans (hb.mono HB2.out.size))
      have HX3 := Lib.hid (HX2.out.below hb HX2.out.lt)
      have HU3 := Lib.hid (HU2.out.below hb (Nat.le_refl _))
      have HF3 := Lib.hid (HF2.out.below hb (Nat.le_refl _))
      clear hb x3 x4
      have x0 := HX3.out.cell 0
      have x1 := HX3.out.cell 1
      have x2 := HX3.out.cell 2
      have x3 := HX3.out.cell 3
      have x4 := HX3.out.cell 4
      simp only [List.getElem?_toArray, List.getElem?_cons_zero, List.getElem?_cons_succ] at x0 x1 x2 x3 x4
      go_wp2_with fail
      refine (folders0 d U F I nU cU nF cF cI 1 w3 HU3.out HF3.out HK.out HVU.out).mono ?_
      rintro e w4 ⟨rfl, hb⟩
      have HB4 := Lib.hid (HB3.out.trans (hb.mono HB3.out.size))
      have HX4 := Lib.hid (HX3.out.below hb HX3.out.lt)
      have HU4 := Lib.hid (HU3.out.below hb (Nat.le_refl _))
      have HF4 := Lib.hid (HF3.out.below hb (Nat.le_refl _))
      clear hb x0 x1 x2 x3 x4
      go_wp2
      go_loopw [3] (fun i wr => ∃ k : Nat, k ≤ nU ∧ i = .int .i64 (k : Int) ∧ Hid (Below w4.heap.size w4 wr)) (fun i _ => nU - (intOf i).toNat)
      case atStart => exact ⟨0, Nat.zero_le _, by go_num, Lib.hid (Below.refl _ _)⟩
      case round =>
        obtain ⟨k, hk, rfl, HR⟩ := hrel
        have HXr := Lib.hid (HX4.out.below HR.out HX4.out.lt)
        have z0 := HXr.out.cell 0
        have z1 := HXr.out.cell 1
        have z2 := HXr.out.cell 2
        have z3 := HXr.out.cell 3
        have z4 := HXr.out.cell 4
        simp only [List.getElem?_toArray, List.getElem?_cons_zero, List.getElem?_cons_succ] at z0 z1 z2 z3 z4
        by_cases hlt : k < nU
        · have h0 : (0 : Int) ≤ (k : Int) := by omega
          have h5 : (k : Int) < (nU : Int) := by omega
          obtain ⟨⟨n, p, q⟩, hx⟩ : ∃ x, L[k]? = some x := ⟨_, List.getElem?_eq_getElem (by rw [HU0.out]; exact hlt)⟩
          obtain ⟨b, of, rfl, hbz, c0, c1, c2⟩ := user_at (HU4.out.2.2.1.below HR.out (Nat.le_refl _)) hx
          have hq := (okU_parts (HOK.out _ (List.mem_of_getElem? hx))).2.2.2.1
          have hq0 : (0 : Int) ≤ q := hq
          have hqn : ¬ q < 0 := by omega
          have hqd : decide (q < 0) = false := decide_eq_false hqn
          obtain ⟨j, hj⟩ := fi_user HK.out (List.mem_of_getElem? hx)
          have HJ := Lib.hid (show fiG M n inbB 0 = (j : Int) from hj)
          have hj0 : ¬ (j : Int) < 0 := by omega
          have hjd : decide ((j : Int) < 0) = false := decide_eq_false hj0
          have HFr := Lib.hid (HF4.out.below HR.out (Nat.le_refl _))
          have HFI : Hid (∀ x : Later wr.heap.size wr, Calls Try.prog 33 #[hoV d (some ⟨b, of, none⟩) nU cU F nF cF 1 I cI, .string n, .string inbB] x.v fun e w' => e = .returned (.int .i64 (j : Int)) ∧ Below x.v.heap.size x.v w') := Lib.hid (fun x => find1 d _ F I nU cU nF cF cI 1 n inbB HJ.out x.v (HFr.out.below x.h (Nat.le_refl _)))
          have HUS : Hid (∀ x : Later wr.heap.size wr, Calls Try.prog 34 #[hoV d (some ⟨b, of, none⟩) nU cU F nF cF 1 I cI, .string n] x.v fun e w' => e = .returned (.int .i64 0) ∧ Below x.v.heap.size x.v w') := Lib.hid (fun x => used0 d _ F I nU cU nF cF cI 1 n x.v (HFr.out.below x.h (Nat.le_refl _)))
          have hDl := HXr.out.lt
          have l0 : ∀ x : Later wr.heap.size wr, x.v.cell? ⟨D, 0, none⟩ = some (.string d) := fun x => x.cell hDl z0
          have l1 : ∀ x : Later wr.heap.size wr, x.v.cell? ⟨D, 1, none⟩ = some (.slice (some ⟨b, of, none⟩) nU cU) := fun x => x.cell hDl z1
          have l2 : ∀ x : Later wr.heap.size wr, x.v.cell? ⟨D, 2, none⟩ = some (.slice F nF cF) := fun x => x.cell hDl z2
          have l3 : ∀ x : Later wr.heap.size wr, x.v.cell? ⟨D, 3, none⟩ = some (.int .i64 1) := fun x => x.cell hDl z3
          have l4 : ∀ x : Later wr.heap.size wr, x.v.cell? ⟨D, 4, none⟩ = some (.slice I 0 cI) := fun x => x.cell hDl z4
          have m0 : ∀ x : Later wr.heap.size wr, x.v.cell? ⟨b, of + k * 3, none⟩ = some (.string n) := fun x => x.cell hbz c0
          have m2 : ∀ x : Later wr.heap.size wr, x.v.cell? ⟨b, of + k * 3 + 2, none⟩ = some (.int .i64 q) := fun x => x.cell hbz c2
          clear hx hj hq
          go_wp2
          refine wp_region_later wr.heap.size wr (by kernel_rfl) (by kernel_rfl) ?_
          repeat (go_big_quiet_step (first | (go_at_call 33; refine (HFI.out _).mono ?_; rintro e w5 ⟨rfl, hb2⟩; exact ⟨rfl, Later.call _ hb2 (Nat.le_refl _)⟩) | (go_at_call 34; refine (HUS.out _).mono ?_; rintro e w5 ⟨rfl, hb2⟩; exact ⟨rfl, Later.call _ hb2 (Nat.le_refl _)⟩)))
          refine wpQuiet_nil ?_
          intro _ hw'
          obtain ⟨⟨w5, hb2⟩, rfl⟩ := hw'
          have H6 := Lib.hid (HR.out.trans (hb2.mono HR.out.size))
          clear hb2
          go_wp2
          go_roundw
          case rel => exact ⟨k + 1, by omega, by go_num, H6⟩
          case measure => simp [intOf]; omega
        · have h5 : ¬ (k : Int) < (nU : Int) := by omega
          have h6 : ¬ (0 : Int) < 0 := by decide
          have HBR := Lib.hid (HB4.out.trans (HR.out.mono HB4.out.size))
          go_wp2
          go_loopw [4] (fun i wr' => i = .int .i64 0 ∧ wr' = wr) (fun _ _ => 0)
          case atStart => exact ⟨by go_num, by first | rfl | assumption⟩
          case round =>
            obtain ⟨rfl, rfl⟩ := hrel
            go_wp2
            go_ret
            refine ⟨rfl, ?_⟩
            try rw [← HDD.out]
            exact HBR.out
end Go.Proofs.Ytkhfflbgnojcfaa
namespace Go.Proofs.Ytkhfflbgnojcfaa
open Go.RowKit
set_option linter.unusedVariables false
set_option linter.unusedSimpArgs false

/-- A list of users in memory of its own. -/
def GivesUs (w : World) (L : List Us) (e : Ending) (w' : World) : Prop := ∃ A N cap, e = .returned (.slice A N cap) ∧ ROwn usR w' w.heap.size (.slice A N cap) L ∧ Below w.heap.size w w'
set_option maxRecDepth 20000 in
set_option maxHeartbeats 2000000 in
theorem clone_users {A : Option Addr} {N cap : Nat} {L : List Us} (w : World) (h : UIn w A N cap L) :
    Calls Try.prog 18 #[.slice A N cap] w (GivesUs w L) := by
  obtain ⟨i0, hi, hq0, hq1, hq2⟩ := info_parts Try.infoUser
  obtain ⟨hN, hl, hat, hA, hsp, -⟩ := h
  cases A with
  | none =>
    have hL : L = [] := by
      cases L with
      | nil => rfl
      | cons y L =>
        obtain ⟨b, o, hA2, _⟩ := hat 0 y rfl
        cases hA2
    obtain rfl := hA rfl
    subst hL
    obtain rfl : N = 0 := hN.symm
    have hnil := Lib.run_eql_slice_nil (P := Try.prog) w 24 42 none 0 0 0 0 Try.underlying24
    clear hat hsp hN
    go_enter Try.func18, Try.ntmps18
    go_wp2
    go_ret
    exact ⟨none, 0, 0, rfl, ROwn.nil _ _, Below.refl _ _⟩
  | some q =>
    obtain ⟨B, hB⟩ : ∃ B, w.heap.size = B := ⟨_, rfl⟩
    have hnil := Lib.run_eql_slice_nil (P := Try.prog) w 24 42 (some q) N cap 0 0 Try.underlying24
    have hown := ROwn.lit (R := usR) (B := B) w B (by omega) hB
    have hat3 := hat.below (below_new w (.cells #[] 42)) (Nat.le_refl _)
    have hml : 0 + N ≤ maxLen := by unfold maxLen; omega
    have hby : (0 + N) * 40 ≤ 140737488355328 := by omega
    have HB0 := Lib.hid (hB ▸ below_new w (.cells #[] 42) : Below B w (w.alloc (.cells #[] 42)))
    have HN := Lib.hid hN
    have HSP := Lib.hid hsp
    clear hat hN hA hsp
    go_enter Try.func18, Try.ntmps18
    go_wp2_with (at_builtin; refine wpList_append_rows rfl (.tmp 5) (.tmp 6) 24 rfl usR B i0 _ 40 Try.underlying24 hi hq0 hq1 hq2 rfl (by decide) _ [] L 0 rfl rfl hown (some q) N cap rfl HN.out hat3 (fun e => by cases e) HSP.out hml hby (by simp; omega) ?_)
    intro v' w4 hown4 hgrow hnn
    obtain ⟨A', N', cap', rfl⟩ := hown4.val
    have HB4 := Lib.hid (HB0.out.grown hgrow (by simp; omega) (fun z hz => by simp [Value.ownBlock] at hz; omega))
    have HO4 := Lib.hid hown4
    clear hown4 hgrow hown hnn hat3
    go_wp2
    go_ret
    exact ⟨A', N', cap', rfl, by rw [hB]; exact HO4.out, by rw [hB]; exact HB4.out⟩


theorem below_setN {B : Nat} {a w : World} (h : Below B a w) {p : Addr} (hp : B ≤ p.block) (u : Value) : Below B a (w.setCell p u) := ⟨h.os, h.tape, h.output, by simpa [World.setCell] using h.size, fun k hk => (Below.heap_setCell w p u k (by omega)).trans (h.block k hk)⟩
set_option maxHeartbeats 2000000 in
theorem new_folder (o n : ByteArray) (w : World) : Calls Try.prog 19 #[.string o, .string n] w fun e w' => e = .returned (.agg #[.string o, .string n, .slice none 0 0, .int .i64 1, .slice none 0 0]) ∧ Below w.heap.size w w' := by
  obtain ⟨D, hD⟩ : ∃ D, w.heap.size = D := ⟨_, rfl⟩
  obtain ⟨w0, hw0⟩ : ∃ z, w.alloc (.cells #[.string ⟨#[]⟩, .string ⟨#[]⟩, .slice none 0 0, .int .i64 0, .slice none 0 0] 48) = z := ⟨_, rfl⟩
  have hb0 : Below w.heap.size w w0 := by rw [← hw0]; exact (Below.refl _ _).alloc (Nat.le_refl _) _
  have HX := Lib.hid (show Whole w0 D 48 #[.string ⟨#[]⟩, .string ⟨#[]⟩, .slice none 0 0, .int .i64 0, .slice none 0 0] by rw [← hw0, ← hD]; exact Whole.made w _ _)
  have HB := Lib.hid hb0
  have HDD := Lib.hid hD
  have hz1 := ((((HX.out.store 0 (.string o)).store 1 (.string n)).store 2 (.slice none 0 0)).store 3 (.int .i64 1)).store 4 (.slice none 0 0)
  have hbz : Below w.heap.size w (((((w0.setCell ⟨D, 0, none⟩ (.string o)).setCell ⟨D, 1, none⟩ (.string n)).setCell ⟨D, 2, none⟩ (.slice none 0 0)).setCell ⟨D, 3, none⟩ (.int .i64 1)).setCell ⟨D, 4, none⟩ (.slice none 0 0)) :=
    (by refine below_setN (below_setN (below_setN (below_setN (below_setN hb0 (p := ⟨D, 0, none⟩) ?_ _) (p := ⟨D, 1, none⟩) ?_ _) (p := ⟨D, 2, none⟩) ?_ _) (p := ⟨D, 3, none⟩) ?_ _) (p := ⟨D, 4, none⟩) ?_ _ <;> exact Nat.le_of_eq hD)
  obtain ⟨w1, hw1⟩ : ∃ z, (((((w0.setCell ⟨D, 0, none⟩ (.string o)).setCell ⟨D, 1, none⟩ (.string n)).setCell ⟨D, 2, none⟩ (.slice none 0 0)).setCell ⟨D, 3, none⟩ (.int .i64 1)).setCell ⟨D, 4, none⟩ (.slice none 0 0)) = z := ⟨_, rfl⟩
  rw [hw1] at hbz hz1
  have HBZ := Lib.hid hbz
  have HZ1 := Lib.hid hz1
  have HW1 := Lib.hid hw1
  clear hz1 hbz hw1 hb0
  have x0 := HX.out.cell 0
  have x1 := HX.out.cell 1
  have x2 := HX.out.cell 2
  have x3 := HX.out.cell 3
  have x4 := HX.out.cell 4
  have f0 := HX.out.free 0
  have f1 := HX.out.free 1
  have f2 := HX.out.free 2
  have f3 := HX.out.free 3
  have f4 := HX.out.free 4
  have y0 := HZ1.out.cell 0
  have y1 := HZ1.out.cell 1
  have y2 := HZ1.out.cell 2
  have y3 := HZ1.out.cell 3
  have y4 := HZ1.out.cell 4
  simp only [List.getElem?_toArray, List.getElem?_cons_zero, List.getElem?_cons_succ] at x0 x1 x2 x3 x4
  simp at y0 y1 y2 y3 y4
  go_enter Try.func19, Try.ntmps19
  go_wp2
  try rw [HW1.out]
  clear x0 x1 x2 x3 x4 f0 f1 f2 f3 f4 hD hw0
  refine bodyPost_ret (v := .agg #[.string o, .string n, .slice none 0 0, .int .i64 1, .slice none 0 0]) (by simp [results, Try.results19, go_sem, *]) rfl ?_
  refine ⟨rfl, ?_⟩
  try rw [← HDD.out]
  exact HBZ.out
end Go.Proofs.Ytkhfflbgnojcfaa
namespace Go.Proofs.Ytkhfflbgnojcfaa
open Go.RowKit
set_option linter.unusedVariables false
set_option linter.unusedSimpArgs false

theorem idom_at {s : ByteArray} {z : Bool} (h : domB s.data.toList = z) (hs : s.size ≤ 16777216) (w : World) : Calls Try.prog 16 #[.string s] w (SayB w z) := by
  have hl : s.data.toList.length = s.size := by simp
  have h2 := dom_eq0 s.data.toList
  rw [hl, h] at h2
  exact (impl_domain_ s w hs).mono fun e w' hh => ⟨by rw [hh.1, h2], hh.2⟩
set_option maxRecDepth 20000 in
set_option maxHeartbeats 8000000 in
theorem impl_hostnew_no (d : ByteArray) {A : Option Addr} {N cap : Nat} {L : List Us} (hz : (domB d.data.toList && vU L) = false) (w : World) (hds : d.size ≤ 16777216) (hu : UIn w A N cap L) :
    Calls Try.prog 7 #[.string d, .slice A N cap] w fun e w' => e = .returned (.tuple #[hoV ⟨#[]⟩ none 0 0 none 0 0 0 none 0, .bool false]) ∧ Below w.heap.size w w' := by
  obtain ⟨D, hD⟩ : ∃ D, w.heap.size = D := ⟨_, rfl⟩
  obtain ⟨w0, hw0⟩ : ∃ z, w.alloc (.cells #[.string ⟨#[]⟩, .slice none 0 0, .slice none 0 0, .int .i64 0, .slice none 0 0] 30) = z := ⟨_, rfl⟩
  have hbw0 : Below w.heap.size w w0 := by rw [← hw0]; exact (Below.refl _ _).alloc (Nat.le_refl _) _
  have HX := Lib.hid (show Whole w0 D 30 #[.string ⟨#[]⟩, .slice none 0 0, .slice none 0 0, .int .i64 0, .slice none 0 0] by rw [← hw0, ← hD]; exact Whole.made w _ _)
  have HB := Lib.hid hbw0
  have HU := Lib.hid (hu.below hbw0 (Nat.le_refl _))
  have HDD := Lib.hid hD
  clear hbw0 hu
  cases hdm : domB d.data.toList with
  | false =>
    have HDM := Lib.hid hdm
    clear hdm hz
    go_enter Try.func7, Try.ntmps7
    go_wp2_with fail
    refine (idom_at HDM.out hds w0).mono ?_
    rintro e w1 ⟨rfl, hb⟩
    have HB1 := Lib.hid (HB.out.trans (hb.mono HB.out.size))
    have HX1 := Lib.hid (HX.out.below hb HX.out.lt)
    have HU1 := Lib.hid (HU.out.below hb (Nat.le_refl _))
    clear hb
    have xc0 := HX1.out.cell 0
    have xc1 := HX1.out.cell 1
    have xc2 := HX1.out.cell 2
    have xc3 := HX1.out.cell 3
    have xc4 := HX1.out.cell 4
    have xf0 := HX1.out.free 0
    have xf1 := HX1.out.free 1
    have xf2 := HX1.out.free 2
    have xf3 := HX1.out.free 3
    have xf4 := HX1.out.free 4
    simp only [List.getElem?_toArray, List.getElem?_cons_zero, List.getElem?_cons_succ] at xc0 xc1 xc2 xc3 xc4
    go_wp2
    refine bodyPost_ret (v := .tuple #[.agg #[.string ⟨#[]⟩, .slice none 0 0, .slice none 0 0, .int .i64 0, .slice none 0 0], .bool false]) (by rw [results_cell_tmp Try.results7]; go_simp) rfl ?_
    have HBD : Hid (Below D w _) := Lib.hid (HDD.out ▸ HB1.out)
    refine ⟨rfl, ?_⟩
    first
      | (refine below_setN (below_setN (below_setN (below_setN (below_setN HBD.out (p := ⟨D, 0, none⟩) ?_ _) (p := ⟨D, 1, none⟩) ?_ _) (p := ⟨D, 2, none⟩) ?_ _) (p := ⟨D, 3, none⟩) ?_ _) (p := ⟨D, 4, none⟩) ?_ _ <;> exact Nat.le_refl _)
      | (rw [HDD.out]; refine below_setN (below_setN (below_setN (below_setN (below_setN HBD.out (p := ⟨D, 0, none⟩) ?_ _) (p := ⟨D, 1, none⟩) ?_ _) (p := ⟨D, 2, none⟩) ?_ _) (p := ⟨D, 3, none⟩) ?_ _) (p := ⟨D, 4, none⟩) ?_ _ <;> exact Nat.le_refl _)
  | true =>
    have HDM := Lib.hid hdm
    have hvu : vU L = false := by rw [hdm, Bool.true_and] at hz; exact hz
    have HVU := Lib.hid hvu
    clear hdm hz hvu
    go_enter Try.func7, Try.ntmps7
    go_wp2_with fail
    refine (idom_at HDM.out hds w0).mono ?_
    rintro e w1 ⟨rfl, hb⟩
    have HB1 := Lib.hid (HB.out.trans (hb.mono HB.out.size))
    have HX1 := Lib.hid (HX.out.below hb HX.out.lt)
    have HU1 := Lib.hid (HU.out.below hb (Nat.le_refl _))
    clear hb
    go_wp2_with fail
    refine (impl_uv HVU.out w1 HU1.out).mono ?_
    rintro e w2 ⟨rfl, hb⟩
    have HB2 := Lib.hid (HB1.out.trans (hb.mono HB1.out.size))
    have HX2 := Lib.hid (HX1.out.below hb HX1.out.lt)
    have HU2 := Lib.hid (HU1.out.below hb (Nat.le_refl _))
    clear hb
    have xc0 := HX2.out.cell 0
    have xc1 := HX2.out.cell 1
    have xc2 := HX2.out.cell 2
    have xc3 := HX2.out.cell 3
    have xc4 := HX2.out.cell 4
    have xf0 := HX2.out.free 0
    have xf1 := HX2.out.free 1
    have xf2 := HX2.out.free 2
    have xf3 := HX2.out.free 3
    have xf4 := HX2.out.free 4
    simp only [List.getElem?_toArray, List.getElem?_cons_zero, List.getElem?_cons_succ] at xc0 xc1 xc2 xc3 xc4
    go_wp2
    refine bodyPost_ret (v := .tuple #[.agg #[.string ⟨#[]⟩, .slice none 0 0, .slice none 0 0, .int .i64 0, .slice none 0 0], .bool false]) (by rw [results_cell_tmp Try.results7]; go_simp) rfl ?_
    have HBD : Hid (Below D w _) := Lib.hid (HDD.out ▸ HB2.out)
    refine ⟨rfl, ?_⟩
    first
      | (refine below_setN (below_setN (below_setN (below_setN (below_setN HBD.out (p := ⟨D, 0, none⟩) ?_ _) (p := ⟨D, 1, none⟩) ?_ _) (p := ⟨D, 2, none⟩) ?_ _) (p := ⟨D, 3, none⟩) ?_ _) (p := ⟨D, 4, none⟩) ?_ _ <;> exact Nat.le_refl _)
      | (rw [HDD.out]; refine below_setN (below_setN (below_setN (below_setN (below_setN HBD.out (p := ⟨D, 0, none⟩) ?_ _) (p := ⟨D, 1, none⟩) ?_ _) (p := ⟨D, 2, none⟩) ?_ _) (p := ⟨D, 3, none⟩) ?_ _) (p := ⟨D, 4, none⟩) ?_ _ <;> exact Nat.le_refl _)
theorem rown_five {α : Type} {R : RowT α} {w : World} {B D : Nat} {v : Value} {L : List α} (h : ROwn R w B v L) (hne : v.ownBlock ≠ some D) (a0 a1 a2 a3 a4 : Value) : ROwn R (((((w.setCell ⟨D, 0, none⟩ a0).setCell ⟨D, 1, none⟩ a1).setCell ⟨D, 2, none⟩ a2).setCell ⟨D, 3, none⟩ a3).setCell ⟨D, 4, none⟩ a4) B v L :=
  ((((h.store (p := ⟨D, 0, none⟩) hne a0).store (p := ⟨D, 1, none⟩) hne a1).store (p := ⟨D, 2, none⟩) hne a2).store (p := ⟨D, 3, none⟩) hne a3).store (p := ⟨D, 4, none⟩) hne a4
theorem below_five {B D : Nat} {a w : World} (h : Below B a w) (hp : B ≤ D) (a0 a1 a2 a3 a4 : Value) : Below B a (((((w.setCell ⟨D, 0, none⟩ a0).setCell ⟨D, 1, none⟩ a1).setCell ⟨D, 2, none⟩ a2).setCell ⟨D, 3, none⟩ a3).setCell ⟨D, 4, none⟩ a4) :=
  below_setN (below_setN (below_setN (below_setN (below_setN h (p := ⟨D, 0, none⟩) hp a0) (p := ⟨D, 1, none⟩) hp a1) (p := ⟨D, 2, none⟩) hp a2) (p := ⟨D, 3, none⟩) hp a3) (p := ⟨D, 4, none⟩) hp a4
theorem step_app_sl {α : Type} {P : Program} {ops : Array Oper} {o : Oper} {a : Act} {K : Act → World → Prop} {Q : Exit → Act → World → Prop} {E : Prop} {w : World} (hg : o.guard = none) (s x : Operand) (t : TypeId)
    (ho : o.op = .call { callee := .builtin .append, args := #[s, x], argTypes := #[t, t] })
    (R : RowT α) (base : Nat) (i : TypeInfo) (z : Value) (bytes : Nat) (ht : P.underlying t = some (.slice R.t)) (hi : P.info? R.t = some i) (hz : i.zero = some z)
    (hsize : i.size = R.sz) (hby : i.bytes = bytes) (hzs : z.cells.size = R.sz) (hsz : 0 < R.sz)
    (v : Value) (L M : List α) (n : Nat) (hn : L.length = n) (hs : a.eval s = v) (hown : ROwn R w base v L)
    (A : Option Addr) (m c : Nat) (hx : a.eval x = .slice A m c) (hm : M.length = m) (hat : RAt R w A M) (hA : A = none → c = 0) (hsp : ∀ q, A = some q → q.spot = none)
    (h63 : n + m ≤ maxLen) (hbytes : (n + m) * bytes ≤ 140737488355328) (hbase : base ≤ w.heap.size)
    (h : ∀ A' N' c' w', ROwn R w' base (.slice A' N' c') (L ++ M) → w.grownBy w' v.ownBlock → K (a.put o.dst (.slice A' N' c')) w') :
    if Region.wanted o (yielded ops a.tmps) = true then Oper.wp P o a w K Q else E := by
  refine step_append_rows hg s x t ho R base i z bytes ht hi hz hsize hby hzs hsz v L M n hn hs hown A m c hx hm hat hA hsp h63 hbytes hbase ?_
  intro v' w' h1 h2 _
  obtain ⟨A', N', c', rfl⟩ := h1.val
  exact h A' N' c' w' h1 h2
set_option maxRecDepth 20000 in
set_option maxHeartbeats 16000000 in
theorem impl_hostnew_yes (d : ByteArray) {A : Option Addr} {N cap : Nat} {L : List Us} (hdm : domB d.data.toList = true) (hvu : vU L = true) (w : World) (hds : d.size ≤ 16777216) (hu : UIn w A N cap L) :
    Calls Try.prog 7 #[.string d, .slice A N cap] w fun e w' => ∃ (U F : Option Addr) (cU cF : Nat) (Fs : List FR), e = .returned (.tuple #[hoV d U N cU F N cF 1 none 0, .bool true]) ∧ ROwn usR w' w.heap.size (.slice U N cU) L ∧ ROwn foR w' w.heap.size (.slice F N cF) Fs ∧ Fs.map foK = L.map inbK ∧ (∀ b, (Value.slice U N cU).ownBlock = some b → (Value.slice F N cF).ownBlock ≠ some b) ∧ Below w.heap.size w w' := by
  obtain ⟨D, hD⟩ : ∃ D, w.heap.size = D := ⟨_, rfl⟩
  obtain ⟨w0, hw0⟩ : ∃ z, w.alloc (.cells #[.string ⟨#[]⟩, .slice none 0 0, .slice none 0 0, .int .i64 0, .slice none 0 0] 30) = z := ⟨_, rfl⟩
  have hbw0 : Below w.heap.size w w0 := by rw [← hw0]; exact (Below.refl _ _).alloc (Nat.le_refl _) _
  have HX := Lib.hid (show Whole w0 D 30 #[.string ⟨#[]⟩, .slice none 0 0, .slice none 0 0, .int .i64 0, .slice none 0 0] by rw [← hw0, ← hD]; exact Whole.made w _ _)
  have HB := Lib.hid hbw0
  have HU := Lib.hid (hu.below hbw0 (Nat.le_refl _))
  have HLN := Lib.hid hu.1
  have HDD := Lib.hid hD
  have HDM := Lib.hid hdm
  have HVU := Lib.hid hvu
  clear hbw0 hu hdm hvu
  go_enter Try.func7, Try.ntmps7
  go_wp2_with fail
  refine (idom_at HDM.out hds w0).mono ?_
  rintro e w1 ⟨rfl, hb⟩
  have HB1 := Lib.hid (HB.out.trans (hb.mono HB.out.size))
  have HX1 := Lib.hid (HX.out.below hb HX.out.lt)
  have HU1 := Lib.hid (HU.out.below hb (Nat.le_refl _))
  clear hb
  go_wp2_with fail
  refine (impl_uv HVU.out w1 HU1.out).mono ?_
  rintro e w2 ⟨rfl, hb⟩
  have HB2 := Lib.hid (HB1.out.trans (hb.mono HB1.out.size))
  have HX2 := Lib.hid (HX1.out.below hb HX1.out.lt)
  have HU2 := Lib.hid (HU1.out.below hb (Nat.le_refl _))
  clear hb
  go_wp2_with fail
  refine (clone_users w2 HU2.out).mono ?_
  rintro e w3 ⟨U, nU, cU, rfl, ho, hb⟩
  have hnU : nU = N := by have h1 := ho.len.1; have h2 := HLN.out; omega
  subst hnU
  have HB3 := Lib.hid (HB2.out.trans (hb.mono HB2.out.size))
  have HX3 := Lib.hid (HX2.out.below hb HX2.out.lt)
  have HU3 := Lib.hid (HU2.out.below hb (Nat.le_refl _))
  have HZ23 := Lib.hid hb.size
  have HOU3 := Lib.hid ho
  clear ho hb
  obtain ⟨D6, hD6⟩ : ∃ D, w3.heap.size = D := ⟨_, rfl⟩
  have HD6 := Lib.hid hD6
  obtain ⟨w4, hw4⟩ : ∃ z, w3.alloc (.cells #[.string d, .slice U nU cU, .slice none 0 0, .int .i64 1, .slice none 0 0] 30) = z := ⟨_, rfl⟩
  have HW4 := Lib.hid hw4
  have HH4 := Lib.hid (show Whole w4 D6 30 #[.string d, .slice U nU cU, .slice none 0 0, .int .i64 1, .slice none 0 0] by rw [← hw4, ← hD6]; exact Whole.made w3 _ _)
  have HB4 := Lib.hid (show Below w3.heap.size w3 w4 by rw [← hw4]; exact (Below.refl _ _).alloc (Nat.le_refl _) _)
  have hz4 : D6 + 1 ≤ w4.heap.size := HH4.out.lt
  clear hD6 hw4
  go_upto_region 4 with fail
  rw [HD6.out, HW4.out]
  go_wp2
  go_loopw [25] (fun i wr => ∃ (k : Nat) (A2 : Option Addr) (c2 : Nat) (Fs : List FR), k ≤ nU ∧ i = .int .i64 (k : Int) ∧ D6 + 1 ≤ wr.heap.size ∧ Hid (Below w3.heap.size w3 wr) ∧ Hid (Whole wr D6 30 #[.string d, .slice U nU cU, .slice A2 k c2, .int .i64 1, .slice none 0 0]) ∧ Hid (ROwn foR wr (D6 + 1) (.slice A2 k c2) Fs) ∧ Hid (Fs.map foK = (L.take k).map inbK)) (fun i _ => nU - (intOf i).toNat)
  case atStart => exact ⟨0, none, 0, [], Nat.zero_le _, by go_num, hz4, HB4, HH4, Lib.hid (ROwn.nil _ _), Lib.hid rfl⟩
  case round =>
    obtain ⟨k, A2, c2, Fs, hk, rfl, hzr, HR, HH, HF, HK⟩ := hrel
    by_cases hlt : k < nU
    · have h0 : (0 : Int) ≤ (k : Int) := by omega
      have h5 : (k : Int) < (nU : Int) := by omega
      obtain ⟨⟨n, p, q⟩, hx⟩ : ∃ x, L[k]? = some x := ⟨_, List.getElem?_eq_getElem (by rw [HLN.out]; exact hlt)⟩
      obtain ⟨b, of, rfl, hbz, c0, c1, c2'⟩ := user_at (HU3.out.2.2.1.below HR.out (Nat.le_refl _)) hx
      have HTK := Lib.hid (show L.take (k + 1) = L.take k ++ [(n, p, q)] by rw [List.take_add_one, hx]; rfl)
      have HLF : Hid (Fs.length = k) := Lib.hid HF.out.len.1.symm
      clear hx
      obtain ⟨E, hE⟩ : ∃ D, wr.heap.size = D := ⟨_, rfl⟩
      have HE := Lib.hid hE
      obtain ⟨w5, hw5⟩ : ∃ z, wr.alloc (.cells #[.string n, .string p, .int .i64 q] 42) = z := ⟨_, rfl⟩
      have HW5 := Lib.hid hw5
      have hb5 : Below wr.heap.size wr w5 := by rw [← hw5]; exact (Below.refl _ _).alloc (Nat.le_refl _) _
      have HEU := Lib.hid (show Whole w5 E 42 #[.string n, .string p, .int .i64 q] by rw [← hw5, ← hE]; exact Whole.made wr _ _)
      have HR5 := Lib.hid (HR.out.trans (hb5.mono HR.out.size))
      have HH5 := Lib.hid (HH.out.below hb5 HH.out.lt)
      have HF5 := Lib.hid (HF.out.kept hb5)
      clear hb5 hE hw5
      go_upto_region 7 with fail
      rw [HE.out, HW5.out]
      clear c0 c1 c2'
      obtain ⟨wz, hwz⟩ : ∃ z, w5.drew = z := ⟨_, rfl⟩
      have hbd : Below w5.heap.size w5 wz := by rw [← hwz]; exact (Below.refl _ _).drew
      have HWZ := Lib.hid hwz
      have HEz := Lib.hid (HEU.out.below hbd HEU.out.lt)
      have HRz := Lib.hid (HR5.out.trans (hbd.mono HR5.out.size))
      have HHz := Lib.hid (HH5.out.below hbd HH5.out.lt)
      have HFz := Lib.hid (HF5.out.kept hbd)
      clear hbd hwz
      have h2 := HHz.out.cell 2
      have e0 := HEz.out.cell 0
      simp only [List.getElem?_toArray, List.getElem?_cons_zero, List.getElem?_cons_succ] at h2 e0
      refine wp_region_late (fun w' => w'.cell? ⟨D6, 2, none⟩ = some (.slice A2 k c2) ∧ w'.cell? ⟨E, 0, none⟩ = some (.string n)) 8 (by kernel_rfl) ?_
      rw [HWZ.out]
      refine wpLate_take (i := 0) (v := ?v0y) rfl (by kernel_rfl) (by kernel_rfl) (by kernel_rfl) (by kernel_rfl) (by kernel_rfl) (fun _ _ _ h => h) ⟨h2, e0⟩ (by rfl) ?hy0y ?r0y
      case hy0y =>
        rintro wz ⟨z0, z1⟩
        go_simp
        try with_reducible rfl
      try simp only [Act.put]
      refine wpLate_take (i := 1) (v := ?v1y) rfl (by kernel_rfl) (by kernel_rfl) (by kernel_rfl) (by kernel_rfl) (by kernel_rfl) (fun _ _ _ h => h) ⟨h2, e0⟩ (by rfl) ?hy1y ?r1y
      case hy1y =>
        rintro wz ⟨z0, z1⟩
        go_simp
        try with_reducible rfl
      try simp only [Act.put]
      refine wpLate_take (i := 2) (v := ?v2y) rfl (by kernel_rfl) (by kernel_rfl) (by kernel_rfl) (by kernel_rfl) (by kernel_rfl) (fun _ _ _ h => h) ⟨h2, e0⟩ (by rfl) ?hy2y ?r2y
      case hy2y =>
        rintro wz ⟨z0, z1⟩
        go_simp
        try with_reducible rfl
      try simp only [Act.put]
      refine wpLate_take (i := 3) (v := ?v3y) rfl (by kernel_rfl) (by kernel_rfl) (by kernel_rfl) (by kernel_rfl) (by kernel_rfl) (fun _ _ _ h => h) ⟨h2, e0⟩ (by rfl) ?hy3y ?r3y
      case hy3y =>
        rintro wz ⟨z0, z1⟩
        go_simp
        try with_reducible rfl
      try simp only [Act.put]
      refine wpLate_one (i := 4) (by kernel_rfl) rfl (fun K hK => ?_)
      go_simp
      refine (new_folder n inbB wz).mono ?_
      rintro e w6 ⟨rfl, hb⟩
      have HE6 := Lib.hid (HEz.out.below hb HEz.out.lt)
      have HR6 := Lib.hid (HRz.out.trans (hb.mono HRz.out.size))
      have HH6 := Lib.hid (HHz.out.below hb HHz.out.lt)
      have HF6 := Lib.hid (HFz.out.kept hb)
      clear hb h2 e0
      have h2 := HH6.out.cell 2
      have e0 := HE6.out.cell 0
      simp only [List.getElem?_toArray, List.getElem?_cons_zero, List.getElem?_cons_succ] at h2 e0
      refine hK.out _ _ (fun _ => ⟨h2, e0⟩) ?_
      clear hK K
      try simp only [Act.put]
      refine wpLate_one (i := 5) (by kernel_rfl) rfl (fun K hK => ?_)
      obtain ⟨S7, hS7⟩ : ∃ D, w6.heap.size = D := ⟨_, rfl⟩
      obtain ⟨w7, hw7⟩ : ∃ z, w6.alloc (.cells #[.string n, .string inbB, .slice none 0 0, .int .i64 1, .slice none 0 0] 48) = z := ⟨_, rfl⟩
      have hb7 : Below w6.heap.size w6 w7 := by rw [← hw7]; exact (Below.refl _ _).alloc (Nat.le_refl _) _
      have HE7 := Lib.hid (HE6.out.below hb7 HE6.out.lt)
      have HR7 := Lib.hid (HR6.out.trans (hb7.mono HR6.out.size))
      have HH7 := Lib.hid (HH6.out.below hb7 HH6.out.lt)
      have HF7 := Lib.hid (HF6.out.kept hb7)
      have HM7 := Lib.hid (show RAt foR w7 (some ⟨S7, 0, none⟩) [((n, inbB, (none, 0), 1, (none, 0)) : FR)] by rw [← hw7]; exact RAt.made foR w6 [((n, inbB, (none, 0), 1, (none, 0)) : FR)] S7 hS7)
      clear hb7 h2 e0
      have h2 := HH7.out.cell 2
      have e0 := HE7.out.cell 0
      simp only [List.getElem?_toArray, List.getElem?_cons_zero, List.getElem?_cons_succ] at h2 e0
      go_simp
      refine hK.out _ _ (fun _ => ⟨h2, e0⟩) ?_
      clear hK K hS7 hw7
      try simp only [Act.put]
      obtain ⟨i0, hi, hq0, hq1, hq2⟩ := info_parts Try.infoFolder
      have hz7 : D6 + 1 ≤ w7.heap.size := HH7.out.lt
      have hk9 : nU ≤ 4194304 := HU3.out.2.1
      refine wpLate_one (i := 6) (by kernel_rfl) rfl (fun K hK => ?_)
      refine step_app_sl rfl (.tmp 30) (.tmp 34) 25 rfl foR (D6 + 1) i0 _ 88 Try.underlying25 hi hq0 hq1 hq2 rfl (by decide) _ Fs [((n, inbB, (none, 0), 1, (none, 0)) : FR)] k HLF.out rfl HF7.out (some ⟨S7, 0, none⟩) 1 1 rfl rfl HM7.out (fun e => by cases e) (fun q e => by cases e; rfl) (by unfold maxLen; omega) (by omega) hz7 ?_
      intro A3 N3 c3 w8 hof hgf
      have hN3 : N3 = k + 1 := by
        have h1 := hof.len.1
        rw [List.length_append, HLF.out] at h1
        exact h1
      subst hN3
      have hrow : ∀ g, Value.ownBlock (.slice A2 k c2) = some g → D6 + 1 ≤ g := fun g e => (World.ownsRow.lt HF7.out g e).1
      have HH8 := Lib.hid (HH7.out.grown hgf (fun e => by have := hrow D6 e.symm; omega))
      have HR8 : Hid (Below w3.heap.size w3 w8) := Lib.hid (HR7.out.grown hgf HR7.out.size (fun g e => by have h1 := hrow g e; have h2 := HD6.out; omega))
      have HF8 := Lib.hid hof
      have HEr : Hid (∃ u, w8.cell? ⟨E, 0, none⟩ = some u) := Lib.hid ⟨_, (HE7.out.grown hgf (fun e => by have h1 := (World.ownsRow.lt HF.out E e.symm).2; have h2 := HE.out; omega)).cell 0⟩
      have HE8 := Lib.hid (HE7.out.grown hgf (fun e => by have h1 := (World.ownsRow.lt HF.out E e.symm).2; have h2 := HE.out; omega))
      have hz8 : D6 + 1 ≤ w8.heap.size := HH8.out.lt
      clear hof hgf h2 e0 hrow
      have h2 := HH8.out.cell 2
      have g2 := HH8.out.free 2
      have e0 := HE8.out.cell 0
      simp only [List.getElem?_toArray, List.getElem?_cons_zero, List.getElem?_cons_succ] at h2 e0
      refine hK.out _ _ (fun _ => ⟨h2, e0⟩) ?_
      clear hK K
      try simp only [Act.put]
      refine wpLate_take (i := 7) (v := ?v7y) rfl (by kernel_rfl) (by kernel_rfl) (by kernel_rfl) (by kernel_rfl) (by kernel_rfl) (fun _ _ _ h => h) ⟨h2, e0⟩ (by rfl) ?hy7y ?r7y
      case hy7y =>
        rintro wz ⟨z0, z1⟩
        go_simp
        try with_reducible rfl
      try simp only [Act.put]
      refine wpLate_one (i := 8) (by kernel_rfl) rfl (fun K hK => ?_)
      go_simp
      refine hK.out _ _ (fun h => absurd rfl h) ?_
      clear hK K
      try simp only [Act.put]
      refine wpLate_done (by kernel_rfl) ?_ _
      have HH9 : Hid (Whole (w8.setCell ⟨D6, 2, none⟩ (.slice A3 (k + 1) c3)) D6 30 #[.string d, .slice U nU cU, .slice A3 (k + 1) c3, .int .i64 1, .slice none 0 0]) := Lib.hid (HH8.out.store 2 _)
      have HF9 := Lib.hid (HF8.out.store (p := ⟨D6, 2, none⟩) (fun e => by have h1 := (World.ownsRow.lt HF8.out D6 e).1; omega) (.slice A3 (k + 1) c3))
      have HR9 : Hid (Below w3.heap.size w3 (w8.setCell ⟨D6, 2, none⟩ (.slice A3 (k + 1) c3))) := Lib.hid (below_setN HR8.out (p := ⟨D6, 2, none⟩) (Nat.le_of_eq HD6.out) _)
      have HK9 : Hid ((Fs ++ [((n, inbB, (none, 0), 1, (none, 0)) : FR)]).map foK = (L.take (k + 1)).map inbK) := Lib.hid (by rw [List.map_append, HK.out, HTK.out, List.map_append]; rfl)
      have hz9 : D6 + 1 ≤ (w8.setCell ⟨D6, 2, none⟩ (.slice A3 (k + 1) c3)).heap.size := HH9.out.lt
      clear h2 g2 e0
      go_wp2
      go_roundw
      case rel => exact ⟨k + 1, A3, c3, _, by omega, by go_num, hz9, HR9, HH9, HF9, HK9⟩
      case measure => simp [intOf]; omega
    · have h5 : ¬ (k : Int) < (nU : Int) := by omega
      have hkn : k = nU := by omega
      subst hkn
      have HKE : Hid (Fs.map foK = L.map inbK) := Lib.hid (by have h1 := HK.out; rw [List.take_of_length_le (by rw [HLN.out]; exact Nat.le_refl _)] at h1; exact h1)
      have HXr := Lib.hid (HX3.out.below HR.out HX3.out.lt)
      have HBr := Lib.hid (HB3.out.trans (HR.out.mono HB3.out.size))
      have HOr := Lib.hid (HOU3.out.kept HR.out)
      have hDD6 : D < D6 := by have h1 := HX3.out.lt; have h2 := HD6.out; omega
      have xc0 := HXr.out.cell 0
      have xc1 := HXr.out.cell 1
      have xc2 := HXr.out.cell 2
      have xc3 := HXr.out.cell 3
      have xc4 := HXr.out.cell 4
      have xf0 := HXr.out.free 0
      have xf1 := HXr.out.free 1
      have xf2 := HXr.out.free 2
      have xf3 := HXr.out.free 3
      have xf4 := HXr.out.free 4
      simp only [List.getElem?_toArray, List.getElem?_cons_zero, List.getElem?_cons_succ] at xc0 xc1 xc2 xc3 xc4
      have hc0 := HH.out.cell 0
      have hc1 := HH.out.cell 1
      have hc2 := HH.out.cell 2
      have hc3 := HH.out.cell 3
      have hc4 := HH.out.cell 4
      simp only [List.getElem?_toArray, List.getElem?_cons_zero, List.getElem?_cons_succ] at hc0 hc1 hc2 hc3 hc4
      go_wp2
      refine bodyPost_ret (v := .tuple #[.agg #[.string d, .slice U k cU, .slice A2 k c2, .int .i64 1, .slice none 0 0], .bool true]) (by rw [results_cell_tmp Try.results7]; go_simp) rfl ?_
      have hD0 : D ≤ w2.heap.size := Nat.le_of_lt HX2.out.lt
      have hU1 : ∀ g, Value.ownBlock (.slice U k cU) = some g → D < g ∧ g < D6 := fun g e => by
        have h1 := World.ownsRow.lt HOU3.out g e
        have h2 := HX2.out.lt
        have h3 := HD6.out
        omega
      have hF1 : ∀ g, Value.ownBlock (.slice A2 k c2) = some g → D6 < g := fun g e => (World.ownsRow.lt HF.out g e).1
      have HBD : Below D w wr := HDD.out ▸ HBr.out
      exact ⟨U, A2, cU, c2, rfl, rown_five (HOr.out.from hD0) (fun e => by have := hU1 D e; omega) _ _ _ _ _, Fs, rown_five (HF.out.from (by omega)) (fun e => by have := hF1 D e; omega) _ _ _ _ _, HKE.out, fun b e e2 => by have h1 := hU1 b e; have h2 := hF1 b e2; omega, below_five HBD (Nat.le_refl _) _ _ _ _ _⟩
end Go.Proofs.Ytkhfflbgnojcfaa
namespace Go.Proofs.Ytkhfflbgnojcfaa
open Go.RowKit
set_option linter.unusedVariables false
set_option linter.unusedSimpArgs false

/-- What the model's HostNew gives. -/
def PHs (w : World) (d : ByteArray) (N : Nat) (L : List Us) (z : Bool) (e : Ending) (w' : World) : Prop :=
  Below w.heap.size w w' ∧ ∃ (U F I : Option Addr) (nU cU nF cF cI : Nat) (nx : Int) (dd : ByteArray) (Fs : List FR) (L2 : List Us), e = .returned (.tuple #[hoV dd U nU cU F nF cF nx I cI, .bool z]) ∧ ROwn usR w' w.heap.size (.slice U nU cU) L2 ∧ ROwn foR w' w.heap.size (.slice F nF cF) Fs ∧ (z = true → dd = d ∧ nx = 1 ∧ nU = N ∧ nF = N ∧ L2 = L ∧ Fs.map foK = L.map inbK) ∧ (z = false → dd = ⟨#[]⟩ ∧ nx = 0 ∧ nU = 0 ∧ nF = 0 ∧ L2 = [] ∧ Fs = [])
set_option maxRecDepth 20000 in
set_option maxHeartbeats 16000000 in
theorem spec_hostnew (d : ByteArray) {A : Option Addr} {N cap : Nat} {L : List Us} {z : Bool} (hz : (domB d.data.toList && vU L) = z) (w : World) (hds : d.size ≤ 16777216) (hu : UIn w A N cap L) :
    Calls Try.prog 5 #[.string d, .slice A N cap] w (PHs w d N L z) := by
  obtain ⟨D, hD⟩ : ∃ D, w.heap.size = D := ⟨_, rfl⟩
  obtain ⟨w0, hw0⟩ : ∃ z, w.alloc (.cells #[.string ⟨#[]⟩, .slice none 0 0, .slice none 0 0, .int .i64 0, .slice none 0 0] 30) = z := ⟨_, rfl⟩
  have hbw0 : Below w.heap.size w w0 := by rw [← hw0]; exact (Below.refl _ _).alloc (Nat.le_refl _) _
  have HX := Lib.hid (show Whole w0 D 30 #[.string ⟨#[]⟩, .slice none 0 0, .slice none 0 0, .int .i64 0, .slice none 0 0] by rw [← hw0, ← hD]; exact Whole.made w _ _)
  have HB := Lib.hid hbw0
  have HU := Lib.hid (hu.below hbw0 (Nat.le_refl _))
  have HDD := Lib.hid hD
  have HZ := Lib.hid hz
  have hNl := hu.2.1
  clear hbw0 hu hz
  obtain ⟨i0, hi, hq0, hq1, hq2⟩ := info_parts Try.infoUser
  have hat := HU.out.2.2.1
  obtain ⟨S1, hS1⟩ : ∃ B, w0.heap.size = B := ⟨_, rfl⟩
  have hown := ROwn.lit (R := usR) (B := S1) w0 S1 (by omega) hS1
  have hat3 := hat.below (below_new w0 (.cells #[] 42)) (Nat.le_refl _)
  have hml : 0 + N ≤ maxLen := by unfold maxLen; omega
  have hby : (0 + N) * 40 ≤ 140737488355328 := by omega
  have HBl := Lib.hid (hS1 ▸ below_new w0 (.cells #[] 42) : Below S1 w0 (w0.alloc (.cells #[] 42)))
  have HS1 := Lib.hid hS1
  have HN := Lib.hid HU.out.1
  have HA0 := Lib.hid HU.out.2.2.2.1
  have HSP := Lib.hid HU.out.2.2.2.2.1
  clear hat
  go_enter Try.func5, Try.ntmps5
  go_wp2_with (at_builtin; refine wpList_append_rows rfl (.tmp 9) (.tmp 10) 24 rfl usR S1 i0 _ 40 Try.underlying24 hi hq0 hq1 hq2 rfl (by decide) _ [] L 0 rfl rfl hown A N cap rfl HN.out hat3 HA0.out HSP.out hml hby (by simp; omega) ?_)
  intro v' w4 hown4 hgrow hnn
  obtain ⟨U, nU, cU, rfl⟩ := hown4.val
  have hnU : nU = N := by
    have h1 := hown4.len.1
    have h2 := HN.out
    omega
  subst hnU
  have HB4 : Hid (Below S1 w0 w4) := Lib.hid (HBl.out.grown hgrow (by simp; omega) (fun z hz => by simp [Value.ownBlock] at hz; omega))
  have HOU := Lib.hid hown4
  clear hown4 hgrow hown hnn hat3 hS1
  have HB0 := Lib.hid (show Below w0.heap.size w0 w4 by rw [HS1.out]; exact HB4.out)
  have HX4 := Lib.hid (HX.out.below HB0.out HX.out.lt)
  have HU4 := Lib.hid (HU.out.below HB0.out (Nat.le_refl _))
  obtain ⟨G1, hG1⟩ : ∃ D, w4.heap.size = D := ⟨_, rfl⟩
  obtain ⟨w5, hw5⟩ : ∃ z, w4.alloc (.cells #[] 48) = z := ⟨_, rfl⟩
  obtain ⟨G2, hG2⟩ : ∃ D, w5.heap.size = D := ⟨_, rfl⟩
  obtain ⟨w6, hw6⟩ : ∃ z, w5.alloc (.cells #[] 66) = z := ⟨_, rfl⟩
  obtain ⟨D6, hD6⟩ : ∃ D, w6.heap.size = D := ⟨_, rfl⟩
  obtain ⟨w7, hw7⟩ : ∃ z, w6.alloc (.cells #[.string d, .slice U nU cU, .slice (some ⟨G1, 0, none⟩) 0 0, .int .i64 1, .slice (some ⟨G2, 0, none⟩) 0 0] 30) = z := ⟨_, rfl⟩
  have HG1 := Lib.hid hG1
  have HW5 := Lib.hid hw5
  have HG2 := Lib.hid hG2
  have HW6 := Lib.hid hw6
  have HD6 := Lib.hid hD6
  have HW7 := Lib.hid hw7
  have HG : Hid (w4.heap.size = G1 ∧ G1 < G2 ∧ G2 < D6) := Lib.hid (by
    have h1 : w5.heap.size = w4.heap.size + 1 := by rw [← hw5]; simp
    have h2 : w6.heap.size = w5.heap.size + 1 := by rw [← hw6]; simp
    omega)
  have hf5 : ROwn foR w5 G1 (.slice (some ⟨G1, 0, none⟩) 0 0) [] := by rw [← hw5]; exact ROwn.lit w4 G1 (by omega) hG1
  have HF7 := Lib.hid (show ROwn foR w7 G1 (.slice (some ⟨G1, 0, none⟩) 0 0) [] by rw [← hw7, ← hw6]; exact (hf5.alloc _).alloc _)
  have HR7 := Lib.hid (show Below w4.heap.size w4 w7 by rw [← hw7, ← hw6, ← hw5]; exact ((((Below.refl _ _).alloc (Nat.le_refl _) _).alloc (by simp) _).alloc (by simp; omega) _))
  have HH7 := Lib.hid (show Whole w7 D6 30 #[.string d, .slice U nU cU, .slice (some ⟨G1, 0, none⟩) 0 0, .int .i64 1, .slice (some ⟨G2, 0, none⟩) 0 0] by rw [← hw7, ← hD6]; exact Whole.made w6 _ _)
  have HE2 : Hid (G1 + 1 = G2) := Lib.hid (by
    have h1 : w5.heap.size = w4.heap.size + 1 := by rw [← hw5]; simp
    omega)
  have HE6 : Hid (G2 + 1 = D6) := Lib.hid (by
    have h2 : w6.heap.size = w5.heap.size + 1 := by rw [← hw6]; simp
    omega)
  clear hf5 hG1 hw5 hG2 hw6 hD6 hw7 hi hq0 hq1 hq2
  go_upto_region 2 with fail
  try rw [HG1.out]
  rw [HW5.out, HE2.out, HW6.out, HE6.out, HW7.out]
  go_wp2
  go_loopw [7] (fun i wr => ∃ (k : Nat) (A2 : Option Addr) (c2 : Nat) (Fs : List FR), k ≤ nU ∧ i = .int .i64 (k : Int) ∧ Hid (Below w4.heap.size w4 wr) ∧ Hid (Whole wr D6 30 #[.string d, .slice U nU cU, .slice A2 k c2, .int .i64 1, .slice (some ⟨G2, 0, none⟩) 0 0]) ∧ Hid (ROwn foR wr G1 (.slice A2 k c2) Fs) ∧ Hid (Fs.map foK = (L.take k).map inbK)) (fun i _ => nU - (intOf i).toNat)
  case atStart => exact ⟨0, some ⟨G1, 0, none⟩, 0, [], Nat.zero_le _, by go_num, HR7, HH7, HF7, Lib.hid rfl⟩
  case round =>
    obtain ⟨k, A2, c2, Fs, hk, rfl, HR, HH, HF, HK⟩ := hrel
    by_cases hlt : k < nU
    · have h0 : (0 : Int) ≤ (k : Int) := by omega
      have h5 : (k : Int) < (nU : Int) := by omega
      obtain ⟨⟨n, p, q⟩, hx⟩ : ∃ x, L[k]? = some x := ⟨_, List.getElem?_eq_getElem (by rw [HN.out]; exact hlt)⟩
      obtain ⟨b, of, rfl, hbz, c0, c1, c2'⟩ := user_at HU4.out.2.2.1 hx
      have HCB := Lib.hid (And.intro c0 hbz)
      have HTK := Lib.hid (show L.take (k + 1) = L.take k ++ [(n, p, q)] by rw [List.take_add_one, hx]; rfl)
      have HLF : Hid (Fs.length = k) := Lib.hid HF.out.len.1.symm
      have hk9 : nU ≤ 4194304 := HU4.out.2.1
      clear hx c0 c1 c2' hbz
      obtain ⟨wz, hwz⟩ : ∃ z, wr.drew = z := ⟨_, rfl⟩
      have hbd : Below wr.heap.size wr wz := by rw [← hwz]; exact (Below.refl _ _).drew
      have HWZ := Lib.hid hwz
      have HRz := Lib.hid (HR.out.trans (hbd.mono HR.out.size))
      have HHz := Lib.hid (HH.out.below hbd HH.out.lt)
      have HFz := Lib.hid (HF.out.kept hbd)
      have HCz := Lib.hid (And.intro ((HRz.out.cell (p := ⟨b, of + k * 3, none⟩) HCB.out.2).trans HCB.out.1) (Nat.lt_of_lt_of_le HCB.out.2 HRz.out.size))
      clear hbd hwz
      have h2 := HHz.out.cell 2
      have e0 := HCz.out.1
      simp only [List.getElem?_toArray, List.getElem?_cons_zero, List.getElem?_cons_succ] at h2
      go_upto_region 5 with fail
      refine wp_region_late (fun w' => w'.cell? ⟨D6, 2, none⟩ = some (.slice A2 k c2) ∧ w'.cell? ⟨b, of + k * 3, none⟩ = some (.string n)) 14 (by kernel_rfl) ?_
      rw [HWZ.out]
      refine wpLate_take (i := 0) (v := ?v0x) rfl (by kernel_rfl) (by kernel_rfl) (by kernel_rfl) (by kernel_rfl) (by kernel_rfl) (fun _ _ _ h => h) ⟨h2, e0⟩ (by rfl) ?hy0x ?r0x
      case hy0x =>
        rintro wz ⟨z0, z1⟩
        go_simp
        try with_reducible rfl
      try simp only [Act.put]
      refine wpLate_take (i := 1) (v := ?v1x) rfl (by kernel_rfl) (by kernel_rfl) (by kernel_rfl) (by kernel_rfl) (by kernel_rfl) (fun _ _ _ h => h) ⟨h2, e0⟩ (by rfl) ?hy1x ?r1x
      case hy1x =>
        rintro wz ⟨z0, z1⟩
        go_simp
        try with_reducible rfl
      try simp only [Act.put]
      refine wpLate_take (i := 2) (v := ?v2x) rfl (by kernel_rfl) (by kernel_rfl) (by kernel_rfl) (by kernel_rfl) (by kernel_rfl) (fun _ _ _ h => h) ⟨h2, e0⟩ (by rfl) ?hy2x ?r2x
      case hy2x =>
        rintro wz ⟨z0, z1⟩
        go_simp
        try with_reducible rfl
      try simp only [Act.put]
      refine wpLate_take (i := 3) (v := ?v3x) rfl (by kernel_rfl) (by kernel_rfl) (by kernel_rfl) (by kernel_rfl) (by kernel_rfl) (fun _ _ _ h => h) ⟨h2, e0⟩ (by rfl) ?hy3x ?r3x
      case hy3x =>
        rintro wz ⟨z0, z1⟩
        go_simp
        try with_reducible rfl
      try simp only [Act.put]
      refine wpLate_take (i := 4) (v := ?v4x) rfl (by kernel_rfl) (by kernel_rfl) (by kernel_rfl) (by kernel_rfl) (by kernel_rfl) (fun _ _ _ h => h) ⟨h2, e0⟩ (by rfl) ?hy4x ?r4x
      case hy4x =>
        rintro wz ⟨z0, z1⟩
        go_simp
        try with_reducible rfl
      try simp only [Act.put]
      refine wpLate_take (i := 5) (v := ?v5x) rfl (by kernel_rfl) (by kernel_rfl) (by kernel_rfl) (by kernel_rfl) (by kernel_rfl) (fun _ _ _ h => h) ⟨h2, e0⟩ (by rfl) ?hy5x ?r5x
      case hy5x =>
        rintro wz ⟨z0, z1⟩
        go_simp
        try with_reducible rfl
      try simp only [Act.put]
      refine wpLate_take (i := 6) (v := ?v6x) rfl (by kernel_rfl) (by kernel_rfl) (by kernel_rfl) (by kernel_rfl) (by kernel_rfl) (fun _ _ _ h => h) ⟨h2, e0⟩ (by rfl) ?hy6x ?r6x
      case hy6x =>
        rintro wz ⟨z0, z1⟩
        go_simp
        try with_reducible rfl
      try simp only [Act.put]
      refine wpLate_two (i := 7) (k := 8) (by kernel_rfl) rfl rfl (fun K hK => ?g7) (fun K hK => ?g8)
      case g7 =>
        obtain ⟨Sp, hSp⟩ : ∃ D, wz.heap.size = D := ⟨_, rfl⟩
        obtain ⟨wp, hwp⟩ : ∃ z, wz.alloc (.cells #[] 95) = z := ⟨_, rfl⟩
        have hbp : Below wz.heap.size wz wp := by rw [← hwp]; exact (Below.refl _ _).alloc (Nat.le_refl _) _
        have HHp := Lib.hid (HHz.out.below hbp HHz.out.lt)
        have HRp := Lib.hid (HRz.out.trans (hbp.mono HRz.out.size))
        have HFp := Lib.hid (HFz.out.kept hbp)
        have HCp := Lib.hid ((hbp.cell (p := ⟨b, of + k * 3, none⟩) (HCz.out.2)).trans HCz.out.1)
        have HCp := Lib.hid (And.intro HCp.out (show b < _ from Nat.lt_of_lt_of_le HCz.out.2 hbp.size))
        clear hbp h2 e0
        have h2 := HHp.out.cell 2
        have e0 := HCp.out.1
        simp only [List.getElem?_toArray, List.getElem?_cons_zero, List.getElem?_cons_succ] at h2
        go_simp
        refine hK.out _ _ (fun _ => ⟨h2, e0⟩) ?_
        clear hK K
        try simp only [Act.put]
        refine wpLate_one (i := 8) (by kernel_rfl) rfl (fun K hK => ?_)
        obtain ⟨Sq, hSq⟩ : ∃ D, wp.heap.size = D := ⟨_, rfl⟩
        obtain ⟨wq, hwq⟩ : ∃ z, wp.alloc (.cells #[] 97) = z := ⟨_, rfl⟩
        have hbq : Below wp.heap.size wp wq := by rw [← hwq]; exact (Below.refl _ _).alloc (Nat.le_refl _) _
        have HHq := Lib.hid (HHp.out.below hbq HHp.out.lt)
        have HRq := Lib.hid (HRp.out.trans (hbq.mono HRp.out.size))
        have HFq := Lib.hid (HFp.out.kept hbq)
        have HCq := Lib.hid ((hbq.cell (p := ⟨b, of + k * 3, none⟩) (HCp.out.2)).trans HCp.out.1)
        have HCq := Lib.hid (And.intro HCq.out (show b < _ from Nat.lt_of_lt_of_le HCp.out.2 hbq.size))
        clear hbq h2 e0
        have h2 := HHq.out.cell 2
        have e0 := HCq.out.1
        simp only [List.getElem?_toArray, List.getElem?_cons_zero, List.getElem?_cons_succ] at h2
        go_simp
        refine hK.out _ _ (fun _ => ⟨h2, e0⟩) ?_
        clear hK K
        try simp only [Act.put]
        refine wpLate_take (i := 9) (v := ?v9u) rfl (by kernel_rfl) (by kernel_rfl) (by kernel_rfl) (by kernel_rfl) (by kernel_rfl) (fun _ _ _ h => h) ⟨h2, e0⟩ (by rfl) ?hy9u ?r9u
        case hy9u =>
          rintro wz ⟨z0, z1⟩
          go_simp
          try with_reducible rfl
        try simp only [Act.put]
        refine wpLate_take (i := 10) (v := ?v10u) rfl (by kernel_rfl) (by kernel_rfl) (by kernel_rfl) (by kernel_rfl) (by kernel_rfl) (fun _ _ _ h => h) ⟨h2, e0⟩ (by rfl) ?hy10u ?r10u
        case hy10u =>
          rintro wz ⟨z0, z1⟩
          go_simp
          try with_reducible rfl
        try simp only [Act.put]
        refine wpLate_one (i := 11) (by kernel_rfl) rfl (fun K hK => ?_)
        obtain ⟨Sl, hSl⟩ : ∃ D, wq.heap.size = D := ⟨_, rfl⟩
        obtain ⟨wl, hwl⟩ : ∃ z, wq.alloc (.cells #[.string n, .string ⟨#[105, 110, 98, 111, 120]⟩, .slice (some ⟨Sp, 0, none⟩) 0 0, .int .i64 1, .slice (some ⟨Sq, 0, none⟩) 0 0] 48) = z := ⟨_, rfl⟩
        have hbl : Below wq.heap.size wq wl := by rw [← hwl]; exact (Below.refl _ _).alloc (Nat.le_refl _) _
        have HHl := Lib.hid (HHq.out.below hbl HHq.out.lt)
        have HRl := Lib.hid (HRq.out.trans (hbl.mono HRq.out.size))
        have HFl := Lib.hid (HFq.out.kept hbl)
        have HCl := Lib.hid ((hbl.cell (p := ⟨b, of + k * 3, none⟩) (HCq.out.2)).trans HCq.out.1)
        have HCl := Lib.hid (And.intro HCl.out (show b < _ from Nat.lt_of_lt_of_le HCq.out.2 hbl.size))
        clear hbl h2 e0
        have h2 := HHl.out.cell 2
        have e0 := HCl.out.1
        simp only [List.getElem?_toArray, List.getElem?_cons_zero, List.getElem?_cons_succ] at h2
        go_simp
        refine hK.out _ _ (fun _ => ⟨h2, e0⟩) ?_
        have HMl := Lib.hid (show RAt foR wl (some ⟨Sl, 0, none⟩) [((n, inbB, (some ⟨Sp, 0, none⟩, 0), 1, (some ⟨Sq, 0, none⟩, 0)) : FR)] by rw [← hwl]; exact RAt.made foR wq [((n, inbB, (some ⟨Sp, 0, none⟩, 0), 1, (some ⟨Sq, 0, none⟩, 0)) : FR)] Sl hSl)
        clear hK K hSl hwl
        try simp only [Act.put]
        obtain ⟨i0, hi, hq0, hq1, hq2⟩ := info_parts Try.infoFolder
        refine wpLate_one (i := 12) (by kernel_rfl) rfl (fun K hK => ?_)
        refine step_app_sl rfl (.tmp 23) (.tmp 33) 25 rfl foR G1 i0 _ 88 Try.underlying25 hi hq0 hq1 hq2 rfl (by decide) _ Fs [((n, inbB, (some ⟨Sp, 0, none⟩, 0), 1, (some ⟨Sq, 0, none⟩, 0)) : FR)] k HLF.out rfl HFl.out (some ⟨Sl, 0, none⟩) 1 1 rfl rfl HMl.out (fun e => by cases e) (fun q e => by cases e; rfl) (by unfold maxLen; omega) (by omega) (by have h1 := HHl.out.lt; have h2 := HG.out; omega) ?_
        intro A3 N3 c3 w8 hof hgf
        have hN3 : N3 = k + 1 := by
          have h1 := hof.len.1
          rw [List.length_append, HLF.out] at h1
          exact h1
        subst hN3
        have HH8 := Lib.hid (HHl.out.grown hgf (fun e => (HFl.out.whole HHl.out (by decide)) e.symm))
        have HR8 : Hid (Below w4.heap.size w4 w8) := Lib.hid (HRl.out.grown hgf HRl.out.size (fun g e => by have h1 := (World.ownsRow.lt HFl.out g e).1; have h2 := HG.out; omega))
        have HF8 := Lib.hid hof
        have HC8 := Lib.hid ((HR8.out.cell (p := ⟨b, of + k * 3, none⟩) HCB.out.2).trans HCB.out.1)
        clear hof hgf h2 e0
        have h2 := HH8.out.cell 2
        have g2 := HH8.out.free 2
        have e0 := HC8.out
        simp only [List.getElem?_toArray, List.getElem?_cons_zero, List.getElem?_cons_succ] at h2
        refine hK.out _ _ (fun _ => ⟨h2, e0⟩) ?_
        clear hK K
        try simp only [Act.put]
        refine wpLate_take (i := 13) (v := ?v13ya) rfl (by kernel_rfl) (by kernel_rfl) (by kernel_rfl) (by kernel_rfl) (by kernel_rfl) (fun _ _ _ h => h) ⟨h2, e0⟩ (by rfl) ?hy13ya ?r13ya
        case hy13ya =>
          rintro wz ⟨z0, z1⟩
          go_simp
          try with_reducible rfl
        try simp only [Act.put]
        refine wpLate_one (i := 14) (by kernel_rfl) rfl (fun K hK => ?_)
        go_simp
        refine hK.out _ _ (fun h => absurd rfl h) ?_
        clear hK K
        try simp only [Act.put]
        refine wpLate_done (by kernel_rfl) ?_ _
        have hne8 := HF8.out.whole HH8.out (by decide)
        have HH9 : Hid (Whole (w8.setCell ⟨D6, 2, none⟩ (.slice A3 (k + 1) c3)) D6 30 #[.string d, .slice U nU cU, .slice A3 (k + 1) c3, .int .i64 1, .slice (some ⟨G2, 0, none⟩) 0 0]) := Lib.hid (HH8.out.store 2 _)
        have HF9 := Lib.hid (HF8.out.store (p := ⟨D6, 2, none⟩) hne8 (.slice A3 (k + 1) c3))
        have HR9 : Hid (Below w4.heap.size w4 (w8.setCell ⟨D6, 2, none⟩ (.slice A3 (k + 1) c3))) := Lib.hid (below_setN HR8.out (p := ⟨D6, 2, none⟩) (by have h2 := HG.out; show w4.heap.size ≤ D6; omega) _)
        have HK9 : Hid ((Fs ++ [((n, inbB, (some ⟨Sp, 0, none⟩, 0), 1, (some ⟨Sq, 0, none⟩, 0)) : FR)]).map foK = (L.take (k + 1)).map inbK) := Lib.hid (by rw [List.map_append, HK.out, HTK.out, List.map_append]; rfl)
        clear h2 g2 e0 hne8
        go_wp2
        go_roundw
        case rel => exact ⟨k + 1, A3, c3, _, by omega, by go_num, HR9, HH9, HF9, HK9⟩
        case measure => simp [intOf]; omega
      case g8 =>
        obtain ⟨Sp, hSp⟩ : ∃ D, wz.heap.size = D := ⟨_, rfl⟩
        obtain ⟨wp, hwp⟩ : ∃ z, wz.alloc (.cells #[] 97) = z := ⟨_, rfl⟩
        have hbp : Below wz.heap.size wz wp := by rw [← hwp]; exact (Below.refl _ _).alloc (Nat.le_refl _) _
        have HHp := Lib.hid (HHz.out.below hbp HHz.out.lt)
        have HRp := Lib.hid (HRz.out.trans (hbp.mono HRz.out.size))
        have HFp := Lib.hid (HFz.out.kept hbp)
        have HCp := Lib.hid ((hbp.cell (p := ⟨b, of + k * 3, none⟩) (HCz.out.2)).trans HCz.out.1)
        have HCp := Lib.hid (And.intro HCp.out (show b < _ from Nat.lt_of_lt_of_le HCz.out.2 hbp.size))
        clear hbp h2 e0
        have h2 := HHp.out.cell 2
        have e0 := HCp.out.1
        simp only [List.getElem?_toArray, List.getElem?_cons_zero, List.getElem?_cons_succ] at h2
        go_simp
        refine hK.out _ _ (fun _ => ⟨h2, e0⟩) ?_
        clear hK K
        try simp only [Act.put]
        refine wpLate_take (i := 9) (v := ?v9v) rfl (by kernel_rfl) (by kernel_rfl) (by kernel_rfl) (by kernel_rfl) (by kernel_rfl) (fun _ _ _ h => h) ⟨h2, e0⟩ (by rfl) ?hy9v ?r9v
        case hy9v =>
          rintro wz ⟨z0, z1⟩
          go_simp
          try with_reducible rfl
        try simp only [Act.put]
        refine wpLate_one (i := 7) (by kernel_rfl) rfl (fun K hK => ?_)
        obtain ⟨Sq, hSq⟩ : ∃ D, wp.heap.size = D := ⟨_, rfl⟩
        obtain ⟨wq, hwq⟩ : ∃ z, wp.alloc (.cells #[] 95) = z := ⟨_, rfl⟩
        have hbq : Below wp.heap.size wp wq := by rw [← hwq]; exact (Below.refl _ _).alloc (Nat.le_refl _) _
        have HHq := Lib.hid (HHp.out.below hbq HHp.out.lt)
        have HRq := Lib.hid (HRp.out.trans (hbq.mono HRp.out.size))
        have HFq := Lib.hid (HFp.out.kept hbq)
        have HCq := Lib.hid ((hbq.cell (p := ⟨b, of + k * 3, none⟩) (HCp.out.2)).trans HCp.out.1)
        have HCq := Lib.hid (And.intro HCq.out (show b < _ from Nat.lt_of_lt_of_le HCp.out.2 hbq.size))
        clear hbq h2 e0
        have h2 := HHq.out.cell 2
        have e0 := HCq.out.1
        simp only [List.getElem?_toArray, List.getElem?_cons_zero, List.getElem?_cons_succ] at h2
        go_simp
        refine hK.out _ _ (fun _ => ⟨h2, e0⟩) ?_
        clear hK K
        try simp only [Act.put]
        refine wpLate_take (i := 10) (v := ?v10v) rfl (by kernel_rfl) (by kernel_rfl) (by kernel_rfl) (by kernel_rfl) (by kernel_rfl) (fun _ _ _ h => h) ⟨h2, e0⟩ (by rfl) ?hy10v ?r10v
        case hy10v =>
          rintro wz ⟨z0, z1⟩
          go_simp
          try with_reducible rfl
        try simp only [Act.put]
        refine wpLate_one (i := 11) (by kernel_rfl) rfl (fun K hK => ?_)
        obtain ⟨Sl, hSl⟩ : ∃ D, wq.heap.size = D := ⟨_, rfl⟩
        obtain ⟨wl, hwl⟩ : ∃ z, wq.alloc (.cells #[.string n, .string ⟨#[105, 110, 98, 111, 120]⟩, .slice (some ⟨Sq, 0, none⟩) 0 0, .int .i64 1, .slice (some ⟨Sp, 0, none⟩) 0 0] 48) = z := ⟨_, rfl⟩
        have hbl : Below wq.heap.size wq wl := by rw [← hwl]; exact (Below.refl _ _).alloc (Nat.le_refl _) _
        have HHl := Lib.hid (HHq.out.below hbl HHq.out.lt)
        have HRl := Lib.hid (HRq.out.trans (hbl.mono HRq.out.size))
        have HFl := Lib.hid (HFq.out.kept hbl)
        have HCl := Lib.hid ((hbl.cell (p := ⟨b, of + k * 3, none⟩) (HCq.out.2)).trans HCq.out.1)
        have HCl := Lib.hid (And.intro HCl.out (show b < _ from Nat.lt_of_lt_of_le HCq.out.2 hbl.size))
        clear hbl h2 e0
        have h2 := HHl.out.cell 2
        have e0 := HCl.out.1
        simp only [List.getElem?_toArray, List.getElem?_cons_zero, List.getElem?_cons_succ] at h2
        go_simp
        refine hK.out _ _ (fun _ => ⟨h2, e0⟩) ?_
        have HMl := Lib.hid (show RAt foR wl (some ⟨Sl, 0, none⟩) [((n, inbB, (some ⟨Sq, 0, none⟩, 0), 1, (some ⟨Sp, 0, none⟩, 0)) : FR)] by rw [← hwl]; exact RAt.made foR wq [((n, inbB, (some ⟨Sq, 0, none⟩, 0), 1, (some ⟨Sp, 0, none⟩, 0)) : FR)] Sl hSl)
        clear hK K hSl hwl
        try simp only [Act.put]
        obtain ⟨i0, hi, hq0, hq1, hq2⟩ := info_parts Try.infoFolder
        refine wpLate_one (i := 12) (by kernel_rfl) rfl (fun K hK => ?_)
        refine step_app_sl rfl (.tmp 23) (.tmp 33) 25 rfl foR G1 i0 _ 88 Try.underlying25 hi hq0 hq1 hq2 rfl (by decide) _ Fs [((n, inbB, (some ⟨Sq, 0, none⟩, 0), 1, (some ⟨Sp, 0, none⟩, 0)) : FR)] k HLF.out rfl HFl.out (some ⟨Sl, 0, none⟩) 1 1 rfl rfl HMl.out (fun e => by cases e) (fun q e => by cases e; rfl) (by unfold maxLen; omega) (by omega) (by have h1 := HHl.out.lt; have h2 := HG.out; omega) ?_
        intro A3 N3 c3 w8 hof hgf
        have hN3 : N3 = k + 1 := by
          have h1 := hof.len.1
          rw [List.length_append, HLF.out] at h1
          exact h1
        subst hN3
        have HH8 := Lib.hid (HHl.out.grown hgf (fun e => (HFl.out.whole HHl.out (by decide)) e.symm))
        have HR8 : Hid (Below w4.heap.size w4 w8) := Lib.hid (HRl.out.grown hgf HRl.out.size (fun g e => by have h1 := (World.ownsRow.lt HFl.out g e).1; have h2 := HG.out; omega))
        have HF8 := Lib.hid hof
        have HC8 := Lib.hid ((HR8.out.cell (p := ⟨b, of + k * 3, none⟩) HCB.out.2).trans HCB.out.1)
        clear hof hgf h2 e0
        have h2 := HH8.out.cell 2
        have g2 := HH8.out.free 2
        have e0 := HC8.out
        simp only [List.getElem?_toArray, List.getElem?_cons_zero, List.getElem?_cons_succ] at h2
        refine hK.out _ _ (fun _ => ⟨h2, e0⟩) ?_
        clear hK K
        try simp only [Act.put]
        refine wpLate_take (i := 13) (v := ?v13yb) rfl (by kernel_rfl) (by kernel_rfl) (by kernel_rfl) (by kernel_rfl) (by kernel_rfl) (fun _ _ _ h => h) ⟨h2, e0⟩ (by rfl) ?hy13yb ?r13yb
        case hy13yb =>
          rintro wz ⟨z0, z1⟩
          go_simp
          try with_reducible rfl
        try simp only [Act.put]
        refine wpLate_one (i := 14) (by kernel_rfl) rfl (fun K hK => ?_)
        go_simp
        refine hK.out _ _ (fun h => absurd rfl h) ?_
        clear hK K
        try simp only [Act.put]
        refine wpLate_done (by kernel_rfl) ?_ _
        have hne8 := HF8.out.whole HH8.out (by decide)
        have HH9 : Hid (Whole (w8.setCell ⟨D6, 2, none⟩ (.slice A3 (k + 1) c3)) D6 30 #[.string d, .slice U nU cU, .slice A3 (k + 1) c3, .int .i64 1, .slice (some ⟨G2, 0, none⟩) 0 0]) := Lib.hid (HH8.out.store 2 _)
        have HF9 := Lib.hid (HF8.out.store (p := ⟨D6, 2, none⟩) hne8 (.slice A3 (k + 1) c3))
        have HR9 : Hid (Below w4.heap.size w4 (w8.setCell ⟨D6, 2, none⟩ (.slice A3 (k + 1) c3))) := Lib.hid (below_setN HR8.out (p := ⟨D6, 2, none⟩) (by have h2 := HG.out; show w4.heap.size ≤ D6; omega) _)
        have HK9 : Hid ((Fs ++ [((n, inbB, (some ⟨Sq, 0, none⟩, 0), 1, (some ⟨Sp, 0, none⟩, 0)) : FR)]).map foK = (L.take (k + 1)).map inbK) := Lib.hid (by rw [List.map_append, HK.out, HTK.out, List.map_append]; rfl)
        clear h2 g2 e0 hne8
        go_wp2
        go_roundw
        case rel => exact ⟨k + 1, A3, c3, _, by omega, by go_num, HR9, HH9, HF9, HK9⟩
        case measure => simp [intOf]; omega
    · have h5 : ¬ (k : Int) < (nU : Int) := by omega
      have hkn : k = nU := by omega
      subst hkn
      have HKE : Hid (Fs.map foK = L.map inbK) := Lib.hid (by have h1 := HK.out; rw [List.take_of_length_le (by rw [HN.out]; exact Nat.le_refl _)] at h1; exact h1)
      have HUr := Lib.hid (UIn.below HU4.out HR.out (Nat.le_refl _))
      have hk9 : k ≤ 4194304 := HU4.out.2.1
      have HOr := Lib.hid (HOU.out.kept HR.out)
      have HXr := Lib.hid (HX4.out.below HR.out HX4.out.lt)
      have HUo := Lib.hid (show UIn wr U k cU L from ⟨HN.out, hk9, HOr.out.at, HOr.out.nilcap, HOr.out.spot, HU4.out.2.2.2.2.2⟩)
      have hc0 := HH.out.cell 0
      have hc1 := HH.out.cell 1
      have hc2 := HH.out.cell 2
      have hc3 := HH.out.cell 3
      have hc4 := HH.out.cell 4
      simp only [List.getElem?_toArray, List.getElem?_cons_zero, List.getElem?_cons_succ] at hc0 hc1 hc2 hc3 hc4
      go_wp2_with fail
      refine (hostvalid0 d U A2 (some ⟨G2, 0, none⟩) k cU k c2 0 HZ.out wr hds HUo.out (FIn.of HF.out hk9) HKE.out).mono ?_
      rintro e w9 ⟨rfl, hb⟩
      have HB9 := Lib.hid ((HB.out.trans (HB0.out.mono HB.out.size)).trans ((HR.out.mono (HB.out.trans (HB0.out.mono HB.out.size)).size)))
      have HBA := Lib.hid (HB9.out.trans (hb.mono HB9.out.size))
      have HX9 := Lib.hid (HXr.out.below hb HXr.out.lt)
      have HH9 := Lib.hid (HH.out.below hb HH.out.lt)
      have HF9 := Lib.hid (HF.out.kept hb)
      have HO9 := Lib.hid (HOr.out.kept hb)
      have hS1D : D < S1 := by have h1 := HX.out.lt; have h2 := HS1.out; omega
      have hD1 : ∀ g, Value.ownBlock (.slice U k cU) = some g → D < g := fun g e => by have h1 := (World.ownsRow.lt HOU.out g e).1; omega
      have hD2 : ∀ g, Value.ownBlock (.slice A2 k c2) = some g → D < g := fun g e => by have h1 := (World.ownsRow.lt HF.out g e).1; have h2 := HG.out; have h3 := HX4.out.lt; omega
      have hDw : w.heap.size ≤ D := Nat.le_of_eq HDD.out
      have hDG : D ≤ G1 := by have h2 := HG.out; have h3 := HX4.out.lt; omega
      clear hb hc0 hc1 hc2 hc3 hc4
      have xc0 := HX9.out.cell 0
      have xc1 := HX9.out.cell 1
      have xc2 := HX9.out.cell 2
      have xc3 := HX9.out.cell 3
      have xc4 := HX9.out.cell 4
      have xf0 := HX9.out.free 0
      have xf1 := HX9.out.free 1
      have xf2 := HX9.out.free 2
      have xf3 := HX9.out.free 3
      have xf4 := HX9.out.free 4
      have hc0 := HH9.out.cell 0
      have hc1 := HH9.out.cell 1
      have hc2 := HH9.out.cell 2
      have hc3 := HH9.out.cell 3
      have hc4 := HH9.out.cell 4
      simp only [List.getElem?_toArray, List.getElem?_cons_zero, List.getElem?_cons_succ] at xc0 xc1 xc2 xc3 xc4 hc0 hc1 hc2 hc3 hc4
      cases z with
      | false =>
        go_wp2
        refine bodyPost_ret (v := .tuple #[.agg #[.string ⟨#[]⟩, .slice none 0 0, .slice none 0 0, .int .i64 0, .slice none 0 0], .bool false]) (by rw [results_cell_tmp Try.results5]; go_simp) rfl ?_
        exact ⟨below_five HBA.out hDw _ _ _ _ _, none, none, none, 0, 0, 0, 0, 0, 0, ⟨#[]⟩, [], [], rfl, ROwn.nil _ _, ROwn.nil _ _, fun h => (by cases h), fun _ => ⟨rfl, rfl, rfl, rfl, rfl, rfl⟩⟩
      | true =>
        go_wp2
        refine bodyPost_ret (v := .tuple #[.agg #[.string d, .slice U k cU, .slice A2 k c2, .int .i64 1, .slice (some ⟨G2, 0, none⟩) 0 0], .bool true]) (by rw [results_cell_tmp Try.results5]; go_simp) rfl ?_
        exact ⟨below_five HBA.out hDw _ _ _ _ _, U, A2, some ⟨G2, 0, none⟩, k, cU, k, c2, 0, 1, d, Fs, L, rfl, rown_five (HO9.out.from (by omega)) (fun e => by have := hD1 D e; omega) _ _ _ _ _, rown_five (HF9.out.from (by omega)) (fun e => by have := hD2 D e; omega) _ _ _ _ _, fun _ => ⟨rfl, rfl, rfl, rfl, rfl, HKE.out⟩, fun h => (by cases h)⟩
end Go.Proofs.Ytkhfflbgnojcfaa
namespace Go.Proofs.Ytkhfflbgnojcfaa
open Go.RowKit
set_option linter.unusedVariables false
set_option linter.unusedSimpArgs false

/-- What the code's HostNew gives. -/
def PHi (w : World) (d : ByteArray) (N : Nat) (L : List Us) (z : Bool) (e : Ending) (w' : World) : Prop :=
  Below w.heap.size w w' ∧ ∃ (U F I : Option Addr) (nU cU nF cF cI : Nat) (nx : Int) (dd : ByteArray) (Fs : List FR) (L2 : List Us), e = .returned (.tuple #[hoV dd U nU cU F nF cF nx I cI, .bool z]) ∧ ROwn usR w' w.heap.size (.slice U nU cU) L2 ∧ ROwn foR w' w.heap.size (.slice F nF cF) Fs ∧ (∀ b, (Value.slice U nU cU).ownBlock = some b → (Value.slice F nF cF).ownBlock ≠ some b) ∧ (z = true → dd = d ∧ nx = 1 ∧ nU = N ∧ nF = N ∧ L2 = L ∧ Fs.map foK = L.map inbK) ∧ (z = false → dd = ⟨#[]⟩ ∧ nx = 0 ∧ nU = 0 ∧ nF = 0 ∧ L2 = [] ∧ Fs = [])
theorem impl_hostnew (d : ByteArray) {A : Option Addr} {N cap : Nat} {L : List Us} {z : Bool} (hz : (domB d.data.toList && vU L) = z) (w : World) (hds : d.size ≤ 16777216) (hu : UIn w A N cap L) : Calls Try.prog 7 #[.string d, .slice A N cap] w (PHi w d N L z) := by
  cases z with
  | false => exact (impl_hostnew_no d hz w hds hu).mono fun e w' h => ⟨h.2, none, none, none, 0, 0, 0, 0, 0, 0, ⟨#[]⟩, [], [], h.1, ROwn.nil _ _, ROwn.nil _ _, (fun b e => by cases e), (fun h => by cases h), fun _ => ⟨rfl, rfl, rfl, rfl, rfl, rfl⟩⟩
  | true =>
    rw [Bool.and_eq_true] at hz
    exact (impl_hostnew_yes d hz.1 hz.2 w hds hu).mono fun e w' ⟨U, F, cU, cF, Fs, h1, h2, h3, h4, h5, h6⟩ => ⟨h6, U, F, none, N, cU, N, cF, 0, 1, d, Fs, L, h1, h2, h3, h5, (fun _ => ⟨rfl, rfl, rfl, rfl, rfl, h4⟩), fun h => by cases h⟩
/-- Two answers are the same. -/
theorem same_ph {z : Bool} {d d1 d2 : ByteArray} {N n1 n2 m1 m2 : Nat} {x1 x2 : Int} {L L1 L2 : List Us} {F1 F2 : List FR} (h1 : z = true → d1 = d ∧ x1 = 1 ∧ n1 = N ∧ m1 = N ∧ L1 = L ∧ F1.map foK = L.map inbK) (g1 : z = false → d1 = ⟨#[]⟩ ∧ x1 = 0 ∧ n1 = 0 ∧ m1 = 0 ∧ L1 = [] ∧ F1 = [])
    (h2 : z = true → d2 = d ∧ x2 = 1 ∧ n2 = N ∧ m2 = N ∧ L2 = L ∧ F2.map foK = L.map inbK) (g2 : z = false → d2 = ⟨#[]⟩ ∧ x2 = 0 ∧ n2 = 0 ∧ m2 = 0 ∧ L2 = [] ∧ F2 = []) : d1 = d2 ∧ x1 = x2 ∧ n1 = n2 ∧ m1 = m2 ∧ L1 = L2 ∧ F1.map foK = F2.map foK := by
  cases z with
  | true =>
    obtain ⟨a1, a2, a3, a4, a5, a6⟩ := h1 rfl
    obtain ⟨b1, b2, b3, b4, b5, b6⟩ := h2 rfl
    exact ⟨a1.trans b1.symm, a2.trans b2.symm, a3.trans b3.symm, a4.trans b4.symm, a5.trans b5.symm, a6.trans b6.symm⟩
  | false =>
    obtain ⟨a1, a2, a3, a4, a5, a6⟩ := g1 rfl
    obtain ⟨b1, b2, b3, b4, b5, b6⟩ := g2 rfl
    exact ⟨a1.trans b1.symm, a2.trans b2.symm, a3.trans b3.symm, a4.trans b4.symm, a5.trans b5.symm, by rw [a6, b6]⟩
theorem ph_small {z : Bool} {d d1 : ByteArray} {N n1 m1 : Nat} {x1 : Int} {L L1 : List Us} {F1 : List FR} (hs : smallU L) (hN : z = true → N ≤ 1000000) (h1 : z = true → d1 = d ∧ x1 = 1 ∧ n1 = N ∧ m1 = N ∧ L1 = L ∧ F1.map foK = L.map inbK) (g1 : z = false → d1 = ⟨#[]⟩ ∧ x1 = 0 ∧ n1 = 0 ∧ m1 = 0 ∧ L1 = [] ∧ F1 = []) : smallU L1 ∧ n1 ≤ 1000000 ∧ m1 ≤ 1000000 := by
  cases z with
  | true =>
    obtain ⟨a1, a2, a3, a4, a5, a6⟩ := h1 rfl
    subst a5
    have hN2 := hN rfl
    exact ⟨hs, by omega, by omega⟩
  | false =>
    obtain ⟨a1, a2, a3, a4, a5, a6⟩ := g1 rfl
    subst a5
    exact ⟨⟨by simp, fun g hg => by cases hg⟩, by omega, by omega⟩
theorem v_small {d : ByteArray} {L : List Us} {z : Bool} {N : Nat} (hz : (domB d.data.toList && vU L) = z) (hn : L.length = N) : z = true → N ≤ 1000000 := fun h => by
  rw [h, Bool.and_eq_true] at hz
  have := (vU_iff.1 hz.2).1.2
  omega
set_option maxRecDepth 20000 in
set_option maxHeartbeats 16000000 in
theorem law_FnExactHostNew (s : ByteArray) (A : Option Addr) (len cap : Nat) (w : World) (_ : s.size ≤ maxLen) (h : UsArg w A len cap) : Calls Try.prog 3 #[.string s, .slice A len cap] w (Holds1 w) := by
  obtain ⟨L, hn, hlc, hcm, hat, htx⟩ := h
  have hlm : len ≤ maxLen := by omega
  have HN := Lib.hid hn
  have HLM := Lib.hid hlm
  have HA0 := Lib.hid hat
  have HTX := Lib.hid htx
  clear hn hlc hcm hat htx hlm
  by_cases hss : s.size ≤ 1048576
  · have hss' : ¬ (1048576 : Int) < (s.size : Int) := by omega
    by_cases hlen : len ≤ 1048576
    · have hlenI : (len : Int) ≤ 1048576 := by omega
      obtain ⟨r, hr⟩ : ∃ r, szU L (1048576 - (len : Int)) = r := ⟨_, rfl⟩
      have HR := Lib.hid hr
      by_cases hr0 : r < 0
      · clear hr
        go_enter Try.func3, Try.ntmps3
        go_wp2_with fail
        refine (sz_users A len cap 1048576 r L _ HN.out HA0.out HTX.out (by omega) (by omega) hlenI HR.out).mono ?_
        rintro e w1 ⟨rfl, hb⟩
        have HB1 := Lib.hid hb
        clear hb
        go_wp2
        go_ret
        exact ⟨rfl, HB1.out⟩
      · have hrd : decide (r < 0) = false := decide_eq_false hr0
        have HSM : Hid (smallU L) := Lib.hid ⟨by rw [HN.out]; omega, fun g hg => by have := szU_le (L := L) (z := 1048576 - (len : Int)) (by omega) (by rw [hr]; omega) g hg; omega⟩
        obtain ⟨z, hz⟩ : ∃ z, (domB s.data.toList && vU L) = z := ⟨_, rfl⟩
        have HZ := Lib.hid hz
        have hzz : (z != z) = false := by simp
        have hds : s.size ≤ 16777216 := by omega
        obtain ⟨q1, hq1⟩ : ∃ x, 1 + 3 * len = x := ⟨_, rfl⟩
        have HQ1 := Lib.hid hq1
        have p1 : ¬ (q1 : Int) < 0 := by omega
        have p1d : decide ((q1 : Int) < 0) = false := decide_eq_false p1
        clear hr hz hq1
        go_enter Try.func3, Try.ntmps3
        go_wp2_with fail
        refine (sz_users A len cap 1048576 r L _ HN.out HA0.out HTX.out (by omega) (by omega) hlenI HR.out).mono ?_
        rintro e w1 ⟨rfl, hb⟩
        have HB := Lib.hid hb
        have HA := Lib.hid (HA0.out.below hb (Nat.le_refl _))
        clear hb
        go_wp2_with fail
        refine (to_users A len cap L w1 HN.out HA.out hlen).mono ?_
        rintro e w2 ⟨g1, rfl, ho, hb⟩
        have HB_1 := Lib.hid (HB.out.trans (hb.mono HB.out.size))
        have HA_1 := Lib.hid (HA.out.below hb (Nat.le_refl _))
        clear HA HB
        have HM1 := Lib.hid (UIn.made ho HSM.out)
        clear ho hb
        go_wp2_with fail
        refine (spec_hostnew s HZ.out w2 hds HM1.out).mono ?_
        rintro e w3 ⟨hb, aU, aF, aI, an, ac, am, ak, aj, ax, ad, aFs, aL, rfl, hu, hf, h1, h2⟩
        clear HM1
        have HB_2 := Lib.hid (HB_1.out.trans (hb.mono HB_1.out.size))
        have HA_2 := Lib.hid (HA_1.out.below hb (Nat.le_refl _))
        clear HA_1 HB_1
        have HA1 := Lib.hid h1
        have HA2 := Lib.hid h2
        have HSA := Lib.hid (ph_small HSM.out (v_small HZ.out HN.out) h1 h2)
        have han : an ≤ 1000000 := HSA.out.2.1
        have ham : am ≤ 1000000 := HSA.out.2.2
        have IU := Lib.hid (UIn.made hu HSA.out.1)
        have IF := Lib.hid (FIn.of hf (by omega))
        clear hu hf h1 h2 hb
        obtain ⟨D6, hD6⟩ : ∃ D, w3.heap.size = D := ⟨_, rfl⟩
        obtain ⟨w4, hw4⟩ : ∃ z, w3.alloc (.cells #[.string ad, .slice aU an ac, .slice aF am ak, .int .i64 ax, .slice aI 0 aj] 30) = z := ⟨_, rfl⟩
        have hbn : Below w3.heap.size w3 w4 := by rw [← hw4]; exact below_new _ _
        have HB_3 := Lib.hid (HB_2.out.trans (hbn.mono HB_2.out.size))
        have HA_3 := Lib.hid (HA_2.out.below hbn (Nat.le_refl _))
        have IU_3 := Lib.hid (IU.out.below hbn (Nat.le_refl _))
        have IF_3 := Lib.hid (IF.out.below hbn (Nat.le_refl _))
        clear IF IU HA_2 HB_2
        have H6 := Lib.hid (show Whole w4 D6 30 #[.string ad, .slice aU an ac, .slice aF am ak, .int .i64 ax, .slice aI 0 aj] by rw [← hw4, ← hD6]; exact Whole.made _ _ _)
        have HD6 := Lib.hid hD6
        clear hbn
        have HBb := Lib.hid HB_3.out
        have HAb := Lib.hid HA_3.out
        have IUb := Lib.hid IU_3.out
        have IFb := Lib.hid IF_3.out
        have H6b := Lib.hid H6.out
        have HBA := Lib.hid (Below.refl w4.heap.size w4)
        obtain ⟨q2, hq2⟩ : ∃ x, 1 + 3 * an + 3 * am = x := ⟨_, rfl⟩
        have HQ2 := Lib.hid hq2
        have p2 : ¬ (q2 : Int) < 0 := by omega
        have p2e : ((q2 : Int) != (q2 : Int)) = false := by simp
        clear hq2
        go_wp2_with fail
        refine (to_users A len cap L w4 HN.out HA_3.out hlen).mono ?_
        rintro e w5 ⟨gx, rfl, ho, hb⟩
        have HB_4 := Lib.hid (HB_3.out.trans (hb.mono HB_3.out.size))
        have HA_4 := Lib.hid (HA_3.out.below hb (Nat.le_refl _))
        have IU_4 := Lib.hid (IU_3.out.below hb (Nat.le_refl _))
        have IF_4 := Lib.hid (IF_3.out.below hb (Nat.le_refl _))
        have H6_4 := Lib.hid (H6.out.below hb H6.out.lt)
        have HBA_4 := Lib.hid (HBA.out.trans (hb.mono HBA.out.size))
        clear HBA H6 IF_3 IU_3 HA_3 HB_3
        have X0 := Lib.hid (ho)
        have HXgx := Lib.hid (World.ownsRow.lt ho gx rfl)
        clear ho hb
        go_wp2_with fail
        refine (impl_hostnew s HZ.out w5 hds (UIn.made X0.out HSM.out)).mono ?_
        rintro e w6 ⟨hb, bU, bF, bI, bn, bc, bm, bk, bj, bx, bd, bFs, bL, rfl, hu, hf, hap, h1, h2⟩
        have HB_5 := Lib.hid (HB_4.out.trans (hb.mono HB_4.out.size))
        have HA_5 := Lib.hid (HA_4.out.below hb (Nat.le_refl _))
        have IU_5 := Lib.hid (IU_4.out.below hb (Nat.le_refl _))
        have IF_5 := Lib.hid (IF_4.out.below hb (Nat.le_refl _))
        have H6_5 := Lib.hid (H6_4.out.below hb H6_4.out.lt)
        have HBA_5 := Lib.hid (HBA_4.out.trans (hb.mono HBA_4.out.size))
        have X0_5 := Lib.hid (X0.out.kept hb)
        clear X0 HBA_4 H6_4 IF_4 IU_4 HA_4 HB_4
        obtain ⟨s1, s2, s3, s4, s5, s6⟩ := same_ph HA1.out HA2.out h1 h2
        clear h1 h2
        subst s1
        subst s2
        subst s3
        subst s4
        subst s5
        have HbS := Lib.hid s6
        have HZ56 := Lib.hid hb.size
        have HBL := Lib.hid hf.len.1.symm
        have HAP := Lib.hid hap
        have HBU := Lib.hid (fun b e => World.ownsRow.lt hu b e)
        have HBF := Lib.hid (fun b e => World.ownsRow.lt hf b e)
        have G0U := Lib.hid (hu)
        have G0F := Lib.hid (hf)
        clear hu hf hap hb s6
        obtain ⟨D9, hD9⟩ : ∃ D, w6.heap.size = D := ⟨_, rfl⟩
        obtain ⟨w7, hw7⟩ : ∃ z, w6.alloc (.cells #[.string ad, .slice bU an bc, .slice bF am bk, .int .i64 ax, .slice bI 0 bj] 30) = z := ⟨_, rfl⟩
        have hbn : Below w6.heap.size w6 w7 := by rw [← hw7]; exact below_new _ _
        have HB_6 := Lib.hid (HB_5.out.trans (hbn.mono HB_5.out.size))
        have HA_6 := Lib.hid (HA_5.out.below hbn (Nat.le_refl _))
        have IU_6 := Lib.hid (IU_5.out.below hbn (Nat.le_refl _))
        have IF_6 := Lib.hid (IF_5.out.below hbn (Nat.le_refl _))
        have H6_6 := Lib.hid (H6_5.out.below hbn H6_5.out.lt)
        have HBA_6 := Lib.hid (HBA_5.out.trans (hbn.mono HBA_5.out.size))
        have X0_6 := Lib.hid (X0_5.out.kept hbn)
        have G0U_6 := Lib.hid (G0U.out.kept hbn)
        have G0F_6 := Lib.hid (G0F.out.kept hbn)
        clear G0F G0U X0_5 HBA_5 H6_5 IF_5 IU_5 HA_5 HB_5
        have H9 := Lib.hid (show Whole w7 D9 30 #[.string ad, .slice bU an bc, .slice bF am bk, .int .i64 ax, .slice bI 0 bj] by rw [← hw7, ← hD9]; exact Whole.made _ _ _)
        have HD9 := Lib.hid hD9
        clear hbn
        have H9w := Lib.hid (show D9 = w6.heap.size from HD9.out.symm)
        have HW45 := Lib.hid (show w4.heap.size ≤ gx ∧ gx < w5.heap.size from HXgx.out)
        have cH90 := H9.out.cell 0
        have cH91 := H9.out.cell 1
        have cH92 := H9.out.cell 2
        have cH93 := H9.out.cell 3
        have cH94 := H9.out.cell 4
        have cH60 := H6_6.out.cell 0
        have cH61 := H6_6.out.cell 1
        have cH62 := H6_6.out.cell 2
        have cH63 := H6_6.out.cell 3
        have cH64 := H6_6.out.cell 4
        simp only [List.getElem?_toArray, List.getElem?_cons_zero, List.getElem?_cons_succ] at cH90 cH91 cH92 cH93 cH94 cH60 cH61 cH62 cH63 cH64
        go_wp2_with fail
        refine (eq_host0 ad bU aU bF aF bI aI an bc ac am bk ak bj aj ax w7 (UIn.made G0U_6.out HSA.out.1) IU_6.out (FIn.of G0F_6.out (by omega)) IF_6.out HbS.out.symm).mono ?_
        rintro e w8 ⟨rfl, hb⟩
        clear cH90 cH91 cH92 cH93 cH94 cH60 cH61 cH62 cH63 cH64
        have HB_7 := Lib.hid (HB_6.out.trans (hb.mono HB_6.out.size))
        have HA_7 := Lib.hid (HA_6.out.below hb (Nat.le_refl _))
        have IU_7 := Lib.hid (IU_6.out.below hb (Nat.le_refl _))
        have IF_7 := Lib.hid (IF_6.out.below hb (Nat.le_refl _))
        have H6_7 := Lib.hid (H6_6.out.below hb H6_6.out.lt)
        have HBA_7 := Lib.hid (HBA_6.out.trans (hb.mono HBA_6.out.size))
        have X0_7 := Lib.hid (X0_6.out.kept hb)
        have G0U_7 := Lib.hid (G0U_6.out.kept hb)
        have G0F_7 := Lib.hid (G0F_6.out.kept hb)
        have H9_7 := Lib.hid (H9.out.below hb H9.out.lt)
        clear H9 G0F_6 G0U_6 X0_6 HBA_6 H6_6 IF_6 IU_6 HA_6 HB_6
        clear hb
        go_wp2_with fail
        refine (to_users A len cap L w8 HN.out HA_7.out hlen).mono ?_
        rintro e w9 ⟨gy, rfl, ho, hb⟩
        have HB_8 := Lib.hid (HB_7.out.trans (hb.mono HB_7.out.size))
        have HA_8 := Lib.hid (HA_7.out.below hb (Nat.le_refl _))
        have IU_8 := Lib.hid (IU_7.out.below hb (Nat.le_refl _))
        have IF_8 := Lib.hid (IF_7.out.below hb (Nat.le_refl _))
        have H6_8 := Lib.hid (H6_7.out.below hb H6_7.out.lt)
        have HBA_8 := Lib.hid (HBA_7.out.trans (hb.mono HBA_7.out.size))
        have X0_8 := Lib.hid (X0_7.out.kept hb)
        have G0U_8 := Lib.hid (G0U_7.out.kept hb)
        have G0F_8 := Lib.hid (G0F_7.out.kept hb)
        have H9_8 := Lib.hid (H9_7.out.below hb H9_7.out.lt)
        clear H9_7 G0F_7 G0U_7 X0_7 HBA_7 H6_7 IF_7 IU_7 HA_7 HB_7
        have HM2 := Lib.hid (UIn.made ho HSM.out)
        clear ho hb
        go_wp2_with fail
        refine (eq_users w9 (UIn.made X0_8.out HSM.out) HM2.out).mono ?_
        rintro e w10 ⟨rfl, hb⟩
        clear HM2
        have HB_9 := Lib.hid (HB_8.out.trans (hb.mono HB_8.out.size))
        have HA_9 := Lib.hid (HA_8.out.below hb (Nat.le_refl _))
        have IU_9 := Lib.hid (IU_8.out.below hb (Nat.le_refl _))
        have IF_9 := Lib.hid (IF_8.out.below hb (Nat.le_refl _))
        have H6_9 := Lib.hid (H6_8.out.below hb H6_8.out.lt)
        have HBA_9 := Lib.hid (HBA_8.out.trans (hb.mono HBA_8.out.size))
        have X0_9 := Lib.hid (X0_8.out.kept hb)
        have G0U_9 := Lib.hid (G0U_8.out.kept hb)
        have G0F_9 := Lib.hid (G0F_8.out.kept hb)
        have H9_9 := Lib.hid (H9_8.out.below hb H9_8.out.lt)
        clear H9_8 G0F_8 G0U_8 X0_8 HBA_8 H6_8 IF_8 IU_8 HA_8 HB_8
        clear hb
        go_wp2_with fail
        refine (mark_users 1 q1 (some ⟨gx, 0, none⟩) len len _ L w10 HN.out X0_9.out (by omega) (by omega) (by omega) HQ1.out).mono ?_
        rintro e w11 ⟨rfl, hom, hg⟩
        have hwr : Writ (fun b => w4.heap.size ≤ b ∧ b = gx) w10 w11 := Writ.one hg (fun b e => by have h1 := HW45.out; have h2 : gx = b := Option.some.inj e; omega)
        have HBA_10 := Lib.hid (hwr.under HBA_9.out HBA_9.out.size (fun g e => e.1))
        have HB_10 := Lib.hid (HBb.out.trans (HBA_10.out.mono HBb.out.size))
        have HA_10 := Lib.hid (HAb.out.below HBA_10.out (Nat.le_refl _))
        have IU_10 := Lib.hid (IUb.out.below HBA_10.out (Nat.le_refl _))
        have IF_10 := Lib.hid (IFb.out.below HBA_10.out (Nat.le_refl _))
        have H6_10 := Lib.hid (H6b.out.below HBA_10.out H6b.out.lt)
        have G0U_10 := Lib.hid (G0U_9.out.writ hwr (fun b e h => by have h1 := HW45.out; have h2 := (HBU.out b e).1; omega))
        have G0F_10 := Lib.hid (G0F_9.out.writ hwr (fun b e h => by have h1 := HW45.out; have h2 := (HBF.out b e).1; omega))
        have H9_10 := Lib.hid (H9_9.out.writ hwr (fun h => by have h1 := HW45.out; have h2 := H9w.out; have h3 := HZ56.out; omega))
        clear H9_9 G0F_9 G0U_9 X0_9 HBA_9 H6_9 IF_9 IU_9 HA_9 HB_9
        clear hom hg hwr
        have cH90 := H9_10.out.cell 0
        have cH91 := H9_10.out.cell 1
        have cH92 := H9_10.out.cell 2
        have cH93 := H9_10.out.cell 3
        have cH94 := H9_10.out.cell 4
        have cH60 := H6_10.out.cell 0
        have cH61 := H6_10.out.cell 1
        have cH62 := H6_10.out.cell 2
        have cH63 := H6_10.out.cell 3
        have cH64 := H6_10.out.cell 4
        simp only [List.getElem?_toArray, List.getElem?_cons_zero, List.getElem?_cons_succ] at cH90 cH91 cH92 cH93 cH94 cH60 cH61 cH62 cH63 cH64
        go_wp2_with fail
        refine (eq_host0 ad bU aU bF aF bI aI an bc ac am bk ak bj aj ax w11 (UIn.made G0U_10.out HSA.out.1) IU_10.out (FIn.of G0F_10.out (by omega)) IF_10.out HbS.out.symm).mono ?_
        rintro e w12 ⟨rfl, hb⟩
        clear cH90 cH91 cH92 cH93 cH94 cH60 cH61 cH62 cH63 cH64
        have HBA_11 := Lib.hid (HBA_10.out.trans (hb.mono HBA_10.out.size))
        have HB_11 := Lib.hid (HB_10.out.trans (hb.mono HB_10.out.size))
        have HA_11 := Lib.hid (HA_10.out.below hb (Nat.le_refl _))
        have IU_11 := Lib.hid (IU_10.out.below hb (Nat.le_refl _))
        have IF_11 := Lib.hid (IF_10.out.below hb (Nat.le_refl _))
        have H6_11 := Lib.hid (H6_10.out.below hb H6_10.out.lt)
        have G0U_11 := Lib.hid (G0U_10.out.kept hb)
        have G0F_11 := Lib.hid (G0F_10.out.kept hb)
        have H9_11 := Lib.hid (H9_10.out.below hb H9_10.out.lt)
        clear H9_10 G0F_10 G0U_10 H6_10 IF_10 IU_10 HA_10 HB_10 HBA_10
        clear hb
        have cH90 := H9_11.out.cell 0
        have cH91 := H9_11.out.cell 1
        have cH92 := H9_11.out.cell 2
        have cH93 := H9_11.out.cell 3
        have cH94 := H9_11.out.cell 4
        simp only [List.getElem?_toArray, List.getElem?_cons_zero, List.getElem?_cons_succ] at cH90 cH91 cH92 cH93 cH94
        go_wp2_with fail
        refine (mark_host0 1 q2 ad bU bF bI an bc am bk bj _ ax aL bFs w12 G0U_11.out G0F_11.out HAP.out han ham (by omega) (by omega) HQ2.out).mono ?_
        rintro e w13 ⟨rfl, hmu, hmf, hw⟩
        have hwr : Writ (fun b => w4.heap.size ≤ b ∧ hoB bU an bc bF am bk b) w12 w13 := hw.mono (fun b h => ⟨by
          have h1 := HW45.out
          rcases h with h | h
          · have h2 := (HBU.out b h).1; omega
          · have h2 := (HBF.out b h).1; omega, h⟩)
        clear cH90 cH91 cH92 cH93 cH94
        have HBA_12 := Lib.hid (hwr.under HBA_11.out HBA_11.out.size (fun g e => e.1))
        have HB_12 := Lib.hid (HBb.out.trans (HBA_12.out.mono HBb.out.size))
        have HA_12 := Lib.hid (HAb.out.below HBA_12.out (Nat.le_refl _))
        have IU_12 := Lib.hid (IUb.out.below HBA_12.out (Nat.le_refl _))
        have IF_12 := Lib.hid (IFb.out.below HBA_12.out (Nat.le_refl _))
        have H6_12 := Lib.hid (H6b.out.below HBA_12.out H6b.out.lt)
        have H9_12 := Lib.hid (H9_11.out.writ hwr (fun h => by have h2 := H9w.out; rcases h.2 with h | h; exact absurd (HBU.out _ h).2 (by omega); exact absurd (HBF.out _ h).2 (by omega)))
        have G1U_12 := Lib.hid (hmu)
        have G1F_12 := Lib.hid (hmf)
        clear H9_11 G0F_11 G0U_11 H6_11 IF_11 IU_11 HA_11 HB_11 HBA_11
        clear hmu hmf hw hwr
        have cH90 := H9_12.out.cell 0
        have cH91 := H9_12.out.cell 1
        have cH92 := H9_12.out.cell 2
        have cH93 := H9_12.out.cell 3
        have cH94 := H9_12.out.cell 4
        simp only [List.getElem?_toArray, List.getElem?_cons_zero, List.getElem?_cons_succ] at cH90 cH91 cH92 cH93 cH94
        go_wp2_with fail
        refine (held_host0 1 q2 ad bU bF bI an bc am bk bj ax bFs w13 G1U_12.out.at G1F_12.out.at HBL.out han ham (by omega) (by omega) HQ2.out).mono ?_
        rintro e w14 ⟨rfl, hb⟩
        clear cH90 cH91 cH92 cH93 cH94
        have HBA_13 := Lib.hid (HBA_12.out.trans (hb.mono HBA_12.out.size))
        have HB_13 := Lib.hid (HB_12.out.trans (hb.mono HB_12.out.size))
        have HA_13 := Lib.hid (HA_12.out.below hb (Nat.le_refl _))
        have IU_13 := Lib.hid (IU_12.out.below hb (Nat.le_refl _))
        have IF_13 := Lib.hid (IF_12.out.below hb (Nat.le_refl _))
        have H6_13 := Lib.hid (H6_12.out.below hb H6_12.out.lt)
        have H9_13 := Lib.hid (H9_12.out.below hb H9_12.out.lt)
        have G1U_13 := Lib.hid (G1U_12.out.kept hb)
        have G1F_13 := Lib.hid (G1F_12.out.kept hb)
        clear G1F_12 G1U_12 H9_12 H6_12 IF_12 IU_12 HA_12 HB_12 HBA_12
        clear hb
        go_wp2_with fail
        refine (to_users A len cap L w14 HN.out HA_13.out hlen).mono ?_
        rintro e w15 ⟨gz, rfl, ho, hb⟩
        have HBA_14 := Lib.hid (HBA_13.out.trans (hb.mono HBA_13.out.size))
        have HB_14 := Lib.hid (HB_13.out.trans (hb.mono HB_13.out.size))
        have HA_14 := Lib.hid (HA_13.out.below hb (Nat.le_refl _))
        have IU_14 := Lib.hid (IU_13.out.below hb (Nat.le_refl _))
        have IF_14 := Lib.hid (IF_13.out.below hb (Nat.le_refl _))
        have H6_14 := Lib.hid (H6_13.out.below hb H6_13.out.lt)
        have H9_14 := Lib.hid (H9_13.out.below hb H9_13.out.lt)
        have G1U_14 := Lib.hid (G1U_13.out.kept hb)
        have G1F_14 := Lib.hid (G1F_13.out.kept hb)
        clear G1F_13 G1U_13 H9_13 H6_13 IF_13 IU_13 HA_13 HB_13 HBA_13
        have HM3 := Lib.hid (UIn.made ho HSM.out)
        clear ho hb
        go_wp2_with fail
        refine (impl_hostnew s HZ.out w15 hds HM3.out).mono ?_
        rintro e w16 ⟨hb, fU, fF, fI, fn, fc, fm, fk, fj, fx, fd, fFs, fL, rfl, hu, hf, hap, h1, h2⟩
        have HBA_15 := Lib.hid (HBA_14.out.trans (hb.mono HBA_14.out.size))
        have HB_15 := Lib.hid (HB_14.out.trans (hb.mono HB_14.out.size))
        have HA_15 := Lib.hid (HA_14.out.below hb (Nat.le_refl _))
        have IU_15 := Lib.hid (IU_14.out.below hb (Nat.le_refl _))
        have IF_15 := Lib.hid (IF_14.out.below hb (Nat.le_refl _))
        have H6_15 := Lib.hid (H6_14.out.below hb H6_14.out.lt)
        have H9_15 := Lib.hid (H9_14.out.below hb H9_14.out.lt)
        have G1U_15 := Lib.hid (G1U_14.out.kept hb)
        have G1F_15 := Lib.hid (G1F_14.out.kept hb)
        have HM3_15 := Lib.hid (HM3.out.below hb (Nat.le_refl _))
        clear HM3 G1F_14 G1U_14 H9_14 H6_14 IF_14 IU_14 HA_14 HB_14 HBA_14
        obtain ⟨s1, s2, s3, s4, s5, s6⟩ := same_ph HA1.out HA2.out h1 h2
        clear h1 h2
        subst s1
        subst s2
        subst s3
        subst s4
        subst s5
        have HfS := Lib.hid s6
        clear HM3_15
        have G2U := Lib.hid (hu)
        have G2F := Lib.hid (hf)
        clear hu hf hap hb s6
        obtain ⟨D14, hD14⟩ : ∃ D, w16.heap.size = D := ⟨_, rfl⟩
        obtain ⟨w17, hw17⟩ : ∃ z, w16.alloc (.cells #[.string ad, .slice fU an fc, .slice fF am fk, .int .i64 ax, .slice fI 0 fj] 30) = z := ⟨_, rfl⟩
        have hbn : Below w16.heap.size w16 w17 := by rw [← hw17]; exact below_new _ _
        have HBA_16 := Lib.hid (HBA_15.out.trans (hbn.mono HBA_15.out.size))
        have HB_16 := Lib.hid (HB_15.out.trans (hbn.mono HB_15.out.size))
        have HA_16 := Lib.hid (HA_15.out.below hbn (Nat.le_refl _))
        have IU_16 := Lib.hid (IU_15.out.below hbn (Nat.le_refl _))
        have IF_16 := Lib.hid (IF_15.out.below hbn (Nat.le_refl _))
        have H6_16 := Lib.hid (H6_15.out.below hbn H6_15.out.lt)
        have H9_16 := Lib.hid (H9_15.out.below hbn H9_15.out.lt)
        have G1U_16 := Lib.hid (G1U_15.out.kept hbn)
        have G1F_16 := Lib.hid (G1F_15.out.kept hbn)
        have G2U_16 := Lib.hid (G2U.out.kept hbn)
        have G2F_16 := Lib.hid (G2F.out.kept hbn)
        clear G2F G2U G1F_15 G1U_15 H9_15 H6_15 IF_15 IU_15 HA_15 HB_15 HBA_15
        have H14 := Lib.hid (show Whole w17 D14 30 #[.string ad, .slice fU an fc, .slice fF am fk, .int .i64 ax, .slice fI 0 fj] by rw [← hw17, ← hD14]; exact Whole.made _ _ _)
        have HD14 := Lib.hid hD14
        clear hbn
        have cH140 := H14.out.cell 0
        have cH141 := H14.out.cell 1
        have cH142 := H14.out.cell 2
        have cH143 := H14.out.cell 3
        have cH144 := H14.out.cell 4
        have cH60 := H6_16.out.cell 0
        have cH61 := H6_16.out.cell 1
        have cH62 := H6_16.out.cell 2
        have cH63 := H6_16.out.cell 3
        have cH64 := H6_16.out.cell 4
        simp only [List.getElem?_toArray, List.getElem?_cons_zero, List.getElem?_cons_succ] at cH140 cH141 cH142 cH143 cH144 cH60 cH61 cH62 cH63 cH64
        go_wp2_with fail
        refine (eq_host0 ad fU aU fF aF fI aI an fc ac am fk ak fj aj ax w17 (UIn.made G2U_16.out HSA.out.1) IU_16.out (FIn.of G2F_16.out (by omega)) IF_16.out HfS.out.symm).mono ?_
        rintro e w18 ⟨rfl, hb⟩
        clear cH140 cH141 cH142 cH143 cH144 cH60 cH61 cH62 cH63 cH64
        have HBA_17 := Lib.hid (HBA_16.out.trans (hb.mono HBA_16.out.size))
        have HB_17 := Lib.hid (HB_16.out.trans (hb.mono HB_16.out.size))
        have HA_17 := Lib.hid (HA_16.out.below hb (Nat.le_refl _))
        have IU_17 := Lib.hid (IU_16.out.below hb (Nat.le_refl _))
        have IF_17 := Lib.hid (IF_16.out.below hb (Nat.le_refl _))
        have H6_17 := Lib.hid (H6_16.out.below hb H6_16.out.lt)
        have H9_17 := Lib.hid (H9_16.out.below hb H9_16.out.lt)
        have G1U_17 := Lib.hid (G1U_16.out.kept hb)
        have G1F_17 := Lib.hid (G1F_16.out.kept hb)
        have G2U_17 := Lib.hid (G2U_16.out.kept hb)
        have G2F_17 := Lib.hid (G2F_16.out.kept hb)
        have H14_17 := Lib.hid (H14.out.below hb H14.out.lt)
        clear H14 G2F_16 G2U_16 G1F_16 G1U_16 H9_16 H6_16 IF_16 IU_16 HA_16 HB_16 HBA_16
        clear hb
        have cH90 := H9_17.out.cell 0
        have cH91 := H9_17.out.cell 1
        have cH92 := H9_17.out.cell 2
        have cH93 := H9_17.out.cell 3
        have cH94 := H9_17.out.cell 4
        simp only [List.getElem?_toArray, List.getElem?_cons_zero, List.getElem?_cons_succ] at cH90 cH91 cH92 cH93 cH94
        go_wp2_with fail
        refine (held_host0 1 q2 ad bU bF bI an bc am bk bj ax bFs w18 G1U_17.out.at G1F_17.out.at HBL.out han ham (by omega) (by omega) HQ2.out).mono ?_
        rintro e w19 ⟨rfl, hb⟩
        clear cH90 cH91 cH92 cH93 cH94
        have HBA_18 := Lib.hid (HBA_17.out.trans (hb.mono HBA_17.out.size))
        have HB_18 := Lib.hid (HB_17.out.trans (hb.mono HB_17.out.size))
        have HA_18 := Lib.hid (HA_17.out.below hb (Nat.le_refl _))
        have IU_18 := Lib.hid (IU_17.out.below hb (Nat.le_refl _))
        have IF_18 := Lib.hid (IF_17.out.below hb (Nat.le_refl _))
        have H6_18 := Lib.hid (H6_17.out.below hb H6_17.out.lt)
        have H9_18 := Lib.hid (H9_17.out.below hb H9_17.out.lt)
        have G1U_18 := Lib.hid (G1U_17.out.kept hb)
        have G1F_18 := Lib.hid (G1F_17.out.kept hb)
        have G2U_18 := Lib.hid (G2U_17.out.kept hb)
        have G2F_18 := Lib.hid (G2F_17.out.kept hb)
        have H14_18 := Lib.hid (H14_17.out.below hb H14_17.out.lt)
        clear H14_17 G2F_17 G2U_17 G1F_17 G1U_17 H9_17 H6_17 IF_17 IU_17 HA_17 HB_17 HBA_17
        clear hb
        go_wp2
        go_ret
        exact ⟨rfl, HB_18.out⟩
    · have hl2 : (1048576 : Int) < (len : Int) := by omega
      go_enter Try.func3, Try.ntmps3
      go_wp2_with fail
      refine (sz_users_no A len cap 1048576 _ (by omega) (by omega) hl2 HLM.out).mono ?_
      rintro e w1 ⟨rfl, hb⟩
      have HB1 := Lib.hid hb
      clear hb
      go_wp2
      go_ret
      exact ⟨rfl, HB1.out⟩
  · have hss' : (1048576 : Int) < (s.size : Int) := by omega
    go_enter Try.func3, Try.ntmps3
    go_wp2
    go_ret
    exact ⟨rfl, Below.refl _ _⟩
end Go.Proofs.Ytkhfflbgnojcfaa
