/-
  The contracts of the code's isMail, BoxValid and BoxSize. Condition: the messages can be read, and are not too many.
  Facts of mailboxes that stand whatever is made later, and what a call of the code's hands back as a chain. Plain lemmas; no condition.
  The contract of the code's linkBox. Condition: the messages can be read, and are not too many.
  Slices of pointers to nodes, and what is known of the nodes that were picked. Plain lemmas; no condition.
  The contract of the model's BoxAppend. Condition: the messages can be read, and are not too many.
  The contract of the model's BoxExpunge. Condition: the messages can be read, and are not too many.
  The contract of the code's (*chain).box. Condition: the chain can be read, and is not too long.
  The contracts of the code's (*chain).end and (*chain).put. Condition: the chain can be read, and is not too long.
  The contract of the code's BoxAppend. Condition: the messages can be read, and are not too many.
  What the loops of mailboxes ask of the plain mathematics: places one after the other, flags one after the other, copies, numbers. Plain lemmas; no condition.
  The contracts of slices.Index, slices.Contains at []int, slices.Clone at []impl.Mail, and of the code's BoxUids and BoxSize. Condition: the lists can be read, and are not too long.
  The contract of the code's (*chain).pick. Condition: the chain and the places can be read, and the chain is not too long.
-/
import Derived.Test.YtllhcogmcfgnoaaGq
import Derived.Test.YtllhcogmcfgnoaaKeep
import Derived.Deep.RegionLaw
import Derived.Deep.LoopGhost
import Derived.Outline
import Derived.WalkSpells
namespace Go.Proofs.Ytllhcogmcfgnoaa
open Go.RowKit
set_option linter.unusedVariables false

/-- The greatest number of ascending messages behind 'l', if they are so, as the code reads it. -/
def chc : Int → List ML → Option Int
  | l, [] => some l
  | l, m :: r => if decide (l < m.1) && (isF m.2.1 && decide (m.2.2.length ≤ 20)) then chc m.1 r else none
theorem chc_some : ∀ {L : List ML} {l z : Int}, chc l L = some z → (∀ m ∈ L, isF m.2.1 = true ∧ m.2.2.length ≤ 20 ∧ l < m.1 ∧ m.1 ≤ z) ∧ Asc L ∧ l ≤ z ∧ (z = l ∨ ∃ m ∈ L, m.1 = z)
  | [], l, z, h => by
    rw [chc] at h
    cases h
    exact ⟨fun m hm => (by cases hm), List.Pairwise.nil, Int.le_refl _, .inl rfl⟩
  | x :: L, l, z, h => by
    rw [chc] at h
    split at h
    · rename_i hx
      rw [Bool.and_eq_true, Bool.and_eq_true, decide_eq_true_eq, decide_eq_true_eq] at hx
      obtain ⟨h1, h2, h3, h4⟩ := chc_some h
      refine ⟨fun m hm => ?_, ?_, by omega, ?_⟩
      · rcases List.mem_cons.1 hm with rfl | hm
        · exact ⟨hx.2.1, hx.2.2, hx.1, h3⟩
        · have := h1 m hm
          exact ⟨this.1, this.2.1, by omega, this.2.2.2⟩
      · exact .cons (fun m hm => (h1 m hm).2.2.1) h2
      · rcases h4 with rfl | ⟨m, hm, e⟩
        · exact .inr ⟨x, by simp, rfl⟩
        · exact .inr ⟨m, by simp [hm], e⟩
    · cases h
theorem chc_of : ∀ {L : List ML} {l : Int}, (∀ m ∈ L, isF m.2.1 = true ∧ m.2.2.length ≤ 20 ∧ l < m.1) → Asc L → ∃ z, chc l L = some z
  | [], l, _, _ => ⟨l, rfl⟩
  | x :: L, l, h, ha => by
    have hx := h x (by simp)
    rw [chc, if_pos (by rw [hx.1, decide_eq_true hx.2.1, decide_eq_true hx.2.2]; rfl)]
    cases ha with
    | cons h1 h2 => exact chc_of (fun m hm => ⟨(h m (by simp [hm])).1, (h m (by simp [hm])).2.1, h1 m hm⟩) h2
theorem chc_bok {n z : Int} {L : List ML} (h : chc 0 L = some z) (hn : n ≤ 100) (hl : L.length ≤ 10) : bOk n L = decide (z < n) := by
  obtain ⟨h1, h2, h3, h4⟩ := chc_some h
  by_cases hz : z < n
  · rw [decide_eq_true hz]
    exact bOk_iff.2 ⟨fun m hm => by
      have := h1 m hm
      exact ⟨mOk_iff.2 ⟨⟨by omega, by omega⟩, this.1, this.2.1⟩, by omega⟩, h2, by omega, hn, hl⟩
  · rw [decide_eq_false hz, ← Bool.not_eq_true]
    intro hb
    obtain ⟨k1, _, k3, _⟩ := bOk_iff.1 hb
    rcases h4 with rfl | ⟨m, hm, rfl⟩
    · omega
    · have := (k1 m hm).2
      omega
theorem chc_bad {n : Int} {L : List ML} (h : chc 0 L = none) : bOk n L = false := by
  rw [← Bool.not_eq_true]
  intro hb
  obtain ⟨k1, k2, _⟩ := bOk_iff.1 hb
  obtain ⟨z, hz⟩ := chc_of (L := L) (l := 0) (fun m hm => by
    have := mOk_iff.1 (k1 m hm).1
    exact ⟨this.2.1, this.2.2, by omega⟩) k2
  rw [h] at hz
  cases hz
theorem bok_long {n : Int} {L : List ML} (h : 10 < L.length ∨ 100 < n) : bOk n L = false := by
  rw [← Bool.not_eq_true]
  intro hb
  obtain ⟨_, _, _, k4, k5⟩ := bOk_iff.1 hb
  omega
theorem chc_yes {u f l : Int} {t : List UInt8} {r : List ML} (h2 : l < u) (h1 : (isF f && decide (t.length ≤ 20)) = true) : chc l ((u, f, t) :: r) = chc u r := by rw [chc, if_pos (by rw [decide_eq_true h2, h1]; rfl)]
theorem chc_no {u f l : Int} {t : List UInt8} {r : List ML} (h : (isF f && decide (t.length ≤ 20)) = false ∨ ¬ l < u) : chc l ((u, f, t) :: r) = none := by
  rw [chc, if_neg]
  rw [Bool.and_eq_true, decide_eq_true_eq]
  rintro ⟨h1, h2⟩
  rcases h with h | h
  · rw [h] at h2; cases h2
  · exact h h1

set_option maxHeartbeats 1000000 in
theorem impl_ismail (f : Int) (t : List UInt8) (w : World) : Calls Try.prog 37 #[.int .i64 f, .string (sB t)] w fun e w' => e = .returned (.bool (isF f && decide (t.length ≤ 20))) ∧ w' = w := by
  have hsz := sB_size t
  obtain ⟨v, hv⟩ : ∃ v, sB t = v := ⟨_, rfl⟩
  rw [hv] at hsz ⊢
  rw [← hsz]
  clear hsz hv
  cases h2 : isF f with
  | false =>
    have H2 := Lib.hid h2
    clear h2
    go_enter Try.func37, Try.ntmps37
    go_wp2_with fail
    refine (impl_isflags f _).mono ?_
    rintro e w0 ⟨rfl, hw0⟩
    subst w0
    rw [H2.out]
    go_wp2
    go_ret
    exact ⟨rfl, rfl⟩
  | true =>
    have H2 := Lib.hid h2
    clear h2
    have h3 : decide ((v.size : Int) ≤ 20) = decide (v.size ≤ 20) := by
      by_cases h : v.size ≤ 20
      · rw [decide_eq_true h, decide_eq_true (by omega)]
      · rw [decide_eq_false h, decide_eq_false (by omega)]
    have H3 := Lib.hid h3
    clear h3
    go_enter Try.func37, Try.ntmps37
    go_wp2_with fail
    refine (impl_isflags f _).mono ?_
    rintro e w0 ⟨rfl, hw0⟩
    subst w0
    rw [H2.out]
    go_wp2
    go_ret
    exact ⟨ret_bool (by rw [← H3.out]; rfl), rfl⟩

set_option maxRecDepth 20000 in
set_option maxHeartbeats 4000000 in
theorem impl_boxvalid (n : Int) (A : Option Addr) (N cap : Nat) (L : List ML) (w : World) (h : MIn w A N cap L) :
    Calls Try.prog 27 #[.agg #[.int .i64 n, .slice A N cap]] w (SaysB w (bOk n L)) := by
  have HN := Lib.hid h.1
  have HB0 := Lib.hid ((Below.refl w.heap.size w).alloc (Nat.le_refl _) (.cells #[.int .i64 n, .slice A N cap] 25))
  obtain ⟨w1, hw1⟩ : ∃ w1, w.alloc (.cells #[.int .i64 n, .slice A N cap] 25) = w1 := ⟨_, rfl⟩
  have hW := Whole.made w 25 #[.int .i64 n, .slice A N cap]
  rw [hw1] at hW HB0
  have hz1 : w.heap.size < w1.heap.size := hW.lt
  have HW := Lib.hid hW
  have HR := Lib.hid (h.2.2.1.below HB0.out (Nat.le_refl _))
  have HW1 := Lib.hid hw1
  have b0 := hW.cell 0
  have b1 := hW.cell 1
  simp at b0 b1
  have hl := h.2.1
  clear h hW hw1
  by_cases h10 : 10 < N
  · have h10' : (10 : Int) < (N : Int) := by omega
    go_enter Try.func27, Try.ntmps27
    go_wp2
    go_ret
    rw [HW1.out]
    exact ⟨ret_bool (by rw [bok_long (by rw [HN.out]; omega)]), HB0.out⟩
  · have h10' : ¬ (10 : Int) < (N : Int) := by omega
    by_cases h100 : 100 < n
    · go_enter Try.func27, Try.ntmps27
      go_wp2
      go_ret
      rw [HW1.out]
      exact ⟨ret_bool (by rw [bok_long (by omega)]), HB0.out⟩
    · go_enter Try.func27, Try.ntmps27
      go_wp2
      rw [HW1.out]
      go_loopw [3, 18] (fun l i wr => ∃ (k : Nat) (z : Int), k ≤ N ∧ 0 ≤ z ∧ l = .int .i64 z ∧ i = .int .i64 (k : Int) ∧ Hid (Below w1.heap.size w1 wr) ∧ Hid (chc 0 L = chc z (L.drop k))) (fun _ i _ => N - (intOf i).toNat)
      case atStart => exact ⟨0, 0, Nat.zero_le _, by omega, by go_num, by go_num, Below.refl _ _, rfl⟩
      case round =>
        obtain ⟨k, z, hk, z0, rfl, rfl, HB, HK⟩ := hrel
        have hW := HW.out.below HB.out hz1
        have b0 := hW.cell 0
        have b1 := hW.cell 1
        simp at b0 b1
        have HBT := Lib.hid (HB0.out.trans (HB.out.mono (Nat.le_of_lt hz1)))
        clear hW
        by_cases hlt : k < N
        · have h0 : (0 : Int) ≤ (k : Int) := by omega
          have h5 : (k : Int) < (N : Int) := by omega
          obtain ⟨⟨u, f, t⟩, hx⟩ : ∃ x, L[k]? = some x := ⟨_, List.getElem?_eq_getElem (by rw [HN.out]; exact hlt)⟩
          obtain ⟨b, o, hAe, hb, c0, c1, c2⟩ := mail_at (HR.out.below HB.out (Nat.le_refl _)) hx
          have HD := Lib.hid (drop_at hx)
          clear hx
          subst hAe
          obtain ⟨v, hv⟩ : ∃ v, sB t = v := ⟨_, rfl⟩
          have HV := Lib.hid hv
          rw [hv] at c2
          clear hv
          by_cases hzu : z < u
          · have hzu' : ¬ u ≤ z := by omega
            cases hm : isF f && decide (t.length ≤ 20) with
            | false =>
              have HM := Lib.hid hm
              clear hm
              go_wp2_with fail
              rw [← HV.out]
              refine (impl_ismail f t _).mono ?_
              rintro e w2 ⟨rfl, hw2⟩
              subst w2
              rw [HM.out, HV.out]
              go_wp2
              go_ret
              exact ⟨ret_bool (by rw [chc_bad (by rw [HK.out, HD.out, chc_no (.inl HM.out)])]), HBT.out.alloc (HBT.out.size) _⟩
            | true =>
              have HM := Lib.hid hm
              clear hm
              go_wp2_with fail
              rw [← HV.out]
              refine (impl_ismail f t _).mono ?_
              rintro e w2 ⟨rfl, hw2⟩
              subst w2
              rw [HM.out, HV.out]
              go_wp2
              go_roundw
              case rel => exact ⟨k + 1, u, by omega, by omega, by go_num, by go_num, HB.out.alloc HB.out.size _, HK.out.trans ((congrArg (chc z) HD.out).trans (chc_yes (by omega) HM.out))⟩
              case measure => simp [intOf]; omega
          · have hzu' : u ≤ z := by omega
            go_wp2
            go_ret
            exact ⟨ret_bool (by rw [chc_bad (by rw [HK.out, HD.out, chc_no (.inr (by omega))])]), HBT.out.alloc HBT.out.size _⟩
        · have h5 : ¬ (k : Int) < (N : Int) := by omega
          have HKK : Hid (chc 0 L = some z) := by
            show _ = _
            rw [HK.out, List.drop_eq_nil_of_le (by rw [HN.out]; omega)]
            rfl
          go_wp2
          go_ret
          exact ⟨ret_bool (by rw [chc_bok HKK.out (by omega) (by rw [HN.out]; omega)]), HBT.out⟩
end Go.Proofs.Ytllhcogmcfgnoaa

namespace Go.Proofs.Ytllhcogmcfgnoaa
open Go.RowKit
set_option linter.unusedVariables false

section
variable {α : Type} {R : RowT α} {M : List α} {v : Value} {w w' : World} {A : Option Addr} {B N cap c g : Nat} {n : Int} {L : List ML} {P : List Int} {X Y : NX}
theorem MIn.keep (h : MIn w A N cap L) : Kp w fun w' => MIn w' A N cap L := fun w2 h2 => h.below h2 (Nat.le_refl _)
theorem IIn.keep (h : IIn w A N cap P) : Kp w fun w' => IIn w' A N cap P := fun w2 h2 => h.below h2 (Nat.le_refl _)
theorem ROwn.keep (h : ROwn R w B v M) : Kp w fun w' => ROwn R w' B v M := fun w2 h2 => h.kept h2
theorem Chn.keep (h : Chn w c n X) : Kp w fun w' => Chn w' c n X := fun w2 h2 => h.below h2
theorem kp_box (w : World) (t : TypeId) (cs : Array Value) : Kp (w.alloc (.cells cs t)) fun w' => Below w.heap.size w w' ∧ Whole w' w.heap.size t cs ∧ w.heap.size < w'.heap.size := fun w2 h2 =>
  ⟨(below_new w _).trans (h2.mono (by simp)), (Whole.made w t cs).below h2 (Whole.made w t cs).lt, by have := h2.size; simp at this; omega⟩
theorem chn_new (w : World) (n : Int) : Chn (w.alloc (.cells #[.int .i64 n, .pointer none] 67)) w.heap.size n [] := ⟨Whole.made w _ _, Nds.nil _ _⟩
/-- A slice of the call's own of another type grows: the chain stays. -/
theorem Chn.aside (h : Chn w c n X) (ho : ROwn R w B v M) (h1 : 67 ≠ R.t) (h2 : 51 ≠ R.t) (hg : w.grownBy w' v.ownBlock) : Chn w' c n X := by
  refine h.grown hg (fun e => ?_) (fun i g m hx e => ?_)
  · exact ho.whole h.head h1 e.symm
  · exact ho.whole (h.nds.node i g m hx).2 h2 e.symm
end
/-- A chain of the call's own is handed back. -/
def GivesK (w : World) (n : Int) (L : List ML) (e : Ending) (w' : World) : Prop :=
  ∃ c X, e = .returned (.tuple #[.pointer (some ⟨c, 0, none⟩), .bool true]) ∧ w.heap.size ≤ c ∧ c < w'.heap.size ∧ Chn w' c n X ∧ X.map (·.2) = L ∧ Below w.heap.size w w'
def GivesKNo (w : World) (e : Ending) (w' : World) : Prop := e = .returned (.tuple #[.pointer none, .bool false]) ∧ Below w.heap.size w w'
end Go.Proofs.Ytllhcogmcfgnoaa

namespace Go.Proofs.Ytllhcogmcfgnoaa
open Go.RowKit
set_option linter.unusedVariables false

set_option maxRecDepth 20000 in
set_option maxHeartbeats 4000000 in
theorem link_no (n : Int) (A : Option Addr) (N cap : Nat) (L : List ML) (w : World) (h : MIn w A N cap L) (hv : bOk n L = false) :
    Calls Try.prog 13 #[.agg #[.int .i64 n, .slice A N cap]] w (GivesKNo w) := by
  have K0 := Lib.hid ((kp_box w 25 #[.int .i64 n, .slice A N cap]).and (h.keep.alloc (.cells #[.int .i64 n, .slice A N cap] 25)))
  have HV := Lib.hid hv
  clear h hv
  have b0 := K0.out.here.1.2.1.cell 0
  have b1 := K0.out.here.1.2.1.cell 1
  simp at b0 b1
  go_enter Try.func13, Try.ntmps13
  go_wp2_with fail
  refine (impl_boxvalid n A N cap L _ K0.out.here.2).mono ?_
  rw [HV.out]
  rintro e w2 ⟨rfl, hb⟩
  have K1 := Lib.hid (K0.out.move hb)
  clear hb
  go_wp2
  go_ret2
  exact ⟨rfl, K1.out.here.1.1⟩

set_option maxRecDepth 20000 in
set_option maxHeartbeats 8000000 in
theorem link_yes (n : Int) (A : Option Addr) (N cap : Nat) (L : List ML) (w : World) (h : MIn w A N cap L) (hv : bOk n L = true) :
    Calls Try.prog 13 #[.agg #[.int .i64 n, .slice A N cap]] w (GivesK w n L) := by
  have K0 := Lib.hid ((kp_box w 25 #[.int .i64 n, .slice A N cap]).and (h.keep.alloc (.cells #[.int .i64 n, .slice A N cap] 25)))
  have HV := Lib.hid hv
  have HN := Lib.hid h.1
  have hN10 : N ≤ 10 := by have := (bOk_iff.1 hv).2.2.2.2; rw [h.1] at this; exact this
  clear h hv
  have b0 := K0.out.here.1.2.1.cell 0
  have b1 := K0.out.here.1.2.1.cell 1
  simp at b0 b1
  go_enter Try.func13, Try.ntmps13
  go_wp2_with fail
  refine (impl_boxvalid n A N cap L _ K0.out.here.2).mono ?_
  rw [HV.out]
  rintro e w2 ⟨rfl, hb⟩
  have K1 := Lib.hid (K0.out.move hb)
  clear hb b0 b1
  have b0 := K1.out.here.1.2.1.cell 0
  have b1 := K1.out.here.1.2.1.cell 1
  simp at b0 b1
  obtain ⟨C, hC⟩ : ∃ C, w2.heap.size = C := ⟨_, rfl⟩
  have HC := Lib.hid hC
  have b1' : (w2.alloc (.cells #[.int .i64 n, .pointer none] 67)).cell? ⟨w.heap.size, 1, none⟩ = some (.slice A N cap) := (World.cell?_alloc_lt w2 _ ⟨w.heap.size, 1, none⟩ K1.out.here.1.2.2).trans b1
  have hch := chn_new w2 n
  rw [hC] at hch
  have HCH := Lib.hid hch
  have hBC : w.heap.size ≤ C := by have := K1.out.here.1.2.2; omega
  clear hch
  go_wp2
  go_loopw [5, 21] (fun a i wr => ∃ (k : Nat) (X : NX), k ≤ N ∧ a = .pointer (some (lnk C X k)) ∧ i = .int .i64 (k : Int) ∧ Hid (X.length = k) ∧ Hid (X.map (·.2) = L.take k) ∧ Hid (Chn wr C n X) ∧ Hid (Below C w2 wr)) (fun _ i _ => N - (intOf i).toNat)
  case atStart => exact ⟨0, [], Nat.zero_le _, rfl, by go_num, rfl, rfl, HCH, HC.out ▸ below_new w2 _⟩
  case round =>
    obtain ⟨k, X, hk, rfl, rfl, HL, HM, HX, HB⟩ := hrel
    have K2 := Lib.hid (K1.out.move (w' := wr) (by rw [HC.out]; exact HB.out))
    by_cases hlt : k < N
    · have h0 : (0 : Int) ≤ (k : Int) := by omega
      have h5 : (k : Int) < (N : Int) := by omega
      obtain ⟨⟨u, f, t⟩, hx⟩ : ∃ x, L[k]? = some x := ⟨_, List.getElem?_eq_getElem (by rw [HN.out]; exact hlt)⟩
      obtain ⟨b, o, hAe, hb, c0, c1, c2⟩ := mail_at K2.out.here.2.2.2.1 hx
      have HXK := Lib.hid hx
      clear hx
      subst hAe
      obtain ⟨v, hv⟩ : ∃ v, sB t = v := ⟨_, rfl⟩
      have HVV := Lib.hid hv
      obtain ⟨D, hD⟩ : ∃ D, wr.heap.size = D := ⟨_, rfl⟩
      have HD := Lib.hid hD
      obtain ⟨pb, po, hp⟩ := lnk_spot C X k
      have HP := Lib.hid hp
      have hX1 := HX.out.alloc (.cells #[.int .i64 u, .int .i64 f, .string v] 49)
      have hl := (hX1.alloc (.cells #[.int .i64 u, .int .i64 f, .string v, .pointer none] 51)).link (i := k) (by rw [HL.out]; exact Nat.le_refl _)
      have hq := hX1.push (u, f, t) (N := D + 1) (by simp [hD])
      rw [HL.out] at hq
      have hC2 := (HX.out.link (i := k) (by rw [HL.out]; exact Nat.le_refl _)).2.2
      simp only [ncs, hv] at hq
      rw [hp] at hl hq hC2 ⊢
      obtain ⟨l0, l1, l2, l3⟩ := hl
      simp only at l2 l3 hC2
      have HQ := Lib.hid hq
      have HC2 := Lib.hid hC2
      rw [hv] at c2
      have hpz : ¬ pb = D := by omega
      have hpz2 : ¬ pb = D + 1 := by omega
      clear hq hp hC2 hX1 hv l2 l3
      go_wp2
      go_roundw
      case rel =>
        refine ⟨k + 1, X ++ [(D + 1, (u, f, t))], by omega, ?_, by go_num, ?_, ?_, ?_, ?_⟩
        · rw [lnk_succ (g := D + 1) (m := (u, f, t)) (by rw [List.getElem?_append_right (by rw [HL.out]; exact Nat.le_refl _), HL.out, Nat.sub_self]; rfl)]
        · show _ = _
          rw [List.length_append, HL.out]
          rfl
        · show _ = _
          rw [List.map_append, HM.out, List.take_add_one, HXK.out]
          rfl
        · exact HQ.out
        · have h1 := HB.out.size
          rw [HC.out] at h1
          exact ((HB.out.alloc h1 _).alloc (by simp; omega) _).setCell HC2.out.1 _
      case measure => simp [intOf]; omega
    · have h5 : ¬ (k : Int) < (N : Int) := by omega
      have HE : Hid (X.map (·.2) = L) := by
        show _ = _
        rw [HM.out, List.take_of_length_le (by rw [HN.out]; omega)]
      go_wp2
      go_ret2
      exact ⟨C, X, rfl, hBC, HX.out.head.lt, HX.out, HE.out, K2.out.here.1.1⟩
end Go.Proofs.Ytllhcogmcfgnoaa

namespace Go.Proofs.Ytllhcogmcfgnoaa
open Go.RowKit
set_option linter.unusedVariables false

/-- A pointer to the head of a block. -/
def ptrR : RowT Nat where
  t := 47
  sz := 1
  enc := fun b => [.pointer (some ⟨b, 0, none⟩)]
  len := fun _ => rfl
  one := fun x u hu => by
    simp at hu
    subst hu
    rfl
theorem Try.infoPtr : (Try.prog.info? 47).map (fun i => (i.zero, i.size, i.bytes)) = some (some (.pointer none), 1, 8) := by kernel_rfl
theorem ptr_at {w : World} {A : Option Addr} {G : List Nat} {k g : Nat} (h : RAt ptrR w A G) (hx : G[k]? = some g) : ∃ b o, A = some ⟨b, o, none⟩ ∧ b < w.heap.size ∧ w.cell? ⟨b, o + k, none⟩ = some (.pointer (some ⟨g, 0, none⟩)) := by
  obtain ⟨b, o, hA, hb, h1⟩ := h k _ hx
  have := h1 0 _ rfl
  have e : ptrR.sz = 1 := rfl
  rw [e, Nat.mul_one, Nat.add_zero] at this
  exact ⟨b, o, hA, hb, this⟩
/-- The nodes at places. -/
def atN (X : NX) (P : List Int) : List Nat := P.map fun x => (X.getD (x.toNat - 1) (0, (0, 0, []))).1
theorem atN_len (X : NX) (P : List Int) : (atN X P).length = P.length := by unfold atN; rw [List.length_map]
theorem atN_get {X : NX} {P : List Int} {i : Nat} {x : Int} (hx : P[i]? = some x) {g : Nat} {m : ML} (hm : X[x.toNat - 1]? = some (g, m)) : (atN X P)[i]? = some g := by
  unfold atN
  rw [List.getElem?_map, hx]
  show some ((X.getD (x.toNat - 1) (0, (0, 0, []))).1) = some g
  rw [List.getD_eq_getElem?_getD, hm]
  rfl
theorem atN_push {X : NX} {P : List Int} {i : Nat} {x : Int} (hx : P[i]? = some x) {g : Nat} {m : ML} (hm : X[x.toNat - 1]? = some (g, m)) : atN X (P.take (i + 1)) = atN X (P.take i) ++ [g] := by
  unfold atN
  rw [List.take_add_one, hx, List.map_append]
  show _ ++ [(X.getD (x.toNat - 1) (0, (0, 0, []))).1] = _
  rw [List.getD_eq_getElem?_getD, hm]
  rfl
/-- Nodes at places of a chain whose flags may have turned: only the blocks count. -/
theorem atN_same {X Y : NX} (h : X.map (·.1) = Y.map (·.1)) (P : List Int) : atN X P = atN Y P := by
  unfold atN
  refine List.map_congr_left fun x _ => ?_
  have e := congrArg (fun l => l[x.toNat - 1]?) h
  simp only [List.getElem?_map] at e
  rw [List.getD_eq_getElem?_getD, List.getD_eq_getElem?_getD]
  cases hx : X[x.toNat - 1]? <;> cases hy : Y[x.toNat - 1]? <;> rw [hx, hy] at e <;> simp at e ⊢
  exact e
end Go.Proofs.Ytllhcogmcfgnoaa

namespace Go.Proofs.Ytllhcogmcfgnoaa
open Go.RowKit
set_option linter.unusedVariables false

set_option maxRecDepth 20000 in
set_option maxHeartbeats 8000000 in
theorem spec_append (n : Int) (A : Option Addr) (N cap : Nat) (L : List ML) (f : Int) (t : List UInt8) (w : World) (h : MIn w A N cap L) :
    Calls Try.prog 24 #[.agg #[.int .i64 n, .slice A N cap], .int .i64 f, .string (sB t)] w (GivesBB w (bxAp n L f t).1 (bxAp n L f t).2.1 (bxAp n L f t).2.2) := by
  obtain ⟨B, hB⟩ : ∃ B, w.heap.size = B := ⟨_, rfl⟩
  have H1 := (Whole.made w 25 #[.int .i64 n, .slice A N cap]).alloc (.cells #[.int .i64 0, .slice none 0 0] 25)
  have H2 := Whole.made (w.alloc (.cells #[.int .i64 n, .slice A N cap] 25)) 25 #[.int .i64 0, .slice none 0 0]
  rw [show (w.alloc (.cells #[.int .i64 n, .slice A N cap] 25)).heap.size = B + 1 by simp [hB]] at H2
  rw [hB] at H1
  have hbel := ((Below.refl w.heap.size w).alloc (Nat.le_refl _) (.cells #[.int .i64 n, .slice A N cap] 25)).alloc (by simp) (.cells #[.int .i64 0, .slice none 0 0] 25)
  have h2 := h.below hbel (Nat.le_refl _)
  rw [hB] at hbel
  have hsz : ((w.alloc (.cells #[.int .i64 n, .slice A N cap] 25)).alloc (.cells #[.int .i64 0, .slice none 0 0] 25)).heap.size = B + 1 + 1 := by simp [hB]
  have hts := sB_size t
  obtain ⟨v, hv⟩ : ∃ v, sB t = v := ⟨_, rfl⟩
  have HV := Lib.hid hv
  rw [hv] at hts ⊢
  have HTS := Lib.hid hts
  clear hv hts
  have HI := Lib.hid h2
  have K1 := Lib.hid H1
  have K2 := Lib.hid H2
  have HB0 := Lib.hid hbel
  have HSZ := Lib.hid hsz
  clear H1 H2 hbel h2 hsz
  obtain ⟨bv, hbv⟩ : ∃ bv, bOk n L = bv := ⟨_, rfl⟩
  have HBV := Lib.hid hbv
  clear hbv
  go_enter Try.func24, Try.ntmps24
  go_wp2_with fail
  refine (spec_boxvalid n A N cap L _ HI.out.1 HI.out.2.2.1 HI.out.2.1).mono ?_
  rw [HBV.out]
  rintro e w2 ⟨rfl, hb⟩
  rw [HSZ.out] at hb
  have J1 := Lib.hid (K1.out.below hb (by omega))
  have J2 := Lib.hid (K2.out.below hb (by omega))
  have HI2 := Lib.hid (HI.out.below hb (by rw [HSZ.out]; omega))
  have HB2 := Lib.hid (HB0.out.trans (hb.mono (by omega)))
  have hz2 := hb.size
  rw [HSZ.out] at hz2
  clear hb
  have b0 := J1.out.cell 0
  have b1 := J1.out.cell 1
  have r0 := J2.out.cell 0
  have r1 := J2.out.cell 1
  simp at b0 b1 r0 r1
  have g0 := J2.out.free 0
  have g1 := J2.out.free 1
  cases bv with
  | false =>
    have HR := Lib.hid (bxAp_no (n := n) (L := L) (f := f) (t := t) (by rw [HBV.out]; rfl))
    go_wp2
    refine bodyPost_ret (v := .tuple #[.agg #[.int .i64 0, .slice none 0 0], .bool false]) (by simp [results, Try.results24, go_sem, r0, r1]) rfl ?_
    rw [HR.out]
    exact give_two hB (ROwn.nil _ _) HB2.out
  | true =>
    cases hf : isF f with
    | false =>
      have HF := Lib.hid hf
      have HR := Lib.hid (bxAp_no (n := n) (L := L) (f := f) (t := t) (by rw [hf]; simp))
      clear hf
      go_wp2_with fail
      refine (spec_isflags f _).mono ?_
      rintro e w3 ⟨rfl, hw3⟩
      subst w3
      rw [HF.out]
      go_wp2
      refine bodyPost_ret (v := .tuple #[.agg #[.int .i64 0, .slice none 0 0], .bool false]) (by simp [results, Try.results24, go_sem, r0, r1]) rfl ?_
      rw [HR.out]
      exact give_two hB (ROwn.nil _ _) HB2.out
    | true =>
      have HF := Lib.hid hf
      clear hf
      by_cases h20 : v.size ≤ 20
      · have h20' : ¬ (20 : Int) < (v.size : Int) := by omega
        have HR := Lib.hid (bxAp_go (n := n) (L := L) (f := f) (t := t) (by rw [HBV.out, HF.out, decide_eq_true (by rw [← HTS.out]; exact h20)]; rfl))
        have hn1 : 1 ≤ n := (bOk_iff.1 HBV.out).2.2.1
        go_wp2_with fail
        refine (spec_isflags f _).mono ?_
        rintro e w3 ⟨rfl, hw3⟩
        subst w3
        rw [HF.out]
        go_wp2_with fail
        rw [← HV.out]
        refine (spec_add n A N cap L f t _ HI2.out (by omega)).mono ?_
        rintro e w4 ⟨A4, N4, cap4, rfl, hown, hb⟩
        have J4 := Lib.hid (J2.out.below hb (by omega))
        have HB4 := Lib.hid (HB2.out.trans (hb.mono (by omega)))
        have HO4 := Lib.hid (hown.from (show B + 1 + 1 ≤ w2.heap.size from hz2))
        clear hb hown
        obtain ⟨n4, hn4⟩ : ∃ n4, (bxAdd n L f t).1 = n4 := ⟨_, rfl⟩
        obtain ⟨o4, ho4⟩ : ∃ o4, (bxAdd n L f t).2.2 = o4 := ⟨_, rfl⟩
        have HN4 := Lib.hid hn4
        have HO := Lib.hid ho4
        rw [hn4, ho4]
        clear hn4 ho4
        have s0 := J4.out.cell 0
        have s1 := J4.out.cell 1
        simp at s0 s1
        have t0 := J4.out.free 0
        have t1 := J4.out.free 1
        go_wp2
        refine bodyPost_ret (v := .tuple #[.agg #[.int .i64 n4, .slice A4 N4 cap4], .bool o4]) (by simp [results, Try.results24, go_sem, s0, s1]) rfl ?_
        rw [HR.out, HN4.out, HO.out]
        exact give_two hB HO4.out HB4.out
      · have h20' : (20 : Int) < (v.size : Int) := by omega
        have HR := Lib.hid (bxAp_no (n := n) (L := L) (f := f) (t := t) (by rw [decide_eq_false (by rw [← HTS.out]; exact h20)]; simp))
        go_wp2_with fail
        refine (spec_isflags f _).mono ?_
        rintro e w3 ⟨rfl, hw3⟩
        subst w3
        rw [HF.out]
        go_wp2
        refine bodyPost_ret (v := .tuple #[.agg #[.int .i64 0, .slice none 0 0], .bool false]) (by simp [results, Try.results24, go_sem, r0, r1]) rfl ?_
        rw [HR.out]
        exact give_two hB (ROwn.nil _ _) HB2.out
end Go.Proofs.Ytllhcogmcfgnoaa

namespace Go.Proofs.Ytllhcogmcfgnoaa
open Go.RowKit
set_option linter.unusedVariables false

theorem fbelow_drew {B : Nat} {a w : World} (h : Below B a w) : Below B a w.drew := ⟨h.os, h.tape, h.output, h.size, h.block⟩
/-- A mailbox and numbers of the call's own are handed back. -/
def GivesE (w : World) (n : Int) (L : List ML) (G : List Int) (e : Ending) (w' : World) : Prop := ∃ A N cap A2 N2 cap2, e = .returned (.tuple #[.agg #[.int .i64 n, .slice A N cap], .slice A2 N2 cap2]) ∧ ROwn mailR w' w.heap.size (.slice A N cap) L ∧ ROwn intR w' w.heap.size (.slice A2 N2 cap2) G ∧ Below w.heap.size w w'
theorem give_exp {w w' : World} {B N cap N2 cap2 : Nat} {A A2 : Option Addr} {n : Int} {L : List ML} {G : List Int} {u u2 : Value} (hB : w.heap.size = B) (ho : ROwn mailR w' (B + 1 + 1) (.slice A N cap) L) (hg : ROwn intR w' (B + 1 + 1) (.slice A2 N2 cap2) G) (hb : Below B w w') :
    GivesE w n L G (.returned (.tuple #[.agg #[.int .i64 n, .slice A N cap], .slice A2 N2 cap2])) ((w'.setCell ⟨B + 1, 0, none⟩ u).setCell ⟨B + 1, 1, none⟩ u2) := by
  refine ⟨A, N, cap, A2, N2, cap2, rfl, ?_, ?_, ?_⟩
  · rw [hB]
    exact ((ho.store (p := ⟨B + 1, 0, none⟩) (ho.base (B + 1) (by omega)) _).store (p := ⟨B + 1, 1, none⟩) (ho.base (B + 1) (by omega)) _).from (by omega)
  · rw [hB]
    exact ((hg.store (p := ⟨B + 1, 0, none⟩) (hg.base (B + 1) (by omega)) _).store (p := ⟨B + 1, 1, none⟩) (hg.base (B + 1) (by omega)) _).from (by omega)
  · rw [hB]
    exact (hb.setCell (p := ⟨B + 1, 0, none⟩) (Nat.le_succ _) _).setCell (p := ⟨B + 1, 1, none⟩) (Nat.le_succ _) _
theorem dl_num {u f : Int} {t : List UInt8} (h : mOk (u, f, t) = true) : ∃ d1 : Nat, f.tdiv 8 = (d1 : Int) ∧ f / 8 = (d1 : Int) ∧ d1 ≤ 31 ∧ ((dlM (u, f, t) = true ∧ (d1 : Int) % 2 = 1) ∨ (dlM (u, f, t) = false ∧ (d1 : Int) % 2 = 0)) ∧ 0 ≤ f := by
  obtain ⟨_, h2, _⟩ := mOk_iff.1 h
  obtain ⟨a, ha, e⟩ := isF_nat h2
  simp only at e
  subst e
  refine ⟨a / 8, IntWalk.up_tdiv rfl rfl, by omega, by omega, ?_, by omega⟩
  cases hb : tb a 3
  · refine .inr ⟨hb, ?_⟩
    exact half_no (k := 3) (q := 8) rfl rfl hb
  · refine .inl ⟨hb, ?_⟩
    exact half_yes (k := 3) (q := 8) rfl rfl hb
set_option maxRecDepth 20000 in
set_option maxHeartbeats 8000000 in
theorem spec_expunge_no (n : Int) (A : Option Addr) (N cap : Nat) (L : List ML) (w : World) (h : MIn w A N cap L) (hv : bOk n L = false) :
    Calls Try.prog 26 #[.agg #[.int .i64 n, .slice A N cap]] w (GivesE w 0 [] []) := by
  obtain ⟨i0, hi, hq0, hq1, hq2⟩ := info_parts Try.infoMail
  obtain ⟨j0, hj, hp0, hp1, hp2⟩ := info_parts Try.infoNum
  obtain ⟨B, hB⟩ : ∃ B, w.heap.size = B := ⟨_, rfl⟩
  have H1 := (Whole.made w 25 #[.int .i64 n, .slice A N cap]).alloc (.cells #[.int .i64 0, .slice none 0 0] 25)
  have H2 := Whole.made (w.alloc (.cells #[.int .i64 n, .slice A N cap] 25)) 25 #[.int .i64 0, .slice none 0 0]
  rw [show (w.alloc (.cells #[.int .i64 n, .slice A N cap] 25)).heap.size = B + 1 by simp [hB]] at H2
  rw [hB] at H1
  have hbel := ((Below.refl w.heap.size w).alloc (Nat.le_refl _) (.cells #[.int .i64 n, .slice A N cap] 25)).alloc (by simp) (.cells #[.int .i64 0, .slice none 0 0] 25)
  have h2 := h.below hbel (Nat.le_refl _)
  rw [hB] at hbel
  have hsz : ((w.alloc (.cells #[.int .i64 n, .slice A N cap] 25)).alloc (.cells #[.int .i64 0, .slice none 0 0] 25)).heap.size = B + 1 + 1 := by simp [hB]
  have HI := Lib.hid h2
  have K1 := Lib.hid H1
  have K2 := Lib.hid H2
  have HB0 := Lib.hid hbel
  have HSZ := Lib.hid hsz
  have hNl := h.2.1
  have HNL := Lib.hid h.1
  have HIW := Lib.hid h
  clear H1 H2 hbel h2 hsz h
  have HBV := Lib.hid hv
  clear hv
  go_enter Try.func26, Try.ntmps26
  go_wp2_with fail
  refine (spec_boxvalid n A N cap L _ HI.out.1 HI.out.2.2.1 HI.out.2.1).mono ?_
  rw [HBV.out]
  rintro e w2 ⟨rfl, hb⟩
  rw [HSZ.out] at hb
  have J1 := Lib.hid (K1.out.below hb (by omega))
  have J2 := Lib.hid (K2.out.below hb (by omega))
  have HI2 := Lib.hid (HI.out.below hb (by rw [HSZ.out]; omega))
  have HB2 := Lib.hid (HB0.out.trans (hb.mono (by omega)))
  have hz2 := hb.size
  rw [HSZ.out] at hz2
  clear hb
  have b0 := J1.out.cell 0
  have b1 := J1.out.cell 1
  have r0 := J2.out.cell 0
  have r1 := J2.out.cell 1
  simp at b0 b1 r0 r1
  have g0 := J2.out.free 0
  have g1 := J2.out.free 1
  obtain ⟨C, hC⟩ : ∃ C, w2.heap.size = C := ⟨_, rfl⟩
  rw [hC] at hz2
  have hgo : ROwn intR (w2.alloc (.cells #[] 3)) (B + 1 + 1) (.slice (some ⟨C, 0, none⟩) 0 0) [] := ROwn.lit (R := intR) (B := B + 1 + 1) w2 C (by rw [hC]; exact hz2) hC
  have HGO := Lib.hid hgo
  have HB3 := Lib.hid (HB2.out.alloc (by rw [hC]; omega) (.cells #[] 3))
  have J3 := J2.out.alloc (.cells #[] 3)
  have r0' := J3.cell 0
  have r1' := J3.cell 1
  simp at r0' r1'
  have g0' := J3.free 0
  have g1' := J3.free 1
  clear hgo J3
  go_wp2
  refine bodyPost_ret (v := .tuple #[.agg #[.int .i64 0, .slice none 0 0], .slice (some ⟨C, 0, none⟩) 0 0]) (by simp [results, Try.results26, go_sem, r0', r1']) rfl ?_
  exact give_exp hB (ROwn.nil _ _) HGO.out HB3.out
set_option maxRecDepth 20000 in
set_option maxHeartbeats 8000000 in
theorem spec_expunge_yes (n : Int) (A : Option Addr) (N cap : Nat) (L : List ML) (w : World) (h : MIn w A N cap L) (hv : bOk n L = true) :
    Calls Try.prog 26 #[.agg #[.int .i64 n, .slice A N cap]] w (GivesE w n (kpM L) (gnI L)) := by
  obtain ⟨i0, hi, hq0, hq1, hq2⟩ := info_parts Try.infoMail
  obtain ⟨j0, hj, hp0, hp1, hp2⟩ := info_parts Try.infoNum
  obtain ⟨B, hB⟩ : ∃ B, w.heap.size = B := ⟨_, rfl⟩
  have H1 := (Whole.made w 25 #[.int .i64 n, .slice A N cap]).alloc (.cells #[.int .i64 0, .slice none 0 0] 25)
  have H2 := Whole.made (w.alloc (.cells #[.int .i64 n, .slice A N cap] 25)) 25 #[.int .i64 0, .slice none 0 0]
  rw [show (w.alloc (.cells #[.int .i64 n, .slice A N cap] 25)).heap.size = B + 1 by simp [hB]] at H2
  rw [hB] at H1
  have hbel := ((Below.refl w.heap.size w).alloc (Nat.le_refl _) (.cells #[.int .i64 n, .slice A N cap] 25)).alloc (by simp) (.cells #[.int .i64 0, .slice none 0 0] 25)
  have h2 := h.below hbel (Nat.le_refl _)
  rw [hB] at hbel
  have hsz : ((w.alloc (.cells #[.int .i64 n, .slice A N cap] 25)).alloc (.cells #[.int .i64 0, .slice none 0 0] 25)).heap.size = B + 1 + 1 := by simp [hB]
  have HI := Lib.hid h2
  have K1 := Lib.hid H1
  have K2 := Lib.hid H2
  have HB0 := Lib.hid hbel
  have HSZ := Lib.hid hsz
  have hNl := h.2.1
  have HNL := Lib.hid h.1
  have HIW := Lib.hid h
  clear H1 H2 hbel h2 hsz h
  have HBV := Lib.hid hv
  clear hv
  go_enter Try.func26, Try.ntmps26
  go_wp2_with fail
  refine (spec_boxvalid n A N cap L _ HI.out.1 HI.out.2.2.1 HI.out.2.1).mono ?_
  rw [HBV.out]
  rintro e w2 ⟨rfl, hb⟩
  rw [HSZ.out] at hb
  have J1 := Lib.hid (K1.out.below hb (by omega))
  have J2 := Lib.hid (K2.out.below hb (by omega))
  have HI2 := Lib.hid (HI.out.below hb (by rw [HSZ.out]; omega))
  have HB2 := Lib.hid (HB0.out.trans (hb.mono (by omega)))
  have hz2 := hb.size
  rw [HSZ.out] at hz2
  clear hb
  have b0 := J1.out.cell 0
  have b1 := J1.out.cell 1
  have r0 := J2.out.cell 0
  have r1 := J2.out.cell 1
  simp at b0 b1 r0 r1
  have g0 := J2.out.free 0
  have g1 := J2.out.free 1
  obtain ⟨C, hC⟩ : ∃ C, w2.heap.size = C := ⟨_, rfl⟩
  rw [hC] at hz2
  have hown : ROwn mailR (((w2.alloc (.cells #[] 49)).alloc (.cells #[.int .i64 n, .slice (some ⟨C, 0, none⟩) 0 0] 25)).alloc (.cells #[] 3)) (B + 1 + 1) (.slice (some ⟨C, 0, none⟩) 0 0) [] := ((ROwn.lit (R := mailR) (B := B + 1 + 1) w2 C (by rw [hC]; exact hz2) hC).alloc (.cells #[.int .i64 n, .slice (some ⟨C, 0, none⟩) 0 0] 25)).alloc (.cells #[] 3)
  have hgo : ROwn intR (((w2.alloc (.cells #[] 49)).alloc (.cells #[.int .i64 n, .slice (some ⟨C, 0, none⟩) 0 0] 25)).alloc (.cells #[] 3)) (B + 1 + 1) (.slice (some ⟨C + 1 + 1, 0, none⟩) 0 0) [] := ROwn.lit (R := intR) (B := B + 1 + 1) ((w2.alloc (.cells #[] 49)).alloc (.cells #[.int .i64 n, .slice (some ⟨C, 0, none⟩) 0 0] 25)) (C + 1 + 1) (by simp [hC]; omega) (by simp [hC])
  have hbx := (Whole.made (w2.alloc (.cells #[] 49)) 25 #[.int .i64 n, .slice (some ⟨C, 0, none⟩) 0 0]).alloc (.cells #[] 3)
  rw [show (w2.alloc (.cells #[] 49)).heap.size = C + 1 by simp [hC]] at hbx
  have hb1 := ((J1.out.alloc (.cells #[] 49)).alloc (.cells #[.int .i64 n, .slice (some ⟨C, 0, none⟩) 0 0] 25)).alloc (.cells #[] 3)
  have hb2 := ((J2.out.alloc (.cells #[] 49)).alloc (.cells #[.int .i64 n, .slice (some ⟨C, 0, none⟩) 0 0] 25)).alloc (.cells #[] 3)
  have hb3 := ((HB2.out.alloc (by omega) (.cells #[] 49)).alloc (by simp [hC]; omega) (.cells #[.int .i64 n, .slice (some ⟨C, 0, none⟩) 0 0] 25)).alloc (by simp [hC]; omega) (.cells #[] 3)
  have HOWN := Lib.hid hown
  have HGO := Lib.hid hgo
  have HBX := Lib.hid hbx
  have HK1 := Lib.hid hb1
  have HK2 := Lib.hid hb2
  have HB3 := Lib.hid hb3
  clear hown hgo hbx hb1 hb2 hb3 b0 b1 r0 r1 g0 g1
  have b0 := J1.out.cell 0
  simp at b0
  go_wp2
  obtain ⟨w3, hw3⟩ : ∃ w3, ((w2.alloc (.cells #[] 49)).alloc (.cells #[.int .i64 n, .slice (some ⟨C, 0, none⟩) 0 0] 25)).alloc (.cells #[] 3) = w3 := ⟨_, rfl⟩
  have hz3 : w3.heap.size = C + 1 + 1 + 1 := by rw [← hw3]; simp [hC]
  rw [hw3] at HOWN HGO HBX HK1 HK2 HB3 ⊢
  clear hw3
  go_loopw [5, 6] (fun v x wr => ∃ (k : Nat) (A3 : Option Addr) (N3 cap3 : Nat) (A4 : Option Addr) (N4 cap4 : Nat), k ≤ N ∧ v = .slice A4 N4 cap4 ∧ x = .int .i64 (k : Int) ∧ C + 1 + 1 < wr.heap.size ∧ N3 ≤ k ∧
      Hid (Whole wr (C + 1) 25 #[.int .i64 n, .slice A3 N3 cap3]) ∧ Hid (ROwn mailR wr (B + 1 + 1) (.slice A3 N3 cap3) (kpM (L.take k))) ∧ Hid (ROwn intR wr (B + 1 + 1) (.slice A4 N4 cap4) (gnI (L.take k))) ∧
      Hid (Whole wr B 25 #[.int .i64 n, .slice A N cap]) ∧ Hid (Whole wr (B + 1) 25 #[.int .i64 0, .slice none 0 0]) ∧ Hid (Below B w wr)) (fun _ x _ => N - (intOf x).toNat)
  case atStart => exact ⟨0, _, _, _, _, _, _, Nat.zero_le _, rfl, by go_num, by omega, Nat.le_refl _, HBX, HOWN, HGO, HK1, HK2, HB3⟩
  case round =>
    obtain ⟨k, A3, N3, cap3, A4, N4, cap4, hk, rfl, rfl, hzr, hN3, HX, HO, HG, HJ1, HJ2, HB⟩ := hrel
    have HM := Lib.hid (HIW.out.below HB.out (Nat.le_of_eq hB))
    have b0 := HJ1.out.cell 0
    have b1 := HJ1.out.cell 1
    have x0 := HX.out.cell 0
    have x1 := HX.out.cell 1
    have r0 := HJ2.out.cell 0
    have r1 := HJ2.out.cell 1
    simp at b0 b1 x0 x1 r0 r1
    have g0 := HJ2.out.free 0
    have g1 := HJ2.out.free 1
    have y1 := HX.out.free 1
    by_cases hlt : k < N
    · have h0 : (0 : Int) ≤ (k : Int) := by omega
      have h5 : (k : Int) < (N : Int) := by omega
      obtain ⟨⟨u, f, t⟩, hx⟩ : ∃ x, L[k]? = some x := ⟨_, List.getElem?_eq_getElem (by rw [HNL.out]; exact hlt)⟩
      obtain ⟨b, o, hAe, hb, c0, c1, c2⟩ := mail_at HM.out.2.2.1 hx
      obtain ⟨d1, E1, E2, E3, hd, E4⟩ := dl_num ((bOk_get HBV.out hx).1)
      have W1 : IntKind.i64.wrap (d1 : Int) = (d1 : Int) := IntWalk.i64_in _ (by omega)
      subst hAe
      rcases hd with ⟨hd, F1⟩ | ⟨hd, F1⟩
      · have HKD := Lib.hid (kp_dl hx hd)
        have HX0 := Lib.hid hx
        clear hx hd
        have hN4 : N4 = (gnI (L.take k)).length := HG.out.len.1
        have hg4 : (gnI (L.take k)).length ≤ k := by
          unfold gnI
          rw [List.length_map]
          have := gnM_len 0 (L.take k)
          rw [List.length_take] at this
          omega
        have h4k : N4 ≤ k := by omega
        have HN4 := Lib.hid hN4.symm
        clear hN4 hg4
        obtain ⟨m4, hm4⟩ : ∃ m, N3 + 1 = m := ⟨_, rfl⟩
        have W2 : IntKind.i64.wrap ((N3 : Int) + 1) = (m4 : Int) := (IntWalk.i64_in _ (by omega)).trans (by omega)
        have E5 : (N3 : Int) + 1 = (m4 : Int) := by omega
        have hnew : RAt intR (wr.alloc (.cells #[.int .i64 (m4 : Int)] 3)) (some ⟨wr.heap.size, 0, none⟩) [(m4 : Int)] := RAt.made intR wr [(m4 : Int)] _ rfl
        have hown := HG.out.alloc (.cells #[.int .i64 (m4 : Int)] 3)
        have hml : N4 + 1 ≤ maxLen := by unfold maxLen; omega
        have hby : (N4 + 1) * 8 ≤ 140737488355328 := by omega
        go_wp2_with (at_builtin; refine wpList_append_rows rfl _ _ 26 rfl intR (B + 1 + 1) j0 _ 8 Try.underlying26 hj hp0 hp1 hp2 rfl (by decide) _ (gnI (L.take k)) [(m4 : Int)] N4 HN4.out rfl hown _ 1 1 rfl rfl hnew (fun e => by cases e) (fun q e => by cases e; rfl) hml hby (by simp; omega) ?_)
        intro v' w5 hown5 hgrow hnn
        obtain ⟨A5, N5, cap5, rfl⟩ := hown5.val
        have hbs : ∀ z, (Value.slice A4 N4 cap4).ownBlock = some z → B + 1 + 1 ≤ z := fun z hz => (World.ownsRow.lt hown z hz).1
        have hnX : (Value.slice A4 N4 cap4).ownBlock ≠ some (C + 1) := HG.out.whole HX.out (by decide)
        have hnO : (Value.slice A3 N3 cap3).ownBlock = none ∨ (Value.slice A3 N3 cap3).ownBlock ≠ (Value.slice A4 N4 cap4).ownBlock := own_apart HO.out HG.out (by decide)
        have HX5 := Lib.hid ((HX.out.alloc (.cells #[.int .i64 (m4 : Int)] 3)).grown hgrow (fun e => hnX e.symm))
        have HO5 := Lib.hid ((HO.out.alloc (.cells #[.int .i64 (m4 : Int)] 3)).apart hgrow hnO)
        have HJ15 := Lib.hid ((HJ1.out.alloc (.cells #[.int .i64 (m4 : Int)] 3)).grown hgrow (fun e => by have := hbs _ e.symm; omega))
        have HJ25 := Lib.hid ((HJ2.out.alloc (.cells #[.int .i64 (m4 : Int)] 3)).grown hgrow (fun e => by have := hbs _ e.symm; omega))
        have HB5 := Lib.hid ((HB.out.alloc (by omega) (.cells #[.int .i64 (m4 : Int)] 3)).grown hgrow (by simp; omega) (fun z hz => by have := hbs z hz; omega))
        have HG5 := Lib.hid hown5
        have hz5 : C + 1 + 1 < w5.heap.size := by have := hgrow.size; simp at this; omega
        clear hown hown5 hgrow hnn hnew hml hby hbs hnX hnO b0 b1 x0 x1 r0 r1 g0 g1 y1 c0 c1 c2
        go_wp2
        go_roundw
        case rel =>
          refine ⟨k + 1, A3, N3, cap3, A5, N5, cap5, by omega, rfl, by go_num, hz5, by omega, HX5, ?_, ?_, HJ15, HJ25, HB5⟩
          · rw [HKD.out.1]; exact HO5
          · rw [HKD.out.2]
            have e : (((kpM (L.take k)).length + 1 : Nat) : Int) = (m4 : Int) := by
              have := HO.out.len.1
              omega
            rw [e]
            exact HG5
        case measure => simp [intOf]; omega
      · have HKD := Lib.hid (kp_no hx hd)
        clear hx hd
        obtain ⟨v, hv⟩ : ∃ v, sB t = v := ⟨_, rfl⟩
        have hnew : RAt mailR ((wr.drew).alloc (.cells #[.int .i64 u, .int .i64 f, .string v] 49)) (some ⟨wr.heap.size, 0, none⟩) [(u, f, t)] := by
          rw [← hv]
          exact RAt.made mailR wr.drew [(u, f, t)] _ rfl
        rw [hv] at c2
        have hown : ROwn mailR ((wr.drew).alloc (.cells #[.int .i64 u, .int .i64 f, .string v] 49)) (B + 1 + 1) (.slice A3 N3 cap3) (kpM (L.take k)) := ROwn.alloc (w := wr.drew) HO.out (.cells #[.int .i64 u, .int .i64 f, .string v] 49)
        have HN3 := Lib.hid HO.out.len.1.symm
        have hml : N3 + 1 ≤ maxLen := by unfold maxLen; omega
        have hby : (N3 + 1) * 32 ≤ 140737488355328 := by omega
        clear hv
        have HNX := Lib.hid (show (Value.slice A3 N3 cap3).ownBlock ≠ some (C + 1) from HO.out.whole HX.out (by decide))
        have HNO := Lib.hid (own_apart HG.out HO.out (by decide))
        have x1a := (HX.out.alloc (.cells #[.int .i64 u, .int .i64 f, .string v] 49)).cell 1
        simp at x1a
        go_wp2
        go_region_law (refine step_append_rows rfl (.tmp 41) (.tmp 47) 23 rfl mailR (B + 1 + 1) i0 _ 32 Try.underlying23 hi hq0 hq1 hq2 rfl (by decide) _ (kpM (L.take k)) [(u, f, t)] N3 HN3.out rfl hown (some ⟨wr.heap.size, 0, none⟩) 1 1 rfl rfl hnew (fun e => by cases e) (fun q e => by cases e; rfl) hml hby (by simp; omega) ?_; intro v' w6 hown6 hgrow hnn; obtain ⟨A6, N6, cap6, rfl⟩ := hown6.val; have HX6 := Lib.hid (Whole.grown (Whole.alloc (Whole.drew HX.out) (.cells #[.int .i64 u, .int .i64 f, .string v] 49)) hgrow (fun e => HNX.out e.symm)); have x1' := HX6.out.cell 1; simp at x1'; have y1' := HX6.out.free 1; have HO6 := Lib.hid hown6; have HG6 := Lib.hid (ROwn.apart (ROwn.alloc (w := wr.drew) HG.out (.cells #[.int .i64 u, .int .i64 f, .string v] 49)) hgrow HNO.out); have HBS := Lib.hid (fun (z : Nat) (hz : (Value.slice A3 N3 cap3).ownBlock = some z) => (World.ownsRow.lt hown z hz).1); have HJ16 := Lib.hid (Whole.grown (Whole.alloc (Whole.drew HJ1.out) (.cells #[.int .i64 u, .int .i64 f, .string v] 49)) hgrow (fun e => by have := HBS.out _ e.symm; omega)); have HJ26 := Lib.hid (Whole.grown (Whole.alloc (Whole.drew HJ2.out) (.cells #[.int .i64 u, .int .i64 f, .string v] 49)) hgrow (fun e => by have := HBS.out _ e.symm; omega)); have HB6 := Lib.hid (((fbelow_drew HB.out).alloc (by simp <;> omega) (.cells #[.int .i64 u, .int .i64 f, .string v] 49)).grown hgrow (by simp <;> omega) (fun z hz => by have := HBS.out z hz; omega)); have hz6 : C + 1 + 1 < w6.heap.size := (by have := hgrow.size; simp at this; omega); clear hown6 hgrow hnn)
        all_goals
          have HNX6 := Lib.hid (show (Value.slice A6 N6 cap6).ownBlock ≠ some (C + 1) from HO6.out.whole HX6.out (by decide))
          have HNG6 := Lib.hid (show (Value.slice A4 N4 cap4).ownBlock ≠ some (C + 1) from HG6.out.whole HX6.out (by decide))
          go_wp2
          go_roundw
          case rel =>
            refine ⟨k + 1, A6, N6, cap6, A4, N4, cap4, by omega, rfl, by go_num, by simpa using hz6, ?_, ?_, ?_, ?_, ?_, ?_, ?_⟩
            · have := HO6.out.len.1
              have h3 := HN3.out
              rw [List.length_append, List.length_singleton] at this
              omega
            · exact HX6.out.store 1 _
            · rw [HKD.out.1]; exact HO6.out.store (p := ⟨C + 1, 1, none⟩) HNX6.out _
            · rw [HKD.out.2]; exact HG6.out.store (p := ⟨C + 1, 1, none⟩) HNG6.out _
            · exact HJ16.out.apart (by simp; omega) _
            · exact HJ26.out.apart (by simp; omega) _
            · exact HB6.out.setCell (p := ⟨C + 1, 1, none⟩) (by simp; omega) _
          case measure => simp [intOf]; omega
    · have h5 : ¬ (k : Int) < (N : Int) := by omega
      have hkN : L.take k = L := List.take_of_length_le (by rw [HNL.out]; omega)
      rw [hkN] at HO HG
      clear hkN
      go_wp2
      refine bodyPost_ret (v := .tuple #[.agg #[.int .i64 n, .slice A3 N3 cap3], .slice A4 N4 cap4]) (by simp [results, Try.results26, go_sem, r0, r1]) rfl ?_
      exact give_exp hB HO.out HG.out HB.out
end Go.Proofs.Ytllhcogmcfgnoaa

namespace Go.Proofs.Ytllhcogmcfgnoaa
open Go.RowKit
set_option linter.unusedVariables false

set_option maxRecDepth 20000 in
set_option maxHeartbeats 8000000 in
theorem impl_box (c : Nat) (n : Int) (X : NX) (w : World) (h : Chn w c n X) (hl : X.length ≤ 20) :
    Calls Try.prog 16 #[.pointer (some ⟨c, 0, none⟩)] w (GivesB w n (X.map (·.2))) := by
  obtain ⟨i0, hi, hq0, hq1, hq2⟩ := info_parts Try.infoMail
  obtain ⟨B, hB⟩ : ∃ B, w.heap.size = B := ⟨_, rfl⟩
  obtain ⟨Z, hZ⟩ : ∃ Z, X.length = Z := ⟨_, rfl⟩
  have HZ := Lib.hid hZ
  have HBB := Lib.hid hB
  have K0 := Lib.hid h.keep
  obtain ⟨M, hM⟩ : ∃ M, X.map (·.2) = M := ⟨_, rfl⟩
  have HM := Lib.hid hM
  rw [hM]
  clear hM
  have hcB := h.head.lt
  have c0 := (h.alloc (.cells #[.int .i64 0, .slice none 0 0] 25)).head.cell 0
  have c1 := ((h.alloc (.cells #[.int .i64 0, .slice none 0 0] 25)).alloc (.cells #[.int .i64 n, .slice none 0 0] 25)).head.cell 1
  simp at c0 c1
  have hR := (Whole.made w 25 #[.int .i64 0, .slice none 0 0]).alloc (.cells #[.int .i64 n, .slice none 0 0] 25)
  have hV := Whole.made (w.alloc (.cells #[.int .i64 0, .slice none 0 0] 25)) 25 #[.int .i64 n, .slice none 0 0]
  rw [show (w.alloc (.cells #[.int .i64 0, .slice none 0 0] 25)).heap.size = B + 1 by simp [hB]] at hV
  rw [hB] at hR hcB
  have hb0 := ((Below.refl w.heap.size w).alloc (Nat.le_refl _) (.cells #[.int .i64 0, .slice none 0 0] 25)).alloc (by simp) (.cells #[.int .i64 n, .slice none 0 0] 25)
  rw [hB] at hb0
  have HR0 := Lib.hid hR
  have HV0 := Lib.hid hV
  have HB0 := Lib.hid hb0
  rw [hZ] at hl
  clear h hZ hR hV hb0
  go_enter Try.func16, Try.ntmps16
  go_wp2
  obtain ⟨w3, hw3⟩ : ∃ w3, (w.alloc (.cells #[.int .i64 0, .slice none 0 0] 25)).alloc (.cells #[.int .i64 n, .slice none 0 0] 25) = w3 := ⟨_, rfl⟩
  have hz3 : w3.heap.size = B + 1 + 1 := by rw [← hw3]; simp [hB]
  rw [hw3] at HR0 HV0 HB0 ⊢
  clear hw3 c0 c1
  go_loopg [4] Z (fun gk a wr => ∃ (k : Nat) (A3 : Option Addr) (cap3 : Nat), k + gk = Z ∧ a = .pointer (nxt X k) ∧ B + 1 < wr.heap.size ∧
      Hid (Whole wr B 25 #[.int .i64 0, .slice none 0 0]) ∧ Hid (Whole wr (B + 1) 25 #[.int .i64 n, .slice A3 k cap3]) ∧ Hid (ROwn mailR wr (B + 1 + 1) (.slice A3 k cap3) (M.take k)) ∧ Hid (Below B w wr))
  case atStart => exact ⟨0, none, 0, by omega, rfl, by omega, HR0, HV0, ROwn.nil _ _, HB0⟩
  case round =>
    obtain ⟨k, A3, cap3, hk, rfl, hBr, HR, HX, HO, HB⟩ := hrel
    have K1 := Lib.hid (K0.out.move (w' := wr) (by rw [HBB.out]; exact HB.out))
    have x0 := HX.out.cell 0
    have x1 := HX.out.cell 1
    have r0 := HR.out.cell 0
    have r1 := HR.out.cell 1
    simp at x0 x1 r0 r1
    have y1 := HX.out.free 1
    have s0 := HR.out.free 0
    have s1 := HR.out.free 1
    by_cases hlt : k < Z
    · obtain ⟨⟨g, ⟨u, f, t⟩⟩, hx⟩ : ∃ y, X[k]? = some y := ⟨_, List.getElem?_eq_getElem (by rw [HZ.out]; exact hlt)⟩
      obtain ⟨d0, d1, d2, d3⟩ := K1.out.here.nds.cells hx
      have hgB : g < B := by rw [← HBB.out]; exact K0.out.here.nds.size hx
      have hg1 : ¬ g = B + 1 := by omega
      have HN1 := Lib.hid (nxt_some hx)
      have HTK := Lib.hid (show M.take (k + 1) = M.take k ++ [(u, f, t)] by rw [List.take_add_one, ← HM.out, List.getElem?_map, hx]; rfl)
      have HGX := Lib.hid hx
      clear hx
      rw [HN1.out]
      obtain ⟨v, hv⟩ : ∃ v, sB t = v := ⟨_, rfl⟩
      simp only [hv] at d0 d1 d2
      obtain ⟨P2, hP2⟩ : ∃ P2, nxt X (k + 1) = P2 := ⟨_, rfl⟩
      have HP2 := Lib.hid hP2
      rw [hP2] at d3
      obtain ⟨D, hD⟩ : ∃ D, wr.heap.size = D := ⟨_, rfl⟩
      have HD := Lib.hid hD
      rw [hD] at hBr
      have hnew : RAt mailR (wr.alloc (.cells #[.int .i64 u, .int .i64 f, .string v] 49)).drew (some ⟨D, 0, none⟩) [(u, f, t)] := by
        rw [← hv]
        exact RAt.made mailR wr [(u, f, t)] _ hD
      have hown : ROwn mailR (wr.alloc (.cells #[.int .i64 u, .int .i64 f, .string v] 49)).drew (B + 1 + 1) (.slice A3 k cap3) (M.take k) := ROwn.alloc (w := wr) HO.out (.cells #[.int .i64 u, .int .i64 f, .string v] 49)
      have HNN := Lib.hid HO.out.len.1.symm
      have hml : k + 1 ≤ maxLen := by unfold maxLen; omega
      have hby : (k + 1) * 32 ≤ 140737488355328 := by omega
      clear hv hP2
      have x1a := (HX.out.alloc (.cells #[.int .i64 u, .int .i64 f, .string v] 49)).cell 1
      simp at x1a
      go_wp2
      go_region_law (refine step_append_rows rfl (.tmp 21) (.tmp 26) 23 rfl mailR (B + 1 + 1) i0 _ 32 Try.underlying23 hi hq0 hq1 hq2 rfl (by decide) _ (M.take k) [(u, f, t)] k HNN.out rfl hown (some ⟨D, 0, none⟩) 1 1 rfl rfl hnew (fun e => by cases e) (fun q e => by cases e; rfl) hml hby (by simp; omega) ?_; intro v' w6 hown6 hgrow hnn; obtain ⟨A6, N6, cap6, rfl⟩ := hown6.val; have hBS : ∀ z, (Value.slice A3 k cap3).ownBlock = some z → B + 1 + 1 ≤ z := (fun z hz => (World.ownsRow.lt hown z hz).1); have HX6 := Lib.hid (Whole.grown (Whole.drew (Whole.alloc HX.out (.cells #[.int .i64 u, .int .i64 f, .string v] 49))) hgrow (fun e => by have := hBS _ e.symm; omega)); have HR6 := Lib.hid (Whole.grown (Whole.drew (Whole.alloc HR.out (.cells #[.int .i64 u, .int .i64 f, .string v] 49))) hgrow (fun e => by have := hBS _ e.symm; omega)); have x1' := HX6.out.cell 1; simp at x1'; have y1' := HX6.out.free 1; have HO6 := Lib.hid hown6; have hb6 := ((fbelow_drew (HB.out.alloc (by omega) (.cells #[.int .i64 u, .int .i64 f, .string v] 49))).grown hgrow (by simp <;> omega) (fun z hz => by have := hBS z hz; omega)); have hz6 : B + 1 < w6.heap.size := (by have := hgrow.size; simp at this; omega); have HB6 := Lib.hid hb6; clear hown6 hgrow hnn hb6)
      all_goals
        have k3 := (K0.out.move (w' := w6) (by rw [HBB.out]; exact HB6.out)).here
        have d3' : w6.cell? ⟨g, 3, none⟩ = some (.pointer P2) := by rw [← HP2.out]; exact (k3.nds.cells HGX.out).2.2.2
        have hn6 : N6 = k + 1 := by
          have h1 := HO6.out.len.1
          have h2 := HNN.out
          rw [List.length_append, List.length_singleton] at h1
          omega
        clear k3
        subst hn6
        have HNX6 := Lib.hid (HO6.out.base (B + 1) (by omega))
        go_wp2
        go_roundg (gk - 1)
        case measure => omega
        case rel =>
          refine ⟨k + 1, A6, cap6, by omega, by rw [HP2.out], by simpa using hz6, HR6.out.apart (by show B ≠ B + 1; omega) _, HX6.out.store 1 _, ?_, HB6.out.setCell (p := ⟨B + 1, 1, none⟩) (by simp) _⟩
          rw [HTK.out]
          exact HO6.out.store (p := ⟨B + 1, 1, none⟩) HNX6.out _
    · have hkZ : k = Z := by omega
      have HMK : Hid (M.take k = M) := List.take_of_length_le (by rw [← HM.out, List.length_map, HZ.out]; omega)
      have HNK : Hid (nxt X k = none) := nxt_end (by rw [HZ.out]; omega)
      clear hkZ
      rw [HNK.out]
      go_wp2
      refine bodyPost_ret (v := .agg #[.int .i64 n, .slice A3 k cap3]) (by simp [results, Try.results16, go_sem, r0, r1]) rfl ?_
      refine ⟨A3, k, cap3, rfl, ?_, ?_⟩
      · rw [HBB.out, ← HMK.out]
        exact ((HO.out.store (p := ⟨B, 0, none⟩) (HO.out.base B (by omega)) _).store (p := ⟨B, 1, none⟩) (HO.out.base B (by omega)) _).from (by omega)
      · rw [HBB.out]
        exact (HB.out.setCell (p := ⟨B, 0, none⟩) (Nat.le_refl _) _).setCell (p := ⟨B, 1, none⟩) (Nat.le_refl _) _
end Go.Proofs.Ytllhcogmcfgnoaa

namespace Go.Proofs.Ytllhcogmcfgnoaa
open Go.RowKit
set_option linter.unusedVariables false

/-- The last link, and how many nodes are ahead of it. -/
def GivesEnd (w : World) (c : Nat) (X : NX) (e : Ending) (w' : World) : Prop := e = .returned (.tuple #[.pointer (some (lnk c X X.length)), .int .i64 (X.length : Int)]) ∧ w = w'
/-- A message is put, or not. -/
def PutYes (w : World) (c : Nat) (n : Int) (X : NX) (m : ML) (e : Ending) (w' : World) : Prop := ∃ N, e = .returned (.bool true) ∧ Chn w' c (n + 1) (X ++ [(N, m)]) ∧ Below c w w'
theorem head_next {w : World} {c : Nat} {n k : Int} {X : NX} (h : Chn w c n X) : Chn (w.setCell ⟨c, 0, none⟩ (.int .i64 k)) c k X :=
  ⟨h.head.store 0 (.int .i64 k), h.nds.apart (fun i g m hx => by have := (h.nds.node i g m hx).1; show g ≠ c; omega) _⟩
end Go.Proofs.Ytllhcogmcfgnoaa

namespace Go.Proofs.Ytllhcogmcfgnoaa
open Go.RowKit
set_option linter.unusedVariables false

section
variable {w : World} {t1 t2 t3 : TypeId} {c1 c2 c3 : Array Value}
/-- Two new blocks, one after the other. -/
theorem kp_two (w : World) (t1 t2 : TypeId) (c1 c2 : Array Value) {B : Nat} (hB : w.heap.size = B) : Kp ((w.alloc (.cells c1 t1)).alloc (.cells c2 t2)) fun w' => Below B w w' ∧ Whole w' B t1 c1 ∧ Whole w' (B + 1) t2 c2 ∧ B + 1 + 1 ≤ w'.heap.size := fun w2 h2 => by
  subst hB
  have h1 := (Whole.made w t1 c1).alloc (.cells c2 t2)
  have h3 := Whole.made (w.alloc (.cells c1 t1)) t2 c2
  have e : (w.alloc (.cells c1 t1)).heap.size = w.heap.size + 1 := by simp
  rw [e] at h3
  refine ⟨((below_new w _).alloc (by simp) _).trans (h2.mono (by simp; omega)), h1.below h2 h1.lt, h3.below h2 h3.lt, ?_⟩
  have := h2.size
  simp at this
  omega
end
theorem bxAp_size {n : Int} {L : List ML} (h : bOk n L = true) : L.length ≤ 10 ∧ 1 ≤ n := ⟨(bOk_iff.1 h).2.2.2.2, (bOk_iff.1 h).2.2.1⟩

end Go.Proofs.Ytllhcogmcfgnoaa

namespace Go.Proofs.Ytllhcogmcfgnoaa
set_option linter.unusedVariables false

theorem plc_get {len : Nat} {P : List Int} (h : plc len 0 P = true) {i : Nat} {x : Int} (hx : P[i]? = some x) : 1 ≤ x ∧ x ≤ (len : Int) := by
  have := (plc_iff.1 h).1 x (List.mem_of_getElem? hx)
  omega
theorem plc_lenI {len : Nat} : ∀ {P : List Int} {l : Int}, 0 ≤ l → l ≤ (len : Int) → plc len l P = true → l + (P.length : Int) ≤ (len : Int)
  | [], l, h0, h1, _ => by simpa using h1
  | x :: P, l, h0, h1, h => by
    rw [plc, Bool.and_eq_true, Bool.and_eq_true, decide_eq_true_eq, decide_eq_true_eq] at h
    have := plc_lenI (P := P) (l := x) (by omega) h.1.2 h.2
    rw [List.length_cons]
    omega
theorem plc_len {len : Nat} {P : List Int} (h : plc len 0 P = true) : P.length ≤ len := by
  have := plc_lenI (Int.le_refl 0) (by omega) h
  omega
theorem plc_new {len : Nat} {P : List Int} (h : plc len 0 P = true) {i : Nat} {x : Int} (hx : P[i]? = some x) : ∀ y ∈ P.take i, y < x := by
  intro y hy
  obtain ⟨j, hj⟩ := List.mem_iff_getElem?.1 hy
  have hp := (plc_iff.1 h).2
  obtain ⟨h1, e1⟩ := List.getElem?_eq_some_iff.1 hj
  rw [List.length_take] at h1
  rw [List.getElem_take] at e1
  obtain ⟨h2, e2⟩ := List.getElem?_eq_some_iff.1 hx
  have := List.pairwise_iff_getElem.1 hp j i (by omega) h2 (by omega)
  rw [e1, e2] at this
  exact this
theorem flM_step {P : List Int} {h f : Int} {L : List ML} {i k : Nat} {m : ML} (hp : plc L.length 0 P = true) (hx : P[i]? = some ((k + 1 : Nat) : Int)) (hm : L[k]? = some m) :
    (flM (P.take i) h f 1 L)[k]? = some m ∧ (flM (P.take i) h f 1 L).set k (chM h f m) = flM (P.take (i + 1)) h f 1 L := by
  have hn : (P.take i).contains ((1 + k : Nat) : Int) = false := by
    rw [← Bool.not_eq_true, List.contains_iff_mem]
    intro hc
    have := plc_new hp hx _ hc
    omega
  have h1 := flM_get (P.take i) h f 1 k L m hm
  rw [hn] at h1
  refine ⟨h1, ?_⟩
  apply List.ext_getElem?
  intro j
  have hk := (List.getElem?_eq_some_iff.1 hm).1
  by_cases hj : k = j
  · subst hj
    rw [List.getElem?_set_self (by rw [flM_len]; exact hk), flM_get _ _ _ 1 k L m hm]
    have : (P.take (i + 1)).contains ((1 + k : Nat) : Int) = true := by
      rw [List.contains_iff_mem, List.take_add_one, hx]
      exact List.mem_append_right _ (by simp; omega)
    rw [this]
    rfl
  · rw [List.getElem?_set_ne hj]
    rcases Nat.lt_or_ge j L.length with hl | hl
    · rw [flM_get _ _ _ 1 j L _ (List.getElem?_eq_getElem hl), flM_get _ _ _ 1 j L _ (List.getElem?_eq_getElem hl)]
      have : (P.take (i + 1)).contains ((1 + j : Nat) : Int) = (P.take i).contains ((1 + j : Nat) : Int) := by
        rw [Bool.eq_iff_iff, List.contains_iff_mem, List.contains_iff_mem, List.take_add_one, hx]
        constructor
        · intro hc
          rcases List.mem_append.1 hc with hc | hc
          · exact hc
          · simp at hc
            omega
        · exact fun hc => List.mem_append_left _ hc
      rw [this]
    · rw [List.getElem?_eq_none (by rw [flM_len]; exact hl), List.getElem?_eq_none (by rw [flM_len]; exact hl)]
theorem flM_done (P : List Int) (h f : Int) (L : List ML) : flM (P.take P.length) h f 1 L = flM P h f 1 L := by rw [List.take_length]
theorem bxFl_no {n : Int} {L : List ML} {P : List Int} {h f : Int} (hn : (bOk n L && plc L.length 0 P && howB h && isF f) = false) : bxFl n L P h f = (0, [], false) := by unfold bxFl; rw [hn]; rfl
theorem bxFl_yes {n : Int} {L : List ML} {P : List Int} {h f : Int} (h1 : bOk n L = true) (h2 : plc L.length 0 P = true) (h3 : howB h = true) (h4 : isF f = true) : bxFl n L P h f = (n, flM P h f 1 L, true) := by unfold bxFl; rw [h1, h2, h3, h4]; rfl

theorem cpA_full {n : Int} {M : List ML} {m : ML} {r : List ML} (h : 10 ≤ M.length ∨ 99 < n) : cpA n M (m :: r) = none := by rw [cpA, if_pos h]
theorem cpA_next {n : Int} {M : List ML} {m : ML} {r : List ML} (h : ¬ (10 ≤ M.length ∨ 99 < n)) : cpA n M (m :: r) = cpA (n + 1) (M ++ [(n, m.2.1, m.2.2)]) r := by rw [cpA, if_neg h]
theorem bxCp_no {n m : Int} {L M : List ML} {P : List Int} (h : (bOk n L && bOk m M && plc L.length 0 P) = false) : bxCp n L P m M = (0, [], false) := by unfold bxCp; rw [h]; rfl
theorem bxCp_all {n m n2 : Int} {L M M2 : List ML} {P : List Int} (h1 : bOk n L = true) (h2 : bOk m M = true) (h3 : plc L.length 0 P = true) (hc : cpA m M (atM L P) = some (n2, M2)) : bxCp n L P m M = (n2, M2, true) := by unfold bxCp; rw [h1, h2, h3, hc]; rfl
theorem bxCp_none {n m : Int} {L M : List ML} {P : List Int} (h1 : bOk n L = true) (h2 : bOk m M = true) (h3 : plc L.length 0 P = true) (hc : cpA m M (atM L P) = none) : bxCp n L P m M = (m, M, false) := by unfold bxCp; rw [h1, h2, h3, hc]; rfl
theorem atM_drop {L : List ML} {P : List Int} {i k : Nat} {m : ML} (hx : P[i]? = some ((k + 1 : Nat) : Int)) (hm : L[k]? = some m) : (atM L P).drop i = m :: (atM L P).drop (i + 1) := by
  have h := atM_get (m := m) hx (by rw [show ((k + 1 : Nat) : Int).toNat - 1 = k by omega]; exact hm)
  obtain ⟨hk, e⟩ := List.getElem?_eq_some_iff.1 h
  rw [List.drop_eq_getElem_cons hk, e]

theorem udM_app (U : List Int) : ∀ (i : Nat) (L M : List ML), udM U i (L ++ M) = udM U i L ++ udM U (i + L.length) M
  | i, [], M => rfl
  | i, m :: r, M => by
    rw [List.cons_append, udM, udM, udM_app U (i + 1) r M, List.length_cons, show i + 1 + r.length = i + (r.length + 1) by omega]
    split <;> rfl
/-- The places as numbers. -/
def udI (U : List Int) (L : List ML) : List Int := (udM U 1 L).map fun (x : Nat) => (x : Int)
theorem udI_yes {U : List Int} {L : List ML} {k : Nat} {x : ML} (hx : L[k]? = some x) (h : U.contains x.1 = true) : udI U (L.take (k + 1)) = udI U (L.take k) ++ [((k + 1 : Nat) : Int)] := by
  have hk := (List.getElem?_eq_some_iff.1 hx).1
  unfold udI
  rw [List.take_add_one, hx]
  show (udM U 1 (L.take k ++ [x])).map _ = _
  rw [udM_app, List.map_append, List.length_take, Nat.min_eq_left (by omega), udM, h, if_pos rfl, show 1 + k = k + 1 by omega]
  rfl
theorem udI_no {U : List Int} {L : List ML} {k : Nat} {x : ML} (hx : L[k]? = some x) (h : U.contains x.1 = false) : udI U (L.take (k + 1)) = udI U (L.take k) := by
  unfold udI
  rw [List.take_add_one, hx]
  show (udM U 1 (L.take k ++ [x])).map _ = _
  rw [udM_app, List.map_append, udM, h, if_neg (by simp)]
  exact List.append_nil _
theorem udM_le (U : List Int) : ∀ (i : Nat) (L : List ML), (udM U i L).length ≤ L.length
  | _, [] => Nat.le_refl _
  | i, m :: r => by
    rw [udM]
    have := udM_le U (i + 1) r
    split <;> simp <;> omega
theorem udI_le (U : List Int) (L : List ML) : (udI U L).length ≤ L.length := by unfold udI; rw [List.length_map]; exact udM_le U 1 L
/-- BoxUids as numbers. -/
def bxUI (n : Int) (L : List ML) (U : List Int) : List Int := if bOk n L then udI U L else []
theorem bxUI_yes {n : Int} {L : List ML} {U : List Int} (h : bOk n L = true) : bxUI n L U = udI U L := by unfold bxUI; rw [h]; rfl
theorem bxUI_no {n : Int} {L : List ML} {U : List Int} (h : bOk n L = false) : bxUI n L U = [] := by unfold bxUI; rw [h]; rfl

theorem dl_have {u f : Int} {t : List UInt8} (h : mOk (u, f, t) = true) : hvI f 8 = dlM (u, f, t) := by
  obtain ⟨_, h2, _⟩ := mOk_iff.1 h
  obtain ⟨a, ha, e⟩ := isF_nat h2
  simp only at e
  subst e
  rw [show (8 : Int) = ((8 : Nat) : Int) from rfl, hvI_yes ha (by omega)]
  exact have_bit (f := a) (k := 3) ha (by omega)
end Go.Proofs.Ytllhcogmcfgnoaa

namespace Go.Proofs.Ytllhcogmcfgnoaa
open Go.RowKit
set_option linter.unusedVariables false

/-- Where a number is in a list, or a negative number. -/
def SaysAt (w : World) (b : Bool) (e : Ending) (w' : World) : Prop := ∃ z : Int, e = .returned (.int .i64 z) ∧ decide (0 ≤ z) = b ∧ Below w.heap.size w w'
/-- A list of messages in memory of its own. -/
def GivesM (w : World) (L : List ML) (e : Ending) (w' : World) : Prop := ∃ A N cap, e = .returned (.slice A N cap) ∧ ROwn mailR w' w.heap.size (.slice A N cap) L ∧ Below w.heap.size w w'
/-- Numbers of the call's own. -/
def GivesN (w : World) (G : List Int) (e : Ending) (w' : World) : Prop := ∃ A N cap, e = .returned (.slice A N cap) ∧ ROwn intR w' w.heap.size (.slice A N cap) G ∧ Below w.heap.size w w'
theorem kp_one (w : World) (t : TypeId) (cs : Array Value) {B : Nat} (hB : w.heap.size = B) : Kp (w.alloc (.cells cs t)) fun w' => Below B w w' ∧ Whole w' B t cs ∧ B + 1 ≤ w'.heap.size := fun w2 h2 => by
  subst hB
  exact ⟨(below_new w _).trans (h2.mono (by simp)), (Whole.made w t cs).below h2 (Whole.made w t cs).lt, by have := h2.size; simp at this; omega⟩
end Go.Proofs.Ytllhcogmcfgnoaa

namespace Go.Proofs.Ytllhcogmcfgnoaa
open Go.RowKit
set_option linter.unusedVariables false

/-- The nodes at places are handed back, or not. -/
def GivesP (w : World) (X : NX) (P : List Int) (b : Bool) (e : Ending) (w' : World) : Prop :=
  match b with
  | true => ∃ A cap, e = .returned (.tuple #[.slice A P.length cap, .bool true]) ∧ ROwn ptrR w' w.heap.size (.slice A P.length cap) (atN X P) ∧ Below w.heap.size w w'
  | false => e = .returned (.tuple #[.slice none 0 0, .bool false]) ∧ Below w.heap.size w w'
theorem plc_end (len : Nat) (l : Int) : plc len l [] = true := rfl

set_option maxRecDepth 20000 in
set_option maxHeartbeats 8000000 in
theorem impl_pick (c : Nat) (n : Int) (X : NX) (A : Option Addr) (N cap : Nat) (P : List Int) (b : Bool) (w : World) (h : Chn w c n X) (hl : X.length ≤ 20) (hp : IIn w A N cap P) (hb : plc X.length 0 P = b) :
    Calls Try.prog 15 #[.pointer (some ⟨c, 0, none⟩), .slice A N cap] w (GivesP w X P b) := by
  obtain ⟨i0, hi, hq0, hq1, hq2'⟩ := info_parts Try.infoPtr
  obtain ⟨B, hB⟩ : ∃ B, w.heap.size = B := ⟨_, rfl⟩
  obtain ⟨Z, hZ⟩ : ∃ Z, X.length = Z := ⟨_, rfl⟩
  rw [hZ] at hl hb
  have HZ := Lib.hid hZ
  have HBB := Lib.hid hB
  have HPB := Lib.hid hb
  have K0 := Lib.hid (h.keep.and hp.keep)
  have HNP := Lib.hid hp.1
  have hN25 := hp.2.1
  have c1 := h.head.cell 1
  simp at c1
  clear h hZ hp hb
  go_enter Try.func15, Try.ntmps15
  go_wp2
  go_loopg [6, 7, 8, 17] N (fun gk v p a i wr => ∃ (j k q : Nat) (A3 : Option Addr) (cap3 : Nat), j + gk = N ∧ j ≤ k ∧ k ≤ Z ∧ v = .slice A3 j cap3 ∧ p = .pointer (nxt X k) ∧ a = .int .i64 (q : Int) ∧ i = .int .i64 (j : Int) ∧ B ≤ wr.heap.size ∧
      Hid (q = k + 1) ∧ Hid (ROwn ptrR wr B (.slice A3 j cap3) (atN X (P.take j))) ∧ Hid (Below B w wr) ∧ Hid (plc Z 0 P = plc Z (k : Int) (P.drop j)))
  case atStart => exact ⟨0, 0, 1, none, 0, by omega, by omega, by omega, rfl, rfl, by go_num, by go_num, by omega, rfl, ROwn.nil _ _, HBB.out ▸ Below.refl _ _, rfl⟩
  case round =>
    obtain ⟨j, k, q, A3, cap3, hj, hjk, hkZ, rfl, rfl, rfl, rfl, hBr, HQ, HO, HB, HR⟩ := hrel
    have K1 := Lib.hid (K0.out.move (w' := wr) (by rw [HBB.out]; exact HB.out))
    by_cases hlt : j < N
    · have h0 : (0 : Int) ≤ (j : Int) := by omega
      have h5 : (j : Int) < (N : Int) := by omega
      obtain ⟨x, hx⟩ : ∃ x, P[j]? = some x := ⟨_, List.getElem?_eq_getElem (by rw [HNP.out]; exact hlt)⟩
      obtain ⟨bb, oo, hAe, hbb, c0⟩ := int_at K1.out.here.2.2.2.1 hx
      have HX := Lib.hid hx
      have HD := Lib.hid (drop_at hx)
      clear hx
      subst hAe
      obtain ⟨gO, rfl⟩ : ∃ gO : Nat, gO = gk := ⟨_, rfl⟩
      go_wp2
      go_loopg [7, 8] (Z - k) (fun gk2 p a wr2 => ∃ (k2 q2 : Nat), k2 + gk2 = Z ∧ k ≤ k2 ∧ (k2 = k ∨ (k2 : Int) + 1 ≤ x) ∧ p = .pointer (nxt X k2) ∧ a = .int .i64 (q2 : Int) ∧ Hid (q2 = k2 + 1) ∧ wr = wr2)
      case atStart => exact ⟨k, q, by omega, by omega, .inl rfl, rfl, rfl, HQ, rfl⟩
      case round =>
        obtain ⟨k2, q2, hk2, hkk, hor, rfl, rfl, HQ2, rfl⟩ := hrel
        have hq2 : (q2 : Int) = (k2 : Int) + 1 := by have := HQ2.out; omega
        have hq30 : q2 ≤ 30 := by omega
        by_cases hz2 : k2 < Z
        · obtain ⟨⟨g, ⟨u, f, t⟩⟩, hg⟩ : ∃ y, X[k2]? = some y := ⟨_, List.getElem?_eq_getElem (by rw [HZ.out]; exact hz2)⟩
          obtain ⟨d0, d1, d2, d3⟩ := K1.out.here.1.nds.cells hg
          have HG := Lib.hid hg
          have HN1 := Lib.hid (nxt_some hg)
          clear hg d0 d1 d2
          rw [HN1.out]
          by_cases hqx : (q2 : Int) < x
          · have HQX := Lib.hid hq2
            clear hq2
            go_wp2
            go_roundg (gk - 1)
            case measure => omega
            case rel =>
              have := HQX.out
              exact ⟨k2 + 1, q2 + 1, by omega, by omega, .inr (by omega), rfl, by go_num, by show _ = _; rw [HQ2.out], rfl⟩
          · by_cases hqe : (q2 : Int) = x
            · have hne : ((q2 : Int) != x) = false := by rw [hqe]; simp
              have hx1 : (k2 : Int) + 1 = x := by omega
              have HX1 := Lib.hid hx1
              have hkx : (k : Int) < x := by omega
              have HQX := Lib.hid hqe
              have HQY := Lib.hid hq2
              have hnew : RAt ptrR (wr.alloc (.cells #[.pointer (some ⟨g, 0, none⟩)] 47)) (some ⟨wr.heap.size, 0, none⟩) [g] := RAt.made ptrR wr [g] _ rfl
              have hown := HO.out.alloc (.cells #[.pointer (some ⟨g, 0, none⟩)] 47)
              have HJ := Lib.hid HO.out.len.1.symm
              have hml : j + 1 ≤ maxLen := by unfold maxLen; omega
              have hby : (j + 1) * 8 ≤ 140737488355328 := by omega
              clear hqe hx1 hq2
              go_wp2_with (at_builtin; refine wpList_append_rows rfl (.tmp 41) (.tmp 43) 44 rfl ptrR B i0 _ 8 Try.underlying44 hi hq0 hq1 hq2' rfl (by decide) _ (atN X (P.take j)) [g] j HJ.out rfl hown _ 1 1 rfl rfl hnew (fun e => by cases e) (fun q e => by cases e; rfl) hml hby (by simp; omega) ?_)
              intro v' w5 hown5 hgrow hnn
              obtain ⟨A5, N5, cap5, rfl⟩ := hown5.val
              have HB5 := Lib.hid ((HB.out.alloc hBr (.cells #[.pointer (some ⟨g, 0, none⟩)] 47)).grown hgrow (by simp; omega) (fun z hz => (World.ownsRow.lt hown z hz).1))
              have HO5 := Lib.hid hown5
              have d3' := ((K0.out.move (w' := w5) (by rw [HBB.out]; exact HB5.out)).here.1.nds.cells HG.out).2.2.2
              have hz5 : B ≤ w5.heap.size := by have := hgrow.size; simp at this; omega
              have hn5 : N5 = j + 1 := by
                have h1 := HO5.out.len.1
                have h2 := HJ.out
                rw [List.length_append, List.length_singleton] at h1
                omega
              clear hown5 hgrow hown hnew hnn d3 hml hby
              subst hn5
              go_wp2
              go_roundg (gO - 1)
              case measure => omega
              case rel =>
                have e1 := HX1.out
                refine ⟨j + 1, k2 + 1, q2 + 1, A5, cap5, by omega, by omega, by omega, rfl, rfl, by go_num, by go_num, hz5, by show _ = _; rw [HQ2.out], ?_, HB5, ?_⟩
                · rw [atN_push HX.out (g := g) (m := (u, f, t)) (by rw [show x.toNat - 1 = k2 by omega]; exact HG.out)]
                  exact HO5
                · show _ = _
                  rw [HR.out, HD.out, plc_yes hkx (by omega), ← e1]
                  rfl
            · have hne : ((q2 : Int) != x) = true := bne_iff_ne.2 hqe
              have HF : Hid (b = false) := by
                show _ = _
                rw [← HPB.out, HR.out, HD.out, plc_no (.inl (by omega))]
              clear hqe hq2
              go_wp2
              go_ret2
              rw [HF.out]
              exact ⟨rfl, HBB.out ▸ HB.out⟩
        · have HN1 : Hid (nxt X k2 = none) := nxt_end (by rw [HZ.out]; omega)
          have HF : Hid (b = false) := by
            show _ = _
            rw [← HPB.out, HR.out, HD.out]
            rcases hor with rfl | hor
            · by_cases e : (k2 : Int) < x
              · exact plc_no (.inr (by omega))
              · exact plc_no (.inl e)
            · exact plc_no (.inr (by omega))
          rw [HN1.out]
          clear hq2
          go_wp2
          go_ret2
          rw [HF.out]
          exact ⟨rfl, HBB.out ▸ HB.out⟩
    · have h5 : ¬ (j : Int) < (N : Int) := by omega
      have hjN : j = N := by omega
      subst hjN
      have HT : Hid (b = true) := by
        show _ = _
        rw [← HPB.out, HR.out, List.drop_eq_nil_of_le (by rw [HNP.out]; omega)]
        rfl
      have HPT : Hid (P.take j = P) := List.take_of_length_le (by rw [HNP.out]; omega)
      go_wp2
      go_ret2
      rw [HT.out]
      refine ⟨A3, cap3, ?_, ?_, HBB.out ▸ HB.out⟩
      · rw [HNP.out]; rfl
      · rw [HNP.out, HBB.out]
        have h1 := HO.out
        rw [HPT.out] at h1
        exact h1
end Go.Proofs.Ytllhcogmcfgnoaa
