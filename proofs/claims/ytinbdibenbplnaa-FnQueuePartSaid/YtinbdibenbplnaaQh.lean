/-
  My texts Jv, Jw in one, so that a claim holds fewer files. Conditions: each contract's own.
-/
import Derived.Test.YtinbdibenbplnaaQg
import Derived.BigQuiet
namespace Go.Proofs.Ytinbdibenbplnaa
open Go.RowKit
set_option linter.unusedVariables false

/-- A small item, in its key. -/
def smK (k : QK) : Prop := k.2.1.size ≤ 30 ∧ k.2.2.1.size ≤ 30 ∧ k.2.2.2.length ≤ 6 ∧ ∀ g ∈ k.2.2.2, g.size ≤ 30
def smQ (K : List QK) : Prop := ∀ k ∈ K, smK k
theorem smQ_nil : smQ [] := fun k hk => by cases hk
theorem tk1_sm {k : QK} {id : Int} {u : ByteArray} (h : smK k) : smK (tk1 id u k) := by
  unfold tk1
  split
  · exact ⟨h.1, h.2.1, Nat.le_trans (List.length_filter_le _ _) h.2.2.1, fun g hg => h.2.2.2 g ((List.mem_filter.1 hg).1)⟩
  · exact h
theorem qtK_sm {n : Int} {L : List QI} {id : Int} {u : ByteArray} (h : smQ (L.map keyI)) : smQ (qtK n L id u) ∧ (qtK n L id u).length ≤ L.length := by
  unfold qtK
  split
  · refine ⟨fun k hk => ?_, ?_⟩
    · obtain ⟨x, hx, rfl⟩ := List.mem_map.1 (List.mem_filter.1 hk).1
      exact tk1_sm (h x hx)
    · refine Nat.le_trans (List.length_filter_le _ _) ?_
      rw [List.length_map, List.length_map]
      exact Nat.le_refl _
  · exact ⟨smQ_nil, Nat.zero_le _⟩
theorem qaK_sm {n : Int} {L : List QI} {u t : ByteArray} {T : List ByteArray} (h : smQ (L.map keyI)) (hk : smK (n, u, t, T)) : smQ (qaK n L u t T) ∧ (qaK n L u t T).length ≤ L.length + 1 := by
  unfold qaK
  split
  · split
    · refine ⟨fun k hm => ?_, by simp⟩
      rcases List.mem_append.1 hm with hm | hm
      · exact h k hm
      · rw [List.mem_singleton.1 hm]; exact hk
    · exact ⟨h, by simp⟩
  · exact ⟨smQ_nil, Nat.zero_le _⟩
theorem smQ_sm {L : List QI} (h : smQ (L.map keyI)) : ∀ g ∈ L, SmI 1048576 g := fun g hg => by
  obtain ⟨h1, h2, h3, h4⟩ := h (keyI g) (List.mem_map.2 ⟨g, hg, rfl⟩)
  exact ⟨by have : g.us.size ≤ 30 := h1; omega, by have : g.tx.size ≤ 30 := h2; omega, by have : g.T.length ≤ 6 := h3; omega, fun x hx => by have : x.size ≤ 30 := h4 x hx; omega⟩
theorem OwnQ.grown {w w' : World} {B b : Nat} {A : Option Addr} {N cap : Nat} {L : List QI} (h : OwnQ w B A N cap L) (hg : w.grownBy w' (some b)) (hb : b < B) : OwnQ w' B A N cap L := ⟨h.1.grown hg hb, fun g hx => (h.2.1 g hx).grown hg hb, h.2.2⟩
theorem OwnQ.qinS {w : World} {B : Nat} {A : Option Addr} {N cap : Nat} {L : List QI} (h : OwnQ w B A N cap L) (hs : smQ (L.map keyI)) (hl : L.length ≤ 1000) : QIn w A N cap L := h.qin (by omega) (smQ_sm hs)
/-- The queue so far, in block 'S'. -/
def QD (w wr : World) (b q S : Nat) (n : Int) (A : Option Addr) (N cap : Nat) (L : List QI) : Prop := DG w wr b q ∧ Whole wr S 31 #[.int .i64 n, .slice A N cap] ∧ Whole wr w.heap.size 31 ZQ ∧ OwnQ wr w.heap.size A N cap L ∧ b < w.heap.size ∧ w.heap.size < S
section
variable {w wr w' : World} {b q q' S N cap : Nat} {n : Int} {A : Option Addr} {L : List QI}
theorem QD.read (h : QD w wr b q S n A N cap L) (hr : Rd w' b q') (hg : wr.grownBy w' (some b)) : QD w w' b q' S n A N cap L :=
  ⟨DG.read h.1 hr hg, h.2.1.grown hg (by have := h.2.2.2.2; simp; omega), h.2.2.1.grown hg (by have := h.2.2.2.2; simp; omega), h.2.2.2.1.grown hg h.2.2.2.2.1, h.2.2.2.2⟩
theorem QD.later (h : QD w wr b q S n A N cap L) (hb : Below wr.heap.size wr w') : QD w w' b q S n A N cap L :=
  ⟨h.1.later hb, h.2.1.below hb h.2.1.lt, h.2.2.1.below hb h.2.2.1.lt, h.2.2.2.1.kept hb, h.2.2.2.2⟩
/-- The queue is put anew. -/
theorem QD.put {n' : Int} {A' : Option Addr} {N' cap' B : Nat} {M : List QI} (h : QD w wr b q S n A N cap L) (ho : OwnQ wr B A' N' cap' M) (hB : w.heap.size ≤ B) : QD w ((wr.setCell ⟨S, 0, none⟩ (.int .i64 n')).setCell ⟨S, 1, none⟩ (.slice A' N' cap')) b q S n' A' N' cap' M := by
  have hS : w.heap.size ≠ S := by have := h.2.2.2.2.2; omega
  have hW := h.2.1.store 0 (.int .i64 n')
  refine ⟨(h.1.set h.2.2.2.2.1 (Nat.le_of_lt h.2.2.2.2.2) 0 _).set h.2.2.2.2.1 (Nat.le_of_lt h.2.2.2.2.2) 1 _, (h.2.1.store 0 _).store 1 _, (h.2.2.1.apart (p := ⟨S, 0, none⟩) hS _).apart (p := ⟨S, 1, none⟩) hS _, ?_, h.2.2.2.2⟩
  exact (OwnQ.storeT (OwnQ.storeT ho h.2.1 (by decide) (by decide) _) hW (by decide) (by decide) _).from hB
theorem QD.next (h : QD w wr b q S n A N cap L) (n' : Int) : QD w (wr.setCell ⟨S, 0, none⟩ (.int .i64 n')) b q S n' A N cap L := by
  have hS : w.heap.size ≠ S := by have := h.2.2.2.2.2; omega
  exact ⟨h.1.set h.2.2.2.2.1 (Nat.le_of_lt h.2.2.2.2.2) 0 _, h.2.1.store 0 _, h.2.2.1.apart (p := ⟨S, 0, none⟩) hS _, h.2.2.2.1.storeT h.2.1 (by decide) (by decide) _, h.2.2.2.2⟩
/-- The result is stored. -/
theorem QD.done (h : QD w wr b q S n A N cap L) (a0 a1 : Value) : DG w ((wr.setCell ⟨w.heap.size, 0, none⟩ a0).setCell ⟨w.heap.size, 1, none⟩ a1) b q ∧ OwnQ ((wr.setCell ⟨w.heap.size, 0, none⟩ a0).setCell ⟨w.heap.size, 1, none⟩ a1) w.heap.size A N cap L ∧ Whole ((wr.setCell ⟨w.heap.size, 0, none⟩ a0).setCell ⟨w.heap.size, 1, none⟩ a1) w.heap.size 31 #[a0, a1] := by
  have hb := h.2.2.2.2.1
  have hW := h.2.2.1.store 0 a0
  exact ⟨(h.1.set hb (Nat.le_refl _) 0 a0).set hb (Nat.le_refl _) 1 a1, OwnQ.storeT (OwnQ.storeT h.2.2.2.1 h.2.2.1 (by decide) (by decide) _) hW (by decide) (by decide) _, (h.2.2.1.store 0 a0).store 1 a1⟩
end
/-- A drawn queue. -/
def DrewQ (w : World) (b p : Nat) (e : Ending) (w' : World) : Prop := ∃ (n : Int) (A : Option Addr) (N cap : Nat) (L : List QI) (q : Nat), e = .returned (.agg #[.int .i64 n, .slice A N cap]) ∧ q ≤ p + 200 ∧ DG w w' b q ∧ OwnQ w' w.heap.size A N cap L ∧ smQ (L.map keyI) ∧ L.length ≤ 8
theorem QD.drew {w wr : World} {b q S : Nat} {n : Int} {A : Option Addr} {N cap : Nat} {L : List QI} (h : QD w wr b q S n A N cap L) : QD w wr.drew b q S n A N cap L := ⟨⟨h.1.1, gr_drew h.1.2⟩, h.2.1, h.2.2.1, ⟨h.2.2.2.1.1, h.2.2.2.1.2.1.drewN 1, h.2.2.2.1.2.2⟩, h.2.2.2.2⟩
/-- A store into another queue's block. -/
theorem QD.far {w wr : World} {b q S F : Nat} {n : Int} {A : Option Addr} {N cap : Nat} {L : List QI} {cs : Array Value} (h : QD w wr b q S n A N cap L) (hF : Whole wr F 31 cs) (hlt : S < F) (j : Nat) (u : Value) : QD w (wr.setCell ⟨F, j, none⟩ u) b q S n A N cap L := by
  have h5 := h.2.2.2.2.2
  exact ⟨h.1.set h.2.2.2.2.1 (by omega) j _, h.2.1.apart (p := ⟨F, j, none⟩) (by show S ≠ F; omega) _, h.2.2.1.apart (p := ⟨F, j, none⟩) (by show w.heap.size ≠ F; omega) _, h.2.2.2.1.storeT hF (by decide) (by decide) _, h.2.2.2.2⟩
theorem below_newq (w : World) (v0 v1 : Value) : Below w.heap.size w (w.alloc (.cells #[v0, v1] 31)) := below_new w _
theorem own_some {α : Type} {R : RowT α} {w : World} {B N cap : Nat} {A : Option Addr} {L : List α} (h : ROwn R w B (.slice A N cap) L) (hL : L ≠ []) : ∃ g, A = some ⟨g, 0, none⟩ := by
  obtain ⟨A', c', he, _, _, _, _, hne⟩ := h.form
  injection he with he1 he2 he3
  subst he1
  exact hne hL
theorem of_wh {w : World} {b p G : Nat} {ls : List (List UInt8)} (h : Rd w b p) (hp : p ≤ 1000000) (hn : 1 ≤ ls.length) (hn' : ls.length ≤ 1000000) (hW : Whole w G 9 (ls.map str).toArray) (hg : G ≠ b) :
    Calls Try.prog 73 #[.pointer (some ⟨b, 0, none⟩), .slice (some ⟨G, 0, none⟩) ls.length ls.length] w (Chosen w b p ls) := by
  refine of_any b p G ls.length ls w h hp hn hn' hg hW.lt (fun j hj => ?_)
  rw [hW.cell j, List.getElem?_toArray, List.getElem?_map, List.getD_eq_getElem?_getD, List.getElem?_eq_getElem hj]
  rfl
theorem nx_at {y : Nat} (h : y < 5) : ∃ z : Int, (#[Value.int .i64 0, .int .i64 1, .int .i64 99, .int .i64 100, .int .i64 101] : Array Value)[y]? = some (.int .i64 z) := by
  match y, h with
  | 0, _ => exact ⟨0, rfl⟩
  | 1, _ => exact ⟨1, rfl⟩
  | 2, _ => exact ⟨99, rfl⟩
  | 3, _ => exact ⟨100, rfl⟩
  | 4, _ => exact ⟨101, rfl⟩
def NM3 : List (List UInt8) := [[97, 109, 121], [98, 111, 98], [99, 121, 100]]
theorem ids_at {w : World} {g N cap B : Nat} {L : List QI} (h : OwnQ w B (some ⟨g, 0, none⟩) N cap L) : ∀ (j : Nat) (x : QI), L[j]? = some x → w.cell? ⟨g, j * 4, none⟩ = some (.int .i64 x.id) := fun j x hx => by
  obtain ⟨b, o, hA, _, h0, _⟩ := qi_at h.1.at hx
  cases hA
  rw [Nat.zero_add] at h0
  exact h0
theorem apt_set {L : List QI} {k : Nat} {y : QI} (h : L.Pairwise Apt) (hy : ∀ x ∈ L, Apt x y) : (L.set k y).Pairwise Apt := by
  rw [List.pairwise_iff_getElem] at h ⊢
  intro i j hi hj hij
  rw [List.length_set] at hi hj
  rw [List.getElem_set, List.getElem_set]
  by_cases h1 : k = i
  · rw [if_pos h1, if_neg (by omega)]
    exact (hy _ (List.getElem_mem _)).symm
  · rw [if_neg h1]
    by_cases h2 : k = j
    · rw [if_pos h2]
      exact hy _ (List.getElem_mem _)
    · rw [if_neg h2]
      exact h i j hi hj hij
def nakd (x : QI) (G : Nat) : QI := ⟨x.id, x.us, x.tx, some ⟨G, 0, none⟩, 0, 0, []⟩
/-- An item's names are struck. -/
theorem OwnQ.nakd {w : World} {B g N cap k G : Nat} {L : List QI} {x : QI} (h : OwnQ w B (some ⟨g, 0, none⟩) N cap L) (hx : L[k]? = some x) (hG : ROwn stR w B (.slice (some ⟨G, 0, none⟩) 0 0) []) (hnew : ∀ x ∈ L, ∀ b, (lfV x).ownBlock = some b → b ≠ G) :
    OwnQ (w.setCell ⟨g, k * 4 + 3, none⟩ (.slice (some ⟨G, 0, none⟩) 0 0)) B (some ⟨g, 0, none⟩) N cap (L.set k (nakd x G)) := by
  have h1 := (h.1.stored (y := Go.Proofs.Ytinbdibenbplnaa.nakd x G) (j := 3) (u := .slice (some ⟨G, 0, none⟩) 0 0) hx (by decide) rfl)
  have hne : ∀ (v : Value) (T : List ByteArray), ROwn stR w B v T → v.ownBlock ≠ some g := fun v T hv e => by
    rcases own_apart hv h.1 (by decide) with h2 | h2
    · rw [h2] at e; cases e
    · exact h2 e
  refine ⟨h1.1, fun y hy => ?_, apt_set h.2.2 fun y hy b e1 e2 => ?_⟩
  · rcases List.mem_or_eq_of_mem_set hy with hy | rfl
    · exact (h.2.1 y hy).store (p := ⟨g, k * 4 + 3, none⟩) (hne _ _ (h.2.1 y hy)) _
    · exact hG.store (p := ⟨g, k * 4 + 3, none⟩) (hne _ _ hG) _
  · exact hnew y hy b e1 (Option.some.inj e2).symm
theorem nakd_sm {L : List QI} {k G : Nat} {x : QI} (h : smQ (L.map keyI)) (hx : L[k]? = some x) : smQ ((L.set k (nakd x G)).map keyI) := fun y hy => by
  obtain ⟨z, hz, rfl⟩ := List.mem_map.1 hy
  rcases List.mem_or_eq_of_mem_set hz with hz | rfl
  · exact h _ (List.mem_map.2 ⟨z, hz, rfl⟩)
  · obtain ⟨h1, h2, _, _⟩ := h (keyI x) (List.mem_map.2 ⟨x, List.mem_of_getElem? hx, rfl⟩)
    exact ⟨h1, h2, Nat.zero_le _, fun g hg => by cases hg⟩
/-- The same in the drawer's state. -/
theorem QD.nakd {w wr : World} {b q S : Nat} {n : Int} {g N cap k G : Nat} {L : List QI} {x : QI} (h : QD w wr b q S n (some ⟨g, 0, none⟩) N cap L) (hx : L[k]? = some x) (hG : ROwn stR wr w.heap.size (.slice (some ⟨G, 0, none⟩) 0 0) []) (hnew : ∀ x ∈ L, ∀ b, (lfV x).ownBlock = some b → b ≠ G) :
    QD w (wr.setCell ⟨g, k * 4 + 3, none⟩ (.slice (some ⟨G, 0, none⟩) 0 0)) b q S n (some ⟨g, 0, none⟩) N cap (L.set k (nakd x G)) := by
  have hg : w.heap.size ≤ g := (World.ownsRow.lt h.2.2.2.1.1 g rfl).1
  have hne : ∀ (B' : Nat) (t : TypeId) (cs : Array Value), Whole wr B' t cs → t ≠ 38 → B' ≠ g := fun B' t cs hW ht e => h.2.2.2.1.1.whole hW ht (by rw [e]; rfl)
  exact ⟨h.1.set h.2.2.2.2.1 hg _ _, h.2.1.apart (p := ⟨g, k * 4 + 3, none⟩) (hne _ _ _ h.2.1 (by decide)) _, h.2.2.1.apart (p := ⟨g, k * 4 + 3, none⟩) (hne _ _ _ h.2.2.1 (by decide)) _, h.2.2.2.1.nakd hx hG hnew, h.2.2.2.2⟩
set_option maxRecDepth 20000 in
set_option maxHeartbeats 16000000 in
theorem queue_draw (b p : Nat) (w : World) (h : Rd w b p) (hp : p ≤ 600000) : Calls Try.prog 51 #[.pointer (some ⟨b, 0, none⟩)] w (DrewQ w b p) := by
  have hbl := h.lt
  obtain ⟨E, hE⟩ : ∃ E, w.heap.size = E := ⟨_, rfl⟩
  obtain ⟨wz, hwz⟩ : ∃ wz, w.alloc (.cells #[.int .i64 0, .slice none 0 0] 31) = wz := ⟨_, rfl⟩
  have HZ := Lib.hid hwz
  have hbz : Below w.heap.size w wz := by rw [← hwz]; exact below_new' _ _
  have HD := Lib.hid (show DG w wz b p from ⟨h.below hbz hbl, gr_below hbz _⟩)
  have HW := Lib.hid (show Whole wz E 31 ZQ by rw [← hwz, ← hE]; exact Whole.made w _ _)
  have HE := Lib.hid hE
  have hbE : b < E := by omega
  clear h hwz hbz hE
  go_enter Try.func51, Try.ntmps51
  go_wp2_with fail
  rw [HE.out, HZ.out]
  refine (pick_any b p 4 wz HD.out.1 (by omega) (by omega) (by omega)).mono ?_
  rintro e w1 ⟨x, hx, rfl, hr, hg⟩
  have W1 : IntKind.i64.wrap (1 + (x : Int)) = 1 + (x : Int) := IntWalk.i64_in _ (by omega)
  have hD1 := HD.out.read hr hg
  have hW1 := HW.out.grown hg (by simp; omega)
  obtain ⟨F, hF⟩ : ∃ F, w1.heap.size = F := ⟨_, rfl⟩
  have hF2 : E < F := by rw [← hF]; exact hW1.lt
  obtain ⟨w2, hw2⟩ : ∃ w2, w1.alloc (.cells #[] 38) = w2 := ⟨_, rfl⟩
  have hz2 : w2.heap.size = F + 1 := by rw [← hw2, ← hF]; simp
  have hb2 : Below w1.heap.size w1 w2 := by rw [← hw2]; exact below_new' _ _
  have ho2 : ROwn qiR w2 E (.slice (some ⟨F, 0, none⟩) 0 0) [] := by rw [← hw2]; exact ROwn.lit (R := qiR) w1 F (by omega) hF
  obtain ⟨w3, hw3⟩ : ∃ w3, w2.alloc (.cells #[.int .i64 (1 + (x : Int)), .slice (some ⟨F, 0, none⟩) 0 0] 31) = w3 := ⟨_, rfl⟩
  have hb3 : Below w2.heap.size w2 w3 := by rw [← hw3]; exact below_new' _ _
  obtain ⟨S, hS⟩ : ∃ S, F + 1 = S := ⟨_, rfl⟩
  have HK3 := Lib.hid (show QD w w3 b (p + 1) S (1 + (x : Int)) (some ⟨F, 0, none⟩) 0 0 [] from ⟨(hD1.later hb2).later hb3, by rw [← hw3, ← hS, ← hz2]; exact Whole.made _ _ _, by rw [HE.out]; exact (hW1.below hb2 hW1.lt).below hb3 (Nat.lt_of_lt_of_le hW1.lt hb2.size), ⟨by rw [HE.out]; exact ho2.kept hb3, (fun g hg => by cases hg), List.Pairwise.nil⟩, by rw [HE.out]; exact hbE, by rw [HE.out]; omega⟩)
  have HW3 : Hid ((w1.alloc (.cells #[] 38)).alloc (.cells #[.int .i64 (1 + (x : Int)), .slice (some ⟨F, 0, none⟩) 0 0] 31) = w3) := Lib.hid (by rw [hw2, hw3])
  have HFF := Lib.hid hF
  have HSS := Lib.hid hS
  clear hr hg hD1 hW1 hF hw2 hz2 hb2 ho2 hw3 hb3 hS
  go_wp2_with fail
  rw [HFF.out, HW3.out, HSS.out]
  refine (pick_any b (p + 1) 8 w3 HK3.out.1.1 (by omega) (by omega) (by omega)).mono ?_
  rintro e w4 ⟨r, hr8, rfl, hr, hg⟩
  have HK4 := Lib.hid (HK3.out.read hr hg)
  clear hr hg
  go_wp2
  go_loopw [5] (fun i wr => ∃ (k q N cap : Nat) (n : Int) (A : Option Addr) (L : List QI), k ≤ r ∧ i = .int .i64 (k : Int) ∧ q ≤ p + 2 + 20 * k ∧ Hid (QD w wr b q S n A N cap L) ∧ Hid (smQ (L.map keyI)) ∧ Hid (L.length ≤ k) ∧ Hid (N = L.length)) (fun i _ => r - (intOf i).toNat)
  case atStart => exact ⟨0, p + 1 + 1, 0, 0, _, _, [], Nat.zero_le _, by go_num, by omega, HK4, Lib.hid smQ_nil, Lib.hid (Nat.zero_le _), Lib.hid rfl⟩
  case round =>
    obtain ⟨k, q, N, cap, n, A, L, hk, rfl, hq, HK, HSM, HLL, HNL⟩ := hrel
    by_cases hlt : k < r
    ·
      have h5 : (k : Int) < (r : Int) := by omega
      have hs := HK.out.2.1
      have c0 := hs.cell 0
      have c1 := hs.cell 1
      simp only [List.getElem?_toArray, List.getElem?_cons_zero, List.getElem?_cons_succ] at c0 c1
      clear hs
      go_upto_region 6 with fail
      go_cut [6, 7] (fun s6 s7 wx => ∃ (F2 : Nat) (n' : Int) (A' : Option Addr) (N' cap' : Nat) (L' : List QI) (ok : Bool) (q' : Nat), s6 = .pointer (some ⟨F2, 0, none⟩) ∧ s7 = .bool ok ∧ q' ≤ q + 14 ∧ Hid (QD w wx b q' S n A N cap L) ∧ Hid (Whole wx F2 31 #[.int .i64 n', .slice A' N' cap']) ∧ Hid (OwnQ wx w.heap.size A' N' cap' L') ∧ Hid (smQ (L'.map keyI)) ∧ Hid (L'.length ≤ L.length + 1) ∧ Hid (N' = L'.length) ∧ Hid (S < F2))
      case first =>
        have HKd := Lib.hid HK.out.drew
        refine wp_region_late (fun w' => w'.cell? ⟨S, 0, none⟩ = some (.int .i64 n) ∧ w'.cell? ⟨S, 1, none⟩ = some (.slice A N cap)) 9 (by kernel_rfl) ?_
        revert HKd
        generalize wr.drew = wd
        intro HKd
        have d0 := HKd.out.2.1.cell 0
        have d1 := HKd.out.2.1.cell 1
        simp only [List.getElem?_toArray, List.getElem?_cons_zero, List.getElem?_cons_succ] at d0 d1
        refine wpLate_take (i := 0) (v := ?v0) rfl (by kernel_rfl) (by kernel_rfl) (by kernel_rfl) (by kernel_rfl) (by kernel_rfl) (fun _ _ _ h => h) ⟨d0, d1⟩ (by rfl) ?hy0 ?r0
        case hy0 =>
          rintro wz ⟨z0, z1⟩
          go_simp
          try with_reducible rfl
        try simp only [Act.put]
        refine wpLate_take (i := 1) (v := ?v1) rfl (by kernel_rfl) (by kernel_rfl) (by kernel_rfl) (by kernel_rfl) (by kernel_rfl) (fun _ _ _ h => h) ⟨d0, d1⟩ (by rfl) ?hy1 ?r1
        case hy1 =>
          rintro wz ⟨z0, z1⟩
          go_simp
          try with_reducible rfl
        try simp only [Act.put]
        refine wpLate_two (i := 2) (k := 7) (by kernel_rfl) rfl rfl (fun K hK => ?xa) (fun K hK => ?ya)
        case xa =>
          go_simp
          refine (letter_draw b q wd HKd.out.1.1 (by omega)).mono ?_
          rintro e w4 ⟨us, tx, AT, NT, cT, TT, q4, rfl, hq4, hd, ho, hus, htx, hTl, hTs⟩
          have HKl := Lib.hid (HKd.out.read hd.1 hd.2)
          have HUl := Lib.hid (SIn.made ho (by omega) (fun g hg => Nat.le_trans (hTs g hg) (by omega)))
          have HZl := Lib.hid (show smK (n, us, tx, TT) from ⟨hus, htx, hTl, hTs⟩)
          have l0 := HKl.out.2.1.cell 0
          have l1 := HKl.out.2.1.cell 1
          simp only [List.getElem?_toArray, List.getElem?_cons_zero, List.getElem?_cons_succ] at l0 l1
          clear hd ho hTs
          refine hK.out _ _ (fun _ => ⟨l0, l1⟩) ?_
          clear hK K
          try simp only [Act.put]
          refine wpLate_two (i := 3) (k := 7) (by kernel_rfl) rfl rfl (fun K hK => ?xb) (fun K hK => ?yb)
          case xb =>
            go_simp
            refine (spec_queueadd us tx TT AT NT cT w4 (HKl.out.2.2.2.1.qinS HSM.out (by have := HLL.out; omega)) HUl.out (by omega)).mono ?_
            obtain ⟨n6, hn6⟩ : ∃ x, qaN n L us tx TT = x := ⟨_, rfl⟩
            obtain ⟨ok6, hk6⟩ : ∃ x, qaO n L us tx TT = x := ⟨_, rfl⟩
            rw [hn6, hk6]
            rintro e w6 ⟨A6, N6, cap6, L6, rfl, ho6, hky, hb6⟩
            have HKa := Lib.hid (HKl.out.later hb6)
            have HOa := Lib.hid (ho6.from (show w.heap.size ≤ w4.heap.size from HKl.out.1.2.size))
            have HSa : Hid (smQ (L6.map keyI)) := Lib.hid (by rw [hky]; exact (qaK_sm HSM.out HZl.out).1)
            have HLa : Hid (L6.length ≤ L.length + 1) := Lib.hid (by have h1 := (qaK_sm HSM.out HZl.out).2; rw [← hky, List.length_map] at h1; exact h1)
            have HNa : Hid (N6 = L6.length) := Lib.hid ho6.1.len.1
            have a0 := HKa.out.2.1.cell 0
            have a1 := HKa.out.2.1.cell 1
            simp only [List.getElem?_toArray, List.getElem?_cons_zero, List.getElem?_cons_succ] at a0 a1
            clear ho6 hb6 hky hn6 hk6
            refine hK.out _ _ (fun _ => ⟨a0, a1⟩) ?_
            clear hK K
            try simp only [Act.put]
            refine wpLate_take (i := 4) (v := ?v4p) rfl (by kernel_rfl) (by kernel_rfl) (by kernel_rfl) (by kernel_rfl) (by kernel_rfl) (fun _ _ _ h => h) ⟨a0, a1⟩ (by rfl) ?hy4p ?r4p
            case hy4p =>
              rintro wz ⟨z0, z1⟩
              go_simp
              try with_reducible rfl
            try simp only [Act.put]
            refine wpLate_take (i := 5) (v := ?v5p) rfl (by kernel_rfl) (by kernel_rfl) (by kernel_rfl) (by kernel_rfl) (by kernel_rfl) (fun _ _ _ h => h) ⟨a0, a1⟩ (by rfl) ?hy5p ?r5p
            case hy5p =>
              rintro wz ⟨z0, z1⟩
              go_simp
              try with_reducible rfl
            try simp only [Act.put]
            refine wpLate_take (i := 6) (v := ?v6p) rfl (by kernel_rfl) (by kernel_rfl) (by kernel_rfl) (by kernel_rfl) (by kernel_rfl) (fun _ _ _ h => h) ⟨a0, a1⟩ (by rfl) ?hy6p ?r6p
            case hy6p =>
              rintro wz ⟨z0, z1⟩
              go_simp
              try with_reducible rfl
            try simp only [Act.put]
            obtain ⟨F2, hF2⟩ : ∃ F2, w6.heap.size = F2 := ⟨_, rfl⟩
            obtain ⟨wc, hwc⟩ : ∃ wc, w6.alloc (.cells #[.int .i64 0, .slice none 0 0] 31) = wc := ⟨_, rfl⟩
            have hbc : Below w6.heap.size w6 wc := by rw [← hwc]; exact below_newq w6 _ _
            have HKc := Lib.hid (HKa.out.later hbc)
            have HFc := Lib.hid (show Whole wc F2 31 #[.int .i64 0, .slice none 0 0] by rw [← hwc, ← hF2]; exact Whole.made _ _ _)
            have HFS : Hid (S < F2) := Lib.hid (by rw [← hF2]; exact HKa.out.2.1.lt)
            have HOc := Lib.hid (HOa.out.kept hbc)
            have e0 := HKc.out.2.1.cell 0
            have e1 := HKc.out.2.1.cell 1
            simp only [List.getElem?_toArray, List.getElem?_cons_zero, List.getElem?_cons_succ] at e0 e1
            clear hbc
            refine wpLate_one (i := 7) (by kernel_rfl) rfl (fun K hK => ?_)
            go_simp
            refine hK.out _ _ (fun _ => ⟨e0, e1⟩) ?_
            clear hK K
            try simp only [Act.put]
            clear hwc hF2
            have HKs : Hid (QD w ((wc.setCell ⟨F2, 0, none⟩ (.int .i64 n6)).setCell ⟨F2, 1, none⟩ (.slice A6 N6 cap6)) b q4 S n A N cap L) := Lib.hid ((HKc.out.far HFc.out HFS.out 0 _).far (HFc.out.store 0 _) HFS.out 1 _)
            have HFs : Hid (Whole ((wc.setCell ⟨F2, 0, none⟩ (.int .i64 n6)).setCell ⟨F2, 1, none⟩ (.slice A6 N6 cap6)) F2 31 #[.int .i64 n6, .slice A6 N6 cap6]) := Lib.hid ((HFc.out.store 0 _).store 1 _)
            have HOs : Hid (OwnQ ((wc.setCell ⟨F2, 0, none⟩ (.int .i64 n6)).setCell ⟨F2, 1, none⟩ (.slice A6 N6 cap6)) w.heap.size A6 N6 cap6 L6) := Lib.hid ((HOc.out.storeT HFc.out (by decide) (by decide) _).storeT (HFc.out.store 0 _) (by decide) (by decide) _)
            have f0 := HFc.out.cell 0
            have f1 := HFc.out.cell 1
            have g0 := HFc.out.free 0
            have g1 := HFc.out.free 1
            simp only [List.getElem?_toArray, List.getElem?_cons_zero, List.getElem?_cons_succ] at f0 f1
            have s0 := HKs.out.2.1.cell 0
            have s1 := HKs.out.2.1.cell 1
            simp only [List.getElem?_toArray, List.getElem?_cons_zero, List.getElem?_cons_succ] at s0 s1
            refine wpLate_one (i := 8) (by kernel_rfl) rfl (fun K hK => ?_)
            go_simp
            refine hK.out _ _ (fun _ => ⟨s0, s1⟩) ?_
            clear hK K
            try simp only [Act.put]
            refine wpLate_one (i := 9) (by kernel_rfl) rfl (fun K hK => ?_)
            go_simp
            refine hK.out _ _ (fun h => absurd rfl h) ?_
            clear hK K
            try simp only [Act.put]
            refine wpLate_done (by kernel_rfl) ?_ _
            go_wp2_with fail
            go_meet
            case rel => exact ⟨F2, n6, A6, N6, cap6, L6, ok6, q4, rfl, rfl, hq4, HKs, HFs, HOs, HSa, HLa, HNa, HFS⟩
          case yb =>
            obtain ⟨F2, hF2⟩ : ∃ F2, w4.heap.size = F2 := ⟨_, rfl⟩
            obtain ⟨wc, hwc⟩ : ∃ wc, w4.alloc (.cells #[.int .i64 0, .slice none 0 0] 31) = wc := ⟨_, rfl⟩
            have hbc : Below w4.heap.size w4 wc := by rw [← hwc]; exact below_newq w4 _ _
            have HKc := Lib.hid (HKl.out.later hbc)
            have HFc := Lib.hid (show Whole wc F2 31 #[.int .i64 0, .slice none 0 0] by rw [← hwc, ← hF2]; exact Whole.made _ _ _)
            have HFS : Hid (S < F2) := Lib.hid (by rw [← hF2]; exact HKl.out.2.1.lt)
            have HUc := Lib.hid (HUl.out.below hbc (Nat.le_refl _))
            have e0 := HKc.out.2.1.cell 0
            have e1 := HKc.out.2.1.cell 1
            simp only [List.getElem?_toArray, List.getElem?_cons_zero, List.getElem?_cons_succ] at e0 e1
            clear hbc
            go_simp
            refine hK.out _ _ (fun _ => ⟨e0, e1⟩) ?_
            clear hK K
            try simp only [Act.put]
            clear hwc hF2
            refine wpLate_one (i := 3) (by kernel_rfl) rfl (fun K hK => ?_)
            go_simp
            refine (spec_queueadd us tx TT AT NT cT wc (HKc.out.2.2.2.1.qinS HSM.out (by have := HLL.out; omega)) HUc.out (by omega)).mono ?_
            obtain ⟨n6, hn6⟩ : ∃ x, qaN n L us tx TT = x := ⟨_, rfl⟩
            obtain ⟨ok6, hk6⟩ : ∃ x, qaO n L us tx TT = x := ⟨_, rfl⟩
            rw [hn6, hk6]
            rintro e w6 ⟨A6, N6, cap6, L6, rfl, ho6, hky, hb6⟩
            have HKa := Lib.hid (HKc.out.later hb6)
            have HOa := Lib.hid (ho6.from (show w.heap.size ≤ wc.heap.size from HKc.out.1.2.size))
            have HSa : Hid (smQ (L6.map keyI)) := Lib.hid (by rw [hky]; exact (qaK_sm HSM.out HZl.out).1)
            have HLa : Hid (L6.length ≤ L.length + 1) := Lib.hid (by have h1 := (qaK_sm HSM.out HZl.out).2; rw [← hky, List.length_map] at h1; exact h1)
            have HNa : Hid (N6 = L6.length) := Lib.hid ho6.1.len.1
            have HFa := Lib.hid (HFc.out.below hb6 HFc.out.lt)
            have a0 := HKa.out.2.1.cell 0
            have a1 := HKa.out.2.1.cell 1
            simp only [List.getElem?_toArray, List.getElem?_cons_zero, List.getElem?_cons_succ] at a0 a1
            clear ho6 hb6 hky hn6 hk6
            refine hK.out _ _ (fun _ => ⟨a0, a1⟩) ?_
            clear hK K
            try simp only [Act.put]
            refine wpLate_take (i := 4) (v := ?v4q) rfl (by kernel_rfl) (by kernel_rfl) (by kernel_rfl) (by kernel_rfl) (by kernel_rfl) (fun _ _ _ h => h) ⟨a0, a1⟩ (by rfl) ?hy4q ?r4q
            case hy4q =>
              rintro wz ⟨z0, z1⟩
              go_simp
              try with_reducible rfl
            try simp only [Act.put]
            refine wpLate_take (i := 5) (v := ?v5q) rfl (by kernel_rfl) (by kernel_rfl) (by kernel_rfl) (by kernel_rfl) (by kernel_rfl) (fun _ _ _ h => h) ⟨a0, a1⟩ (by rfl) ?hy5q ?r5q
            case hy5q =>
              rintro wz ⟨z0, z1⟩
              go_simp
              try with_reducible rfl
            try simp only [Act.put]
            refine wpLate_take (i := 6) (v := ?v6q) rfl (by kernel_rfl) (by kernel_rfl) (by kernel_rfl) (by kernel_rfl) (by kernel_rfl) (fun _ _ _ h => h) ⟨a0, a1⟩ (by rfl) ?hy6q ?r6q
            case hy6q =>
              rintro wz ⟨z0, z1⟩
              go_simp
              try with_reducible rfl
            try simp only [Act.put]
            have HKs : Hid (QD w ((w6.setCell ⟨F2, 0, none⟩ (.int .i64 n6)).setCell ⟨F2, 1, none⟩ (.slice A6 N6 cap6)) b q4 S n A N cap L) := Lib.hid ((HKa.out.far HFa.out HFS.out 0 _).far (HFa.out.store 0 _) HFS.out 1 _)
            have HFs : Hid (Whole ((w6.setCell ⟨F2, 0, none⟩ (.int .i64 n6)).setCell ⟨F2, 1, none⟩ (.slice A6 N6 cap6)) F2 31 #[.int .i64 n6, .slice A6 N6 cap6]) := Lib.hid ((HFa.out.store 0 _).store 1 _)
            have HOs : Hid (OwnQ ((w6.setCell ⟨F2, 0, none⟩ (.int .i64 n6)).setCell ⟨F2, 1, none⟩ (.slice A6 N6 cap6)) w.heap.size A6 N6 cap6 L6) := Lib.hid ((HOa.out.storeT HFa.out (by decide) (by decide) _).storeT (HFa.out.store 0 _) (by decide) (by decide) _)
            have f0 := HFa.out.cell 0
            have f1 := HFa.out.cell 1
            have g0 := HFa.out.free 0
            have g1 := HFa.out.free 1
            simp only [List.getElem?_toArray, List.getElem?_cons_zero, List.getElem?_cons_succ] at f0 f1
            have s0 := HKs.out.2.1.cell 0
            have s1 := HKs.out.2.1.cell 1
            simp only [List.getElem?_toArray, List.getElem?_cons_zero, List.getElem?_cons_succ] at s0 s1
            refine wpLate_one (i := 8) (by kernel_rfl) rfl (fun K hK => ?_)
            go_simp
            refine hK.out _ _ (fun _ => ⟨s0, s1⟩) ?_
            clear hK K
            try simp only [Act.put]
            refine wpLate_one (i := 9) (by kernel_rfl) rfl (fun K hK => ?_)
            go_simp
            refine hK.out _ _ (fun h => absurd rfl h) ?_
            clear hK K
            try simp only [Act.put]
            refine wpLate_done (by kernel_rfl) ?_ _
            go_wp2_with fail
            go_meet
            case rel => exact ⟨F2, n6, A6, N6, cap6, L6, ok6, q4, rfl, rfl, hq4, HKs, HFs, HOs, HSa, HLa, HNa, HFS⟩
        case ya =>
          obtain ⟨F2, hF2⟩ : ∃ F2, wd.heap.size = F2 := ⟨_, rfl⟩
          obtain ⟨wc, hwc⟩ : ∃ wc, wd.alloc (.cells #[.int .i64 0, .slice none 0 0] 31) = wc := ⟨_, rfl⟩
          have hbc : Below wd.heap.size wd wc := by rw [← hwc]; exact below_newq wd _ _
          have HKc := Lib.hid (HKd.out.later hbc)
          have HFc := Lib.hid (show Whole wc F2 31 #[.int .i64 0, .slice none 0 0] by rw [← hwc, ← hF2]; exact Whole.made _ _ _)
          have HFS : Hid (S < F2) := Lib.hid (by rw [← hF2]; exact HKd.out.2.1.lt)
          have e0 := HKc.out.2.1.cell 0
          have e1 := HKc.out.2.1.cell 1
          simp only [List.getElem?_toArray, List.getElem?_cons_zero, List.getElem?_cons_succ] at e0 e1
          clear hbc
          go_simp
          refine hK.out _ _ (fun _ => ⟨e0, e1⟩) ?_
          clear hK K
          try simp only [Act.put]
          clear hwc hF2
          refine wpLate_one (i := 2) (by kernel_rfl) rfl (fun K hK => ?_)
          go_simp
          refine (letter_draw b q wc HKc.out.1.1 (by omega)).mono ?_
          rintro e w4 ⟨us, tx, AT, NT, cT, TT, q4, rfl, hq4, hd, ho, hus, htx, hTl, hTs⟩
          have HKl := Lib.hid (HKc.out.read hd.1 hd.2)
          have HUl := Lib.hid (SIn.made ho (by omega) (fun g hg => Nat.le_trans (hTs g hg) (by omega)))
          have HZl := Lib.hid (show smK (n, us, tx, TT) from ⟨hus, htx, hTl, hTs⟩)
          have HFl := Lib.hid (HFc.out.grown hd.2 (fun e => by have h1 := Option.some.inj e; have h2 := HFS.out; have h3 := HK.out.2.2.2.2; omega))
          have l0 := HKl.out.2.1.cell 0
          have l1 := HKl.out.2.1.cell 1
          simp only [List.getElem?_toArray, List.getElem?_cons_zero, List.getElem?_cons_succ] at l0 l1
          clear hd ho hTs
          refine hK.out _ _ (fun _ => ⟨l0, l1⟩) ?_
          clear hK K
          try simp only [Act.put]
          refine wpLate_one (i := 3) (by kernel_rfl) rfl (fun K hK => ?_)
          go_simp
          refine (spec_queueadd us tx TT AT NT cT w4 (HKl.out.2.2.2.1.qinS HSM.out (by have := HLL.out; omega)) HUl.out (by omega)).mono ?_
          obtain ⟨n6, hn6⟩ : ∃ x, qaN n L us tx TT = x := ⟨_, rfl⟩
          obtain ⟨ok6, hk6⟩ : ∃ x, qaO n L us tx TT = x := ⟨_, rfl⟩
          rw [hn6, hk6]
          rintro e w6 ⟨A6, N6, cap6, L6, rfl, ho6, hky, hb6⟩
          have HKa := Lib.hid (HKl.out.later hb6)
          have HOa := Lib.hid (ho6.from (show w.heap.size ≤ w4.heap.size from HKl.out.1.2.size))
          have HSa : Hid (smQ (L6.map keyI)) := Lib.hid (by rw [hky]; exact (qaK_sm HSM.out HZl.out).1)
          have HLa : Hid (L6.length ≤ L.length + 1) := Lib.hid (by have h1 := (qaK_sm HSM.out HZl.out).2; rw [← hky, List.length_map] at h1; exact h1)
          have HNa : Hid (N6 = L6.length) := Lib.hid ho6.1.len.1
          have HFa := Lib.hid (HFl.out.below hb6 HFl.out.lt)
          have a0 := HKa.out.2.1.cell 0
          have a1 := HKa.out.2.1.cell 1
          simp only [List.getElem?_toArray, List.getElem?_cons_zero, List.getElem?_cons_succ] at a0 a1
          clear ho6 hb6 hky hn6 hk6
          refine hK.out _ _ (fun _ => ⟨a0, a1⟩) ?_
          clear hK K
          try simp only [Act.put]
          refine wpLate_take (i := 4) (v := ?v4r) rfl (by kernel_rfl) (by kernel_rfl) (by kernel_rfl) (by kernel_rfl) (by kernel_rfl) (fun _ _ _ h => h) ⟨a0, a1⟩ (by rfl) ?hy4r ?r4r
          case hy4r =>
            rintro wz ⟨z0, z1⟩
            go_simp
            try with_reducible rfl
          try simp only [Act.put]
          refine wpLate_take (i := 5) (v := ?v5r) rfl (by kernel_rfl) (by kernel_rfl) (by kernel_rfl) (by kernel_rfl) (by kernel_rfl) (fun _ _ _ h => h) ⟨a0, a1⟩ (by rfl) ?hy5r ?r5r
          case hy5r =>
            rintro wz ⟨z0, z1⟩
            go_simp
            try with_reducible rfl
          try simp only [Act.put]
          refine wpLate_take (i := 6) (v := ?v6r) rfl (by kernel_rfl) (by kernel_rfl) (by kernel_rfl) (by kernel_rfl) (by kernel_rfl) (fun _ _ _ h => h) ⟨a0, a1⟩ (by rfl) ?hy6r ?r6r
          case hy6r =>
            rintro wz ⟨z0, z1⟩
            go_simp
            try with_reducible rfl
          try simp only [Act.put]
          have HKs : Hid (QD w ((w6.setCell ⟨F2, 0, none⟩ (.int .i64 n6)).setCell ⟨F2, 1, none⟩ (.slice A6 N6 cap6)) b q4 S n A N cap L) := Lib.hid ((HKa.out.far HFa.out HFS.out 0 _).far (HFa.out.store 0 _) HFS.out 1 _)
          have HFs : Hid (Whole ((w6.setCell ⟨F2, 0, none⟩ (.int .i64 n6)).setCell ⟨F2, 1, none⟩ (.slice A6 N6 cap6)) F2 31 #[.int .i64 n6, .slice A6 N6 cap6]) := Lib.hid ((HFa.out.store 0 _).store 1 _)
          have HOs : Hid (OwnQ ((w6.setCell ⟨F2, 0, none⟩ (.int .i64 n6)).setCell ⟨F2, 1, none⟩ (.slice A6 N6 cap6)) w.heap.size A6 N6 cap6 L6) := Lib.hid ((HOa.out.storeT HFa.out (by decide) (by decide) _).storeT (HFa.out.store 0 _) (by decide) (by decide) _)
          have f0 := HFa.out.cell 0
          have f1 := HFa.out.cell 1
          have g0 := HFa.out.free 0
          have g1 := HFa.out.free 1
          simp only [List.getElem?_toArray, List.getElem?_cons_zero, List.getElem?_cons_succ] at f0 f1
          have s0 := HKs.out.2.1.cell 0
          have s1 := HKs.out.2.1.cell 1
          simp only [List.getElem?_toArray, List.getElem?_cons_zero, List.getElem?_cons_succ] at s0 s1
          refine wpLate_one (i := 8) (by kernel_rfl) rfl (fun K hK => ?_)
          go_simp
          refine hK.out _ _ (fun _ => ⟨s0, s1⟩) ?_
          clear hK K
          try simp only [Act.put]
          refine wpLate_one (i := 9) (by kernel_rfl) rfl (fun K hK => ?_)
          go_simp
          refine hK.out _ _ (fun h => absurd rfl h) ?_
          clear hK K
          try simp only [Act.put]
          refine wpLate_done (by kernel_rfl) ?_ _
          go_wp2_with fail
          go_meet
          case rel => exact ⟨F2, n6, A6, N6, cap6, L6, ok6, q4, rfl, rfl, hq4, HKs, HFs, HOs, HSa, HLa, HNa, HFS⟩
      case rest =>
        obtain ⟨F2, n', A', N', cap', L', ok, q', rfl, rfl, hq', HK', HF', HO', HS', HL', HN', HFS⟩ := hcut
        have hs := HK'.out.2.1
        have c0 := hs.cell 0
        have c1 := hs.cell 1
        have g0 := hs.free 0
        have g1 := hs.free 1
        have f0 := HF'.out.cell 0
        have f1 := HF'.out.cell 1
        simp only [List.getElem?_toArray, List.getElem?_cons_zero, List.getElem?_cons_succ] at c0 c1 f0 f1
        clear hs
        go_upto_if 27 with (fail)
        go_cut [] (fun wx => ∃ (q2 : Nat) (n2 : Int) (A2 : Option Addr) (N2 cap2 : Nat) (L2 : List QI), q2 ≤ q + 14 ∧ Hid (QD w wx b q2 S n2 A2 N2 cap2 L2) ∧ Hid (smQ (L2.map keyI)) ∧ Hid (L2.length ≤ k + 1) ∧ Hid (N2 = L2.length))
        case first =>
          have HLk : Hid (L.length ≤ k + 1) := Lib.hid (by have := HLL.out; omega)
          have HLk' : Hid (L'.length ≤ k + 1) := Lib.hid (by have := HLL.out; have := HL'.out; omega)
          cases ok with
          | false =>
            go_wp2_with fail
            go_meet
            case rel => exact ⟨q', n, A, N, cap, L, hq', HK', HSM, HLk, HNL⟩
          | true =>
            have HP := Lib.hid (HK'.out.put (n' := n') HO'.out (Nat.le_refl _))
            go_wp2_with fail
            go_meet
            case rel => exact ⟨q', n', A', N', cap', L', hq', HP, HS', HLk', HN'⟩
        case rest =>
          obtain ⟨q2, n2, A2, N2, cap2, L2, hq2, HK2, HS2, HL2, HN2⟩ := hcut
          clear c0 c1 g0 g1 f0 f1 HK HK' HF' HO' HS' HL' HN' HFS HSM HLL HNL
          have c0 := HK2.out.2.1.cell 0
          have c1 := HK2.out.2.1.cell 1
          simp only [List.getElem?_toArray, List.getElem?_cons_zero, List.getElem?_cons_succ] at c0 c1
          have hN8 : N2 ≤ 8 := by have h1 := HN2.out; have h2 := HL2.out; omega
          by_cases hz : 0 < N2
          · have hz' : (0 : Int) < (N2 : Int) := by omega
            go_wp2_with fail
            refine (pick_any b q2 3 _ HK2.out.1.1 (by omega) (by omega) (by omega)).mono ?_
            rintro e w8 ⟨y, hy, rfl, hr, hg⟩
            have HK8 := Lib.hid (HK2.out.read hr hg)
            clear hr hg c0 c1
            by_cases h0 : y = 0
            · subst h0
              go_upto_region 10 with fail
              obtain ⟨gb, rfl⟩ := own_some HK8.out.2.2.2.1.1 (fun e => by have h1 := HN2.out; rw [e] at h1; simp at h1; omega)
              have HKd := Lib.hid HK8.out.drew
              refine wp_region_late (fun w' => w'.cell? ⟨S, 0, none⟩ = some (.int .i64 n2) ∧ w'.cell? ⟨S, 1, none⟩ = some (.slice (some ⟨gb, 0, none⟩) N2 cap2) ∧ ∀ (j : Nat) (x : QI), L2[j]? = some x → w'.cell? ⟨gb, j * 4, none⟩ = some (.int .i64 x.id)) 19 (by kernel_rfl) ?_
              revert HKd
              generalize w8.drew = wd
              intro HKd
              have d0 := HKd.out.2.1.cell 0
              have d1 := HKd.out.2.1.cell 1
              simp only [List.getElem?_toArray, List.getElem?_cons_zero, List.getElem?_cons_succ] at d0 d1
              have HId := Lib.hid (ids_at HKd.out.2.2.2.1)
              refine wpLate_take (i := 0) (v := ?v0k) rfl (by kernel_rfl) (by kernel_rfl) (by kernel_rfl) (by kernel_rfl) (by kernel_rfl) (fun _ _ _ h => h) ⟨d0, d1, HId.out⟩ (by rfl) ?hy0k ?r0k
              case hy0k =>
                rintro wz ⟨z0, z1, z2⟩
                go_simp
                try with_reducible rfl
              try simp only [Act.put]
              refine wpLate_take (i := 1) (v := ?v1k) rfl (by kernel_rfl) (by kernel_rfl) (by kernel_rfl) (by kernel_rfl) (by kernel_rfl) (fun _ _ _ h => h) ⟨d0, d1, HId.out⟩ (by rfl) ?hy1k ?r1k
              case hy1k =>
                rintro wz ⟨z0, z1, z2⟩
                go_simp
                try with_reducible rfl
              try simp only [Act.put]
              refine wpLate_take (i := 2) (v := ?v2k) rfl (by kernel_rfl) (by kernel_rfl) (by kernel_rfl) (by kernel_rfl) (by kernel_rfl) (fun _ _ _ h => h) ⟨d0, d1, HId.out⟩ (by rfl) ?hy2k ?r2k
              case hy2k =>
                rintro wz ⟨z0, z1, z2⟩
                go_simp
                try with_reducible rfl
              try simp only [Act.put]
              refine wpLate_take (i := 3) (v := ?v3k) rfl (by kernel_rfl) (by kernel_rfl) (by kernel_rfl) (by kernel_rfl) (by kernel_rfl) (fun _ _ _ h => h) ⟨d0, d1, HId.out⟩ (by rfl) ?hy3k ?r3k
              case hy3k =>
                rintro wz ⟨z0, z1, z2⟩
                go_simp
                try with_reducible rfl
              try simp only [Act.put]
              refine wpLate_take (i := 4) (v := ?v4k) rfl (by kernel_rfl) (by kernel_rfl) (by kernel_rfl) (by kernel_rfl) (by kernel_rfl) (fun _ _ _ h => h) ⟨d0, d1, HId.out⟩ (by rfl) ?hy4k ?r4k
              case hy4k =>
                rintro wz ⟨z0, z1, z2⟩
                go_simp
                try with_reducible rfl
              try simp only [Act.put]
              refine wpLate_take (i := 5) (v := ?v5k) rfl (by kernel_rfl) (by kernel_rfl) (by kernel_rfl) (by kernel_rfl) (by kernel_rfl) (fun _ _ _ h => h) ⟨d0, d1, HId.out⟩ (by rfl) ?hy5k ?r5k
              case hy5k =>
                rintro wz ⟨z0, z1, z2⟩
                go_simp
                try with_reducible rfl
              try simp only [Act.put]
              refine wpLate_take (i := 6) (v := ?v6k) rfl (by kernel_rfl) (by kernel_rfl) (by kernel_rfl) (by kernel_rfl) (by kernel_rfl) (fun _ _ _ h => h) ⟨d0, d1, HId.out⟩ (by rfl) ?hy6k ?r6k
              case hy6k =>
                rintro wz ⟨z0, z1, z2⟩
                go_simp
                try with_reducible rfl
              try simp only [Act.put]
              refine wpLate_take (i := 11) (v := ?v11k) rfl (by kernel_rfl) (by kernel_rfl) (by kernel_rfl) (by kernel_rfl) (by kernel_rfl) (fun _ _ _ h => h) ⟨d0, d1, HId.out⟩ (by rfl) ?hy11k ?r11k
              case hy11k =>
                rintro wz ⟨z0, z1, z2⟩
                go_simp
                try with_reducible rfl
              try simp only [Act.put]
              refine wpLate_two (i := 7) (k := 12) (by kernel_rfl) rfl rfl (fun K hK => ?xc) (fun K hK => ?yc)
              case xc =>
                go_simp
                refine (pick_any b (q2 + 1) N2 wd HKd.out.1.1 (by omega) (by omega) (by omega)).mono ?_
                rintro e w9 ⟨y2, hy2, rfl, hr, hg⟩
                have HKp := Lib.hid (HKd.out.read hr hg)
                have HIp := Lib.hid (ids_at HKp.out.2.2.2.1)
                obtain ⟨x2, hx2⟩ : ∃ x, L2[y2]? = some x := ⟨_, List.getElem?_eq_getElem (by have := HN2.out; omega)⟩
                have HX2 := Lib.hid hx2
                have y0 : (0 : Int) ≤ (y2 : Int) := by omega
                have y1 : (y2 : Int) < (N2 : Int) := by omega
                have p0 := HKp.out.2.1.cell 0
                have p1 := HKp.out.2.1.cell 1
                simp only [List.getElem?_toArray, List.getElem?_cons_zero, List.getElem?_cons_succ] at p0 p1
                clear hr hg hx2
                refine hK.out _ _ (fun _ => ⟨p0, p1, HIp.out⟩) ?_
                clear hK K
                try simp only [Act.put]
                refine wpLate_take (i := 8) (v := ?v8s) rfl (by kernel_rfl) (by kernel_rfl) (by kernel_rfl) (by kernel_rfl) (by kernel_rfl) (fun _ _ _ h => h) ⟨p0, p1, HIp.out⟩ (by rfl) ?hy8s ?r8s
                case hy8s =>
                  rintro wz ⟨z0, z1, z2⟩
                  go_simp
                  try with_reducible rfl
                try simp only [Act.put]
                refine wpLate_take (i := 9) (v := ?v9s) rfl (by kernel_rfl) (by kernel_rfl) (by kernel_rfl) (by kernel_rfl) (by kernel_rfl) (fun _ _ _ h => h) ⟨p0, p1, HIp.out⟩ (by rfl) ?hy9s ?r9s
                case hy9s =>
                  rintro wz ⟨z0, z1, z2⟩
                  go_simp
                  try with_reducible rfl
                try simp only [Act.put]
                refine wpLate_take (i := 10) (v := ?v10s) rfl (by kernel_rfl) (by kernel_rfl) (by kernel_rfl) (by kernel_rfl) (by kernel_rfl) (fun _ _ _ h => h) ⟨p0, p1, HIp.out⟩ (by rfl) ?hy10s ?r10s
                case hy10s =>
                  rintro wz ⟨z0, z1, z2⟩
                  have z3 := z2 y2 x2 HX2.out
                  go_simp
                  try with_reducible rfl
                try simp only [Act.put]
                obtain ⟨G, hG⟩ : ∃ G, w9.heap.size = G := ⟨_, rfl⟩
                obtain ⟨wc, hwc⟩ : ∃ wc, w9.alloc (.cells #[.string ⟨#[97, 109, 121]⟩, .string ⟨#[98, 111, 98]⟩, .string ⟨#[99, 121, 100]⟩] 9) = wc := ⟨_, rfl⟩
                have hbc : Below w9.heap.size w9 wc := by rw [← hwc]; exact below_new w9 _
                have HKb := Lib.hid (HKp.out.later hbc)
                have HIb := Lib.hid (ids_at HKb.out.2.2.2.1)
                have HGb : Hid (Whole wc G 9 (NM3.map str).toArray) := Lib.hid (by rw [← hwc, ← hG]; exact Whole.made _ _ _)
                have HGB : Hid (w.heap.size ≤ G) := Lib.hid (by rw [← hG]; exact HKp.out.1.2.size)
                have b0 := HKb.out.2.1.cell 0
                have b1 := HKb.out.2.1.cell 1
                simp only [List.getElem?_toArray, List.getElem?_cons_zero, List.getElem?_cons_succ] at b0 b1
                clear hbc
                refine wpLate_one (i := 12) (by kernel_rfl) rfl (fun K hK => ?_)
                go_simp
                refine hK.out _ _ (fun _ => ⟨b0, b1, HIb.out⟩) ?_
                clear hK K
                try simp only [Act.put]
                clear hwc hG
                refine wpLate_one (i := 13) (by kernel_rfl) rfl (fun K hK => ?_)
                go_simp
                refine (of_wh (ls := NM3) HKb.out.1.1 (by omega) (by decide) (by decide) HGb.out (by have h1 := HGB.out; have h2 := HK2.out.2.2.2.2; omega)).mono ?_
                rintro e w10 ⟨l, hl, rfl, hr, hg⟩
                have HKo := Lib.hid (HKb.out.read hr hg)
                unfold str
                obtain ⟨us, hus⟩ : ∃ us, (⟨l.toArray⟩ : ByteArray) = us := ⟨_, rfl⟩
                rw [hus]
                have o0 := HKo.out.2.1.cell 0
                have o1 := HKo.out.2.1.cell 1
                simp only [List.getElem?_toArray, List.getElem?_cons_zero, List.getElem?_cons_succ] at o0 o1
                have HIo := Lib.hid (ids_at HKo.out.2.2.2.1)
                clear hr hg hl hus
                refine hK.out _ _ (fun _ => ⟨o0, o1, HIo.out⟩) ?_
                clear hK K
                try simp only [Act.put]
                refine wpLate_one (i := 14) (by kernel_rfl) rfl (fun K hK => ?_)
                go_simp
                refine (spec_queuetake x2.id us w10 (HKo.out.2.2.2.1.qinS HS2.out (by have := HL2.out; omega))).mono ?_
                obtain ⟨n6, hn6⟩ : ∃ x, qtN n2 L2 = x := ⟨_, rfl⟩
                rw [hn6]
                rintro e w11 ⟨A6, N6, cap6, L6, rfl, ho6, hky, hb6⟩
                have HKa := Lib.hid (HKo.out.later hb6)
                have HOa := Lib.hid (ho6.from (show w.heap.size ≤ w10.heap.size from HKo.out.1.2.size))
                have HSa : Hid (smQ (L6.map keyI)) := Lib.hid (by rw [hky]; exact (qtK_sm HS2.out).1)
                have HLa : Hid (L6.length ≤ L2.length) := Lib.hid (by have h1 := (qtK_sm (n := n2) (id := x2.id) (u := us) HS2.out).2; rw [← hky, List.length_map] at h1; exact h1)
                have HNa : Hid (N6 = L6.length) := Lib.hid ho6.1.len.1
                have HIa := Lib.hid (ids_at HKa.out.2.2.2.1)
                have a0 := HKa.out.2.1.cell 0
                have a1 := HKa.out.2.1.cell 1
                simp only [List.getElem?_toArray, List.getElem?_cons_zero, List.getElem?_cons_succ] at a0 a1
                have j0 := HKa.out.2.1.free 0
                have j1 := HKa.out.2.1.free 1
                clear ho6 hb6 hky hn6
                refine hK.out _ _ (fun _ => ⟨a0, a1, HIa.out⟩) ?_
                clear hK K
                try simp only [Act.put]
                refine wpLate_take (i := 15) (v := ?v15s) rfl (by kernel_rfl) (by kernel_rfl) (by kernel_rfl) (by kernel_rfl) (by kernel_rfl) (fun _ _ _ h => h) ⟨a0, a1, HIa.out⟩ (by rfl) ?hy15s ?r15s
                case hy15s =>
                  rintro wz ⟨z0, z1, z2⟩
                  go_simp
                  try with_reducible rfl
                try simp only [Act.put]
                refine wpLate_take (i := 16) (v := ?v16s) rfl (by kernel_rfl) (by kernel_rfl) (by kernel_rfl) (by kernel_rfl) (by kernel_rfl) (fun _ _ _ h => h) ⟨a0, a1, HIa.out⟩ (by rfl) ?hy16s ?r16s
                case hy16s =>
                  rintro wz ⟨z0, z1, z2⟩
                  go_simp
                  try with_reducible rfl
                try simp only [Act.put]
                refine wpLate_pure (i := 17) (v := ?v17s) rfl (by kernel_rfl) (by kernel_rfl) (by kernel_rfl) (by decide) (fun _ _ _ h => h) ⟨a0, a1, HIa.out⟩ (by rfl) ?hy17s ?r17s
                case hy17s =>
                  intro wz
                  go_simp
                  try with_reducible rfl
                try simp only [Act.put]
                refine wpLate_pure (i := 18) (v := ?v18s) rfl (by kernel_rfl) (by kernel_rfl) (by kernel_rfl) (by decide) (fun _ _ _ h => h) ⟨a0, a1, HIa.out⟩ (by rfl) ?hy18s ?r18s
                case hy18s =>
                  intro wz
                  go_simp
                  try with_reducible rfl
                try simp only [Act.put]
                refine wpLate_one (i := 19) (by kernel_rfl) rfl (fun K hK => ?_)
                go_simp
                refine hK.out _ _ (fun h => absurd rfl h) ?_
                clear hK K
                try simp only [Act.put]
                refine wpLate_done (by kernel_rfl) ?_ _
                have HKE := Lib.hid (HKa.out.put (n' := n6) HOa.out (Nat.le_refl _))
                have HLE : Hid (L6.length ≤ k + 1) := Lib.hid (Nat.le_trans HLa.out HL2.out)
                go_wp2
                go_roundw
                case rel => exact ⟨k + 1, _, N6, cap6, n6, A6, L6, by omega, by go_num, by omega, HKE, HSa, HLE, HNa⟩
                case measure => simp [intOf]; omega
              case yc =>
                obtain ⟨G, hG⟩ : ∃ G, wd.heap.size = G := ⟨_, rfl⟩
                obtain ⟨wc, hwc⟩ : ∃ wc, wd.alloc (.cells #[.string ⟨#[97, 109, 121]⟩, .string ⟨#[98, 111, 98]⟩, .string ⟨#[99, 121, 100]⟩] 9) = wc := ⟨_, rfl⟩
                have hbc : Below wd.heap.size wd wc := by rw [← hwc]; exact below_new wd _
                have HKb := Lib.hid (HKd.out.later hbc)
                have HIb := Lib.hid (ids_at HKb.out.2.2.2.1)
                have HGb : Hid (Whole wc G 9 (NM3.map str).toArray) := Lib.hid (by rw [← hwc, ← hG]; exact Whole.made _ _ _)
                have HGB : Hid (w.heap.size ≤ G) := Lib.hid (by rw [← hG]; exact HKd.out.1.2.size)
                have b0 := HKb.out.2.1.cell 0
                have b1 := HKb.out.2.1.cell 1
                simp only [List.getElem?_toArray, List.getElem?_cons_zero, List.getElem?_cons_succ] at b0 b1
                clear hbc
                go_simp
                refine hK.out _ _ (fun _ => ⟨b0, b1, HIb.out⟩) ?_
                clear hK K
                try simp only [Act.put]
                clear hwc hG
                refine wpLate_one (i := 7) (by kernel_rfl) rfl (fun K hK => ?_)
                go_simp
                refine (pick_any b (q2 + 1) N2 wc HKb.out.1.1 (by omega) (by omega) (by omega)).mono ?_
                rintro e w9 ⟨y2, hy2, rfl, hr, hg⟩
                have HKp := Lib.hid (HKb.out.read hr hg)
                have HIp := Lib.hid (ids_at HKp.out.2.2.2.1)
                obtain ⟨x2, hx2⟩ : ∃ x, L2[y2]? = some x := ⟨_, List.getElem?_eq_getElem (by have := HN2.out; omega)⟩
                have HX2 := Lib.hid hx2
                have y0 : (0 : Int) ≤ (y2 : Int) := by omega
                have y1 : (y2 : Int) < (N2 : Int) := by omega
                have HGp := Lib.hid (HGb.out.grown hg (fun e => by have h1 := Option.some.inj e; have h2 := HGB.out; have h3 := HK2.out.2.2.2.2; omega))
                have p0 := HKp.out.2.1.cell 0
                have p1 := HKp.out.2.1.cell 1
                simp only [List.getElem?_toArray, List.getElem?_cons_zero, List.getElem?_cons_succ] at p0 p1
                clear hr hg hx2
                refine hK.out _ _ (fun _ => ⟨p0, p1, HIp.out⟩) ?_
                clear hK K
                try simp only [Act.put]
                refine wpLate_take (i := 8) (v := ?v8t) rfl (by kernel_rfl) (by kernel_rfl) (by kernel_rfl) (by kernel_rfl) (by kernel_rfl) (fun _ _ _ h => h) ⟨p0, p1, HIp.out⟩ (by rfl) ?hy8t ?r8t
                case hy8t =>
                  rintro wz ⟨z0, z1, z2⟩
                  go_simp
                  try with_reducible rfl
                try simp only [Act.put]
                refine wpLate_take (i := 9) (v := ?v9t) rfl (by kernel_rfl) (by kernel_rfl) (by kernel_rfl) (by kernel_rfl) (by kernel_rfl) (fun _ _ _ h => h) ⟨p0, p1, HIp.out⟩ (by rfl) ?hy9t ?r9t
                case hy9t =>
                  rintro wz ⟨z0, z1, z2⟩
                  go_simp
                  try with_reducible rfl
                try simp only [Act.put]
                refine wpLate_take (i := 10) (v := ?v10t) rfl (by kernel_rfl) (by kernel_rfl) (by kernel_rfl) (by kernel_rfl) (by kernel_rfl) (fun _ _ _ h => h) ⟨p0, p1, HIp.out⟩ (by rfl) ?hy10t ?r10t
                case hy10t =>
                  rintro wz ⟨z0, z1, z2⟩
                  have z3 := z2 y2 x2 HX2.out
                  go_simp
                  try with_reducible rfl
                try simp only [Act.put]
                refine wpLate_one (i := 13) (by kernel_rfl) rfl (fun K hK => ?_)
                go_simp
                refine (of_wh (ls := NM3) HKp.out.1.1 (by omega) (by decide) (by decide) HGp.out (by have h1 := HGB.out; have h2 := HK2.out.2.2.2.2; omega)).mono ?_
                rintro e w10 ⟨l, hl, rfl, hr, hg⟩
                have HKo := Lib.hid (HKp.out.read hr hg)
                unfold str
                obtain ⟨us, hus⟩ : ∃ us, (⟨l.toArray⟩ : ByteArray) = us := ⟨_, rfl⟩
                rw [hus]
                have o0 := HKo.out.2.1.cell 0
                have o1 := HKo.out.2.1.cell 1
                simp only [List.getElem?_toArray, List.getElem?_cons_zero, List.getElem?_cons_succ] at o0 o1
                have HIo := Lib.hid (ids_at HKo.out.2.2.2.1)
                clear hr hg hl hus
                refine hK.out _ _ (fun _ => ⟨o0, o1, HIo.out⟩) ?_
                clear hK K
                try simp only [Act.put]
                refine wpLate_one (i := 14) (by kernel_rfl) rfl (fun K hK => ?_)
                go_simp
                refine (spec_queuetake x2.id us w10 (HKo.out.2.2.2.1.qinS HS2.out (by have := HL2.out; omega))).mono ?_
                obtain ⟨n6, hn6⟩ : ∃ x, qtN n2 L2 = x := ⟨_, rfl⟩
                rw [hn6]
                rintro e w11 ⟨A6, N6, cap6, L6, rfl, ho6, hky, hb6⟩
                have HKa := Lib.hid (HKo.out.later hb6)
                have HOa := Lib.hid (ho6.from (show w.heap.size ≤ w10.heap.size from HKo.out.1.2.size))
                have HSa : Hid (smQ (L6.map keyI)) := Lib.hid (by rw [hky]; exact (qtK_sm HS2.out).1)
                have HLa : Hid (L6.length ≤ L2.length) := Lib.hid (by have h1 := (qtK_sm (n := n2) (id := x2.id) (u := us) HS2.out).2; rw [← hky, List.length_map] at h1; exact h1)
                have HNa : Hid (N6 = L6.length) := Lib.hid ho6.1.len.1
                have HIa := Lib.hid (ids_at HKa.out.2.2.2.1)
                have a0 := HKa.out.2.1.cell 0
                have a1 := HKa.out.2.1.cell 1
                simp only [List.getElem?_toArray, List.getElem?_cons_zero, List.getElem?_cons_succ] at a0 a1
                have j0 := HKa.out.2.1.free 0
                have j1 := HKa.out.2.1.free 1
                clear ho6 hb6 hky hn6
                refine hK.out _ _ (fun _ => ⟨a0, a1, HIa.out⟩) ?_
                clear hK K
                try simp only [Act.put]
                refine wpLate_take (i := 15) (v := ?v15t) rfl (by kernel_rfl) (by kernel_rfl) (by kernel_rfl) (by kernel_rfl) (by kernel_rfl) (fun _ _ _ h => h) ⟨a0, a1, HIa.out⟩ (by rfl) ?hy15t ?r15t
                case hy15t =>
                  rintro wz ⟨z0, z1, z2⟩
                  go_simp
                  try with_reducible rfl
                try simp only [Act.put]
                refine wpLate_take (i := 16) (v := ?v16t) rfl (by kernel_rfl) (by kernel_rfl) (by kernel_rfl) (by kernel_rfl) (by kernel_rfl) (fun _ _ _ h => h) ⟨a0, a1, HIa.out⟩ (by rfl) ?hy16t ?r16t
                case hy16t =>
                  rintro wz ⟨z0, z1, z2⟩
                  go_simp
                  try with_reducible rfl
                try simp only [Act.put]
                refine wpLate_pure (i := 17) (v := ?v17t) rfl (by kernel_rfl) (by kernel_rfl) (by kernel_rfl) (by decide) (fun _ _ _ h => h) ⟨a0, a1, HIa.out⟩ (by rfl) ?hy17t ?r17t
                case hy17t =>
                  intro wz
                  go_simp
                  try with_reducible rfl
                try simp only [Act.put]
                refine wpLate_pure (i := 18) (v := ?v18t) rfl (by kernel_rfl) (by kernel_rfl) (by kernel_rfl) (by decide) (fun _ _ _ h => h) ⟨a0, a1, HIa.out⟩ (by rfl) ?hy18t ?r18t
                case hy18t =>
                  intro wz
                  go_simp
                  try with_reducible rfl
                try simp only [Act.put]
                refine wpLate_one (i := 19) (by kernel_rfl) rfl (fun K hK => ?_)
                go_simp
                refine hK.out _ _ (fun h => absurd rfl h) ?_
                clear hK K
                try simp only [Act.put]
                refine wpLate_done (by kernel_rfl) ?_ _
                have HKE := Lib.hid (HKa.out.put (n' := n6) HOa.out (Nat.le_refl _))
                have HLE : Hid (L6.length ≤ k + 1) := Lib.hid (Nat.le_trans HLa.out HL2.out)
                go_wp2
                go_roundw
                case rel => exact ⟨k + 1, _, N6, cap6, n6, A6, L6, by omega, by go_num, by omega, HKE, HSa, HLE, HNa⟩
                case measure => simp [intOf]; omega
            · have h0' : ((y : Int) == 0) = false := beq_eq_false_iff_ne.2 (by omega)
              go_wp2
              go_roundw
              case rel => exact ⟨k + 1, q2 + 1, N2, cap2, n2, A2, L2, by omega, by go_num, by omega, HK8, HS2, HL2, HN2⟩
              case measure => simp [intOf]; omega
          · have hz' : ¬ (0 : Int) < (N2 : Int) := by omega
            go_wp2
            go_roundw
            case rel => exact ⟨k + 1, q2, N2, cap2, n2, A2, L2, by omega, by go_num, by omega, HK2, HS2, HL2, HN2⟩
            case measure => simp [intOf]; omega
    ·
      have h5 : ¬ (k : Int) < (r : Int) := by omega
      have hN8 : N ≤ 8 := by have h1 := HNL.out; have h2 := HLL.out; omega
      have HL8 : Hid (L.length ≤ 8) := Lib.hid (by have h2 := HLL.out; omega)
      go_wp2_with fail
      refine (pick_any b q 20 _ HK.out.1.1 (by omega) (by omega) (by omega)).mono ?_
      rintro e w5 ⟨y, hy, rfl, hr, hg⟩
      have HK5 := Lib.hid (HK.out.read hr hg)
      clear hr hg
      by_cases h0 : y = 0
      · subst h0
        obtain ⟨wg, hwg⟩ : ∃ wg, w5.alloc (.cells #[.int .i64 0, .int .i64 1, .int .i64 99, .int .i64 100, .int .i64 101] 3) = wg := ⟨_, rfl⟩
        have HKg := Lib.hid (HK5.out.later (show Below w5.heap.size w5 wg by rw [← hwg]; exact below_new _ _))
        have HGg := Lib.hid (show Whole wg w5.heap.size 3 #[.int .i64 0, .int .i64 1, .int .i64 99, .int .i64 100, .int .i64 101] by rw [← hwg]; exact Whole.made _ _ _)
        have HWG := Lib.hid hwg
        clear hwg
        go_wp2_with fail
        rw [HWG.out]
        refine (pick_any b (q + 1) 5 wg HKg.out.1.1 (by omega) (by omega) (by omega)).mono ?_
        rintro e w6 ⟨x5, hx5, rfl, hr, hg⟩
        have HK6 := Lib.hid (HKg.out.read hr hg)
        have hg6 := HGg.out.grown hg (fun e => by have h1 := Option.some.inj e; have h2 := HK5.out.1.1.lt; omega)
        obtain ⟨z5, hz5⟩ := nx_at hx5
        have v5 := (hg6.cell x5).trans hz5
        have x50 : (0 : Int) ≤ (x5 : Int) := by omega
        have x51 : (x5 : Int) < 5 := by omega
        have s0 := HK6.out.2.1.cell 0
        have s1 := HK6.out.2.1.free 0
        simp only [List.getElem?_toArray, List.getElem?_cons_zero] at s0
        have HK7 := Lib.hid (HK6.out.next z5)
        clear hr hg hg6 hz5
        have hz2 := HK7.out.2.2.1
        have hs2 := HK7.out.2.1
        have hf := HK7.out.done (.int .i64 (z5)) (.slice A N cap) |>.2.2
        have t0 := hs2.cell 0
        have t1 := hs2.cell 1
        have z0 := hz2.cell 0
        have z1 := hz2.cell 1
        have f10 := hz2.free 0
        have f11 := hz2.free 1
        have r0 := hf.cell 0
        have r1 := hf.cell 1
        unfold ZQ at z0 z1
        simp only [List.getElem?_toArray, List.getElem?_cons_zero, List.getElem?_cons_succ] at t0 t1 z0 z1 r0 r1
        rw [HE.out] at r0 r1 z0 z1 f10 f11
        clear hs2 hz2 hf
        go_wp2
        refine bodyPost_ret (v := .agg #[.int .i64 (z5), .slice A N cap]) (by simp [results, Try.results51, go_sem, r0, r1]) rfl ?_
        have hfin := HK7.out.done (.int .i64 (z5)) (.slice A N cap)
        rw [HE.out] at hfin
        exact ⟨z5, _, N, cap, L, q + 1 + 1, rfl, by omega, hfin.1, by rw [HE.out]; exact hfin.2.1, HSM.out, HL8.out⟩
      · have h0' : ((y : Int) == 0) = false := beq_eq_false_iff_ne.2 (by omega)
        by_cases h1 : y = 1
        · subst h1
          have c0' := HK5.out.2.1.cell 0
          have c1' := HK5.out.2.1.cell 1
          simp only [List.getElem?_toArray, List.getElem?_cons_zero, List.getElem?_cons_succ] at c0' c1'
          by_cases hz : 0 < N
          · have hz' : (0 : Int) < (N : Int) := by omega
            go_upto_region 16 with fail
            clear c0' c1'
            obtain ⟨gb, rfl⟩ := own_some HK5.out.2.2.2.1.1 (fun e => by have h1 := HNL.out; rw [e] at h1; simp at h1; omega)
            have HKd := Lib.hid HK5.out.drew
            refine wp_region_late (fun w' => w'.cell? ⟨S, 1, none⟩ = some (.slice (some ⟨gb, 0, none⟩) N cap)) 10 (by kernel_rfl) ?_
            revert HKd
            generalize w5.drew = wd
            intro HKd
            have d0 := HKd.out.2.1.cell 0
            have d1 := HKd.out.2.1.cell 1
            simp only [List.getElem?_toArray, List.getElem?_cons_zero, List.getElem?_cons_succ] at d0 d1
            refine wpLate_take (i := 0) (v := ?v0m) rfl (by kernel_rfl) (by kernel_rfl) (by kernel_rfl) (by kernel_rfl) (by kernel_rfl) (fun _ _ _ h => h) d1 (by rfl) ?hy0m ?r0m
            case hy0m =>
              rintro wz z1
              go_simp
              try with_reducible rfl
            try simp only [Act.put]
            refine wpLate_take (i := 1) (v := ?v1m) rfl (by kernel_rfl) (by kernel_rfl) (by kernel_rfl) (by kernel_rfl) (by kernel_rfl) (fun _ _ _ h => h) d1 (by rfl) ?hy1m ?r1m
            case hy1m =>
              rintro wz z1
              go_simp
              try with_reducible rfl
            try simp only [Act.put]
            refine wpLate_take (i := 2) (v := ?v2m) rfl (by kernel_rfl) (by kernel_rfl) (by kernel_rfl) (by kernel_rfl) (by kernel_rfl) (fun _ _ _ h => h) d1 (by rfl) ?hy2m ?r2m
            case hy2m =>
              rintro wz z1
              go_simp
              try with_reducible rfl
            try simp only [Act.put]
            refine wpLate_take (i := 3) (v := ?v3m) rfl (by kernel_rfl) (by kernel_rfl) (by kernel_rfl) (by kernel_rfl) (by kernel_rfl) (fun _ _ _ h => h) d1 (by rfl) ?hy3m ?r3m
            case hy3m =>
              rintro wz z1
              go_simp
              try with_reducible rfl
            try simp only [Act.put]
            refine wpLate_take (i := 4) (v := ?v4m) rfl (by kernel_rfl) (by kernel_rfl) (by kernel_rfl) (by kernel_rfl) (by kernel_rfl) (fun _ _ _ h => h) d1 (by rfl) ?hy4m ?r4m
            case hy4m =>
              rintro wz z1
              go_simp
              try with_reducible rfl
            try simp only [Act.put]
            refine wpLate_take (i := 5) (v := ?v5m) rfl (by kernel_rfl) (by kernel_rfl) (by kernel_rfl) (by kernel_rfl) (by kernel_rfl) (fun _ _ _ h => h) d1 (by rfl) ?hy5m ?r5m
            case hy5m =>
              rintro wz z1
              go_simp
              try with_reducible rfl
            try simp only [Act.put]
            refine wpLate_two (i := 6) (k := 7) (by kernel_rfl) rfl rfl (fun K hK => ?xe) (fun K hK => ?ye)
            case xe =>
              go_simp
              refine (pick_any b (q + 1) N wd HKd.out.1.1 (by omega) (by omega) (by omega)).mono ?_
              rintro e w9 ⟨y2, hy2, rfl, hr, hg⟩
              have HKp := Lib.hid (HKd.out.read hr hg)
              obtain ⟨x2, hx2⟩ : ∃ x, L[y2]? = some x := ⟨_, List.getElem?_eq_getElem (by have := HNL.out; omega)⟩
              have HX2 := Lib.hid hx2
              have y0 : (0 : Int) ≤ (y2 : Int) := by omega
              have y1 : (y2 : Int) < (N : Int) := by omega
              have p0 := HKp.out.2.1.cell 0
              have p1 := HKp.out.2.1.cell 1
              simp only [List.getElem?_toArray, List.getElem?_cons_zero, List.getElem?_cons_succ] at p0 p1
              clear hr hg hx2
              refine hK.out _ _ (fun _ => p1) ?_
              clear hK K
              try simp only [Act.put]
              obtain ⟨G, hG⟩ : ∃ G, w9.heap.size = G := ⟨_, rfl⟩
              obtain ⟨wc, hwc⟩ : ∃ wc, w9.alloc (.cells #[] 9) = wc := ⟨_, rfl⟩
              have hbc : Below w9.heap.size w9 wc := by rw [← hwc]; exact below_new w9 _
              have HKb := Lib.hid (HKp.out.later hbc)
              have HGb : Hid (ROwn stR wc w.heap.size (.slice (some ⟨G, 0, none⟩) 0 0) []) := Lib.hid (by rw [← hwc]; exact ROwn.lit (R := stR) w9 G HKp.out.1.2.size hG)
              have HGN : Hid (∀ x ∈ L, ∀ b', (lfV x).ownBlock = some b' → b' ≠ G) := Lib.hid (fun x hx b' e => by have h1 := (HKp.out.2.2.2.1.2.1.lt x hx b' e).2; omega)
              have b0 := HKb.out.2.1.cell 0
              have b1 := HKb.out.2.1.cell 1
              simp only [List.getElem?_toArray, List.getElem?_cons_zero, List.getElem?_cons_succ] at b0 b1
              clear hbc
              refine wpLate_one (i := 7) (by kernel_rfl) rfl (fun K hK => ?_)
              go_simp
              refine hK.out _ _ (fun _ => b1) ?_
              clear hK K
              try simp only [Act.put]
              clear hwc hG
              refine wpLate_take (i := 8) (v := ?v8u) rfl (by kernel_rfl) (by kernel_rfl) (by kernel_rfl) (by kernel_rfl) (by kernel_rfl) (fun _ _ _ h => h) b1 (by rfl) ?hy8u ?r8u
              case hy8u =>
                rintro wz z1
                go_simp
                try with_reducible rfl
              try simp only [Act.put]
              refine wpLate_take (i := 9) (v := ?v9u) rfl (by kernel_rfl) (by kernel_rfl) (by kernel_rfl) (by kernel_rfl) (by kernel_rfl) (fun _ _ _ h => h) b1 (by rfl) ?hy9u ?r9u
              case hy9u =>
                rintro wz z1
                go_simp
                try with_reducible rfl
              try simp only [Act.put]
              have u3 := HKb.out.2.2.2.1.1.cell (j := 3) HX2.out rfl
              have u4 := HKb.out.2.2.2.1.1.free (y2 * 4 + 3)
              simp only [qiR] at u3
              have HKE := Lib.hid (HKb.out.nakd HX2.out HGb.out HGN.out)
              refine wpLate_one (i := 10) (by kernel_rfl) rfl (fun K hK => ?_)
              go_simp
              refine hK.out _ _ (fun h => absurd rfl h) ?_
              clear hK K
              try simp only [Act.put]
              refine wpLate_done (by kernel_rfl) ?_ _
              have hz2 := HKE.out.2.2.1
              have hs2 := HKE.out.2.1
              have hf := HKE.out.done (.int .i64 (n)) (.slice (some ⟨gb, 0, none⟩) N cap) |>.2.2
              have t0 := hs2.cell 0
              have t1 := hs2.cell 1
              have z0 := hz2.cell 0
              have z1 := hz2.cell 1
              have f10 := hz2.free 0
              have f11 := hz2.free 1
              have r0 := hf.cell 0
              have r1 := hf.cell 1
              unfold ZQ at z0 z1
              simp only [List.getElem?_toArray, List.getElem?_cons_zero, List.getElem?_cons_succ] at t0 t1 z0 z1 r0 r1
              rw [HE.out] at r0 r1 z0 z1 f10 f11
              clear hs2 hz2 hf
              go_wp2
              refine bodyPost_ret (v := .agg #[.int .i64 (n), .slice (some ⟨gb, 0, none⟩) N cap]) (by simp [results, Try.results51, go_sem, r0, r1]) rfl ?_
              have hfin := HKE.out.done (.int .i64 (n)) (.slice (some ⟨gb, 0, none⟩) N cap)
              rw [HE.out] at hfin
              exact ⟨n, _, N, cap, _, q + 1 + 1, rfl, by omega, hfin.1, by rw [HE.out]; exact hfin.2.1, nakd_sm HSM.out HX2.out, by rw [List.length_set]; have := HLL.out; omega⟩
            case ye =>
              obtain ⟨G, hG⟩ : ∃ G, wd.heap.size = G := ⟨_, rfl⟩
              obtain ⟨wc, hwc⟩ : ∃ wc, wd.alloc (.cells #[] 9) = wc := ⟨_, rfl⟩
              have hbc : Below wd.heap.size wd wc := by rw [← hwc]; exact below_new wd _
              have HKb := Lib.hid (HKd.out.later hbc)
              have HGb : Hid (ROwn stR wc w.heap.size (.slice (some ⟨G, 0, none⟩) 0 0) []) := Lib.hid (by rw [← hwc]; exact ROwn.lit (R := stR) wd G HKd.out.1.2.size hG)
              have HGN : Hid (∀ x ∈ L, ∀ b', (lfV x).ownBlock = some b' → b' ≠ G) := Lib.hid (fun x hx b' e => by have h1 := (HKd.out.2.2.2.1.2.1.lt x hx b' e).2; omega)
              have b0 := HKb.out.2.1.cell 0
              have b1 := HKb.out.2.1.cell 1
              simp only [List.getElem?_toArray, List.getElem?_cons_zero, List.getElem?_cons_succ] at b0 b1
              clear hbc
              go_simp
              refine hK.out _ _ (fun _ => b1) ?_
              clear hK K
              try simp only [Act.put]
              clear hwc hG
              refine wpLate_one (i := 6) (by kernel_rfl) rfl (fun K hK => ?_)
              go_simp
              refine (pick_any b (q + 1) N wc HKb.out.1.1 (by omega) (by omega) (by omega)).mono ?_
              rintro e w9 ⟨y2, hy2, rfl, hr, hg⟩
              have HKp := Lib.hid (HKb.out.read hr hg)
              obtain ⟨x2, hx2⟩ : ∃ x, L[y2]? = some x := ⟨_, List.getElem?_eq_getElem (by have := HNL.out; omega)⟩
              have HX2 := Lib.hid hx2
              have y0 : (0 : Int) ≤ (y2 : Int) := by omega
              have y1 : (y2 : Int) < (N : Int) := by omega
              have HGp := Lib.hid (HGb.out.grown hg HK.out.2.2.2.2.1)
              have p0 := HKp.out.2.1.cell 0
              have p1 := HKp.out.2.1.cell 1
              simp only [List.getElem?_toArray, List.getElem?_cons_zero, List.getElem?_cons_succ] at p0 p1
              clear hr hg hx2
              refine hK.out _ _ (fun _ => p1) ?_
              clear hK K
              try simp only [Act.put]
              refine wpLate_take (i := 8) (v := ?v8x) rfl (by kernel_rfl) (by kernel_rfl) (by kernel_rfl) (by kernel_rfl) (by kernel_rfl) (fun _ _ _ h => h) p1 (by rfl) ?hy8x ?r8x
              case hy8x =>
                rintro wz z1
                go_simp
                try with_reducible rfl
              try simp only [Act.put]
              refine wpLate_take (i := 9) (v := ?v9x) rfl (by kernel_rfl) (by kernel_rfl) (by kernel_rfl) (by kernel_rfl) (by kernel_rfl) (fun _ _ _ h => h) p1 (by rfl) ?hy9x ?r9x
              case hy9x =>
                rintro wz z1
                go_simp
                try with_reducible rfl
              try simp only [Act.put]
              have u3 := HKp.out.2.2.2.1.1.cell (j := 3) HX2.out rfl
              have u4 := HKp.out.2.2.2.1.1.free (y2 * 4 + 3)
              simp only [qiR] at u3
              have HKE := Lib.hid (HKp.out.nakd HX2.out HGp.out HGN.out)
              refine wpLate_one (i := 10) (by kernel_rfl) rfl (fun K hK => ?_)
              go_simp
              refine hK.out _ _ (fun h => absurd rfl h) ?_
              clear hK K
              try simp only [Act.put]
              refine wpLate_done (by kernel_rfl) ?_ _
              have hz2 := HKE.out.2.2.1
              have hs2 := HKE.out.2.1
              have hf := HKE.out.done (.int .i64 (n)) (.slice (some ⟨gb, 0, none⟩) N cap) |>.2.2
              have t0 := hs2.cell 0
              have t1 := hs2.cell 1
              have z0 := hz2.cell 0
              have z1 := hz2.cell 1
              have f10 := hz2.free 0
              have f11 := hz2.free 1
              have r0 := hf.cell 0
              have r1 := hf.cell 1
              unfold ZQ at z0 z1
              simp only [List.getElem?_toArray, List.getElem?_cons_zero, List.getElem?_cons_succ] at t0 t1 z0 z1 r0 r1
              rw [HE.out] at r0 r1 z0 z1 f10 f11
              clear hs2 hz2 hf
              go_wp2
              refine bodyPost_ret (v := .agg #[.int .i64 (n), .slice (some ⟨gb, 0, none⟩) N cap]) (by simp [results, Try.results51, go_sem, r0, r1]) rfl ?_
              have hfin := HKE.out.done (.int .i64 (n)) (.slice (some ⟨gb, 0, none⟩) N cap)
              rw [HE.out] at hfin
              exact ⟨n, _, N, cap, _, q + 1 + 1, rfl, by omega, hfin.1, by rw [HE.out]; exact hfin.2.1, nakd_sm HSM.out HX2.out, by rw [List.length_set]; have := HLL.out; omega⟩
          · have hz' : ¬ (0 : Int) < (N : Int) := by omega
            clear c0'
            have hz2 := HK5.out.2.2.1
            have hs2 := HK5.out.2.1
            have hf := HK5.out.done (.int .i64 (n)) (.slice A N cap) |>.2.2
            have t0 := hs2.cell 0
            have t1 := hs2.cell 1
            have z0 := hz2.cell 0
            have z1 := hz2.cell 1
            have f10 := hz2.free 0
            have f11 := hz2.free 1
            have r0 := hf.cell 0
            have r1 := hf.cell 1
            unfold ZQ at z0 z1
            simp only [List.getElem?_toArray, List.getElem?_cons_zero, List.getElem?_cons_succ] at t0 t1 z0 z1 r0 r1
            rw [HE.out] at r0 r1 z0 z1 f10 f11
            clear hs2 hz2 hf
            go_wp2
            refine bodyPost_ret (v := .agg #[.int .i64 (n), .slice A N cap]) (by simp [results, Try.results51, go_sem, r0, r1]) rfl ?_
            have hfin := HK5.out.done (.int .i64 (n)) (.slice A N cap)
            rw [HE.out] at hfin
            exact ⟨n, _, N, cap, L, q + 1, rfl, by omega, hfin.1, by rw [HE.out]; exact hfin.2.1, HSM.out, HL8.out⟩
        · have h1' : ((y : Int) == 1) = false := beq_eq_false_iff_ne.2 (by omega)
          have hz2 := HK5.out.2.2.1
          have hs2 := HK5.out.2.1
          have hf := HK5.out.done (.int .i64 (n)) (.slice A N cap) |>.2.2
          have t0 := hs2.cell 0
          have t1 := hs2.cell 1
          have z0 := hz2.cell 0
          have z1 := hz2.cell 1
          have f10 := hz2.free 0
          have f11 := hz2.free 1
          have r0 := hf.cell 0
          have r1 := hf.cell 1
          unfold ZQ at z0 z1
          simp only [List.getElem?_toArray, List.getElem?_cons_zero, List.getElem?_cons_succ] at t0 t1 z0 z1 r0 r1
          rw [HE.out] at r0 r1 z0 z1 f10 f11
          clear hs2 hz2 hf
          go_wp2
          refine bodyPost_ret (v := .agg #[.int .i64 (n), .slice A N cap]) (by simp [results, Try.results51, go_sem, r0, r1]) rfl ?_
          have hfin := HK5.out.done (.int .i64 (n)) (.slice A N cap)
          rw [HE.out] at hfin
          exact ⟨n, _, N, cap, L, q + 1, rfl, by omega, hfin.1, by rw [HE.out]; exact hfin.2.1, HSM.out, HL8.out⟩
end Go.Proofs.Ytinbdibenbplnaa
namespace Go.Proofs.Ytinbdibenbplnaa
open Go.RowKit
set_option linter.unusedVariables false

set_option maxHeartbeats 2000000 in
theorem same_names (A A2 : Option Addr) (n cap cap2 : Nat) (P : List ByteArray) (w : World) (h : SIn w A n cap P) (h2 : SIn w A2 n cap2 P) :
    Calls Try.prog 24 #[.slice A n cap, .slice A2 n cap2] w fun e w' => e = .returned (.bool true) ∧ Below w.heap.size w w' := by
  have H := Lib.hid h
  have H2 := Lib.hid h2
  have hl := h.2.1
  clear h h2
  have hlb : ((n : Int) != (n : Int)) = false := by simp
  go_enter Try.func24, Try.ntmps24
  go_wp2
  go_loopw [5] (fun i wr => ∃ k : Nat, k ≤ n ∧ i = .int .i64 (k : Int) ∧ Hid (Below w.heap.size w wr)) (fun i _ => n - (intOf i).toNat)
  case atStart => exact ⟨0, Nat.zero_le _, by go_num, Below.refl _ _⟩
  case round =>
    obtain ⟨k, hk, rfl, HB⟩ := hrel
    by_cases hlt : k < n
    · have h0 : (0 : Int) ≤ (k : Int) := by omega
      have h5 : (k : Int) < (n : Int) := by omega
      obtain ⟨x, hx⟩ : ∃ x, P[k]? = some x := ⟨_, List.getElem?_eq_getElem (by rw [H.out.1]; exact hlt)⟩
      obtain ⟨b, o, rfl, hb, c0⟩ := str_at (H.out.2.2.1.below HB.out (Nat.le_refl _)) hx
      obtain ⟨b', o', rfl, hb', d0⟩ := str_at (H2.out.2.2.1.below HB.out (Nat.le_refl _)) hx
      clear hx
      go_wp2
      go_quiet (fail)
      go_wp2
      go_roundw
      case rel => exact ⟨k + 1, by omega, by go_num, below_drewN' HB.out _⟩
      case measure => simp [intOf]; omega
    · have h5 : ¬ (k : Int) < (n : Int) := by omega
      go_wp2
      go_ret
      exact ⟨rfl, HB.out⟩
theorem mem_no {L : List ByteArray} {k : Nat} {x u : ByteArray} (h : ¬ u ∈ L.take k) (hx : L[k]? = some x) (hn : x ≠ u) : ¬ u ∈ L.take (k + 1) := by
  rw [List.take_add_one, hx]
  intro h2
  rcases List.mem_append.1 h2 with h3 | h3
  · exact h h3
  · exact hn (List.mem_singleton.1 h3).symm
set_option maxHeartbeats 2000000 in
theorem has_name (A : Option Addr) (N cap : Nat) (P : List ByteArray) (u : ByteArray) (w : World) (h : SIn w A N cap P) :
    Calls Try.prog 28 #[.slice A N cap, .string u] w fun e w' => e = .returned (.bool (decide (u ∈ P))) ∧ Below w.heap.size w w' := by
  have H := Lib.hid h
  have hl := h.2.1
  clear h
  go_enter Try.func28, Try.ntmps28
  go_wp2
  go_loopw [5] (fun i wr => ∃ k : Nat, k ≤ N ∧ i = .int .i64 (k : Int) ∧ Hid (¬ u ∈ P.take k) ∧ Hid (Below w.heap.size w wr)) (fun i _ => N - (intOf i).toNat)
  case atStart => exact ⟨0, Nat.zero_le _, by go_num, (fun h => by cases h), Below.refl _ _⟩
  case round =>
    obtain ⟨k, hk, rfl, HT, HB⟩ := hrel
    by_cases hlt : k < N
    · have h0 : (0 : Int) ≤ (k : Int) := by omega
      have h5 : (k : Int) < (N : Int) := by omega
      obtain ⟨x, hx⟩ : ∃ x, P[k]? = some x := ⟨_, List.getElem?_eq_getElem (by rw [H.out.1]; exact hlt)⟩
      obtain ⟨b, o, rfl, hb, c0⟩ := str_at (H.out.2.2.1.below HB.out (Nat.le_refl _)) hx
      have HX := Lib.hid hx
      clear hx
      by_cases e1 : x = u
      · subst e1
        have HE : Hid (decide (x ∈ P) = true) := Lib.hid (decide_eq_true (List.mem_of_getElem? HX.out))
        go_wp2
        go_ret
        exact ⟨by rw [HE.out]; rfl, HB.out⟩
      · have HE := Lib.hid e1
        obtain ⟨v1, v2⟩ := ne_walk e1
        go_wp2
        go_roundw
        case rel => exact ⟨k + 1, by omega, by go_num, mem_no HT.out HX.out HE.out, HB.out⟩
        case measure => simp [intOf]; omega
    · have h5 : ¬ (k : Int) < (N : Int) := by omega
      have HE : Hid (decide (u ∈ P) = false) := by
        have h := HT.out
        rw [List.take_of_length_le (by rw [H.out.1]; omega)] at h
        exact decide_eq_false h
      go_wp2
      go_ret
      exact ⟨by rw [HE.out]; rfl, HB.out⟩
set_option maxRecDepth 20000 in
set_option maxHeartbeats 4000000 in
theorem same_queue {n : Int} {A A2 : Option Addr} {N cap cap2 : Nat} {L M : List QI} (w : World) (h : QIn w A N cap L) (h2 : QIn w A2 N cap2 M) (hk : L.map keyI = M.map keyI) :
    Calls Try.prog 23 #[.agg #[.int .i64 n, .slice A N cap], .agg #[.int .i64 n, .slice A2 N cap2]] w fun e w' => e = .returned (.bool true) ∧ Below w.heap.size w w' := by
  obtain ⟨Q, hQ⟩ : ∃ Q, w.heap.size = Q := ⟨_, rfl⟩
  obtain ⟨wq, hwq⟩ : ∃ wq, ((w.alloc (.cells #[.int .i64 n, .slice A N cap] 31)).alloc (.cells #[.int .i64 n, .slice A2 N cap2] 31)) = wq := ⟨_, rfl⟩
  have e1 : (w.alloc (.cells #[.int .i64 n, .slice A N cap] 31)).heap.size = Q + 1 := by simp [hQ]
  have HBA : Hid (Below w.heap.size w wq) := Lib.hid (by rw [← hwq]; exact ((Below.refl w.heap.size w).alloc (Nat.le_refl _) _).alloc (by simp) _)
  have HW0 : Hid (Whole wq Q 31 #[.int .i64 n, .slice A N cap]) := Lib.hid (by rw [← hwq, ← hQ]; exact (Whole.made w _ _).alloc _)
  have HW1 : Hid (Whole wq (Q + 1) 31 #[.int .i64 n, .slice A2 N cap2]) := Lib.hid (by rw [← hwq, ← e1]; exact Whole.made _ _ _)
  have H := Lib.hid (h.below HBA.out (Nat.le_refl _))
  have H2 := Lib.hid (h2.below HBA.out (Nat.le_refl _))
  have HK := Lib.hid hk
  have HQ := Lib.hid hQ
  have HZ := Lib.hid hwq
  have hl := h.2.1
  clear h h2 hk e1 hQ hwq
  have x0 := HW0.out.cell 0
  have x1 := HW0.out.cell 1
  have y0 := HW1.out.cell 0
  have y1 := HW1.out.cell 1
  simp only [List.getElem?_toArray, List.getElem?_cons_zero, List.getElem?_cons_succ] at x0 x1 y0 y1
  go_enter Try.func23, Try.ntmps23
  go_wp2_with fail
  rw [HQ.out, HZ.out]
  go_wp2
  clear x0 x1 y0 y1
  go_loopw [5] (fun i wr => ∃ k : Nat, k ≤ N ∧ i = .int .i64 (k : Int) ∧ Hid (Below wq.heap.size wq wr)) (fun i _ => N - (intOf i).toNat)
  case atStart => exact ⟨0, Nat.zero_le _, by go_num, Below.refl _ _⟩
  case round =>
    obtain ⟨k, hk, rfl, HB⟩ := hrel
    have KW0 := Lib.hid (HW0.out.below HB.out HW0.out.lt)
    have KW1 := Lib.hid (HW1.out.below HB.out HW1.out.lt)
    have x1 := KW0.out.cell 1
    have y1 := KW1.out.cell 1
    simp only [List.getElem?_toArray, List.getElem?_cons_zero, List.getElem?_cons_succ] at x1 y1
    by_cases hlt : k < N
    · have h0 : (0 : Int) ≤ (k : Int) := by omega
      have h5 : (k : Int) < (N : Int) := by omega
      obtain ⟨x, hx⟩ : ∃ x, L[k]? = some x := ⟨_, List.getElem?_eq_getElem (by rw [H.out.1]; exact hlt)⟩
      obtain ⟨y, hy⟩ : ∃ x, M[k]? = some x := ⟨_, List.getElem?_eq_getElem (by rw [H2.out.1]; exact hlt)⟩
      have he := key_get HK.out hx hy
      have HI := Lib.hid (H.out.below HB.out (Nat.le_refl _))
      have HJ := Lib.hid (H2.out.below HB.out (Nat.le_refl _))
      obtain ⟨b, o, rfl, hb, c0, c1, c2, c3⟩ := qi_at HI.out.2.2.1 hx
      obtain ⟨b', o', rfl, hb', d0, d1, d2, d3⟩ := qi_at HJ.out.2.2.1 hy
      have HS := Lib.hid (HI.out.2.2.2.2.2 _ (List.mem_of_getElem? hx)).2
      have HR := Lib.hid (HJ.out.2.2.2.2.2 _ (List.mem_of_getElem? hy)).2
      obtain ⟨i1, us, tx, Ai, Ni, ci, Ti⟩ := x
      obtain ⟨j1, us2, tx2, Aj, Nj, cj, Tj⟩ := y
      simp only [keyI, Prod.mk.injEq] at he
      obtain ⟨rfl, rfl, rfl, rfl⟩ := he
      simp only at c0 c1 c2 c3 d0 d1 d2 d3
      have hNN : Ni = Nj := HS.out.1.symm.trans HR.out.1
      subst hNN
      have q1 : (i1 != i1) = false := by simp
      obtain ⟨wa, hwa⟩ : ∃ wa, wr.alloc (.cells #[.int .i64 i1, .string us, .string tx, .slice Ai Ni ci] 38) = wa := ⟨_, rfl⟩
      obtain ⟨wb, hwb⟩ : ∃ wb, wa.alloc (.cells #[.int .i64 i1, .string us, .string tx, .slice Aj Ni cj] 38) = wb := ⟨_, rfl⟩
      have HWB : Hid ((wr.alloc (.cells #[.int .i64 i1, .string us, .string tx, .slice Ai Ni ci] 38)).alloc (.cells #[.int .i64 i1, .string us, .string tx, .slice Aj Ni cj] 38) = wb) := Lib.hid (by rw [hwa, hwb])
      have HBb : Hid (Below wr.heap.size wr wb) := Lib.hid (by rw [← hwb, ← hwa]; exact ((Below.refl wr.heap.size wr).alloc (Nat.le_refl _) _).alloc (by simp) _)
      have HSb := Lib.hid (HS.out.below HBb.out (Nat.le_refl _))
      have HRb := Lib.hid (HR.out.below HBb.out (Nat.le_refl _))
      have hba : Below wr.heap.size wr wa := by rw [← hwa]; exact below_new _ _
      have y1a := (KW1.out.below hba KW1.out.lt).cell 1
      have d0a := (hba.cell (p := ⟨b', o' + k * 4, none⟩) hb').trans d0
      have d1a := (hba.cell (p := ⟨b', o' + k * 4 + 1, none⟩) hb').trans d1
      have d2a := (hba.cell (p := ⟨b', o' + k * 4 + 2, none⟩) hb').trans d2
      have d3a := (hba.cell (p := ⟨b', o' + k * 4 + 3, none⟩) hb').trans d3
      simp only [List.getElem?_toArray, List.getElem?_cons_zero, List.getElem?_cons_succ] at y1a
      rw [← hwa] at y1a d0a d1a d2a d3a
      clear hx hy hwa hwb hba
      go_wp2_with fail
      rw [HWB.out]
      refine (same_names Ai Aj Ni ci cj Ti wb HSb.out HRb.out).mono ?_
      rintro e wc ⟨rfl, hbc⟩
      have HBc := Lib.hid (HB.out.trans ((HBb.out.trans (hbc.mono HBb.out.size)).mono HB.out.size))
      clear hbc
      go_wp2
      go_roundw
      case rel => exact ⟨k + 1, by omega, by go_num, HBc⟩
      case measure => simp [intOf]; omega
    · have h5 : ¬ (k : Int) < (N : Int) := by omega
      have HBE := Lib.hid (HBA.out.trans (HB.out.mono HBA.out.size))
      go_wp2
      go_ret
      exact ⟨rfl, HBE.out⟩
/-- A drawn queue, for a law. -/
def DrwQ (w : World) (e : Ending) (w' : World) : Prop := ∃ (n : Int) (A : Option Addr) (N cap : Nat) (L : List QI), e = .returned (.agg #[.int .i64 n, .slice A N cap]) ∧ OwnQ w' w.heap.size A N cap L ∧ smQ (L.map keyI) ∧ L.length ≤ 8 ∧ Below w.heap.size w w'
/-- A drawn queue and a user. -/
def DrwU (w : World) (e : Ending) (w' : World) : Prop := ∃ (n : Int) (A : Option Addr) (N cap : Nat) (L : List QI) (u : ByteArray), e = .returned (.tuple #[.agg #[.int .i64 n, .slice A N cap], .string u]) ∧ OwnQ w' w.heap.size A N cap L ∧ smQ (L.map keyI) ∧ L.length ≤ 8 ∧ u.size ≤ 30 ∧ Below w.heap.size w w'
/-- A drawn letter, for a law. -/
def DrwX (w : World) (e : Ending) (w' : World) : Prop := ∃ (us tx : ByteArray) (A : Option Addr) (N cap : Nat) (T : List ByteArray), e = .returned (.agg #[.string us, .slice A N cap, .string tx]) ∧ ROwn stR w' w.heap.size (.slice A N cap) T ∧ us.size ≤ 30 ∧ tx.size ≤ 30 ∧ T.length ≤ 6 ∧ (∀ g ∈ T, g.size ≤ 30) ∧ Below w.heap.size w w'
/-- A drawn queue and a letter. -/
def DrwA (w : World) (e : Ending) (w' : World) : Prop := ∃ (n : Int) (A : Option Addr) (N cap : Nat) (L : List QI) (us tx : ByteArray) (AT : Option Addr) (NT cT : Nat) (TT : List ByteArray), e = .returned (.tuple #[.agg #[.int .i64 n, .slice A N cap], .agg #[.string us, .slice AT NT cT, .string tx]]) ∧ OwnQ w' w.heap.size A N cap L ∧ smQ (L.map keyI) ∧ L.length ≤ 8 ∧ ROwn stR w' w.heap.size (.slice AT NT cT) TT ∧ us.size ≤ 30 ∧ tx.size ≤ 30 ∧ TT.length ≤ 6 ∧ (∀ g ∈ TT, g.size ≤ 30) ∧ Below w.heap.size w w'
set_option maxRecDepth 20000 in
set_option maxHeartbeats 4000000 in
theorem draw_qvalid (A0 : Option Addr) (len cap0 : Nat) (w : World) (h : Coded w A0 len cap0) : Calls Try.prog 35 #[.slice A0 len cap0] w (DrwQ w) := by
  obtain ⟨E, hE⟩ : ∃ E, w.heap.size = E := ⟨_, rfl⟩
  obtain ⟨wz, hwz⟩ : ∃ wz, (w.alloc (.cells #[.int .i64 0, .slice none 0 0] 31)) = wz := ⟨_, rfl⟩
  have hbz : Below w.heap.size w wz := by rw [← hwz]; exact below_new _ _
  have hsz : wz.heap.size = E + 1 := by rw [← hwz, ← hE]; simp
  have HR0 := Lib.hid (show Whole wz E 31 #[.int .i64 0, .slice none 0 0] by rw [← hwz, ← hE]; exact Whole.made _ _ _)
  have HC := Lib.hid (h.below hbz (Nat.le_refl _))
  have HBZ := Lib.hid hbz
  have HZ := Lib.hid hwz
  have HE := Lib.hid hE
  have HSZ := Lib.hid hsz
  clear h hwz hbz hE hsz
  go_enter Try.func35, Try.ntmps35
  go_wp2_with fail
  rw [HE.out, HZ.out]
  refine (open_any A0 len cap0 wz HC.out.1 HC.out.2.1 HC.out.2.2).mono ?_
  rintro e w1 ⟨rfl, hr, hb, hz⟩
  rw [HSZ.out] at hr hb hz ⊢
  have HD1 := Lib.hid hr
  have HB1 := Lib.hid (HBZ.out.trans (hb.mono (by have := HE.out; omega)))
  have hz1 := hz
  have HR01 := Lib.hid (HR0.out.below hb (by omega))
  clear hr hb hz
  go_wp2_with fail
  refine (queue_draw (E + 1) 0 w1 HD1.out (by omega)).mono ?_
  rintro e w2 ⟨n, A, N, cap, L, q, rfl, hq, hd, ho, hs, hl⟩
  have HD2 := Lib.hid hd
  have HO2 := Lib.hid (ho.from (show E ≤ w1.heap.size by omega))
  have HS2 := Lib.hid hs
  have HL2 := Lib.hid hl
  have HB2 := Lib.hid (below_gr HB1.out hd.2 HB1.out.size (by have := HE.out; omega))
  have HR02 := Lib.hid (HR01.out.grown hd.2 (fun e => by have h1 := Option.some.inj e; omega))
  clear ho hs hl hd
  have z0 := HR02.out.cell 0
  have z1 := HR02.out.cell 1
  have f0 := HR02.out.free 0
  have f1 := HR02.out.free 1
  have hf := (HR02.out.store 0 (.int .i64 n)).store 1 (.slice A N cap)
  have r0 := hf.cell 0
  have r1 := hf.cell 1
  simp only [List.getElem?_toArray, List.getElem?_cons_zero, List.getElem?_cons_succ] at z0 z1
  have r0' : ((w2.setCell ⟨E, 0, none⟩ (.int .i64 n)).setCell ⟨E, 1, none⟩ (.slice A N cap)).cell? ⟨E, 0, none⟩ = some (.int .i64 n) := r0
  have r1' : ((w2.setCell ⟨E, 0, none⟩ (.int .i64 n)).setCell ⟨E, 1, none⟩ (.slice A N cap)).cell? ⟨E, 1, none⟩ = some (.slice A N cap) := r1
  clear hf r0 r1
  have HOE := Lib.hid ((HO2.out.storeT HR02.out (by decide) (by decide) (k := 0) (.int .i64 n)).storeT (HR02.out.store 0 (.int .i64 n)) (by decide) (by decide) (k := 1) (.slice A N cap))
  have HBE := Lib.hid ((HB2.out.setCell (p := ⟨E, 0, none⟩) (Nat.le_of_eq HE.out) (.int .i64 n)).setCell (p := ⟨E, 1, none⟩) (Nat.le_of_eq HE.out) (.slice A N cap))
  go_wp2
  refine bodyPost_ret (v := .agg #[.int .i64 n, .slice A N cap]) (by simp [results, Try.results35, go_sem, r0', r1']) rfl ?_
  exact ⟨n, A, N, cap, L, rfl, by rw [HE.out]; exact HOE.out, HS2.out, HL2.out, HBE.out⟩
set_option maxRecDepth 20000 in
set_option maxHeartbeats 4000000 in
theorem draw_letval (A0 : Option Addr) (len cap0 : Nat) (w : World) (h : Coded w A0 len cap0) : Calls Try.prog 17 #[.slice A0 len cap0] w (DrwX w) := by
  obtain ⟨E, hE⟩ : ∃ E, w.heap.size = E := ⟨_, rfl⟩
  obtain ⟨wz, hwz⟩ : ∃ wz, (w.alloc (.cells #[.string ⟨#[]⟩, .slice none 0 0, .string ⟨#[]⟩] 25)) = wz := ⟨_, rfl⟩
  have hbz : Below w.heap.size w wz := by rw [← hwz]; exact below_new _ _
  have hsz : wz.heap.size = E + 1 := by rw [← hwz, ← hE]; simp
  have HR0 := Lib.hid (show Whole wz E 25 #[.string ⟨#[]⟩, .slice none 0 0, .string ⟨#[]⟩] by rw [← hwz, ← hE]; exact Whole.made _ _ _)
  have HC := Lib.hid (h.below hbz (Nat.le_refl _))
  have HBZ := Lib.hid hbz
  have HZ := Lib.hid hwz
  have HE := Lib.hid hE
  have HSZ := Lib.hid hsz
  clear h hwz hbz hE hsz
  go_enter Try.func17, Try.ntmps17
  go_wp2_with fail
  rw [HE.out, HZ.out]
  refine (open_any A0 len cap0 wz HC.out.1 HC.out.2.1 HC.out.2.2).mono ?_
  rintro e w1 ⟨rfl, hr, hb, hz⟩
  rw [HSZ.out] at hr hb hz ⊢
  have HD1 := Lib.hid hr
  have HB1 := Lib.hid (HBZ.out.trans (hb.mono (by have := HE.out; omega)))
  have hz1 := hz
  have HR01 := Lib.hid (HR0.out.below hb (by omega))
  clear hr hb hz
  go_wp2_with fail
  refine (letter_draw (E + 1) 0 w1 HD1.out (by omega)).mono ?_
  rintro e w2 ⟨us, tx, A, N, cap, T, q, rfl, hq, hd, ho, hus, htx, hTl, hTs⟩
  have HO2 := Lib.hid (ho.from (show E ≤ w1.heap.size by omega))
  have HT2 := Lib.hid hTs
  have HB2 := Lib.hid (below_gr HB1.out hd.2 HB1.out.size (by have := HE.out; omega))
  have HR02 := Lib.hid (HR01.out.grown hd.2 (fun e => by have h1 := Option.some.inj e; omega))
  clear ho hTs hd
  have z0 := HR02.out.cell 0
  have z1 := HR02.out.cell 1
  have z2 := HR02.out.cell 2
  have f0 := HR02.out.free 0
  have f1 := HR02.out.free 1
  have f2 := HR02.out.free 2
  have hf := ((HR02.out.store 0 (.string us)).store 1 (.slice A N cap)).store 2 (.string tx)
  have r0' : (((w2.setCell ⟨E, 0, none⟩ (.string us)).setCell ⟨E, 1, none⟩ (.slice A N cap)).setCell ⟨E, 2, none⟩ (.string tx)).cell? ⟨E, 0, none⟩ = some (.string us) := hf.cell 0
  have r1' : (((w2.setCell ⟨E, 0, none⟩ (.string us)).setCell ⟨E, 1, none⟩ (.slice A N cap)).setCell ⟨E, 2, none⟩ (.string tx)).cell? ⟨E, 1, none⟩ = some (.slice A N cap) := hf.cell 1
  have r2' : (((w2.setCell ⟨E, 0, none⟩ (.string us)).setCell ⟨E, 1, none⟩ (.slice A N cap)).setCell ⟨E, 2, none⟩ (.string tx)).cell? ⟨E, 2, none⟩ = some (.string tx) := hf.cell 2
  simp only [List.getElem?_toArray, List.getElem?_cons_zero, List.getElem?_cons_succ] at z0 z1 z2
  clear hf
  have hne := HO2.out.whole HR02.out (by decide)
  have HOE := Lib.hid (((HO2.out.store (p := ⟨E, 0, none⟩) hne (.string us)).store (p := ⟨E, 1, none⟩) hne (.slice A N cap)).store (p := ⟨E, 2, none⟩) hne (.string tx))
  have HBE := Lib.hid (((HB2.out.setCell (p := ⟨E, 0, none⟩) (Nat.le_of_eq HE.out) (.string us)).setCell (p := ⟨E, 1, none⟩) (Nat.le_of_eq HE.out) (.slice A N cap)).setCell (p := ⟨E, 2, none⟩) (Nat.le_of_eq HE.out) (.string tx))
  clear hne
  go_wp2
  refine bodyPost_ret (v := .agg #[.string us, .slice A N cap, .string tx]) (by simp [results, Try.results17, go_sem, r0', r1', r2']) rfl ?_
  exact ⟨us, tx, A, N, cap, T, rfl, by rw [HE.out]; exact HOE.out, hus, htx, hTl, HT2.out, HBE.out⟩
set_option maxRecDepth 20000 in
set_option maxHeartbeats 4000000 in
theorem draw_qleft (A0 : Option Addr) (len cap0 : Nat) (w : World) (h : Coded w A0 len cap0) : Calls Try.prog 33 #[.slice A0 len cap0] w (DrwU w) := by
  obtain ⟨E, hE⟩ : ∃ E, w.heap.size = E := ⟨_, rfl⟩
  obtain ⟨wz, hwz⟩ : ∃ wz, (w.alloc (.cells #[.int .i64 0, .slice none 0 0] 31)) = wz := ⟨_, rfl⟩
  have hbz : Below w.heap.size w wz := by rw [← hwz]; exact below_new _ _
  have hsz : wz.heap.size = E + 1 := by rw [← hwz, ← hE]; simp
  have HR0 := Lib.hid (show Whole wz E 31 #[.int .i64 0, .slice none 0 0] by rw [← hwz, ← hE]; exact Whole.made _ _ _)
  have HC := Lib.hid (h.below hbz (Nat.le_refl _))
  have HBZ := Lib.hid hbz
  have HZ := Lib.hid hwz
  have HE := Lib.hid hE
  have HSZ := Lib.hid hsz
  clear h hwz hbz hE hsz
  go_enter Try.func33, Try.ntmps33
  go_wp2_with fail
  rw [HE.out, HZ.out]
  refine (open_any A0 len cap0 wz HC.out.1 HC.out.2.1 HC.out.2.2).mono ?_
  rintro e w1 ⟨rfl, hr, hb, hz⟩
  rw [HSZ.out] at hr hb hz ⊢
  have HD1 := Lib.hid hr
  have HB1 := Lib.hid (HBZ.out.trans (hb.mono (by have := HE.out; omega)))
  have hz1 := hz
  have HR01 := Lib.hid (HR0.out.below hb (by omega))
  clear hr hb hz
  have HWL := Lib.hid (show E + 1 < w1.heap.size from hz1)
  go_wp2_with fail
  refine (queue_draw (E + 1) 0 w1 HD1.out (by omega)).mono ?_
  rintro e w2 ⟨n, A, N, cap, L, q, rfl, hq, hd, ho, hs, hl⟩
  obtain ⟨B1, hB1⟩ : ∃ B1, w1.heap.size = B1 := ⟨_, rfl⟩
  rw [hB1] at ho HWL
  have HS2 := Lib.hid hs
  have HL2 := Lib.hid hl
  have HB2 := Lib.hid (below_gr HB1.out hd.2 HB1.out.size (by have := HE.out; omega))
  have HR02 := Lib.hid (HR01.out.grown hd.2 (fun e => by have h1 := Option.some.inj e; omega))
  obtain ⟨S, hS⟩ : ∃ S, w2.heap.size = S := ⟨_, rfl⟩
  obtain ⟨w3, hw3⟩ : ∃ wa, w2.alloc (.cells #[.int .i64 n, .slice A N cap] 31) = wa := ⟨_, rfl⟩
  have hb3 : Below w2.heap.size w2 w3 := by rw [← hw3]; exact below_new _ _
  have HS3 := Lib.hid (show Whole w3 S 31 #[.int .i64 n, .slice A N cap] by rw [← hw3, ← hS]; exact Whole.made _ _ _)
  have HD3 := Lib.hid (hd.1.below hb3 hd.1.lt)
  have HO3 := Lib.hid (ho.kept hb3)
  have HB3 := Lib.hid (HB2.out.trans (hb3.mono HB2.out.size))
  have HR03 := Lib.hid (HR02.out.below hb3 HR02.out.lt)
  have HES : Hid (E + 1 < S) := Lib.hid (by rw [← hS]; exact hd.1.lt)
  have HWW := Lib.hid hw3
  have HSS := Lib.hid hS
  clear ho hs hl hd hw3 hS hb3 hB1
  go_upto_region 3 with fail
  rw [HWW.out, HSS.out]
  refine wp_region_late (fun w' => w'.cell? ⟨S, 0, none⟩ = some (.int .i64 n) ∧ w'.cell? ⟨S, 1, none⟩ = some (.slice A N cap)) 4 (by kernel_rfl) ?_
  have hD := Lib.hid (show Rd w3.drew (E + 1) q from HD3.out)
  have hS := Lib.hid HS3.out.drew
  have hO := Lib.hid (show OwnQ w3.drew B1 A N cap L from ⟨HO3.out.1, HO3.out.2.1.drewN 1, HO3.out.2.2⟩)
  have hB := Lib.hid (HB3.out.trans ((below_drew1 w3).mono HB3.out.size))
  have hR0 := Lib.hid HR03.out.drew
  clear HS3 HD3 HO3 HB3 HR03 HWW
  revert hD hS hO hB hR0
  generalize w3.drew = wd
  intro HD3 HS3 HO3 HB3 HR03
  have d0 := HS3.out.cell 0
  have d1 := HS3.out.cell 1
  simp only [List.getElem?_toArray, List.getElem?_cons_zero, List.getElem?_cons_succ] at d0 d1
  refine wpLate_take (i := 0) (v := ?v0) rfl (by kernel_rfl) (by kernel_rfl) (by kernel_rfl) (by kernel_rfl) (by kernel_rfl) (fun _ _ _ h => h) ⟨d0, d1⟩ (by rfl) ?hy0 ?r0
  case hy0 =>
    rintro wz ⟨z0, z1⟩
    go_simp
    try with_reducible rfl
  try simp only [Act.put]
  refine wpLate_take (i := 1) (v := ?v1) rfl (by kernel_rfl) (by kernel_rfl) (by kernel_rfl) (by kernel_rfl) (by kernel_rfl) (fun _ _ _ h => h) ⟨d0, d1⟩ (by rfl) ?hy1 ?r1
  case hy1 =>
    rintro wz ⟨z0, z1⟩
    go_simp
    try with_reducible rfl
  try simp only [Act.put]
  refine wpLate_one (i := 2) (by kernel_rfl) rfl (fun K hK => ?_)
  go_simp
  refine (name_text (E + 1) q wd HD3.out (by omega)).mono ?_
  rintro e w4 ⟨u, hu, rfl, hr, hg⟩
  have HB4 := Lib.hid (below_gr HB3.out hg HB3.out.size (by have := HE.out; omega))
  have HO4 := Lib.hid (HO3.out.grown hg (by have := HWL.out; omega))
  have HS4 := Lib.hid (HS3.out.grown hg (fun e => by have h1 := Option.some.inj e; have h2 := HES.out; omega))
  have HR04 := Lib.hid (HR03.out.grown hg (fun e => by have h1 := Option.some.inj e; omega))
  have e0 := HS4.out.cell 0
  have e1 := HS4.out.cell 1
  simp only [List.getElem?_toArray, List.getElem?_cons_zero, List.getElem?_cons_succ] at e0 e1
  clear hr hg
  refine hK.out _ _ (fun _ => ⟨e0, e1⟩) ?_
  clear hK K
  try simp only [Act.put]
  have z0 := HR04.out.cell 0
  have z1 := HR04.out.cell 1
  have f0 := HR04.out.free 0
  have f1 := HR04.out.free 1
  simp only [List.getElem?_toArray, List.getElem?_cons_zero, List.getElem?_cons_succ] at z0 z1
  have HR05 := Lib.hid (show Whole ((w4.setCell ⟨E, 0, none⟩ (.int .i64 n)).setCell ⟨E, 1, none⟩ (.slice A N cap)) E 31 #[.int .i64 n, .slice A N cap] from (HR04.out.store 0 (.int .i64 n)).store 1 (.slice A N cap))
  have HS5 := Lib.hid (show Whole ((w4.setCell ⟨E, 0, none⟩ (.int .i64 n)).setCell ⟨E, 1, none⟩ (.slice A N cap)) S 31 #[.int .i64 n, .slice A N cap] from (HS4.out.apart (p := ⟨E, 0, none⟩) (by have := HES.out; show S ≠ E; omega) _).apart (p := ⟨E, 1, none⟩) (by have := HES.out; show S ≠ E; omega) _)
  have HO5 := Lib.hid (show OwnQ ((w4.setCell ⟨E, 0, none⟩ (.int .i64 n)).setCell ⟨E, 1, none⟩ (.slice A N cap)) B1 A N cap L from (HO4.out.storeT HR04.out (by decide) (by decide) _).storeT (HR04.out.store 0 _) (by decide) (by decide) _)
  have HB5 := Lib.hid (show Below w.heap.size w ((w4.setCell ⟨E, 0, none⟩ (.int .i64 n)).setCell ⟨E, 1, none⟩ (.slice A N cap)) from (HB4.out.setCell (p := ⟨E, 0, none⟩) (Nat.le_of_eq HE.out) _).setCell (p := ⟨E, 1, none⟩) (Nat.le_of_eq HE.out) _)
  have g0 := HS5.out.cell 0
  have g1 := HS5.out.cell 1
  simp only [List.getElem?_toArray, List.getElem?_cons_zero, List.getElem?_cons_succ] at g0 g1
  refine wpLate_one (i := 3) (by kernel_rfl) rfl (fun K hK => ?_)
  go_simp
  refine hK.out _ _ (fun _ => ⟨g0, g1⟩) ?_
  clear hK K
  try simp only [Act.put]
  refine wpLate_one (i := 4) (by kernel_rfl) rfl (fun K hK => ?_)
  go_simp
  refine hK.out _ _ (fun h => absurd rfl h) ?_
  clear hK K
  try simp only [Act.put]
  refine wpLate_done (by kernel_rfl) ?_ _
  have r0 := HR05.out.cell 0
  have r1 := HR05.out.cell 1
  simp only [List.getElem?_toArray, List.getElem?_cons_zero, List.getElem?_cons_succ] at r0 r1
  go_wp2
  refine bodyPost_ret (v := .tuple #[.agg #[.int .i64 n, .slice A N cap], .string u]) (by simp [results, Try.results33, go_sem, r0, r1]) rfl ?_
  exact ⟨n, A, N, cap, L, u, rfl, HO5.out.from (by have := HWL.out; have := HE.out; omega), HS2.out, HL2.out, hu, HB5.out⟩
set_option maxRecDepth 20000 in
set_option maxHeartbeats 4000000 in
theorem draw_qadd (A0 : Option Addr) (len cap0 : Nat) (w : World) (h : Coded w A0 len cap0) : Calls Try.prog 20 #[.slice A0 len cap0] w (DrwA w) := by
  obtain ⟨E, hE⟩ : ∃ E, w.heap.size = E := ⟨_, rfl⟩
  obtain ⟨wz, hwz⟩ : ∃ wz, ((w.alloc (.cells #[.int .i64 0, .slice none 0 0] 31)).alloc (.cells #[.string ⟨#[]⟩, .slice none 0 0, .string ⟨#[]⟩] 25)) = wz := ⟨_, rfl⟩
  have hbz : Below w.heap.size w wz := by rw [← hwz]; exact (below_new _ _).alloc (by simp) _
  have hsz : wz.heap.size = E + 2 := by rw [← hwz, ← hE]; simp
  have HR0 := Lib.hid (show Whole wz E 31 #[.int .i64 0, .slice none 0 0] by rw [← hwz, ← hE]; exact (Whole.made _ _ _).alloc _)
  have e1 : (w.alloc (.cells #[.int .i64 0, .slice none 0 0] 31)).heap.size = E + 1 := by simp [hE]
  have HR1 := Lib.hid (show Whole wz (E + 1) 25 #[.string ⟨#[]⟩, .slice none 0 0, .string ⟨#[]⟩] by rw [← hwz, ← e1]; exact Whole.made _ _ _)
  have HC := Lib.hid (h.below hbz (Nat.le_refl _))
  have HBZ := Lib.hid hbz
  have HZ := Lib.hid hwz
  have HE := Lib.hid hE
  have HSZ := Lib.hid hsz
  clear h hwz hbz hE hsz e1
  go_enter Try.func20, Try.ntmps20
  go_wp2_with fail
  rw [HE.out, HZ.out]
  refine (open_any A0 len cap0 wz HC.out.1 HC.out.2.1 HC.out.2.2).mono ?_
  rintro e w1 ⟨rfl, hr, hb, hz⟩
  rw [HSZ.out] at hr hb hz ⊢
  have HD1 := Lib.hid hr
  have HB1 := Lib.hid (HBZ.out.trans (hb.mono (by have := HE.out; omega)))
  have hz1 := hz
  have HR01 := Lib.hid (HR0.out.below hb (by omega))
  have HR11 := Lib.hid (HR1.out.below hb (by omega))
  clear hr hb hz
  have HWL := Lib.hid (show E + 2 < w1.heap.size from hz1)
  go_wp2_with fail
  refine (queue_draw (E + 2) 0 w1 HD1.out (by omega)).mono ?_
  rintro e w2 ⟨n, A, N, cap, L, q, rfl, hq, hd, ho, hs, hl⟩
  obtain ⟨B1, hB1⟩ : ∃ B1, w1.heap.size = B1 := ⟨_, rfl⟩
  rw [hB1] at ho HWL
  have HS2 := Lib.hid hs
  have HL2 := Lib.hid hl
  have HB2 := Lib.hid (below_gr HB1.out hd.2 HB1.out.size (by have := HE.out; omega))
  have HR02 := Lib.hid (HR01.out.grown hd.2 (fun e => by have h1 := Option.some.inj e; omega))
  have HR12 := Lib.hid (HR11.out.grown hd.2 (fun e => by have h1 := Option.some.inj e; omega))
  obtain ⟨S, hS⟩ : ∃ S, w2.heap.size = S := ⟨_, rfl⟩
  obtain ⟨w3, hw3⟩ : ∃ wa, w2.alloc (.cells #[.int .i64 n, .slice A N cap] 31) = wa := ⟨_, rfl⟩
  have hb3 : Below w2.heap.size w2 w3 := by rw [← hw3]; exact below_new _ _
  have HS3 := Lib.hid (show Whole w3 S 31 #[.int .i64 n, .slice A N cap] by rw [← hw3, ← hS]; exact Whole.made _ _ _)
  have HD3 := Lib.hid (hd.1.below hb3 hd.1.lt)
  have HO3 := Lib.hid (ho.kept hb3)
  have HB3 := Lib.hid (HB2.out.trans (hb3.mono HB2.out.size))
  have HR03 := Lib.hid (HR02.out.below hb3 HR02.out.lt)
  have HR13 := Lib.hid (HR12.out.below hb3 HR12.out.lt)
  have HES : Hid (E + 2 < S) := Lib.hid (by rw [← hS]; exact hd.1.lt)
  have HWW := Lib.hid hw3
  have HSS := Lib.hid hS
  clear ho hs hl hd hw3 hS hb3 hB1
  go_upto_region 3 with fail
  rw [HWW.out, HSS.out]
  refine wp_region_late (fun w' => w'.cell? ⟨S, 0, none⟩ = some (.int .i64 n) ∧ w'.cell? ⟨S, 1, none⟩ = some (.slice A N cap)) 4 (by kernel_rfl) ?_
  have hD := Lib.hid (show Rd w3.drew (E + 2) q from HD3.out)
  have hS := Lib.hid HS3.out.drew
  have hO := Lib.hid (show OwnQ w3.drew B1 A N cap L from ⟨HO3.out.1, HO3.out.2.1.drewN 1, HO3.out.2.2⟩)
  have hB := Lib.hid (HB3.out.trans ((below_drew1 w3).mono HB3.out.size))
  have hR0 := Lib.hid HR03.out.drew
  have hR1 := Lib.hid HR13.out.drew
  clear HS3 HD3 HO3 HB3 HR03 HR13 HWW
  revert hD hS hO hB hR0 hR1
  generalize w3.drew = wd
  intro HD3 HS3 HO3 HB3 HR03 HR13
  have d0 := HS3.out.cell 0
  have d1 := HS3.out.cell 1
  simp only [List.getElem?_toArray, List.getElem?_cons_zero, List.getElem?_cons_succ] at d0 d1
  have HSD := Lib.hid HS3.out.lt
  refine wpLate_take (i := 0) (v := ?v0) rfl (by kernel_rfl) (by kernel_rfl) (by kernel_rfl) (by kernel_rfl) (by kernel_rfl) (fun _ _ _ h => h) ⟨d0, d1⟩ (by rfl) ?hy0 ?r0
  case hy0 =>
    rintro wz ⟨z0, z1⟩
    go_simp
    try with_reducible rfl
  try simp only [Act.put]
  refine wpLate_take (i := 1) (v := ?v1) rfl (by kernel_rfl) (by kernel_rfl) (by kernel_rfl) (by kernel_rfl) (by kernel_rfl) (fun _ _ _ h => h) ⟨d0, d1⟩ (by rfl) ?hy1 ?r1
  case hy1 =>
    rintro wz ⟨z0, z1⟩
    go_simp
    try with_reducible rfl
  try simp only [Act.put]
  refine wpLate_one (i := 2) (by kernel_rfl) rfl (fun K hK => ?_)
  go_simp
  refine (letter_draw (E + 2) q wd HD3.out (by omega)).mono ?_
  rintro e w4 ⟨us, tx, AT, NT, cT, TT, q4, rfl, hq4, hd, ho, hus, htx, hTl, hTs⟩
  have hg := hd.2
  have HT4 := Lib.hid (ho.from (Nat.le_of_lt HSD.out))
  have HTT := Lib.hid hTs
  have HB4 := Lib.hid (below_gr HB3.out hg HB3.out.size (by have := HE.out; omega))
  have HO4 := Lib.hid (HO3.out.grown hg (by have := HWL.out; omega))
  have HS4 := Lib.hid (HS3.out.grown hg (fun e => by have h1 := Option.some.inj e; have h2 := HES.out; omega))
  have HR04 := Lib.hid (HR03.out.grown hg (fun e => by have h1 := Option.some.inj e; omega))
  have HR14 := Lib.hid (HR13.out.grown hg (fun e => by have h1 := Option.some.inj e; omega))
  have e0 := HS4.out.cell 0
  have e1 := HS4.out.cell 1
  simp only [List.getElem?_toArray, List.getElem?_cons_zero, List.getElem?_cons_succ] at e0 e1
  clear hd hg ho hTs
  refine hK.out _ _ (fun _ => ⟨e0, e1⟩) ?_
  clear hK K
  try simp only [Act.put]
  have z0 := HR04.out.cell 0
  have z1 := HR04.out.cell 1
  have f0 := HR04.out.free 0
  have f1 := HR04.out.free 1
  simp only [List.getElem?_toArray, List.getElem?_cons_zero, List.getElem?_cons_succ] at z0 z1
  have HR05 := Lib.hid (show Whole ((w4.setCell ⟨E, 0, none⟩ (.int .i64 n)).setCell ⟨E, 1, none⟩ (.slice A N cap)) E 31 #[.int .i64 n, .slice A N cap] from (HR04.out.store 0 (.int .i64 n)).store 1 (.slice A N cap))
  have HS5 := Lib.hid (show Whole ((w4.setCell ⟨E, 0, none⟩ (.int .i64 n)).setCell ⟨E, 1, none⟩ (.slice A N cap)) S 31 #[.int .i64 n, .slice A N cap] from (HS4.out.apart (p := ⟨E, 0, none⟩) (by have := HES.out; show S ≠ E; omega) _).apart (p := ⟨E, 1, none⟩) (by have := HES.out; show S ≠ E; omega) _)
  have HO5 := Lib.hid (show OwnQ ((w4.setCell ⟨E, 0, none⟩ (.int .i64 n)).setCell ⟨E, 1, none⟩ (.slice A N cap)) B1 A N cap L from (HO4.out.storeT HR04.out (by decide) (by decide) _).storeT (HR04.out.store 0 _) (by decide) (by decide) _)
  have HB5 := Lib.hid (show Below w.heap.size w ((w4.setCell ⟨E, 0, none⟩ (.int .i64 n)).setCell ⟨E, 1, none⟩ (.slice A N cap)) from (HB4.out.setCell (p := ⟨E, 0, none⟩) (Nat.le_of_eq HE.out) _).setCell (p := ⟨E, 1, none⟩) (Nat.le_of_eq HE.out) _)
  have HR15 := Lib.hid (show Whole ((w4.setCell ⟨E, 0, none⟩ (.int .i64 n)).setCell ⟨E, 1, none⟩ (.slice A N cap)) (E + 1) 25 #[.string ⟨#[]⟩, .slice none 0 0, .string ⟨#[]⟩] from (HR14.out.apart (p := ⟨E, 0, none⟩) (by show E + 1 ≠ E; omega) _).apart (p := ⟨E, 1, none⟩) (by show E + 1 ≠ E; omega) _)
  have HT5 := Lib.hid (show ROwn stR ((w4.setCell ⟨E, 0, none⟩ (.int .i64 n)).setCell ⟨E, 1, none⟩ (.slice A N cap)) S (.slice AT NT cT) TT from (HT4.out.store (p := ⟨E, 0, none⟩) (HT4.out.whole HR04.out (by decide)) _).store (p := ⟨E, 1, none⟩) (HT4.out.whole HR04.out (by decide)) _)
  have g0 := HS5.out.cell 0
  have g1 := HS5.out.cell 1
  simp only [List.getElem?_toArray, List.getElem?_cons_zero, List.getElem?_cons_succ] at g0 g1
  refine wpLate_one (i := 3) (by kernel_rfl) rfl (fun K hK => ?_)
  go_simp
  refine hK.out _ _ (fun _ => ⟨g0, g1⟩) ?_
  clear hK K
  try simp only [Act.put]
  have y0 := HR15.out.cell 0
  have y1 := HR15.out.cell 1
  have y2 := HR15.out.cell 2
  have yf0 := HR15.out.free 0
  have yf1 := HR15.out.free 1
  have yf2 := HR15.out.free 2
  simp only [List.getElem?_toArray, List.getElem?_cons_zero, List.getElem?_cons_succ] at y0 y1 y2
  refine wpLate_one (i := 4) (by kernel_rfl) rfl (fun K hK => ?_)
  go_simp
  refine hK.out _ _ (fun h => absurd rfl h) ?_
  clear hK K
  try simp only [Act.put]
  refine wpLate_done (by kernel_rfl) ?_ _
  have hne : E ≠ E + 1 := by omega
  have HR06 := Lib.hid (show Whole (((((w4.setCell ⟨E, 0, none⟩ (.int .i64 n)).setCell ⟨E, 1, none⟩ (.slice A N cap)).setCell ⟨E + 1, 0, none⟩ (.string us)).setCell ⟨E + 1, 1, none⟩ (.slice AT NT cT)).setCell ⟨E + 1, 2, none⟩ (.string tx)) E 31 #[.int .i64 n, .slice A N cap] from ((HR05.out.apart (p := ⟨E + 1, 0, none⟩) hne _).apart (p := ⟨E + 1, 1, none⟩) hne _).apart (p := ⟨E + 1, 2, none⟩) hne _)
  have HR16 := Lib.hid (show Whole (((((w4.setCell ⟨E, 0, none⟩ (.int .i64 n)).setCell ⟨E, 1, none⟩ (.slice A N cap)).setCell ⟨E + 1, 0, none⟩ (.string us)).setCell ⟨E + 1, 1, none⟩ (.slice AT NT cT)).setCell ⟨E + 1, 2, none⟩ (.string tx)) (E + 1) 25 #[.string us, .slice AT NT cT, .string tx] from ((HR15.out.store 0 (.string us)).store 1 (.slice AT NT cT)).store 2 (.string tx))
  have HO6 := Lib.hid (show OwnQ (((((w4.setCell ⟨E, 0, none⟩ (.int .i64 n)).setCell ⟨E, 1, none⟩ (.slice A N cap)).setCell ⟨E + 1, 0, none⟩ (.string us)).setCell ⟨E + 1, 1, none⟩ (.slice AT NT cT)).setCell ⟨E + 1, 2, none⟩ (.string tx)) B1 A N cap L from ((HO5.out.storeT HR15.out (by decide) (by decide) _).storeT (HR15.out.store 0 _) (by decide) (by decide) _).storeT ((HR15.out.store 0 _).store 1 _) (by decide) (by decide) _)
  have hnt := HT5.out.whole HR15.out (by decide)
  have HT6 := Lib.hid (show ROwn stR (((((w4.setCell ⟨E, 0, none⟩ (.int .i64 n)).setCell ⟨E, 1, none⟩ (.slice A N cap)).setCell ⟨E + 1, 0, none⟩ (.string us)).setCell ⟨E + 1, 1, none⟩ (.slice AT NT cT)).setCell ⟨E + 1, 2, none⟩ (.string tx)) S (.slice AT NT cT) TT from ((HT5.out.store (p := ⟨E + 1, 0, none⟩) hnt _).store (p := ⟨E + 1, 1, none⟩) hnt _).store (p := ⟨E + 1, 2, none⟩) hnt _)
  have hbE : w.heap.size ≤ E + 1 := by have := HE.out; omega
  have HB6 := Lib.hid (show Below w.heap.size w (((((w4.setCell ⟨E, 0, none⟩ (.int .i64 n)).setCell ⟨E, 1, none⟩ (.slice A N cap)).setCell ⟨E + 1, 0, none⟩ (.string us)).setCell ⟨E + 1, 1, none⟩ (.slice AT NT cT)).setCell ⟨E + 1, 2, none⟩ (.string tx)) from ((HB5.out.setCell (p := ⟨E + 1, 0, none⟩) hbE _).setCell (p := ⟨E + 1, 1, none⟩) hbE _).setCell (p := ⟨E + 1, 2, none⟩) hbE _)
  have r0 := HR06.out.cell 0
  have r1 := HR06.out.cell 1
  have s0 := HR16.out.cell 0
  have s1 := HR16.out.cell 1
  have s2 := HR16.out.cell 2
  simp only [List.getElem?_toArray, List.getElem?_cons_zero, List.getElem?_cons_succ] at r0 r1 s0 s1 s2
  clear hnt hbE hne
  go_wp2
  refine bodyPost_ret (v := .tuple #[.agg #[.int .i64 n, .slice A N cap], .agg #[.string us, .slice AT NT cT, .string tx]]) (by simp [results, Try.results20, go_sem, r0, r1, s0, s1, s2]) rfl ?_
  exact ⟨n, A, N, cap, L, us, tx, AT, NT, cT, TT, rfl, HO6.out.from (by have := HWL.out; have := HE.out; omega), HS2.out, HL2.out, HT6.out.from (by have := HES.out; have := HE.out; omega), hus, htx, hTl, HTT.out, HB6.out⟩
end Go.Proofs.Ytinbdibenbplnaa
