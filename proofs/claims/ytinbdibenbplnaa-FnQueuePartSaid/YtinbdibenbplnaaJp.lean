/-
  The drawer DrawQueueTake. Condition: the code can be read.
-/
import Derived.Test.YtinbdibenbplnaaQi
namespace Go.Proofs.Ytinbdibenbplnaa
open Go.RowKit
set_option linter.unusedVariables false

/-- A drawn queue, a number and a user. -/
def DrwT (w : World) (e : Ending) (w' : World) : Prop := ∃ (n : Int) (A : Option Addr) (N cap : Nat) (L : List QI) (id : Int) (u : ByteArray), e = .returned (.tuple #[.agg #[.int .i64 n, .slice A N cap], .int .i64 id, .string u]) ∧ OwnQ w' w.heap.size A N cap L ∧ smQ (L.map keyI) ∧ L.length ≤ 8 ∧ u.size ≤ 30 ∧ Below w.heap.size w w'
/-- The drawer's state: the cursor, the result's block, the queue's block, the items. -/
def TD (w wr : World) (E S B1 b q : Nat) (n : Int) (A : Option Addr) (N cap : Nat) (L : List QI) : Prop := Rd wr b q ∧ Below w.heap.size w wr ∧ OwnQ wr B1 A N cap L ∧ Whole wr S 31 #[.int .i64 n, .slice A N cap] ∧ Whole wr E 31 #[.int .i64 0, .slice none 0 0] ∧ w.heap.size = E ∧ b = E + 1 ∧ E + 1 < S ∧ E + 1 < B1
section
variable {w wr w' : World} {E S B1 b q q' N cap : Nat} {n : Int} {A : Option Addr} {L : List QI}
theorem TD.read (h : TD w wr E S B1 b q n A N cap L) (hr : Rd w' b q') (hg : wr.grownBy w' (some b)) : TD w w' E S B1 b q' n A N cap L := by
  obtain ⟨h1, h2, h3, h4, h5, h6, h7, h8, h9⟩ := h
  exact ⟨hr, below_gr h2 hg h2.size (by omega), h3.grown hg (by omega), h4.grown hg (fun e => by have := Option.some.inj e; omega), h5.grown hg (fun e => by have := Option.some.inj e; omega), h6, h7, h8, h9⟩
theorem TD.later (h : TD w wr E S B1 b q n A N cap L) (hb : Below wr.heap.size wr w') : TD w w' E S B1 b q n A N cap L := by
  obtain ⟨h1, h2, h3, h4, h5, h6⟩ := h
  exact ⟨h1.below hb h1.lt, h2.trans (hb.mono h2.size), h3.kept hb, h4.below hb h4.lt, h5.below hb h5.lt, h6⟩
theorem TD.drew (h : TD w wr E S B1 b q n A N cap L) : TD w wr.drew E S B1 b q n A N cap L := h.later (below_drew1 wr)
/-- The queue is handed out. -/
theorem TD.done (h : TD w wr E S B1 b q n A N cap L) : Whole ((wr.setCell ⟨E, 0, none⟩ (.int .i64 n)).setCell ⟨E, 1, none⟩ (.slice A N cap)) E 31 #[.int .i64 n, .slice A N cap] ∧ OwnQ ((wr.setCell ⟨E, 0, none⟩ (.int .i64 n)).setCell ⟨E, 1, none⟩ (.slice A N cap)) w.heap.size A N cap L ∧ Below w.heap.size w ((wr.setCell ⟨E, 0, none⟩ (.int .i64 n)).setCell ⟨E, 1, none⟩ (.slice A N cap)) := by
  obtain ⟨h1, h2, h3, h4, h5, h6, h7, h8, h9⟩ := h
  exact ⟨(h5.store 0 _).store 1 _, ((h3.storeT h5 (by decide) (by decide) _).storeT (h5.store 0 _) (by decide) (by decide) _).from (by omega), (h2.setCell (p := ⟨E, 0, none⟩) (Nat.le_of_eq h6) _).setCell (p := ⟨E, 1, none⟩) (Nat.le_of_eq h6) _⟩
end
theorem item_cells {w : World} {g N cap B : Nat} {L : List QI} (h : OwnQ w B (some ⟨g, 0, none⟩) N cap L) : ∀ (j : Nat) (x : QI), L[j]? = some x → w.cell? ⟨g, j * 4, none⟩ = some (.int .i64 x.id) ∧ w.cell? ⟨g, j * 4 + 1, none⟩ = some (.string x.us) ∧ w.cell? ⟨g, j * 4 + 2, none⟩ = some (.string x.tx) ∧ w.cell? ⟨g, j * 4 + 3, none⟩ = some (.slice x.A x.N x.cap) := fun j x hx => by
  obtain ⟨b, o, hA, _, h0, h1, h2, h3⟩ := qi_at h.1.at hx
  cases hA
  rw [Nat.zero_add] at h0 h1 h2 h3
  exact ⟨h0, h1, h2, h3⟩
theorem name_cells {w : World} {g N cap B : Nat} {P : List ByteArray} (h : ROwn stR w B (.slice (some ⟨g, 0, none⟩) N cap) P) : ∀ (j : Nat) (x : ByteArray), P[j]? = some x → w.cell? ⟨g, j, none⟩ = some (.string x) := fun j x hx => by
  obtain ⟨b, o, hA, _, h0⟩ := str_at h.at hx
  cases hA
  rw [Nat.zero_add] at h0
  exact h0
theorem OwnS.storeI {w : World} {B b k : Nat} {L : List QI} {cs : Array Value} (h : OwnS w B L) (hW : Whole w b 38 cs) (u : Value) : OwnS (w.setCell ⟨b, k, none⟩ u) B L := h.storeT hW (by decide) u
theorem TD.setI {w wr : World} {E S B1 b q N cap gb F : Nat} {n : Int} {L : List QI} {cs : Array Value} (h : TD w wr E S B1 b q n (some ⟨gb, 0, none⟩) N cap L) (hF : Whole wr F 38 cs) (hg : F ≠ gb ∧ b < F ∧ S < F ∧ w.heap.size ≤ F) (j : Nat) (u : Value) : TD w (wr.setCell ⟨F, j, none⟩ u) E S B1 b q n (some ⟨gb, 0, none⟩) N cap L := by
  obtain ⟨h1, h2, h3, h4, h5, h6, h7, h8, h9⟩ := h
  have hgr : wr.grownBy (wr.setCell ⟨F, j, none⟩ u) (some F) := gr_store (gr_refl wr _) (.inl rfl) u
  refine ⟨rd_far h1 hgr (fun z e => by cases e; exact hg.2.1), h2.setCell (p := ⟨F, j, none⟩) hg.2.2.2 u, ⟨h3.1.store (p := ⟨F, j, none⟩) (fun e => hg.1 (Option.some.inj e).symm) u, h3.2.1.storeI hF u, h3.2.2⟩, h4.apart (p := ⟨F, j, none⟩) (by have := hg.2.2.1; show S ≠ F; omega) u, h5.apart (p := ⟨F, j, none⟩) (by have := hg.2.2.1; show E ≠ F; omega) u, h6, h7, h8, h9⟩
set_option maxRecDepth 20000 in
set_option maxHeartbeats 4000000 in
theorem draw_qtake (A0 : Option Addr) (len cap0 : Nat) (w : World) (h : Coded w A0 len cap0) : Calls Try.prog 30 #[.slice A0 len cap0] w (DrwT w) := by
  obtain ⟨E, hE⟩ : ∃ E, w.heap.size = E := ⟨_, rfl⟩
  obtain ⟨wz, hwz⟩ : ∃ wz, (w.alloc (.cells #[.int .i64 0, .slice none 0 0] 31)) = wz := ⟨_, rfl⟩
  have hbz : Below w.heap.size w wz := by rw [← hwz]; exact below_new _ _
  have hsz : wz.heap.size = E + 1 := by rw [← hwz, ← hE]; simp
  have HR0 := Lib.hid (show Whole wz E 31 #[.int .i64 0, .slice none 0 0] by rw [← hwz, ← hE]; exact Whole.made _ _ _)
  have HC := Lib.hid (h.below hbz (Nat.le_refl _))
  have HBZ := Lib.hid hbz
  have HZ := Lib.hid hwz
  have HE := Lib.hid hE
  have HSZ := Lib.hid hsz
  clear h hwz hbz hE hsz
  go_enter Try.func30, Try.ntmps30
  go_wp2_with fail
  rw [HE.out, HZ.out]
  refine (open_any A0 len cap0 wz HC.out.1 HC.out.2.1 HC.out.2.2).mono ?_
  rintro e w1 ⟨rfl, hr, hb, hz⟩
  rw [HSZ.out] at hr hb hz ⊢
  have HD1 := Lib.hid hr
  have HB1 := Lib.hid (HBZ.out.trans (hb.mono (by have := HE.out; omega)))
  have hz1 := hz
  have HR01 := Lib.hid (HR0.out.below hb (by omega))
  clear hr hb hz
  have HWL := Lib.hid (show E + 1 < w1.heap.size from hz1)
  go_wp2_with fail
  refine (queue_draw (E + 1) 0 w1 HD1.out (by omega)).mono ?_
  rintro e w2 ⟨n, A, N, cap, L, q, rfl, hq, hd, ho, hs, hl⟩
  obtain ⟨B1, hB1⟩ : ∃ B1, w1.heap.size = B1 := ⟨_, rfl⟩
  rw [hB1] at ho HWL
  have HS2 := Lib.hid hs
  have HL2 := Lib.hid hl
  have HB2 := Lib.hid (below_gr HB1.out hd.2 HB1.out.size (by have := HE.out; omega))
  have HR02 := Lib.hid (HR01.out.grown hd.2 (fun e => by have h1 := Option.some.inj e; omega))
  obtain ⟨S, hS⟩ : ∃ S, w2.heap.size = S := ⟨_, rfl⟩
  obtain ⟨w3, hw3⟩ : ∃ wa, w2.alloc (.cells #[.int .i64 n, .slice A N cap] 31) = wa := ⟨_, rfl⟩
  have hb3 : Below w2.heap.size w2 w3 := by rw [← hw3]; exact below_new _ _
  have HS3 := Lib.hid (show Whole w3 S 31 #[.int .i64 n, .slice A N cap] by rw [← hw3, ← hS]; exact Whole.made _ _ _)
  have HD3 := Lib.hid (hd.1.below hb3 hd.1.lt)
  have HO3 := Lib.hid (ho.kept hb3)
  have HB3 := Lib.hid (HB2.out.trans (hb3.mono HB2.out.size))
  have HR03 := Lib.hid (HR02.out.below hb3 HR02.out.lt)
  have HES : Hid (E + 1 < S) := Lib.hid (by rw [← hS]; exact hd.1.lt)
  have HWW := Lib.hid hw3
  have HSS := Lib.hid hS
  clear ho hs hl hd hw3 hS hb3 hB1
  have HTa : Hid (TD w w3 E S B1 (E + 1) q n A N cap L) := Lib.hid ⟨HD3.out, HB3.out, HO3.out, HS3.out, HR03.out, HE.out, rfl, HES.out, HWL.out⟩
  have HNL := Lib.hid HO3.out.1.len.1
  have hN8 : N ≤ 8 := by have h1 := HNL.out; have h2 := HL2.out; omega
  clear HD3 HB3 HO3 HS3 HR03 HES HWL HB2 HR02 HR01 HR0 HD1 HB1
  obtain ⟨b, hbE⟩ : ∃ b, E + 1 = b := ⟨_, rfl⟩
  have HBE := Lib.hid hbE
  rw [hbE] at HTa
  have c0 := HTa.out.2.2.2.1.cell 0
  have c1 := HTa.out.2.2.2.1.cell 1
  simp only [List.getElem?_toArray, List.getElem?_cons_zero, List.getElem?_cons_succ] at c0 c1
  by_cases hz : 0 < N
  · have hz' : (0 : Int) < (N : Int) := by omega
    go_wp2_with fail
    rw [HWW.out, HSS.out]
    try rw [HBE.out]
    refine (pick_any b q 6 w3 HTa.out.1 (by omega) (by omega) (by omega)).mono ?_
    rintro e w4 ⟨y, hy, rfl, hr, hg⟩
    have HTb := Lib.hid (HTa.out.read hr hg)
    clear hr hg c0 c1
    by_cases h0 : y = 0
    · subst h0
      obtain ⟨qq, hqq⟩ : ∃ x, q + 1 = x := ⟨_, rfl⟩
      have hqb : qq ≤ 300 := by omega
      rw [hqq] at HTb
      clear hqq
      go_upto_region 8 with fail
      have HT := Lib.hid HTb.out.drew
      refine wp_region_late (fun w' => w'.cell? ⟨S, 0, none⟩ = some (.int .i64 n) ∧ w'.cell? ⟨S, 1, none⟩ = some (.slice A N cap)) 7 (by kernel_rfl) ?_
      revert HT
      generalize w4.drew = wd
      intro HT
      have d0 := HT.out.2.2.2.1.cell 0
      have d1 := HT.out.2.2.2.1.cell 1
      simp only [List.getElem?_toArray, List.getElem?_cons_zero, List.getElem?_cons_succ] at d0 d1
      refine wpLate_take (i := 0) (v := ?v0a) rfl (by kernel_rfl) (by kernel_rfl) (by kernel_rfl) (by kernel_rfl) (by kernel_rfl) (fun _ _ _ h => h) ⟨d0, d1⟩ (by rfl) ?hy0a ?r0a
      case hy0a =>
        rintro wz ⟨z0, z1⟩
        go_simp
        try with_reducible rfl
      try simp only [Act.put]
      refine wpLate_take (i := 1) (v := ?v1a) rfl (by kernel_rfl) (by kernel_rfl) (by kernel_rfl) (by kernel_rfl) (by kernel_rfl) (fun _ _ _ h => h) ⟨d0, d1⟩ (by rfl) ?hy1a ?r1a
      case hy1a =>
        rintro wz ⟨z0, z1⟩
        go_simp
        try with_reducible rfl
      try simp only [Act.put]
      refine wpLate_take (i := 3) (v := ?v3a) rfl (by kernel_rfl) (by kernel_rfl) (by kernel_rfl) (by kernel_rfl) (by kernel_rfl) (fun _ _ _ h => h) ⟨d0, d1⟩ (by rfl) ?hy3a ?r3a
      case hy3a =>
        rintro wz ⟨z0, z1⟩
        go_simp
        try with_reducible rfl
      try simp only [Act.put]
      refine wpLate_one (i := 2) (by kernel_rfl) rfl (fun K hK => ?_)
      go_simp
      refine (pick_any b qq 8 wd HT.out.1 (by omega) (by omega) (by omega)).mono ?_
      rintro e wp ⟨pv, hpv, rfl, hr, hg⟩
      have HTp := Lib.hid (HT.out.read hr hg)
      clear hr hg
      have p0 := HTp.out.2.2.2.1.cell 0
      have p1 := HTp.out.2.2.2.1.cell 1
      simp only [List.getElem?_toArray, List.getElem?_cons_zero, List.getElem?_cons_succ] at p0 p1
      refine hK.out _ _ (fun _ => ⟨p0, p1⟩) ?_
      clear hK K
      try simp only [Act.put]
      refine wpLate_one (i := 4) (by kernel_rfl) rfl (fun K hK => ?_)
      go_simp
      refine (name_text b (qq + 1) wp HTp.out.1 (by omega)).mono ?_
      rintro e wn ⟨u, hu, rfl, hr, hg⟩
      have HTn := Lib.hid (HTp.out.read hr hg)
      clear hr hg
      have n0 := HTn.out.2.2.2.1.cell 0
      have n1 := HTn.out.2.2.2.1.cell 1
      simp only [List.getElem?_toArray, List.getElem?_cons_zero, List.getElem?_cons_succ] at n0 n1
      refine hK.out _ _ (fun _ => ⟨n0, n1⟩) ?_
      clear hK K
      try simp only [Act.put]
      have HSS2 := Lib.hid ((HTn.out.2.2.2.1.apart (p := ⟨E, 0, none⟩) (by have h5 := HTn.out.2.2.2.2.2; show S ≠ E; omega) (.int .i64 n)).apart (p := ⟨E, 1, none⟩) (by have h5 := HTn.out.2.2.2.2.2; show S ≠ E; omega) (.slice A N cap))
      have k0 := HSS2.out.cell 0
      have k1 := HSS2.out.cell 1
      simp only [List.getElem?_toArray, List.getElem?_cons_zero, List.getElem?_cons_succ] at k0 k1
      have z0 := HTn.out.2.2.2.2.1.cell 0
      have z1 := HTn.out.2.2.2.2.1.cell 1
      have f0 := HTn.out.2.2.2.2.1.free 0
      have f1 := HTn.out.2.2.2.2.1.free 1
      simp only [List.getElem?_toArray, List.getElem?_cons_zero, List.getElem?_cons_succ] at z0 z1
      refine wpLate_one (i := 5) (by kernel_rfl) rfl (fun K hK => ?_)
      go_simp
      refine hK.out _ _ (fun _ => ⟨k0, k1⟩) ?_
      clear hK K
      try simp only [Act.put]
      refine wpLate_one (i := 6) (by kernel_rfl) rfl (fun K hK => ?_)
      go_simp
      refine hK.out _ _ (fun _ => ⟨k0, k1⟩) ?_
      clear hK K
      try simp only [Act.put]
      refine wpLate_one (i := 7) (by kernel_rfl) rfl (fun K hK => ?_)
      go_simp
      refine hK.out _ _ (fun h => absurd rfl h) ?_
      clear hK K
      try simp only [Act.put]
      refine wpLate_done (by kernel_rfl) ?_ _
      have hd := HTn.out.done
      have r0 := hd.1.cell 0
      have r1 := hd.1.cell 1
      simp only [List.getElem?_toArray, List.getElem?_cons_zero, List.getElem?_cons_succ] at r0 r1
      go_wp2
      refine bodyPost_ret (v := .tuple #[.agg #[.int .i64 n, .slice A N cap], .int .i64 (pv : Int), .string u]) (by simp [results, Try.results30, go_sem, r0, r1]) rfl ?_
      exact ⟨n, A, N, cap, L, (pv : Int), u, rfl, hd.2.1, HS2.out, HL2.out, hu, hd.2.2⟩
    · have h0' : (0 : Int) < (y : Int) := by omega
      obtain ⟨gb, rfl⟩ := own_some HTb.out.2.2.1.1 (fun e => by have h1 := HNL.out; rw [e] at h1; simp at h1; omega)
      go_upto_region 4 with fail
      go_cut [7] (fun s7 wx => ∃ (F y2 : Nat) (x2 : QI), s7 = .pointer (some ⟨F, 0, none⟩) ∧ Hid (L[y2]? = some x2) ∧ Hid (TD w wx E S B1 b (q + 1 + 1) n (some ⟨gb, 0, none⟩) N cap L) ∧ Hid (Whole wx F 38 #[.int .i64 x2.id, .string x2.us, .string x2.tx, .slice x2.A x2.N x2.cap]) ∧ Hid (F ≠ gb ∧ b < F ∧ S < F ∧ w.heap.size ≤ F))
      case first =>
        have HT := Lib.hid HTb.out.drew
        refine wp_region_late (fun w' => w'.cell? ⟨S, 1, none⟩ = some (.slice (some ⟨gb, 0, none⟩) N cap) ∧ ∀ (j : Nat) (x : QI), L[j]? = some x → w'.cell? ⟨gb, j * 4, none⟩ = some (.int .i64 x.id) ∧ w'.cell? ⟨gb, j * 4 + 1, none⟩ = some (.string x.us) ∧ w'.cell? ⟨gb, j * 4 + 2, none⟩ = some (.string x.tx) ∧ w'.cell? ⟨gb, j * 4 + 3, none⟩ = some (.slice x.A x.N x.cap)) 10 (by kernel_rfl) ?_
        revert HT
        generalize w4.drew = wd
        intro HT
        have d1 := HT.out.2.2.2.1.cell 1
        simp only [List.getElem?_toArray, List.getElem?_cons_succ] at d1
        have dI := Lib.hid (item_cells HT.out.2.2.1)
        refine wpLate_take (i := 0) (v := ?v0f) rfl (by kernel_rfl) (by kernel_rfl) (by kernel_rfl) (by kernel_rfl) (by kernel_rfl) (fun _ _ _ h => h) ⟨d1, dI.out⟩ (by rfl) ?hy0f ?r0f
        case hy0f =>
          rintro wz ⟨z0, z1⟩
          go_simp
          try with_reducible rfl
        try simp only [Act.put]
        refine wpLate_take (i := 1) (v := ?v1f) rfl (by kernel_rfl) (by kernel_rfl) (by kernel_rfl) (by kernel_rfl) (by kernel_rfl) (fun _ _ _ h => h) ⟨d1, dI.out⟩ (by rfl) ?hy1f ?r1f
        case hy1f =>
          rintro wz ⟨z0, z1⟩
          go_simp
          try with_reducible rfl
        try simp only [Act.put]
        refine wpLate_take (i := 2) (v := ?v2f) rfl (by kernel_rfl) (by kernel_rfl) (by kernel_rfl) (by kernel_rfl) (by kernel_rfl) (fun _ _ _ h => h) ⟨d1, dI.out⟩ (by rfl) ?hy2f ?r2f
        case hy2f =>
          rintro wz ⟨z0, z1⟩
          go_simp
          try with_reducible rfl
        try simp only [Act.put]
        refine wpLate_take (i := 3) (v := ?v3f) rfl (by kernel_rfl) (by kernel_rfl) (by kernel_rfl) (by kernel_rfl) (by kernel_rfl) (fun _ _ _ h => h) ⟨d1, dI.out⟩ (by rfl) ?hy3f ?r3f
        case hy3f =>
          rintro wz ⟨z0, z1⟩
          go_simp
          try with_reducible rfl
        try simp only [Act.put]
        refine wpLate_take (i := 4) (v := ?v4f) rfl (by kernel_rfl) (by kernel_rfl) (by kernel_rfl) (by kernel_rfl) (by kernel_rfl) (fun _ _ _ h => h) ⟨d1, dI.out⟩ (by rfl) ?hy4f ?r4f
        case hy4f =>
          rintro wz ⟨z0, z1⟩
          go_simp
          try with_reducible rfl
        try simp only [Act.put]
        refine wpLate_take (i := 5) (v := ?v5f) rfl (by kernel_rfl) (by kernel_rfl) (by kernel_rfl) (by kernel_rfl) (by kernel_rfl) (fun _ _ _ h => h) ⟨d1, dI.out⟩ (by rfl) ?hy5f ?r5f
        case hy5f =>
          rintro wz ⟨z0, z1⟩
          go_simp
          try with_reducible rfl
        try simp only [Act.put]
        refine wpLate_two (i := 6) (k := 9) (by kernel_rfl) rfl rfl (fun K hK => ?xg) (fun K hK => ?yg)
        case xg =>
          go_simp
          refine (pick_any b (q + 1) N wd HT.out.1 (by omega) (by omega) (by omega)).mono ?_
          rintro e w5 ⟨y2, hy2, rfl, hr, hg⟩
          have HTp := Lib.hid (HT.out.read hr hg)
          obtain ⟨x2, hx2⟩ : ∃ x, L[y2]? = some x := ⟨_, List.getElem?_eq_getElem (by have := HNL.out; omega)⟩
          have HX2 := Lib.hid hx2
          have y0 : (0 : Int) ≤ (y2 : Int) := by omega
          have y1 : (y2 : Int) < (N : Int) := by omega
          have p1 := HTp.out.2.2.2.1.cell 1
          simp only [List.getElem?_toArray, List.getElem?_cons_succ] at p1
          have pI := Lib.hid (item_cells HTp.out.2.2.1)
          clear hr hg hx2
          refine hK.out _ _ (fun _ => ⟨p1, pI.out⟩) ?_
          clear hK K
          try simp only [Act.put]
          refine wpLate_take (i := 7) (v := ?v7h) rfl (by kernel_rfl) (by kernel_rfl) (by kernel_rfl) (by kernel_rfl) (by kernel_rfl) (fun _ _ _ h => h) ⟨p1, pI.out⟩ (by rfl) ?hy7h ?r7h
          case hy7h =>
            rintro wz ⟨z0, z1⟩
            go_simp
            try with_reducible rfl
          try simp only [Act.put]
          refine wpLate_take (i := 8) (v := ?v8h) rfl (by kernel_rfl) (by kernel_rfl) (by kernel_rfl) (by kernel_rfl) (by kernel_rfl) (fun _ _ _ h => h) ⟨p1, pI.out⟩ (by rfl) ?hy8h ?r8h
          case hy8h =>
            rintro wz ⟨z0, z1⟩
            obtain ⟨v0, v1, v2, v3⟩ := z1 y2 x2 HX2.out
            go_simp
            try with_reducible rfl
          try simp only [Act.put]
          obtain ⟨F, hF⟩ : ∃ F, w5.heap.size = F := ⟨_, rfl⟩
          obtain ⟨wc, hwc⟩ : ∃ wc, w5.alloc (.cells #[.int .i64 0, .string ⟨#[]⟩, .string ⟨#[]⟩, .slice none 0 0] 38) = wc := ⟨_, rfl⟩
          have hbc : Below w5.heap.size w5 wc := by rw [← hwc]; exact below_new w5 _
          have HTc := Lib.hid (HTp.out.later hbc)
          have HF := Lib.hid (show Whole wc F 38 #[.int .i64 0, .string ⟨#[]⟩, .string ⟨#[]⟩, .slice none 0 0] by rw [← hwc, ← hF]; exact Whole.made _ _ _)
          have HFG : Hid (F ≠ gb ∧ b < F ∧ S < F ∧ w.heap.size ≤ F) := Lib.hid (by rw [← hF]; have h1 := (World.ownsRow.lt HTp.out.2.2.1.1 gb rfl).2; have h2 := HTp.out.1.lt; have h3 := HTp.out.2.2.2.1.lt; have h4 := HTp.out.2.1.size; omega)
          have e1 := HTc.out.2.2.2.1.cell 1
          simp only [List.getElem?_toArray, List.getElem?_cons_succ] at e1
          have eI := Lib.hid (item_cells HTc.out.2.2.1)
          clear hbc
          refine wpLate_one (i := 9) (by kernel_rfl) rfl (fun K hK => ?_)
          go_simp
          refine hK.out _ _ (fun _ => ⟨e1, eI.out⟩) ?_
          clear hK K
          try simp only [Act.put]
          clear hwc hF
          have g0 := HF.out.cell 0
          have g1 := HF.out.cell 1
          have g2 := HF.out.cell 2
          have g3 := HF.out.cell 3
          have j0 := HF.out.free 0
          have j1 := HF.out.free 1
          have j2 := HF.out.free 2
          have j3 := HF.out.free 3
          simp only [List.getElem?_toArray, List.getElem?_cons_zero, List.getElem?_cons_succ] at g0 g1 g2 g3
          have HTS : Hid (TD w ((((wc.setCell ⟨F, 0, none⟩ (.int .i64 x2.id)).setCell ⟨F, 1, none⟩ (.string x2.us)).setCell ⟨F, 2, none⟩ (.string x2.tx)).setCell ⟨F, 3, none⟩ (.slice x2.A x2.N x2.cap)) E S B1 b (q + 1 + 1) n (some ⟨gb, 0, none⟩) N cap L) := Lib.hid ((((HTc.out.setI HF.out HFG.out 0 _).setI (HF.out.store 0 _) HFG.out 1 _).setI ((HF.out.store 0 _).store 1 _) HFG.out 2 _).setI (((HF.out.store 0 _).store 1 _).store 2 _) HFG.out 3 _)
          have HFS : Hid (Whole ((((wc.setCell ⟨F, 0, none⟩ (.int .i64 x2.id)).setCell ⟨F, 1, none⟩ (.string x2.us)).setCell ⟨F, 2, none⟩ (.string x2.tx)).setCell ⟨F, 3, none⟩ (.slice x2.A x2.N x2.cap)) F 38 #[.int .i64 x2.id, .string x2.us, .string x2.tx, .slice x2.A x2.N x2.cap]) := Lib.hid ((((HF.out.store 0 _).store 1 _).store 2 _).store 3 _)
          refine wpLate_one (i := 10) (by kernel_rfl) rfl (fun K hK => ?_)
          go_simp
          refine hK.out _ _ (fun h => absurd rfl h) ?_
          clear hK K
          try simp only [Act.put]
          refine wpLate_done (by kernel_rfl) ?_ _
          go_wp2_with fail
          go_meet
          case rel => exact ⟨F, y2, x2, rfl, HX2, HTS, HFS, HFG⟩
        case yg =>
          obtain ⟨F, hF⟩ : ∃ F, wd.heap.size = F := ⟨_, rfl⟩
          obtain ⟨wc, hwc⟩ : ∃ wc, wd.alloc (.cells #[.int .i64 0, .string ⟨#[]⟩, .string ⟨#[]⟩, .slice none 0 0] 38) = wc := ⟨_, rfl⟩
          have hbc : Below wd.heap.size wd wc := by rw [← hwc]; exact below_new wd _
          have HTc := Lib.hid (HT.out.later hbc)
          have HF := Lib.hid (show Whole wc F 38 #[.int .i64 0, .string ⟨#[]⟩, .string ⟨#[]⟩, .slice none 0 0] by rw [← hwc, ← hF]; exact Whole.made _ _ _)
          have HFG : Hid (F ≠ gb ∧ b < F ∧ S < F ∧ w.heap.size ≤ F) := Lib.hid (by rw [← hF]; have h1 := (World.ownsRow.lt HT.out.2.2.1.1 gb rfl).2; have h2 := HT.out.1.lt; have h3 := HT.out.2.2.2.1.lt; have h4 := HT.out.2.1.size; omega)
          have e1 := HTc.out.2.2.2.1.cell 1
          simp only [List.getElem?_toArray, List.getElem?_cons_succ] at e1
          have eI := Lib.hid (item_cells HTc.out.2.2.1)
          clear hbc
          go_simp
          refine hK.out _ _ (fun _ => ⟨e1, eI.out⟩) ?_
          clear hK K
          try simp only [Act.put]
          clear hwc hF
          refine wpLate_one (i := 6) (by kernel_rfl) rfl (fun K hK => ?_)
          go_simp
          refine (pick_any b (q + 1) N wc HTc.out.1 (by omega) (by omega) (by omega)).mono ?_
          rintro e w5 ⟨y2, hy2, rfl, hr, hg⟩
          have HTp := Lib.hid (HTc.out.read hr hg)
          obtain ⟨x2, hx2⟩ : ∃ x, L[y2]? = some x := ⟨_, List.getElem?_eq_getElem (by have := HNL.out; omega)⟩
          have HX2 := Lib.hid hx2
          have y0 : (0 : Int) ≤ (y2 : Int) := by omega
          have y1 : (y2 : Int) < (N : Int) := by omega
          have HFp := Lib.hid (HF.out.grown hg (fun e => by have h1 := Option.some.inj e; have h2 := HFG.out; omega))
          have p1 := HTp.out.2.2.2.1.cell 1
          simp only [List.getElem?_toArray, List.getElem?_cons_succ] at p1
          have pI := Lib.hid (item_cells HTp.out.2.2.1)
          clear hr hg hx2
          refine hK.out _ _ (fun _ => ⟨p1, pI.out⟩) ?_
          clear hK K
          try simp only [Act.put]
          refine wpLate_take (i := 7) (v := ?v7i) rfl (by kernel_rfl) (by kernel_rfl) (by kernel_rfl) (by kernel_rfl) (by kernel_rfl) (fun _ _ _ h => h) ⟨p1, pI.out⟩ (by rfl) ?hy7i ?r7i
          case hy7i =>
            rintro wz ⟨z0, z1⟩
            go_simp
            try with_reducible rfl
          try simp only [Act.put]
          refine wpLate_take (i := 8) (v := ?v8i) rfl (by kernel_rfl) (by kernel_rfl) (by kernel_rfl) (by kernel_rfl) (by kernel_rfl) (fun _ _ _ h => h) ⟨p1, pI.out⟩ (by rfl) ?hy8i ?r8i
          case hy8i =>
            rintro wz ⟨z0, z1⟩
            obtain ⟨v0, v1, v2, v3⟩ := z1 y2 x2 HX2.out
            go_simp
            try with_reducible rfl
          try simp only [Act.put]
          have g0 := HFp.out.cell 0
          have g1 := HFp.out.cell 1
          have g2 := HFp.out.cell 2
          have g3 := HFp.out.cell 3
          have j0 := HFp.out.free 0
          have j1 := HFp.out.free 1
          have j2 := HFp.out.free 2
          have j3 := HFp.out.free 3
          simp only [List.getElem?_toArray, List.getElem?_cons_zero, List.getElem?_cons_succ] at g0 g1 g2 g3
          have HTS : Hid (TD w ((((w5.setCell ⟨F, 0, none⟩ (.int .i64 x2.id)).setCell ⟨F, 1, none⟩ (.string x2.us)).setCell ⟨F, 2, none⟩ (.string x2.tx)).setCell ⟨F, 3, none⟩ (.slice x2.A x2.N x2.cap)) E S B1 b (q + 1 + 1) n (some ⟨gb, 0, none⟩) N cap L) := Lib.hid ((((HTp.out.setI HFp.out HFG.out 0 _).setI (HFp.out.store 0 _) HFG.out 1 _).setI ((HFp.out.store 0 _).store 1 _) HFG.out 2 _).setI (((HFp.out.store 0 _).store 1 _).store 2 _) HFG.out 3 _)
          have HFS : Hid (Whole ((((w5.setCell ⟨F, 0, none⟩ (.int .i64 x2.id)).setCell ⟨F, 1, none⟩ (.string x2.us)).setCell ⟨F, 2, none⟩ (.string x2.tx)).setCell ⟨F, 3, none⟩ (.slice x2.A x2.N x2.cap)) F 38 #[.int .i64 x2.id, .string x2.us, .string x2.tx, .slice x2.A x2.N x2.cap]) := Lib.hid ((((HFp.out.store 0 _).store 1 _).store 2 _).store 3 _)
          refine wpLate_one (i := 10) (by kernel_rfl) rfl (fun K hK => ?_)
          go_simp
          refine hK.out _ _ (fun h => absurd rfl h) ?_
          clear hK K
          try simp only [Act.put]
          refine wpLate_done (by kernel_rfl) ?_ _
          go_wp2_with fail
          go_meet
          case rel => exact ⟨F, y2, x2, rfl, HX2, HTS, HFS, HFG⟩
      case rest =>
        obtain ⟨F, y2, x2, rfl, HX2, HTd, HFd, HFG⟩ := hcut
        have HSM := Lib.hid (HS2.out (keyI x2) (List.mem_map.2 ⟨x2, List.mem_of_getElem? HX2.out, rfl⟩))
        have HOL := Lib.hid (HTd.out.2.2.1.2.1 x2 (List.mem_of_getElem? HX2.out))
        obtain ⟨id2, us2, tx2, A2, N2, c2, T2⟩ := x2
        unfold smK keyI at HSM
        simp only at HSM HOL HFd
        have hN6 : N2 ≤ 6 := by have h1 := HOL.out.len.1; have h2 := HSM.out.2.2.1; omega
        have h3 := HFd.out.cell 3
        simp only [List.getElem?_toArray, List.getElem?_cons_zero, List.getElem?_cons_succ] at h3
        by_cases hy9 : 0 < N2
        · have hy9' : (0 : Int) < (N2 : Int) := by omega
          go_wp2_with fail
          refine (pick_any b (q + 1 + 1) 4 _ HTd.out.1 (by omega) (by omega) (by omega)).mono ?_
          rintro e w6 ⟨y3, hy3, rfl, hr, hg⟩
          have HTe := Lib.hid (HTd.out.read hr hg)
          have HFe := Lib.hid (HFd.out.grown hg (fun e => by have h1 := Option.some.inj e; have h2 := HFG.out; omega))
          have HOL2 := Lib.hid (HOL.out.grown hg (by have h2 := HTd.out.2.2.2.2.2; omega))
          clear hr hg h3
          by_cases h9 : y3 = 0
          · subst h9
            obtain ⟨qq, hqq⟩ : ∃ x, q + 1 + 1 + 1 = x := ⟨_, rfl⟩
            have hqb : qq ≤ 300 := by omega
            rw [hqq] at HTe
            clear hqq
            go_upto_region 7 with fail
            have HT := Lib.hid HTe.out.drew
            have HFw := Lib.hid (HFe.out.drew)
            refine wp_region_late (fun w' => w'.cell? ⟨S, 0, none⟩ = some (.int .i64 n) ∧ w'.cell? ⟨S, 1, none⟩ = some (.slice (some ⟨gb, 0, none⟩) N cap) ∧ w'.cell? ⟨F, 0, none⟩ = some (.int .i64 id2)) 7 (by kernel_rfl) ?_
            revert HT HFw
            generalize w6.drew = wd
            intro HT HFw
            have d0 := HT.out.2.2.2.1.cell 0
            have d1 := HT.out.2.2.2.1.cell 1
            simp only [List.getElem?_toArray, List.getElem?_cons_zero, List.getElem?_cons_succ] at d0 d1
            have l0 := HFw.out.cell 0
            simp only [List.getElem?_toArray, List.getElem?_cons_zero] at l0
            refine wpLate_take (i := 0) (v := ?v0m) rfl (by kernel_rfl) (by kernel_rfl) (by kernel_rfl) (by kernel_rfl) (by kernel_rfl) (fun _ _ _ h => h) ⟨d0, d1, l0⟩ (by rfl) ?hy0m ?r0m
            case hy0m =>
              rintro wz ⟨z0, z1, z2⟩
              go_simp
              try with_reducible rfl
            try simp only [Act.put]
            refine wpLate_take (i := 1) (v := ?v1m) rfl (by kernel_rfl) (by kernel_rfl) (by kernel_rfl) (by kernel_rfl) (by kernel_rfl) (fun _ _ _ h => h) ⟨d0, d1, l0⟩ (by rfl) ?hy1m ?r1m
            case hy1m =>
              rintro wz ⟨z0, z1, z2⟩
              go_simp
              try with_reducible rfl
            try simp only [Act.put]
            refine wpLate_take (i := 2) (v := ?v2m) rfl (by kernel_rfl) (by kernel_rfl) (by kernel_rfl) (by kernel_rfl) (by kernel_rfl) (fun _ _ _ h => h) ⟨d0, d1, l0⟩ (by rfl) ?hy2m ?r2m
            case hy2m =>
              rintro wz ⟨z0, z1, z2⟩
              go_simp
              try with_reducible rfl
            try simp only [Act.put]
            refine wpLate_take (i := 3) (v := ?v3m) rfl (by kernel_rfl) (by kernel_rfl) (by kernel_rfl) (by kernel_rfl) (by kernel_rfl) (fun _ _ _ h => h) ⟨d0, d1, l0⟩ (by rfl) ?hy3m ?r3m
            case hy3m =>
              rintro wz ⟨z0, z1, z2⟩
              go_simp
              try with_reducible rfl
            try simp only [Act.put]
            refine wpLate_one (i := 4) (by kernel_rfl) rfl (fun K hK => ?_)
            go_simp
            refine (name_text b qq wd HT.out.1 (by omega)).mono ?_
            rintro e wn ⟨u, hu, rfl, hr, hg⟩
            have HTn := Lib.hid (HT.out.read hr hg)
            have HFn := Lib.hid (HFw.out.grown hg (fun e => by have h1 := Option.some.inj e; have h2 := HFG.out; omega))
            clear hr hg
            have n0 := HTn.out.2.2.2.1.cell 0
            have n1 := HTn.out.2.2.2.1.cell 1
            simp only [List.getElem?_toArray, List.getElem?_cons_zero, List.getElem?_cons_succ] at n0 n1
            have m0 := HFn.out.cell 0
            simp only [List.getElem?_toArray, List.getElem?_cons_zero] at m0
            refine hK.out _ _ (fun _ => ⟨n0, n1, m0⟩) ?_
            clear hK K
            try simp only [Act.put]
            have HSS2 := Lib.hid ((HTn.out.2.2.2.1.apart (p := ⟨E, 0, none⟩) (by have h5 := HTn.out.2.2.2.2.2; show S ≠ E; omega) (.int .i64 n)).apart (p := ⟨E, 1, none⟩) (by have h5 := HTn.out.2.2.2.2.2; show S ≠ E; omega) (.slice (some ⟨gb, 0, none⟩) N cap))
            have k0 := HSS2.out.cell 0
            have k1 := HSS2.out.cell 1
            simp only [List.getElem?_toArray, List.getElem?_cons_zero, List.getElem?_cons_succ] at k0 k1
            have HFF2 := Lib.hid ((HFn.out.apart (p := ⟨E, 0, none⟩) (by have h5 := HTn.out.2.2.2.2.2; have h6 := HFG.out; show F ≠ E; omega) (.int .i64 n)).apart (p := ⟨E, 1, none⟩) (by have h5 := HTn.out.2.2.2.2.2; have h6 := HFG.out; show F ≠ E; omega) (.slice (some ⟨gb, 0, none⟩) N cap))
            have t0 := HFF2.out.cell 0
            simp only [List.getElem?_toArray, List.getElem?_cons_zero] at t0
            have z0 := HTn.out.2.2.2.2.1.cell 0
            have z1 := HTn.out.2.2.2.2.1.cell 1
            have f0 := HTn.out.2.2.2.2.1.free 0
            have f1 := HTn.out.2.2.2.2.1.free 1
            simp only [List.getElem?_toArray, List.getElem?_cons_zero, List.getElem?_cons_succ] at z0 z1
            refine wpLate_one (i := 5) (by kernel_rfl) rfl (fun K hK => ?_)
            go_simp
            refine hK.out _ _ (fun _ => ⟨k0, k1, t0⟩) ?_
            clear hK K
            try simp only [Act.put]
            refine wpLate_one (i := 6) (by kernel_rfl) rfl (fun K hK => ?_)
            go_simp
            refine hK.out _ _ (fun _ => ⟨k0, k1, t0⟩) ?_
            clear hK K
            try simp only [Act.put]
            refine wpLate_one (i := 7) (by kernel_rfl) rfl (fun K hK => ?_)
            go_simp
            refine hK.out _ _ (fun h => absurd rfl h) ?_
            clear hK K
            try simp only [Act.put]
            refine wpLate_done (by kernel_rfl) ?_ _
            have hd := HTn.out.done
            have r0 := hd.1.cell 0
            have r1 := hd.1.cell 1
            simp only [List.getElem?_toArray, List.getElem?_cons_zero, List.getElem?_cons_succ] at r0 r1
            go_wp2
            refine bodyPost_ret (v := .tuple #[.agg #[.int .i64 n, .slice (some ⟨gb, 0, none⟩) N cap], .int .i64 id2, .string u]) (by simp [results, Try.results30, go_sem, r0, r1]) rfl ?_
            exact ⟨n, _, N, cap, L, id2, u, rfl, hd.2.1, HS2.out, HL2.out, hu, hd.2.2⟩
          · have h9' : (0 : Int) < (y3 : Int) := by omega
            obtain ⟨lb, rfl⟩ := own_some HOL2.out (fun e => by have h1 := HOL2.out.len.1; rw [e] at h1; simp at h1; omega)
            go_upto_region 6 with fail
            have HT := Lib.hid HTe.out.drew
            have HFw := Lib.hid (HFe.out.drew)
            have HOw := Lib.hid (show ROwn stR w6.drew B1 (.slice (some ⟨lb, 0, none⟩) N2 c2) T2 from HOL2.out.drewN 1)
            refine wp_region_late (fun w' => w'.cell? ⟨S, 0, none⟩ = some (.int .i64 n) ∧ w'.cell? ⟨S, 1, none⟩ = some (.slice (some ⟨gb, 0, none⟩) N cap) ∧ w'.cell? ⟨F, 0, none⟩ = some (.int .i64 id2) ∧ w'.cell? ⟨F, 3, none⟩ = some (.slice (some ⟨lb, 0, none⟩) N2 c2) ∧ ∀ (j : Nat) (x : ByteArray), T2[j]? = some x → w'.cell? ⟨lb, j, none⟩ = some (.string x)) 14 (by kernel_rfl) ?_
            revert HT HFw HOw
            generalize w6.drew = wd
            intro HT HFw HOw
            have d0 := HT.out.2.2.2.1.cell 0
            have d1 := HT.out.2.2.2.1.cell 1
            simp only [List.getElem?_toArray, List.getElem?_cons_zero, List.getElem?_cons_succ] at d0 d1
            have l0 := HFw.out.cell 0
            have l3 := HFw.out.cell 3
            simp only [List.getElem?_toArray, List.getElem?_cons_zero, List.getElem?_cons_succ] at l0 l3
            have dI := Lib.hid (name_cells HOw.out)
            refine wpLate_take (i := 0) (v := ?v0s) rfl (by kernel_rfl) (by kernel_rfl) (by kernel_rfl) (by kernel_rfl) (by kernel_rfl) (fun _ _ _ h => h) ⟨d0, d1, l0, l3, dI.out⟩ (by rfl) ?hy0s ?r0s
            case hy0s =>
              rintro wz ⟨z0, z1, z2, z3, z4⟩
              go_simp
              try with_reducible rfl
            try simp only [Act.put]
            refine wpLate_take (i := 1) (v := ?v1s) rfl (by kernel_rfl) (by kernel_rfl) (by kernel_rfl) (by kernel_rfl) (by kernel_rfl) (fun _ _ _ h => h) ⟨d0, d1, l0, l3, dI.out⟩ (by rfl) ?hy1s ?r1s
            case hy1s =>
              rintro wz ⟨z0, z1, z2, z3, z4⟩
              go_simp
              try with_reducible rfl
            try simp only [Act.put]
            refine wpLate_take (i := 2) (v := ?v2s) rfl (by kernel_rfl) (by kernel_rfl) (by kernel_rfl) (by kernel_rfl) (by kernel_rfl) (fun _ _ _ h => h) ⟨d0, d1, l0, l3, dI.out⟩ (by rfl) ?hy2s ?r2s
            case hy2s =>
              rintro wz ⟨z0, z1, z2, z3, z4⟩
              go_simp
              try with_reducible rfl
            try simp only [Act.put]
            refine wpLate_take (i := 3) (v := ?v3s) rfl (by kernel_rfl) (by kernel_rfl) (by kernel_rfl) (by kernel_rfl) (by kernel_rfl) (fun _ _ _ h => h) ⟨d0, d1, l0, l3, dI.out⟩ (by rfl) ?hy3s ?r3s
            case hy3s =>
              rintro wz ⟨z0, z1, z2, z3, z4⟩
              go_simp
              try with_reducible rfl
            try simp only [Act.put]
            refine wpLate_take (i := 4) (v := ?v4s) rfl (by kernel_rfl) (by kernel_rfl) (by kernel_rfl) (by kernel_rfl) (by kernel_rfl) (fun _ _ _ h => h) ⟨d0, d1, l0, l3, dI.out⟩ (by rfl) ?hy4s ?r4s
            case hy4s =>
              rintro wz ⟨z0, z1, z2, z3, z4⟩
              go_simp
              try with_reducible rfl
            try simp only [Act.put]
            refine wpLate_take (i := 5) (v := ?v5s) rfl (by kernel_rfl) (by kernel_rfl) (by kernel_rfl) (by kernel_rfl) (by kernel_rfl) (fun _ _ _ h => h) ⟨d0, d1, l0, l3, dI.out⟩ (by rfl) ?hy5s ?r5s
            case hy5s =>
              rintro wz ⟨z0, z1, z2, z3, z4⟩
              go_simp
              try with_reducible rfl
            try simp only [Act.put]
            refine wpLate_take (i := 6) (v := ?v6s) rfl (by kernel_rfl) (by kernel_rfl) (by kernel_rfl) (by kernel_rfl) (by kernel_rfl) (fun _ _ _ h => h) ⟨d0, d1, l0, l3, dI.out⟩ (by rfl) ?hy6s ?r6s
            case hy6s =>
              rintro wz ⟨z0, z1, z2, z3, z4⟩
              go_simp
              try with_reducible rfl
            try simp only [Act.put]
            refine wpLate_take (i := 7) (v := ?v7s) rfl (by kernel_rfl) (by kernel_rfl) (by kernel_rfl) (by kernel_rfl) (by kernel_rfl) (fun _ _ _ h => h) ⟨d0, d1, l0, l3, dI.out⟩ (by rfl) ?hy7s ?r7s
            case hy7s =>
              rintro wz ⟨z0, z1, z2, z3, z4⟩
              go_simp
              try with_reducible rfl
            try simp only [Act.put]
            refine wpLate_take (i := 8) (v := ?v8s) rfl (by kernel_rfl) (by kernel_rfl) (by kernel_rfl) (by kernel_rfl) (by kernel_rfl) (fun _ _ _ h => h) ⟨d0, d1, l0, l3, dI.out⟩ (by rfl) ?hy8s ?r8s
            case hy8s =>
              rintro wz ⟨z0, z1, z2, z3, z4⟩
              go_simp
              try with_reducible rfl
            try simp only [Act.put]
            refine wpLate_one (i := 9) (by kernel_rfl) rfl (fun K hK => ?_)
            go_simp
            refine (pick_any b (q + 1 + 1 + 1) N2 wd HT.out.1 (by omega) (by omega) (by omega)).mono ?_
            rintro e wp ⟨y4, hy4, rfl, hr, hg⟩
            have HTp := Lib.hid (HT.out.read hr hg)
            have HFp := Lib.hid (HFw.out.grown hg (fun e => by have h1 := Option.some.inj e; have h2 := HFG.out; omega))
            have HOp := Lib.hid (HOw.out.grown hg (by have h2 := HT.out.2.2.2.2.2; omega))
            obtain ⟨u4, hu4⟩ : ∃ x, T2[y4]? = some x := ⟨_, List.getElem?_eq_getElem (by have := HOw.out.len.1; omega)⟩
            have HU4 := Lib.hid hu4
            have v0 : (0 : Int) ≤ (y4 : Int) := by omega
            have v1 : (y4 : Int) < (N2 : Int) := by omega
            have HUS : Hid (u4.size ≤ 30) := Lib.hid (HSM.out.2.2.2 _ (List.mem_of_getElem? hu4))
            clear hr hg hu4
            have p0 := HTp.out.2.2.2.1.cell 0
            have p1 := HTp.out.2.2.2.1.cell 1
            simp only [List.getElem?_toArray, List.getElem?_cons_zero, List.getElem?_cons_succ] at p0 p1
            have m0 := HFp.out.cell 0
            have m3 := HFp.out.cell 3
            simp only [List.getElem?_toArray, List.getElem?_cons_zero, List.getElem?_cons_succ] at m0 m3
            have pI := Lib.hid (name_cells HOp.out)
            refine hK.out _ _ (fun _ => ⟨p0, p1, m0, m3, pI.out⟩) ?_
            clear hK K
            try simp only [Act.put]
            refine wpLate_take (i := 10) (v := ?v10s) rfl (by kernel_rfl) (by kernel_rfl) (by kernel_rfl) (by kernel_rfl) (by kernel_rfl) (fun _ _ _ h => h) ⟨p0, p1, m0, m3, pI.out⟩ (by rfl) ?hy10s ?r10s
            case hy10s =>
              rintro wz ⟨z0, z1, z2, z3, z4⟩
              go_simp
              try with_reducible rfl
            try simp only [Act.put]
            refine wpLate_take (i := 11) (v := ?v11s) rfl (by kernel_rfl) (by kernel_rfl) (by kernel_rfl) (by kernel_rfl) (by kernel_rfl) (fun _ _ _ h => h) ⟨p0, p1, m0, m3, pI.out⟩ (by rfl) ?hy11s ?r11s
            case hy11s =>
              rintro wz ⟨z0, z1, z2, z3, z4⟩
              have z5 := z4 y4 u4 HU4.out
              go_simp
              try with_reducible rfl
            try simp only [Act.put]
            have HSS2 := Lib.hid ((HTp.out.2.2.2.1.apart (p := ⟨E, 0, none⟩) (by have h5 := HTp.out.2.2.2.2.2; show S ≠ E; omega) (.int .i64 n)).apart (p := ⟨E, 1, none⟩) (by have h5 := HTp.out.2.2.2.2.2; show S ≠ E; omega) (.slice (some ⟨gb, 0, none⟩) N cap))
            have k0 := HSS2.out.cell 0
            have k1 := HSS2.out.cell 1
            simp only [List.getElem?_toArray, List.getElem?_cons_zero, List.getElem?_cons_succ] at k0 k1
            have HFF2 := Lib.hid ((HFp.out.apart (p := ⟨E, 0, none⟩) (by have h5 := HTp.out.2.2.2.2.2; have h6 := HFG.out; show F ≠ E; omega) (.int .i64 n)).apart (p := ⟨E, 1, none⟩) (by have h5 := HTp.out.2.2.2.2.2; have h6 := HFG.out; show F ≠ E; omega) (.slice (some ⟨gb, 0, none⟩) N cap))
            have t0 := HFF2.out.cell 0
            have t3 := HFF2.out.cell 3
            simp only [List.getElem?_toArray, List.getElem?_cons_zero, List.getElem?_cons_succ] at t0 t3
            have hnE := HOp.out.whole HTp.out.2.2.2.2.1 (by decide)
            have HOE := Lib.hid ((HOp.out.store (p := ⟨E, 0, none⟩) hnE (.int .i64 n)).store (p := ⟨E, 1, none⟩) hnE (.slice (some ⟨gb, 0, none⟩) N cap))
            have tI := Lib.hid (name_cells HOE.out)
            clear hnE
            have z0 := HTp.out.2.2.2.2.1.cell 0
            have z1 := HTp.out.2.2.2.2.1.cell 1
            have f0 := HTp.out.2.2.2.2.1.free 0
            have f1 := HTp.out.2.2.2.2.1.free 1
            simp only [List.getElem?_toArray, List.getElem?_cons_zero, List.getElem?_cons_succ] at z0 z1
            refine wpLate_one (i := 12) (by kernel_rfl) rfl (fun K hK => ?_)
            go_simp
            refine hK.out _ _ (fun _ => ⟨k0, k1, t0, t3, tI.out⟩) ?_
            clear hK K
            try simp only [Act.put]
            refine wpLate_one (i := 13) (by kernel_rfl) rfl (fun K hK => ?_)
            go_simp
            refine hK.out _ _ (fun _ => ⟨k0, k1, t0, t3, tI.out⟩) ?_
            clear hK K
            try simp only [Act.put]
            refine wpLate_one (i := 14) (by kernel_rfl) rfl (fun K hK => ?_)
            go_simp
            refine hK.out _ _ (fun h => absurd rfl h) ?_
            clear hK K
            try simp only [Act.put]
            refine wpLate_done (by kernel_rfl) ?_ _
            have hd := HTp.out.done
            have r0 := hd.1.cell 0
            have r1 := hd.1.cell 1
            simp only [List.getElem?_toArray, List.getElem?_cons_zero, List.getElem?_cons_succ] at r0 r1
            go_wp2
            refine bodyPost_ret (v := .tuple #[.agg #[.int .i64 n, .slice (some ⟨gb, 0, none⟩) N cap], .int .i64 id2, .string u4]) (by simp [results, Try.results30, go_sem, r0, r1]) rfl ?_
            exact ⟨n, _, N, cap, L, id2, u4, rfl, hd.2.1, HS2.out, HL2.out, HUS.out, hd.2.2⟩
        · have hy9' : ¬ (0 : Int) < (N2 : Int) := by omega
          obtain ⟨qq, hqq⟩ : ∃ x, q + 1 + 1 = x := ⟨_, rfl⟩
          have hqb : qq ≤ 300 := by omega
          rw [hqq] at HTd
          clear hqq
          go_upto_region 7 with fail
          have HT := Lib.hid HTd.out.drew
          have HFw := Lib.hid (HFd.out.drew)
          refine wp_region_late (fun w' => w'.cell? ⟨S, 0, none⟩ = some (.int .i64 n) ∧ w'.cell? ⟨S, 1, none⟩ = some (.slice (some ⟨gb, 0, none⟩) N cap) ∧ w'.cell? ⟨F, 0, none⟩ = some (.int .i64 id2)) 7 (by kernel_rfl) ?_
          revert HT HFw
          generalize wc.drew = wd
          intro HT HFw
          have d0 := HT.out.2.2.2.1.cell 0
          have d1 := HT.out.2.2.2.1.cell 1
          simp only [List.getElem?_toArray, List.getElem?_cons_zero, List.getElem?_cons_succ] at d0 d1
          have l0 := HFw.out.cell 0
          simp only [List.getElem?_toArray, List.getElem?_cons_zero] at l0
          refine wpLate_take (i := 0) (v := ?v0n) rfl (by kernel_rfl) (by kernel_rfl) (by kernel_rfl) (by kernel_rfl) (by kernel_rfl) (fun _ _ _ h => h) ⟨d0, d1, l0⟩ (by rfl) ?hy0n ?r0n
          case hy0n =>
            rintro wz ⟨z0, z1, z2⟩
            go_simp
            try with_reducible rfl
          try simp only [Act.put]
          refine wpLate_take (i := 1) (v := ?v1n) rfl (by kernel_rfl) (by kernel_rfl) (by kernel_rfl) (by kernel_rfl) (by kernel_rfl) (fun _ _ _ h => h) ⟨d0, d1, l0⟩ (by rfl) ?hy1n ?r1n
          case hy1n =>
            rintro wz ⟨z0, z1, z2⟩
            go_simp
            try with_reducible rfl
          try simp only [Act.put]
          refine wpLate_take (i := 2) (v := ?v2n) rfl (by kernel_rfl) (by kernel_rfl) (by kernel_rfl) (by kernel_rfl) (by kernel_rfl) (fun _ _ _ h => h) ⟨d0, d1, l0⟩ (by rfl) ?hy2n ?r2n
          case hy2n =>
            rintro wz ⟨z0, z1, z2⟩
            go_simp
            try with_reducible rfl
          try simp only [Act.put]
          refine wpLate_take (i := 3) (v := ?v3n) rfl (by kernel_rfl) (by kernel_rfl) (by kernel_rfl) (by kernel_rfl) (by kernel_rfl) (fun _ _ _ h => h) ⟨d0, d1, l0⟩ (by rfl) ?hy3n ?r3n
          case hy3n =>
            rintro wz ⟨z0, z1, z2⟩
            go_simp
            try with_reducible rfl
          try simp only [Act.put]
          refine wpLate_one (i := 4) (by kernel_rfl) rfl (fun K hK => ?_)
          go_simp
          refine (name_text b qq wd HT.out.1 (by omega)).mono ?_
          rintro e wn ⟨u, hu, rfl, hr, hg⟩
          have HTn := Lib.hid (HT.out.read hr hg)
          have HFn := Lib.hid (HFw.out.grown hg (fun e => by have h1 := Option.some.inj e; have h2 := HFG.out; omega))
          clear hr hg
          have n0 := HTn.out.2.2.2.1.cell 0
          have n1 := HTn.out.2.2.2.1.cell 1
          simp only [List.getElem?_toArray, List.getElem?_cons_zero, List.getElem?_cons_succ] at n0 n1
          have m0 := HFn.out.cell 0
          simp only [List.getElem?_toArray, List.getElem?_cons_zero] at m0
          refine hK.out _ _ (fun _ => ⟨n0, n1, m0⟩) ?_
          clear hK K
          try simp only [Act.put]
          have HSS2 := Lib.hid ((HTn.out.2.2.2.1.apart (p := ⟨E, 0, none⟩) (by have h5 := HTn.out.2.2.2.2.2; show S ≠ E; omega) (.int .i64 n)).apart (p := ⟨E, 1, none⟩) (by have h5 := HTn.out.2.2.2.2.2; show S ≠ E; omega) (.slice (some ⟨gb, 0, none⟩) N cap))
          have k0 := HSS2.out.cell 0
          have k1 := HSS2.out.cell 1
          simp only [List.getElem?_toArray, List.getElem?_cons_zero, List.getElem?_cons_succ] at k0 k1
          have HFF2 := Lib.hid ((HFn.out.apart (p := ⟨E, 0, none⟩) (by have h5 := HTn.out.2.2.2.2.2; have h6 := HFG.out; show F ≠ E; omega) (.int .i64 n)).apart (p := ⟨E, 1, none⟩) (by have h5 := HTn.out.2.2.2.2.2; have h6 := HFG.out; show F ≠ E; omega) (.slice (some ⟨gb, 0, none⟩) N cap))
          have t0 := HFF2.out.cell 0
          simp only [List.getElem?_toArray, List.getElem?_cons_zero] at t0
          have z0 := HTn.out.2.2.2.2.1.cell 0
          have z1 := HTn.out.2.2.2.2.1.cell 1
          have f0 := HTn.out.2.2.2.2.1.free 0
          have f1 := HTn.out.2.2.2.2.1.free 1
          simp only [List.getElem?_toArray, List.getElem?_cons_zero, List.getElem?_cons_succ] at z0 z1
          refine wpLate_one (i := 5) (by kernel_rfl) rfl (fun K hK => ?_)
          go_simp
          refine hK.out _ _ (fun _ => ⟨k0, k1, t0⟩) ?_
          clear hK K
          try simp only [Act.put]
          refine wpLate_one (i := 6) (by kernel_rfl) rfl (fun K hK => ?_)
          go_simp
          refine hK.out _ _ (fun _ => ⟨k0, k1, t0⟩) ?_
          clear hK K
          try simp only [Act.put]
          refine wpLate_one (i := 7) (by kernel_rfl) rfl (fun K hK => ?_)
          go_simp
          refine hK.out _ _ (fun h => absurd rfl h) ?_
          clear hK K
          try simp only [Act.put]
          refine wpLate_done (by kernel_rfl) ?_ _
          have hd := HTn.out.done
          have r0 := hd.1.cell 0
          have r1 := hd.1.cell 1
          simp only [List.getElem?_toArray, List.getElem?_cons_zero, List.getElem?_cons_succ] at r0 r1
          go_wp2
          refine bodyPost_ret (v := .tuple #[.agg #[.int .i64 n, .slice (some ⟨gb, 0, none⟩) N cap], .int .i64 id2, .string u]) (by simp [results, Try.results30, go_sem, r0, r1]) rfl ?_
          exact ⟨n, _, N, cap, L, id2, u, rfl, hd.2.1, HS2.out, HL2.out, hu, hd.2.2⟩
  · have hz' : ¬ (0 : Int) < (N : Int) := by omega
    obtain ⟨qq, hqq⟩ : ∃ x, q = x := ⟨_, rfl⟩
    have hqb : qq ≤ 300 := by omega
    rw [hqq] at HTa
    clear hqq
    go_upto_region 8 with fail
    rw [HWW.out, HSS.out]
    try rw [HBE.out]
    have HT := Lib.hid HTa.out.drew
    refine wp_region_late (fun w' => w'.cell? ⟨S, 0, none⟩ = some (.int .i64 n) ∧ w'.cell? ⟨S, 1, none⟩ = some (.slice A N cap)) 7 (by kernel_rfl) ?_
    revert HT
    generalize w3.drew = wd
    intro HT
    have d0 := HT.out.2.2.2.1.cell 0
    have d1 := HT.out.2.2.2.1.cell 1
    simp only [List.getElem?_toArray, List.getElem?_cons_zero, List.getElem?_cons_succ] at d0 d1
    refine wpLate_take (i := 0) (v := ?v0c) rfl (by kernel_rfl) (by kernel_rfl) (by kernel_rfl) (by kernel_rfl) (by kernel_rfl) (fun _ _ _ h => h) ⟨d0, d1⟩ (by rfl) ?hy0c ?r0c
    case hy0c =>
      rintro wz ⟨z0, z1⟩
      go_simp
      try with_reducible rfl
    try simp only [Act.put]
    refine wpLate_take (i := 1) (v := ?v1c) rfl (by kernel_rfl) (by kernel_rfl) (by kernel_rfl) (by kernel_rfl) (by kernel_rfl) (fun _ _ _ h => h) ⟨d0, d1⟩ (by rfl) ?hy1c ?r1c
    case hy1c =>
      rintro wz ⟨z0, z1⟩
      go_simp
      try with_reducible rfl
    try simp only [Act.put]
    refine wpLate_take (i := 3) (v := ?v3c) rfl (by kernel_rfl) (by kernel_rfl) (by kernel_rfl) (by kernel_rfl) (by kernel_rfl) (fun _ _ _ h => h) ⟨d0, d1⟩ (by rfl) ?hy3c ?r3c
    case hy3c =>
      rintro wz ⟨z0, z1⟩
      go_simp
      try with_reducible rfl
    try simp only [Act.put]
    refine wpLate_one (i := 2) (by kernel_rfl) rfl (fun K hK => ?_)
    go_simp
    refine (pick_any b qq 8 wd HT.out.1 (by omega) (by omega) (by omega)).mono ?_
    rintro e wp ⟨pv, hpv, rfl, hr, hg⟩
    have HTp := Lib.hid (HT.out.read hr hg)
    clear hr hg
    have p0 := HTp.out.2.2.2.1.cell 0
    have p1 := HTp.out.2.2.2.1.cell 1
    simp only [List.getElem?_toArray, List.getElem?_cons_zero, List.getElem?_cons_succ] at p0 p1
    refine hK.out _ _ (fun _ => ⟨p0, p1⟩) ?_
    clear hK K
    try simp only [Act.put]
    refine wpLate_one (i := 4) (by kernel_rfl) rfl (fun K hK => ?_)
    go_simp
    refine (name_text b (qq + 1) wp HTp.out.1 (by omega)).mono ?_
    rintro e wn ⟨u, hu, rfl, hr, hg⟩
    have HTn := Lib.hid (HTp.out.read hr hg)
    clear hr hg
    have n0 := HTn.out.2.2.2.1.cell 0
    have n1 := HTn.out.2.2.2.1.cell 1
    simp only [List.getElem?_toArray, List.getElem?_cons_zero, List.getElem?_cons_succ] at n0 n1
    refine hK.out _ _ (fun _ => ⟨n0, n1⟩) ?_
    clear hK K
    try simp only [Act.put]
    have HSS2 := Lib.hid ((HTn.out.2.2.2.1.apart (p := ⟨E, 0, none⟩) (by have h5 := HTn.out.2.2.2.2.2; show S ≠ E; omega) (.int .i64 n)).apart (p := ⟨E, 1, none⟩) (by have h5 := HTn.out.2.2.2.2.2; show S ≠ E; omega) (.slice A N cap))
    have k0 := HSS2.out.cell 0
    have k1 := HSS2.out.cell 1
    simp only [List.getElem?_toArray, List.getElem?_cons_zero, List.getElem?_cons_succ] at k0 k1
    have z0 := HTn.out.2.2.2.2.1.cell 0
    have z1 := HTn.out.2.2.2.2.1.cell 1
    have f0 := HTn.out.2.2.2.2.1.free 0
    have f1 := HTn.out.2.2.2.2.1.free 1
    simp only [List.getElem?_toArray, List.getElem?_cons_zero, List.getElem?_cons_succ] at z0 z1
    refine wpLate_one (i := 5) (by kernel_rfl) rfl (fun K hK => ?_)
    go_simp
    refine hK.out _ _ (fun _ => ⟨k0, k1⟩) ?_
    clear hK K
    try simp only [Act.put]
    refine wpLate_one (i := 6) (by kernel_rfl) rfl (fun K hK => ?_)
    go_simp
    refine hK.out _ _ (fun _ => ⟨k0, k1⟩) ?_
    clear hK K
    try simp only [Act.put]
    refine wpLate_one (i := 7) (by kernel_rfl) rfl (fun K hK => ?_)
    go_simp
    refine hK.out _ _ (fun h => absurd rfl h) ?_
    clear hK K
    try simp only [Act.put]
    refine wpLate_done (by kernel_rfl) ?_ _
    have hd := HTn.out.done
    have r0 := hd.1.cell 0
    have r1 := hd.1.cell 1
    simp only [List.getElem?_toArray, List.getElem?_cons_zero, List.getElem?_cons_succ] at r0 r1
    go_wp2
    refine bodyPost_ret (v := .tuple #[.agg #[.int .i64 n, .slice A N cap], .int .i64 (pv : Int), .string u]) (by simp [results, Try.results30, go_sem, r0, r1]) rfl ?_
    exact ⟨n, A, N, cap, L, (pv : Int), u, rfl, hd.2.1, HS2.out, HL2.out, hu, hd.2.2⟩
end Go.Proofs.Ytinbdibenbplnaa
