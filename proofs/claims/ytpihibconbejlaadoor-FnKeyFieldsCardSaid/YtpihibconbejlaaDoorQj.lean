/-
  My texts Kl, Ku, Kdm, Kdo, Kcd in one, so that a claim holds fewer files. Conditions: each contract's own.
-/
import Derived.Test.YtpihibconbejlaaDoorQi
import Derived.Shelf.Vars
import Derived.Test.YtpihibconbejlaaDoorRows
import Derived.ProofKit
import Derived.LaidMore
import Derived.OpenShut
import Derived.OpenVars
import Derived.Test.YtpihibconbejlaaDoorCards
import Derived.Test.YtpihibconbejlaaDoorTie
import Derived.SevenTiedAt
namespace Go.Proofs.YtpihibconbejlaaDoor
open Go.RowKit
set_option linter.unusedVariables false

theorem kd3 : KD3 := fun b p w h hp => key_draw 3 b p w (Nat.le_refl _) h (by show p + 900 ≤ 500000; omega)
theorem keyB_part {kd f : Int} {t : ByteArray} {S : List (Int × Int)} {ks : List KT} {i : Nat} {k : KT} (h : keyB (.mk kd f t S ks) = true) (hk : ks[i]? = some k) : keyB k = true := by
  unfold keyB at h ⊢
  rw [Bool.and_eq_true, decide_eq_true_eq, allT, nodesT, Bool.and_eq_true] at h
  have h1 := nodesL_lt hk
  have h2 : allT k = true := by
    cases ha : allT k with
    | true => rfl
    | false =>
      have := allL_no hk ha
      rw [this] at h
      exact absurd h.1.1 (by simp)
  rw [h2, Bool.true_and]
  exact decide_eq_true (by omega)
set_option maxRecDepth 20000 in
set_option maxHeartbeats 8000000 in
theorem law_FnKeyParts (A : Option Addr) (len cap : Nat) (w : World) (h : Coded w A len cap) (hSh : Shp w) (hLs : Lst w) : Calls Tryd.prog 6 #[.slice A len cap] w (Holds1 w) := by
  have HC := Lib.hid h
  have HSH := Lib.hid hSh
  have HLS := Lib.hid hLs
  clear h hSh hLs
  by_cases hl : len ≤ 1048576
  · have hl' : (len : Int) ≤ 1048576 := by omega
    go_enter Tryd.func6, Tryd.ntmps6
    go_wp2_with fail
    refine (draw_key kd3 A len cap w HC.out).mono ?_
    rintro e w1 ⟨k, ⟨a0, a1, a2, ⟨a3, a4, a5⟩, ⟨a6, a7, a8⟩⟩, rfl, hk, hni, hn, hb0⟩
    obtain ⟨kd, f, t, S, ks⟩ := k
    have HN := Lib.hid hn
    have HK1 := Lib.hid hk
    have HB1 := Lib.hid hb0
    obtain ⟨D, hD⟩ : ∃ D, w1.heap.size = D := ⟨_, rfl⟩
    have HDD := Lib.hid hD
    obtain ⟨w2, hw2⟩ : ∃ w2, w1.alloc (.cells #[.int .i64 a0, .int .i64 a1, .string a2, .slice a3 a4 a5, .slice a6 a7 a8] 26) = w2 := ⟨_, rfl⟩
    have HW2 := Lib.hid hw2
    have hbk : Below w1.heap.size w1 w2 := by rw [← hw2]; exact below_newK w1 _
    have HX2 : Hid (Whole w2 D 26 #[.int .i64 a0, .int .i64 a1, .string a2, .slice a3 a4 a5, .slice a6 a7 a8]) := Lib.hid (by rw [← hw2, ← hD]; exact Whole.made w1 _ _)
    have HB2 := Lib.hid (HB1.out.trans (hbk.mono HB1.out.size))
    have HK2 := Lib.hid (KV.below hbk (Nat.le_refl _) _ _ hk)
    clear hk hni hn hb0 hD hw2 hbk
    have z0 := HX2.out.cell 0
    have z1 := HX2.out.cell 1
    have z2 := HX2.out.cell 2
    have z3 := HX2.out.cell 3
    have z4 := HX2.out.cell 4
    simp at z0 z1 z2 z3 z4
    obtain ⟨o, ho⟩ : ∃ o, keyB (.mk kd f t S ks) = o := ⟨_, rfl⟩
    have HO := Lib.hid ho
    clear ho
    have HC2 := Lib.hid (impl_key HO.out w2 (HSH.out.below HB2.out (Nat.le_refl _)) (HLS.out.below HB2.out (Nat.le_refl _)) HK2.out)
    go_wp2_with fail
    rw [HW2.out, HDD.out]
    refine HC2.out.mono ?_
    rintro e w3 ⟨rfl, hb⟩
    have HX3 := Lib.hid (HX2.out.below hb HX2.out.lt)
    have HB3 := Lib.hid (HB2.out.trans (hb.mono HB2.out.size))
    have HK3 := Lib.hid (KV.below hb (Nat.le_refl _) _ _ HK2.out)
    clear hb z0 z1 z2 z3 z4
    have z0 := HX3.out.cell 0
    have z1 := HX3.out.cell 1
    have z2 := HX3.out.cell 2
    have z3 := HX3.out.cell 3
    have z4 := HX3.out.cell 4
    simp at z0 z1 z2 z3 z4
    have HC3 := Lib.hid (spec_key HK3.out (by have := HN.out; omega) HO.out)
    go_wp2_with fail
    refine HC3.out.mono ?_
    rintro e w4 ⟨rfl, hb⟩
    have HX4 := Lib.hid (HX3.out.below hb HX3.out.lt)
    have HB4 := Lib.hid (HB3.out.trans (hb.mono HB3.out.size))
    have HK4 := Lib.hid (KV.below hb (Nat.le_refl _) _ _ HK3.out)
    clear hb z0 z1 z2 z3 z4
    cases o with
    | false =>
      go_wp2
      go_ret
      exact ⟨rfl, HB4.out⟩
    | true =>
      have z0 := HX4.out.cell 0
      have z1 := HX4.out.cell 1
      have z2 := HX4.out.cell 2
      have z3 := HX4.out.cell 3
      have z4 := HX4.out.cell 4
      simp at z0 z1 z2 z3 z4
      have hp := HK4.out
      obtain ⟨AS, nS, cS, AK, nK, cK, he, -, -, -, -, h6, h7⟩ := hp.open
      simp at he
      obtain ⟨rfl, rfl, rfl, -, rfl, rfl, rfl⟩ := he
      have HKK := Lib.hid h6
      have HKS := Lib.hid h7
      have hz4 : w.heap.size ≤ w4.heap.size := HB4.out.size
      have ha7 : a7 ≤ 16 := by
        have h1 := nodesL_len ks
        have h2 := HN.out
        rw [nodesT] at h2
        have h3 := HKK.out
        omega
      clear hp h6 h7
      go_wp2
      go_loopw [6] (fun iv wr => ∃ i : Nat, i ≤ a7 ∧ iv = .int .i64 (i : Int) ∧ Hid (Below w4.heap.size w4 wr)) (fun iv _ => a7 - (intOf iv).toNat)
      case atStart => exact ⟨0, Nat.zero_le _, by go_num, Below.refl _ _⟩
      case round =>
        obtain ⟨i, hi, rfl, HB⟩ := hrel
        have HX := Lib.hid (HX4.out.below HB.out HX4.out.lt)
        clear z0 z1 z2 z3 z4
        have z0 := HX.out.cell 0
        have z1 := HX.out.cell 1
        have z2 := HX.out.cell 2
        have z3 := HX.out.cell 3
        have z4 := HX.out.cell 4
        simp at z0 z1 z2 z3 z4
        have HBw := Lib.hid (HB4.out.trans (HB.out.mono hz4))
        by_cases hlt : i < a7
        · have h0 : (0 : Int) ≤ (i : Int) := by omega
          have h5 : (i : Int) < (a7 : Int) := by omega
          obtain ⟨k, hk⟩ : ∃ k, ks[i]? = some k := ⟨_, List.getElem?_eq_getElem (by rw [HKK.out]; exact hlt)⟩
          obtain ⟨b, ob, v0, v1, v2, v3, v4, rfl, hbz, c0, c1, c2, c3, c4, hkv⟩ := (KVs.below HB.out (Nat.le_refl _) _ 0 ks HKS.out).get hk
          rw [Nat.zero_add] at c0 c1 c2 c3 c4
          have HCK := Lib.hid (impl_key (keyB_part HO.out hk) wr (HSH.out.below HBw.out (Nat.le_refl _)) (HLS.out.below HBw.out (Nat.le_refl _)) hkv)
          clear hk hkv z0 z1 z2 z3
          go_wp2_with fail
          refine HCK.out.mono ?_
          rintro e w5 ⟨rfl, hb⟩
          have HB5 := Lib.hid (HB.out.trans (hb.mono HB.out.size))
          clear hb
          go_wp2
          go_roundw
          case rel => exact ⟨i + 1, by omega, by go_num, HB5⟩
          case measure => simp [intOf]; omega
        · have h5 : ¬ (i : Int) < (a7 : Int) := by omega
          have HKR := Lib.hid (KV.below HB.out (Nat.le_refl _) _ _ HK4.out)
          obtain ⟨m, hm⟩ : ∃ m, nodesT (.mk a0 a1 a2 S ks) = m := ⟨_, rfl⟩
          have hm9 : m ≤ 9 := by
            have := HO.out
            unfold keyB at this
            rw [Bool.and_eq_true, decide_eq_true_eq, hm] at this
            exact this.2
          have hm9' : (m : Int) ≤ 9 := by omega
          have HCN := Lib.hid (laws_nodes_n 9 _ _ wr (by rw [hm]; exact hm9) (by omega) HKR.out)
          rw [hm] at HCN
          go_wp2_with fail
          refine HCN.out.mono ?_
          rintro e w5 ⟨rfl, hb⟩
          have HB5 := Lib.hid (HBw.out.trans (hb.mono HBw.out.size))
          clear hb
          go_wp2
          go_ret
          exact ⟨rfl, HB5.out⟩
  · have hl' : ¬ (len : Int) ≤ 1048576 := by omega
    go_enter Tryd.func6, Tryd.ntmps6
    go_wp2
    go_ret
    exact ⟨rfl, Below.refl _ _⟩
end Go.Proofs.YtpihibconbejlaaDoor
namespace Go.Proofs.YtpihibconbejlaaDoor
open Go.RowKit
set_option linter.unusedVariables false

/-- The mailbox, the key, their cells, the tables. -/
structure Sb (w0 : World) (n : Int) (A : Option Addr) (N cap : Nat) (L : List ML) (k : KT) (r : KR) (P : Nat) (w : World) : Prop where
  bel : Below w0.heap.size w0 w
  box : Whole w P 37 #[.int .i64 n, .slice A N cap]
  key : Whole w (P + 1) 26 (kcells r).toArray
  mails : MIn w A N cap L
  kv : KV w k (kval r)
  shp : Shp w
  lst : Lst w
  mx : MxL w
theorem Sb.below {w0 w w' : World} {n : Int} {A : Option Addr} {N cap : Nat} {L : List ML} {k : KT} {r : KR} {P : Nat} (h : Sb w0 n A N cap L k r P w) (hb : Below w.heap.size w w') : Sb w0 n A N cap L k r P w' :=
  ⟨h.bel.trans (hb.mono h.bel.size), h.box.below hb h.box.lt, h.key.below hb h.key.lt, h.mails.below hb (Nat.le_refl _), KV.below hb (Nat.le_refl _) _ _ h.kv, h.shp.below hb (Nat.le_refl _), h.lst.below hb (Nat.le_refl _), h.mx.below hb (Nat.le_refl _)⟩
theorem Sb.made {w0 w : World} {n : Int} {A : Option Addr} {N cap : Nat} {L : List ML} {k : KT} {a0 a1 : Int} {a2 : ByteArray} {a3 : Option Addr} {a4 a5 : Nat} {a6 : Option Addr} {a7 a8 P : Nat} (hP : w.heap.size = P) (hb : Below w0.heap.size w0 w) (hM : MIn w A N cap L) (hk : KV w k (kval (a0, a1, a2, (a3, a4, a5), (a6, a7, a8)))) (h1 : Shp w0) (h2 : Lst w0) (h3 : MxL w0) :
    Sb w0 n A N cap L k (a0, a1, a2, (a3, a4, a5), (a6, a7, a8)) P ((w.alloc (.cells #[.int .i64 n, .slice A N cap] 37)).alloc (.cells #[.int .i64 a0, .int .i64 a1, .string a2, .slice a3 a4 a5, .slice a6 a7 a8] 26)) := by
  subst hP
  have hb2 : Below w.heap.size w ((w.alloc (.cells #[.int .i64 n, .slice A N cap] 37)).alloc (.cells #[.int .i64 a0, .int .i64 a1, .string a2, .slice a3 a4 a5, .slice a6 a7 a8] 26)) := ((Below.refl _ _).alloc (Nat.le_refl _) _).alloc (by simp) _
  have hb3 := hb.trans (hb2.mono hb.size)
  exact ⟨hb3, (Whole.made w _ _).alloc _, whole_made1 (by simp), hM.below hb2 (Nat.le_refl _), KV.below hb2 (Nat.le_refl _) _ _ hk, h1.below hb3 (Nat.le_refl _), h2.below hb3 (Nat.le_refl _), h3.below hb3 (Nat.le_refl _)⟩
theorem Sb.search {w0 w : World} {n : Int} {A : Option Addr} {N cap : Nat} {L : List ML} {k : KT} {r : KR} {P : Nat} {G : List Int} (h : Sb w0 n A N cap L k r P w) (hG : srT n L k = G) : Calls Tryd.prog 29 #[boxV n A N cap, kval r] w (GivesN w G) := impl_search hG w h.mails h.kv h.shp h.lst h.mx
theorem Sb.want {w0 w : World} {n : Int} {A : Option Addr} {N cap : Nat} {L : List ML} {k : KT} {r : KR} {P : Nat} {G : List Int} (h : Sb w0 n A N cap L k r P w) (hG : srT n L k = G) (hn : nodesT k ≤ 16) : Calls Tryd.prog 30 #[boxV n A N cap, kval r] w (GivesN w G) := spec_search hG w h.mails h.kv (by omega)
theorem Sb.valid {w0 w : World} {n : Int} {A : Option Addr} {N cap : Nat} {L : List ML} {k : KT} {r : KR} {P : Nat} {z : Bool} (h : Sb w0 n A N cap L k r P w) (hz : bOk n L = z) : Calls Tryd.prog 32 #[boxV n A N cap] w (SaysB w z) := spec_boxv hz w h.mails
theorem Sb.fine {w0 w : World} {n : Int} {A : Option Addr} {N cap : Nat} {L : List ML} {k : KT} {r : KR} {P : Nat} {z : Bool} (h : Sb w0 n A N cap L k r P w) (hz : keyB k = z) (hn : nodesT k ≤ 16) : Calls Tryd.prog 26 #[kval r] w (SaysB w z) := spec_key h.kv (by omega) hz
theorem same_is {A A2 : Option Addr} {N N2 cap cap2 : Nat} {G : List Int} (w : World) (h : IIn w A N cap G) (h2 : IIn w A2 N2 cap2 G) : Calls Tryd.prog 31 #[.slice A N cap, .slice A2 N2 cap2] w (SaysB w true) :=
  (same_nums w h h2).mono fun e w' h => ⟨h.1.trans (ret_bool (decide_eq_true rfl)), h.2⟩
theorem srT_len (n : Int) (L : List ML) (k : KT) (hL : L.length ≤ 14) : (srT n L k).length ≤ 14 := by
  unfold srT
  split
  · exact Nat.le_trans (plT_len L k L.length) hL
  · simp
theorem gives_in {w : World} {B N cap : Nat} {A : Option Addr} {G : List Int} (h : ROwn intR w B (.slice A N cap) G) (hG : G.length ≤ 14) : IIn w A N cap G := IIn.of h (by have := h.len.1; omega)
end Go.Proofs.YtpihibconbejlaaDoor
namespace Go.Proofs.YtpihibconbejlaaDoor
open Go.RowKit
set_option linter.unusedVariables false

theorem mxl_of {w : World} (h : w.ShapedOpen Tryd.prog) : MxL w :=
  cell_of_shapedOpen_int (g := 2) (t := 3) (zero := #[.int .i64 0]) (k := .i64) h (of_decide_eq_true (by kernel_rfl)) (by kernel_rfl) rfl (by kernel_rfl) (by kernel_rfl) Tryd.underlying3
end Go.Proofs.YtpihibconbejlaaDoor
namespace Go.Proofs.YtpihibconbejlaaDoor
open Go.ChangeShapes Go.WideShapes Go.ChangeAt Go.WideElems Go.RowKit
set_option linter.unusedVariables false

theorem gNames : Tryd.prog.globalNamed "loop.example/mailhost/impl.flagNames" = some 1 := by kernel_rfl
theorem tNames : (Tryd.prog.globals[1]?).map (·.type) = some 142 := by kernel_rfl
theorem gShapes : Tryd.prog.globalNamed "loop.example/mailhost/impl.keyShapes" = some 0 := by kernel_rfl
theorem tShapes : (Tryd.prog.globals[0]?).map (·.type) = some 103 := by kernel_rfl
theorem cOne : Tryd.prog.cellsOf 9 = 1 := by kernel_rfl
theorem cBool : Tryd.prog.cellsOf 4 = 1 := by kernel_rfl
theorem cInt : Tryd.prog.cellsOf 3 = 1 := by kernel_rfl
theorem cShape : Tryd.prog.cellsOf 102 = 4 := by kernel_rfl
theorem ba_ext {a b : ByteArray} (h : a.data.toList = b.data.toList) : a = b := by
  cases a
  cases b
  congr
  exact Array.toList_inj.1 h
theorem lit_at {k : Nat} (hk : k < 5) {s : ByteArray} (h : ([.lit (.string [83, 101, 101, 110]), .lit (.string [65, 110, 115, 119, 101, 114, 101, 100]), .lit (.string [70, 108, 97, 103, 103, 101, 100]), .lit (.string [68, 101, 108, 101, 116, 101, 100]), .lit (.string [68, 114, 97, 102, 116])] : List (DataW Unit))[k]? = some (.lit (.string s.data.toList))) : s = nm5 k := by
  match k, hk with
  | 0, _ | 1, _ | 2, _ | 3, _ | 4, _ =>
    simp at h
    refine ba_ext ?_
    exact h.symm
theorem nms_at {k : Nat} (hk : k < 5) : nms5[k]? = some (.string (nm5 k)) := by
  match k, hk with
  | 0, _ | 1, _ | 2, _ | 3, _ | 4, _ => rfl
def lst1 : List (DataW Unit) := [.lit (.string [83, 101, 101, 110]), .lit (.string [65, 110, 115, 119, 101, 114, 101, 100]), .lit (.string [70, 108, 97, 103, 103, 101, 100]), .lit (.string [68, 101, 108, 101, 116, 101, 100]), .lit (.string [68, 114, 97, 102, 116])]
/-- The five names, read off the list. -/
theorem lst_of {W : World} {enc : TypeId × Value → Unit} {base fuel : Nat} {spare : Nat → Bool} {held : Bool} {cs0 : Array Value} {p0 : List MemPlace} (hv0 : W.var? Tryd.prog "loop.example/mailhost/impl.flagNames" = some cs0)
    (hd0 : DataW.trod enc Tryd.prog W base spare held fuel 142 cs0.toList = some (.agg lst1, p0)) : Lst W := by
  obtain ⟨xs, m1, rfl, hx1, hlen, hn, hel⟩ := DataW.trod_array Tryd.underlying142 hd0
  rw [Prod.mk.injEq] at hx1
  have hmap : xs.map (·.1) = lst1 := (DataW.agg.inj hx1.1).symm
  have key : ∀ k, k < 5 → W.cell? ⟨1, k, none⟩ = nms5[k]? := by
    intro k hk
    have hk1 := hel k hk
    rw [cOne, Nat.mul_one] at hk1
    obtain ⟨s, e1, e2, _⟩ := DataW.trod_string Tryd.underlying9 (hk1.trans (List.getElem?_eq_getElem (by omega)))
    have e3 : (xs.map (·.1))[k]? = some (.lit (.string s.data.toList)) := by
      rw [List.getElem?_map, List.getElem?_eq_getElem (by omega), e2]
      rfl
    rw [hmap] at e3
    have e4 : cs0.toList[k]? = some (.string s) := by
      have : ((cs0.toList.drop k).take 1)[0]? = cs0.toList[k]? := by simp
      rw [← this, e1]
      rfl
    rw [World.var?_cell gNames hv0 k, nms_at hk, ← lit_at hk e3, ← Array.getElem?_toList]
    exact e4
  exact ⟨block_lt_of_cell ((key 0 (by omega)).trans (nms_at (by omega))), key⟩
/-- The fields of the k-th shape. -/
def sh0 : Nat → Bool
  | 1 => true
  | _ => false
def sh1 : Nat → Bool
  | 2 => true
  | _ => false
def sh2 : Nat → Bool
  | 3 => true
  | 4 => true
  | _ => false
def sh3 : Nat → Int
  | 5 => 1
  | 6 => 2
  | 7 => 2
  | _ => 0
def shl1 : List (DataW Unit) := (List.range 8).map fun k => .agg [.lit (.bool (sh0 k)), .lit (.bool (sh1 k)), .lit (.bool (sh2 k)), .lit (.int .i64 (sh3 k))]
theorem take_get {α : Type} (l : List α) (i j n : Nat) {x : List α} (h : (((l.drop (i * 4)).take 4).drop j).take 1 = x) (hj : j < 4) : l[i * 4 + j]? = x[0]? := by
  subst h
  rw [List.getElem?_take_of_lt (by omega), List.getElem?_drop, Nat.add_zero, List.getElem?_take_of_lt hj, List.getElem?_drop]
theorem shp_of {W : World} {enc : TypeId × Value → Unit} {base fuel : Nat} {spare : Nat → Bool} {held : Bool} {cs0 : Array Value} {p0 : List MemPlace} (hv0 : W.var? Tryd.prog "loop.example/mailhost/impl.keyShapes" = some cs0)
    (hd0 : DataW.trod enc Tryd.prog W base spare held fuel 103 cs0.toList = some (.agg shl1, p0)) : Shp W := by
  obtain ⟨xs, m1, rfl, hx1, hlen, hn, hel⟩ := DataW.trod_array Tryd.underlying103 hd0
  rw [Prod.mk.injEq] at hx1
  have hmap : xs.map (·.1) = shl1 := (DataW.agg.inj hx1.1).symm
  have key : ∀ i, i < 8 → cs0.toList[i * 4 + 0]? = some (.bool (sh0 i)) ∧ cs0.toList[i * 4 + 1]? = some (.bool (sh1 i)) ∧ cs0.toList[i * 4 + 2]? = some (.bool (sh2 i)) ∧ cs0.toList[i * 4 + 3]? = some (.int .i64 (sh3 i)) := by
    intro i hi
    have hk1 := hel i hi
    rw [cShape] at hk1
    obtain ⟨ys, n, -, hx2, hl2, hy, hf⟩ := DataW.trod_struct Tryd.underlying102 (hk1.trans (List.getElem?_eq_getElem (by omega)))
    have e0 : (xs.map (·.1))[i]? = some (.agg (ys.map (·.1))) := by
      rw [List.getElem?_map, List.getElem?_eq_getElem (by omega), hx2]
      rfl
    rw [hmap] at e0
    unfold shl1 at e0
    rw [List.getElem?_map, List.getElem?_range hi] at e0
    simp at e0
    have f0 : DataW.trod enc Tryd.prog W base spare held n 4 ((((cs0.toList.drop (i * 4)).take 4).drop 0).take (Tryd.prog.cellsOf 4)) = ys[0]? := hf 0 _ rfl
    have f1 : DataW.trod enc Tryd.prog W base spare held n 4 ((((cs0.toList.drop (i * 4)).take 4).drop 1).take (Tryd.prog.cellsOf 4)) = ys[1]? := hf 1 _ rfl
    have f2 : DataW.trod enc Tryd.prog W base spare held n 4 ((((cs0.toList.drop (i * 4)).take 4).drop 2).take (Tryd.prog.cellsOf 4)) = ys[2]? := hf 2 _ rfl
    have f3 : DataW.trod enc Tryd.prog W base spare held n 3 ((((cs0.toList.drop (i * 4)).take 4).drop 3).take (Tryd.prog.cellsOf 3)) = ys[3]? := hf 3 _ rfl
    match ys, hy with
    | [y0, y1, y2, y3], _ =>
      simp at e0
      obtain ⟨a0, a1, a2, a3⟩ := e0
      rw [cBool] at f0 f1 f2
      rw [cInt] at f3
      obtain ⟨b0, g0, h0⟩ := DataW.trod_bool Tryd.underlying4 f0
      obtain ⟨b1, g1, h1⟩ := DataW.trod_bool Tryd.underlying4 f1
      obtain ⟨b2, g2, h2⟩ := DataW.trod_bool Tryd.underlying4 f2
      obtain ⟨b3, g3, h3, -⟩ := DataW.trod_int Tryd.underlying3 f3
      subst h0 h1 h2 h3
      simp at a0 a1 a2 a3
      subst a0 a1 a2 a3
      exact ⟨take_get _ i 0 0 g0 (by omega), take_get _ i 1 0 g1 (by omega), take_get _ i 2 0 g2 (by omega), take_get _ i 3 0 g3 (by omega)⟩
  have sh : ∀ i, i < 8 → shapes[i * 4 + 0]? = some (.bool (sh0 i)) ∧ shapes[i * 4 + 1]? = some (.bool (sh1 i)) ∧ shapes[i * 4 + 2]? = some (.bool (sh2 i)) ∧ shapes[i * 4 + 3]? = some (.int .i64 (sh3 i)) := by
    intro i hi
    match i, hi with
    | 0, _ | 1, _ | 2, _ | 3, _ | 4, _ | 5, _ | 6, _ | 7, _ => exact ⟨rfl, rfl, rfl, rfl⟩
  have all : ∀ k, k < 32 → W.cell? ⟨0, k, none⟩ = shapes[k]? := by
    intro k hk
    rw [World.var?_cell gShapes hv0 k, ← Array.getElem?_toList]
    obtain ⟨i, j, hi, hj, rfl⟩ : ∃ i j, i < 8 ∧ j < 4 ∧ k = i * 4 + j := ⟨k / 4, k % 4, by omega, by omega, by omega⟩
    obtain ⟨c0, c1, c2, c3⟩ := key i hi
    obtain ⟨d0, d1, d2, d3⟩ := sh i hi
    match j, hj with
    | 0, _ => rw [c0, d0]
    | 1, _ => rw [c1, d1]
    | 2, _ => rw [c2, d2]
    | 3, _ => rw [c3, d3]
  exact ⟨block_lt_of_cell ((all 0 (by omega)).trans rfl), all⟩
theorem laid_tables {W : World} (h : laidMetH Tryd.prog [("unicode/utf8.acceptRanges", Rows.laid_unicode_utf8_acceptRanges), ("loop.example/mailhost/impl.keyShapes", Rows.laid_loop_example_mailhost_impl_keyShapes), ("loop.example/mailhost/impl.flagNames", Rows.laid_loop_example_mailhost_impl_flagNames), ("unicode.CaseRanges", Rows.laid_unicode_CaseRanges), ("unicode/utf8.first", Rows.laid_unicode_utf8_first)] W) : Shp W ∧ Lst W := by
  rw [MakeChecks.laidMetH_plain _ _ _ (by kernel_rfl)] at h
  obtain ⟨ps, ⟨gA, tA, cA, fA, pA, qA, -, -, -, -, ⟨gK, tK, csK, fK, pK, qK, hgK, htK, hvK, hdK, ⟨gF, tF, csF, fF, pF, qF, hgF, htF, hvF, hdF, _, _⟩, _⟩, _⟩, _, _⟩ := h
  obtain rfl := Option.some.inj (gShapes.symm.trans hgK)
  obtain rfl := Option.some.inj (tShapes.symm.trans htK)
  obtain rfl := Option.some.inj (gNames.symm.trans hgF)
  obtain rfl := Option.some.inj (tNames.symm.trans htF)
  exact ⟨shp_of hvK hdK, lst_of hvF hdF⟩
theorem two_vars {H : Type} {enc : TypeId × Value → H} {P : Program} {w : World} {sp : Nat → Bool} {n m : String} {gs : List (DataW H)} {q : List MemPlace} (h : DataW.TrodVars enc P w sp [n, m] gs q) : ∃ g k, gs = [g, k] := by
  match gs, h with
  | [], h => exact h.elim
  | [g], h =>
    obtain ⟨_, _, _, _, _, _, _, _, _, _, hs, _⟩ := h
    exact hs.elim
  | [g, k], _ => exact ⟨g, k, rfl⟩
  | _ :: _ :: _ :: _, h =>
    obtain ⟨_, _, _, _, _, _, _, _, _, _, hs, _⟩ := h
    obtain ⟨_, _, _, _, _, _, _, _, _, _, hs, _⟩ := hs
    exact hs.elim
end Go.Proofs.YtpihibconbejlaaDoor
namespace Go.Proofs.YtpihibconbejlaaDoor
theorem c_goes : false = Rows.fnKeyPartsRow.goesBy Tryd.pinned.checked.prog := by kernel_rfl
theorem c_main : Tryd.pinned.checked.prog.mainIs = some (Rows.fnKeyPartsCard.stood.harness.1, Rows.fnKeyPartsCard.stood.harness.2.toList) := by kernel_rfl
theorem c_want : Tryd.prog.wantsStandIn 22 = false := by kernel_rfl
theorem c_looks : true = Tryd.pinned.checked.prog.looks [] := by kernel_rfl
theorem c_wf : Rows.fnKeyPartsRow.wfByText (OpenSpec.ofChange Rows.fnKeyPartsSpec) = true := by kernel_rfl
end Go.Proofs.YtpihibconbejlaaDoor
