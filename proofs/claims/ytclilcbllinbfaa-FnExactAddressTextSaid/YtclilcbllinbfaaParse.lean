/-
  The contracts of impl.AddressParse, impl.PathParse and impl.AddressText. No condition beyond a bound on the text's length.
-/
import Derived.Test.YtclilcbllinbfaaImpl
namespace Go.Proofs.Ytclilcbllinbfaa
open Go.RowKit
set_option linter.unusedVariables false

/-- What a parser of addresses leaves: 'ok' says whether it succeeds, 'U' and 'D' are the user's and the domain's bytes. -/
def Parsed (w : World) (ok : Bool) (U D : List UInt8) (e : Ending) (w' : World) : Prop :=
  ∃ u d : ByteArray, e = .returned (.tuple #[.agg #[.string u, .string d], .bool ok]) ∧ (ok = true → u.data.toList = U ∧ d.data.toList = D) ∧ (ok = false → u = ⟨#[]⟩ ∧ d = ⟨#[]⟩) ∧ Below w.heap.size w w'

theorem parsed_no {w w' : World} {ok : Bool} {U D : List UInt8} (h : ok = false) (hb : Below w.heap.size w w') : Parsed w ok U D (.returned (.tuple #[.agg #[.string ⟨#[]⟩, .string ⟨#[]⟩], .bool false])) w' :=
  ⟨_, _, by rw [h], fun h' => by rw [h] at h'; (cases h'), fun _ => ⟨rfl, rfl⟩, hb⟩
theorem parsed_yes {w w' : World} {ok : Bool} {u d : ByteArray} {U D : List UInt8} (h : ok = true) (hu : u.data.toList = U) (hd : d.data.toList = D) (hb : Below w.heap.size w w') : Parsed w ok U D (.returned (.tuple #[.agg #[.string u, .string d], .bool true])) w' :=
  ⟨u, d, by rw [h], fun _ => ⟨hu, hd⟩, fun h' => by rw [h] at h'; (cases h'), hb⟩

theorem address_yes (b k : Nat) (s : ByteArray) (w : World) (h : Cur w b s k) (hs : s.size ≤ 16777216) (hk : k ≤ s.size) (ho : adOk s.data.toList k = true) :
    Calls Try.prog 51 #[.pointer (some ⟨b, 0, none⟩)] w fun e w' => ∃ u d : ByteArray, e = .returned (.tuple #[.agg #[.string u, .string d], .bool true]) ∧
      u.data.toList = adUser s.data.toList k ∧ d.data.toList = adDom s.data.toList k ∧ adEnd s.data.toList k ≤ s.size ∧ Cur w' b s (adEnd s.data.toList k) ∧ w.grownBy w' (some b) := by
  refine (address_any b k s w h hs hk).mono ?_
  rintro e w' ⟨u, d, j, he, hy, _, hj, hc, hg⟩
  rw [ho] at he
  obtain ⟨h1, h2, rfl⟩ := hy ho
  exact ⟨u, d, he, h1, h2, hj, hc, hg⟩
theorem address_no (b k : Nat) (s : ByteArray) (w : World) (h : Cur w b s k) (hs : s.size ≤ 16777216) (hk : k ≤ s.size) (ho : adOk s.data.toList k = false) :
    Calls Try.prog 51 #[.pointer (some ⟨b, 0, none⟩)] w fun e w' => e = .returned (.tuple #[.agg #[.string ⟨#[]⟩, .string ⟨#[]⟩], .bool false]) ∧ w.grownBy w' (some b) := by
  refine (address_any b k s w h hs hk).mono ?_
  rintro e w' ⟨u, d, j, he, _, hn, hj, hc, hg⟩
  rw [ho] at he
  obtain ⟨rfl, rfl⟩ := hn ho
  exact ⟨he, hg⟩

theorem two_below {w w1 : World} {o p : Obj} (h : ((w.alloc o).alloc p).grownBy w1 (some (w.heap.size + 1))) : Below w.heap.size w w1 :=
  below_gr (((Below.refl _ _).alloc (Nat.le_refl _) o).alloc (by simp) p) h (by simp; omega) (by omega)

theorem cur_new2 (w : World) (s : ByteArray) (o : Obj) : Cur ((w.alloc o).alloc (.cells #[.string s, .int .i64 0] 44)) (w.heap.size + 1) s 0 := by
  have := Whole.made (w.alloc o) 44 #[.string s, .int .i64 0]
  show Whole _ _ _ _
  simpa using this

set_option maxHeartbeats 1000000 in
theorem impl_parse (s : ByteArray) (w : World) (hs : s.size ≤ 16777216) :
    Calls Try.prog 31 #[.string s] w (Parsed w (apB s.data.toList) (adUser s.data.toList 0) (adDom s.data.toList 0)) := by
  have hl : s.data.toList.length = s.size := by simp
  have HL := Lib.hid hl
  clear hl
  have hne : some w.heap.size ≠ some (w.heap.size + 1) := by simp
  by_cases ho : adOk s.data.toList 0 = true
  · have HO := Lib.hid ho
    clear ho
    by_cases hz : adEnd s.data.toList 0 = s.size
    · have HZ := Lib.hid hz
      clear hz
      go_enter Try.func31, Try.ntmps31
      go_wp2_with fail
      refine (address_yes (w.heap.size + 1) 0 s _ (cur_new2 w s _) hs (Nat.zero_le _) HO.out).mono ?_
      rintro e w1 ⟨u, d, rfl, hu, hd, hde, hc, hg⟩
      have hR := ((Whole.made w 30 #[.string ⟨#[]⟩, .string ⟨#[]⟩]).alloc _).grown hg hne
      have hr0 : w1.cell? ⟨w.heap.size, 0, none⟩ = some (.string ⟨#[]⟩) := hR.cell 0
      have hr1 : w1.cell? ⟨w.heap.size, 1, none⟩ = some (.string ⟨#[]⟩) := hR.cell 1
      have hf0 := hR.free 0
      have hf1 := hR.free 1
      have hz1 := hR.lt
      have HU := Lib.hid hu
      have HD := Lib.hid hd
      have HC := Lib.hid hc
      have HG := Lib.hid hg
      clear hu hd hc hg hR
      go_wp2_with fail
      refine (done_yes (w.heap.size + 1) _ s _ (HC.out.alloc _) HZ.out).mono ?_
      rintro e w2 ⟨rfl, n, rfl⟩
      go_wp2
      refine bodyPost_ret (v := .tuple #[.agg #[.string u, .string d], .bool true]) (by simp [results, Try.results31, go_sem, hr0, hr1, hz1]) rfl ?_
      refine parsed_yes (by unfold apB; rw [HO.out, HZ.out, HL.out]; simp) HU.out HD.out ?_
      exact (((below_drewN' ((two_below HG.out).alloc (Nat.le_of_lt hz1) _) _).setCell (Nat.le_refl _) _)).setCell (Nat.le_refl _) _
    · have HZ := Lib.hid hz
      clear hz
      go_enter Try.func31, Try.ntmps31
      go_wp2_with fail
      refine (address_yes (w.heap.size + 1) 0 s _ (cur_new2 w s _) hs (Nat.zero_le _) HO.out).mono ?_
      rintro e w1 ⟨u, d, rfl, hu, hd, hde, hc, hg⟩
      have hR := ((Whole.made w 30 #[.string ⟨#[]⟩, .string ⟨#[]⟩]).alloc _).grown hg hne
      have hr0 : w1.cell? ⟨w.heap.size, 0, none⟩ = some (.string ⟨#[]⟩) := hR.cell 0
      have hr1 : w1.cell? ⟨w.heap.size, 1, none⟩ = some (.string ⟨#[]⟩) := hR.cell 1
      have hf0 := hR.free 0
      have hf1 := hR.free 1
      have hz1 := hR.lt
      have HC := Lib.hid hc
      have HG := Lib.hid hg
      clear hu hd hc hg hR
      go_wp2_with fail
      refine (done_no (w.heap.size + 1) _ s _ (HC.out.alloc _) (Nat.lt_of_le_of_ne hde HZ.out)).mono ?_
      rintro e w2 ⟨rfl, n, rfl⟩
      go_wp2
      refine bodyPost_ret (v := .tuple #[.agg #[.string ⟨#[]⟩, .string ⟨#[]⟩], .bool false]) (by simp [results, Try.results31, go_sem, hr0, hr1, hz1]) rfl ?_
      refine parsed_no (by unfold apB; rw [decide_eq_false (by rw [HL.out]; exact HZ.out)]; simp) ?_
      exact (((below_drewN' ((two_below HG.out).alloc (Nat.le_of_lt hz1) _) _).setCell (Nat.le_refl _) _)).setCell (Nat.le_refl _) _
  · have HO := Lib.hid (Bool.eq_false_iff.2 ho)
    clear ho
    go_enter Try.func31, Try.ntmps31
    go_wp2_with fail
    refine (address_no (w.heap.size + 1) 0 s _ (cur_new2 w s _) hs (Nat.zero_le _) HO.out).mono ?_
    rintro e w1 ⟨rfl, hg⟩
    have hR := ((Whole.made w 30 #[.string ⟨#[]⟩, .string ⟨#[]⟩]).alloc _).grown hg hne
    have hr0 : w1.cell? ⟨w.heap.size, 0, none⟩ = some (.string ⟨#[]⟩) := hR.cell 0
    have hr1 : w1.cell? ⟨w.heap.size, 1, none⟩ = some (.string ⟨#[]⟩) := hR.cell 1
    have hf0 := hR.free 0
    have hf1 := hR.free 1
    have hz1 := hR.lt
    have HG := Lib.hid hg
    clear hg hR
    go_wp2
    refine bodyPost_ret (v := .tuple #[.agg #[.string ⟨#[]⟩, .string ⟨#[]⟩], .bool false]) (by simp [results, Try.results31, go_sem, hr0, hr1, hz1]) rfl ?_
    refine parsed_no (by unfold apB; rw [HO.out]; rfl) ?_
    exact (((two_below HG.out).setCell (p := ⟨w.heap.size, 0, none⟩) (Nat.le_refl _) _).setCell (p := ⟨w.heap.size, 1, none⟩) (Nat.le_refl _) _).alloc (by simp; omega) _

/-- The path without an address. -/
def bare : List UInt8 := [60, 62]
def ppA (L : List UInt8) : Bool := decide (L = bare) || ppB L
def pathU (L : List UInt8) : List UInt8 := if L = bare then [] else adUser L 1
def pathD (L : List UInt8) : List UInt8 := if L = bare then [] else adDom L 1
theorem path_no {L : List UInt8} (h : ¬ L = bare) (hp : ppB L = false) : ppA L = false := by unfold ppA; rw [hp, decide_eq_false h]; rfl
theorem path_yes {L : List UInt8} (hp : ppB L = true) : ppA L = true := by unfold ppA; rw [hp]; simp
set_option maxHeartbeats 2000000 in
theorem impl_path (s : ByteArray) (w : World) (hs : s.size ≤ 16777216) :
    Calls Try.prog 37 #[.string s] w (Parsed w (ppA s.data.toList) (pathU s.data.toList) (pathD s.data.toList)) := by
  have hl : s.data.toList.length = s.size := by simp
  have HL := Lib.hid hl
  clear hl
  have hne : some w.heap.size ≠ some (w.heap.size + 1) := by simp
  by_cases hb : s.data.toList = bare
  · have hq : (s.toList == [60, 62]) = true := by rw [ByteArray.toList_eq, hb]; rfl
    have HB := Lib.hid hb
    clear hb
    go_enter Try.func37, Try.ntmps37
    go_wp2
    refine bodyPost_ret (v := .tuple #[.agg #[.string ⟨#[]⟩, .string ⟨#[]⟩], .bool true]) (by simp [results, Try.results37, go_sem]) rfl ?_
    refine parsed_yes (by unfold ppA; rw [decide_eq_true HB.out]; rfl) (by unfold pathU; rw [if_pos HB.out]) (by unfold pathD; rw [if_pos HB.out]) ?_
    exact (Below.refl _ _).alloc (Nat.le_refl _) _
  · have hq : (s.toList == [60, 62]) = false := by
      rw [ByteArray.toList_eq]
      exact beq_eq_false_iff_ne.2 hb
    have HB := Lib.hid hb
    clear hb
    by_cases hx : nextIs s.data.toList 0 60 = true
    · have HX := Lib.hid hx
      have hxl : 1 ≤ s.size := by have := nextIs_lt hx; have := HL.out; omega
      clear hx
      by_cases ho : adOk s.data.toList 1 = true
      · have HO := Lib.hid ho
        clear ho
        go_enter Try.func37, Try.ntmps37
        go_wp2_with fail
        refine (take_at_yes 60 60 rfl (w.heap.size + 1) 0 s _ (cur_new2 w s _) hs (Nat.zero_le _) HX.out).mono ?_
        rintro e w0 ⟨rfl, hc0, hg0⟩
        have HC0 := Lib.hid hc0
        have HG0 := Lib.hid hg0
        clear hc0 hg0
        go_wp2_with fail
        refine (address_yes (w.heap.size + 1) 1 s _ HC0.out hs hxl HO.out).mono ?_
        rintro e w1 ⟨u, d, rfl, hu, hd, hde, hc, hg⟩
        have HR := Lib.hid (((Whole.made w 30 #[.string ⟨#[]⟩, .string ⟨#[]⟩]).alloc _).grown (gr_trans HG0.out hg) hne)
        have hcl : w.heap.size + 1 < w1.heap.size := Whole.lt hc
        have hne2 : some w1.heap.size ≠ some (w.heap.size + 1) := by simp; omega
        have HU := Lib.hid hu
        have HD := Lib.hid hd
        have HC := Lib.hid hc
        have HG := Lib.hid (gr_trans HG0.out hg)
        clear hu hd hc hg
        by_cases hy : nextIs s.data.toList (adEnd s.data.toList 1) 62 = true
        · have HY := Lib.hid hy
          have hyl : adEnd s.data.toList 1 + 1 ≤ s.size := by have := nextIs_lt hy; have := HL.out; omega
          clear hy
          go_wp2_with fail
          refine (take_at_yes 62 62 rfl (w.heap.size + 1) _ s _ (HC.out.alloc _) hs hde HY.out).mono ?_
          rintro e w2 ⟨rfl, hc2, hg2⟩
          have hR := (HR.out.alloc _).grown hg2 hne
          have hr0 : w2.cell? ⟨w.heap.size, 0, none⟩ = some (.string ⟨#[]⟩) := hR.cell 0
          have hr1 : w2.cell? ⟨w.heap.size, 1, none⟩ = some (.string ⟨#[]⟩) := hR.cell 1
          have hf0 := hR.free 0
          have hf1 := hR.free 1
          have hz1 := hR.lt
          have hA := (Whole.made w1 30 #[.string u, .string d]).grown hg2 hne2
          have ha0 : w2.cell? ⟨w1.heap.size, 0, none⟩ = some (.string u) := hA.cell 0
          have ha1 : w2.cell? ⟨w1.heap.size, 1, none⟩ = some (.string d) := hA.cell 1
          have HC2 := Lib.hid hc2
          have HB2 := Lib.hid (below_gr ((two_below HG.out).alloc (by omega) _) hg2 (by simp; omega) (by omega))
          clear hc2 hg2 hR hA
          by_cases hz : adEnd s.data.toList 1 + 1 = s.size
          · have HZ := Lib.hid hz
            clear hz
            go_wp2_with fail
            refine (done_yes (w.heap.size + 1) _ s _ HC2.out HZ.out).mono ?_
            rintro e w3 ⟨rfl, n, rfl⟩
            go_wp2
            refine bodyPost_ret (v := .tuple #[.agg #[.string u, .string d], .bool true]) (by simp [results, Try.results37, go_sem, hr0, hr1]) rfl ?_
            refine parsed_yes (path_yes (by unfold ppB; rw [HX.out, HO.out, HY.out, HZ.out, HL.out]; simp)) (by unfold pathU; rw [if_neg HB.out]; exact HU.out) (by unfold pathD; rw [if_neg HB.out]; exact HD.out) ?_
            exact ((below_drewN' HB2.out _).setCell (p := ⟨w.heap.size, 0, none⟩) (Nat.le_refl _) _).setCell (p := ⟨w.heap.size, 1, none⟩) (Nat.le_refl _) _
          · have HZ := Lib.hid hz
            clear hz
            go_wp2_with fail
            refine (done_no (w.heap.size + 1) _ s _ HC2.out (Nat.lt_of_le_of_ne hyl HZ.out)).mono ?_
            rintro e w3 ⟨rfl, n, rfl⟩
            go_wp2
            refine bodyPost_ret (v := .tuple #[.agg #[.string ⟨#[]⟩, .string ⟨#[]⟩], .bool false]) (by simp [results, Try.results37, go_sem, hr0, hr1]) rfl ?_
            refine parsed_no (path_no HB.out (by unfold ppB; rw [decide_eq_false (by rw [HL.out]; exact HZ.out)]; simp)) ?_
            exact ((below_drewN' HB2.out _).setCell (p := ⟨w.heap.size, 0, none⟩) (Nat.le_refl _) _).setCell (p := ⟨w.heap.size, 1, none⟩) (Nat.le_refl _) _
        · have HY := Lib.hid (Bool.eq_false_iff.2 hy)
          clear hy
          go_wp2_with fail
          refine (take_at_no 62 62 rfl (w.heap.size + 1) _ s _ (HC.out.alloc _) hs hde HY.out).mono ?_
          rintro e w2 ⟨rfl, hc2, hg2⟩
          have hR := (HR.out.alloc _).grown hg2 hne
          have hr0 : w2.cell? ⟨w.heap.size, 0, none⟩ = some (.string ⟨#[]⟩) := hR.cell 0
          have hr1 : w2.cell? ⟨w.heap.size, 1, none⟩ = some (.string ⟨#[]⟩) := hR.cell 1
          have hf0 := hR.free 0
          have hf1 := hR.free 1
          have hz1 := hR.lt
          have HB2 := Lib.hid (below_gr ((two_below HG.out).alloc (by omega) _) hg2 (by simp; omega) (by omega))
          clear hc2 hg2 hR
          go_wp2
          refine bodyPost_ret (v := .tuple #[.agg #[.string ⟨#[]⟩, .string ⟨#[]⟩], .bool false]) (by simp [results, Try.results37, go_sem, hr0, hr1]) rfl ?_
          refine parsed_no (path_no HB.out (by unfold ppB; rw [HY.out]; simp)) ?_
          exact (HB2.out.setCell (p := ⟨w.heap.size, 0, none⟩) (Nat.le_refl _) _).setCell (p := ⟨w.heap.size, 1, none⟩) (Nat.le_refl _) _
      · have HO := Lib.hid (Bool.eq_false_iff.2 ho)
        clear ho
        go_enter Try.func37, Try.ntmps37
        go_wp2_with fail
        refine (take_at_yes 60 60 rfl (w.heap.size + 1) 0 s _ (cur_new2 w s _) hs (Nat.zero_le _) HX.out).mono ?_
        rintro e w0 ⟨rfl, hc0, hg0⟩
        have HC0 := Lib.hid hc0
        have HG0 := Lib.hid hg0
        clear hc0 hg0
        go_wp2_with fail
        refine (address_no (w.heap.size + 1) 1 s _ HC0.out hs hxl HO.out).mono ?_
        rintro e w1 ⟨rfl, hg⟩
        have hR := ((Whole.made w 30 #[.string ⟨#[]⟩, .string ⟨#[]⟩]).alloc _).grown (gr_trans HG0.out hg) hne
        have hr0 : w1.cell? ⟨w.heap.size, 0, none⟩ = some (.string ⟨#[]⟩) := hR.cell 0
        have hr1 : w1.cell? ⟨w.heap.size, 1, none⟩ = some (.string ⟨#[]⟩) := hR.cell 1
        have hf0 := hR.free 0
        have hf1 := hR.free 1
        have hz1 := hR.lt
        have HG := Lib.hid (gr_trans HG0.out hg)
        clear hg hR
        go_wp2
        refine bodyPost_ret (v := .tuple #[.agg #[.string ⟨#[]⟩, .string ⟨#[]⟩], .bool false]) (by simp [results, Try.results37, go_sem, hr0, hr1, hz1]) rfl ?_
        refine parsed_no (path_no HB.out (by unfold ppB; rw [HO.out]; simp)) ?_
        exact (((two_below HG.out).setCell (p := ⟨w.heap.size, 0, none⟩) (Nat.le_refl _) _).setCell (p := ⟨w.heap.size, 1, none⟩) (Nat.le_refl _) _).alloc (by simp; omega) _
    · have HX := Lib.hid (Bool.eq_false_iff.2 hx)
      clear hx
      go_enter Try.func37, Try.ntmps37
      go_wp2_with fail
      refine (take_at_no 60 60 rfl (w.heap.size + 1) 0 s _ (cur_new2 w s _) hs (Nat.zero_le _) HX.out).mono ?_
      rintro e w0 ⟨rfl, hc0, hg0⟩
      have hR := ((Whole.made w 30 #[.string ⟨#[]⟩, .string ⟨#[]⟩]).alloc _).grown hg0 hne
      have hr0 : w0.cell? ⟨w.heap.size, 0, none⟩ = some (.string ⟨#[]⟩) := hR.cell 0
      have hr1 : w0.cell? ⟨w.heap.size, 1, none⟩ = some (.string ⟨#[]⟩) := hR.cell 1
      have hf0 := hR.free 0
      have hf1 := hR.free 1
      have hz1 := hR.lt
      have HG := Lib.hid hg0
      clear hg0 hR hc0
      go_wp2
      refine bodyPost_ret (v := .tuple #[.agg #[.string ⟨#[]⟩, .string ⟨#[]⟩], .bool false]) (by simp [results, Try.results37, go_sem, hr0, hr1]) rfl ?_
      refine parsed_no (path_no HB.out (by unfold ppB; rw [HX.out]; simp)) ?_
      exact ((two_below HG.out).setCell (p := ⟨w.heap.size, 0, none⟩) (Nat.le_refl _) _).setCell (p := ⟨w.heap.size, 1, none⟩) (Nat.le_refl _) _
end Go.Proofs.Ytclilcbllinbfaa
