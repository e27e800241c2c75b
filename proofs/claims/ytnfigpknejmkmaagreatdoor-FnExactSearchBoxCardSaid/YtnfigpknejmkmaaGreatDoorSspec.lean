/-
  The contracts of the model's l3Number and SetParse. No condition beyond a bound on the text's length.
-/
import Derived.Test.YtnfigpknejmkmaaGreatDoorSpar
import Derived.Deep.RegionHeld3
namespace Go.Proofs.YtnfigpknejmkmaaGreatDoor
open Go.RowKit
set_option linter.unusedVariables false

/-- The number of a word, or -1. -/
def numI (l : List UInt8) : Int := match numO l with
  | some n => (n : Int)
  | none => -1
theorem numI_some {l : List UInt8} {n : Nat} (h : numO l = some n) : numI l = (n : Int) := by unfold numI; rw [h]
theorem numI_none {l : List UInt8} (h : numO l = none) : numI l = -1 := by unfold numI; rw [h]
theorem numO_len {l : List UInt8} (h : ¬ (1 ≤ l.length ∧ l.length ≤ 2)) : numO l = none := by
  match l with
  | [] => rfl
  | [x] => simp at h
  | [x, y] => simp at h
  | x :: y :: z :: t => rfl
theorem numO_48 {l : List UInt8} {x : UInt8} (h : l[0]? = some x) (hx : x = 48) : numO l = none := by
  subst hx
  match l, h with
  | [x], h => simp at h; subst h; rfl
  | [x, y], h =>
    simp at h
    subst h
    have hn : ¬ ((49 ≤ (48 : UInt8).toNat ∧ (48 : UInt8).toNat ≤ 57) ∧ 48 ≤ y.toNat ∧ y.toNat ≤ 57) := by
      rintro ⟨⟨h1, _⟩, _⟩
      revert h1
      decide
    unfold numO
    exact if_neg hn
  | x :: y :: z :: t, h => rfl
theorem numO_bad {l : List UInt8} {k : Nat} {x : UInt8} (h : l[k]? = some x) (hx : dgt x = false) (h42 : l ≠ [42]) : numO l = none := by
  have hx' : ¬ (48 ≤ x.toNat ∧ x.toNat ≤ 57) := of_decide_eq_false hx
  match l, k, h with
  | [a], 0, h =>
    simp at h
    subst h
    show (if _ then _ else _) = _
    rw [if_neg (fun e => h42 (by rw [e])), if_neg (by omega)]
  | [a], k + 1, h => simp at h
  | [a, b], 0, h =>
    simp at h
    subst h
    show (if _ then _ else _) = _
    rw [if_neg (by omega)]
  | [a, b], 1, h =>
    simp at h
    subst h
    show (if _ then _ else _) = _
    rw [if_neg (by omega)]
  | [a, b], k + 2, h => simp at h
  | a :: b :: c :: t, k, h => rfl
/-- The value of digits. -/
def valD (l : List UInt8) : Nat := l.foldl (fun a c => 10 * a + (c.toNat - 48)) 0
theorem valD_snoc (l : List UInt8) (c : UInt8) : valD (l ++ [c]) = 10 * valD l + (c.toNat - 48) := by unfold valD; rw [List.foldl_append]; rfl
theorem numO_all {l : List UInt8} (h1 : 1 ≤ l.length) (h2 : l.length ≤ 2) (h0 : l[0]? ≠ some 48) (ha : l.all dgt = true) : numO l = some (valD l) := by
  match l with
  | [] => simp at h1
  | [x] =>
    simp at ha h0
    have hx := of_decide_eq_true ha
    have hn : x.toNat ≠ 48 := fun e => h0 (UInt8.toNat_inj.1 e)
    show (if _ then _ else _) = _
    rw [if_neg (ne42 (by omega)), if_pos (by omega)]
    simp [valD]
  | [x, y] =>
    simp at ha h0
    have hx := of_decide_eq_true ha.1
    have hy := of_decide_eq_true ha.2
    have hn : x.toNat ≠ 48 := fun e => h0 (UInt8.toNat_inj.1 e)
    show (if _ then _ else _) = _
    rw [if_pos (by omega)]
    simp [valD]
  | x :: y :: z :: t => simp at h2
theorem star_eq {v : ByteArray} : v.toList = [42] ↔ v.data.toList = [42] := by rw [ByteArray.toList_eq]

set_option maxHeartbeats 2000000 in
theorem spec_number (s : ByteArray) (w : World) (hs : s.size ≤ 16777216) :
    Calls Tryz.prog 104 #[.string s] w fun e w' => e = .returned (.int .i64 (numI s.data.toList)) ∧ w = w' := by
  have hl : s.data.toList.length = s.size := by simp
  have HL := Lib.hid hl
  clear hl
  by_cases hst : s.data.toList = [42]
  · have hq : (s.toList == [42]) = true := by rw [ByteArray.toList_eq, hst]; rfl
    have HN : Hid (numI s.data.toList = 0) := by show _ = _; rw [hst]; rfl
    clear hst
    go_enter Tryz.func104, Tryz.ntmps104
    go_wp2
    go_ret
    exact ⟨ret_int HN.out.symm, rfl⟩
  · have hq : (s.toList == [42]) = false := by rw [ByteArray.toList_eq]; exact beq_eq_false_iff_ne.2 hst
    have HS := Lib.hid hst
    clear hst
    by_cases hlen : 1 ≤ s.size ∧ s.size ≤ 2
    · have hin : inB (s.size : Int) 1 2 = true := inB_yes (by omega) (by omega)
      have h0 : (0 : Int) < (s.size : Int) := by omega
      have h0' : 0 < s.size := by omega
      obtain ⟨hl1, hl2⟩ := hlen
      have HI := Lib.hid hin
      clear hin
      have hg0 : s.data.toList[0]? = some s[0] := by
        rw [List.getElem?_eq_getElem (by rw [HL.out]; omega)]
        rfl
      by_cases hz : s[0] = 48
      · have hzb : ((s[0].toNat : Int) == 48) = true := by rw [hz]; rfl
        have HN : Hid (numI s.data.toList = -1) := numI_none (numO_48 hg0 hz)
        clear hz hg0
        go_enter Tryz.func104, Tryz.ntmps104
        go_wp2_with fail
        refine (in_any _ _ _ _).mono ?_
        rintro e w1 ⟨rfl, rfl⟩
        rw [HI.out]
        go_wp2
        go_ret
        exact ⟨ret_int HN.out.symm, rfl⟩
      · have hzb : ((s[0].toNat : Int) == 48) = false := beq_eq_false_iff_ne.2 (fun e => hz (UInt8.toNat_inj.1 (by show s[0].toNat = 48; omega)))
        have H48 : Hid (s.data.toList[0]? ≠ some 48) := by
          show _ ≠ _
          rw [hg0]
          intro e
          exact hz (Option.some.inj e)
        clear hz hg0
        go_enter Tryz.func104, Tryz.ntmps104
        go_wp2_with fail
        refine (in_any _ _ _ _).mono ?_
        rintro e w1 ⟨rfl, rfl⟩
        rw [HI.out]
        go_wp2
        go_loop [3, 4] (fun v i => ∃ k n : Nat, k ≤ s.size ∧ n ≤ 99 ∧ (k ≤ 1 → n ≤ 9) ∧ (k = 0 → n = 0) ∧ v = .int .i64 (n : Int) ∧ i = .int .i64 (k : Int) ∧ Hid ((s.data.toList.take k).all dgt = true) ∧ Hid (n = valD (s.data.toList.take k))) (fun _ i => s.size - (intOf i).toNat)
        case atStart => exact ⟨0, 0, Nat.zero_le _, by omega, fun _ => by omega, fun _ => rfl, by go_num, by go_num, rfl, rfl⟩
        case round =>
          obtain ⟨k, n, hk, hn, hn1, hn0, rfl, rfl, HA, HV⟩ := hrel
          by_cases hlt : k < s.size
          · have k0 : (0 : Int) ≤ (k : Int) := by omega
            have k1 : (k : Int) < (s.size : Int) := by omega
            have hn9 : n ≤ 9 := hn1 (by omega)
            have hgk : s.data.toList[k]? = some s[k] := by
              rw [List.getElem?_eq_getElem (by rw [HL.out]; omega)]
              rfl
            have HGK := Lib.hid hgk
            have HNN := Lib.hid (And.intro hn1 hn0)
            clear hgk hn1 hn0
            by_cases hd : dgt s[k] = true
            · have hc := of_decide_eq_true hd
              have c1 : ¬ (s[k].toNat : Int) < 48 := by omega
              have c2 : ¬ (57 : Int) < (s[k].toNat : Int) := by omega
              obtain ⟨d, hdd⟩ : ∃ d, s[k].toNat - 48 = d := ⟨_, rfl⟩
              have hd9 : d ≤ 9 := by omega
              have E1 : (s[k].toNat : Int) - 48 = (d : Int) := by omega
              have hd255 : (d : Int) ≤ 255 := by omega
              have hd0 : (0 : Int) ≤ (d : Int) := by omega
              have n9 : (n : Int) ≤ 9 := by omega
              have n0 : (0 : Int) ≤ (n : Int) := by omega
              have HD := Lib.hid hd
              have HDD := Lib.hid hdd
              clear hd hdd hc
              go_wp2
              go_round
              case rel =>
                have e1 : s.data.toList.take (k + 1) = s.data.toList.take k ++ [s[k]] := by
                  rw [List.take_add_one, HGK.out]
                  rfl
                refine ⟨k + 1, 10 * n + d, by omega, by omega, fun h => ?_, fun h => by omega, by go_num, by go_num, all_tk' dgt _ k _ HGK.out HA.out HD.out, ?_⟩
                · have := HNN.out.2 (by omega); omega
                · show _ = _
                  rw [e1, valD_snoc, ← HV.out, HDD.out]
              case measure => simp [intOf]; omega
            · have hd' : dgt s[k] = false := Bool.eq_false_iff.2 hd
              have HN : Hid (numI s.data.toList = -1) := numI_none (numO_bad HGK.out hd' HS.out)
              have hc : ¬ (48 ≤ s[k].toNat ∧ s[k].toNat ≤ 57) := of_decide_eq_false hd'
              clear hd hd'
              by_cases c1 : (s[k].toNat : Int) < 48
              · clear hc
                go_wp2
                go_ret
                exact ⟨ret_int HN.out.symm, rfl⟩
              · have c2 : (57 : Int) < (s[k].toNat : Int) := by omega
                clear hc
                go_wp2
                go_ret
                exact ⟨ret_int HN.out.symm, rfl⟩
          · have hkk : k = s.size := by omega
            have HN : Hid (numI s.data.toList = (n : Int)) := by
              have h1 := HA.out
              have h2 := HV.out
              rw [List.take_of_length_le (by rw [HL.out]; omega)] at h1 h2
              rw [h2]
              exact numI_some (numO_all (by rw [HL.out]; omega) (by rw [HL.out]; omega) H48.out h1)
            have k1 : ¬ (k : Int) < (s.size : Int) := by omega
            clear hkk hn1 hn0
            go_wp2
            go_ret
            exact ⟨ret_int HN.out.symm, rfl⟩
    · have hin : inB (s.size : Int) 1 2 = false := inB_no (by omega)
      have HI := Lib.hid hin
      have HN : Hid (numI s.data.toList = -1) := numI_none (numO_len (by rw [HL.out]; exact hlen))
      clear hin hlen
      go_enter Tryz.func104, Tryz.ntmps104
      go_wp2_with fail
      refine (in_any _ _ _ _).mono ?_
      rintro e w1 ⟨rfl, rfl⟩
      rw [HI.out]
      go_wp2
      go_ret
      exact ⟨ret_int HN.out.symm, rfl⟩

theorem part_len {p : List UInt8} (h : 2 < (cut 58 p).length) : partO p = none := by
  unfold partO
  match hc : cut 58 p, h with
  | [], h => simp at h
  | [a], h => simp at h
  | [a, b], h => simp at h
  | a :: b :: c :: t, h => rfl
theorem part_two {p : List UInt8} (h1 : 1 ≤ (cut 58 p).length) (h : (cut 58 p).length ≤ 2) :
    partO p = match numO ((cut 58 p).getD 0 []), numO ((cut 58 p).getD ((cut 58 p).length - 1) []) with
      | some m, some n => some (m, n)
      | _, _ => none := by
  unfold partO
  match hc : cut 58 p, h1, h with
  | [a], _, _ =>
    show (match numO a with
      | some m => some (m, m)
      | none => none) = match numO a, numO a with
      | some m, some n => some (m, n)
      | _, _ => none
    cases numO a <;> rfl
  | [a, b], _, _ => rfl
  | a :: b :: c :: t, _, h => simp at h
theorem part_nat {p : List UInt8} (h1 : 1 ≤ (cut 58 p).length) (h : (cut 58 p).length ≤ 2) (h2 : 0 ≤ numI ((cut 58 p).getD 0 [])) (h3 : 0 ≤ numI ((cut 58 p).getD ((cut 58 p).length - 1) [])) :
    ∃ m n : Nat, partO p = some (m, n) ∧ numI ((cut 58 p).getD 0 []) = (m : Int) ∧ numI ((cut 58 p).getD ((cut 58 p).length - 1) []) = (n : Int) := by
  have e := part_two h1 h
  cases hm : numO ((cut 58 p).getD 0 []) with
  | none => rw [numI_none hm] at h2; omega
  | some m =>
    cases hn : numO ((cut 58 p).getD ((cut 58 p).length - 1) []) with
    | none => rw [numI_none hn] at h3; omega
    | some n => exact ⟨m, n, by rw [e, hm, hn], numI_some hm, numI_some hn⟩
theorem part_neg {p : List UInt8} (h1 : 1 ≤ (cut 58 p).length) (h : (cut 58 p).length ≤ 2) (h2 : numI ((cut 58 p).getD 0 []) < 0 ∨ numI ((cut 58 p).getD ((cut 58 p).length - 1) []) < 0) : partO p = none := by
  have e := part_two h1 h
  cases hm : numO ((cut 58 p).getD 0 []) with
  | none => rw [e, hm]
  | some m =>
    cases hn : numO ((cut 58 p).getD ((cut 58 p).length - 1) []) with
    | none => rw [e, hm, hn]
    | some n =>
      rw [numI_some hm, numI_some hn] at h2
      omega
theorem set_of_none {L : List UInt8} (h : listO (cut 44 L) = none) : setO L = none := by unfold setO; rw [h]; rfl
theorem set_of_some {L : List UInt8} {P : List (Nat × Nat)} (h : listO (cut 44 L) = some P) : setO L = if P.length ≤ 6 then some P else none := by unfold setO; rw [h]; rfl

theorem spec_num_at {l : List UInt8} {z : Int} (h : numI l = z) (w : World) (hl : l.length ≤ 16777216) : Calls Tryz.prog 104 #[.string ⟨l.toArray⟩] w fun e w' => e = .returned (.int .i64 z) ∧ w = w' := by
  subst h
  exact spec_number ⟨l.toArray⟩ w hl
theorem Own.lit' (w : World) {B : Nat} (N : Nat) (hB : B ≤ w.heap.size) (hN : w.heap.size = N) : Own (w.alloc (.cells #[] 108)) B (.slice (some ⟨N, 0, none⟩) 0 0) [] := hN ▸ Own.lit w hB
theorem two_new' (w : World) (x y : Value) (t : TypeId) (N : Nat) (hN : w.heap.size = N) : ∀ j u, [x, y][j]? = some u → (w.alloc (.cells #[x, y] t)).cell? ((⟨N, 0, none⟩ : Addr).add j) = some u := hN ▸ two_new w x y t
theorem two_one (x y : Int) : ∀ u ∈ [Value.int .i64 x, Value.int .i64 y], u.oneCell' = true := by
  intro u hu
  simp at hu
  rcases hu with rfl | rfl <;> rfl
theorem below_drew' {B : Nat} {a w : World} (h : Below B a w) : Below B a w.drew := ⟨h.os, h.tape, h.output, h.size, h.block⟩
theorem cell_drew (w : World) (p : Addr) : w.drew.cell? p = w.cell? p := rfl
set_option maxRecDepth 20000 in
set_option maxHeartbeats 4000000 in
theorem spec_setparse (s : ByteArray) (w : World) (hs : s.size ≤ 16777216) :
    Calls Tryz.prog 89 #[.string s] w (ParsedS w (setO s.data.toList)) := by
  have hl : s.data.toList.length = s.size := by simp
  have HL := Lib.hid hl
  clear hl
  obtain ⟨i0, hi, hq0, hq1, hq2⟩ := info_parts Tryz.infoSpan
  go_enter Tryz.func89, Tryz.ntmps89
  go_wp2_with fail
  refine (cut_any s 44 _ hs).mono ?_
  rintro e w1 ⟨g, cap, rfl, hg, hgl, hc, hb⟩
  have ez : (w.alloc (.cells #[] 108)).heap.size = w.heap.size + 1 := by simp
  rw [ez] at hg hb
  have hcl := cut_len 44 s.data.toList
  rw [HL.out] at hcl
  have hle : ∀ x ∈ cut 44 s.data.toList, x.length ≤ s.size := fun x hx => by have := cut_le hx; rw [HL.out] at this; exact this
  obtain ⟨ps, hps⟩ : ∃ ps, cut 44 s.data.toList = ps := ⟨_, rfl⟩
  have HP : Hid (cut 44 s.data.toList = ps) := hps
  rw [hps] at hc hcl hle ⊢
  obtain ⟨n, hn⟩ : ∃ n, ps.length = n := ⟨_, rfl⟩
  rw [hn] at hc hcl ⊢
  have HN := Lib.hid hn
  have HLE := Lib.hid hle
  have HC := Lib.hid hc
  have HB := Lib.hid (((Below.refl w.heap.size w).alloc (Nat.le_refl _) (.cells #[] 108)).trans (hb.mono (Nat.le_succ _)))
  have HO := Lib.hid ((Own.lit w (Nat.le_refl _)).kept (hb.mono (by simp)))
  clear hps hn hle hc hb ez
  go_wp2
  go_loopw [4, 6] (fun v i wr => ∃ (k : Nat) (P : List (Nat × Nat)), k ≤ n ∧ i = .int .i64 (k : Int) ∧ P.length = k ∧ Hid (g < wr.heap.size ∧ wr.heap[g]? = w1.heap[g]? ∧ v.ownBlock ≠ some g) ∧ Hid (w.heap.size ≤ wr.heap.size ∧ Below w.heap.size w wr) ∧ Hid (Own wr w.heap.size v (up P)) ∧ Hid (listO (ps.take k) = some P)) (fun _ i _ => n - (intOf i).toNat)
  case atStart => exact ⟨0, [], Nat.zero_le _, by go_num, rfl, ⟨hgl, rfl, by simp [Value.ownBlock]; omega⟩, ⟨HB.out.size, HB.out⟩, HO.out, rfl⟩
  case round =>
    obtain ⟨k, P, hk, rfl, hP, HB1, HBB, HO, HLI⟩ := hrel
    obtain ⟨A, cap', rfl, hcl', hcm', hsp⟩ := HO.out.form
    have HSP := Lib.hid hsp
    have hbz := HBB.out.1
    clear hsp hcl' hcm'
    by_cases hlt : k < n
    · have h0 : (0 : Int) ≤ (k : Int) := by omega
      have h5 : (k : Int) < (n : Int) := by omega
      have hcell : wr.cell? ⟨g, k, none⟩ = some (str (ps.getD k [])) := (World.cell?_of_block (a := ⟨g, k, none⟩) HB1.out.2.1).trans (HC.out k hlt)
      obtain ⟨x, hx⟩ : ∃ x, ps.getD k [] = x := ⟨_, rfl⟩
      have hxk : Hid (∃ h : k < ps.length, ps[k] = x) := by
        refine ⟨by rw [HN.out]; exact hlt, ?_⟩
        rw [← hx, List.getD_eq_getElem?_getD, List.getElem?_eq_getElem (by rw [HN.out]; exact hlt)]
        rfl
      have hxl : x.length ≤ s.size := by
        obtain ⟨h1, h2⟩ := hxk.out
        exact HLE.out x (h2 ▸ List.getElem_mem h1)
      have hxs : (⟨x.toArray⟩ : ByteArray).size ≤ 16777216 := by show x.length ≤ _; omega
      rw [hx] at hcell
      unfold str at hcell
      clear hx
      go_wp2_with fail
      refine (cut_any ⟨x.toArray⟩ 58 _ hxs).mono ?_
      rintro e w2 ⟨g2, cap2, rfl, hg2, hgl2, hc2, hb2⟩
      rw [str_back] at hc2 ⊢
      have hcl2 := (cut_len 58 x).1
      have hcl3 : (cut 58 x).length ≤ 16777217 := by have := (cut_len 58 x).2; omega
      have hle2 : ∀ y ∈ cut 58 x, y.length ≤ 16777216 := fun y hy => by have := cut_le hy; omega
      obtain ⟨es, hes⟩ : ∃ es, cut 58 x = es := ⟨_, rfl⟩
      rw [hes] at hc2 hcl2 hcl3 hle2 ⊢
      obtain ⟨n2, hn2⟩ : ∃ n2, es.length = n2 := ⟨_, rfl⟩
      rw [hn2] at hc2 hcl2 hcl3 ⊢
      obtain ⟨m2, hm2⟩ : ∃ m2, n2 - 1 = m2 := ⟨_, rfl⟩
      have hm2' : m2 < n2 := by omega
      have E1 : (n2 : Int) - 1 = (m2 : Int) := by omega
      have d0 : (0 : Int) < (n2 : Int) := by omega
      have d0n : 0 < n2 := by omega
      have d1 : (0 : Int) ≤ (m2 : Int) := by omega
      have d2 : (m2 : Int) < (n2 : Int) := by omega
      have d3 : (1 : Int) ≤ (n2 : Int) := by omega
      have c0 := hc2 0 (by omega)
      have c1 := hc2 m2 hm2'
      obtain ⟨l0, hl0⟩ : ∃ l, es.getD 0 [] = l := ⟨_, rfl⟩
      obtain ⟨l1, hl1⟩ : ∃ l, es.getD m2 [] = l := ⟨_, rfl⟩
      have hs0 : l0.length ≤ 16777216 := hle2 l0 (part_mem [] (by omega) hl0)
      have hs1 : l1.length ≤ 16777216 := hle2 l1 (part_mem [] (by omega) hl1)
      rw [hl0] at c0
      rw [hl1] at c1
      unfold str at c0 c1
      obtain ⟨z0, hz0⟩ : ∃ z, numI l0 = z := ⟨_, rfl⟩
      obtain ⟨z1, hz1⟩ : ∃ z, numI l1 = z := ⟨_, rfl⟩
      have HZ0 := Lib.hid hz0
      have HZ1 := Lib.hid hz1
      have HE : Hid (cut 58 x = es ∧ es.length = n2 ∧ n2 - 1 = m2 ∧ es.getD 0 [] = l0 ∧ es.getD m2 [] = l1) := ⟨hes, hn2, hm2, hl0, hl1⟩
      have HB2 : Hid (g < w2.heap.size ∧ w2.heap[g]? = w1.heap[g]?) := ⟨Nat.lt_of_lt_of_le HB1.out.1 hb2.size, (hb2.block g HB1.out.1).trans HB1.out.2.1⟩
      have HBB2 := Lib.hid (HBB.out.2.trans (hb2.mono HBB.out.1))
      have HO2 := Lib.hid (HO.out.kept hb2)
      have hz2 : w.heap.size ≤ w2.heap.size := Nat.le_trans hbz hb2.size
      have nn0 := World.new_ne w2 _ c0
      have nn1 := World.new_ne w2 _ c1
      have W1 : IntKind.i64.wrap ((n2 : Int) - 1) = (m2 : Int) := by rw [E1]; exact IntWalk.i64_in _ (by omega)
      have W3 : IntKind.i64.wrap (m2 : Int) = (m2 : Int) := IntWalk.i64_in _ (by omega)
      clear hes hn2 hm2 hl0 hl1 hz0 hz1 hb2 hle2 hc2 hcell
      go_wp2
      go_region_held3 (fun w' => w'.cell? ⟨g2, 0, none⟩ = some (.string ⟨l0.toArray⟩) ∧ w'.cell? ⟨g2, m2, none⟩ = some (.string ⟨l1.toArray⟩)) (go_keep) (first | (go_at_call_of 104 l0; refine (spec_num_at HZ0.out _ hs0).mono ?_; rintro e w5 ⟨rfl, rfl⟩) | (go_at_call_of 104 l1; refine (spec_num_at HZ1.out _ hs1).mono ?_; rintro e w5 ⟨rfl, rfl⟩))
      all_goals
        clear nn0 nn1 W1 W3
        have HB3 := Lib.hid (HBB2.out.alloc hz2 (.cells #[.int .i64 z0, .int .i64 z1] 108))
        by_cases hbig : 2 < n2
        · have hbig' : (2 : Int) < (n2 : Int) := by omega
          have HNO : Hid (setO s.data.toList = none) := by
            obtain ⟨a1, a2, a3, a4, a5⟩ := HE.out
            obtain ⟨h1, h2⟩ := hxk.out
            refine set_of_none ?_
            rw [HP.out]
            exact listO_none ps k h1 (by rw [h2]; exact part_len (by rw [a1, a2]; exact hbig))
          clear hbig
          go_wp2
          go_ret2
          exact parsedS_no HNO.out (Own.lit' (w2.alloc _) _ (by simp; omega) (by simp)) (below_drew' (HB3.out.alloc (by simp; omega) _))
        · have hbig' : ¬ (2 : Int) < (n2 : Int) := by omega
          by_cases hneg : z0 < 0 ∨ z1 < 0
          · have HNO : Hid (setO s.data.toList = none) := by
              obtain ⟨a1, a2, a3, a4, a5⟩ := HE.out
              obtain ⟨h1, h2⟩ := hxk.out
              refine set_of_none ?_
              rw [HP.out]
              exact listO_none ps k h1 (by rw [h2]; exact part_neg (by rw [a1, a2]; omega) (by rw [a1, a2]; omega) (by rw [a1, a2, a3, a4, a5, HZ0.out, HZ1.out]; exact hneg))
            clear hbig
            by_cases hn0 : z0 < 0
            · clear hneg
              go_wp2
              go_ret2
              exact parsedS_no HNO.out (Own.lit' (w2.alloc _) _ (by simp; omega) (by simp)) (below_drew' (HB3.out.alloc (by simp; omega) _))
            · have hn1 : z1 < 0 := by omega
              clear hneg
              go_wp2
              go_ret2
              exact parsedS_no HNO.out (Own.lit' (w2.alloc _) _ (by simp; omega) (by simp)) (below_drew' (HB3.out.alloc (by simp; omega) _))
          · have hp0 : 0 ≤ z0 := by omega
            have hp1 : 0 ≤ z1 := by omega
            obtain ⟨m, q, hpart, hm, hq⟩ : ∃ m q : Nat, partO x = some (m, q) ∧ z0 = (m : Int) ∧ z1 = (q : Int) := by
              obtain ⟨a1, a2, a3, a4, a5⟩ := HE.out
              have := part_nat (p := x) (by rw [a1, a2]; omega) (by rw [a1, a2]; omega) (by rw [a1, a4, HZ0.out]; exact hp0) (by rw [a1, a2, a3, a5, HZ1.out]; exact hp1)
              rw [a1, a2, a3, a4, a5, HZ0.out, HZ1.out] at this
              exact this
            have HPART := Lib.hid hpart
            subst hm
            subst hq
            clear hneg hpart hbig
            have hown := (HO2.out.alloc (.cells #[.int .i64 (m : Int), .int .i64 (q : Int)] 108)).alloc (.cells #[.int .i64 (m : Int), .int .i64 (q : Int)] 108)
            have hup : (up P).length ≤ 16777217 := by rw [up_len]; omega
            have hnews := two_new' (w2.alloc (.cells #[.int .i64 (m : Int), .int .i64 (q : Int)] 108)) (.int .i64 (m : Int)) (.int .i64 (q : Int)) 108 (w2.heap.size + 1) (by simp)
            have hml : (up P).length + 1 ≤ maxLen := by unfold maxLen; omega
            have hby : ((up P).length + 1) * 16 ≤ 140737488355328 := by omega
            have hba : w.heap.size ≤ ((w2.alloc (.cells #[.int .i64 (m : Int), .int .i64 (q : Int)] 108)).alloc (.cells #[.int .i64 (m : Int), .int .i64 (q : Int)] 108)).heap.size := by simp; omega
            go_wp2_with (at_builtin; refine wpList_append_own_at _ rfl _ _ 24 rfl w.heap.size 108 i0 (.agg #[.int .i64 0, .int .i64 0]) 2 16 Tryz.underlying24 hi hq0 hq1 hq2 rfl (by decide) _ _ _ rfl (hown.row rfl) ⟨w2.heap.size + 1, 0, none⟩ 1 1 [.int .i64 (m : Int), .int .i64 (q : Int)] rfl rfl hnews (two_one _ _) hml hby hba ?_)
            intro v' w5 hown2 hgrow _ hat
            have hrow : ∀ z, Value.ownBlock (.slice A (up P).length cap') = some z → w.heap.size ≤ z := fun z hz => (World.ownsRow.lt hown z hz).1
            have HBB5 := Lib.hid ((below_drew' (HB3.out.alloc (by simp; omega) (.cells #[.int .i64 (m : Int), .int .i64 (q : Int)] 108))).grown hgrow (by simp; omega) hrow)
            have HO5 := Lib.hid (Own.push hown2 rfl)
            have hgb : g < (((w2.alloc (.cells #[.int .i64 (m : Int), .int .i64 (q : Int)] 108)).alloc (.cells #[.int .i64 (m : Int), .int .i64 (q : Int)] 108)).drew).heap.size := by have := HB2.out.1; simp; omega
            have HG5 : Hid (g < w5.heap.size ∧ w5.heap[g]? = w1.heap[g]? ∧ v'.ownBlock ≠ some g) := by
              refine ⟨Nat.lt_of_lt_of_le hgb hgrow.size, (hgrow.block g hgb (fun e => HB1.out.2.2 e.symm)).trans ?_, ?_⟩
              · refine Eq.trans ?_ HB2.out.2
                exact (Below.heap_alloc _ _ g (by have := HB2.out.1; simp; omega)).trans (Below.heap_alloc _ _ g HB2.out.1)
              · rcases hat with h | h
                · rw [h]; exact HB1.out.2.2
                · rw [h]
                  intro e
                  have h8 := HB2.out.1
                  have := Option.some.inj e
                  omega
            clear hown2 hgrow hown hrow hat hgb hnews hml hby hba
            go_wp2
            go_roundw
            case rel =>
              obtain ⟨h1, h2⟩ := hxk.out
              refine ⟨k + 1, P ++ [(m, q)], by omega, by go_num, by simp [hP], HG5, ⟨HBB5.out.size, HBB5.out⟩, ?_, ?_⟩
              · rw [up_snoc]; exact HO5
              · exact listO_take ps k P (m, q) h1 HLI.out (by rw [h2]; exact HPART.out)
            case measure => simp [intOf]; omega
    · have hkk : k = n := by omega
      have hall : listO ps = some P := by
        have h := HLI.out
        rw [List.take_of_length_le (by rw [HN.out]; omega)] at h
        exact h
      obtain ⟨hm1, hm2⟩ := listO_mem ps P hall
      have hP0 : P ≠ [] := by
        intro e
        subst e
        simp at hP
        omega
      have hset := up_set hm2 hP0
      have hso := set_of_some (L := s.data.toList) (P := P) (by rw [HP.out]; exact hall)
      have HSET := Lib.hid hset
      have HSO := Lib.hid hso
      clear hkk hall hm1 hm2 hP0 hset hso
      have hpb : (up P).length ≤ 33554432 := by rw [up_len]; omega
      by_cases h6 : P.length ≤ 6
      · have HD : Hid (setB (up P) = true) := by
          show _ = _
          rw [HSET.out]
          exact decide_eq_true h6
        have HSS : Hid (setO s.data.toList = some P) := by
          show _ = _
          rw [HSO.out, if_pos h6]
        clear h6
        go_wp2_with fail
        refine (spec_setvalid A cap' (up P) _ HSP.out hpb).mono ?_
        rintro e w2 ⟨rfl, rfl⟩
        rw [HD.out]
        go_wp2
        go_ret2
        exact parsedS_yes HSS.out HO.out HBB.out.2
      · have HD : Hid (setB (up P) = false) := by
          show _ = _
          rw [HSET.out]
          exact decide_eq_false h6
        have HSS : Hid (setO s.data.toList = none) := by
          show _ = _
          rw [HSO.out, if_neg h6]
        clear h6
        go_wp2_with fail
        refine (spec_setvalid A cap' (up P) _ HSP.out hpb).mono ?_
        rintro e w2 ⟨rfl, rfl⟩
        rw [HD.out]
        go_wp2
        go_ret2
        exact parsedS_no HSS.out (Own.lit' _ _ hbz rfl) (HBB.out.2.alloc hbz _)
end Go.Proofs.YtnfigpknejmkmaaGreatDoor
