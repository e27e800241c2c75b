/-
  My texts Head, Heade, Headf, Headg, Headl, Base, Math, Spec, Cut, Draw, Drawn, Draws, Nmath, Cursor, Domain, Addr, Impl, Parse, SpecB, Eq in one, so that a claim holds fewer files. Conditions: each contract's own.
-/
import Derived.Test.YtpihibconbejlaaDoorChecked
import GoSem.ClaimJoined
import Derived.JoinedOf
import Derived.KernelRfl
import Derived.WalkKit
import Derived.Deep.Draws
import Derived.Test.YtpihibconbejlaaDoorProg
import Derived.Deep.QuietTactic
import Derived.Deep.LoopGhost
import Derived.BigQuiet
import Derived.Lib.Hide
import Derived.Outline
import Derived.Maps.AppendAt
import Derived.Deep.AppendLies
import Derived.OpenShut
import Derived.RegionTactic
import Derived.BigRegion
namespace Go.Proofs.YtpihibconbejlaaDoor
open Go
set_option maxRecDepth 100000

/-- The blank. -/
def blank : Char := Char.ofNat 32
def signsOf {s : String} {l : List Char} (_h : s = String.ofList l) : List Char := l
theorem signsOf_eq {s : String} {l : List Char} (h : s = String.ofList l) : s.toList = signsOf h := by subst h; exact String.toList_ofList
theorem words_step (w r : List Char) (h : w.all (fun c => c != blank) = true) : wordsSigns (w ++ blank :: r) = w :: wordsSigns r := by
  induction w with
  | nil => rfl
  | cons c w ih =>
    rw [List.all_cons, Bool.and_eq_true] at h
    have hc : c ≠ blank := by simpa using h.1
    rw [List.cons_append]
    conv => lhs; unfold wordsSigns
    split
    · rename_i e; cases e
    · rename_i e; injection e with e1 e2; exact absurd e1 hc
    · rename_i e
      injection e with e1 e2
      subst e1 e2
      rw [ih h.2]

def signs : List Char := signsOf (s := Tryd.prog.initOrder) (l := _) rfl
theorem signs_eq : Tryd.prog.initOrder.toList = signs := signsOf_eq (s := Tryd.prog.initOrder) (l := _) rfl
theorem signs0 : signs = signs.take 7 ++ blank :: signs.drop 8 := by kernel_rfl
theorem signs1 : signs.drop 8 = (signs.drop 8).take 64 ++ blank :: signs.drop 73 := by kernel_rfl
theorem signs2 : signs.drop 73 = (signs.drop 73).take 3 ++ blank :: signs.drop 77 := by kernel_rfl
theorem words_eq : wordsSigns signs = signs.take 7 :: (signs.drop 8).take 64 :: (signs.drop 73).take 3 :: wordsSigns (signs.drop 77) := by
  conv => lhs; rw [signs0]
  rw [words_step _ _ (by kernel_rfl)]
  conv => lhs; rw [signs1]
  rw [words_step _ _ (by kernel_rfl)]
  conv => lhs; rw [signs2]
  rw [words_step _ _ (by kernel_rfl)]
theorem behind_of {h t : List Char} {r : List (List Char)} (hh : ((h == "harness".toList || h == "ownmain".toList) && isSumSigns t) = true) : behindMainWord (h :: t :: r) = r := by
  unfold behindMainWord
  simp only [hh, if_true]
theorem behind_eq : behindMainWord (wordsSigns Tryd.prog.initOrder.toList) = (signs.drop 73).take 3 :: wordsSigns (signs.drop 77) := by
  rw [signs_eq, words_eq]
  exact behind_of (by kernel_rfl)
theorem make_of {P : Program} {c : List Char} {r : List (List Char)} (h : behindMainWord (wordsSigns P.initOrder.toList) = c :: r) (h1 : (c == "gc".toList || c == "spec".toList) = false) (h2 : (c == "cut".toList) = true) : P.make = some .cut := by
  unfold Program.make
  rw [h]
  simp only [h1, h2, Bool.true_or, if_true, Bool.false_eq_true, if_false]
theorem make_eq : Tryd.prog.make = some .cut := make_of behind_eq (by kernel_rfl) (by kernel_rfl)
end Go.Proofs.YtpihibconbejlaaDoor
namespace Go.Proofs.YtpihibconbejlaaDoor
open Go
set_option maxRecDepth 100000
theorem lays_eq : Tryd.prog.laysLater = false := by kernel_rfl
end Go.Proofs.YtpihibconbejlaaDoor
namespace Go.Proofs.YtpihibconbejlaaDoor
open Go
set_option maxRecDepth 100000
theorem refl_eq : Tryd.prog.bearsReflect = false := by kernel_rfl
end Go.Proofs.YtpihibconbejlaaDoor
namespace Go.Proofs.YtpihibconbejlaaDoor
open Go
set_option maxRecDepth 100000
theorem door_eq : Tryd.prog.doorFits [] = true := by kernel_rfl
end Go.Proofs.YtpihibconbejlaaDoor
namespace Go.Proofs.YtpihibconbejlaaDoor
open Go
set_option maxRecDepth 100000
theorem lifts_eq : Tryd.prog.liftsFinal = false := by
  unfold Program.liftsFinal Program.headLifts
  rw [behind_eq]
  generalize wordsSigns (signs.drop 77) = X
  kernel_rfl
theorem strip_eq (X : List (List Char)) : stripLifts liftWords ((signs.drop 73).take 3 :: X) = ([], (signs.drop 73).take 3 :: X) := by
  have h : ∀ (os : List String) (c : List Char), os.all (fun o => c != o.toList) = true → stripLifts os (c :: X) = ([], c :: X) := by
    intro os c
    induction os with
    | nil => intro _; rfl
    | cons o os ih =>
      intro ha
      rw [List.all_cons, Bool.and_eq_true] at ha
      have hne : (c == o.toList) = false := by simpa using ha.1
      unfold stripLifts
      rw [if_neg (by rw [hne]; decide)]
      exact ih ha.2
  exact h _ _ (by kernel_rfl)
theorem enter_of {P : Program} {c : List Char} {r : List (List Char)} (h : behindMainWord (wordsSigns P.initOrder.toList) = c :: r) (h1 : (c == "gc".toList || c == "spec".toList) = false) (h2 : (c == "carried".toList) = false)
    (hs : stripLifts liftWords (c :: r) = ([], c :: r)) (hc : (c == "cut".toList) = true) (hl : P.laysLater = false) (hr : P.bearsReflect = false) (hd : P.doorFits [] = true) : P.mayEnter = true := by
  have hc' : c = "cut".toList := by simpa using hc
  unfold Program.mayEnter
  rw [h]
  simp only [hs, h1, h2, hl, hr, hd, List.head?_cons, Bool.false_and, Bool.false_or, Bool.not_false, Bool.or_true, Bool.and_true, List.contains_nil]
  rw [hc']
  exact beq_self_eq_true _
theorem enter_eq : Tryd.prog.mayEnter = true := enter_of behind_eq (by kernel_rfl) (by kernel_rfl) (strip_eq _) (by kernel_rfl) lays_eq refl_eq door_eq
end Go.Proofs.YtpihibconbejlaaDoor
namespace Go.Proofs.YtpihibconbejlaaDoor
open Go.RowKit

/-- Block 'b' is just the cells 'cs' of element type 't', none of them frozen. -/
def Whole (w : World) (b : Nat) (t : TypeId) (cs : Array Value) : Prop := w.heap[b]? = some (.cells cs t (0, 0))

section
variable {w w' a : World} {b : Nat} {t : TypeId} {cs : Array Value}

theorem Whole.lt (h : Whole w b t cs) : b < w.heap.size := by
  rcases Nat.lt_or_ge b w.heap.size with hl | hg
  · exact hl
  · unfold Whole at h; rw [Array.getElem?_eq_none hg] at h; cases h
theorem Whole.cell (h : Whole w b t cs) (i : Nat) : w.cell? ⟨b, i, none⟩ = cs[i]? := cell_of_row w b i cs t (0, 0) h
theorem Whole.free (h : Whole w b t cs) (i : Nat) : w.frozen? ⟨b, i, none⟩ = false := by
  unfold Whole at h
  simp [World.frozen?, h]
theorem Whole.made (w : World) (t : TypeId) (cs : Array Value) : Whole (w.alloc (.cells cs t)) w.heap.size t cs := heap_alloc_new w _
theorem Whole.drewN (h : Whole w b t cs) (n : Nat) : Whole (w.drewN n) b t cs := h
theorem Whole.drew (h : Whole w b t cs) : Whole w.drew b t cs := h
theorem Whole.alloc (h : Whole w b t cs) (o : Obj) : Whole (w.alloc o) b t cs := (Below.heap_alloc w o b h.lt).trans h
theorem Whole.store (h : Whole w b t cs) (i : Nat) (u : Value) : Whole (w.setCell ⟨b, i, none⟩ u) b t (cs.setIfInBounds i u) := by
  unfold Whole at h ⊢
  simp [World.setCell, Array.getElem?_modify, h]
theorem Whole.apart (h : Whole w b t cs) {p : Addr} (hp : b ≠ p.block) (u : Value) : Whole (w.setCell p u) b t cs := (Below.heap_setCell w p u b hp).trans h
theorem Whole.below {B : Nat} (h : Whole w b t cs) (hb : Below B w w') (hl : b < B) : Whole w' b t cs := (hb.block b hl).trans h
theorem Whole.grown {row : Option Nat} (h : Whole w b t cs) (hg : w.grownBy w' row) (hn : some b ≠ row) : Whole w' b t cs := (hg.block b h.lt hn).trans h

theorem gr_refl (w : World) (row : Option Nat) : w.grownBy w row := World.grownBy.refl w row
theorem gr_trans {c : World} {row : Option Nat} (h : a.grownBy w row) (k : w.grownBy c row) : a.grownBy c row :=
  ⟨k.os.trans h.os, k.tape.trans h.tape, k.output.trans h.output, Nat.le_trans h.size k.size, fun i hi hn => (k.block i (Nat.lt_of_lt_of_le hi h.size) hn).trans (h.block i hi hn)⟩
theorem gr_drewN {row : Option Nat} (h : a.grownBy w row) (n : Nat) : a.grownBy (w.drewN n) row := ⟨h.os, h.tape, h.output, h.size, h.block⟩
theorem gr_drew {row : Option Nat} (h : a.grownBy w row) : a.grownBy w.drew row := ⟨h.os, h.tape, h.output, h.size, h.block⟩
theorem gr_alloc {row : Option Nat} (h : a.grownBy w row) (o : Obj) : a.grownBy (w.alloc o) row :=
  ⟨h.os, h.tape, h.output, Nat.le_trans h.size (by simp), fun i hi hn => (Below.heap_alloc w o i (Nat.lt_of_lt_of_le hi h.size)).trans (h.block i hi hn)⟩
theorem gr_store {g : Nat} (h : a.grownBy w (some g)) {p : Addr} (hp : p.block = g ∨ a.heap.size ≤ p.block) (u : Value) : a.grownBy (w.setCell p u) (some g) :=
  ⟨h.os, h.tape, h.output, by simpa [World.setCell] using h.size, fun i hi hn => (Below.heap_setCell w p u i (by
    rintro rfl
    rcases hp with hp | hp
    · exact hn (by rw [hp])
    · omega)).trans (h.block i hi hn)⟩
theorem gr_below (h : Below a.heap.size a w) (row : Option Nat) : a.grownBy w row := ⟨h.os, h.tape, h.output, h.size, fun i hi _ => h.block i hi⟩
theorem below_drewN' {B : Nat} (h : Below B a w) (n : Nat) : Below B a (w.drewN n) := ⟨h.os, h.tape, h.output, h.size, h.block⟩
theorem below_gr {B g : Nat} (h : Below B a w) (hg : w.grownBy w' (some g)) (hB : B ≤ w.heap.size) (hb : B ≤ g) : Below B a w' :=
  h.grown hg hB (fun k hk => by cases hk; exact hb)
end

theorem ret_bool {a b : Bool} (h : a = b) : Ending.returned (.bool a) = .returned (.bool b) := by rw [h]
theorem noEmpty {v : ByteArray} (h : v.size ≠ 0) : v.toList.isEmpty = false ∧ ¬ v.toList = [] := by
  have hn : ¬ v.toList = [] := by
    rw [ByteArray.toList_eq]
    intro e
    have : v.data.toList.length = 0 := by rw [e]; rfl
    exact h (by simpa using this)
  refine ⟨?_, hn⟩
  cases he : v.toList with
  | nil => exact absurd he hn
  | cons _ _ => rfl
theorem isEmpty {v : ByteArray} (h : v.size = 0) : v.toList.isEmpty = true ∧ v.toList = [] := by
  have hn : v.toList = [] := by
    rw [ByteArray.toList_eq]
    exact List.eq_nil_of_length_eq_zero (by simpa using h)
  exact ⟨by rw [hn]; rfl, hn⟩
end Go.Proofs.YtpihibconbejlaaDoor
namespace Go.Proofs.YtpihibconbejlaaDoor

/-- A sign of a name. -/
def sgn (c : UInt8) : Bool := decide ((97 ≤ c.toNat ∧ c.toNat ≤ 122) ∨ (48 ≤ c.toNat ∧ c.toNat ≤ 57))
/-- A name. -/
def nameB (l : List UInt8) : Bool := l.all sgn && decide (1 ≤ l.length) && decide (l.length ≤ 8)
/-- How many signs of a name follow from place 'k' on. -/
def nmLen (L : List UInt8) (k : Nat) : Nat := ((L.drop k).takeWhile sgn).length

theorem nmLen_go (L : List UInt8) (k : Nat) (h : k < L.length) (hs : sgn L[k] = true) : nmLen L k = nmLen L (k + 1) + 1 := by
  unfold nmLen
  rw [List.drop_eq_getElem_cons h, List.takeWhile_cons, if_pos hs, List.length_cons]
theorem nmLen_stop (L : List UInt8) (k : Nat) (h : k < L.length) (hs : sgn L[k] = false) : nmLen L k = 0 := by
  unfold nmLen
  rw [List.drop_eq_getElem_cons h, List.takeWhile_cons, if_neg (by simp [hs])]
  rfl
theorem nmLen_end (L : List UInt8) (k : Nat) (h : L.length ≤ k) : nmLen L k = 0 := by
  unfold nmLen
  rw [List.drop_eq_nil_of_le h]
  rfl
theorem nmLen_le (L : List UInt8) (k : Nat) (h : k ≤ L.length) : k + nmLen L k ≤ L.length := by
  unfold nmLen
  have h1 := (List.takeWhile_sublist sgn (l := L.drop k)).length_le
  rw [List.length_drop] at h1
  omega

/-- The length of a name. -/
def okLen (n : Nat) : Bool := decide (1 ≤ n) && decide (n ≤ 8)

/-- The next byte is 'c'. -/
def nextIs (L : List UInt8) (k : Nat) (c : UInt8) : Bool := L[k]? == some c
/-- Further names of a domain, at most 'n' of them; whether the last one was a name, and where they end. -/
def domGo (L : List UInt8) : Nat → Bool → Nat → Bool × Nat
  | 0, ok, k => (ok, k)
  | n + 1, ok, k => if ok && nextIs L k 46 then domGo L n (okLen (nmLen L (k + 1))) (k + 1 + nmLen L (k + 1)) else (ok, k)
/-- Where the names of a domain end. -/
def domEnd (L : List UInt8) (k : Nat) : Nat := (domGo L 2 (okLen (nmLen L k)) (k + nmLen L k)).2
/-- Whether a domain stands from place 'k' on. -/
def domOk (L : List UInt8) (k : Nat) : Bool := (domGo L 2 (okLen (nmLen L k)) (k + nmLen L k)).1 && decide (domEnd L k - k ≤ 20)

/-- Whether a user, an at sign and a domain stand from place 'k' on. -/
def adOk (L : List UInt8) (k : Nat) : Bool := okLen (nmLen L k) && nextIs L (k + nmLen L k) 64 && domOk L (k + nmLen L k + 1)
/-- Where the domain ends. -/
def adEnd (L : List UInt8) (k : Nat) : Nat := domEnd L (k + nmLen L k + 1)
/-- The user. -/
def adUser (L : List UInt8) (k : Nat) : List UInt8 := (L.drop k).take (nmLen L k)
/-- The domain. -/
def adDom (L : List UInt8) (k : Nat) : List UInt8 := (L.drop (k + nmLen L k + 1)).take (adEnd L k - (k + nmLen L k + 1))

/-- Whether the whole text is an address. -/
def apB (L : List UInt8) : Bool := adOk L 0 && decide (adEnd L 0 = L.length)
/-- Whether a path in brackets stands. -/
def ppB (L : List UInt8) : Bool := nextIs L 0 60 && adOk L 1 && nextIs L (adEnd L 1) 62 && decide (adEnd L 1 + 1 = L.length)

theorem domGo_off (L : List UInt8) (n k : Nat) : domGo L n false k = (false, k) := by cases n <;> rfl
theorem domGo_zero (L : List UInt8) (o : Bool) (k : Nat) : domGo L 0 o k = (o, k) := rfl
theorem domGo_no (L : List UInt8) (n k : Nat) (o : Bool) (h : nextIs L k 46 = false) : domGo L n o k = (o, k) := by
  cases n with
  | zero => rfl
  | succ n => unfold domGo; rw [h]; simp
theorem domGo_yes (L : List UInt8) (n k : Nat) (h : nextIs L k 46 = true) : domGo L (n + 1) true k = domGo L n (okLen (nmLen L (k + 1))) (k + 1 + nmLen L (k + 1)) := by
  conv => lhs; unfold domGo
  rw [h]; simp
theorem nextIs_lt {L : List UInt8} {k : Nat} {c : UInt8} (h : nextIs L k c = true) : k < L.length := by
  unfold nextIs at h
  rcases Nat.lt_or_ge k L.length with h1 | h1
  · exact h1
  · rw [List.getElem?_eq_none h1] at h; cases h

theorem int_beq (a b : Nat) : ((a : Int) == (b : Int)) = decide (a = b) := by
  rw [Bool.eq_iff_iff]; simp; omega
theorem extract_list (s : ByteArray) (a b : Nat) : (s.extract a b).data.toList = (s.data.toList.drop a).take (b - a) := by
  rw [ByteArray.data_extract, Array.toList_extract, List.extract_eq_take_drop]
end Go.Proofs.YtpihibconbejlaaDoor
namespace Go.Proofs.YtpihibconbejlaaDoor
open Go.RowKit
set_option linter.unusedVariables false

/-- 'n' lies between 'a' and 'b'. -/
def inB (n a b : Int) : Bool := decide (a ≤ n ∧ n ≤ b)
set_option maxHeartbeats 400000 in
theorem in_any (n a b : Int) (w : World) : Calls Tryd.prog 56 #[.int .i64 n, .int .i64 a, .int .i64 b] w fun e w' => e = .returned (.bool (inB n a b)) ∧ w = w' := by
  by_cases h1 : a ≤ n <;> by_cases h2 : n ≤ b
  all_goals
    go_enter Tryd.func56, Tryd.ntmps56
    go_wp2
    go_ret
    refine ⟨ret_bool ?_, rfl⟩
    unfold inB
    first
      | exact (decide_eq_true (by omega)).symm
      | exact (decide_eq_false (by omega)).symm

theorem all_take (L : List UInt8) (k : Nat) (hk : k < L.length) (h : (L.take k).all sgn = true) : (L.take (k + 1)).all sgn = sgn L[k] := by
  rw [List.take_succ_eq_append_getElem hk, List.all_append, h]
  simp
theorem all_stop (L : List UInt8) (k : Nat) (hk : k < L.length) (h : sgn L[k] = false) : L.all sgn = false := by
  rw [← Bool.not_eq_true]
  intro ha
  rw [List.all_eq_true] at ha
  have := ha L[k] (List.getElem_mem hk)
  rw [h] at this
  cases this

set_option maxHeartbeats 1000000 in
theorem spec_name (s : ByteArray) (w : World) (hs : s.size ≤ 16777216) :
    Calls Tryd.prog 111 #[.string s] w fun e w' => e = .returned (.bool (nameB s.data.toList)) ∧ w = w' := by
  have hl : s.data.toList.length = s.size := by simp
  have HL := Lib.hid hl
  clear hl
  go_enter Tryd.func111, Tryd.ntmps111
  go_wp2
  go_loop [3] (fun i => ∃ k : Nat, k ≤ s.size ∧ i = .int .i64 (k : Int) ∧ Hid ((s.data.toList.take k).all sgn = true)) (fun i => s.size - (intOf i).toNat)
  case atStart => exact ⟨0, Nat.zero_le _, by go_num, rfl⟩
  case round =>
    obtain ⟨k, hk, rfl, HA⟩ := hrel
    by_cases hlt : k < s.size
    · have h0 : (0 : Int) ≤ (k : Int) := by omega
      have h5 : (k : Int) < (s.size : Int) := by omega
      by_cases h1 : (97 : Int) ≤ (s[k].toNat : Int) <;> by_cases h2 : (s[k].toNat : Int) ≤ 122 <;> by_cases h3 : (48 : Int) ≤ (s[k].toNat : Int) <;> by_cases h4 : (s[k].toNat : Int) ≤ 57
      all_goals first
        | (exfalso; omega)
        | (go_wp2
           first
             | (go_round
                case rel =>
                  refine ⟨k + 1, by omega, by go_num, ?_⟩
                  show _ = true
                  rw [all_take _ _ (by rw [HL.out]; exact hlt) HA.out]
                  exact decide_eq_true (by show (97 ≤ s[k].toNat ∧ s[k].toNat ≤ 122) ∨ (48 ≤ s[k].toNat ∧ s[k].toNat ≤ 57); omega)
                case measure => simp [intOf]; omega)
             | (go_ret
                refine ⟨ret_bool ?_, rfl⟩
                have e1 : sgn s.data.toList[k] = false := decide_eq_false (by show ¬ ((97 ≤ s[k].toNat ∧ s[k].toNat ≤ 122) ∨ (48 ≤ s[k].toNat ∧ s[k].toNat ≤ 57)); omega)
                unfold nameB
                rw [all_stop _ k (by rw [HL.out]; exact hlt) e1]
                rfl))
    · have hkk : k = s.size := by omega
      have HK := Lib.hid hkk
      clear hkk
      go_wp2_with fail
      refine (in_any _ _ _ _).mono ?_
      rintro e w1 ⟨rfl, rfl⟩
      go_wp2
      go_ret
      refine ⟨ret_bool ?_, rfl⟩
      have ha : s.data.toList.all sgn = true := by
        have := HA.out
        rw [HK.out, ← HL.out, List.take_length] at this
        exact this
      show inB _ _ _ = _
      unfold nameB inB
      rw [ha, HL.out]
      by_cases h1 : 1 ≤ s.size <;> by_cases h2 : s.size ≤ 8
      · rw [decide_eq_true (by omega), decide_eq_true h1, decide_eq_true h2]; rfl
      · rw [decide_eq_false (by omega), decide_eq_false h2]; simp
      · rw [decide_eq_false (by omega), decide_eq_false h1]; simp
      · rw [decide_eq_false (by omega), decide_eq_false h1]; simp
end Go.Proofs.YtpihibconbejlaaDoor
namespace Go.Proofs.YtpihibconbejlaaDoor
open Go.RowKit
set_option linter.unusedVariables false

/-- A string value. -/
def str (l : List UInt8) : Value := .string ⟨l.toArray⟩
theorem str_of (s : ByteArray) : Value.string s = str s.data.toList := by
  unfold str
  cases s
  simp
/-- The parts of a text at a byte, the first one begun with 'cur'. -/
def cutGo (c : UInt8) : List UInt8 → List UInt8 → List (List UInt8)
  | cur, [] => [cur]
  | cur, x :: t => if x = c then cur :: cutGo c [] t else cutGo c (cur ++ [x]) t
/-- The parts of a text at a byte. -/
def cut (c : UInt8) (L : List UInt8) : List (List UInt8) := cutGo c [] L

theorem cutGo_len (c : UInt8) (l : List UInt8) : ∀ cur, 1 ≤ (cutGo c cur l).length ∧ (cutGo c cur l).length ≤ l.length + 1 := by
  induction l with
  | nil => intro cur; simp [cutGo]
  | cons x t ih =>
    intro cur
    unfold cutGo
    split
    · have := ih []; simp; omega
    · have := ih (cur ++ [x]); simp; omega
theorem cut_len (c : UInt8) (L : List UInt8) : 1 ≤ (cut c L).length ∧ (cut c L).length ≤ L.length + 1 := cutGo_len c L []

/-- What the loop has found: the parts 'P', and where the next one begins. -/
def CutAt (c : UInt8) (L : List UInt8) (P : List (List UInt8)) (f i : Nat) : Prop := cut c L = P ++ cutGo c ((L.drop f).take (i - f)) (L.drop i)

theorem CutAt.begin (c : UInt8) (L : List UInt8) : CutAt c L [] 0 0 := by unfold CutAt cut; simp
theorem CutAt.hit {c : UInt8} {L : List UInt8} {P : List (List UInt8)} {f i : Nat} (h : CutAt c L P f i) (hi : i < L.length) (hc : L[i] = c) : CutAt c L (P ++ [(L.drop f).take (i - f)]) (i + 1) (i + 1) := by
  unfold CutAt at h ⊢
  rw [h, List.drop_eq_getElem_cons hi]
  conv => lhs; rw [cutGo, if_pos hc]
  simp
theorem CutAt.miss {c : UInt8} {L : List UInt8} {P : List (List UInt8)} {f i : Nat} (h : CutAt c L P f i) (hf : f ≤ i) (hi : i < L.length) (hc : L[i] ≠ c) : CutAt c L P f (i + 1) := by
  unfold CutAt at h ⊢
  rw [h, List.drop_eq_getElem_cons hi]
  conv => lhs; rw [cutGo, if_neg hc]
  congr 2
  have e : i + 1 - f = (i - f) + 1 := by omega
  rw [e, List.take_succ_eq_append_getElem (by rw [List.length_drop]; omega), List.getElem_drop]
  congr 2
  congr 1
  omega
theorem CutAt.finish {c : UInt8} {L : List UInt8} {P : List (List UInt8)} {f : Nat} (h : CutAt c L P f L.length) : cut c L = P ++ [L.drop f] := by
  unfold CutAt at h
  rw [h, List.drop_length]
  unfold cutGo
  congr 2
  rw [List.take_of_length_le (by rw [List.length_drop]; omega)]
theorem CutAt.len {c : UInt8} {L : List UInt8} {P : List (List UInt8)} {f i : Nat} (h : CutAt c L P f i) : P.length ≤ L.length := by
  have h1 := cut_len c L
  unfold CutAt at h
  rw [h, List.length_append] at h1
  have h2 := cutGo_len c (L.drop i) ((L.drop f).take (i - f))
  omega

theorem Tryd.infoString : (Tryd.prog.info? 9).map (fun i => (i.zero, i.size, i.bytes)) = some (some (.string ⟨#[]⟩), 1, 16) := by kernel_rfl

/-- What 'l1Cut' leaves: a slice that holds the parts. -/
def Cuts (w : World) (ps : List (List UInt8)) (e : Ending) (w' : World) : Prop :=
  ∃ (g cap : Nat), e = .returned (.slice (some ⟨g, 0, none⟩) ps.length cap) ∧ w.heap.size ≤ g ∧ g < w'.heap.size ∧ (∀ j, j < ps.length → w'.cell? ⟨g, j, none⟩ = some (str (ps.getD j []))) ∧ Below w.heap.size w w'

end Go.Proofs.YtpihibconbejlaaDoor
namespace Go.Proofs.YtpihibconbejlaaDoor
open Go.RowKit
set_option linter.unusedVariables false

/-- The bytes of a code: 'len' of them lie below block 'B', each from 0 to 255. -/
def Bytes (w : World) (B : Nat) (A : Option Addr) (len : Nat) : Prop :=
  len ≤ 2000 ∧ (0 < len → ∃ (xb xo : Nat) (f : Nat → Int), A = some ⟨xb, xo, none⟩ ∧ xb < B ∧ ∀ i, i < len → w.cell? ⟨xb, xo + i, none⟩ = some (.int .u8 (f i)) ∧ 0 ≤ f i ∧ f i ≤ 255)
theorem Bytes.kept {w w' : World} {B len : Nat} {A : Option Addr} (h : Bytes w B A len) (hk : ∀ p : Addr, p.block < B → w'.cell? p = w.cell? p) : Bytes w' B A len :=
  ⟨h.1, fun hl => by
    obtain ⟨xb, xo, f, hA, hb, hc⟩ := h.2 hl
    exact ⟨xb, xo, f, hA, hb, fun i hi => ⟨(hk _ hb).trans (hc i hi).1, (hc i hi).2⟩⟩⟩
/-- A reader of codes, in block 'b', at place 'p'. -/
def Rd (w : World) (b p : Nat) : Prop := ∃ (A : Option Addr) (len cap : Nat), Whole w b 96 #[.slice A len cap, .int .i64 (p : Int)] ∧ Bytes w b A len
theorem Rd.lt {w : World} {b p : Nat} (h : Rd w b p) : b < w.heap.size := by
  obtain ⟨_, _, _, h, _⟩ := h
  exact h.lt
theorem Rd.drewN {w : World} {b p : Nat} (h : Rd w b p) (n : Nat) : Rd (w.drewN n) b p := h
theorem Rd.grown {w w' : World} {b p g : Nat} (h : Rd w b p) (hg : w.grownBy w' (some g)) (hb : b < g) : Rd w' b p := by
  obtain ⟨A, len, cap, hW, hB⟩ := h
  have hl := hW.lt
  exact ⟨A, len, cap, hW.grown hg (by simp; omega), hB.kept fun q hq => World.cell?_of_block (hg.block q.block (by omega) (by simp; omega))⟩
theorem Rd.below {w w' : World} {b p B : Nat} (h : Rd w b p) (hg : Below B w w') (hb : b < B) : Rd w' b p := by
  obtain ⟨A, len, cap, hW, hB⟩ := h
  have hl := hW.lt
  exact ⟨A, len, cap, hW.below hg hb, hB.kept fun q hq => hg.cell (by omega)⟩

theorem xor_nonneg (a b : Int) (ha : 0 ≤ a) (ha' : a < 9223372036854775808) (hb : 0 ≤ b) (hb' : b < 9223372036854775808) : 0 ≤ bits .xor .i64 a b := by
  obtain ⟨x, rfl⟩ : ∃ x : Nat, a = x := ⟨a.toNat, by omega⟩
  obtain ⟨y, rfl⟩ : ∃ y : Nat, b = y := ⟨b.toNat, by omega⟩
  have hx : (BitVec.ofInt 64 (x : Int)).toNat = x := by rw [BitVec.ofInt_natCast, BitVec.toNat_ofNat]; exact Nat.mod_eq_of_lt (by omega)
  have hy : (BitVec.ofInt 64 (y : Int)).toNat = y := by rw [BitVec.ofInt_natCast, BitVec.toNat_ofNat]; exact Nat.mod_eq_of_lt (by omega)
  have hlt : x ^^^ y < 2 ^ 63 := Nat.xor_lt_two_pow (by omega) (by omega)
  show 0 ≤ IntKind.i64.wrap ((BitVec.ofInt 64 (x : Int) ^^^ BitVec.ofInt 64 (y : Int)).toNat : Int)
  rw [BitVec.toNat_xor, hx, hy, IntKind.wrap_i64]
  omega
theorem rem_nat (x : Int) (n : Nat) (hx : 0 ≤ x) (hn : 1 ≤ n) : ∃ r : Nat, r < n ∧ x % (n : Int) = (r : Int) := by
  have h1 : 0 ≤ x % (n : Int) := Int.emod_nonneg _ (by omega)
  have h2 : x % (n : Int) < (n : Int) := Int.emod_lt_of_pos _ (by omega)
  exact ⟨(x % (n : Int)).toNat, by omega, by omega⟩

theorem ret_int {k : IntKind} {a b : Int} (h : a = b) : Ending.returned (.int k a) = .returned (.int k b) := by rw [h]
theorem rd_next {w : World} {b p len cap : Nat} {A : Option Addr} (h : Whole w b 96 #[.slice A len cap, .int .i64 (p : Int)]) (hB : Bytes w b A len) : Rd (w.setCell ⟨b, 1, none⟩ (.int .i64 ((p : Int) + 1))) b (p + 1) :=
  ⟨A, len, cap, by have := h.store 1 (.int .i64 ((p : Int) + 1)); exact this, hB.kept fun q hq => World.cell?_setCell_other w _ q _ (fun e => by subst e; simp at hq)⟩
/-- What 'pick' leaves. -/
def Picked (w : World) (b p : Nat) (n : Nat) (e : Ending) (w' : World) : Prop := ∃ x : Nat, x < n ∧ e = .returned (.int .i64 (x : Int)) ∧ Rd w' b (p + 1) ∧ w.grownBy w' (some b)

set_option maxHeartbeats 2000000 in
theorem pick_any (b p n : Nat) (w : World) (h : Rd w b p) (hp : p ≤ 1000000) (hn : 1 ≤ n) (hn' : n ≤ 1000000) :
    Calls Tryd.prog 69 #[.pointer (some ⟨b, 0, none⟩), .int .i64 (n : Int)] w (Picked w b p n) := by
  obtain ⟨A, len, cap, hW, hB⟩ := h
  have h0 : w.cell? ⟨b, 0, none⟩ = some (.slice A len cap) := hW.cell 0
  have h1 : w.cell? ⟨b, 1, none⟩ = some (.int .i64 (p : Int)) := hW.cell 1
  have hf := hW.free 1
  have HW := Lib.hid hW
  have hl := hB.1
  have HB := Lib.hid hB
  clear hW hB
  have hn1 : ¬ (n : Int) < 1 := by omega
  by_cases hz : len = 0
  · subst hz
    go_enter Tryd.func69, Tryd.ntmps69
    go_wp2
    go_ret
    exact ⟨0, by omega, rfl, rd_next HW.out HB.out, gr_store (gr_refl _ _) (.inl rfl) _⟩
  · obtain ⟨xb, xo, f, rfl, hxb, hc⟩ := HB.out.2 (by omega)
    have hlz : ((len : Int) == 0) = false := by simp; omega
    by_cases hlt : p < len
    · obtain ⟨hcp, hf0, hf1⟩ := hc p hlt
      have HCC := Lib.hid hc
      clear hc
      go_enter Tryd.func69, Tryd.ntmps69
      go_wp2
      go_ret
      obtain ⟨r, hr, he⟩ := rem_nat (f p) n hf0 hn
      exact ⟨r, hr, ret_int he, rd_next HW.out HB.out, gr_store (gr_refl _ _) (.inl rfl) _⟩
    · obtain ⟨q1, hq1⟩ : ∃ q, p % len = q := ⟨_, rfl⟩
      obtain ⟨q2, hq2⟩ : ∃ q, (p * 7 + 3) % len = q := ⟨_, rfl⟩
      obtain ⟨d, hd⟩ : ∃ q, p / len = q := ⟨_, rfl⟩
      have l1 : q1 < len := hq1 ▸ Nat.mod_lt _ (by omega)
      have l2 : q2 < len := hq2 ▸ Nat.mod_lt _ (by omega)
      have ld : d ≤ p := hd ▸ Nat.div_le_self _ _
      obtain ⟨c1, a1, b1⟩ := hc q1 l1
      obtain ⟨c2, a2, b2⟩ := hc q2 l2
      obtain ⟨v1, hv1⟩ : ∃ v, f q1 = v := ⟨_, rfl⟩
      obtain ⟨v2, hv2⟩ : ∃ v, f q2 = v := ⟨_, rfl⟩
      rw [hv1] at c1 a1 b1
      rw [hv2] at c2 a2 b2
      have E1 : (p : Int).tmod (len : Int) = (q1 : Int) := by rw [← hq1]; exact IntWalk.up_tmod rfl rfl
      have E2 : ((p : Int) * 7 + 3).tmod (len : Int) = (q2 : Int) := by rw [← hq2]; exact IntWalk.up_tmod (by omega) rfl
      have E3 : (p : Int).tdiv (len : Int) = (d : Int) := by rw [← hd]; exact IntWalk.up_tdiv rfl rfl
      have W1 : IntKind.i64.wrap ((p : Int) * 7) = (p : Int) * 7 := IntWalk.i64_in _ (by omega)
      have W2 : IntKind.i64.wrap ((p : Int) * 7 + 3) = (p : Int) * 7 + 3 := IntWalk.i64_in _ (by omega)
      have W3 : IntKind.i64.wrap v1 = v1 := IntWalk.i64_in _ (by omega)
      have W4 : IntKind.i64.wrap v2 = v2 := IntWalk.i64_in _ (by omega)
      have W5 : IntKind.i64.wrap (v1 * 131) = v1 * 131 := IntWalk.i64_in _ (by omega)
      have W6 : IntKind.i64.wrap (v2 * 1117) = v2 * 1117 := IntWalk.i64_in _ (by omega)
      have W7 : IntKind.i64.wrap (v1 * 131 + v2 * 1117) = v1 * 131 + v2 * 1117 := IntWalk.i64_in _ (by omega)
      have W8 : IntKind.i64.wrap ((p : Int) * 29) = (p : Int) * 29 := IntWalk.i64_in _ (by omega)
      have W9 : IntKind.i64.wrap (v1 * 131 + v2 * 1117 + (p : Int) * 29) = v1 * 131 + v2 * 1117 + (p : Int) * 29 := IntWalk.i64_in _ (by omega)
      have Wa : IntKind.i64.wrap (d : Int) = (d : Int) := IntWalk.i64_in _ (by omega)
      have Wb : IntKind.i64.wrap ((d : Int) * 53) = (d : Int) * 53 := IntWalk.i64_in _ (by omega)
      have Wc : IntKind.i64.wrap (v1 * 131 + v2 * 1117 + (p : Int) * 29 + (d : Int) * 53) = v1 * 131 + v2 * 1117 + (p : Int) * 29 + (d : Int) * 53 := IntWalk.i64_in _ (by omega)
      have i1 : (0 : Int) ≤ (q1 : Int) := by omega
      have i2 : (0 : Int) ≤ (q2 : Int) := by omega
      have i3 : (q1 : Int) < (len : Int) := by omega
      have i4 : (q2 : Int) < (len : Int) := by omega
      clear hq1 hq2 hd hv1 hv2 hc
      go_enter Tryd.func69, Tryd.ntmps69
      go_wp2
      go_quiet (fail)
      obtain ⟨X, hX, x1, x2⟩ : ∃ X : Int, v1 * 131 + v2 * 1117 + (p : Int) * 29 + (d : Int) * 53 = X ∧ 0 ≤ X ∧ X ≤ 1000000000 := ⟨_, rfl, by omega, by omega⟩
      rw [hX]
      clear hX E1 E2 E3 W1 W2 W3 W4 W5 W6 W7 W8 W9 Wa Wb Wc
      have hx := xor_nonneg X (X / 64) (by omega) (by omega) (by omega) (by omega)
      go_wp2
      go_ret
      obtain ⟨r, hr, he⟩ := rem_nat (bits .xor .i64 X (X / 64)) n hx hn
      exact ⟨r, hr, ret_int he, (rd_next HW.out HB.out).drewN _, gr_drewN (gr_store (gr_refl _ _) (.inl rfl) _) _⟩

/-- What 'of' leaves: one of the texts. -/
def Chosen (w : World) (b p : Nat) (ls : List (List UInt8)) (e : Ending) (w' : World) : Prop := ∃ l, l ∈ ls ∧ e = .returned (str l) ∧ Rd w' b (p + 1) ∧ w.grownBy w' (some b)

theorem ret_val {a b : Value} (h : a = b) : Ending.returned a = .returned b := by rw [h]
set_option maxHeartbeats 1000000 in
theorem of_any (b p g cap : Nat) (ls : List (List UInt8)) (w : World) (h : Rd w b p) (hp : p ≤ 1000000) (hn : 1 ≤ ls.length) (hn' : ls.length ≤ 1000000) (hg : g ≠ b) (hgl : g < w.heap.size)
    (hc : ∀ j, j < ls.length → w.cell? ⟨g, j, none⟩ = some (str (ls.getD j []))) :
    Calls Tryd.prog 94 #[.pointer (some ⟨b, 0, none⟩), .slice (some ⟨g, 0, none⟩) ls.length cap] w (Chosen w b p ls) := by
  have HC := Lib.hid hc
  have H := Lib.hid h
  clear hc h
  obtain ⟨n, hln⟩ : ∃ n, ls.length = n := ⟨_, rfl⟩
  rw [hln] at hn hn' ⊢
  have HN := Lib.hid hln
  clear hln
  go_enter Tryd.func94, Tryd.ntmps94
  go_wp2_with fail
  refine (pick_any b p n w H.out hp hn hn').mono ?_
  rintro e w1 ⟨x, hx, rfl, hr, hgr⟩
  have hcx : w1.cell? ⟨g, x, none⟩ = some (str (ls.getD x [])) := (World.cell?_of_block (hgr.block g hgl (by simp; omega))).trans (HC.out x (by rw [HN.out]; exact hx))
  have HR := Lib.hid hr
  have HG := Lib.hid hgr
  clear hr hgr
  have i0 : (0 : Int) ≤ (x : Int) := by omega
  have i1 : (x : Int) < (n : Int) := by omega
  go_wp2
  go_ret
  refine ⟨ls.getD x [], ?_, rfl, HR.out, HG.out⟩
  rw [List.getD_eq_getElem?_getD, List.getElem?_eq_getElem (by rw [HN.out]; exact hx)]
  exact List.getElem_mem _

set_option maxHeartbeats 1000000 in
theorem open_any (A : Option Addr) (len cap : Nat) (w : World) (hc : len ≤ cap) (hcap : cap ≤ maxLen)
    (h : 0 < len → ∃ (xb xo : Nat) (f : Nat → Int), A = some ⟨xb, xo, none⟩ ∧ xb < w.heap.size ∧ ∀ i, i < len → w.cell? ⟨xb, xo + i, none⟩ = some (.int .u8 (f i)) ∧ 0 ≤ f i ∧ f i ≤ 255) :
    Calls Tryd.prog 44 #[.slice A len cap] w fun e w' => e = .returned (.pointer (some ⟨w.heap.size, 0, none⟩)) ∧ Rd w' w.heap.size 0 ∧ Below w.heap.size w w' ∧ w.heap.size < w'.heap.size := by
  unfold maxLen at hcap
  have fin : ∀ (l : Nat), l ≤ 2000 → l ≤ len → Rd (w.alloc (.cells #[.slice A l cap, .int .i64 0] 96)) w.heap.size 0 := by
    intro l h1 h2
    refine ⟨A, l, cap, Whole.made w _ _, h1, fun hl => ?_⟩
    obtain ⟨xb, xo, f, hA, hb, hcc⟩ := h (by omega)
    exact ⟨xb, xo, f, hA, hb, fun i hi => ⟨(World.cell?_alloc_lt w _ ⟨xb, xo + i, none⟩ hb).trans (hcc i (by omega)).1, (hcc i (by omega)).2⟩⟩
  have F := Lib.hid fin
  clear fin h
  by_cases hl : len ≤ 2000
  · have hl' : ¬ (2000 : Int) < (len : Int) := by omega
    go_enter Tryd.func44, Tryd.ntmps44
    go_wp2
    go_ret
    exact ⟨rfl, F.out len hl (Nat.le_refl _), (Below.refl _ _).alloc (Nat.le_refl _) _, by simp⟩
  · have hl' : (2000 : Int) < (len : Int) := by omega
    have hl2 : (2000 : Int) ≤ (len : Int) := by omega
    have hl3 : (2000 : Int) ≤ (cap : Int) := by omega
    go_enter Tryd.func44, Tryd.ntmps44
    go_wp2
    go_ret
    exact ⟨rfl, F.out 2000 (Nat.le_refl _) (by omega), (Below.refl _ _).alloc (Nat.le_refl _) _, by simp⟩
end Go.Proofs.YtpihibconbejlaaDoor
namespace Go.Proofs.YtpihibconbejlaaDoor
open Go.RowKit
set_option linter.unusedVariables false

theorem of_new (b p : Nat) (ls : List (List UInt8)) (w : World) (h : Rd w b p) (hp : p ≤ 1000000) (hn : 1 ≤ ls.length) (hn' : ls.length ≤ 1000000) :
    Calls Tryd.prog 94 #[.pointer (some ⟨b, 0, none⟩), .slice (some ⟨w.heap.size, 0, none⟩) ls.length ls.length] (w.alloc (.cells (ls.map str).toArray 9))
      fun e w' => ∃ l, l ∈ ls ∧ e = .returned (str l) ∧ Rd w' b (p + 1) ∧ w.grownBy w' (some b) := by
  have hb := h.lt
  have hA := (Below.refl w.heap.size w).alloc (Nat.le_refl _) (.cells (ls.map str).toArray 9)
  refine (of_any b p w.heap.size ls.length ls _ (h.below hA hb) hp hn hn' (by omega) (by simp) (fun j hj => ?_)).mono ?_
  · rw [(Whole.made w 9 (ls.map str).toArray).cell j, List.getElem?_toArray, List.getElem?_map, List.getD_eq_getElem?_getD, List.getElem?_eq_getElem hj]
    rfl
  · rintro e w' ⟨l, hl, he, hr, hg⟩
    exact ⟨l, hl, he, hr, gr_trans (gr_alloc (gr_refl _ _) _) hg⟩

/-- A drawn text. -/
def Text (w : World) (b p : Nat) (e : Ending) (w' : World) : Prop := ∃ s : ByteArray, s.size ≤ 30 ∧ e = .returned (.string s) ∧ Rd w' b (p + 2) ∧ w.grownBy w' (some b)
theorem text_le {ls : List (List UInt8)} {l : List UInt8} (h : ls.all (fun x => decide (x.length ≤ 30)) = true) (hl : l ∈ ls) : (⟨l.toArray⟩ : ByteArray).size ≤ 30 := by
  rw [List.all_eq_true] at h
  exact of_decide_eq_true (h l hl)

end Go.Proofs.YtpihibconbejlaaDoor
namespace Go.Proofs.YtpihibconbejlaaDoor
open Go.RowKit
set_option linter.unusedVariables false

theorem one_size (c : UInt8) : (⟨#[c]⟩ : ByteArray).size = 1 := rfl
/-- A code that can be read. -/
def Coded (w : World) (A : Option Addr) (len cap : Nat) : Prop :=
  len ≤ cap ∧ cap ≤ maxLen ∧ (0 < len → ∃ (xb xo : Nat) (f : Nat → Int), A = some ⟨xb, xo, none⟩ ∧ xb < w.heap.size ∧ ∀ i, i < len → w.cell? ⟨xb, xo + i, none⟩ = some (.int .u8 (f i)) ∧ 0 ≤ f i ∧ f i ≤ 255)
theorem Coded.below {w w' : World} {B : Nat} {A : Option Addr} {len cap : Nat} (h : Coded w A len cap) (hb : Below B w w') (hB : w.heap.size ≤ B) : Coded w' A len cap :=
  ⟨h.1, h.2.1, fun hl => by
    obtain ⟨xb, xo, f, hA, hx, hc⟩ := h.2.2 hl
    have hsz := hb.size
    exact ⟨xb, xo, f, hA, by omega, fun i hi => ⟨(hb.cell (p := ⟨xb, xo + i, none⟩) (by simp; omega)).trans (hc i hi).1, (hc i hi).2⟩⟩⟩
theorem coded_nil (w : World) : Coded w none 0 0 := ⟨Nat.le_refl _, by unfold maxLen; omega, fun h => absurd h (by omega)⟩
theorem coded_row {w : World} {x : Addr} {len cap : Nat} {zs : List Int} (hl : len ≤ cap) (hm : cap ≤ maxLen) (hz : zs.length = cap)
    (hc : ∀ i, i < zs.length → w.cell? (x.add i) = some (.int .u8 (zs.getD i 0))) (hw : ∀ n ∈ zs, (Lit.int .u8 n).wf = true) : Coded w (some x) len cap := by
  refine ⟨hl, hm, fun h0 => ?_⟩
  have h1 := hc 0 (by omega)
  have hs : x.spot = none := by simpa [Addr.add] using World.cell?_spot h1
  obtain ⟨xb, xo, spot⟩ := x
  simp only at hs
  subst hs
  refine ⟨xb, xo, fun i => zs.getD i 0, rfl, ?_, fun i hi => ?_⟩
  · have := block_lt_of_cell h1
    simpa [Addr.add] using this
  · have h2 := hc i (by omega)
    have hb : zs.getD i 0 ∈ zs := by
      rw [List.getD_eq_getElem?_getD, List.getElem?_eq_getElem (by omega)]
      exact List.getElem_mem _
    have hwf := hw _ hb
    have e : (⟨xb, xo, none⟩ : Addr).add i = ⟨xb, xo + i, none⟩ := by unfold Addr.add; split <;> simp_all
    rw [e] at h2
    have := bounds_u8 hwf
    exact ⟨h2, this.1, this.2⟩
/-- What a drawer of texts leaves. -/
def DrewText (w : World) (e : Ending) (w' : World) : Prop := ∃ s : ByteArray, s.size ≤ 100 ∧ e = .returned (.string s) ∧ Below w.heap.size w w'

/-- What the drawer of addresses leaves. -/
def DrewAddr (w : World) (e : Ending) (w' : World) : Prop := ∃ u d : ByteArray, u.size ≤ 100 ∧ d.size ≤ 100 ∧ e = .returned (.agg #[.string u, .string d]) ∧ Below w.heap.size w w'
end Go.Proofs.YtpihibconbejlaaDoor
namespace Go.Proofs.YtpihibconbejlaaDoor
set_option linter.unusedVariables false

/-- A span. -/
def spanB (x : Int × Int) : Bool := inB x.1 0 99 && inB x.2 0 99
/-- A set. -/
def setB (L : List (Int × Int)) : Bool := L.all spanB && inB (L.length : Int) 1 6
theorem inB_yes {n a b : Int} (h1 : a ≤ n) (h2 : n ≤ b) : inB n a b = true := decide_eq_true ⟨h1, h2⟩
theorem inB_no {n a b : Int} (h : n < a ∨ b < n) : inB n a b = false := decide_eq_false (by omega)
theorem inB_iff {n a b : Int} : inB n a b = true ↔ a ≤ n ∧ n ≤ b := by unfold inB; exact decide_eq_true_iff
theorem spanB_iff {x : Int × Int} : spanB x = true ↔ (0 ≤ x.1 ∧ x.1 ≤ 99) ∧ 0 ≤ x.2 ∧ x.2 ≤ 99 := by
  unfold spanB; rw [Bool.and_eq_true, inB_iff, inB_iff]
theorem setB_iff {L : List (Int × Int)} : setB L = true ↔ (∀ x ∈ L, spanB x = true) ∧ 1 ≤ L.length ∧ L.length ≤ 6 := by
  unfold setB
  rw [Bool.and_eq_true, List.all_eq_true, inB_iff]
  constructor
  · rintro ⟨h1, h2, h3⟩; exact ⟨h1, by omega, by omega⟩
  · rintro ⟨h1, h2, h3⟩; exact ⟨h1, by omega, by omega⟩
theorem setB_bool {L M : List (Int × Int)} (h : setB L = true ↔ setB M = true) : setB L = setB M := by
  cases hL : setB L <;> cases hM : setB M <;> simp_all
theorem setB_take {L : List (Int × Int)} (h : setB L = true) (k : Nat) (h1 : 1 ≤ k) (h2 : k ≤ L.length) : setB (L.take k) = true := by
  obtain ⟨a, b, c⟩ := setB_iff.1 h
  exact setB_iff.2 ⟨fun x hx => a x (List.mem_of_mem_take hx), by rw [List.length_take]; omega, by rw [List.length_take]; omega⟩
theorem setB_bad {L : List (Int × Int)} {x : Int × Int} (hx : x ∈ L) (h : spanB x = false) : setB L = false := by
  rw [← Bool.not_eq_true]
  intro hs
  have := (setB_iff.1 hs).1 x hx
  rw [h] at this
  cases this
theorem setB_snoc {L : List (Int × Int)} {x : Int × Int} (h : setB L = true) (hx : spanB x = true) : setB (L ++ [x]) = decide (L.length + 1 ≤ 6) := by
  obtain ⟨a, b, c⟩ := setB_iff.1 h
  by_cases h6 : L.length + 1 ≤ 6
  · rw [decide_eq_true h6]
    refine setB_iff.2 ⟨fun y hy => ?_, by simp, by simpa using h6⟩
    rcases List.mem_append.1 hy with hy | hy
    · exact a y hy
    · rw [List.mem_singleton] at hy; rw [hy]; exact hx
  · rw [decide_eq_false h6, ← Bool.not_eq_true]
    intro hs
    have := (setB_iff.1 hs).2.2
    simp at this
    omega
theorem setB_long {L : List (Int × Int)} (h : 6 < L.length) : setB L = false := by
  rw [← Bool.not_eq_true]
  intro hs
  have := (setB_iff.1 hs).2.2
  omega

/-- A number of a span, and where the span begins and ends, if the last number is 'last'. -/
def lowE (last : Int) (x : Int × Int) : Int := min (if x.1 = 0 then last else x.1) (if x.2 = 0 then last else x.2)
def highE (last : Int) (x : Int × Int) : Int := max (if x.1 = 0 then last else x.1) (if x.2 = 0 then last else x.2)
def hasE (last n : Int) (x : Int × Int) : Bool := inB n (lowE last x) (highE last x)
def hasB (L : List (Int × Int)) (last n : Int) : Bool := L.any (hasE last n)
/-- The numbers from 1 to 'k' at which 'f' holds. -/
def cnt (f : Nat → Bool) : Nat → List Nat
  | 0 => []
  | k + 1 => cnt f k ++ (if f (k + 1) then [k + 1] else [])
theorem cnt_yes {f : Nat → Bool} {k : Nat} (h : f (k + 1) = true) : cnt f (k + 1) = cnt f k ++ [k + 1] := by
  conv => lhs; unfold cnt
  rw [if_pos h]
theorem cnt_no {f : Nat → Bool} {k : Nat} (h : f (k + 1) = false) : cnt f (k + 1) = cnt f k := by
  conv => lhs; unfold cnt
  rw [if_neg (by rw [h]; decide), List.append_nil]
theorem cnt_mem {f : Nat → Bool} {n : Nat} : ∀ {k : Nat}, n ∈ cnt f k ↔ 1 ≤ n ∧ n ≤ k ∧ f n = true
  | 0 => by simp [cnt]; omega
  | k + 1 => by
    by_cases h : f (k + 1) = true
    · rw [cnt_yes h, List.mem_append, cnt_mem (k := k), List.mem_singleton]
      constructor
      · rintro (⟨a, b, c⟩ | rfl)
        · exact ⟨a, by omega, c⟩
        · exact ⟨by omega, by omega, h⟩
      · rintro ⟨a, b, c⟩
        by_cases e : n = k + 1
        · exact .inr e
        · exact .inl ⟨a, by omega, c⟩
    · rw [cnt_no (Bool.eq_false_iff.2 h), cnt_mem (k := k)]
      constructor
      · rintro ⟨a, b, c⟩; exact ⟨a, by omega, c⟩
      · rintro ⟨a, b, c⟩
        have : n ≠ k + 1 := fun e => h (e ▸ c)
        exact ⟨a, by omega, c⟩
theorem cnt_len (f : Nat → Bool) : ∀ k : Nat, (cnt f k).length ≤ k
  | 0 => by simp [cnt]
  | k + 1 => by
    have := cnt_len f k
    by_cases h : f (k + 1) = true
    · rw [cnt_yes h, List.length_append, List.length_singleton]; omega
    · rw [cnt_no (Bool.eq_false_iff.2 h)]; omega
theorem cnt_sorted (f : Nat → Bool) : ∀ k : Nat, (cnt f k).Pairwise (· < ·)
  | 0 => List.Pairwise.nil
  | k + 1 => by
    have ih := cnt_sorted f k
    by_cases h : f (k + 1) = true
    · rw [cnt_yes h, List.pairwise_append]
      refine ⟨ih, by simp, fun a ha b hb => ?_⟩
      rw [List.mem_singleton] at hb
      have := (cnt_mem.1 ha).2.1
      omega
    · rw [cnt_no (Bool.eq_false_iff.2 h)]; exact ih
theorem cnt_congr {f g : Nat → Bool} : ∀ {k : Nat}, (∀ n, 1 ≤ n → n ≤ k → f n = g n) → cnt f k = cnt g k
  | 0, _ => rfl
  | k + 1, h => by
    have ih := cnt_congr (f := f) (g := g) (k := k) (fun n h1 h2 => h n h1 (by omega))
    unfold cnt
    rw [ih, h (k + 1) (by omega) (Nat.le_refl _)]
theorem cnt_stop {f : Nat → Bool} {k : Nat} : ∀ {m : Nat}, (∀ n, k < n → n ≤ k + m → f n = false) → cnt f (k + m) = cnt f k
  | 0, _ => rfl
  | m + 1, h => by
    have ih := cnt_stop (f := f) (k := k) (m := m) (fun n h1 h2 => h n h1 (by omega))
    rw [← Nat.add_assoc, cnt_no (h (k + m + 1) (by omega) (by omega)), ih]
theorem cnt_self {g : Nat → Bool} {K m : Nat} (h : K ≤ m) : cnt (fun n => decide (n ∈ cnt g K)) m = cnt g K := by
  obtain ⟨d, rfl⟩ : ∃ d, m = K + d := ⟨m - K, by omega⟩
  rw [cnt_stop (fun n h1 h2 => decide_eq_false (fun hm => by have := (cnt_mem.1 hm).2.1; omega))]
  refine cnt_congr fun n h1 h2 => ?_
  cases hg : g n with
  | true => exact decide_eq_true (cnt_mem.2 ⟨h1, h2, hg⟩)
  | false => exact decide_eq_false (fun hm => by have := (cnt_mem.1 hm).2.2; rw [hg] at this; cases this)
/-- The last number that counts. -/
def lst (last : Int) : Int := min last 99
/-- The numbers of a set. -/
def numsB (L : List (Int × Int)) (last : Int) : List Nat := if (setB L && decide (1 ≤ last)) = true then cnt (fun n => hasB L (lst last) n) (lst last).toNat else []
theorem lst_le (last : Int) : lst last ≤ 99 := by unfold lst; omega
theorem lst_nat (last : Int) : (lst last).toNat ≤ 99 := by have := lst_le last; omega
theorem lst_pos {last : Int} (h : 1 ≤ last) : 1 ≤ lst last ∧ ((lst last).toNat : Int) = lst last ∧ lst last ≤ last := by unfold lst; omega
theorem numsB_yes {L : List (Int × Int)} {last : Int} (h : setB L = true) (h1 : 1 ≤ last) : numsB L last = cnt (fun n => hasB L (lst last) n) (lst last).toNat := by
  unfold numsB; rw [h, decide_eq_true h1]; rfl
theorem numsB_bad {L : List (Int × Int)} (last : Int) (h : setB L = false) : numsB L last = [] := by unfold numsB; rw [h]; rfl
theorem numsB_low (L : List (Int × Int)) {last : Int} (h : last < 1) : numsB L last = [] := by
  unfold numsB; rw [decide_eq_false (by omega), Bool.and_false]; rfl
theorem numsB_mem {L : List (Int × Int)} {last : Int} {n : Nat} (h : n ∈ numsB L last) : 1 ≤ n ∧ (n : Int) ≤ last ∧ n ≤ 99 := by
  unfold numsB at h
  split at h
  · rename_i hc
    rw [Bool.and_eq_true, decide_eq_true_eq] at hc
    obtain ⟨h1, h2, h3⟩ := lst_pos hc.2
    obtain ⟨a, b, c⟩ := cnt_mem.1 h
    have := lst_le last
    exact ⟨a, by omega, by omega⟩
  · cases h
theorem numsB_sorted (L : List (Int × Int)) (last : Int) : (numsB L last).Pairwise (· < ·) := by
  unfold numsB
  split
  · exact cnt_sorted _ _
  · exact List.Pairwise.nil
theorem numsB_len (L : List (Int × Int)) (last : Int) : (numsB L last).length ≤ 99 := by
  unfold numsB
  split
  · exact Nat.le_trans (cnt_len _ _) (lst_nat last)
  · simp
theorem numsB_congr {L M : List (Int × Int)} {last : Int} (hs : setB L = setB M) (hb : ∀ n, hasB L (lst last) n = hasB M (lst last) n) : numsB L last = numsB M last := by
  unfold numsB
  rw [hs]
  split
  · exact cnt_congr fun n _ _ => hb n
  · rfl
/-- A span written backwards. -/
def swp (x : Int × Int) : Int × Int := (x.2, x.1)
theorem spanB_swp (x : Int × Int) : spanB (swp x) = spanB x := by unfold spanB swp; exact Bool.and_comm _ _
theorem hasE_swp (last n : Int) (x : Int × Int) : hasE last n (swp x) = hasE last n x := by
  unfold hasE lowE highE swp
  rw [Int.min_comm, Int.max_comm]
theorem setB_swap (L : List (Int × Int)) : setB (L.map swp) = setB L := by
  unfold setB
  rw [List.all_map, List.length_map]
  congr 2
  funext x
  exact spanB_swp x
theorem hasB_swap (L : List (Int × Int)) (last n : Int) : hasB (L.map swp) last n = hasB L last n := by
  unfold hasB
  rw [List.any_map]
  congr 1
  funext x
  exact hasE_swp last n x
theorem numsB_swap (L : List (Int × Int)) (last : Int) : numsB (L.map swp) last = numsB L last := numsB_congr (setB_swap L) fun n => hasB_swap L _ n
theorem numsB_rev (L : List (Int × Int)) (last : Int) : numsB L.reverse last = numsB L last :=
  numsB_congr (by unfold setB; rw [List.all_reverse, List.length_reverse]) fun n => by unfold hasB; rw [List.any_reverse]
theorem hasB_mem {L : List (Int × Int)} {x : Int × Int} (hx : x ∈ L) (last n : Int) : hasB (L ++ [x]) last n = hasB L last n := by
  unfold hasB
  rw [List.any_append]
  cases h : L.any (hasE last n) with
  | true => rfl
  | false =>
    rw [List.any_eq_false] at h
    have := h x hx
    simp [Bool.eq_false_iff.2 this]
theorem numsB_twice {L : List (Int × Int)} {x : Int × Int} (last : Int) (h : setB L = true) (h6 : L.length < 6) (hx : x ∈ L) : numsB (L ++ [x]) last = numsB L last := by
  refine numsB_congr ?_ fun n => hasB_mem hx _ n
  rw [setB_snoc h ((setB_iff.1 h).1 x hx), h]
  exact decide_eq_true (by omega)
theorem cnt_at (m : Nat) (h : 1 ≤ m) : cnt (fun n => decide (n = m)) m = [m] := by
  obtain ⟨k, rfl⟩ : ∃ k, m = k + 1 := ⟨m - 1, by omega⟩
  rw [cnt_yes (by simp)]
  have e := cnt_stop (f := fun n => decide (n = k + 1)) (k := 0) (m := k) (fun n h1 h2 => decide_eq_false (by omega))
  rw [Nat.zero_add] at e
  rw [e]
  rfl
theorem numsB_star {last : Int} (h : 1 ≤ last) : numsB [(0, 0)] last = [(lst last).toNat] := by
  obtain ⟨h1, h2, h3⟩ := lst_pos h
  rw [numsB_yes (by decide) h, ← cnt_at (lst last).toNat (by omega)]
  refine cnt_congr fun n a b => ?_
  unfold hasB hasE lowE highE inB
  simp only [List.any_cons, List.any_nil, Bool.or_false, if_pos]
  rw [Bool.eq_iff_iff, decide_eq_true_iff, decide_eq_true_iff]
  omega
/-- The numbers from 1 to 'k'. -/
def ups (k : Nat) : List Nat := cnt (fun _ => true) k
theorem ups_succ (k : Nat) : ups (k + 1) = ups k ++ [k + 1] := cnt_yes rfl
theorem ups_len : ∀ k : Nat, (ups k).length = k
  | 0 => rfl
  | k + 1 => by rw [ups_succ, List.length_append, ups_len k]; rfl
theorem numsB_all {last : Int} (h : 1 ≤ last) : numsB [(1, 0)] last = ups (lst last).toNat := by
  obtain ⟨h1, h2, h3⟩ := lst_pos h
  rw [numsB_yes (by decide) h]
  refine cnt_congr fun n a b => ?_
  unfold hasB hasE lowE highE inB
  simp only [List.any_cons, List.any_nil, Bool.or_false, if_pos, if_neg (show ¬ (1 : Int) = 0 by decide)]
  exact decide_eq_true (by omega)
/-- The numbers of a set are those of its spans. -/
theorem numsB_union {L : List (Int × Int)} {last : Int} (h : setB L = true) (n : Nat) : (L.any fun x => decide (n ∈ numsB [x] last)) = decide (n ∈ numsB L last) := by
  by_cases h1 : 1 ≤ last
  · rw [Bool.eq_iff_iff, List.any_eq_true, decide_eq_true_iff, numsB_yes h h1, cnt_mem]
    constructor
    · rintro ⟨x, hx, hn⟩
      rw [decide_eq_true_iff] at hn
      have hs : setB [x] = true := setB_iff.2 ⟨fun y hy => by rw [List.mem_singleton] at hy; rw [hy]; exact (setB_iff.1 h).1 x hx, by simp, by simp⟩
      rw [numsB_yes hs h1, cnt_mem] at hn
      refine ⟨hn.1, hn.2.1, List.any_eq_true.2 ⟨x, hx, ?_⟩⟩
      have := hn.2.2
      unfold hasB at this
      simpa using this
    · rintro ⟨a, b, c⟩
      obtain ⟨x, hx, hn⟩ := List.any_eq_true.1 c
      have hs : setB [x] = true := setB_iff.2 ⟨fun y hy => by rw [List.mem_singleton] at hy; rw [hy]; exact (setB_iff.1 h).1 x hx, by simp, by simp⟩
      refine ⟨x, hx, decide_eq_true ?_⟩
      rw [numsB_yes hs h1, cnt_mem]
      exact ⟨a, b, by unfold hasB; simpa using hn⟩
  · have e : ∀ M, numsB M last = [] := fun M => numsB_low M (by omega)
    simp [e]
theorem numsB_count (L : List (Int × Int)) (last : Int) : (cnt (fun n => decide (n ∈ numsB L last)) 99).length = (numsB L last).length := by
  unfold numsB
  split
  · rw [cnt_self (lst_nat last)]
  · have e := cnt_stop (f := fun n => decide (n ∈ ([] : List Nat))) (k := 0) (m := 99) (fun n _ _ => by simp)
    rw [Nat.zero_add] at e
    rw [e]; rfl
end Go.Proofs.YtpihibconbejlaaDoor
namespace Go.Proofs.YtpihibconbejlaaDoor
open Go.RowKit
set_option linter.unusedVariables false

set_option maxHeartbeats 400000 in
theorem sign_any (c : UInt8) (w : World) : Calls Tryd.prog 120 #[.int .u8 (c.toNat : Int)] w fun e w' => e = .returned (.bool (sgn c)) ∧ w' = w := by
  by_cases h1 : (97 : Int) ≤ (c.toNat : Int) <;> by_cases h2 : (c.toNat : Int) ≤ 122 <;> by_cases h3 : (48 : Int) ≤ (c.toNat : Int) <;> by_cases h4 : (c.toNat : Int) ≤ 57
  all_goals first
    | (exfalso; omega)
    | (go_enter Tryd.func120, Tryd.ntmps120
       go_wp2
       go_ret
       refine ⟨ret_bool ?_, rfl⟩
       unfold sgn
       first
         | exact (decide_eq_true (by omega)).symm
         | exact (decide_eq_false (by omega)).symm)
theorem sign_yes (c : UInt8) (w : World) (h : sgn c = true) : Calls Tryd.prog 120 #[.int .u8 (c.toNat : Int)] w fun e w' => e = .returned (.bool true) ∧ w' = w := h ▸ sign_any c w
theorem sign_no (c : UInt8) (w : World) (h : sgn c = false) : Calls Tryd.prog 120 #[.int .u8 (c.toNat : Int)] w fun e w' => e = .returned (.bool false) ∧ w' = w := h ▸ sign_any c w

/-- The cursor's block: the text and the place. -/
def Cur (w : World) (b : Nat) (s : ByteArray) (k : Nat) : Prop := Whole w b 70 #[.string s, .int .i64 (k : Int)]

section
variable {w w' : World} {b k : Nat} {s : ByteArray}
theorem Cur.text (h : Cur w b s k) : w.cell? ⟨b, 0, none⟩ = some (.string s) := Whole.cell h 0
theorem Cur.place (h : Cur w b s k) : w.cell? ⟨b, 1, none⟩ = some (.int .i64 (k : Int)) := Whole.cell h 1
theorem Cur.free (h : Cur w b s k) (i : Nat) : w.frozen? ⟨b, i, none⟩ = false := Whole.free h i
theorem Cur.drewN (h : Cur w b s k) (n : Nat) : Cur (w.drewN n) b s k := h
theorem Cur.go (h : Cur w b s k) : Cur (w.setCell ⟨b, 1, none⟩ (.int .i64 ((k + 1 : Nat) : Int))) b s (k + 1) := Whole.store h 1 _
end

set_option maxHeartbeats 400000 in
theorem done_yes (b k : Nat) (s : ByteArray) (w : World) (h : Cur w b s k) (hk : k = s.size) :
    Calls Tryd.prog 100 #[.pointer (some ⟨b, 0, none⟩)] w fun e w' => e = .returned (.bool true) ∧ ∃ n, w' = w.drewN n := by
  have ht := h.text
  have hp := h.place
  clear h
  have hd : ((k : Int) == (s.size : Int)) = true := by rw [int_beq]; simpa using hk
  clear hk
  go_enter Tryd.func100, Tryd.ntmps100
  go_wp2
  go_quiet (fail)
  go_wp2
  go_ret
  exact ⟨rfl, _, rfl⟩
set_option maxHeartbeats 400000 in
theorem done_no (b k : Nat) (s : ByteArray) (w : World) (h : Cur w b s k) (hk : k < s.size) :
    Calls Tryd.prog 100 #[.pointer (some ⟨b, 0, none⟩)] w fun e w' => e = .returned (.bool false) ∧ ∃ n, w' = w.drewN n := by
  have ht := h.text
  have hp := h.place
  clear h
  have hd : ((k : Int) == (s.size : Int)) = false := by rw [int_beq]; simp; omega
  clear hk
  go_enter Tryd.func100, Tryd.ntmps100
  go_wp2
  go_quiet (fail)
  go_wp2
  go_ret
  exact ⟨rfl, _, rfl⟩

/-- 'take' where the next byte is asked for. -/
def Took (w : World) (b : Nat) (s : ByteArray) (k : Nat) (r : Bool) (e : Ending) (w' : World) : Prop := e = .returned (.bool r) ∧ Cur w' b s k ∧ w.grownBy w' (some b)
set_option maxHeartbeats 400000 in
theorem take_yes (b k : Nat) (s : ByteArray) (c : UInt8) (w : World) (h : Cur w b s k) (hs : s.size ≤ 16777216) (hk : k < s.size) (hc : s[k] = c) :
    Calls Tryd.prog 78 #[.pointer (some ⟨b, 0, none⟩), .int .u8 (c.toNat : Int)] w (Took w b s (k + 1) true) := by
  have ht := h.text
  have hp := h.place
  have hf := h.free 1
  have H := Lib.hid h
  clear h
  subst hc
  have hne : ((s[k].toNat : Int) != (s[k].toNat : Int)) = false := by simp
  have h0 : (0 : Int) ≤ (k : Int) := by omega
  have h1 : (k : Int) < (s.size : Int) := by omega
  go_enter Tryd.func78, Tryd.ntmps78
  go_wp2
  go_quiet ((go_at_call 100; exact Calls.quiet_of (done_no b k s _ (H.out.drewN _) hk)))
  go_wp2
  go_ret
  exact ⟨rfl, H.out.go.drewN _, gr_drewN (gr_store (gr_refl _ _) (.inl rfl) _) _⟩
set_option maxHeartbeats 400000 in
theorem take_end (b k : Nat) (s : ByteArray) (c : UInt8) (w : World) (h : Cur w b s k) (hk : k = s.size) :
    Calls Tryd.prog 78 #[.pointer (some ⟨b, 0, none⟩), .int .u8 (c.toNat : Int)] w (Took w b s k false) := by
  have ht := h.text
  have hp := h.place
  have H := Lib.hid h
  have K := Lib.hid hk
  clear h hk
  go_enter Tryd.func78, Tryd.ntmps78
  go_wp2
  go_quiet ((go_at_call 100; exact Calls.quiet_of (done_yes b k s _ (H.out.drewN _) K.out)))
  go_wp2
  go_ret
  exact ⟨rfl, H.out.drewN _, gr_drewN (gr_refl _ _) _⟩
set_option maxHeartbeats 400000 in
theorem take_other (b k : Nat) (s : ByteArray) (c : UInt8) (w : World) (h : Cur w b s k) (hs : s.size ≤ 16777216) (hk : k < s.size) (hc : s[k] ≠ c) :
    Calls Tryd.prog 78 #[.pointer (some ⟨b, 0, none⟩), .int .u8 (c.toNat : Int)] w (Took w b s k false) := by
  have ht := h.text
  have hp := h.place
  have H := Lib.hid h
  clear h
  have hne : ((s[k].toNat : Int) != (c.toNat : Int)) = true := by
    have : s[k].toNat ≠ c.toNat := fun e => hc (UInt8.toNat_inj.1 e)
    simp; omega
  clear hc
  have h0 : (0 : Int) ≤ (k : Int) := by omega
  have h1 : (k : Int) < (s.size : Int) := by omega
  go_enter Tryd.func78, Tryd.ntmps78
  go_wp2
  go_quiet ((go_at_call 100; exact Calls.quiet_of (done_no b k s _ (H.out.drewN _) hk)))
  go_wp2
  go_ret
  exact ⟨rfl, H.out.drewN _, gr_drewN (gr_refl _ _) _⟩

theorem take_any (b k : Nat) (s : ByteArray) (c : UInt8) (w : World) (h : Cur w b s k) (hs : s.size ≤ 16777216) (hk : k ≤ s.size) :
    Calls Tryd.prog 78 #[.pointer (some ⟨b, 0, none⟩), .int .u8 (c.toNat : Int)] w (Took w b s (if nextIs s.data.toList k c then k + 1 else k) (nextIs s.data.toList k c)) := by
  have hl : s.data.toList.length = s.size := by simp
  by_cases h1 : k < s.size
  · have e : s.data.toList[k]? = some s[k] := List.getElem?_eq_getElem (by omega)
    by_cases h2 : s[k] = c
    · have : nextIs s.data.toList k c = true := by unfold nextIs; rw [e, h2]; simp
      rw [this]
      exact take_yes b k s c w h hs h1 h2
    · have : nextIs s.data.toList k c = false := by unfold nextIs; rw [e]; simpa using h2
      rw [this]
      exact take_other b k s c w h hs h1 h2
  · have : nextIs s.data.toList k c = false := by unfold nextIs; rw [List.getElem?_eq_none (by omega)]; rfl
    rw [this]
    exact take_end b k s c w h (by omega)

/-- What 'name' leaves: the text of the signs, if there are not too few or too many, and the place behind them. -/
def Named (w : World) (b : Nat) (s : ByteArray) (k : Nat) (e : Ending) (w' : World) : Prop :=
  ∃ v : ByteArray, e = .returned (.tuple #[.string v, .bool (okLen (nmLen s.data.toList k))]) ∧ v.data.toList = (if okLen (nmLen s.data.toList k) then (s.data.toList.drop k).take (nmLen s.data.toList k) else []) ∧
    Cur w' b s (k + nmLen s.data.toList k) ∧ w.grownBy w' (some b)

theorem ret_two {a b : Value} {c d : Bool} (h1 : a = b) (h2 : c = d) : Ending.returned (.tuple #[a, .bool c]) = .returned (.tuple #[b, .bool d]) := by rw [h1, h2]
theorem named_no {b k j : Nat} {s : ByteArray} {w wr : World} (n : Nat) (hgr : w.grownBy wr (some b)) (hc : Cur wr b s j) (hk : nmLen s.data.toList k = j - k) (hn : j - k = 0 ∨ 8 < j - k) (h3 : (k : Int) ≤ (j : Int)) :
    Named w b s k (.returned (.tuple #[.string ⟨#[]⟩, .bool false])) (wr.drewN n) := by
  have ho : okLen (nmLen s.data.toList k) = false := by
    unfold okLen
    rw [hk]
    rcases hn with h | h
    · rw [decide_eq_false (p := 1 ≤ j - k) (by omega)]; rfl
    · rw [decide_eq_false (p := j - k ≤ 8) (by omega)]; simp
  refine ⟨⟨#[]⟩, ?_, ?_, ?_, gr_drewN hgr _⟩
  · rw [ho]
  · rw [ho]; rfl
  · rw [hk]
    have : k + (j - k) = j := by omega
    rw [this]
    exact hc.drewN _
theorem named_yes {b k j : Nat} {s : ByteArray} {w wr : World} (n : Nat) (hgr : w.grownBy wr (some b)) (hc : Cur wr b s j) (hk : nmLen s.data.toList k = j - k) (hn : 1 ≤ j - k) (hn8 : j - k ≤ 8) (h3 : (k : Int) ≤ (j : Int)) :
    Named w b s k (.returned (.tuple #[.string (s.extract k j), .bool true])) (wr.drewN n) := by
  have ho : okLen (nmLen s.data.toList k) = true := by
    unfold okLen
    rw [hk, decide_eq_true hn, decide_eq_true hn8]; rfl
  refine ⟨s.extract k j, ?_, ?_, ?_, gr_drewN hgr _⟩
  · rw [ho]
  · rw [ho, if_pos rfl, hk]; exact extract_list _ _ _
  · rw [hk]
    have : k + (j - k) = j := by omega
    rw [this]
    exact hc.drewN _

set_option maxHeartbeats 1000000 in
theorem name_any (b k : Nat) (s : ByteArray) (w : World) (h : Cur w b s k) (hs : s.size ≤ 16777216) (hk : k ≤ s.size) :
    Calls Tryd.prog 108 #[.pointer (some ⟨b, 0, none⟩)] w (Named w b s k) := by
  have hl : s.data.toList.length = s.size := by simp
  have hp := h.place
  have H := Lib.hid h
  have HL := Lib.hid hl
  clear h hl
  go_enter Tryd.func108, Tryd.ntmps108
  go_wp2
  clear hp
  go_loopg [] (s.size - k) (fun g wr => ∃ j, k ≤ j ∧ j ≤ s.size ∧ g = s.size - j ∧ j + nmLen s.data.toList j = k + nmLen s.data.toList k ∧ Cur wr b s j ∧ w.grownBy wr (some b))
  case atStart => exact ⟨k, Nat.le_refl _, hk, rfl, rfl, H.out, gr_refl _ _⟩
  case round =>
    obtain ⟨j, hkj, hjs, hg, hnm, hcur, hgr⟩ := hrel
    have HN := Lib.hid hnm
    have HG := Lib.hid hg
    clear hnm hg
    have HC := Lib.hid hcur
    have hte := hcur.text
    have hpl := hcur.place
    have hfr := hcur.free 1
    have h0 : (0 : Int) ≤ (j : Int) := by omega
    clear hcur
    by_cases hgo : ∃ hj : j < s.size, sgn s[j] = true
    · obtain ⟨hj, hsg⟩ := hgo
      have h1 : (j : Int) < (s.size : Int) := by omega
      have HS := Lib.hid hsg
      clear hsg
      go_wp2
      go_quiet ((first
        | (go_at_call 100; exact Calls.quiet_of (done_no b j s _ (HC.out.drewN _) hj))
        | (go_at_call 120; exact Calls.quiet_of_same (sign_yes _ _ HS.out))))
      go_wp2
      go_roundg (s.size - (j + 1))
      case measure => have := HG.out; omega
      case rel =>
        refine ⟨j + 1, by omega, by omega, rfl, ?_, (HC.out.drewN _).go, gr_store (gr_drewN hgr _) (.inl rfl) _⟩
        have e1 := nmLen_go s.data.toList j (by rw [HL.out]; exact hj) HS.out
        have e2 := HN.out
        omega
    · have HK : Hid (nmLen s.data.toList k = j - k) := by
        have e2 := HN.out
        show _ = _
        by_cases hj : j < s.size
        · have e1 := nmLen_stop s.data.toList j (by rw [HL.out]; exact hj) (Bool.eq_false_iff.2 fun h => hgo ⟨hj, h⟩)
          omega
        · have e1 := nmLen_end s.data.toList j (by rw [HL.out]; omega)
          omega
      have HX : Hid ((∃ hj : j < s.size, sgn s[j] = false) ∨ j = s.size) := by
        by_cases hj : j < s.size
        · exact .inl ⟨hj, Bool.eq_false_iff.2 fun h => hgo ⟨hj, h⟩⟩
        · exact .inr (by omega)
      clear hgo
      have h2 : (0 : Int) ≤ (k : Int) := by omega
      have h3 : (k : Int) ≤ (j : Int) := by omega
      have h4 : (j : Int) ≤ (s.size : Int) := by omega
      have hez : (s.extract k j).size = j - k := by rw [ByteArray.size_extract]; omega
      rcases HX.out with ⟨hj, hsg⟩ | hj
      · have h1 : (j : Int) < (s.size : Int) := by omega
        have HS := Lib.hid hsg
        clear hsg HX
        by_cases hn0 : j = k
        · obtain ⟨hE, hE'⟩ := isEmpty (v := s.extract k j) (by omega)
          have HM := Lib.hid hn0
          clear hez hn0
          go_wp2
          go_quiet ((first
            | (go_at_call 100; exact Calls.quiet_of (done_no b j s _ (HC.out.drewN _) hj))
            | (go_at_call 120; exact Calls.quiet_of_same (sign_no _ _ HS.out))))
          go_wp2
          go_quiet (fail)
          go_wp2
          go_ret2
          exact named_no _ hgr HC.out HK.out (by have := HM.out; omega) h3
        · obtain ⟨hE, hE'⟩ := noEmpty (v := s.extract k j) (by omega)
          have HZ := Lib.hid hez
          clear hez
          by_cases hn8 : j - k ≤ 8
          · have hn8' : ((j - k : Nat) : Int) ≤ 8 := by omega
            go_wp2
            go_quiet ((first
              | (go_at_call 100; exact Calls.quiet_of (done_no b j s _ (HC.out.drewN _) hj))
              | (go_at_call 120; exact Calls.quiet_of_same (sign_no _ _ HS.out))))
            go_wp2
            go_quiet (fail)
            go_wp2
            go_ret2
            exact named_yes _ hgr HC.out HK.out (by omega) hn8 h3
          · have hn8' : (8 : Int) < ((j - k : Nat) : Int) := by omega
            go_wp2
            go_quiet ((first
              | (go_at_call 100; exact Calls.quiet_of (done_no b j s _ (HC.out.drewN _) hj))
              | (go_at_call 120; exact Calls.quiet_of_same (sign_no _ _ HS.out))))
            go_wp2
            go_quiet (fail)
            go_wp2
            go_ret2
            exact named_no _ hgr HC.out HK.out (by omega) h3
      · have HJ := Lib.hid hj
        clear hj HX
        by_cases hn0 : j = k
        · obtain ⟨hE, hE'⟩ := isEmpty (v := s.extract k j) (by omega)
          have HM := Lib.hid hn0
          clear hez hn0
          go_wp2
          go_quiet ((go_at_call 100; exact Calls.quiet_of (done_yes b j s _ (HC.out.drewN _) HJ.out)))
          go_wp2
          go_quiet (fail)
          go_wp2
          go_ret2
          exact named_no _ hgr HC.out HK.out (by have := HM.out; omega) h3
        · obtain ⟨hE, hE'⟩ := noEmpty (v := s.extract k j) (by omega)
          have HZ := Lib.hid hez
          clear hez
          by_cases hn8 : j - k ≤ 8
          · have hn8' : ((j - k : Nat) : Int) ≤ 8 := by omega
            go_wp2
            go_quiet ((go_at_call 100; exact Calls.quiet_of (done_yes b j s _ (HC.out.drewN _) HJ.out)))
            go_wp2
            go_quiet (fail)
            go_wp2
            go_ret2
            exact named_yes _ hgr HC.out HK.out (by omega) hn8 h3
          · have hn8' : (8 : Int) < ((j - k : Nat) : Int) := by omega
            go_wp2
            go_quiet ((go_at_call 100; exact Calls.quiet_of (done_yes b j s _ (HC.out.drewN _) HJ.out)))
            go_wp2
            go_quiet (fail)
            go_wp2
            go_ret2
            exact named_no _ hgr HC.out HK.out (by omega) h3
end Go.Proofs.YtpihibconbejlaaDoor
namespace Go.Proofs.YtpihibconbejlaaDoor
open Go.RowKit
set_option linter.unusedVariables false

/-- What 'domain' leaves. -/
def Domained (w : World) (b : Nat) (s : ByteArray) (k : Nat) (e : Ending) (w' : World) : Prop :=
  ∃ v : ByteArray, e = .returned (.tuple #[.string v, .bool (domOk s.data.toList k)]) ∧ v.data.toList = (if domOk s.data.toList k then (s.data.toList.drop k).take (domEnd s.data.toList k - k) else []) ∧
    domEnd s.data.toList k ≤ s.size ∧ Cur w' b s (domEnd s.data.toList k) ∧ w.grownBy w' (some b)

theorem domained_no {b k j : Nat} {o : Bool} {s : ByteArray} {w wr : World} (n : Nat) (hgr : w.grownBy wr (some b)) (hc : Cur wr b s j) (hjs : j ≤ s.size) (hd : domGo s.data.toList 2 (okLen (nmLen s.data.toList k)) (k + nmLen s.data.toList k) = (o, j)) (hn : o = false ∨ 20 < j - k) :
    Domained w b s k (.returned (.tuple #[.string ⟨#[]⟩, .bool false])) (wr.drewN n) := by
  have he : domEnd s.data.toList k = j := by unfold domEnd; rw [hd]
  have ho : domOk s.data.toList k = false := by
    unfold domOk
    rw [he, hd]
    rcases hn with h | h
    · rw [h]; rfl
    · rw [decide_eq_false (p := j - k ≤ 20) (by omega)]; simp
  refine ⟨⟨#[]⟩, ?_, ?_, ?_, ?_, gr_drewN hgr _⟩
  · rw [ho]
  · rw [ho]; rfl
  · rw [he]; exact hjs
  · rw [he]; exact hc.drewN _
theorem domained_yes {b k j : Nat} {s : ByteArray} {w wr : World} (n : Nat) (hgr : w.grownBy wr (some b)) (hc : Cur wr b s j) (hjs : j ≤ s.size) (hd : domGo s.data.toList 2 (okLen (nmLen s.data.toList k)) (k + nmLen s.data.toList k) = (true, j)) (hn : j - k ≤ 20) :
    Domained w b s k (.returned (.tuple #[.string (s.extract k j), .bool true])) (wr.drewN n) := by
  have he : domEnd s.data.toList k = j := by unfold domEnd; rw [hd]
  have ho : domOk s.data.toList k = true := by
    unfold domOk
    rw [he, hd, decide_eq_true hn]; rfl
  refine ⟨s.extract k j, ?_, ?_, ?_, ?_, gr_drewN hgr _⟩
  · rw [ho]
  · rw [ho, if_pos rfl, he]; exact extract_list _ _ _
  · rw [he]; exact hjs
  · rw [he]; exact hc.drewN _

theorem take_at (c : UInt8) (z : Int) (hz : (c.toNat : Int) = z) (b k : Nat) (s : ByteArray) (w : World) (h : Cur w b s k) (hs : s.size ≤ 16777216) (hk : k ≤ s.size) :
    Calls Tryd.prog 78 #[.pointer (some ⟨b, 0, none⟩), .int .u8 z] w (Took w b s (if nextIs s.data.toList k c then k + 1 else k) (nextIs s.data.toList k c)) := hz ▸ take_any b k s c w h hs hk
theorem take_at_yes (c : UInt8) (z : Int) (hz : (c.toNat : Int) = z) (b k : Nat) (s : ByteArray) (w : World) (h : Cur w b s k) (hs : s.size ≤ 16777216) (hk : k ≤ s.size) (hn : nextIs s.data.toList k c = true) :
    Calls Tryd.prog 78 #[.pointer (some ⟨b, 0, none⟩), .int .u8 z] w (Took w b s (k + 1) true) := by
  have := take_at c z hz b k s w h hs hk
  rw [hn] at this
  exact this
theorem take_at_no (c : UInt8) (z : Int) (hz : (c.toNat : Int) = z) (b k : Nat) (s : ByteArray) (w : World) (h : Cur w b s k) (hs : s.size ≤ 16777216) (hk : k ≤ s.size) (hn : nextIs s.data.toList k c = false) :
    Calls Tryd.prog 78 #[.pointer (some ⟨b, 0, none⟩), .int .u8 z] w (Took w b s k false) := by
  have := take_at c z hz b k s w h hs hk
  rw [hn] at this
  exact this

end Go.Proofs.YtpihibconbejlaaDoor
namespace Go.Proofs.YtpihibconbejlaaDoor
open Go.RowKit
set_option linter.unusedVariables false

/-- What 'address' leaves. -/
def Addressed (w : World) (b : Nat) (s : ByteArray) (k : Nat) (e : Ending) (w' : World) : Prop :=
  ∃ (u d : ByteArray) (j : Nat), e = .returned (.tuple #[.agg #[.string u, .string d], .bool (adOk s.data.toList k)]) ∧
    (adOk s.data.toList k = true → u.data.toList = adUser s.data.toList k ∧ d.data.toList = adDom s.data.toList k ∧ j = adEnd s.data.toList k) ∧
    (adOk s.data.toList k = false → u = ⟨#[]⟩ ∧ d = ⟨#[]⟩) ∧ j ≤ s.size ∧ Cur w' b s j ∧ w.grownBy w' (some b)

theorem bytes_nil {v : ByteArray} (h : v.data.toList = []) : v = ⟨#[]⟩ := by
  cases v with
  | mk d => cases d with
    | mk l => simp at h; subst h; rfl
theorem name_yes (b k : Nat) (s : ByteArray) (w : World) (h : Cur w b s k) (hs : s.size ≤ 16777216) (hk : k ≤ s.size) (ho : okLen (nmLen s.data.toList k) = true) :
    Calls Tryd.prog 108 #[.pointer (some ⟨b, 0, none⟩)] w fun e w' => ∃ v : ByteArray, e = .returned (.tuple #[.string v, .bool true]) ∧ v.data.toList = (s.data.toList.drop k).take (nmLen s.data.toList k) ∧ Cur w' b s (k + nmLen s.data.toList k) ∧ w.grownBy w' (some b) := by
  refine (name_any b k s w h hs hk).mono ?_
  rintro e w' ⟨v, he, hv, hc, hg⟩
  rw [ho] at he
  rw [ho, if_pos rfl] at hv
  exact ⟨v, he, hv, hc, hg⟩
theorem name_no (b k : Nat) (s : ByteArray) (w : World) (h : Cur w b s k) (hs : s.size ≤ 16777216) (hk : k ≤ s.size) (ho : okLen (nmLen s.data.toList k) = false) :
    Calls Tryd.prog 108 #[.pointer (some ⟨b, 0, none⟩)] w fun e w' => e = .returned (.tuple #[.string ⟨#[]⟩, .bool false]) ∧ Cur w' b s (k + nmLen s.data.toList k) ∧ w.grownBy w' (some b) := by
  refine (name_any b k s w h hs hk).mono ?_
  rintro e w' ⟨v, he, hv, hc, hg⟩
  rw [ho] at he
  rw [ho] at hv
  have := bytes_nil (v := v) (by simpa using hv)
  subst this
  exact ⟨he, hc, hg⟩
theorem addressed_no {b k j : Nat} {s : ByteArray} {w wr : World} (ho : adOk s.data.toList k = false) (hj : j ≤ s.size) (hc : Cur wr b s j) (hg : w.grownBy wr (some b)) :
    Addressed w b s k (.returned (.tuple #[.agg #[.string ⟨#[]⟩, .string ⟨#[]⟩], .bool false])) wr :=
  ⟨_, _, j, by rw [ho], fun h => by rw [ho] at h; (cases h), fun _ => ⟨rfl, rfl⟩, hj, hc, hg⟩

end Go.Proofs.YtpihibconbejlaaDoor
namespace Go.Proofs.YtpihibconbejlaaDoor
open Go.RowKit
set_option linter.unusedVariables false

theorem cur_new (w : World) (s : ByteArray) : Cur (w.alloc (.cells #[.string s, .int .i64 0] 70)) w.heap.size s 0 := Whole.made w _ _
theorem new_below {w w1 : World} {o : Obj} (h : (w.alloc o).grownBy w1 (some w.heap.size)) : Below w.heap.size w w1 :=
  below_gr ((Below.refl _ _).alloc (Nat.le_refl _) o) h (by simp) (Nat.le_refl _)

set_option maxHeartbeats 400000 in
theorem impl_name_ (s : ByteArray) (w : World) (hs : s.size ≤ 16777216) :
    Calls Tryd.prog 97 #[.string s] w fun e w' => e = .returned (.bool (okLen (nmLen s.data.toList 0) && decide (nmLen s.data.toList 0 = s.size))) ∧ Below w.heap.size w w' := by
  by_cases ho : okLen (nmLen s.data.toList 0) = true
  · have HO := Lib.hid ho
    clear ho
    by_cases hz : nmLen s.data.toList 0 = s.size
    · have HZ := Lib.hid hz
      clear hz
      go_enter Tryd.func97, Tryd.ntmps97
      go_wp2_with fail
      refine (name_yes w.heap.size 0 s _ (cur_new w s) hs (Nat.zero_le _) HO.out).mono ?_
      rintro e w1 ⟨v, rfl, hv, hc, hg⟩
      have HC := Lib.hid hc
      have HG := Lib.hid hg
      clear hv hc hg
      go_wp2_with fail
      refine (done_yes w.heap.size _ s _ HC.out (by have := HZ.out; omega)).mono ?_
      rintro e w2 ⟨rfl, n, rfl⟩
      go_wp2
      go_ret
      exact ⟨ret_bool (by rw [HO.out, decide_eq_true HZ.out]; rfl), below_drewN' (new_below HG.out) _⟩
    · have HZ := Lib.hid hz
      clear hz
      go_enter Tryd.func97, Tryd.ntmps97
      go_wp2_with fail
      refine (name_yes w.heap.size 0 s _ (cur_new w s) hs (Nat.zero_le _) HO.out).mono ?_
      rintro e w1 ⟨v, rfl, hv, hc, hg⟩
      have HC := Lib.hid hc
      have HG := Lib.hid hg
      clear hv hc hg
      go_wp2_with fail
      refine (done_no w.heap.size _ s _ HC.out (by have := HZ.out; have := nmLen_le s.data.toList 0 (Nat.zero_le _); have hl : s.data.toList.length = s.size := (by simp); omega)).mono ?_
      rintro e w2 ⟨rfl, n, rfl⟩
      go_wp2
      go_ret
      exact ⟨ret_bool (by rw [HO.out, decide_eq_false HZ.out]; rfl), below_drewN' (new_below HG.out) _⟩
  · have HO := Lib.hid (Bool.eq_false_iff.2 ho)
    clear ho
    go_enter Tryd.func97, Tryd.ntmps97
    go_wp2_with fail
    refine (name_no w.heap.size 0 s _ (cur_new w s) hs (Nat.zero_le _) HO.out).mono ?_
    rintro e w1 ⟨rfl, hc, hg⟩
    have HG := Lib.hid hg
    clear hc hg
    go_wp2
    go_ret
    exact ⟨ret_bool (by rw [HO.out]; rfl), new_below HG.out⟩

end Go.Proofs.YtpihibconbejlaaDoor
namespace Go.Proofs.YtpihibconbejlaaDoor
open Go.RowKit
set_option linter.unusedVariables false

/-- What a parser of addresses leaves: 'ok' says whether it succeeds, 'U' and 'D' are the user's and the domain's bytes. -/
def Parsed (w : World) (ok : Bool) (U D : List UInt8) (e : Ending) (w' : World) : Prop :=
  ∃ u d : ByteArray, e = .returned (.tuple #[.agg #[.string u, .string d], .bool ok]) ∧ (ok = true → u.data.toList = U ∧ d.data.toList = D) ∧ (ok = false → u = ⟨#[]⟩ ∧ d = ⟨#[]⟩) ∧ Below w.heap.size w w'

theorem parsed_no {w w' : World} {ok : Bool} {U D : List UInt8} (h : ok = false) (hb : Below w.heap.size w w') : Parsed w ok U D (.returned (.tuple #[.agg #[.string ⟨#[]⟩, .string ⟨#[]⟩], .bool false])) w' :=
  ⟨_, _, by rw [h], fun h' => by rw [h] at h'; (cases h'), fun _ => ⟨rfl, rfl⟩, hb⟩
theorem parsed_yes {w w' : World} {ok : Bool} {u d : ByteArray} {U D : List UInt8} (h : ok = true) (hu : u.data.toList = U) (hd : d.data.toList = D) (hb : Below w.heap.size w w') : Parsed w ok U D (.returned (.tuple #[.agg #[.string u, .string d], .bool true])) w' :=
  ⟨u, d, by rw [h], fun _ => ⟨hu, hd⟩, fun h' => by rw [h] at h'; (cases h'), hb⟩

theorem two_below {w w1 : World} {o p : Obj} (h : ((w.alloc o).alloc p).grownBy w1 (some (w.heap.size + 1))) : Below w.heap.size w w1 :=
  below_gr (((Below.refl _ _).alloc (Nat.le_refl _) o).alloc (by simp) p) h (by simp; omega) (by omega)

theorem cur_new2 (w : World) (s : ByteArray) (o : Obj) : Cur ((w.alloc o).alloc (.cells #[.string s, .int .i64 0] 70)) (w.heap.size + 1) s 0 := by
  have := Whole.made (w.alloc o) 70 #[.string s, .int .i64 0]
  show Whole _ _ _ _
  simpa using this

/-- The path without an address. -/
def bare : List UInt8 := [60, 62]
def ppA (L : List UInt8) : Bool := decide (L = bare) || ppB L
def pathU (L : List UInt8) : List UInt8 := if L = bare then [] else adUser L 1
def pathD (L : List UInt8) : List UInt8 := if L = bare then [] else adDom L 1
theorem path_no {L : List UInt8} (h : ¬ L = bare) (hp : ppB L = false) : ppA L = false := by unfold ppA; rw [hp, decide_eq_false h]; rfl
theorem path_yes {L : List UInt8} (hp : ppB L = true) : ppA L = true := by unfold ppA; rw [hp]; simp
end Go.Proofs.YtpihibconbejlaaDoor
namespace Go.Proofs.YtpihibconbejlaaDoor
open Go.RowKit
set_option linter.unusedVariables false

/-- A domain. -/
def domB (L : List UInt8) : Bool := (cut 46 L).all nameB && decide ((cut 46 L).length ≤ 3) && decide (L.length ≤ 20)
theorem part_mem {α : Type} {l : List α} {x : α} {j : Nat} (d : α) (h : j < l.length) (e : l.getD j d = x) : x ∈ l := by
  rw [List.getD_eq_getElem?_getD, List.getElem?_eq_getElem h] at e
  subst e
  exact List.getElem_mem h
theorem spec_name_str (l : List UInt8) (w : World) (hs : l.length ≤ 16777216) : Calls Tryd.prog 111 #[str l] w fun e w' => e = .returned (.bool (nameB l)) ∧ w = w' := by
  have := spec_name ⟨l.toArray⟩ w hs
  simpa [str] using this
theorem cutGo_le (c : UInt8) (l : List UInt8) : ∀ cur, ∀ x ∈ cutGo c cur l, x.length ≤ cur.length + l.length := by
  induction l with
  | nil => intro cur x hx; simp [cutGo] at hx; subst hx; simp
  | cons y t ih =>
    intro cur x hx
    unfold cutGo at hx
    split at hx
    · rcases List.mem_cons.1 hx with rfl | h
      · omega
      · have := ih [] x h; simp at this; simp; omega
    · have := ih _ x hx; simp at this; simp; omega
theorem cut_le {c : UInt8} {L x : List UInt8} (h : x ∈ cut c L) : x.length ≤ L.length := by have := cutGo_le c L [] x h; simpa using this
theorem all_tk {α : Type} (f : α → Bool) (L : List α) (k : Nat) (hk : k < L.length) (h : (L.take k).all f = true) (hf : f (L[k]) = true) : (L.take (k + 1)).all f = true := by
  rw [List.take_succ_eq_append_getElem hk, List.all_append, h]
  simp [hf]
theorem all_no {α : Type} (f : α → Bool) (L : List α) (k : Nat) (hk : k < L.length) (h : f L[k] = false) : L.all f = false := by
  rw [← Bool.not_eq_true]
  intro ha
  rw [List.all_eq_true] at ha
  have := ha L[k] (List.getElem_mem hk)
  rw [h] at this
  cases this

theorem str_back (l : List UInt8) : (⟨l.toArray⟩ : ByteArray).data.toList = l := rfl
/-- The user and the domain of a text, if there are just two parts. -/
def two (L : List UInt8) : List (List UInt8) := cut 64 L
def spB (L : List UInt8) : Bool := decide ((two L).length = 2) && (nameB ((two L).getD 0 []) && domB ((two L).getD 1 []))
/-- The text of an address. -/
def adText (u d : List UInt8) : List UInt8 := if (nameB u && domB d) = true then u ++ 64 :: d else []
theorem adText_yes {u d : List UInt8} (h : (nameB u && domB d) = true) : adText u d = u ++ 64 :: d := by unfold adText; rw [if_pos h]
theorem adText_no {u d : List UInt8} (h : (nameB u && domB d) = false) : adText u d = [] := by unfold adText; rw [h]; rfl
/-- What a writer of addresses leaves. -/
def Wrote (w : World) (L : List UInt8) (e : Ending) (w' : World) : Prop := ∃ v : ByteArray, v.data.toList = L ∧ e = .returned (.string v) ∧ Below w.heap.size w w'
theorem cat_data (u d : ByteArray) : (u ++ ⟨#[64]⟩ ++ d).data.toList = u.data.toList ++ 64 :: d.data.toList := by simp
end Go.Proofs.YtpihibconbejlaaDoor
namespace Go.Proofs.YtpihibconbejlaaDoor
set_option linter.unusedVariables false

theorem sgn_ne {x c : UInt8} (h : sgn x = true) (hc : sgn c = false) : x ≠ c := by rintro rfl; rw [h] at hc; cases hc
theorem sgn46 : sgn 46 = false := by decide
theorem sgn64 : sgn 64 = false := by decide
theorem sgn62 : sgn 62 = false := by decide

/-- A list is its leading signs, and nothing or something that begins with no sign. -/
theorem span_sgn (r : List UInt8) : ∃ p q, r = p ++ q ∧ p.all sgn = true ∧ (r.takeWhile sgn) = p ∧ (q = [] ∨ ∃ x t, q = x :: t ∧ sgn x = false) := by
  induction r with
  | nil => exact ⟨[], [], rfl, rfl, rfl, .inl rfl⟩
  | cons a r ih =>
    by_cases ha : sgn a = true
    · obtain ⟨p, q, rfl, hp, ht, hq⟩ := ih
      refine ⟨a :: p, q, rfl, by simp [ha, hp], by rw [List.takeWhile_cons, if_pos ha, ht], hq⟩
    · refine ⟨[], a :: r, rfl, rfl, by rw [List.takeWhile_cons, if_neg ha], .inr ⟨a, r, rfl, Bool.eq_false_iff.2 ha⟩⟩

theorem nameB_all {p : List UInt8} (h : p.all sgn = true) : nameB p = okLen p.length := by unfold nameB okLen; rw [h]; rfl
theorem nameB_bad {p : List UInt8} {x : UInt8} (hx : x ∈ p) (h : sgn x = false) : nameB p = false := by
  unfold nameB
  have : p.all sgn = false := by
    rw [← Bool.not_eq_true]; intro ha; rw [List.all_eq_true] at ha; have := ha x hx; rw [h] at this; cases this
  rw [this]; rfl

theorem cutGo_skip (c : UInt8) (p q : List UInt8) (hp : ∀ x ∈ p, x ≠ c) : ∀ cur, cutGo c cur (p ++ q) = cutGo c (cur ++ p) q := by
  induction p with
  | nil => intro cur; simp
  | cons a p ih =>
    intro cur
    rw [List.cons_append, cutGo, if_neg (hp a (by simp)), ih (fun x hx => hp x (by simp [hx]))]
    simp
theorem cutGo_head (c : UInt8) (l : List UInt8) : ∀ cur, ∃ q rest, cutGo c cur l = (cur ++ q) :: rest := by
  induction l with
  | nil => intro cur; exact ⟨[], [], by simp [cutGo]⟩
  | cons a l ih =>
    intro cur
    unfold cutGo
    split
    · exact ⟨[], cutGo c [] l, by simp⟩
    · obtain ⟨q, rest, h⟩ := ih (cur ++ [a])
      exact ⟨a :: q, rest, by rw [h]; simp⟩
theorem cut_nil_of (c : UInt8) (p : List UInt8) (hp : ∀ x ∈ p, x ≠ c) : cut c p = [p] := by
  have := cutGo_skip c p [] hp []
  simp [cutGo] at this
  exact this
theorem cut_at (c : UInt8) (p t : List UInt8) (hp : ∀ x ∈ p, x ≠ c) : cut c (p ++ c :: t) = p :: cut c t := by
  unfold cut
  rw [cutGo_skip c p _ hp, cutGo, if_pos rfl]
  simp
theorem cut_other (c : UInt8) (p t : List UInt8) (x : UInt8) (hp : ∀ y ∈ p, y ≠ c) (hx : x ≠ c) : ∃ q rest, cut c (p ++ x :: t) = (p ++ x :: q) :: rest := by
  unfold cut
  rw [cutGo_skip c p _ hp, cutGo, if_neg hx]
  obtain ⟨q, rest, h⟩ := cutGo_head c t ([] ++ p ++ [x])
  exact ⟨q, rest, by rw [h]; simp⟩
theorem cutGo_mem (c : UInt8) (l : List UInt8) : ∀ cur x, (x ∈ cur ∨ x ∈ l) → x ≠ c → ∃ y ∈ cutGo c cur l, x ∈ y := by
  induction l with
  | nil => intro cur x hx hc; exact ⟨cur, by simp [cutGo], by simpa using hx⟩
  | cons a l ih =>
    intro cur x hx hc
    unfold cutGo
    split
    · rename_i ha
      rcases hx with hx | hx
      · exact ⟨cur, by simp, hx⟩
      · rcases List.mem_cons.1 hx with rfl | h
        · exact absurd ha hc
        · obtain ⟨y, hy, hxy⟩ := ih [] x (.inr h) hc
          exact ⟨y, by simp [hy], hxy⟩
    · refine ih (cur ++ [a]) x ?_ hc
      rcases hx with hx | hx
      · exact .inl (by simp [hx])
      · rcases List.mem_cons.1 hx with rfl | h
        · exact .inl (by simp)
        · exact .inr h

theorem nm_eq (L : List UInt8) (k : Nat) {p q : List UInt8} (h : L.drop k = p ++ q) (ht : (L.drop k).takeWhile sgn = p) : nmLen L k = p.length ∧ L.drop (k + nmLen L k) = q := by
  have e : nmLen L k = p.length := by unfold nmLen; rw [ht]
  refine ⟨e, ?_⟩
  rw [e, ← List.drop_drop, h, List.drop_left]
theorem next_nil {L : List UInt8} {k : Nat} {c : UInt8} (h : L.drop k = []) : nextIs L k c = false := by
  unfold nextIs
  rw [List.getElem?_eq_none (by simpa using h)]; rfl
theorem next_cons {L : List UInt8} {k : Nat} {c x : UInt8} {t : List UInt8} (h : L.drop k = x :: t) : nextIs L k c = (x == c) ∧ L.drop (k + 1) = t ∧ k < L.length := by
  have h1 : L[k]? = some x := by
    have : (L.drop k)[0]? = some x := by rw [h]; rfl
    simpa using this
  refine ⟨by unfold nextIs; rw [h1]; rfl, by rw [← List.drop_drop, h]; rfl, ?_⟩
  rcases Nat.lt_or_ge k L.length with hl | hl
  · exact hl
  · rw [List.getElem?_eq_none hl] at h1; cases h1
theorem len_of_drop {L : List UInt8} {k : Nat} (hk : k ≤ L.length) (h : L.drop k = []) : k = L.length := by
  have : L.length ≤ k := by simpa using h
  omega

theorem domGo_eq (L : List UInt8) : ∀ (n k : Nat), k ≤ L.length → (((domGo L n (okLen (nmLen L k)) (k + nmLen L k)).1 && decide ((domGo L n (okLen (nmLen L k)) (k + nmLen L k)).2 = L.length)) =
    ((cut 46 (L.drop k)).all nameB && decide ((cut 46 (L.drop k)).length ≤ n + 1))) := by
  intro n
  induction n with
  | zero =>
    intro k hk
    obtain ⟨p, q, hpq, hp, ht, hq⟩ := span_sgn (L.drop k)
    obtain ⟨e1, e2⟩ := nm_eq L k hpq ht
    have hle := nmLen_le L k hk
    have hne : ∀ x ∈ p, x ≠ (46 : UInt8) := fun x hx => sgn_ne (List.all_eq_true.1 hp x hx) sgn46
    rw [domGo_zero]
    rcases hq with rfl | ⟨x, t, rfl, hx⟩
    · have e3 := len_of_drop hle e2
      rw [hpq, List.append_nil, cut_nil_of 46 p hne]
      simp only [List.all_cons, List.all_nil, Bool.and_true, List.length_singleton]
      rw [nameB_all hp, ← e1, decide_eq_true e3]
      simp
    · obtain ⟨e3, e4, e5⟩ := next_cons (c := 46) e2
      rw [decide_eq_false (p := k + nmLen L k = L.length) (by omega), Bool.and_false, hpq]
      by_cases hx4 : x = 46
      · subst hx4
        rw [cut_at 46 p t hne]
        have := (cut_len 46 t).1
        rw [decide_eq_false (by rw [List.length_cons]; omega), Bool.and_false]
      · obtain ⟨q', rest, hc⟩ := cut_other 46 p t x hne hx4
        rw [hc, List.all_cons, nameB_bad (x := x) (by simp) hx]
        rfl
  | succ n ih =>
    intro k hk
    obtain ⟨p, q, hpq, hp, ht, hq⟩ := span_sgn (L.drop k)
    obtain ⟨e1, e2⟩ := nm_eq L k hpq ht
    have hle := nmLen_le L k hk
    have hne : ∀ x ∈ p, x ≠ (46 : UInt8) := fun x hx => sgn_ne (List.all_eq_true.1 hp x hx) sgn46
    rcases hq with rfl | ⟨x, t, rfl, hx⟩
    · have e3 := len_of_drop hle e2
      rw [domGo_no L _ _ _ (next_nil e2), hpq, List.append_nil, cut_nil_of 46 p hne]
      simp only [List.all_cons, List.all_nil, Bool.and_true, List.length_singleton]
      rw [nameB_all hp, ← e1, decide_eq_true e3]
      simp
    · obtain ⟨e3, e4, e5⟩ := next_cons (c := 46) e2
      by_cases hx4 : x = 46
      · subst hx4
        rw [hpq, cut_at 46 p t hne, List.all_cons, nameB_all hp, ← e1]
        by_cases ho : okLen (nmLen L k) = true
        · rw [ho, domGo_yes L n _ (by rw [e3]; rfl), ih (k + nmLen L k + 1) (by omega), e4]
          simp
        · rw [Bool.eq_false_iff.2 ho, domGo_off]; rfl
      · have h0 : nextIs L (k + nmLen L k) 46 = false := by rw [e3]; simpa using hx4
        rw [domGo_no L _ _ _ h0, decide_eq_false (p := k + nmLen L k = L.length) (by omega), Bool.and_false, hpq]
        obtain ⟨q', rest, hc⟩ := cut_other 46 p t x hne hx4
        rw [hc, List.all_cons, nameB_bad (x := x) (by simp) hx]
        rfl

theorem name_eq (L : List UInt8) : (okLen (nmLen L 0) && decide (nmLen L 0 = L.length)) = nameB L := by
  obtain ⟨p, q, hpq, hp, ht, hq⟩ := span_sgn (L.drop 0)
  obtain ⟨e1, e2⟩ := nm_eq L 0 hpq ht
  have hle := nmLen_le L 0 (Nat.zero_le _)
  rw [Nat.zero_add] at e2 hle
  rw [List.drop_zero] at hpq
  rcases hq with rfl | ⟨x, t, rfl, hx⟩
  · have e3 := len_of_drop hle e2
    rw [decide_eq_true e3, Bool.and_true, hpq, List.append_nil, nameB_all hp, ← hpq.trans (List.append_nil p), ← e3]
  · obtain ⟨e3, e4, e5⟩ := next_cons (c := 46) e2
    rw [decide_eq_false (by omega), Bool.and_false, nameB_bad (x := x) (by rw [hpq]; simp) hx]

theorem dom_eq (L : List UInt8) (k : Nat) (hk : k ≤ L.length) : (domOk L k && decide (domEnd L k = L.length)) = domB (L.drop k) := by
  have h := domGo_eq L 2 k hk
  unfold domOk domEnd domB
  by_cases he : (domGo L 2 (okLen (nmLen L k)) (k + nmLen L k)).2 = L.length
  · rw [decide_eq_true he, Bool.and_true] at h ⊢
    rw [he, h, List.length_drop]
  · rw [decide_eq_false he, Bool.and_false] at h ⊢
    rw [← h]; rfl

theorem dom_eq0 (L : List UInt8) : (domOk L 0 && decide (domEnd L 0 = L.length)) = domB L := dom_eq L 0 (Nat.zero_le _)
theorem domB_bad {t : List UInt8} (h : (64 : UInt8) ∈ t) : domB t = false := by
  obtain ⟨y, hy, hxy⟩ := cutGo_mem 46 t [] 64 (.inr h) (by decide)
  have : (cut 46 t).all nameB = false := by
    rw [← Bool.not_eq_true]; intro ha; rw [List.all_eq_true] at ha; have := ha y hy; rw [nameB_bad hxy sgn64] at this; cases this
  unfold domB
  rw [this]; rfl
theorem cut_more {c : UInt8} {t : List UInt8} (h : c ∈ t) : 2 ≤ (cut c t).length := by
  obtain ⟨a, b, rfl, hn⟩ := List.append_of_mem h |>.elim fun a h1 => h1.elim fun b h2 => (⟨a, b, h2, trivial⟩ : ∃ a b, t = a ++ c :: b ∧ True)
  unfold cut
  have key : ∀ (l cur : List UInt8), 1 ≤ (cutGo c cur l).length := fun l cur => (cutGo_len c l cur).1
  have : ∀ (a cur : List UInt8), 2 ≤ (cutGo c cur (a ++ c :: b)).length := by
    intro a
    induction a with
    | nil => intro cur; rw [List.nil_append, cutGo, if_pos rfl, List.length_cons]; have := key b []; omega
    | cons x a ih =>
      intro cur
      rw [List.cons_append, cutGo]
      split
      · rw [List.length_cons]; have := ih []; omega
      · exact ih _
  exact this a []

theorem ad_eq (L : List UInt8) : apB L = spB L ∧ (apB L = true → adUser L 0 = (two L).getD 0 [] ∧ adDom L 0 = (two L).getD 1 []) := by
  obtain ⟨p, q, hpq, hp, ht, hq⟩ := span_sgn (L.drop 0)
  obtain ⟨e1, e2⟩ := nm_eq L 0 hpq ht
  have hle := nmLen_le L 0 (Nat.zero_le _)
  rw [Nat.zero_add] at e2 hle
  rw [List.drop_zero] at hpq
  have hne : ∀ x ∈ p, x ≠ (64 : UInt8) := fun x hx => sgn_ne (List.all_eq_true.1 hp x hx) sgn64
  unfold apB adOk adEnd spB two
  rw [Nat.zero_add]
  rcases hq with rfl | ⟨x, t, rfl, hx⟩
  · rw [next_nil e2, Bool.and_false, Bool.false_and, Bool.false_and]
    refine ⟨?_, fun h => by cases h⟩
    rw [hpq, List.append_nil, cut_nil_of 64 p hne]
    rfl
  · obtain ⟨e3, e4, e5⟩ := next_cons (c := 64) e2
    by_cases hx4 : x = 64
    · subst hx4
      have e6 := dom_eq L (nmLen L 0 + 1) (by omega)
      rw [e4] at e6
      have en : okLen (nmLen L 0) = nameB p := by rw [e1, nameB_all hp]
      have hc : cut 64 L = p :: cut 64 t := (congrArg (cut 64) hpq).trans (cut_at 64 p t hne)
      rw [e3, beq_self_eq_true, Bool.and_true, Bool.and_assoc, e6, en, hc]
      simp only [List.getD_cons_succ, List.getD_cons_zero]
      by_cases hm : (64 : UInt8) ∈ t
      · rw [domB_bad hm, Bool.and_false, decide_eq_false (by rw [List.length_cons]; have := cut_more hm; omega)]
        exact ⟨rfl, fun h => by cases h⟩
      · rw [cut_nil_of 64 t (fun y hy e => hm (e ▸ hy))]
        refine ⟨rfl, fun h => ?_⟩
        have hd : domB t = true := by
          rw [Bool.and_eq_true] at h; exact h.2
        rw [← e6, Bool.and_eq_true] at hd
        have hend : domEnd L (nmLen L 0 + 1) = L.length := of_decide_eq_true hd.2
        constructor
        · unfold adUser
          rw [List.drop_zero, e1]
          conv => lhs; rw [hpq]
          simp
        · unfold adDom adEnd
          rw [Nat.zero_add, hend, e4]
          simp only [List.getD_cons_zero]
          rw [List.take_of_length_le]
          rw [← e4, List.length_drop]
          exact Nat.le_refl _
    · have h0 : nextIs L (nmLen L 0) 64 = false := by rw [e3]; simpa using hx4
      rw [h0, Bool.and_false, Bool.false_and, Bool.false_and]
      refine ⟨?_, fun h => by cases h⟩
      obtain ⟨q', rest, hc⟩ := cut_other 64 p t x hne hx4
      rw [hpq, hc]
      simp only [List.getD_cons_zero]
      rw [nameB_bad (x := x) (by simp) hx]
      simp
end Go.Proofs.YtpihibconbejlaaDoor
