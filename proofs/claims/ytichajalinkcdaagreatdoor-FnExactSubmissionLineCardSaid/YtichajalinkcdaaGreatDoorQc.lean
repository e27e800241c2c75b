/-
  My texts Shelf, Bld, Ienc, Bdec, Idec, Bbase, Iloop, Head, Heade, Headf, Headg, Headl, Row, Od, Pmath, Pmake in one, so that a claim holds fewer files. Conditions: each contract's own.
-/
import Derived.Test.YtichajalinkcdaaGreatDoorQb
import Derived.Shelf.Strings.BuilderK
import Derived.Shelf.Small.Strs
import Derived.Test.YtichajalinkcdaaGreatDoorProg
import Derived.WalkKit
import Derived.Lib.OthersKept
import Derived.Lib.Hide
import Derived.IntWalk
import Derived.Test.YtichajalinkcdaaGreatDoorChecked
import GoSem.ClaimJoined
import Derived.JoinedOf
import Derived.KernelRfl
import Derived.Maps.AppendAt
import Derived.Laws.OwnMore
import Derived.OwnWalk
import Derived.Laws.AppendOwnNone
import Derived.Deep.RegionWith
import Derived.Sort.Walk0
namespace Go.Proofs.YtichajalinkcdaaGreatDoor
open Go.Shelf
def lays169_ren : Go.Shelf.Ren := ⟨fun | 169 => 95 | n => n, fun | 70 => 96 | 9 => 9 | 0 => 0 | 72 => 98 | 37 => 22 | 127 => 120 | 3 => 3 | 5 => 5 | n => n, fun | n => n⟩
theorem lays169 : Go.Proofs.Lays.n169 Tryz.prog lays169_ren := {
  mixed := by kernel_rfl
  f169 := Tryz.func95.trans (congrArg some (by kernel_rfl))
  t0 := Tryz.underlying0
  a0 := Tryz.isAgg0
  z0 := Tryz.sizeOf0
  v0 := Tryz.zeroValue0
  t3 := Tryz.underlying3
  a3 := Tryz.isAgg3
  z3 := Tryz.sizeOf3
  v3 := Tryz.zeroValue3
  t9 := Tryz.underlying9
  a9 := Tryz.isAgg9
  z9 := Tryz.sizeOf9
  v9 := Tryz.zeroValue9
  t37 := Tryz.underlying22
  a37 := Tryz.isAgg22
  z37 := Tryz.sizeOf22
  v37 := Tryz.zeroValue22
  t70 := Tryz.underlying96
  a70 := Tryz.isAgg96
  z70 := Tryz.sizeOf96
  v70 := Tryz.zeroValue96
  t72 := Tryz.underlying98
  a72 := Tryz.isAgg98
  z72 := Tryz.sizeOf98
  v72 := Tryz.zeroValue98
  t127 := Tryz.underlying120
  a127 := Tryz.isAgg120
  z127 := Tryz.sizeOf120
  v127 := Tryz.zeroValue120 }
theorem extra169 : Builder.Extra Tryz.prog lays169_ren := {
  sizeBuilder := by kernel_rfl
  liesBuilder := by kernel_rfl
  t5 := Tryz.underlying5
  a5 := Tryz.isAgg5
  z5 := Tryz.sizeOf5
  v5 := Tryz.zeroValue5
  infoByte := by kernel_rfl
  cellsByte := by kernel_rfl
  sizeByte := by kernel_rfl
  neB5 := by decide }
open Go.RowKit in
theorem builder_string (B b : Nat) (l : List UInt8) (w : World) (h : Lib.IsBuilder 98 5 B b (Lib.byteCells l) w) (hBw : B ≤ w.heap.size) :
    Calls Tryz.prog 95 #[.pointer (some ⟨b, 0, none⟩)] w fun e w' => e = .returned (.string ⟨l.toArray⟩) ∧ Below B w w' := Any.Builder_String_any lays169 extra169 B b l w h hBw
open Go.RowKit in
theorem builder_string_k (B b : Nat) (l : List UInt8) (w : World) (h : Lib.IsBuilderF 98 5 B b (Lib.byteCells l) w) (hBw : B ≤ w.heap.size) :
    Calls Tryz.prog 95 #[.pointer (some ⟨b, 0, none⟩)] w fun e w' => e = .returned (.string ⟨l.toArray⟩) ∧ (Lib.IsBuilderF 98 5 B b (Lib.byteCells l) w' ∧ Below B w w' ∧ Lib.OthersKept 5 (some b) w w') := Any.Builder_String_any_k lays169 extra169 B b l w h hBw
def lays137_ren : Go.Shelf.Ren := ⟨fun | 137 => 153 | 217 => 144 | 266 => 151 | n => n, fun | 9 => 9 | 5 => 5 | 3 => 3 | n => n, fun | n => n⟩
theorem lays137 : Go.Proofs.Lays.n137 Tryz.prog lays137_ren := {
  mixed := by kernel_rfl
  f137 := Tryz.func153.trans (congrArg some (by kernel_rfl))
  f217 := Tryz.func144.trans (congrArg some (by kernel_rfl))
  f266 := Tryz.func151.trans (congrArg some (by kernel_rfl))
  t3 := Tryz.underlying3
  a3 := Tryz.isAgg3
  z3 := Tryz.sizeOf3
  v3 := Tryz.zeroValue3
  t5 := Tryz.underlying5
  a5 := Tryz.isAgg5
  z5 := Tryz.sizeOf5
  v5 := Tryz.zeroValue5
  t9 := Tryz.underlying9
  a9 := Tryz.isAgg9
  z9 := Tryz.sizeOf9
  v9 := Tryz.zeroValue9 }
open Go.RowKit in
theorem strings_IndexByte (s : ByteArray) (c : Int) (w : World) :
    Calls Tryz.prog 153 #[.string s, .int .u8 c] w fun e w' => e = .returned (.int .i64 (Lib.indexByte s.data.toList c.toNat.toUInt8)) ∧ w' = w := Any.strings_IndexByte lays137 s c w
end Go.Proofs.YtichajalinkcdaaGreatDoor
namespace Go.Proofs.YtichajalinkcdaaGreatDoor
open Go.RowKit Go.Shelf
set_option linter.unusedVariables false

set_option maxHeartbeats 1000000 in
set_option maxRecDepth 100000 in
theorem copyCheck_used (b : Nat) (w : World) (h0 : w.cell? ⟨b, 0, none⟩ = some (.pointer (some ⟨b, 0, none⟩))) :
    Calls Tryz.prog 112 #[.pointer (some ⟨b, 0, none⟩)] w fun e w' => e = .returned (.tuple #[]) ∧ w' = w := by
  obtain ⟨j, hj, _⟩ : ∃ j, Tryz.prog.info? 98 = some j ∧ j.size = 2 := Option.map_eq_some_iff.1 extra169.sizeBuilder
  go_enter Tryz.func112, Tryz.ntmps112
  go_wp2
  rw [Lib.run_neq_ptr_same w _ Tryz.underlying96 hj]
  go_wp2
  go_end0
  exact ⟨rfl, rfl⟩
set_option maxHeartbeats 1000000 in
set_option maxRecDepth 100000 in
theorem copyCheck_fresh (b : Nat) (w : World) (h0 : w.cell? ⟨b, 0, none⟩ = some (.pointer none)) (hsh : w.shape? b = some (98, 2)) (hfz : w.frozen? ⟨b, 0, none⟩ = false) :
    Calls Tryz.prog 112 #[.pointer (some ⟨b, 0, none⟩)] w fun e w' => e = .returned (.tuple #[]) ∧ w' = w.setCell ⟨b, 0, none⟩ (.pointer (some ⟨b, 0, none⟩)) := by
  obtain ⟨j, hj, hjs⟩ : ∃ j, Tryz.prog.info? 98 = some j ∧ j.size = 2 := Option.map_eq_some_iff.1 extra169.sizeBuilder
  have hlie : liesAt Tryz.prog Tryz.prog.depth 98 (2 / Tryz.prog.cellsOf 98) 0 98 1 = true := extra169.liesBuilder
  go_enter Tryz.func112, Tryz.ntmps112
  go_wp2
  rw [Lib.run_to_unsafe w ⟨b, 0, none⟩ Tryz.underlying96 Tryz.underlying132 hj (by rw [hjs]; decide) hsh (Nat.zero_lt_succ 1)]
  simp only [Result.andThen]
  rw [Oper.upon_value]
  go_wp2
  rw [run_callFunc_extern Tryz.func131 (by kernel_rfl) (by kernel_rfl) (by kernel_rfl) (e := Extern.AbiNoEscape.same) (by kernel_rfl)]
  rw [Lib.run_noEscape]
  simp only [Result.andThen]
  rw [Oper.upon_value]
  go_wp2
  rw [Lib.run_from_unsafe w ⟨b, 0, none⟩ Tryz.underlying132 Tryz.underlying96 hj hsh hlie]
  simp only [Result.andThen]
  rw [Oper.upon_value]
  go_wp2
  go_end0
  exact ⟨rfl, rfl⟩
theorem copyCheck_any (B b : Nat) (bs : List Value) (w : World) (h : Lib.IsBuilder 98 5 B b bs w) :
    Calls Tryz.prog 112 #[.pointer (some ⟨b, 0, none⟩)] w fun e w' => e = .returned (.tuple #[]) ∧ (Lib.BuilderAt 98 5 B b (.pointer (some ⟨b, 0, none⟩)) bs w' ∧ Below B w w' ∧ Lib.OthersKept 5 (some b) w w') := by
  rcases h with h | h
  · refine (copyCheck_fresh b w h.cell0 h.shape h.frozen0).mono ?_
    rintro e w' ⟨rfl, rfl⟩
    exact ⟨rfl, h.used _, (Below.refl B w).setCell (p := ⟨b, 0, none⟩) h.1 _, (Lib.OthersKept.refl _ _ w).setCell ⟨b, 0, none⟩ rfl _⟩
  · refine (copyCheck_used b w h.cell0).mono ?_
    rintro e w' ⟨rfl, rfl⟩
    exact ⟨rfl, h, Below.refl B _, Lib.OthersKept.refl _ _ _⟩
set_option maxHeartbeats 2000000 in
set_option maxRecDepth 100000 in
theorem write_string (B b : Nat) (bs : List Value) (s : ByteArray) (w : World) (h : Lib.IsBuilder 98 5 B b bs w) (hlen : bs.length + s.size ≤ 140737488355328) (hBw : B ≤ w.heap.size) :
    Calls Tryz.prog 93 #[.pointer (some ⟨b, 0, none⟩), .string s] w fun e w' => e = .returned (.tuple #[.int .i64 s.size, .nilIface]) ∧ (Lib.BuilderAt 98 5 B b (.pointer (some ⟨b, 0, none⟩)) (bs ++ Lib.strCells s) w' ∧ Below B w w' ∧ Lib.OthersKept 5 (some b) w w') := by
  obtain ⟨i0, hi, hz0, hz1, hz2⟩ := info_parts (show (Tryz.prog.info? 5).map (fun i => (i.zero, i.size, i.bytes)) = some (some (.int .u8 0), 1, 1) from extra169.infoByte)
  go_enter Tryz.func93, Tryz.ntmps93
  go_wp2_with fail
  refine (copyCheck_any B b bs _ h).mono ?_
  rintro e w1 ⟨rfl, h1, hb1, hk1⟩
  obtain ⟨hB, v, hbk, hown, hne⟩ := h1
  have c0 : w1.cell? ⟨b, 0, none⟩ = some (.pointer (some ⟨b, 0, none⟩)) := by rw [Lib.cell_of_heap hbk]; rfl
  have c1 : w1.cell? ⟨b, 1, none⟩ = some v := by rw [Lib.cell_of_heap hbk]; rfl
  go_wp2_with (at_builtin; refine Lib.wpList_append_own_string _ rfl _ _ 22 9 rfl B 5 i0 Tryz.underlying22 Tryz.underlying9 hi hz0 hz1 hz2 _ _ _ rfl hown s rfl ?c3 ?c4 ?c5 ?_)
  case c3 => unfold maxLen; omega
  case c4 => omega
  case c5 => have := hb1.size; omega
  intro v' w2 hown' hgrow _
  have hlt : b < w1.heap.size := by
    rcases Nat.lt_or_ge b w1.heap.size with h' | h'
    · exact h'
    · simp [Array.getElem?_eq_none h'] at hbk
  have hb2 : w2.heap[b]? = some (.cells #[.pointer (some ⟨b, 0, none⟩), v] 98 (0, 0)) := by
    rw [hgrow.block b hlt (fun e => hne e.symm)]
    exact hbk
  have d0 : w2.cell? ⟨b, 0, none⟩ = some (.pointer (some ⟨b, 0, none⟩)) := by rw [Lib.cell_of_heap hb2]; rfl
  have d1 : w2.cell? ⟨b, 1, none⟩ = some v := by rw [Lib.cell_of_heap hb2]; rfl
  have f1 : w2.frozen? ⟨b, 1, none⟩ = false := Lib.frozen_of_heap hb2 1
  obtain ⟨ao, n', cap, rfl⟩ : ∃ ao n' cap, v' = .slice ao n' cap := by
    rcases hown'.2 with ⟨hv, _⟩ | ⟨g, cap, cur, hv, _⟩
    · exact ⟨_, _, _, hv⟩
    · exact ⟨_, _, _, hv⟩
  go_wp2
  go_ret2
  refine ⟨rfl, ?_, ?_, (hk1.grown hgrow (Lib.ownsRowF_kind (World.ownsRowF_of hown))).setCell ⟨b, 1, none⟩ rfl _⟩
  · exact Lib.BuilderAt.put (T := 98) (e := 5) hB hb2 (bs' := bs ++ Lib.strCells s) (by simpa [Lib.strCells_length] using hown') (by decide)
  · exact (hb1.grown hgrow (by have := hb1.size; omega) (fun k hk => (hown.lt k hk).1)).setCell (p := ⟨b, 1, none⟩) hB _
end Go.Proofs.YtichajalinkcdaaGreatDoor
namespace Go.Proofs.YtichajalinkcdaaGreatDoor
open Go.RowKit
set_option linter.unusedVariables false
theorem byte_shift (k : Nat) (hk : k ≤ 2) (w : World) : Calls Tryz.prog 113 #[.int .i64 (k : Int)] w fun e w' => e = .returned (.int .i64 (8 * (2 - (k : Int)))) ∧ w' = w := by
  have h0 : (k : Int) ≤ 2 := by omega
  have h1 : (0 : Int) ≤ (k : Int) := by omega
  go_enter Tryz.func113, Tryz.ntmps113
  go_wp2
  go_ret
  exact ⟨rfl, rfl⟩
theorem sign_shift (k : Nat) (hk : k ≤ 3) (w : World) : Calls Tryz.prog 114 #[.int .i64 (k : Int)] w fun e w' => e = .returned (.int .i64 (6 * (3 - (k : Int)))) ∧ w' = w := by
  have h0 : (k : Int) ≤ 3 := by omega
  have h1 : (0 : Int) ≤ (k : Int) := by omega
  go_enter Tryz.func114, Tryz.ntmps114
  go_wp2
  go_ret
  exact ⟨rfl, rfl⟩
/-- The number of the first 'k' bytes of a group. -/
def nb (l : List UInt8) : Nat → Nat
  | 0 => 0
  | 1 => 65536 * (l.getD 0 0).toNat
  | 2 => 65536 * (l.getD 0 0).toNat + 256 * (l.getD 1 0).toNat
  | _ => 65536 * (l.getD 0 0).toNat + 256 * (l.getD 1 0).toNat + (l.getD 2 0).toNat
theorem nb_lt (l : List UInt8) (k : Nat) : nb l k < 16777216 := by
  have h0 := (l.getD 0 0).toNat_lt
  have h1 := (l.getD 1 0).toNat_lt
  have h2 := (l.getD 2 0).toNat_lt
  match k with
  | 0 => show 0 < _; omega
  | 1 => show 65536 * (l.getD 0 0).toNat < _; omega
  | 2 => show 65536 * (l.getD 0 0).toNat + 256 * (l.getD 1 0).toNat < _; omega
  | k + 3 => show 65536 * (l.getD 0 0).toNat + 256 * (l.getD 1 0).toNat + (l.getD 2 0).toNat < _; omega
theorem or_i64 (x y : Nat) (hx : x < 2 ^ 62) (hy : y < 2 ^ 62) : bits .or .i64 (x : Int) (y : Int) = ((x ||| y : Nat) : Int) := by
  have ex : (BitVec.ofInt 64 (x : Int)).toNat = x := by rw [BitVec.ofInt_natCast, BitVec.toNat_ofNat]; exact Nat.mod_eq_of_lt (by omega)
  have ey : (BitVec.ofInt 64 (y : Int)).toNat = y := by rw [BitVec.ofInt_natCast, BitVec.toNat_ofNat]; exact Nat.mod_eq_of_lt (by omega)
  have hlt : x ||| y < 2 ^ 62 := Nat.or_lt_two_pow hx hy
  show IntKind.i64.wrap ((BitVec.ofInt 64 (x : Int) ||| BitVec.ofInt 64 (y : Int)).toNat : Int) = _
  rw [BitVec.toNat_or, ex, ey, IntKind.wrap_i64]
  omega
theorem or_join (x y i : Nat) (hx : x < 2 ^ 62) (hi : y < 2 ^ i) (hy : y < 2 ^ 62) (h : x % 2 ^ i = 0) : bits .or .i64 (x : Int) (y : Int) = ((x + y : Nat) : Int) := by rw [or_i64 x y hx hy, nat_join i x y h hi]
theorem list_at {s : ByteArray} {k : Nat} (h : k < s.size) (d : UInt8) : s.data.toList.getD k d = s[k] := by
  rw [List.getD_eq_getElem?_getD, List.getElem?_eq_getElem (by simpa using h)]
  rfl
theorem nb_step {s : ByteArray} {k : Nat} (h : k < s.size) (h2 : k ≤ 2) : bits .or .i64 ((nb s.data.toList k : Nat) : Int) (wrap64 ((s[k].toNat : Int) * 2 ^ (8 * (2 - k)))) = ((nb s.data.toList (k + 1) : Nat) : Int) := by
  have hb := s[k].toNat_lt
  have e := list_at h 0
  have hl := nb_lt s.data.toList k
  rcases (by omega : k = 0 ∨ k = 1 ∨ k = 2) with rfl | rfl | rfl
  · have e1 : wrap64 ((s[0].toNat : Int) * 2 ^ (8 * (2 - 0))) = ((65536 * s[0].toNat : Nat) : Int) := by unfold wrap64; simp; omega
    rw [e1, or_join _ _ 24 (by omega) (by omega) (by omega) (by rfl)]
    show ((0 + 65536 * s[0].toNat : Nat) : Int) = ((65536 * (s.data.toList.getD 0 0).toNat : Nat) : Int)
    rw [e, Nat.zero_add]
  · have e1 : wrap64 ((s[1].toNat : Int) * 2 ^ (8 * (2 - 1))) = ((256 * s[1].toNat : Nat) : Int) := by unfold wrap64; simp; omega
    rw [e1, or_join _ _ 16 (by omega) (by omega) (by omega) (by show 65536 * _ % 65536 = 0; omega)]
    show ((65536 * (s.data.toList.getD 0 0).toNat + 256 * s[1].toNat : Nat) : Int) = ((65536 * (s.data.toList.getD 0 0).toNat + 256 * (s.data.toList.getD 1 0).toNat : Nat) : Int)
    rw [e]
  · have e1 : wrap64 ((s[2].toNat : Int) * 2 ^ (8 * (2 - 2))) = ((s[2].toNat : Nat) : Int) := by unfold wrap64; simp; omega
    rw [e1, or_join _ _ 8 (by omega) (by omega) (by omega) (by show (65536 * _ + 256 * _) % 256 = 0; omega)]
    show ((65536 * (s.data.toList.getD 0 0).toNat + 256 * (s.data.toList.getD 1 0).toNat + s[2].toNat : Nat) : Int) = ((65536 * (s.data.toList.getD 0 0).toNat + 256 * (s.data.toList.getD 1 0).toNat + (s.data.toList.getD 2 0).toNat : Nat) : Int)
    rw [e]

/-- The signs of a group, of which 'c' are written. -/
def sv (N c j : Nat) : UInt8 := if j < c then sig (N / 2 ^ (6 * (3 - j)) % 64) else 61
def cs (N c : Nat) : Array Value := #[.int .u8 ((sv N c 0).toNat : Int), .int .u8 ((sv N c 1).toNat : Int), .int .u8 ((sv N c 2).toNat : Int), .int .u8 ((sv N c 3).toNat : Int)]
theorem cs_step (N c : Nat) (h : c ≤ 3) : (cs N c).setIfInBounds c (.int .u8 ((sig (N / 2 ^ (6 * (3 - c)) % 64)).toNat : Int)) = cs N (c + 1) := by
  rcases (by omega : c = 0 ∨ c = 1 ∨ c = 2 ∨ c = 3) with rfl | rfl | rfl | rfl <;> rfl
theorem cs_at (N c : Nat) (h : c ≤ 3) : (cs N c)[c]? = some (.int .u8 61) := by
  rcases (by omega : c = 0 ∨ c = 1 ∨ c = 2 ∨ c = 3) with rfl | rfl | rfl | rfl <;> rfl
theorem cs_zero (N : Nat) : cs N 0 = #[.int .u8 61, .int .u8 61, .int .u8 61, .int .u8 61] := rfl
theorem cs_bytes (N c : Nat) : (cs N c).toList = Lib.byteCells [sv N c 0, sv N c 1, sv N c 2, sv N c 3] := rfl
theorem and63 (m c : Nat) (hm : m < 16777216) : bits .and .i64 ((m : Int) / 2 ^ (6 * (3 - c))) 63 = ((m / 2 ^ (6 * (3 - c)) % 64 : Nat) : Int) := by
  have e : (m : Int) / 2 ^ (6 * (3 - c)) = ((m / 2 ^ (6 * (3 - c)) : Nat) : Int) := by simp
  rw [e]
  have hle : m / 2 ^ (6 * (3 - c)) ≤ m := Nat.div_le_self _ _
  obtain ⟨x, hx⟩ : ∃ x, m / 2 ^ (6 * (3 - c)) = x := ⟨_, rfl⟩
  rw [hx] at hle ⊢
  have ex : (BitVec.ofInt 64 (x : Int)).toNat = x := by rw [BitVec.ofInt_natCast, BitVec.toNat_ofNat]; exact Nat.mod_eq_of_lt (by omega)
  show IntKind.i64.wrap ((BitVec.ofInt 64 (x : Int) &&& BitVec.ofInt 64 (63 : Int)).toNat : Int) = _
  rw [BitVec.toNat_and, ex]
  have e63 : (BitVec.ofInt 64 (63 : Int)).toNat = 63 := by rfl
  rw [e63, nat_mask6, IntKind.wrap_i64]
  omega
theorem enc_signs_of {s : ByteArray} (h1 : 1 ≤ s.size) (h3 : s.size ≤ 3) : [sv (nb s.data.toList s.size) (s.size + 1) 0, sv (nb s.data.toList s.size) (s.size + 1) 1, sv (nb s.data.toList s.size) (s.size + 1) 2, sv (nb s.data.toList s.size) (s.size + 1) 3] = enc s.data.toList := by
  have hl : s.data.toList.length = s.size := by simp
  obtain ⟨l, hs⟩ : ∃ l, s.data.toList = l := ⟨_, rfl⟩
  rw [← hl, hs]
  rw [← hl, hs] at h1 h3
  have hz : (0 : UInt8).toNat = 0 := rfl
  match l, h1, h3 with
  | [a], _, _ =>
    have e : nb [a] 1 = n24 a 0 0 := by unfold n24; rw [hz]; show 65536 * a.toNat = _; omega
    have hn := n24_lt a 0 0
    show [sv (nb [a] 1) 2 0, sv (nb [a] 1) 2 1, 61, 61] = _
    rw [enc_one, e]
    unfold sv q0 q1
    rw [if_pos (by decide), if_pos (by decide)]
    congr 2
    · congr 1; omega
  | [a, b], _, _ =>
    have e : nb [a, b] 2 = n24 a b 0 := by unfold n24; rw [hz]; show 65536 * a.toNat + 256 * b.toNat = _; omega
    have hn := n24_lt a b 0
    show [sv (nb [a, b] 2) 3 0, sv (nb [a, b] 2) 3 1, sv (nb [a, b] 2) 3 2, 61] = _
    rw [enc_two, e]
    unfold sv q0 q1 q2
    rw [if_pos (by decide), if_pos (by decide), if_pos (by decide)]
    congr 2
    · congr 1; omega
  | [a, b, c], _, _ =>
    have e : nb [a, b, c] 3 = n24 a b c := rfl
    have hn := n24_lt a b c
    show [sv (nb [a, b, c] 3) 4 0, sv (nb [a, b, c] 3) 4 1, sv (nb [a, b, c] 3) 4 2, sv (nb [a, b, c] 3) 4 3] = _
    rw [enc_more, enc_nil, e]
    unfold sv q0 q1 q2 q3
    rw [if_pos (by decide), if_pos (by decide), if_pos (by decide), if_pos (by decide)]
    congr 2
    · congr 1; omega
    · simp

set_option maxHeartbeats 1000000 in
theorem enc_group (s : ByteArray) (w : World) (h1 : 1 ≤ s.size) (h3 : s.size ≤ 3) :
    Calls Tryz.prog 94 #[.string s] w fun e w' => e = .returned (.string (bt (enc s.data.toList))) ∧ Below w.heap.size w w' := by
  go_enter Tryz.func94, Tryz.ntmps94
  go_wp2
  go_loopw [3, 4, 9] (fun b j i wr => ∃ (k m : Nat), k ≤ s.size ∧ m < 16777216 ∧ i = .int .i64 (k : Int) ∧ b = .int .i64 (m : Int) ∧ Hid (m = nb s.data.toList k) ∧ Hid (Below w.heap.size w wr)) (fun _ _ i _ => s.size - (intOf i).toNat)
  case atStart => exact ⟨0, 0, by omega, by omega, by go_num, by go_num, rfl, Lib.hid (Below.refl _ _)⟩
  case round =>
    obtain ⟨k, m, hk, hm, rfl, rfl, HM, HW⟩ := hrel
    by_cases hlt : k < s.size
    · have i0 : (0 : Int) ≤ (k : Int) := by omega
      have i1 : (k : Int) < (s.size : Int) := by omega
      have i2 : (k : Int) ≤ 2 := by omega
      have b0 : (s[k].toNat : Int) ≤ 255 := by have := s[k].toNat_lt; omega
      have b0' : (0 : Int) ≤ (s[k].toNat : Int) := by omega
      have W1 : IntKind.i64.wrap (s[k].toNat : Int) = (s[k].toNat : Int) := IntWalk.i64_in _ (by omega)
      go_wp2
      go_quiet ((go_at_call 113; exact Calls.quiet_of_same (byte_shift _ (by omega) _)))
      go_wp2
      go_roundw
      case rel => exact ⟨k + 1, nb s.data.toList (k + 1), by omega, nb_lt _ _, by go_num, by rw [HM.out, nb_step hlt (by omega)], rfl, Lib.hid (below_drewN' HW.out _)⟩
      case measure => simp [intOf]; omega
    · have i1 : ¬ (k : Int) < (s.size : Int) := by omega
      have hks : k = s.size := by omega
      have HK := Lib.hid hks
      clear hks
      obtain ⟨wo, rfl⟩ : ∃ wo : World, wo = wr := ⟨_, rfl⟩
      have HB0 : Hid (Below w.heap.size w (wo.alloc (.cells #[.int .u8 61, .int .u8 61, .int .u8 61, .int .u8 61] 119))) := Lib.hid (HW.out.alloc HW.out.size _)
      have hge : w.heap.size ≤ wo.heap.size := HW.out.size
      have HWH := Lib.hid (Whole.made wo 119 #[.int .u8 61, .int .u8 61, .int .u8 61, .int .u8 61])
      obtain ⟨g, hg⟩ : ∃ g, wo.heap.size = g := ⟨_, rfl⟩
      have HG := Lib.hid hg
      rw [hg] at hge
      go_wp2
      clear hg
      go_loopw [6, 26] (fun j i wr => ∃ c : Nat, c ≤ s.size + 1 ∧ i = .int .i64 (c : Int) ∧ Hid (Whole wr g 119 (cs m c)) ∧ Hid (Below w.heap.size w wr)) (fun _ i _ => s.size + 1 - (intOf i).toNat)
      case atStart => exact ⟨0, by omega, by go_num, by rw [cs_zero, ← HG.out]; exact HWH, HB0⟩
      case round =>
        obtain ⟨c, hc, rfl, HX, HB⟩ := hrel
        by_cases hlt : c < s.size + 1
        · have j0 : (0 : Int) ≤ (c : Int) := by omega
          have j1 : (c : Int) < (s.size : Int) + 1 := by omega
          have j2 : (c : Int) ≤ 3 := by omega
          have j3 : (c : Int) < 4 := by omega
          obtain ⟨d, hd⟩ : ∃ d, m / 2 ^ (6 * (3 - c)) % 64 = d := ⟨_, rfl⟩
          have E := and63 m c hm
          rw [hd] at E
          have hd64 : d < 64 := by rw [← hd]; omega
          have d0 : (0 : Int) ≤ (d : Int) := by omega
          have d1 : (d : Int) < 64 := by omega
          have HL := Lib.hid (letters ⟨d, hd64⟩)
          have HD := Lib.hid hd
          clear hd
          have hf : wr.frozen? ⟨g, c, none⟩ = false := HX.out.free c
          have hcc : wr.cell? ⟨g, c, none⟩ = some (.int .u8 61) := by rw [HX.out.cell c, cs_at m c (by omega)]
          go_wp2_with fail
          refine (sign_shift c (by omega) _).mono ?_
          rintro e w' ⟨rfl, rfl⟩
          go_wp2
          go_roundw
          case rel =>
            refine ⟨c + 1, by omega, by go_num, ?_, Lib.hid (HB.out.setCell hge _)⟩
            rw [← cs_step m c (by omega), HD.out]
            have h := HX.out.store c (.int .u8 ((sig d).toNat : Int))
            have e := at_of (B := ⟨#[65, 66, 67, 68, 69, 70, 71, 72, 73, 74, 75, 76, 77, 78, 79, 80, 81, 82, 83, 84, 85, 86, 87, 88, 89, 90, 97, 98, 99, 100, 101, 102, 103, 104, 105, 106, 107, 108, 109, 110, 111, 112, 113, 114, 115, 116, 117, 118, 119, 120, 121, 122, 48, 49, 50, 51, 52, 53, 54, 55, 56, 57, 43, 47]⟩) (n := d) hd64 HL.out
            rw [← e] at h ⊢
            exact Lib.hid h
          case measure => simp [intOf]; omega
        · have j1 : ¬ (c : Int) < (s.size : Int) + 1 := by omega
          have HC : Hid (c = s.size + 1) := Lib.hid (by omega)
          obtain ⟨L, hL⟩ : ∃ L, [sv m c 0, sv m c 1, sv m c 2, sv m c 3] = L := ⟨_, rfl⟩
          have hL4 : L.length = 4 := by rw [← hL]; rfl
          have hcells : ∀ j (hj : j < L.length), wr.cell? ((⟨g, 0, none⟩ : Addr).add j) = some (.int .u8 (L[j].toNat : Int)) := by
            subst hL
            intro j hj
            rw [show (⟨g, 0, none⟩ : Addr).add j = ⟨g, j, none⟩ from by simp [Addr.add]; exact fun e => e.symm, HX.out.cell j]
            have hj4 : j < 4 := by simpa using hj
            rcases (by omega : j = 0 ∨ j = 1 ∨ j = 2 ∨ j = 3) with rfl | rfl | rfl | rfl <;> rfl
          have hcv := run_convert_bytes_back (P := Tryz.prog) wr 22 9 5 ⟨g, 0, none⟩ 4 L Tryz.underlying22 Tryz.underlying5 Tryz.underlying9 hcells
          rw [hL4] at hcv
          have HLL := Lib.hid hL
          clear hcells hL hL4
          go_wp2
          go_ret
          refine ⟨?_, HB.out⟩
          rw [← HLL.out, HC.out, HM.out, HK.out, enc_signs_of h1 h3]
          rfl
end Go.Proofs.YtichajalinkcdaaGreatDoor
namespace Go.Proofs.YtichajalinkcdaaGreatDoor
open Go.RowKit
set_option linter.unusedVariables false

/-- The number of signs, read from the left. -/
def fold64 (l : List UInt8) : Nat := l.foldl (fun n c => 64 * n + val c) 0
theorem fold64_add (l : List UInt8) (c : UInt8) : fold64 (l ++ [c]) = 64 * fold64 l + val c := by unfold fold64; rw [List.foldl_append]; rfl
theorem fold64_lt (l : List UInt8) : fold64 l < 64 ^ l.length := by
  have h : ∀ n, l.foldl (fun n c => 64 * n + val c) n < 64 ^ l.length * (n + 1) := by
    induction l with
    | nil => intro n; simp
    | cons a l ih =>
      intro n
      have h1 := ih (64 * n + val a)
      have h2 := val_lt a
      rw [List.foldl_cons, List.length_cons, Nat.pow_succ]
      refine Nat.lt_of_lt_of_le h1 ?_
      rw [Nat.mul_assoc]
      exact Nat.mul_le_mul_left _ (by omega)
  have := h 0
  simpa [fold64] using this
theorem fold64_four (a b c d : UInt8) : fold64 [a, b, c, d] = n4 a b c d := by unfold fold64 n4; simp
theorem max_val (c : UInt8) : max (valI c) 0 = (val c : Int) := by
  unfold valI val
  cases h : num c with
  | none => rfl
  | some n => simp
theorem valI_le (c : UInt8) : -1 ≤ valI c ∧ valI c ≤ 63 := by
  unfold valI
  cases h : num c with
  | none => simp
  | some n => have := (num_some h).1; simp; omega
theorem valI_or (c : UInt8) : valI c = (val c : Int) ∨ (valI c = -1 ∧ val c = 0) := by
  unfold valI val
  cases h : num c with
  | none => exact .inr ⟨rfl, rfl⟩
  | some n => exact .inl rfl
theorem drop4 {s : ByteArray} (k : Nat) (h : k + 4 ≤ s.size) : s.data.toList.drop k = s[k] :: s[k + 1] :: s[k + 2] :: s[k + 3] :: s.data.toList.drop (k + 4) := by
  rw [drop1 k (by omega), drop1 (k + 1) (by omega), drop1 (k + 2) (by omega), drop1 (k + 3) (by omega)]
theorem dl_short {t : List UInt8} (h : t.length < 4) : dl t = [] := by
  have := dl_len t
  exact List.eq_nil_of_length_eq_zero (by omega)
theorem ofNat_nat {n : Nat} (h : n < 256) : (UInt8.ofNat n).toNat = n := by rw [UInt8.toNat_ofNat']; exact Nat.mod_eq_of_lt h

set_option maxRecDepth 20000 in
set_option maxHeartbeats 4000000 in
theorem decode_any (s : ByteArray) (w : World) (hs : s.size ≤ 16777216) :
    Calls Tryz.prog 149 #[.string s] w fun e w' => e = .returned (.string (bt (dl s.data.toList))) ∧ Below w.heap.size w w' := by
  have hl : s.data.toList.length = s.size := by simp
  have HL := Lib.hid hl
  clear hl
  obtain ⟨i0, hi, hz0, hz1, hz2⟩ := info_parts Tryz.infoByte
  go_enter Tryz.func149, Tryz.ntmps149
  go_wp2
  go_loopw [3, 4, 5, 6] (fun v i n j wr => ∃ (k : Nat) (P : List UInt8), k ≤ s.size ∧ i = .int .i64 (k : Int) ∧ wr.ownsRow w.heap.size 5 1 v P.length (Lib.byteCells P) ∧ Below w.heap.size w wr ∧ Hid (dl s.data.toList = P ++ dl (s.data.toList.drop k)))
    (fun _ i _ _ _ => s.size + 2 - (intOf i).toNat)
  case atStart =>
    exact ⟨0, [], by omega, by go_num, World.ownsRow_lit w #[] 0 (Nat.le_refl _) (by unfold maxLen; omega) rfl, (Below.refl _ _).alloc (Nat.le_refl _) _, rfl⟩
  case round =>
    obtain ⟨k, P, hk, rfl, hown, hbel, HE⟩ := hrel
    have hz := hbel.size
    have HB := Lib.hid hbel
    clear hbel
    have h0 : (0 : Int) ≤ (k : Int) := by omega
    have hP : P.length ≤ 2 * s.size + 10 := by have h := congrArg List.length HE.out; rw [dl_len, List.length_append, HL.out] at h; omega
    by_cases hlt : k + 4 ≤ s.size
    · have h1 : (k : Int) + 4 ≤ (s.size : Int) := by omega
      obtain ⟨k4, hk4⟩ : ∃ k4, k4 = k + 4 := ⟨_, rfl⟩
      have E4 : (k : Int) + 4 = (k4 : Int) := by omega
      have hn4 : k4 ≤ s.size := by omega
      have hn4' : (k4 : Int) ≤ (s.size : Int) := by omega
      have HK4 := Lib.hid hk4
      clear hk4 h1
      go_wp2
      go_loop [5, 6] (fun n jv => ∃ (d f j : Nat), d ≤ 4 ∧ n = .int .i64 (f : Int) ∧ jv = .int .i64 (j : Int) ∧ j = k + d ∧ f < 16777216 ∧ Hid (f = fold64 ((s.data.toList.drop k).take d))) (fun _ jv => k + 4 - (intOf jv).toNat)
      case atStart => exact ⟨0, 0, k, by omega, by go_num, by go_num, by omega, by omega, rfl⟩
      case round =>
        obtain ⟨d, f, j, hd, rfl, rfl, hj, hf, HF⟩ := hrel
        by_cases h4 : d < 4
        · have hjs : j < s.size := by omega
          have c0 : (0 : Int) ≤ (j : Int) := by omega
          have c1 : (j : Int) < (s.size : Int) := by omega
          have c2 : (j : Int) < (k4 : Int) := by omega
          have hc2 : j < k4 := by omega
          obtain ⟨x, hx⟩ : ∃ x, s[j] = x := ⟨_, rfl⟩
          obtain ⟨y, hy⟩ : ∃ y, val x = y := ⟨_, rfl⟩
          have EM : max (valI x) 0 = (y : Int) := by rw [max_val, hy]
          have hyl : y < 64 := by rw [← hy]; exact val_lt x
          have hv1 := (valI_le x).1
          have hv2 := (valI_le x).2
          have hF2 : 64 * f + y = fold64 ((s.data.toList.drop k).take (d + 1)) := by
            have hl2 : d < (s.data.toList.drop k).length := by rw [List.length_drop, HL.out]; omega
            rw [List.take_succ_eq_append_getElem hl2, fold64_add, ← HF.out, ← hy, ← hx]
            have : (s.data.toList.drop k)[d] = s[j] := by
              rw [List.getElem_drop]
              subst hj
              rfl
            rw [this]
          have hfl : 64 * f + y < 16777216 := by
            rw [hF2]
            have h := fold64_lt ((s.data.toList.drop k).take (d + 1))
            have h2 : 64 ^ ((s.data.toList.drop k).take (d + 1)).length ≤ 64 ^ 4 := Nat.pow_le_pow_right (by omega) (by rw [List.length_take]; omega)
            omega
          have HF2 := Lib.hid hF2
          have HY := Lib.hid hy
          have HX := Lib.hid hx
          have HJ := Lib.hid hj
          have hy2 := hy
          clear hF2 hy hj
          rcases valI_or x with EV | ⟨EV, E0⟩
          · rw [hy2] at EV
            clear EM hv1 hv2
            go_wp2_with fail
            refine (value_at x _).mono ?_
            rintro e w1 ⟨rfl, rfl⟩
            rw [EV]
            clear EV
            go_wp2
            go_round
            case rel =>
              exact ⟨d + 1, 64 * f + y, j + 1, by omega, by go_num, by go_num, by have := HJ.out; omega, hfl, HF2⟩
            case measure => simp [intOf]; have := HJ.out; omega
          · rw [hy2] at E0
            subst E0
            clear EM hv1 hv2
            go_wp2_with fail
            refine (value_at x _).mono ?_
            rintro e w1 ⟨rfl, rfl⟩
            rw [EV]
            clear EV
            go_wp2
            go_round
            case rel =>
              exact ⟨d + 1, 64 * f, j + 1, by omega, by go_num, by go_num, by have := HJ.out; omega, by omega, HF2⟩
            case measure => simp [intOf]; have := HJ.out; omega
        · have hd4 : d = 4 := by omega
          subst hd4
          have c2 : ¬ (j : Int) < (k4 : Int) := by omega
          have hc2 : ¬ j < k4 := by omega
          obtain ⟨x0, hx0⟩ : ∃ m, m = f / 65536 := ⟨_, rfl⟩
          obtain ⟨x1, hx1⟩ : ∃ m, m = f / 256 % 256 := ⟨_, rfl⟩
          obtain ⟨x2, hx2⟩ : ∃ m, m = f % 256 := ⟨_, rfl⟩
          have D0 : (f : Int) / 65536 = (x0 : Int) := by omega
          have D1 : (f : Int) / 256 % 256 = (x1 : Int) := by omega
          have D2 : (f : Int) % 256 = (x2 : Int) := by omega
          have l0 : (x0 : Int) ≤ 255 := by omega
          have l1 : (x1 : Int) ≤ 255 := by omega
          have l2 : (x2 : Int) ≤ 255 := by omega
          have g0 : (0 : Int) ≤ (x0 : Int) := by omega
          have g1 : (0 : Int) ≤ (x1 : Int) := by omega
          have g2 : (0 : Int) ≤ (x2 : Int) := by omega
          have HX0 := Lib.hid hx0
          have HX1 := Lib.hid hx1
          have HX2 := Lib.hid hx2
          have HJ := Lib.hid hj
          clear hx0 hx1 hx2 hj
          go_wp2_with (at_builtin; refine wpList_append_own _ rfl _ _ 22 rfl w.heap.size 5 i0 (.int .u8 0) 1 1 Tryz.underlying22 hi hz0 hz1 hz2 rfl (by decide) _ _ _ rfl (hown.alloc _) _ 3 3 [.int .u8 (x0 : Int), .int .u8 (x1 : Int), .int .u8 (x2 : Int)] rfl rfl ?q1 ?q2 ?q3 ?q4 ?q5 ?_)
          case q2 => first
            | exact ⟨rfl, rfl, rfl⟩
            | (intro u hu
               simp only [List.mem_cons, List.not_mem_nil, or_false] at hu
               rcases hu with rfl | rfl | rfl <;> rfl)
          case q3 => first
            | (unfold maxLen; omega)
            | omega
          case q4 => omega
          case q5 => first
            | omega
            | (simp; omega)
          intro v' w1 hown1 hgrow _
          have hbl := (HB.out.alloc hz (.cells #[.int .u8 (x0 : Int), .int .u8 (x1 : Int), .int .u8 (x2 : Int)] 5)).grown hgrow (by simp; omega) (fun q hq => (hown.lt q hq).1)
          have HO := Lib.hid hown1
          have HBL := Lib.hid hbl
          clear hown1 hgrow hbl hown
          go_wp2
          go_roundw
          case rel =>
            refine ⟨k + 4, P ++ [UInt8.ofNat x0, UInt8.ofNat x1, UInt8.ofNat x2], by omega, by go_num, ?_, HBL.out, ?_⟩
            · have h := HO.out
              simpa [Lib.byteCells, ofNat_nat (show x0 < 256 by omega), ofNat_nat (show x1 < 256 by omega), ofNat_nat (show x2 < 256 by omega)] using h
            · have hE := HE.out
              have hf4 := HF.out
              rw [drop4 k hlt, dl_more] at hE
              rw [drop4 k hlt] at hf4
              have e4 : f = n4 s[k] s[k + 1] s[k + 2] s[k + 3] := hf4.trans (fold64_four _ _ _ _)
              show dl s.data.toList = _
              rw [hE, HX0.out, HX1.out, HX2.out, e4]
              simp
          case measure => simp [intOf]; omega
    · have h1 : ¬ (k : Int) + 4 ≤ (s.size : Int) := by omega
      have hE := HE.out
      rw [dl_short (t := s.data.toList.drop k) (by rw [List.length_drop, HL.out]; omega), List.append_nil] at hE
      have HE2 := Lib.hid hE
      clear hE HE
      rcases hown.2 with ⟨rfl, h0⟩ | ⟨g, cap, cur, rfl, -, -, -, -, -, -⟩
      · have hcv := Lib.run_convert_nil_bytes (P := Tryz.prog) wr 22 9 5 0 Tryz.underlying22 Tryz.underlying5 Tryz.underlying9
        have hp : P = [] := List.eq_nil_of_length_eq_zero h0
        subst hp
        go_wp2
        go_ret
        exact ⟨by rw [HE2.out]; rfl, HB.out⟩
      · have hcv := run_convert_bytes_back (P := Tryz.prog) wr 22 9 5 ⟨g, 0, none⟩ cap P Tryz.underlying22 Tryz.underlying5 Tryz.underlying9 (fun j hj => hown.cells (g := g) rfl j _ (by simp [Lib.byteCells, hj]))
        have HW := Lib.hid hown
        clear hown
        go_wp2
        go_ret
        exact ⟨by rw [HE2.out]; rfl, HB.out⟩
end Go.Proofs.YtichajalinkcdaaGreatDoor
namespace Go.Proofs.YtichajalinkcdaaGreatDoor
open Go.RowKit
set_option linter.unusedVariables false

theorem index_letters : ∀ c : Fin 256, Lib.indexByte (⟨#[65, 66, 67, 68, 69, 70, 71, 72, 73, 74, 75, 76, 77, 78, 79, 80, 81, 82, 83, 84, 85, 86, 87, 88, 89, 90, 97, 98, 99, 100, 101, 102, 103, 104, 105, 106, 107, 108, 109, 110, 111, 112, 113, 114, 115, 116, 117, 118, 119, 120, 121, 122, 48, 49, 50, 51, 52, 53, 54, 55, 56, 57, 43, 47]⟩ : ByteArray).data.toList (UInt8.ofNat c.1) = valI (UInt8.ofNat c.1) := by decide +kernel
theorem index_any (c : UInt8) (w : World) : Calls Tryz.prog 153 #[.string ⟨#[65, 66, 67, 68, 69, 70, 71, 72, 73, 74, 75, 76, 77, 78, 79, 80, 81, 82, 83, 84, 85, 86, 87, 88, 89, 90, 97, 98, 99, 100, 101, 102, 103, 104, 105, 106, 107, 108, 109, 110, 111, 112, 113, 114, 115, 116, 117, 118, 119, 120, 121, 122, 48, 49, 50, 51, 52, 53, 54, 55, 56, 57, 43, 47]⟩, .int .u8 (c.toNat : Int)] w fun e w' => e = .returned (.int .i64 (valI c)) ∧ w = w' := by
  refine (strings_IndexByte _ _ w).mono ?_
  rintro e w' ⟨rfl, rfl⟩
  have h := index_letters ⟨c.toNat, c.toNat_lt⟩
  simp only [UInt8.ofNat_toNat] at h
  refine ⟨?_, rfl⟩
  rw [← h]
  congr 3
  simp
theorem valI_yes {c : UInt8} (h : (num c).isSome = true) : valI c = (val c : Int) := by
  rcases valI_or c with e | ⟨e, _⟩
  · exact e
  · unfold valI at e
    cases hn : num c with
    | none => rw [hn] at h; cases h
    | some n => rw [hn] at e; simp at e
theorem valI_not {c : UInt8} (h : (num c).isSome = false) : valI c = -1 := by
  unfold valI
  cases hn : num c with
  | none => rfl
  | some n => rw [hn] at h; cases h
theorem acc_join {s : ByteArray} {k : Nat} (h : k < s.size) (h3 : k ≤ 3) : bits .or .i64 ((acc s.data.toList k : Nat) : Int) (wrap64 ((val s[k] : Int) * 2 ^ (6 * (3 - k)))) = ((acc s.data.toList (k + 1) : Nat) : Int) := by
  have hb := val_lt s[k]
  have e := list_at h 61
  have hl := acc_lt s.data.toList k
  rcases (by omega : k = 0 ∨ k = 1 ∨ k = 2 ∨ k = 3) with rfl | rfl | rfl | rfl
  · have e1 : wrap64 ((val s[0] : Int) * 2 ^ (6 * (3 - 0))) = ((262144 * val s[0] : Nat) : Int) := by unfold wrap64; simp; omega
    rw [e1, or_join _ _ 24 (by omega) (by omega) (by omega) (by rfl), acc_step1, e]
  · have e1 : wrap64 ((val s[1] : Int) * 2 ^ (6 * (3 - 1))) = ((4096 * val s[1] : Nat) : Int) := by unfold wrap64; simp; omega
    rw [e1, or_join _ _ 18 (by omega) (by omega) (by omega) (acc_mod1 _), acc_step2, e]
  · have e1 : wrap64 ((val s[2] : Int) * 2 ^ (6 * (3 - 2))) = ((64 * val s[2] : Nat) : Int) := by unfold wrap64; simp; omega
    rw [e1, or_join _ _ 12 (by omega) (by omega) (by omega) (acc_mod2 _), acc_step3, e]
  · have e1 : wrap64 ((val s[3] : Int) * 2 ^ (6 * (3 - 3))) = ((val s[3] : Nat) : Int) := by unfold wrap64; simp; omega
    rw [e1, or_join _ _ 6 (by omega) (by omega) (by omega) (acc_mod3 _), acc_step4, e]
/-- The bytes of a group, of which 'd' are written. -/
def pv (m d j : Nat) : Int := if j < d then ((m : Int) / 2 ^ (8 * (2 - j))) % 256 else 0
def ps (m d : Nat) : Array Value := #[.int .u8 (pv m d 0), .int .u8 (pv m d 1), .int .u8 (pv m d 2)]
theorem ps_step (m d : Nat) (h : d ≤ 2) : (ps m d).setIfInBounds d (.int .u8 (((m : Int) / 2 ^ (8 * (2 - d))) % 256)) = ps m (d + 1) := by
  rcases (by omega : d = 0 ∨ d = 1 ∨ d = 2) with rfl | rfl | rfl <;> rfl
theorem ps_three (m j : Nat) (hm : m < 16777216) (hj : j < 3) : (ps m 3)[j]? = some (.int .u8 (((three m)[j]'hj).toNat : Int)) := by
  have h0 := ofNat_nat (n := m / 65536 % 256) (by omega)
  have h1 := ofNat_nat (n := m / 256 % 256) (by omega)
  have h2 := ofNat_nat (n := m % 256) (by omega)
  rcases (by omega : j = 0 ∨ j = 1 ∨ j = 2) with rfl | rfl | rfl
  · show some (Value.int .u8 ((m : Int) / 2 ^ (8 * (2 - 0)) % 256)) = some (Value.int .u8 ((UInt8.ofNat (m / 65536 % 256)).toNat : Int))
    rw [h0]
    congr 2
  · show some (Value.int .u8 ((m : Int) / 2 ^ (8 * (2 - 1)) % 256)) = some (Value.int .u8 ((UInt8.ofNat (m / 256 % 256)).toNat : Int))
    rw [h1]
    congr 2
  · show some (Value.int .u8 ((m : Int) / 2 ^ (8 * (2 - 2)) % 256)) = some (Value.int .u8 ((UInt8.ofNat (m % 256)).toNat : Int))
    rw [h2]
    congr 2
    omega
theorem ps_at (m d : Nat) (h : d ≤ 2) : (ps m d)[d]? = some (.int .u8 0) := by
  rcases (by omega : d = 0 ∨ d = 1 ∨ d = 2) with rfl | rfl | rfl <;> rfl

set_option maxHeartbeats 2000000 in
theorem dec_group (s : ByteArray) (w : World) (h4 : s.size ≤ 4) :
    Calls Tryz.prog 148 #[.string s] w fun e w' => e = .returned (.string (bt (decG s.data.toList))) ∧ Below w.heap.size w w' := by
  have hl : s.data.toList.length = s.size := by simp
  have HL := Lib.hid hl
  clear hl
  go_enter Tryz.func148, Tryz.ntmps148
  go_wp2
  go_loopw [3, 4, 5, 6, 11] (fun b ct j v i wr => ∃ (k m c : Nat), k ≤ s.size ∧ m < 16777216 ∧ c ≤ 3 ∧ i = .int .i64 (k : Int) ∧ b = .int .i64 (m : Int) ∧ ct = .int .i64 (c : Int) ∧ Hid (m = acc s.data.toList k) ∧ Hid (c = k - 1) ∧ Hid (k ≤ leads s.data.toList) ∧ Hid (Below w.heap.size w wr)) (fun _ _ _ _ i _ => s.size - (intOf i).toNat)
  case atStart => exact ⟨0, 0, 0, by omega, by omega, by omega, by go_num, by go_num, by go_num, rfl, rfl, Lib.hid (Nat.zero_le _), Lib.hid (Below.refl _ _)⟩
  case round =>
    obtain ⟨k, m, c, hk, hm, hc, rfl, rfl, rfl, HM, HC, HK, HW⟩ := hrel
    by_cases hlt : k < s.size
    · have i0 : (0 : Int) ≤ (k : Int) := by omega
      have i1 : (k : Int) < (s.size : Int) := by omega
      have i3 : (k : Int) ≤ 3 := by omega
      cases hn : (num s[k]).isSome with
      | true =>
        have HV := Lib.hid (valI_yes hn)
        have HN := Lib.hid (leads_step (by rw [HL.out]; exact hlt) HK.out hn)
        have hv := val_lt s[k]
        obtain ⟨v, hv2⟩ : ∃ v, val s[k] = v := ⟨_, rfl⟩
        have HE := Lib.hid hv2
        rw [hv2] at hv
        have v0 : ¬ (v : Int) < 0 := by omega
        clear hn hv2
        go_wp2_with fail
        refine (index_any s[k] _).mono ?_
        rintro e w' ⟨rfl, rfl⟩
        rw [HV.out, HE.out]
        go_wp2_with fail
        refine (sign_shift k (by omega) _).mono ?_
        rintro e w' ⟨rfl, rfl⟩
        go_wp2
        go_roundw
        case rel => exact ⟨k + 1, acc s.data.toList (k + 1), k, by omega, acc_lt _ _, by omega, by go_num, by rw [HM.out, ← HE.out, acc_join hlt (by omega)], by go_num, rfl, rfl, HN, HW⟩
        case measure => simp [intOf]; omega
      | false =>
        have HV := Lib.hid (valI_not hn)
        have HN := Lib.hid (leads_stop (by rw [HL.out]; exact hlt) HK.out hn)
        clear hn
        obtain ⟨wo, rfl⟩ : ∃ wo : World, wo = wr := ⟨_, rfl⟩
        have HB0 := Lib.hid (HW.out.alloc HW.out.size (.cells #[.int .u8 0, .int .u8 0, .int .u8 0] 149))
        have hge : w.heap.size ≤ wo.heap.size := HW.out.size
        have HWH := Lib.hid (Whole.made wo 149 #[.int .u8 0, .int .u8 0, .int .u8 0])
        obtain ⟨g, hg⟩ : ∃ g, wo.heap.size = g := ⟨_, rfl⟩
        have HG := Lib.hid hg
        rw [hg] at hge
        go_wp2_with fail
        refine (index_any s[k] _).mono ?_
        rintro e w' ⟨rfl, rfl⟩
        rw [HV.out]
        go_wp2
        clear hg
        go_loopw [8, 28] (fun j i wr => ∃ d : Nat, d ≤ 3 ∧ i = .int .i64 (d : Int) ∧ Hid (Whole wr g 149 (ps m d)) ∧ Hid (Below w.heap.size w wr)) (fun _ i _ => 3 - (intOf i).toNat)
        case atStart => exact ⟨0, by omega, by go_num, by rw [← HG.out]; exact HWH, HB0⟩
        case round =>
          obtain ⟨d, hd, rfl, HX, HB⟩ := hrel
          by_cases hl3 : d < 3
          · have j0 : (0 : Int) ≤ (d : Int) := by omega
            have j1 : (d : Int) < 3 := by omega
            have j2 : (d : Int) ≤ 2 := by omega
            have hf : wr.frozen? ⟨g, d, none⟩ = false := HX.out.free d
            have hcc : wr.cell? ⟨g, d, none⟩ = some (.int .u8 0) := by rw [HX.out.cell d, ps_at m d (by omega)]
            go_wp2_with fail
            refine (byte_shift d (by omega) _).mono ?_
            rintro e w' ⟨rfl, rfl⟩
            go_wp2
            go_roundw
            case rel =>
              refine ⟨d + 1, by omega, by go_num, ?_, Lib.hid (HB.out.setCell hge _)⟩
              rw [← ps_step m d (by omega)]
              exact HX.out.store d _
            case measure => simp [intOf]; omega
          · have j1 : ¬ (d : Int) < 3 := by omega
            have HD : Hid (d = 3) := Lib.hid (by omega)
            obtain ⟨L, hL⟩ : ∃ L, (three m).take c = L := ⟨_, rfl⟩
            have hLc : L.length = c := by rw [← hL]; unfold three; rw [List.length_take]; simp; omega
            have hcells : ∀ j (hj : j < L.length), wr.cell? ((⟨g, 0, none⟩ : Addr).add j) = some (.int .u8 (L[j].toNat : Int)) := by
              subst hL
              intro j hj
              rw [show (⟨g, 0, none⟩ : Addr).add j = ⟨g, j, none⟩ from by simp [Addr.add]; exact fun e => e.symm, HX.out.cell j, HD.out]
              have hj3 : j < 3 := by omega
              rw [List.getElem_take]
              exact ps_three m j hm hj3
            have hcv := run_convert_bytes_back (P := Tryz.prog) wr 22 9 5 ⟨g, 0, none⟩ 3 L Tryz.underlying22 Tryz.underlying5 Tryz.underlying9 hcells
            rw [hLc] at hcv
            have HLL := Lib.hid hL
            clear hcells hL hLc
            have c0 : (0 : Int) ≤ (c : Int) := by omega
            have c1 : (c : Int) ≤ 3 := by omega
            go_wp2
            go_ret
            refine ⟨?_, HB.out⟩
            rw [← HLL.out]
            unfold decG
            rw [HN.out, ← HC.out, ← HM.out]
            rfl
    · have i1 : ¬ (k : Int) < (s.size : Int) := by omega
      have HN : Hid (leads s.data.toList = k) := Lib.hid (by have := leads_le s.data.toList; have := HL.out; have := HK.out; omega)
      obtain ⟨wo, rfl⟩ : ∃ wo : World, wo = wr := ⟨_, rfl⟩
      have HB0 := Lib.hid (HW.out.alloc HW.out.size (.cells #[.int .u8 0, .int .u8 0, .int .u8 0] 149))
      have hge : w.heap.size ≤ wo.heap.size := HW.out.size
      have HWH := Lib.hid (Whole.made wo 149 #[.int .u8 0, .int .u8 0, .int .u8 0])
      obtain ⟨g, hg⟩ : ∃ g, wo.heap.size = g := ⟨_, rfl⟩
      have HG := Lib.hid hg
      rw [hg] at hge
      go_wp2
      clear hg
      go_loopw [8, 28] (fun j i wr => ∃ d : Nat, d ≤ 3 ∧ i = .int .i64 (d : Int) ∧ Hid (Whole wr g 149 (ps m d)) ∧ Hid (Below w.heap.size w wr)) (fun _ i _ => 3 - (intOf i).toNat)
      case atStart => exact ⟨0, by omega, by go_num, by rw [← HG.out]; exact HWH, HB0⟩
      case round =>
        obtain ⟨d, hd, rfl, HX, HB⟩ := hrel
        by_cases hl3 : d < 3
        · have j0 : (0 : Int) ≤ (d : Int) := by omega
          have j1 : (d : Int) < 3 := by omega
          have j2 : (d : Int) ≤ 2 := by omega
          have hf : wr.frozen? ⟨g, d, none⟩ = false := HX.out.free d
          have hcc : wr.cell? ⟨g, d, none⟩ = some (.int .u8 0) := by rw [HX.out.cell d, ps_at m d (by omega)]
          go_wp2_with fail
          refine (byte_shift d (by omega) _).mono ?_
          rintro e w' ⟨rfl, rfl⟩
          go_wp2
          go_roundw
          case rel =>
            refine ⟨d + 1, by omega, by go_num, ?_, Lib.hid (HB.out.setCell hge _)⟩
            rw [← ps_step m d (by omega)]
            exact HX.out.store d _
          case measure => simp [intOf]; omega
        · have j1 : ¬ (d : Int) < 3 := by omega
          have HD : Hid (d = 3) := Lib.hid (by omega)
          obtain ⟨L, hL⟩ : ∃ L, (three m).take c = L := ⟨_, rfl⟩
          have hLc : L.length = c := by rw [← hL]; unfold three; rw [List.length_take]; simp; omega
          have hcells : ∀ j (hj : j < L.length), wr.cell? ((⟨g, 0, none⟩ : Addr).add j) = some (.int .u8 (L[j].toNat : Int)) := by
            subst hL
            intro j hj
            rw [show (⟨g, 0, none⟩ : Addr).add j = ⟨g, j, none⟩ from by simp [Addr.add]; exact fun e => e.symm, HX.out.cell j, HD.out]
            have hj3 : j < 3 := by omega
            rw [List.getElem_take]
            exact ps_three m j hm hj3
          have hcv := run_convert_bytes_back (P := Tryz.prog) wr 22 9 5 ⟨g, 0, none⟩ 3 L Tryz.underlying22 Tryz.underlying5 Tryz.underlying9 hcells
          rw [hLc] at hcv
          have HLL := Lib.hid hL
          clear hcells hL hLc
          have c0 : (0 : Int) ≤ (c : Int) := by omega
          have c1 : (c : Int) ≤ 3 := by omega
          go_wp2
          go_ret
          refine ⟨?_, HB.out⟩
          rw [← HLL.out]
          unfold decG
          rw [HN.out, ← HC.out, ← HM.out]
          rfl
end Go.Proofs.YtichajalinkcdaaGreatDoor
namespace Go.Proofs.YtichajalinkcdaaGreatDoor
open Go.RowKit
set_option linter.unusedVariables false

theorem bt_of (v : ByteArray) : bt v.data.toList = v := by cases v; simp [bt]
theorem bt_eq {v : ByteArray} {l : List UInt8} (h : v.data.toList = l) : v = bt l := by rw [← h, bt_of]
theorem bt_list (l : List UInt8) : (bt l).data.toList = l := rfl
theorem bt_size (l : List UInt8) : (bt l).size = l.length := rfl
/-- A text is told. -/
def Says (w : World) (t : ByteArray) (e : Ending) (w' : World) : Prop := e = .returned (.string t) ∧ Below w.heap.size w w'
/-- What the encoder gives. -/
def encB (s : ByteArray) : ByteArray := if s.size ≤ 30 then bt (enc s.data.toList) else ⟨#[]⟩
theorem encB_yes {s : ByteArray} (h : s.size ≤ 30) : encB s = bt (enc s.data.toList) := by unfold encB; rw [if_pos h]
theorem encB_no {s : ByteArray} (h : ¬ s.size ≤ 30) : encB s = ⟨#[]⟩ := by unfold encB; rw [if_neg h]
theorem encB_le (s : ByteArray) : (encB s).size ≤ 40 := by
  by_cases h : s.size ≤ 30
  · rw [encB_yes h, bt_size, enc_len]
    have : s.data.toList.length = s.size := by simp
    omega
  · rw [encB_no h]; exact Nat.zero_le _
/-- Bytes and whether there are any are told. -/
def Gives (w : World) (x : ByteArray) (o : Bool) (e : Ending) (w' : World) : Prop := e = .returned (.tuple #[.string x, .bool o]) ∧ Below w.heap.size w w'
/-- What a decoder tells of a text. -/
def IsD (s : ByteArray) (o : Bool) (x : ByteArray) : Prop := Dec s.data.toList o x.data.toList
theorem isD_any (s : ByteArray) : ∃ o x, IsD s o x := by
  obtain ⟨o, x, h⟩ := dec_any s.data.toList
  exact ⟨o, bt x, h⟩
theorem isD_one {s x y : ByteArray} {o p : Bool} (h : IsD s o x) (k : IsD s p y) : o = p ∧ x = y := by
  obtain ⟨h1, h2⟩ := dec_one h k
  exact ⟨h1, by rw [← bt_of x, h2, bt_of]⟩
theorem isD_le {s x : ByteArray} {o : Bool} (h : IsD s o x) : x.size ≤ 30 := by
  have hl : x.data.toList.length = x.size := by simp
  cases o
  · have h0 : x.data.toList.length = 0 := by rw [(h.2 rfl).1]; rfl
    omega
  · have := (h.1 rfl).1
    omega
theorem gives_mk {w w' : World} {s x y : ByteArray} {o p : Bool} (h : IsD s o x) (k : IsD s p y) (hb : Below w.heap.size w w') : Gives w x o (.returned (.tuple #[.string y, .bool p])) w' := by
  obtain ⟨h1, h2⟩ := isD_one h k
  subst h1
  subst h2
  exact ⟨rfl, hb⟩
theorem isD_no {s : ByteArray} (h : Dec s.data.toList false []) : IsD s false ⟨#[]⟩ := h

set_option maxRecDepth 20000 in
set_option maxHeartbeats 4000000 in
theorem sdec {s x : ByteArray} {o : Bool} (h : IsD s o x) (w : World) (hs : s.size ≤ 16777216) : Calls Tryz.prog 140 #[.string s] w (Gives w x o) := by
  have hl : s.data.toList.length = s.size := by simp
  have HL := Lib.hid hl
  have H := Lib.hid h
  clear hl h
  by_cases h1 : 40 < s.size
  · have h1' : (40 : Int) < (s.size : Int) := by omega
    have HN := Lib.hid (isD_no (dec_long (by rw [HL.out]; exact h1)))
    go_enter Tryz.func140, Tryz.ntmps140
    go_wp2
    go_ret2
    exact gives_mk H.out HN.out (Below.refl _ _)
  · have h1' : ¬ (40 : Int) < (s.size : Int) := by omega
    by_cases h2 : s.size % 4 = 0
    · have h2' : (((s.size : Int) % 4) != 0) = false := by simp; omega
      obtain ⟨A, hA⟩ : ∃ A, bt (dl s.data.toList) = A := ⟨_, rfl⟩
      have hAl : A.data.toList = dl s.data.toList := by rw [← hA]; rfl
      have hAs : A.size = (dl s.data.toList).length := by rw [← hA]; rfl
      have hA30 : A.size ≤ 30 := by rw [hAs, dl_len, HL.out]; omega
      have HA := Lib.hid hA
      have HAL := Lib.hid hAl
      have HAS := Lib.hid hAs
      clear hA hAl hAs
      go_enter Tryz.func140, Tryz.ntmps140
      go_wp2_with fail
      refine (decode_any s _ hs).mono ?_
      rintro e w1 ⟨rfl, hb⟩
      rw [HA.out]
      have HB1 := Lib.hid hb
      clear hb
      go_wp2
      go_loopw [5] (fun i wr => ∃ (k : Nat), k ≤ 3 ∧ k ≤ A.size + 1 ∧ i = .int .i64 (k : Int) ∧ Below w.heap.size w wr ∧ Hid (∀ m, m < k → m ≤ A.size → enc ((dl s.data.toList).take (A.size - m)) ≠ s.data.toList)) (fun i _ => 4 - (intOf i).toNat)
      case atStart => exact ⟨0, by omega, by omega, by go_num, HB1.out, fun m hm => absurd hm (by omega)⟩
      case round =>
        obtain ⟨k, hk, hk2, rfl, hbel, HM⟩ := hrel
        have HB := Lib.hid hbel
        have hz := hbel.size
        clear hbel
        by_cases hin : k ≤ 2 ∧ k ≤ A.size
        · obtain ⟨hk3, hk4⟩ := hin
          have c1 : (k : Int) ≤ 2 := by omega
          have c2 : (k : Int) ≤ (A.size : Int) := by omega
          obtain ⟨q, hq⟩ : ∃ q, A.size - k = q := ⟨_, rfl⟩
          have E1 : (A.size : Int) - (k : Int) = (q : Int) := by omega
          have c3 : (0 : Int) ≤ (q : Int) := by omega
          have c4 : (q : Int) ≤ (A.size : Int) := by omega
          have hql : q ≤ A.size := by omega
          have HQ := Lib.hid hq
          clear hq
          have hes : (A.extract 0 q).size ≤ 16777216 := by rw [ByteArray.size_extract]; omega
          have hel : (A.extract 0 q).data.toList = (dl s.data.toList).take q := by rw [extract_list, HAL.out]; simp
          obtain ⟨t, ht⟩ : ∃ t, bt (enc (A.extract 0 q).data.toList) = t := ⟨_, rfl⟩
          by_cases he : enc ((dl s.data.toList).take q) = s.data.toList
          · have hq2 : (t.toList == s.toList) = true := by
              rw [ByteArray.toList_eq, ByteArray.toList_eq, ← ht, bt_list, hel, he]
              exact beq_self_eq_true _
            have hd : IsD s true (A.extract 0 q) := by
              unfold IsD
              rw [hel]
              exact dec_hit (by rw [HL.out]; omega) he
            have HD := Lib.hid hd
            have HT := Lib.hid ht
            have HES := Lib.hid hes
            clear hd ht hel he hes
            go_wp2_with fail
            refine (encode_any (A.extract 0 q) _ HES.out).mono ?_
            rintro e w2 ⟨rfl, hb⟩
            rw [HT.out]
            have HB2 := Lib.hid (HB.out.trans (hb.mono hz))
            clear hb
            go_wp2
            go_ret2
            exact gives_mk H.out HD.out HB2.out
          · have hq2 : (t.toList == s.toList) = false := by
              rw [ByteArray.toList_eq, ByteArray.toList_eq, ← ht, bt_list, hel]
              exact beq_eq_false_iff_ne.2 he
            have HNE := Lib.hid he
            have HT := Lib.hid ht
            have HES := Lib.hid hes
            clear ht hel he hes
            go_wp2_with fail
            refine (encode_any (A.extract 0 q) _ HES.out).mono ?_
            rintro e w2 ⟨rfl, hb⟩
            rw [HT.out]
            have HB2 := Lib.hid (HB.out.trans (hb.mono hz))
            clear hb
            go_wp2
            go_roundw
            case rel =>
              refine ⟨k + 1, by omega, by omega, by go_num, HB2.out, fun m hm hmA => ?_⟩
              rcases Nat.lt_or_ge m k with hlt | hge
              · exact HM.out m hlt hmA
              · have : m = k := by omega
                subst this
                rw [HQ.out]
                exact HNE.out
            case measure => simp [intOf]; omega
        · have hmiss : IsD s false ⟨#[]⟩ := isD_no (dec_miss (fun m hm hmA => by
            rw [← HAS.out] at hmA ⊢
            exact HM.out m (by omega) hmA))
          have HN := Lib.hid hmiss
          clear hmiss
          by_cases c1 : k ≤ 2
          · have c1' : (k : Int) ≤ 2 := by omega
            have c2 : ¬ (k : Int) ≤ (A.size : Int) := by omega
            have c2' : ¬ k ≤ A.size := by omega
            go_wp2
            go_ret2
            exact gives_mk H.out HN.out HB.out
          · have c1' : ¬ (k : Int) ≤ 2 := by omega
            go_wp2
            go_ret2
            exact gives_mk H.out HN.out HB.out
    · have h2' : (((s.size : Int) % 4) != 0) = true := by simp; omega
      have HN := Lib.hid (isD_no (dec_len (by rw [HL.out]; exact h2)))
      go_enter Tryz.func140, Tryz.ntmps140
      go_wp2
      go_ret2
      exact gives_mk H.out HN.out (Below.refl _ _)
end Go.Proofs.YtichajalinkcdaaGreatDoor
namespace Go.Proofs.YtichajalinkcdaaGreatDoor
open Go.RowKit Go.Shelf
set_option linter.unusedVariables false
attribute [local go_sem] Oper.semAt_some

theorem builder_kept {T e : TypeId} {B b : Nat} {bs : List Value} {W W' : World} {row : Option Nat} (h : Lib.IsBuilder T e B b bs W) (hg : W.grownBy W' row) (hr : ∀ r, row = some r → ∃ o : Obj, W.heap[r]? = some o ∧ o.isCells = false) : Lib.IsBuilder T e B b bs W' := by
  have one : ∀ p, Lib.BuilderAt T e B b p bs W → Lib.BuilderAt T e B b p bs W' := by
    rintro p ⟨hB, v, hb, hown, hne⟩
    have hlt : b < W.heap.size := (Array.getElem?_eq_some_iff.1 hb).1
    refine ⟨hB, v, ?_, ?_, hne⟩
    · rw [hg.block b hlt ?_]
      · exact hb
      · intro e
        obtain ⟨o, ho, hc⟩ := hr b e.symm
        rw [hb] at ho
        cases ho
        cases hc
    · refine hown.kept hg ?_
      cases hv : v.ownBlock with
      | none =>
        rcases hown.2 with ⟨rfl, _⟩ | ⟨g, cap, cur, rfl, _⟩
        · exact Or.inl rfl
        · simp [Value.ownBlock] at hv
      | some g =>
        refine Or.inr ?_
        intro e
        obtain ⟨o, ho, hc⟩ := hr g e.symm
        obtain ⟨c, fz, hh⟩ := Lib.ownsRowF_kind (World.ownsRowF_of hown) g hv
        rw [hh] at ho
        cases ho
        cases hc
  rcases h with h | h
  · exact .inl (one _ h)
  · exact .inr (one _ h)
theorem others_keep {e : TypeId} {b : Nat} {W W' : World} {t : TypeId} {cs : Array Value} (h : Lib.OthersKept e (some b) W W') (hw : Whole W b t cs) (hs : W.heap.size ≤ W'.heap.size) : KeepsOthers W W' :=
  ⟨hs, fun k o hk ho => h k o hk (by
    intro e
    cases e
    rw [show W.heap[b]? = _ from hw] at hk
    cases hk
    cases ho) (by
    intro c fz e
    subst e
    cases ho)⟩
theorem others_whole {e : TypeId} {b c : Nat} {W W' : World} {t : TypeId} {cs : Array Value} (h : Lib.OthersKept e (some b) W W') (hw : Whole W c t cs) (hc : c ≠ b) (ht : t ≠ e) : Whole W' c t cs :=
  h c _ hw (by intro e; cases e; exact hc rfl) (by intro c' fz e; cases e; exact ht rfl)
theorem Lib_byteCells_append (a b : List UInt8) : Lib.byteCells (a ++ b) = Lib.byteCells a ++ Lib.byteCells b := by simp [Lib.byteCells]
theorem str_cells (l : List UInt8) : Lib.strCells (bt l) = Lib.byteCells l := rfl
theorem builder_new {T e : TypeId} (w : World) : Lib.IsBuilder T e w.heap.size w.heap.size [] (w.alloc (.cells #[.pointer none, .slice none 0 0] T)) := Lib.fresh_isBuilder T e w

/-- What the loop over the groups keeps. -/
def LoopI (n : Nat) (f : List UInt8 → List UInt8) (s : ByteArray) (w : World) (b c1 c2 : Nat) (pre : List (Gn n)) (W : World) : Prop :=
  (Lib.IsBuilder 98 5 b b (Lib.byteCells ((gl pre).flatMap f)) W ∧ Whole W c1 9 #[.string s] ∧ Whole W c2 3 #[.int .i64 (n : Int)]) ∧ Below b w W
theorem whole_kept {W W' : World} {b : Nat} {t : TypeId} {cs : Array Value} {row : Option Nat} (h : Whole W b t cs) (hg : W.grownBy W' row) (hr : ∀ r, row = some r → ∃ o : Obj, W.heap[r]? = some o ∧ o.isCells = false) : Whole W' b t cs :=
  h.grown hg (fun e => by
    obtain ⟨o, ho, hc⟩ := hr b e.symm
    rw [show W.heap[b]? = _ from h] at ho
    cases ho
    cases hc)
theorem loopI_own {n : Nat} {f : List UInt8 → List UInt8} {s : ByteArray} {w : World} {b c1 c2 B : Nat} (hb : b ≤ w.heap.size) (hB : b ≤ B) : OwnFrom B (LoopI n f s w b c1 c2) :=
  OwnFrom.and (Own.from (fun pre X Y row hs hg hr => ⟨builder_kept hs.1 hg hr, whole_kept hs.2.1 hg hr, whole_kept hs.2.2 hg hr⟩) _) (ownFrom_below hb hB)
theorem flat_len {n k : Nat} {f : List UInt8 → List UInt8} (hf : ∀ x : Gn n, (f x.1.data.toList).length ≤ k) (pre : List (Gn n)) : ((gl pre).flatMap f).length ≤ k * pre.length := by
  induction pre with
  | nil => simp [gl]
  | cons x t ih =>
    have := hf x
    show (f x.1.data.toList ++ (gl t).flatMap f).length ≤ _
    rw [List.length_append, List.length_cons, Nat.mul_add]
    omega
/-- What a round leaves, where it has made the text 'f x' and written it. -/
theorem loopI_round {n : Nat} {f : List UInt8 → List UInt8} {s : ByteArray} {w : World} {b c1 c2 B : Nat} {pre : List (Gn n)} {x : Gn n} {W W1 W2 : World} (hc1 : c1 ≠ b) (hc2 : c2 ≠ b) (hb : b ≤ w.heap.size)
    (h : LoopI n f s w b c1 c2 pre W) (hb1 : Below W.heap.size W W1)
    (hA : Lib.BuilderAt 98 5 b b (.pointer (some ⟨b, 0, none⟩)) (Lib.byteCells ((gl pre).flatMap f) ++ Lib.strCells (bt (f x.1.data.toList))) W2) (hb2 : Below b W1 W2) (hk2 : Lib.OthersKept 5 (some b) W1 W2) :
    KeepsFrom B W W2 ∧ Two c1 c2 W W2 ∧ LoopI n f s w b c1 c2 (pre ++ [x]) W2 := by
  obtain ⟨⟨hB, h1, h2⟩, hbel⟩ := h
  have g1 : W.grownBy W1 none := gr_below hb1 none
  have a1 := h1.below hb1 h1.lt
  have a2 := h2.below hb1 h2.lt
  have hbW : ∃ cs, Whole W1 b 98 cs := by
    have h' := builder_kept hB g1 (fun r e => by cases e)
    rcases h' with ⟨_, v, hv, _⟩ | ⟨_, v, hv, _⟩
    · exact ⟨_, hv⟩
    · exact ⟨_, hv⟩
  obtain ⟨cs, hcs⟩ := hbW
  have k1 : KeepsOthers W W1 := KeepsOthers.of_grownBy g1 (fun j o e _ => by cases e)
  have k2 := others_keep hk2 hcs hb2.size
  have e1 := others_whole hk2 a1 hc1 (by decide)
  have e2 := others_whole hk2 a2 hc2 (by decide)
  refine ⟨(k1.trans k2).from _, ⟨Eq.trans e1 h1.symm, Eq.trans e2 h2.symm⟩, ⟨.inr ?_, e1, e2⟩, ?_⟩
  · rw [gl_snoc, List.flatMap_append]
    rw [str_cells, ← Lib_byteCells_append] at hA
    simpa using hA
  · exact (hbel.trans (hb1.mono (Nat.le_trans hb hbel.size))).trans hb2

set_option maxRecDepth 100000 in
set_option maxHeartbeats 2000000 in
theorem ienc_loop (s : ByteArray) (w : World) (hs : s.size ≤ 30) : Calls Tryz.prog 53 #[.string s] w (Says w (bt (enc s.data.toList))) := by
  have hi : ¬ (30 : Int) < (s.size : Int) := by omega
  have HS := Lib.hid hs
  clear hs
  refine (callsIn_wide (n := 4)).1 ?_
  refine callsIn_of_wp_marks Tryz.func53 rfl trivial ?_ rfl
  simp only [Tryz.ntmps53, List.size_toArray, List.length_cons, List.length_nil, Nat.reduceAdd, Nat.reduceSub, Array.replicate_succ, Array.replicate_zero, List.push_toArray, List.append_toArray, List.nil_append, List.cons_append]
  gi_wp2_with (refine ⟨trivial, ?_⟩; gi_at_call 92; refine (callsIn_wide.2 (groups_in s 3 _)).mono ?_; rintro e w' ⟨rfl, rfl⟩)
  obtain ⟨b, hb⟩ : ∃ b, w.heap.size = b := ⟨_, rfl⟩
  obtain ⟨w0, hw0⟩ : ∃ w0, w.alloc (.cells #[.pointer none, .slice none 0 0] 98) = w0 := ⟨_, rfl⟩
  have hz0 : w0.heap.size = b + 1 := by rw [← hw0, ← hb]; simp
  have hb0 : Lib.IsBuilder 98 5 b b [] w0 := by rw [← hw0, ← hb]; exact builder_new w
  have hB0 : Below b w w0 := by rw [← hw0, ← hb]; exact (Below.refl _ _).alloc (Nat.le_refl _) _
  rw [hw0, hb]
  obtain ⟨w1, hw1⟩ : ∃ w1, (w0.alloc (.cells #[.string s] 9)).alloc (.cells #[.int .i64 3] 3) = w1 := ⟨_, rfl⟩
  have hz1 : w1.heap.size = b + 3 := by rw [← hw1]; simp; omega
  have a1 : Whole w1 (b + 1) 9 #[.string s] := by rw [← hw1, ← hz0]; exact (Whole.made w0 _ _).alloc _
  have a2 : Whole w1 (b + 1 + 1) 3 #[.int .i64 ((3 : Nat) : Int)] := by
    have h := Whole.made (w0.alloc (.cells #[.string s] 9)) 3 #[.int .i64 3]
    rw [hw1, World.size_alloc, hz0] at h
    exact h
  have hB1 : Below b w w1 := by rw [← hw1]; exact (hB0.alloc (by omega) _).alloc (by simp; omega) _
  have hbb1 : Lib.IsBuilder 98 5 b b [] w1 := by
    rw [← hw1]
    exact builder_kept (builder_kept hb0 (World.grownBy_alloc w0 _ none) (fun r e => by cases e)) (World.grownBy_alloc _ _ none) (fun r e => by cases e)
  rw [hw1]
  have hbw : b ≤ w.heap.size := by omega
  clear hw0 hw1 hz0 hb0 hB0
  refine wpIn_rangeFunc_ownG (α := Gn 3) rfl (by decide) (gf := 111) (lb := #[.pointer (some ⟨b + 1, 0, none⟩), .pointer (some ⟨b + 1 + 1, 0, none⟩)]) rfl trivial (enters_of Tryz.func111 (by kernel_rfl) rfl)
    (groups_stops 3 (b + 1) (b + 1 + 1) 3 (by decide) (by decide) (by decide) s (by have := HS.out; omega) w1 a1 a2) two_t (two_b (by omega) (by omega)) (Below.refl _ _) (fun _ => rfl)
    (LoopI 3 enc s w b (b + 1) (b + 1 + 1)) (fun _ _ _ => False) (loopI_own hbw (by omega)) (fun _ _ _ _ _ hs _ _ => hs)
    ⟨⟨hbb1, a1, a2⟩, hB1⟩
    (fun x => { tmps := #[.string s, undef, .string ⟨#[]⟩, .pointer (some ⟨b, 0, none⟩), .string x.1, .string s, .int .i64 (s.size : Int), .bool false, .string s, .func (.func 111) #[] #[.pointer (some ⟨b + 1, 0, none⟩), .pointer (some ⟨b + 1 + 1, 0, none⟩)], .string x.1, undef, undef, undef, undef], defers := [] }) ?assign ?body ?done ?stop
  case assign =>
    intro l x W K hK
    gi_wp2
    exact hK
  case body =>
    rintro l pre x W hI hlt
    have HI := Lib.hid hI
    have HX := Lib.hid x.2
    have HL := Lib.hid hlt
    clear hI hlt
    gi_wp2_with (refine ⟨trivial, ?_⟩; gi_at_call 94; refine (CallsIn.inRound l (callsIn_wide.2 (enc_group x.1 _ HX.out.1 HX.out.2))).mono ?_)
    rintro e W1 ⟨rfl, hb1⟩
    have HB1 := Lib.hid hb1
    clear hb1
    have hBW : Lib.IsBuilder 98 5 b b (Lib.byteCells ((gl pre).flatMap enc)) W1 := builder_kept HI.out.1.1 (gr_below HB1.out none) (fun r e => by cases e)
    have hbW : b ≤ W1.heap.size := Nat.le_trans hbw (Nat.le_trans HI.out.2.size HB1.out.size)
    have hlen : (Lib.byteCells ((gl pre).flatMap enc)).length + (bt (enc x.1.data.toList)).size ≤ 140737488355328 := by
      have h1 := flat_len (n := 3) (k := 4) (f := enc) (fun y => by rw [enc_len]; have := y.2.2; have hl : y.1.data.toList.length = y.1.size := by simp
                                                                    omega) pre
      have h2 := HL.out
      have h3 := HS.out
      rw [Lib.byteCells_length, bt_size, enc_len]
      have h4 := HX.out.2
      have hl : x.1.data.toList.length = x.1.size := by simp
      omega
    gi_wp2_with (refine ⟨trivial, ?_⟩; gi_at_call 93; refine (CallsIn.inRound l (callsIn_wide.2 (write_string b b _ _ _ hBW hlen hbW))).mono ?_)
    rintro e W2 ⟨rfl, hA, hb2, hk2⟩
    have HR := Lib.hid (loopI_round (B := w1.heap.size) (by omega) (by omega) hbw HI.out HB1.out hA hb2 hk2)
    clear hA hb2 hk2 hBW hbW hlen
    gi_wp2
    exact HR.out
  case done =>
    rintro D ys W hD hG hI hK
    have HI := Lib.hid hI
    have HG := Lib.hid (grp_enc _ _ hG)
    have HD := Lib.hid hD
    have HK := Lib.hid hK
    clear hI hG hD hK
    have hbW : b ≤ W.heap.size := Nat.le_trans hbw HI.out.2.size
    gi_wp2_with (refine ⟨trivial, ?_⟩; gi_at_call 95; refine (callsIn_wide.2 (builder_string_k b b _ _ (Lib.IsBuilderF.of HI.out.1.1) hbW)).mono ?_)
    rintro e W2 ⟨rfl, hF, hb2, hk2⟩
    have hK2 := hk2 D _ HK.out (by intro e; cases e; have := HD.out; omega) (by intro c fz e; cases e)
    have HK2 := Lib.hid hK2
    have HB2 := Lib.hid (HI.out.2.trans hb2)
    clear hF hb2 hk2 hK2
    gi_wp2
    refine ⟨by simp, .inl ⟨_, _, rfl, run_takeDeferred HK2.out, ?_⟩⟩
    refine ⟨_, results_tmp rfl _ _ _, ?_, ?_⟩
    · rw [HG.out]
      rfl
    · rw [hb]
      exact HB2.out.trans (belowK_b (w := w) (by omega) _ D _ _ (by have := HD.out; omega) HK2.out rfl rfl)
  case stop =>
    rintro D c pre W _ _ h _
    exact h.elim

theorem ienc (s : ByteArray) (w : World) : Calls Tryz.prog 53 #[.string s] w (Says w (encB s)) := by
  by_cases h : s.size ≤ 30
  · rw [encB_yes h]
    exact ienc_loop s w h
  · have h1 : (30 : Int) < (s.size : Int) := by omega
    have HE := Lib.hid (encB_no h)
    clear h
    go_enter Tryz.func53, Tryz.ntmps53
    go_wp2
    go_ret
    exact ⟨by rw [HE.out]; rfl, Below.refl _ _⟩
theorem toList_iff {x y : ByteArray} : x.toList = y.toList ↔ x = y := by
  rw [ByteArray.toList_eq, ByteArray.toList_eq]
  constructor
  · intro h; rw [← bt_of x, h, bt_of]
  · rintro rfl; rfl
theorem isD_same {s : ByteArray} (h : (encB (bt (dg s.data.toList))).toList = s.toList) : IsD s true (bt (dg s.data.toList)) := by
  rw [toList_iff] at h
  by_cases hl : (bt (dg s.data.toList)).size ≤ 30
  · rw [encB_yes hl] at h
    exact dg_same hl (by rw [bt_list] at h; rw [← bt_list (enc (dg s.data.toList)), h])
  · rw [encB_no hl] at h
    subst h
    exact absurd (show (bt (dg [])).size ≤ 30 by decide) hl
theorem isD_other {s : ByteArray} (h : ¬ (encB (bt (dg s.data.toList))).toList = s.toList) : IsD s false ⟨#[]⟩ := by
  refine isD_no (dg_other (fun hl he => h ?_))
  rw [toList_iff, encB_yes (by rw [bt_size]; exact hl), bt_list, he, bt_of]
set_option maxRecDepth 100000 in
set_option maxHeartbeats 2000000 in
theorem idec_loop {s x : ByteArray} {o : Bool} (hd : IsD s o x) (w : World) (hs : s.size ≤ 16777216) : Calls Tryz.prog 137 #[.string s] w (Gives w x o) := by
  have HDD := Lib.hid hd
  clear hd
  have HS := Lib.hid hs
  clear hs
  refine (callsIn_wide (n := 4)).1 ?_
  refine callsIn_of_wp_marks Tryz.func137 rfl trivial ?_ rfl
  simp only [Tryz.ntmps137, List.size_toArray, List.length_cons, List.length_nil, Nat.reduceAdd, Nat.reduceSub, Array.replicate_succ, Array.replicate_zero, List.push_toArray, List.append_toArray, List.nil_append, List.cons_append]
  gi_wp2_with (refine ⟨trivial, ?_⟩; gi_at_call 92; refine (callsIn_wide.2 (groups_in s 4 _)).mono ?_; rintro e w' ⟨rfl, rfl⟩)
  obtain ⟨b, hb⟩ : ∃ b, w.heap.size = b := ⟨_, rfl⟩
  obtain ⟨w0, hw0⟩ : ∃ w0, w.alloc (.cells #[.pointer none, .slice none 0 0] 98) = w0 := ⟨_, rfl⟩
  have hz0 : w0.heap.size = b + 1 := by rw [← hw0, ← hb]; simp
  have hb0 : Lib.IsBuilder 98 5 b b [] w0 := by rw [← hw0, ← hb]; exact builder_new w
  have hB0 : Below b w w0 := by rw [← hw0, ← hb]; exact (Below.refl _ _).alloc (Nat.le_refl _) _
  rw [hw0, hb]
  obtain ⟨w1, hw1⟩ : ∃ w1, (w0.alloc (.cells #[.string s] 9)).alloc (.cells #[.int .i64 4] 3) = w1 := ⟨_, rfl⟩
  have hz1 : w1.heap.size = b + 3 := by rw [← hw1]; simp; omega
  have a1 : Whole w1 (b + 1) 9 #[.string s] := by rw [← hw1, ← hz0]; exact (Whole.made w0 _ _).alloc _
  have a2 : Whole w1 (b + 1 + 1) 3 #[.int .i64 ((4 : Nat) : Int)] := by
    have h := Whole.made (w0.alloc (.cells #[.string s] 9)) 3 #[.int .i64 4]
    rw [hw1, World.size_alloc, hz0] at h
    exact h
  have hB1 : Below b w w1 := by rw [← hw1]; exact (hB0.alloc (by omega) _).alloc (by simp; omega) _
  have hbb1 : Lib.IsBuilder 98 5 b b [] w1 := by
    rw [← hw1]
    exact builder_kept (builder_kept hb0 (World.grownBy_alloc w0 _ none) (fun r e => by cases e)) (World.grownBy_alloc _ _ none) (fun r e => by cases e)
  rw [hw1]
  have hbw : b ≤ w.heap.size := by omega
  clear hw0 hw1 hz0 hb0 hB0
  refine wpIn_rangeFunc_ownG (α := Gn 4) rfl (by decide) (gf := 111) (lb := #[.pointer (some ⟨b + 1, 0, none⟩), .pointer (some ⟨b + 1 + 1, 0, none⟩)]) rfl trivial (enters_of Tryz.func111 (by kernel_rfl) rfl)
    (groups_stops 3 (b + 1) (b + 1 + 1) 4 (by decide) (by decide) (by decide) s (by have := HS.out; omega) w1 a1 a2) two_t (two_b (by omega) (by omega)) (Below.refl _ _) (fun _ => rfl)
    (LoopI 4 decG s w b (b + 1) (b + 1 + 1)) (fun _ _ _ => False) (loopI_own hbw (by omega)) (fun _ _ _ _ _ hs _ _ => hs)
    ⟨⟨hbb1, a1, a2⟩, hB1⟩
    (fun x => { tmps := #[.string s, undef, .string ⟨#[]⟩, .bool false, .pointer (some ⟨b, 0, none⟩), .string x.1, undef, .string s, .func (.func 111) #[] #[.pointer (some ⟨b + 1, 0, none⟩), .pointer (some ⟨b + 1 + 1, 0, none⟩)], .string x.1, undef, undef, undef, undef, undef, undef, undef, undef, undef], defers := [] }) ?assign ?body ?done ?stop
  case assign =>
    intro l x W K hK
    gi_wp2
    exact hK
  case body =>
    rintro l pre x W hI hlt
    have HI := Lib.hid hI
    have HX := Lib.hid x.2
    have HL := Lib.hid hlt
    clear hI hlt
    gi_wp2_with (refine ⟨trivial, ?_⟩; gi_at_call 148; refine (CallsIn.inRound l (callsIn_wide.2 (dec_group x.1 _ HX.out.2))).mono ?_)
    rintro e W1 ⟨rfl, hb1⟩
    have HB1 := Lib.hid hb1
    clear hb1
    have hBW : Lib.IsBuilder 98 5 b b (Lib.byteCells ((gl pre).flatMap decG)) W1 := builder_kept HI.out.1.1 (gr_below HB1.out none) (fun r e => by cases e)
    have hbW : b ≤ W1.heap.size := Nat.le_trans hbw (Nat.le_trans HI.out.2.size HB1.out.size)
    have hlen : (Lib.byteCells ((gl pre).flatMap decG)).length + (bt (decG x.1.data.toList)).size ≤ 140737488355328 := by
      have h1 := flat_len (n := 4) (k := 3) (f := decG) (fun y => decG_len _) pre
      have h2 := HL.out
      have h3 := HS.out
      rw [Lib.byteCells_length, bt_size]
      have h5 := decG_len x.1.data.toList
      have h4 := HX.out.2
      have hl : x.1.data.toList.length = x.1.size := by simp
      omega
    gi_wp2_with (refine ⟨trivial, ?_⟩; gi_at_call 93; refine (CallsIn.inRound l (callsIn_wide.2 (write_string b b _ _ _ hBW hlen hbW))).mono ?_)
    rintro e W2 ⟨rfl, hA, hb2, hk2⟩
    have HR := Lib.hid (loopI_round (B := w1.heap.size) (by omega) (by omega) hbw HI.out HB1.out hA hb2 hk2)
    clear hA hb2 hk2 hBW hbW hlen
    gi_wp2
    exact HR.out
  case done =>
    rintro D ys W hD hG hI hK
    have HI := Lib.hid hI
    have HG := Lib.hid (grp_dg _ _ hG)
    have HD := Lib.hid hD
    have HK := Lib.hid hK
    clear hI hG hD hK
    have hbW : b ≤ W.heap.size := Nat.le_trans hbw HI.out.2.size
    gi_wp2_with (refine ⟨trivial, ?_⟩; gi_at_call 95; refine (callsIn_wide.2 (builder_string_k b b _ _ (Lib.IsBuilderF.of HI.out.1.1) hbW)).mono ?_)
    rintro e W2 ⟨rfl, hF, hb2, hk2⟩
    have hK2 := hk2 D _ HK.out (by intro e; cases e; have := HD.out; omega) (by intro c fz e; cases e)
    have HK2 := Lib.hid hK2
    have HB2 := Lib.hid (HI.out.2.trans hb2)
    clear hF hb2 hk2 hK2
    rw [HG.out]
    obtain ⟨p, hp⟩ : ∃ p, (⟨(dg s.data.toList).toArray⟩ : ByteArray) = p := ⟨_, rfl⟩
    rw [hp]
    have HP := Lib.hid (show bt (dg s.data.toList) = p from hp)
    clear hp
    by_cases he : (encB p).toList = s.toList
    · have q1 : ((encB p).toList == s.toList) = true := beq_iff_eq.2 he
      have q2 : ((encB p).toList != s.toList) = false := by simp [he]
      have HDY : Hid (IsD s true p) := by
        rw [← HP.out]
        exact Lib.hid (isD_same (by rw [HP.out]; exact he))
      clear he
      gi_wp2_with (refine ⟨trivial, ?_⟩; gi_at_call 53; refine (callsIn_wide.2 (ienc p _)).mono ?_)
      rintro e W3 ⟨rfl, hb3⟩
      have HK3 := Lib.hid ((hb3.block D (Array.getElem?_eq_some_iff.1 HK2.out).1).trans HK2.out)
      have HB3 := Lib.hid (HB2.out.trans (hb3.mono (Nat.le_trans hbw HB2.out.size)))
      clear hb3
      gi_wp2
      refine ⟨by simp, .inl ⟨_, _, rfl, run_takeDeferred HK3.out, ?_⟩⟩
      refine ⟨_, results_tmp2 rfl _ _ _, ?_⟩
      exact gives_mk HDD.out HDY.out (by rw [hb]; exact HB3.out.trans (belowK_b (w := w) (by omega) _ D _ _ (by have := HD.out; omega) HK3.out rfl rfl))
    · have q1 : ((encB p).toList == s.toList) = false := beq_eq_false_iff_ne.2 he
      have q2 : ((encB p).toList != s.toList) = true := by simp [he]
      have HDY : Hid (IsD s false ⟨#[]⟩) := Lib.hid (isD_other (by rw [HP.out]; exact he))
      clear he
      gi_wp2_with (refine ⟨trivial, ?_⟩; gi_at_call 53; refine (callsIn_wide.2 (ienc p _)).mono ?_)
      rintro e W3 ⟨rfl, hb3⟩
      have HK3 := Lib.hid ((hb3.block D (Array.getElem?_eq_some_iff.1 HK2.out).1).trans HK2.out)
      have HB3 := Lib.hid (HB2.out.trans (hb3.mono (Nat.le_trans hbw HB2.out.size)))
      clear hb3
      gi_wp2
      refine ⟨by simp, .inl ⟨_, _, rfl, run_takeDeferred HK3.out, ?_⟩⟩
      refine ⟨_, results_tmp2 rfl _ _ _, ?_⟩
      exact gives_mk HDD.out HDY.out (by rw [hb]; exact HB3.out.trans (belowK_b (w := w) (by omega) _ D _ _ (by have := HD.out; omega) HK3.out rfl rfl))
  case stop =>
    rintro D c pre W _ _ h _
    exact h.elim
end Go.Proofs.YtichajalinkcdaaGreatDoor
namespace Go.Proofs.YtichajalinkcdaaGreatDoor
open Go
set_option maxRecDepth 100000

/-- The blank. -/
def blank : Char := Char.ofNat 32
def signsOf {s : String} {l : List Char} (_h : s = String.ofList l) : List Char := l
theorem signsOf_eq {s : String} {l : List Char} (h : s = String.ofList l) : s.toList = signsOf h := by subst h; exact String.toList_ofList
theorem words_step (w r : List Char) (h : w.all (fun c => c != blank) = true) : wordsSigns (w ++ blank :: r) = w :: wordsSigns r := by
  induction w with
  | nil => rfl
  | cons c w ih =>
    rw [List.all_cons, Bool.and_eq_true] at h
    have hc : c ≠ blank := by simpa using h.1
    rw [List.cons_append]
    conv => lhs; unfold wordsSigns
    split
    · rename_i e; cases e
    · rename_i e; injection e with e1 e2; exact absurd e1 hc
    · rename_i e
      injection e with e1 e2
      subst e1 e2
      rw [ih h.2]

def signs : List Char := signsOf (s := Tryz.prog.initOrder) (l := _) rfl
theorem signs_eq : Tryz.prog.initOrder.toList = signs := signsOf_eq (s := Tryz.prog.initOrder) (l := _) rfl
theorem signs0 : signs = signs.take 7 ++ blank :: signs.drop 8 := by kernel_rfl
theorem signs1 : signs.drop 8 = (signs.drop 8).take 64 ++ blank :: signs.drop 73 := by kernel_rfl
theorem signs2 : signs.drop 73 = (signs.drop 73).take 3 ++ blank :: signs.drop 77 := by kernel_rfl
theorem words_eq : wordsSigns signs = signs.take 7 :: (signs.drop 8).take 64 :: (signs.drop 73).take 3 :: wordsSigns (signs.drop 77) := by
  conv => lhs; rw [signs0]
  rw [words_step _ _ (by kernel_rfl)]
  conv => lhs; rw [signs1]
  rw [words_step _ _ (by kernel_rfl)]
  conv => lhs; rw [signs2]
  rw [words_step _ _ (by kernel_rfl)]
theorem behind_of {h t : List Char} {r : List (List Char)} (hh : ((h == "harness".toList || h == "ownmain".toList) && isSumSigns t) = true) : behindMainWord (h :: t :: r) = r := by
  unfold behindMainWord
  simp only [hh, if_true]
theorem behind_eq : behindMainWord (wordsSigns Tryz.prog.initOrder.toList) = (signs.drop 73).take 3 :: wordsSigns (signs.drop 77) := by
  rw [signs_eq, words_eq]
  exact behind_of (by kernel_rfl)
theorem make_of {P : Program} {c : List Char} {r : List (List Char)} (h : behindMainWord (wordsSigns P.initOrder.toList) = c :: r) (h1 : (c == "gc".toList || c == "spec".toList) = false) (h2 : (c == "cut".toList) = true) : P.make = some .cut := by
  unfold Program.make
  rw [h]
  simp only [h1, h2, Bool.true_or, if_true, Bool.false_eq_true, if_false]
theorem make_eq : Tryz.prog.make = some .cut := make_of behind_eq (by kernel_rfl) (by kernel_rfl)
end Go.Proofs.YtichajalinkcdaaGreatDoor
namespace Go.Proofs.YtichajalinkcdaaGreatDoor
open Go
set_option maxRecDepth 100000
theorem lays_eq : Tryz.prog.laysLater = false := by kernel_rfl
end Go.Proofs.YtichajalinkcdaaGreatDoor
namespace Go.Proofs.YtichajalinkcdaaGreatDoor
open Go
set_option maxRecDepth 100000
theorem refl_eq : Tryz.prog.bearsReflect = false := by kernel_rfl
end Go.Proofs.YtichajalinkcdaaGreatDoor
namespace Go.Proofs.YtichajalinkcdaaGreatDoor
open Go
set_option maxRecDepth 100000
theorem door_eq : Tryz.prog.doorFits [] = true := by kernel_rfl
end Go.Proofs.YtichajalinkcdaaGreatDoor
namespace Go.Proofs.YtichajalinkcdaaGreatDoor
open Go
set_option maxRecDepth 100000
theorem lifts_eq : Tryz.prog.liftsFinal = false := by
  unfold Program.liftsFinal Program.headLifts
  rw [behind_eq]
  generalize wordsSigns (signs.drop 77) = X
  kernel_rfl
theorem strip_eq (X : List (List Char)) : stripLifts liftWords ((signs.drop 73).take 3 :: X) = ([], (signs.drop 73).take 3 :: X) := by
  have h : ∀ (os : List String) (c : List Char), os.all (fun o => c != o.toList) = true → stripLifts os (c :: X) = ([], c :: X) := by
    intro os c
    induction os with
    | nil => intro _; rfl
    | cons o os ih =>
      intro ha
      rw [List.all_cons, Bool.and_eq_true] at ha
      have hne : (c == o.toList) = false := by simpa using ha.1
      unfold stripLifts
      rw [if_neg (by rw [hne]; decide)]
      exact ih ha.2
  exact h _ _ (by kernel_rfl)
theorem enter_of {P : Program} {c : List Char} {r : List (List Char)} (h : behindMainWord (wordsSigns P.initOrder.toList) = c :: r) (h1 : (c == "gc".toList || c == "spec".toList) = false) (h2 : (c == "carried".toList) = false)
    (hs : stripLifts liftWords (c :: r) = ([], c :: r)) (hc : (c == "cut".toList) = true) (hl : P.laysLater = false) (hr : P.bearsReflect = false) (hd : P.doorFits [] = true) : P.mayEnter = true := by
  have hc' : c = "cut".toList := by simpa using hc
  unfold Program.mayEnter
  rw [h]
  simp only [hs, h1, h2, hl, hr, hd, List.head?_cons, Bool.false_and, Bool.false_or, Bool.not_false, Bool.or_true, Bool.and_true, List.contains_nil]
  rw [hc']
  exact beq_self_eq_true _
theorem enter_eq : Tryz.prog.mayEnter = true := enter_of behind_eq (by kernel_rfl) (by kernel_rfl) (strip_eq _) (by kernel_rfl) lays_eq refl_eq door_eq
end Go.Proofs.YtichajalinkcdaaGreatDoor
namespace Go.Proofs.YtichajalinkcdaaGreatDoor
open Go.RowKit
set_option linter.unusedVariables false

/-- How an element lies in memory: its type, its cells. -/
structure RowT (α : Type) where
  t : TypeId
  sz : Nat
  enc : α → List Value
  len : ∀ x, (enc x).length = sz
  one : ∀ x, ∀ u ∈ enc x, u.oneCell' = true
section
variable {α : Type} {R : RowT α} {w w' : World} {A : Option Addr} {L M : List α} {B B' n cap g k : Nat} {v : Value} {x y : α}

def rcells (R : RowT α) (L : List α) : List Value := L.flatMap R.enc
theorem rcells_len (R : RowT α) (L : List α) : (rcells R L).length = L.length * R.sz := by
  induction L with
  | nil => simp [rcells]
  | cons x L ih =>
    unfold rcells at ih ⊢
    rw [List.flatMap_cons, List.length_append, ih, R.len, List.length_cons, Nat.succ_mul]
    omega
theorem rcells_app (R : RowT α) (L M : List α) : rcells R (L ++ M) = rcells R L ++ rcells R M := by unfold rcells; rw [List.flatMap_append]
theorem rcells_one (R : RowT α) (x : α) : rcells R [x] = R.enc x := by simp [rcells]
theorem rcells_get (R : RowT α) : ∀ {L : List α} {i : Nat} {x : α}, L[i]? = some x → ∀ {j : Nat} {u : Value}, (R.enc x)[j]? = some u → (rcells R L)[i * R.sz + j]? = some u
  | [], i, x, h, _, _, _ => by simp at h
  | y :: L, 0, x, h, j, u, hu => by
    simp at h
    subst h
    unfold rcells
    rw [List.flatMap_cons, Nat.zero_mul, Nat.zero_add, List.getElem?_append_left (List.getElem?_eq_some_iff.1 hu).1]
    exact hu
  | y :: L, i + 1, x, h, j, u, hu => by
    have ih := rcells_get R (L := L) (i := i) (x := x) (by simpa using h) hu
    unfold rcells at ih ⊢
    rw [List.flatMap_cons, List.getElem?_append_right (by rw [R.len, Nat.succ_mul]; omega), R.len, show (i + 1) * R.sz + j - R.sz = i * R.sz + j by rw [Nat.succ_mul]; omega]
    exact ih
theorem rcells_cell (R : RowT α) (L : List α) : ∀ u ∈ rcells R L, u.oneCell' = true := by
  intro u hu
  unfold rcells at hu
  obtain ⟨x, _, hx⟩ := List.mem_flatMap.1 hu
  exact R.one x u hx

/-- The elements of a list can be read behind an address. -/
def RAt (R : RowT α) (w : World) (A : Option Addr) (L : List α) : Prop :=
  ∀ i x, L[i]? = some x → ∃ b o, A = some ⟨b, o, none⟩ ∧ b < w.heap.size ∧ ∀ j u, (R.enc x)[j]? = some u → w.cell? ⟨b, o + i * R.sz + j, none⟩ = some u
theorem RAt.kept (h : RAt R w A L) (hz : w.heap.size ≤ w'.heap.size) (hk : ∀ p : Addr, p.block < w.heap.size → w'.cell? p = w.cell? p) : RAt R w' A L := fun i x hx => by
  obtain ⟨b, o, hA, hb, h1⟩ := h i x hx
  exact ⟨b, o, hA, by omega, fun j u hu => (hk _ hb).trans (h1 j u hu)⟩
theorem RAt.below (h : RAt R w A L) (hb : Below B w w') (hB : w.heap.size ≤ B) : RAt R w' A L := h.kept hb.size fun p hp => hb.cell (by omega)
theorem RAt.drewN (h : RAt R w A L) (n : Nat) : RAt R (w.drewN n) A L := h
theorem RAt.drew (h : RAt R w A L) : RAt R w.drew A L := h
theorem RAt.nil (w : World) (A : Option Addr) : RAt R w A [] := fun i x hx => by simp at hx
theorem RAt.pre (h : RAt R w A (L ++ M)) : RAt R w A L := fun i x hx => h i x (by rw [List.getElem?_append_left (List.getElem?_eq_some_iff.1 hx).1]; exact hx)
theorem RAt.take (h : RAt R w A L) (k : Nat) : RAt R w A (L.take k) := RAt.pre (M := L.drop k) (by rw [List.take_append_drop]; exact h)
theorem RAt.drop {b o : Nat} (h : RAt R w (some ⟨b, o, none⟩) L) (k : Nat) : RAt R w (some ⟨b, o + k * R.sz, none⟩) (L.drop k) := fun i x hx => by
  rw [List.getElem?_drop] at hx
  obtain ⟨b', o', hA, hb, h1⟩ := h (k + i) x hx
  cases hA
  refine ⟨_, _, rfl, hb, fun j u hu => ?_⟩
  rw [show o + k * R.sz + i * R.sz + j = o + (k + i) * R.sz + j by rw [Nat.add_mul]; omega]
  exact h1 j u hu
theorem RAt.grown (h : RAt R w A L) (hg : w.grownBy w' (some g)) (hne : ∀ b o, A = some ⟨b, o, none⟩ → b ≠ g) : RAt R w' A L := fun i x hx => by
  obtain ⟨b, o, hA, hb, h1⟩ := h i x hx
  have hb' := hne b o hA
  exact ⟨b, o, hA, Nat.lt_of_lt_of_le hb hg.size, fun j u hu => (World.cell?_of_block (hg.block b hb (by simp; exact hb'))).trans (h1 j u hu)⟩

theorem radd (b o n : Nat) : (⟨b, o, none⟩ : Addr).add n = ⟨b, o + n, none⟩ := by unfold Addr.add; split <;> simp_all
/-- A slice of the call's own. -/
def ROwn (R : RowT α) (w : World) (B : Nat) (v : Value) (L : List α) : Prop := w.ownsRow B R.t R.sz v L.length (rcells R L)
theorem ROwn.form (h : ROwn R w B v L) : ∃ A cap, v = .slice A L.length cap ∧ L.length ≤ cap ∧ cap ≤ maxLen ∧ RAt R w A L ∧ (∀ b o, A = some ⟨b, o, none⟩ → o = 0 ∧ B ≤ b ∧ b < w.heap.size) ∧ (L ≠ [] → ∃ g, A = some ⟨g, 0, none⟩) := by
  have hc : ∀ g, v.ownBlock = some g → ∀ j u, (rcells R L)[j]? = some u → w.cell? ((⟨g, 0, none⟩ : Addr).add j) = some u := fun g hg => World.ownsRow.cells h hg
  have h2 := World.ownsRow.lt h
  rcases h.2 with ⟨rfl, h0⟩ | ⟨g, cap, cur, rfl, hB, hg, hn, hm, hs, ht⟩
  · refine ⟨none, 0, by rw [h0], by omega, by unfold maxLen; omega, ?_, fun b o e => (by cases e), fun hne => absurd (List.eq_nil_of_length_eq_zero h0) hne⟩
    rw [List.eq_nil_of_length_eq_zero h0]
    exact RAt.nil _ _
  · refine ⟨_, cap, rfl, hn, hm, fun i x hx => ⟨g, 0, rfl, (h2 g rfl).2, fun j u hu => ?_⟩, fun b o e => ?_, fun _ => ⟨g, rfl⟩⟩
    · have := hc g rfl _ _ (rcells_get R hx hu)
      rw [radd] at this
      rw [Nat.zero_add] at this ⊢
      exact this
    · cases e
      exact ⟨rfl, hB, (h2 g rfl).2⟩
theorem ROwn.kept (h : ROwn R w B v L) (hb : Below w.heap.size w w') : ROwn R w' B v L := by
  unfold ROwn
  refine World.ownsRow.kept (row := none) h ⟨hb.os, hb.tape, hb.output, hb.size, fun k hk _ => hb.block k hk⟩ ?_
  cases hv : v.ownBlock <;> simp
theorem ROwn.drewN (h : ROwn R w B v L) (n : Nat) : ROwn R (w.drewN n) B v L := h
theorem ROwn.from (h : ROwn R w B v L) (hb : B' ≤ B) : ROwn R w B' v L := by
  refine ⟨h.1, ?_⟩
  rcases h.2 with h2 | ⟨g, cap, cur, hv, hB, rest⟩
  · exact .inl h2
  · exact .inr ⟨g, cap, cur, hv, by omega, rest⟩
theorem ROwn.grown {b : Nat} (h : ROwn R w B v L) (hg : w.grownBy w' (some b)) (hb : b < B) : ROwn R w' B v L :=
  World.ownsRow.kept h hg (by
    rcases h.2 with ⟨rfl, _⟩ | ⟨g, cap, cur, rfl, hB, _⟩
    · exact Or.inl rfl
    · exact Or.inr (by simp [Value.ownBlock]; omega))
theorem ROwn.apart {row : Option Nat} (h : ROwn R w B v L) (hg : w.grownBy w' row) (hne : v.ownBlock = none ∨ v.ownBlock ≠ row) : ROwn R w' B v L := World.ownsRow.kept h hg hne
theorem ROwn.alloc (h : ROwn R w B v L) (o : Obj) : ROwn R (w.alloc o) B v L := World.ownsRow.alloc h o
theorem ROwn.nil (w : World) (B : Nat) : ROwn R w B (.slice none 0 0) [] := World.ownsRow_nil w B _ _
theorem ROwn.lit (w : World) (N : Nat) (hB : B ≤ w.heap.size) (hN : w.heap.size = N) : ROwn R (w.alloc (.cells #[] R.t)) B (.slice (some ⟨N, 0, none⟩) 0 0) [] := by
  subst hN
  exact World.ownsRow_lit w #[] 0 hB (by unfold maxLen; omega) (by simp)
theorem ROwn.row (h : ROwn R w B v L) (hn : L.length = n) : w.ownsRow B R.t R.sz v n (rcells R L) := by subst hn; exact h
theorem ROwn.of (h : w.ownsRow B R.t R.sz v n (rcells R L)) (hn : n = L.length) : ROwn R w B v L := by subst hn; exact h
theorem ROwn.push {x : α} (h : w.ownsRow B R.t R.sz v n (rcells R L ++ R.enc x)) (hn : n = L.length + 1) : ROwn R w B v (L ++ [x]) := by
  unfold ROwn
  rw [rcells_app, rcells_one, List.length_append, List.length_singleton, ← hn]
  exact h
theorem ROwn.cat (h : w.ownsRow B R.t R.sz v n (rcells R L ++ rcells R M)) (hn : n = L.length + M.length) : ROwn R w B v (L ++ M) := by
  unfold ROwn
  rw [rcells_app, List.length_append, ← hn]
  exact h
theorem ROwn.len (h : ROwn R w B (.slice A n cap) L) : n = L.length ∧ n ≤ cap ∧ cap ≤ maxLen := by
  obtain ⟨A, c, he, h1, h2, _⟩ := h.form
  cases he
  exact ⟨rfl, h1, h2⟩
theorem ROwn.at (h : ROwn R w B (.slice A n cap) L) : RAt R w A L := by
  obtain ⟨A, c, he, _, _, hs, _⟩ := h.form
  cases he
  exact hs
theorem ROwn.ne (h : ROwn R w B v L) : v.ownBlock ≠ some w.heap.size := fun e => by
  have := (World.ownsRow.lt h _ e).2
  omega
theorem ROwn.store (h : ROwn R w B v L) {p : Addr} (hne : v.ownBlock ≠ some p.block) (u : Value) : ROwn R (w.setCell p u) B v L :=
  World.ownsRow.kept (row := some p.block) h ⟨rfl, rfl, rfl, by simp [World.setCell], fun k hk hn => Below.heap_setCell w p u k (fun e => hn (by rw [e]))⟩ (.inr hne)
theorem ROwn.cell (h : ROwn R w B (.slice (some ⟨g, 0, none⟩) n cap) L) (hx : L[k]? = some x) {j : Nat} {u : Value} (hu : (R.enc x)[j]? = some u) : w.cell? ⟨g, k * R.sz + j, none⟩ = some u := by
  obtain ⟨b, o, he, _, h1⟩ := h.at k x hx
  cases he
  have := h1 j u hu
  rw [Nat.zero_add] at this
  exact this
theorem ROwn.free (h : ROwn R w B (.slice (some ⟨g, 0, none⟩) n cap) L) (j : Nat) : w.frozen? ⟨g, j, none⟩ = false :=
  World.ownsRow.frozenAt (h.row h.len.1.symm) j
theorem ROwn.nilcap (h : ROwn R w B (.slice A n cap) L) : A = none → cap = 0 := by
  rintro rfl
  rcases h.2 with ⟨he, _⟩ | ⟨g, c, cur, he, _⟩
  · cases he; rfl
  · cases he
theorem ROwn.spot (h : ROwn R w B (.slice A n cap) L) : ∀ q, A = some q → q.spot = none := by
  rintro q rfl
  rcases h.2 with ⟨he, _⟩ | ⟨g, c, cur, he, _⟩
  · cases he
  · cases he; rfl
theorem ROwn.base (h : ROwn R w B v L) : ∀ b, b < B → v.ownBlock ≠ some b := fun b hb e => by
  have := (World.ownsRow.lt h _ e).1
  omega
theorem ROwn.val (h : ROwn R w B v L) : ∃ A n cap, v = .slice A n cap := by
  obtain ⟨A, c, he, _⟩ := h.form
  exact ⟨A, _, c, he⟩
theorem ROwn.whole {b : Nat} {t : TypeId} {cs : Array Value} (h : ROwn R w B v L) (hW : Whole w b t cs) (ht : t ≠ R.t) : v.ownBlock ≠ some b := by
  intro e
  rcases h.2 with ⟨rfl, _⟩ | ⟨g, c, cur, rfl, _, hg, _⟩
  · cases e
  · cases e
    have := hW.symm.trans hg
    cases this
    exact ht rfl
theorem own_apart {β : Type} {S : RowT β} {M : List β} {v2 : Value} {B2 : Nat} (h : ROwn R w B v L) (h2 : ROwn S w B2 v2 M) (ht : R.t ≠ S.t) : v.ownBlock = none ∨ v.ownBlock ≠ v2.ownBlock := by
  rcases h.2 with ⟨rfl, _⟩ | ⟨g, c, cur, rfl, _, hg, _⟩
  · exact .inl rfl
  · refine .inr fun e => ?_
    rcases h2.2 with ⟨rfl, _⟩ | ⟨g2, c2, cur2, rfl, _, hg2, _⟩
    · cases e
    · cases e
      have e3 := Option.some.inj (hg.symm.trans hg2)
      injection e3 with e4 e5
      exact ht e5
theorem rcells_set (R : RowT α) {L : List α} {k : Nat} {x y : α} {j : Nat} {u : Value} (hx : L[k]? = some x) (hj : j < R.sz) (hy : R.enc y = (R.enc x).set j u) : (rcells R L).set (k * R.sz + j) u = rcells R (L.set k y) := by
  have hk := (List.getElem?_eq_some_iff.1 hx).1
  have e : L = L.take k ++ x :: L.drop (k + 1) := by
    conv => lhs; rw [← List.take_append_drop k L, List.drop_eq_getElem_cons hk]
    rw [(List.getElem?_eq_some_iff.1 hx).2]
  have hlt : (L.take k).length = k := by rw [List.length_take]; omega
  have e2 : L.set k y = L.take k ++ y :: L.drop (k + 1) := by
    conv => lhs; rw [e]
    rw [List.set_append_right _ _ (by omega), hlt, Nat.sub_self, List.set_cons_zero]
  rw [e2]
  conv => lhs; rw [e]
  have e3 : ∀ z : α, rcells R (L.take k ++ z :: L.drop (k + 1)) = rcells R (L.take k) ++ (R.enc z ++ rcells R (L.drop (k + 1))) := fun z => by
    rw [rcells_app]
    congr 1
  rw [e3, e3, List.set_append_right _ _ (by rw [rcells_len, hlt]; omega), rcells_len, hlt, Nat.add_sub_cancel_left, List.set_append_left _ _ (by rw [R.len]; exact hj), hy]
theorem ROwn.stored (h : ROwn R w B (.slice (some ⟨g, 0, none⟩) n cap) L) (hx : L[k]? = some x) {j : Nat} {u : Value} (hj : j < R.sz) (hy : R.enc y = (R.enc x).set j u) :
    ROwn R (w.setCell ⟨g, k * R.sz + j, none⟩ u) B (.slice (some ⟨g, 0, none⟩) n cap) (L.set k y) ∧ w.grownBy (w.setCell ⟨g, k * R.sz + j, none⟩ u) (some g) := by
  obtain ⟨h1, g1⟩ := World.ownsRow.stored (h.row h.len.1.symm) (k * R.sz + j) u
  refine ⟨?_, g1⟩
  rw [rcells_set R hx hj hy] at h1
  exact ROwn.of h1 (by rw [List.length_set]; exact h.len.1)
theorem rnew (w : World) (cs : List Value) (t : TypeId) (N : Nat) (hN : w.heap.size = N) : ∀ j u, cs[j]? = some u → (w.alloc (.cells cs.toArray t)).cell? ((⟨N, 0, none⟩ : Addr).add j) = some u := by
  subst hN
  intro j u hj
  rw [radd, Nat.zero_add, (Whole.made w t cs.toArray).cell j, List.getElem?_toArray]
  exact hj
theorem set_next {L : List α} {n k : Nat} {x z : α} (hn : L.length = n) (hx : L[k]? = some x) : (L.take k ++ List.replicate (n - k) z).set k x = L.take (k + 1) ++ List.replicate (n - (k + 1)) z := by
  have hk := (List.getElem?_eq_some_iff.1 hx).1
  have hl : (L.take k).length = k := by rw [List.length_take]; omega
  rw [List.set_append_right _ _ (by omega), hl, Nat.sub_self, show n - k = (n - (k + 1)) + 1 by omega, List.replicate_succ, List.set_cons_zero, List.take_add_one, hx, List.append_assoc]
  rfl
theorem set_front {P L : List α} {i : Nat} (x : α) (hp : P.length = i) (hi : i < L.length) : (P ++ L.drop i).set i x = P ++ [x] ++ L.drop (i + 1) := by
  rw [List.set_append_right _ _ (by omega), hp, Nat.sub_self, List.drop_eq_getElem_cons hi, List.set_cons_zero, List.append_assoc]
  rfl
theorem front_some {P L : List α} {i : Nat} (hp : P.length = i) (hi : i < L.length) : (P ++ L.drop i)[i]? = some L[i] := by
  rw [List.getElem?_append_right (by omega), hp, Nat.sub_self, List.getElem?_drop, Nat.add_zero, List.getElem?_eq_getElem hi]
theorem made_rows (R : RowT α) (z : Value) (d : α) (hz : z.cells.toList = R.enc d) (h0 : 0 < R.sz) (n : Nat) : (madeCells z.cells (n * R.sz)).toList = rcells R (List.replicate n d) := by
  have hzs : z.cells.size = R.sz := by rw [← R.len d, ← hz, Array.length_toList]
  apply List.ext_getElem?
  intro j
  have hl : (rcells R (List.replicate n d)).length = n * R.sz := by rw [rcells_len, List.length_replicate]
  by_cases hj : j < n * R.sz
  · have hm : j % R.sz < R.sz := Nat.mod_lt _ h0
    obtain ⟨u, hu⟩ : ∃ u, (R.enc d)[j % R.sz]? = some u := ⟨_, List.getElem?_eq_getElem (by rw [R.len]; exact hm)⟩
    have hr : (List.replicate n d)[j / R.sz]? = some d := by rw [List.getElem?_replicate, if_pos (Nat.div_lt_of_lt_mul (by rw [Nat.mul_comm]; exact hj))]
    have h2 := rcells_get R hr hu
    rw [show j / R.sz * R.sz + j % R.sz = j by rw [Nat.mul_comm]; exact Nat.div_add_mod _ _] at h2
    rw [h2]
    have h3 : z.cells[j % R.sz]? = some u := by rw [← Array.getElem?_toList, hz]; exact hu
    obtain ⟨hb, hv⟩ := Array.getElem?_eq_some_iff.1 h3
    rw [Array.getElem?_toList]
    unfold madeCells
    rw [Array.getElem?_map, Array.getElem?_range, if_pos hj, hzs]
    show some (z.cells[j % R.sz]!) = some u
    rw [getElem!_pos z.cells _ hb, hv]
  · rw [List.getElem?_eq_none (l := rcells R _) (by rw [hl]; omega), List.getElem?_eq_none (by rw [Array.length_toList, size_madeCells]; omega)]
/-- One append for all: onto a slice of the call's own, of what can be read behind an address, or of nil. -/
theorem wp_append_rows {P : Program} {o : Oper} {a : Act} {K : Act → World → Prop} {Q : Exit → Act → World → Prop} (s x : Operand) (t : TypeId)
    (ho : o.op = .call { callee := .builtin .append, args := #[s, x], argTypes := #[t, t] })
    (R : RowT α) (base : Nat) (i : TypeInfo) (z : Value) (bytes : Nat) (ht : P.underlying t = some (.slice R.t)) (hi : P.info? R.t = some i) (hz : i.zero = some z)
    (hsize : i.size = R.sz) (hby : i.bytes = bytes) (hzs : z.cells.size = R.sz) (hsz : 0 < R.sz)
    (v : Value) (L M : List α) (n : Nat) (hn : L.length = n) (hs : a.eval s = v) (hown : ROwn R w base v L)
    (A : Option Addr) (m c : Nat) (hx : a.eval x = .slice A m c) (hm : M.length = m) (hat : RAt R w A M) (hA : A = none → c = 0) (hsp : ∀ q, A = some q → q.spot = none)
    (h63 : n + m ≤ maxLen) (hbytes : (n + m) * bytes ≤ 140737488355328) (hbase : base ≤ w.heap.size)
    (h : ∀ v' w', ROwn R w' base v' (L ++ M) → w.grownBy w' v.ownBlock → (v.ownBlock ≠ none → v'.ownBlock ≠ none) → K (a.put o.dst v') w') : o.wp P a w K Q := by
  cases A with
  | none =>
    have hm0 : M = [] := by
      cases M with
      | nil => rfl
      | cons y M =>
        obtain ⟨b, o, hA2, _⟩ := hat 0 y rfl
        cases hA2
    subst hm0
    obtain rfl : m = 0 := hm.symm
    obtain rfl : c = 0 := hA rfl
    have hrun := run_append_owned_none (P := P) (w := w) base t o.type R.t i R.sz ht hi v n (rcells R L) (hown.row hn)
    unfold Oper.wp
    simp [execOp, ho, resolve, invoke, builtin, hs, hx, hrun, Result.andThen]
    exact h v w (by rw [List.append_nil]; exact hown) (World.grownBy.refl w _) id
  | some q =>
    obtain ⟨b, o', sp⟩ := q
    obtain rfl : sp = none := hsp _ rfl
    refine wp_append_own w s x t ho base R.t i z R.sz bytes ht hi hz hsize hby hzs hsz v n (rcells R L) hs (hown.row hn) ⟨b, o', none⟩ m c (rcells R M) hx (by rw [rcells_len, hm]) ?_ (rcells_cell R M) h63 hbytes hbase ?_
    · intro j u hu
      have hj := (List.getElem?_eq_some_iff.1 hu).1
      rw [rcells_len] at hj
      obtain ⟨y, hy⟩ : ∃ y, M[j / R.sz]? = some y := ⟨_, List.getElem?_eq_getElem (Nat.div_lt_of_lt_mul (by rw [Nat.mul_comm]; exact hj))⟩
      obtain ⟨b', o2, he, _, h1⟩ := hat _ _ hy
      cases he
      obtain ⟨u2, hu2⟩ : ∃ u2, (R.enc y)[j % R.sz]? = some u2 := ⟨_, List.getElem?_eq_getElem (by rw [R.len]; exact Nat.mod_lt _ hsz)⟩
      have e1 := rcells_get R hy hu2
      have hdm : j / R.sz * R.sz + j % R.sz = j := by rw [Nat.mul_comm]; exact Nat.div_add_mod _ _
      rw [hdm, hu] at e1
      cases e1
      have := h1 _ _ hu2
      rw [Nat.add_assoc, hdm] at this
      rw [radd]
      exact this
    · intro v' w' hown' hg hnil
      refine h v' w' (ROwn.cat hown' (by omega)) hg fun hne hv' => ?_
      rcases hown'.2 with ⟨he, _⟩ | ⟨g, cap, cur, he, _⟩
      · exact hne (by rw [(hnil.1 he).1]; rfl)
      · rw [he] at hv'
        cases hv'
theorem wpList_append_rows {P : Program} {ops : Array Oper} {rest : List Oper} {o : Oper} {a : Act} {Q : Exit → Act → World → Prop} (hgd : o.guard = none) (s x : Operand) (t : TypeId)
    (ho : o.op = .call { callee := .builtin .append, args := #[s, x], argTypes := #[t, t] })
    (R : RowT α) (base : Nat) (i : TypeInfo) (z : Value) (bytes : Nat) (ht : P.underlying t = some (.slice R.t)) (hi : P.info? R.t = some i) (hz : i.zero = some z)
    (hsize : i.size = R.sz) (hby : i.bytes = bytes) (hzs : z.cells.size = R.sz) (hsz : 0 < R.sz)
    (v : Value) (L M : List α) (n : Nat) (hn : L.length = n) (hs : a.eval s = v) (hown : ROwn R w base v L)
    (A : Option Addr) (m c : Nat) (hx : a.eval x = .slice A m c) (hm : M.length = m) (hat : RAt R w A M) (hA : A = none → c = 0) (hsp : ∀ q, A = some q → q.spot = none)
    (h63 : n + m ≤ maxLen) (hbytes : (n + m) * bytes ≤ 140737488355328) (hbase : base ≤ w.heap.size)
    (h : ∀ v' w', ROwn R w' base v' (L ++ M) → w.grownBy w' v.ownBlock → (v.ownBlock ≠ none → v'.ownBlock ≠ none) → wpList P ops Q rest (a.put o.dst v') w') : wpList P ops Q (o :: rest) a w :=
  wpList_plain hgd fun _ hK => wp_append_rows s x t ho R base i z bytes ht hi hz hsize hby hzs hsz v L M n hn hs hown A m c hx hm hat hA hsp h63 hbytes hbase fun v' w' h2 h3 h4 => hK _ _ (h v' w' h2 h3 h4)
/-- The same inside a region that draws its order. -/
theorem step_append_rows {P : Program} {ops : Array Oper} {o : Oper} {a : Act} {K : Act → World → Prop} {Q : Exit → Act → World → Prop} {E : Prop} (hg : o.guard = none) (s x : Operand) (t : TypeId)
    (ho : o.op = .call { callee := .builtin .append, args := #[s, x], argTypes := #[t, t] })
    (R : RowT α) (base : Nat) (i : TypeInfo) (z : Value) (bytes : Nat) (ht : P.underlying t = some (.slice R.t)) (hi : P.info? R.t = some i) (hz : i.zero = some z)
    (hsize : i.size = R.sz) (hby : i.bytes = bytes) (hzs : z.cells.size = R.sz) (hsz : 0 < R.sz)
    (v : Value) (L M : List α) (n : Nat) (hn : L.length = n) (hs : a.eval s = v) (hown : ROwn R w base v L)
    (A : Option Addr) (m c : Nat) (hx : a.eval x = .slice A m c) (hm : M.length = m) (hat : RAt R w A M) (hA : A = none → c = 0) (hsp : ∀ q, A = some q → q.spot = none)
    (h63 : n + m ≤ maxLen) (hbytes : (n + m) * bytes ≤ 140737488355328) (hbase : base ≤ w.heap.size)
    (h : ∀ v' w', ROwn R w' base v' (L ++ M) → w.grownBy w' v.ownBlock → (v.ownBlock ≠ none → v'.ownBlock ≠ none) → K (a.put o.dst v') w') :
    if Region.wanted o (yielded ops a.tmps) = true then Oper.wp P o a w K Q else E := by
  have hw : Region.wanted o (yielded ops a.tmps) = true := by simp [Region.wanted, hg]
  rw [if_pos hw]
  exact wp_append_rows s x t ho R base i z bytes ht hi hz hsize hby hzs hsz v L M n hn hs hown A m c hx hm hat hA hsp h63 hbytes hbase h
theorem RAt.made (R : RowT α) (w : World) (L : List α) (N : Nat) (hN : w.heap.size = N) : RAt R (w.alloc (.cells (rcells R L).toArray R.t)) (some ⟨N, 0, none⟩) L := fun i x hx => by
  subst hN
  refine ⟨_, 0, rfl, by simp, fun j u hu => ?_⟩
  rw [Nat.zero_add, (Whole.made w R.t (rcells R L).toArray).cell, List.getElem?_toArray]
  exact rcells_get R hx hu
end
end Go.Proofs.YtichajalinkcdaaGreatDoor
namespace Go.Proofs.YtichajalinkcdaaGreatDoor
set_option linter.unusedVariables false

def kb (s : ByteArray) : List UInt8 := s.data.toList
theorem kb_inj {a b : ByteArray} (h : kb a = kb b) : a = b := by
  cases a
  cases b
  congr
  exact Array.toList_inj.1 h
/-- The order of names. -/
def ltG (a b : ByteArray) : Bool := decide (kb a < kb b)
theorem less_walk (a b : ByteArray) : Op.bytesLess a.toList b.toList = ltG a b := by
  rw [bytesLess_eq, ByteArray.toList_eq, ByteArray.toList_eq]
  rfl
theorem ltG_trans {a b c : ByteArray} (h1 : ltG a b = true) (h2 : ltG b c = true) : ltG a c = true := by
  unfold ltG at *
  simp only [decide_eq_true_eq] at *
  exact List.lt_trans h1 h2
theorem ltG_irrefl (a : ByteArray) : ltG a a = false := by
  unfold ltG
  exact decide_eq_false (List.lt_irrefl _)
theorem ltG_ne {a b : ByteArray} (h : ltG a b = true) : a ≠ b := by
  rintro rfl
  rw [ltG_irrefl] at h
  cases h
theorem ltG_total {a b : ByteArray} (h : ltG a b = false) (hne : a ≠ b) : ltG b a = true := by
  unfold ltG at *
  simp only [decide_eq_false_iff_not, decide_eq_true_eq] at *
  rcases List.le_iff_lt_or_eq.1 (List.not_lt.1 h) with h1 | h1
  · exact h1
  · exact absurd (kb_inj h1.symm) hne
theorem ltG_asymm {a b : ByteArray} (h : ltG a b = true) : ltG b a = false := by
  cases h2 : ltG b a with
  | false => rfl
  | true => have := ltG_trans h h2; rw [ltG_irrefl] at this; cases this
theorem ne_kb {a b : ByteArray} (h : a ≠ b) : (kb a == kb b) = false := beq_eq_false_iff_ne.2 fun e => h (kb_inj e)
theorem eq_kb {a b : ByteArray} : (kb a == kb b) = decide (a = b) := by
  by_cases h : a = b
  · subst h; simp
  · rw [ne_kb h, decide_eq_false h]
theorem kb_walk (a b : ByteArray) : (a.toList == b.toList) = (kb a == kb b) := by rw [ByteArray.toList_eq, ByteArray.toList_eq]; rfl
theorem ne_walk {a b : ByteArray} (h : a ≠ b) : (a.toList == b.toList) = false ∧ ¬ a.toList = b.toList := by
  have h2 : (a.toList == b.toList) = false := (kb_walk a b).trans (ne_kb h)
  exact ⟨h2, beq_eq_false_iff_ne.1 h2⟩
theorem tsnoc {α : Type} {L : List α} {k : Nat} {g : α} (hg : L[k]? = some g) : L.take (k + 1) = L.take k ++ [g] := by
  rw [List.take_add_one, hg]
  rfl
theorem lessW {a b : ByteArray} {z : Bool} (h : ltG a b = z) : Op.bytesLess a.toList b.toList = z := (less_walk a b).trans h
end Go.Proofs.YtichajalinkcdaaGreatDoor
namespace Go.Proofs.YtichajalinkcdaaGreatDoor
set_option linter.unusedVariables false

/-- The place behind the user. -/
def pk (L : List UInt8) : Nat := 1 + nmLen L 1
/-- The tests of the reader. -/
def Reads (L : List UInt8) : Prop := nextIs L 0 0 = true ∧ okLen (nmLen L 1) = true ∧ nextIs L (pk L) 0 = true ∧ okLen (nmLen L (pk L + 1)) = true ∧ pk L + 1 + nmLen L (pk L + 1) = L.length
def rdU (L : List UInt8) : List UInt8 := (L.drop 1).take (nmLen L 1)
def rdP (L : List UInt8) : List UInt8 := (L.drop (pk L + 1)).take (nmLen L (pk L + 1))
theorem take_name {u q : List UInt8} (hu : u.all sgn = true) (hq : q = [] ∨ ∃ t, q = 0 :: t) : (u ++ q).takeWhile sgn = u := by
  rw [List.takeWhile_append_of_pos (fun a h => List.all_eq_true.1 hu a h)]
  rcases hq with rfl | ⟨t, rfl⟩
  · simp
  · rw [List.takeWhile_cons, if_neg (by rw [sgn0]; decide)]
    simp
theorem reads_of {L u p : List UInt8} (h : L = two0 u p) (hu : nameB u = true) (hp : nameB p = true) : Reads L ∧ rdU L = u ∧ rdP L = p := by
  obtain ⟨u1, u2, u3⟩ := nameB_iff.1 hu
  obtain ⟨p1, p2, p3⟩ := nameB_iff.1 hp
  have d0 : L.drop 0 = 0 :: (u ++ 0 :: p) := h
  obtain ⟨n0, d1, _⟩ := next_cons (c := 0) d0
  have d1' : L.drop 1 = u ++ 0 :: p := d1
  obtain ⟨e1, d2⟩ := nm_eq L 1 d1' (by rw [d1']; exact take_name u1 (.inr ⟨p, rfl⟩))
  obtain ⟨n2, d3, _⟩ := next_cons (c := 0) d2
  obtain ⟨e2, d4⟩ := nm_eq L (1 + nmLen L 1 + 1) (p := p) (q := []) (by rw [d3, List.append_nil]) (by rw [d3]; have := take_name p1 (.inl rfl); rwa [List.append_nil] at this)
  have hL : L.length = u.length + p.length + 2 := by rw [h]; unfold two0; simp only [List.length_cons, List.length_append]; omega
  refine ⟨⟨by rw [n0]; rfl, by rw [e1]; unfold okLen; simp; omega, by unfold pk; rw [n2]; rfl, by unfold pk; rw [e2]; unfold okLen; simp; omega, by unfold pk; rw [e2, e1, hL]; omega⟩, ?_, ?_⟩
  · unfold rdU; rw [d1', e1]; simp
  · unfold rdP pk; rw [d3, e2]; simp
theorem tk_while (l : List UInt8) : l.take (l.takeWhile sgn).length = l.takeWhile sgn := by
  conv => lhs; arg 2; rw [← List.takeWhile_append_dropWhile (p := sgn) (l := l)]
  exact List.take_left
theorem of_reads {L : List UInt8} (h : Reads L) : L = two0 (rdU L) (rdP L) ∧ nameB (rdU L) = true ∧ nameB (rdP L) = true := by
  obtain ⟨h0, h1, h2, h3, h4⟩ := h
  have hl0 := nextIs_lt h0
  have hl2 := nextIs_lt h2
  unfold pk at *
  have a0 : L.drop 0 = L[0] :: L.drop 1 := List.drop_eq_getElem_cons hl0
  have c0 : L[0] = 0 := by
    have h := (next_cons (c := 0) a0).1
    rw [h0] at h
    exact (beq_iff_eq.1 h.symm)
  have a2 : L.drop (1 + nmLen L 1) = L[1 + nmLen L 1] :: L.drop (1 + nmLen L 1 + 1) := List.drop_eq_getElem_cons hl2
  have c2 : L[1 + nmLen L 1] = 0 := by
    have h := (next_cons (c := 0) a2).1
    rw [h2] at h
    exact (beq_iff_eq.1 h.symm)
  have e1 : (L.drop 1).take (nmLen L 1) = (L.drop 1).takeWhile sgn := by
    unfold nmLen
    exact tk_while _
  have e2 : (L.drop (1 + nmLen L 1 + 1)).take (nmLen L (1 + nmLen L 1 + 1)) = (L.drop (1 + nmLen L 1 + 1)).takeWhile sgn := by
    unfold nmLen
    exact tk_while _
  have all1 : (rdU L).all sgn = true := by unfold rdU; rw [e1]; exact List.all_takeWhile
  have all2 : (rdP L).all sgn = true := by unfold rdP pk; rw [e2]; exact List.all_takeWhile
  have l1 : (rdU L).length = nmLen L 1 := by unfold rdU; rw [e1]; rfl
  have l2 : (rdP L).length = nmLen L (1 + nmLen L 1 + 1) := by unfold rdP pk; rw [e2]; rfl
  refine ⟨?_, by rw [nameB_all all1, l1]; exact h1, by rw [nameB_all all2, l2]; exact h3⟩
  have hfull : (L.drop (1 + nmLen L 1 + 1)).take (nmLen L (1 + nmLen L 1 + 1)) = L.drop (1 + nmLen L 1 + 1) := List.take_of_length_le (by rw [List.length_drop]; omega)
  unfold two0 rdU rdP pk
  rw [hfull]
  have x1 : L = L[0] :: L.drop 1 := a0
  conv => lhs; rw [x1, c0]
  congr 1
  conv => lhs; rw [← List.take_append_drop (nmLen L 1) (L.drop 1), List.drop_drop, a2, c2]
/-- A proof is read. -/
theorem pp_reads {text s : List UInt8} (hd : Dec text true s) (h : Reads s) : PP text true (rdU s) (rdP s) := by
  obtain ⟨h1, h2, h3⟩ := of_reads h
  exact ⟨fun _ => ⟨h2, h3, by rw [← h1]; exact (hd.1 rfl).2⟩, fun h => by cases h⟩
theorem pp_fails {text s : List UInt8} (hd : Dec text true s) (h : ¬ Reads s) : PP text false [] [] :=
  pp_no hd fun _ u p hc hu hp => h (by
    have h1 := cutGo_three 0 s [] [] u p hc
    exact (reads_of (u := u) (p := p) (by unfold two0; simpa using h1) hu hp).1)
theorem pp_off {text s : List UInt8} (hd : Dec text false s) : PP text false [] [] := pp_no hd fun h => by cases h
end Go.Proofs.YtichajalinkcdaaGreatDoor
namespace Go.Proofs.YtichajalinkcdaaGreatDoor
open Go.RowKit
set_option linter.unusedVariables false

/-- The text of a proof. -/
def mkB (u p : ByteArray) : ByteArray := bt (mk u.data.toList p.data.toList)
theorem zero_cat (u p : ByteArray) : ((⟨#[0]⟩ : ByteArray) ++ u ++ ⟨#[0]⟩ ++ p).data.toList = two0 u.data.toList p.data.toList := by
  unfold two0
  rw [cat_list, cat_list, cat_list]
  simp
theorem zero_size (u p : ByteArray) : ((⟨#[0]⟩ : ByteArray) ++ u ++ ⟨#[0]⟩ ++ p).size = u.size + p.size + 2 := by
  rw [ByteArray.size_append, ByteArray.size_append, ByteArray.size_append, one_size]
  omega
theorem name_size {u : ByteArray} (h : nameB u.data.toList = true) : u.size ≤ 8 := by
  have h1 := (nameB_iff.1 h).2.2
  have hl : u.data.toList.length = u.size := by simp
  omega
theorem mkB_yes {u p : ByteArray} (hu : nameB u.data.toList = true) (hp : nameB p.data.toList = true) : encB ((⟨#[0]⟩ : ByteArray) ++ u ++ ⟨#[0]⟩ ++ p) = mkB u p := by
  have h1 := name_size hu
  have h2 := name_size hp
  rw [encB_yes (by rw [zero_size]; omega), zero_cat]
  unfold mkB
  rw [mk_yes hu hp]
theorem mkB_yes' {u p : ByteArray} (hu : nameB u.data.toList = true) (hp : nameB p.data.toList = true) : bt (enc ((⟨#[0]⟩ : ByteArray) ++ u ++ ⟨#[0]⟩ ++ p).data.toList) = mkB u p := by
  have h1 := name_size hu
  have h2 := name_size hp
  rw [← mkB_yes hu hp, encB_yes (by rw [zero_size]; omega)]
theorem mkB_no {u p : ByteArray} (h : (nameB u.data.toList && nameB p.data.toList) = false) : mkB u p = ⟨#[]⟩ := by
  unfold mkB
  rw [mk_no h]
  rfl
theorem mkB_le (u p : ByteArray) : (mkB u p).size ≤ 24 := by
  unfold mkB
  rw [bt_size]
  unfold mk
  split
  · rename_i h
    rw [Bool.and_eq_true] at h
    have h1 := name_size h.1
    have h2 := name_size h.2
    rw [enc_len, ← zero_cat]
    have hl : ∀ v : ByteArray, v.data.toList.length = v.size := fun v => by simp
    rw [hl, zero_size]
    omega
  · exact Nat.zero_le _

set_option maxHeartbeats 1000000 in
theorem imake (u p : ByteArray) (w : World) (hu : u.size ≤ 16777216) (hp : p.size ≤ 16777216) : Calls Tryz.prog 26 #[.string u, .string p] w (Says w (mkB u p)) := by
  cases hv : nameB u.data.toList with
  | false =>
    have HV := Lib.hid hv
    have HN := Lib.hid (mkB_no (u := u) (p := p) (by rw [hv]; rfl))
    clear hv
    go_enter Tryz.func26, Tryz.ntmps26
    go_wp2_with fail
    refine (impl_name u _ hu).mono ?_
    rintro e w1 ⟨rfl, hb⟩
    have HB := Lib.hid hb
    clear hb
    rw [HV.out]
    go_wp2
    go_ret
    exact ⟨by rw [HN.out]; rfl, HB.out⟩
  | true =>
    have HV := Lib.hid hv
    clear hv
    cases hx : nameB p.data.toList with
    | false =>
      have HX := Lib.hid hx
      have HN := Lib.hid (mkB_no (u := u) (p := p) (by rw [hx]; simp))
      clear hx
      go_enter Tryz.func26, Tryz.ntmps26
      go_wp2_with fail
      refine (impl_name u _ hu).mono ?_
      rintro e w1 ⟨rfl, hb⟩
      have HB := Lib.hid hb
      clear hb
      rw [HV.out]
      go_wp2_with fail
      refine (impl_name p _ hp).mono ?_
      rintro e w2 ⟨rfl, hb⟩
      have HB2 := Lib.hid (HB.out.trans (hb.mono HB.out.size))
      clear hb
      rw [HX.out]
      go_wp2
      go_ret
      exact ⟨by rw [HN.out]; rfl, HB2.out⟩
    | true =>
      have HX := Lib.hid hx
      have HN := Lib.hid (mkB_yes HV.out hx)
      clear hx
      go_enter Tryz.func26, Tryz.ntmps26
      go_wp2_with fail
      refine (impl_name u _ hu).mono ?_
      rintro e w1 ⟨rfl, hb⟩
      have HB := Lib.hid hb
      clear hb
      rw [HV.out]
      go_wp2_with fail
      refine (impl_name p _ hp).mono ?_
      rintro e w2 ⟨rfl, hb⟩
      have HB2 := Lib.hid (HB.out.trans (hb.mono HB.out.size))
      clear hb
      rw [HX.out]
      go_wp2_with fail
      refine (ienc _ _).mono ?_
      rintro e w3 ⟨rfl, hb⟩
      have HB3 := Lib.hid (HB2.out.trans (hb.mono HB2.out.size))
      clear hb
      rw [HN.out]
      go_wp2
      go_ret
      exact ⟨rfl, HB3.out⟩
set_option maxHeartbeats 1000000 in
theorem smake (u p : ByteArray) (w : World) (hu : u.size ≤ 16777216) (hp : p.size ≤ 16777216) : Calls Tryz.prog 68 #[.string u, .string p] w (Says w (mkB u p)) := by
  cases hv : nameB u.data.toList with
  | false =>
    have HV := Lib.hid hv
    have HN := Lib.hid (mkB_no (u := u) (p := p) (by rw [hv]; rfl))
    clear hv
    go_enter Tryz.func68, Tryz.ntmps68
    go_wp2_with fail
    refine (spec_name u _ hu).mono ?_
    rintro e w1 ⟨rfl, rfl⟩
    rw [HV.out]
    go_wp2
    go_ret
    exact ⟨by rw [HN.out]; rfl, Below.refl _ _⟩
  | true =>
    have HV := Lib.hid hv
    clear hv
    cases hx : nameB p.data.toList with
    | false =>
      have HX := Lib.hid hx
      have HN := Lib.hid (mkB_no (u := u) (p := p) (by rw [hx]; simp))
      clear hx
      go_enter Tryz.func68, Tryz.ntmps68
      go_wp2_with fail
      refine (spec_name u _ hu).mono ?_
      rintro e w1 ⟨rfl, rfl⟩
      rw [HV.out]
      go_wp2_with fail
      refine (spec_name p _ hp).mono ?_
      rintro e w2 ⟨rfl, rfl⟩
      rw [HX.out]
      go_wp2
      go_ret
      exact ⟨by rw [HN.out]; rfl, Below.refl _ _⟩
    | true =>
      have HX := Lib.hid hx
      have HN := Lib.hid (mkB_yes' HV.out hx)
      have hsz : ((⟨#[0]⟩ : ByteArray) ++ u ++ ⟨#[0]⟩ ++ p).size ≤ 16777216 := by rw [zero_size]; have := name_size HV.out; have := name_size hx; omega
      have HZ := Lib.hid hsz
      clear hx hsz
      go_enter Tryz.func68, Tryz.ntmps68
      go_wp2_with fail
      refine (spec_name u _ hu).mono ?_
      rintro e w1 ⟨rfl, rfl⟩
      rw [HV.out]
      go_wp2_with fail
      refine (spec_name p _ hp).mono ?_
      rintro e w2 ⟨rfl, rfl⟩
      rw [HX.out]
      go_wp2_with fail
      refine (encode_any _ _ HZ.out).mono ?_
      rintro e w3 ⟨rfl, hb⟩
      have HB3 := Lib.hid hb
      clear hb
      rw [HN.out]
      go_wp2
      go_ret
      exact ⟨rfl, HB3.out⟩
end Go.Proofs.YtichajalinkcdaaGreatDoor
