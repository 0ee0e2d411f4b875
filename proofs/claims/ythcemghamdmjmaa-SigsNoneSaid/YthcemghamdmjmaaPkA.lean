/-
  BlkM, WirM, WirS, StpA, in one text.
-/
import Derived.Below
import Derived.Laws.Tables
import Derived.Laws.Rows
import Derived.Laws.Bits64
import Derived.Laws.BitsLemmas
import Derived.Laws.IdiomCopy
import Derived.Deep.MidRow
import Derived.Laws.ResultCell
import Derived.Tactics
import Derived.Deep.AppendSrc
import Derived.Laws.AppendOwn
import Derived.Lib.Hide
import Derived.Test.YthcemghamdmjmaaChecked
import Derived.LaidEqlPtr
import Derived.WalkKit
import Derived.WalkSpells
import Derived.WalkLawsBesides
import Derived.BigQuiet
import Derived.BigRegion
import Derived.RegionTactic
import Derived.ChangeAlike
import Derived.Deep.QuietTactic
import Derived.StillTailTactics
import Derived.Deep.RegionHeld3
import Derived.Deep.DeepCutAuto
import Derived.Deep.DrawnRows
import Derived.IntWalk
namespace Go.Proofs.Ythcemghamdmjmaa
namespace BlkM
open Go Go.RowKit

/-! ### Words -/
/-- A sum of words. -/
def ad (a b : Int) : Int := IntKind.u32.wrap (a + b)
/-- Bit by bit. -/
def xo (a b : Int) : Int := bits .xor .u32 a b
def oo (a b : Int) : Int := bits .or .u32 a b
/-- A word, turned. -/
def rt (n : Nat) (x : Int) : Int := bits .or .u32 (x / 2 ^ n) (IntKind.u32.wrap (x * 2 ^ (32 - n)))
theorem or_comm (k : IntKind) (a b : Int) : bits .or k a b = bits .or k b a := by
  show k.wrap ((BitVec.ofInt k.bits a ||| BitVec.ofInt k.bits b).toNat : Int) = k.wrap ((BitVec.ofInt k.bits b ||| BitVec.ofInt k.bits a).toNat : Int)
  rw [BitVec.or_comm]
theorem ad_assoc (a b x : Int) : ad (ad a b) x = ad a (ad b x) := by
  unfold ad
  rw [IntKind.wrap_u32, IntKind.wrap_u32, IntKind.wrap_u32, IntKind.wrap_u32]
  omega
theorem toNat_wrap (z : BitVec 32) : IntKind.u32.wrap (z.toNat : Int) = (z.toNat : Int) := by
  rw [IntKind.wrap_u32]
  have := z.isLt
  omega
theorem ofInt_toNat (z : BitVec 32) : BitVec.ofInt 32 (z.toNat : Int) = z := by
  rw [BitVec.ofInt_natCast, BitVec.ofNat_toNat, BitVec.setWidth_eq]
theorem xo_bv (a b : Int) : xo a b = ((BitVec.ofInt 32 a ^^^ BitVec.ofInt 32 b).toNat : Int) := by
  show IntKind.u32.wrap ((BitVec.ofInt 32 a ^^^ BitVec.ofInt 32 b).toNat : Int) = _
  rw [toNat_wrap]
theorem oo_bv (a b : Int) : oo a b = ((BitVec.ofInt 32 a ||| BitVec.ofInt 32 b).toNat : Int) := by
  show IntKind.u32.wrap ((BitVec.ofInt 32 a ||| BitVec.ofInt 32 b).toNat : Int) = _
  rw [toNat_wrap]
theorem xo_assoc (a b c : Int) : xo (xo a b) c = xo a (xo b c) := by
  rw [xo_bv, xo_bv a b, xo_bv a, xo_bv b c, ofInt_toNat, ofInt_toNat, BitVec.xor_assoc]
theorem zero_oo (a : Int) (h : 0 ≤ a) (k : a < 4294967296) : oo 0 a = a := by
  rw [oo_bv, show BitVec.ofInt 32 0 = 0#32 from rfl, BitVec.zero_or]
  obtain ⟨n, rfl⟩ := Int.eq_ofNat_of_zero_le h
  show ((BitVec.ofInt 32 (n : Int)).toNat : Int) = (n : Int)
  rw [BitVec.ofInt_natCast, BitVec.toNat_ofNat]
  omega

/-! ### The hash -/
def ini : List Int := [1779033703, 3144134277, 1013904242, 2773480762, 1359893119, 2600822924, 528734635, 1541459225]
def table : List (List Nat) := [[0, 1, 2, 3, 4, 5, 6, 7, 8, 9, 10, 11, 12, 13, 14, 15], [14, 10, 4, 8, 9, 15, 13, 6, 1, 12, 0, 2, 11, 7, 5, 3], [11, 8, 12, 0, 5, 2, 15, 13, 10, 14, 3, 6, 7, 1, 9, 4], [7, 9, 3, 1, 13, 12, 11, 14, 2, 6, 5, 10, 4, 0, 15, 8], [9, 0, 5, 7, 2, 4, 10, 15, 14, 1, 11, 12, 6, 8, 3, 13], [2, 12, 6, 10, 0, 11, 8, 3, 4, 13, 7, 5, 15, 14, 1, 9], [12, 5, 1, 15, 14, 13, 4, 10, 0, 7, 6, 3, 9, 2, 8, 11], [13, 11, 7, 14, 12, 1, 3, 9, 5, 0, 15, 4, 8, 6, 2, 10], [6, 15, 14, 9, 11, 3, 0, 8, 12, 2, 13, 7, 1, 4, 10, 5], [10, 2, 8, 4, 7, 6, 1, 5, 15, 11, 9, 14, 3, 12, 13, 0]]
/-- Mixing, of the words at four places. -/
def mixL (v : List Int) (a b c d : Nat) (x y : Int) : List Int :=
  let A := v.getD a 0
  let B := v.getD b 0
  let C := v.getD c 0
  let D := v.getD d 0
  let a1 := ad A (ad B x)
  let d1 := rt 16 (xo D a1)
  let c1 := ad C d1
  let b1 := rt 12 (xo B c1)
  let a2 := ad a1 (ad b1 y)
  let d2 := rt 8 (xo d1 a2)
  let c2 := ad c1 d2
  let b2 := rt 7 (xo b1 c2)
  (((((((v.set a a1).set d d1).set c c1).set b b1).set a a2).set d d2).set c c2).set b b2
theorem mixL_len (v : List Int) (a b c d : Nat) (x y : Int) : (mixL v a b c d x y).length = v.length := by
  unfold mixL; simp only [List.length_set]
/-- The eight mixings of a round, with the words of a row: the first n of them. -/
def place : Nat → Nat × Nat × Nat × Nat
  | 0 => (0, 4, 8, 12) | 1 => (1, 5, 9, 13) | 2 => (2, 6, 10, 14) | 3 => (3, 7, 11, 15)
  | 4 => (0, 5, 10, 15) | 5 => (1, 6, 11, 12) | 6 => (2, 7, 8, 13) | _ => (3, 4, 9, 14)
def part (v s : List Int) : Nat → List Int
  | 0 => v
  | n + 1 => mixL (part v s n) (place n).1 (place n).2.1 (place n).2.2.1 (place n).2.2.2 (s.getD (2 * n) 0) (s.getD (2 * n + 1) 0)
def roundL (v s : List Int) : List Int := part v s 8
theorem part_len (v s : List Int) : ∀ n, (part v s n).length = v.length
  | 0 => rfl
  | n + 1 => by rw [part, mixL_len, part_len v s n]
theorem roundL_len (v s : List Int) : (roundL v s).length = v.length := part_len v s 8
/-- The words of a row. -/
def sched (m : List Int) (r : Nat) : List Int := (table.getD r []).map fun i => m.getD i 0
/-- The first n rounds. -/
def roundsL (v m : List Int) : Nat → List Int
  | 0 => v
  | n + 1 => roundL (roundsL v m n) (sched m n)
theorem roundsL_len (v m : List Int) : ∀ n, (roundsL v m n).length = v.length
  | 0 => rfl
  | n + 1 => by rw [roundsL, roundL_len, roundsL_len v m n]
/-- The words of a block. -/
def wordOf (b : List Int) (i : Nat) : Int := oo (oo (oo (b.getD (4 * i) 0) (IntKind.u32.wrap (b.getD (4 * i + 1) 0 * 2 ^ 8))) (IntKind.u32.wrap (b.getD (4 * i + 2) 0 * 2 ^ 16))) (IntKind.u32.wrap (b.getD (4 * i + 3) 0 * 2 ^ 24))
def wordsL (b : List Int) : List Int := (List.range 16).map (wordOf b)
theorem wordsL_len (b : List Int) : (wordsL b).length = 16 := by simp [wordsL]
/-- The words v, when a block begins. -/
def start (h : List Int) (n last : Int) : List Int :=
  (((h ++ ini).set 12 (xo 1359893119 (IntKind.u32.wrap n))).set 13 (xo 2600822924 (IntKind.u32.wrap (n / 2 ^ 32)))).set 14 (xo 528734635 last)
theorem start_len (h : List Int) (n last : Int) (hh : h.length = 8) : (start h n last).length = 16 := by simp [start, hh, ini]
/-- A block, with the number of bytes up to and with it. -/
def comp (h b : List Int) (n last : Int) : List Int :=
  let v := roundsL (start h n last) (wordsL b) 10
  (List.range 8).map fun i => xo (h.getD i 0) (xo (v.getD i 0) (v.getD (i + 8) 0))
theorem comp_len (h b : List Int) (n last : Int) : (comp h b n last).length = 8 := by simp [comp]
def h0 : List Int := ini.set 0 (xo 1779033703 16842784)
/-- H behind the first k blocks. -/
def hs (l : List Int) : Nat → List Int
  | 0 => h0
  | k + 1 => comp (hs l k) ((l.drop (64 * k)).take 64) ((64 * (k + 1) : Nat) : Int) 0
theorem hs_len (l : List Int) : ∀ k, (hs l k).length = 8
  | 0 => rfl
  | k + 1 => by rw [hs, comp_len]
theorem hs_append (l m : List Int) : ∀ k, 64 * k ≤ l.length → hs (l ++ m) k = hs l k
  | 0, _ => rfl
  | k + 1, h => by
    rw [hs, hs, hs_append l m k (by omega), List.drop_append_of_le_length (by omega), List.take_append_of_le_length (by rw [List.length_drop]; omega)]
/-- Bytes, padded to so many. -/
def pad (n : Nat) (l : List Int) : List Int := l ++ List.replicate (n - l.length) 0
theorem pad_len (n : Nat) (l : List Int) (h : l.length ≤ n) : (pad n l).length = n := by simp [pad]; omega
/-- How many blocks lie before the last one. -/
def before (n : Nat) : Nat := (n - 1) / 64
def fin (l : List Int) : List Int := comp (hs l (before l.length)) (pad 64 (l.drop (64 * before l.length))) (l.length : Int) 4294967295
theorem fin_len (l : List Int) : (fin l).length = 8 := comp_len _ _ _ _
/-- The bytes of words. -/
def byteOf (h : List Int) (i : Nat) : Int := IntKind.u8.wrap (h.getD (i / 4) 0 / 2 ^ (8 * (i % 4)))
def out (h : List Int) : List Int := (List.range 32).map (byteOf h)
theorem out_len (h : List Int) : (out h).length = 32 := by simp [out]
/-- The hash. -/
def sumL (l : List Int) : List Int := out (fin l)
theorem sumL_len (l : List Int) : (sumL l).length = 32 := out_len _
theorem byte_range (h : List Int) (i : Nat) : 0 ≤ byteOf h i ∧ byteOf h i < 256 := by
  unfold byteOf
  generalize h.getD (i / 4) 0 / 2 ^ (8 * (i % 4)) = z
  simp [IntKind.wrap, IntKind.bits, IntKind.signed]
  omega
theorem sumL_range (l : List Int) : ∀ x ∈ sumL l, 0 ≤ x ∧ x < 256 := by
  intro x hx
  unfold sumL out at hx
  obtain ⟨i, _, rfl⟩ := List.mem_map.1 hx
  exact byte_range _ _

/-! ### Cells -/
def w32 (l : List Int) : List Value := l.map (Value.int .u32)
def b8 (l : List Int) : List Value := l.map (Value.int .u8)
theorem w32_len (l : List Int) : (w32 l).length = l.length := by simp [w32]
theorem b8_len (l : List Int) : (b8 l).length = l.length := by simp [b8]
theorem w32_get (l : List Int) (i : Nat) (h : i < l.length) : (w32 l)[i]? = some (.int .u32 (l.getD i 0)) := by
  simp [w32, List.getElem?_map, List.getElem?_eq_getElem h, List.getD]
theorem b8_get (l : List Int) (i : Nat) (h : i < l.length) : (b8 l)[i]? = some (.int .u8 (l.getD i 0)) := by
  simp [b8, List.getElem?_map, List.getElem?_eq_getElem h, List.getD]
theorem w32_set (l : List Int) (i : Nat) (x : Int) : (w32 l).set i (.int .u32 x) = w32 (l.set i x) := by simp [w32, List.map_set]
theorem b8_set (l : List Int) (i : Nat) (x : Int) : (b8 l).set i (.int .u8 x) = b8 (l.set i x) := by simp [b8, List.map_set]
theorem w32_append (l m : List Int) : w32 (l ++ m) = w32 l ++ w32 m := by simp [w32]

/-- A block of cells lies in memory. -/
def At (w : World) (V : Nat) (T : TypeId) (cs : List Value) : Prop := w.heap[V]? = some (.cells cs.toArray T (0, 0))
theorem At.cell {w : World} {V : Nat} {T : TypeId} {cs : List Value} (h : At w V T cs) (i : Nat) : w.cell? ⟨V, i, none⟩ = cs[i]? := by
  unfold At at h
  simp [World.cell?, h]
theorem At.frozen {w : World} {V : Nat} {T : TypeId} {cs : List Value} (h : At w V T cs) (i : Nat) : w.frozen? ⟨V, i, none⟩ = false := by
  unfold At at h
  simp [World.frozen?, h]
theorem At.lt {w : World} {V : Nat} {T : TypeId} {cs : List Value} (h : At w V T cs) : V < w.heap.size := (Array.getElem?_eq_some_iff.1 h).1
theorem At.below {w w' : World} {V B : Nat} {T : TypeId} {cs : List Value} (h : At w V T cs) (hb : Below B w w') (hv : V < B) : At w' V T cs := (hb.block V hv).trans h
theorem At.new (w : World) (T : TypeId) (cs : List Value) : At (w.alloc (.cells cs.toArray T)) w.heap.size T cs := by
  show (w.heap.push _)[w.heap.size]? = _
  simp
theorem At.other {w : World} {V X : Nat} {T : TypeId} {cs : List Value} (h : At w V T cs) (c : Array Value) (hv : V ≠ X) : At (w.setRow X c) V T cs := (setRow_other w X V c hv).trans h
theorem At.setCell {w : World} {V : Nat} {T : TypeId} {cs : List Value} (h : At w V T cs) (i : Nat) (v : Value) : At (w.setCell ⟨V, i, none⟩ v) V T (cs.set i v) := by
  unfold At at *
  rw [heap_setCell_same w V i _ T v h]
  simp
theorem At.setCell_other {w : World} {V X : Nat} {T : TypeId} {cs : List Value} (h : At w V T cs) (hv : V ≠ X) (i : Nat) (v : Value) : At (w.setCell ⟨X, i, none⟩ v) V T cs :=
  (heap_setCell_other w ⟨X, i, none⟩ V v hv).trans h
theorem At.put {w : World} {V : Nat} {T : TypeId} {cs : List Value} (h : At w V T cs) (c : List Value) : At (w.setRow V c.toArray) V T c := setRow_heap w V _ _ T _ h

/-- The world is as it was below its end, but for the block V, which is the row cs now. -/
def Chg (w : World) (V : Nat) (cs : List Value) (w' : World) : Prop := Below w.heap.size (w.setRow V cs.toArray) w'
theorem setRow_self {w : World} {V : Nat} {T : TypeId} {cs : List Value} (h : At w V T cs) : w.setRow V cs.toArray = w := by
  have hlt := h.lt
  have hv : w.heap[V] = .cells cs.toArray T (0, 0) := (Array.getElem?_eq_some_iff.1 h).2
  unfold World.setRow
  obtain ⟨hp, tp, dr, os, ou⟩ := w
  congr 1
  apply Array.ext
  · simp
  · intro k h1 h2
    simp only [Array.getElem_modify]
    split
    · rename_i hk; subst hk; simp at hv; simp [hv]
    · rfl
theorem Below.setRow {B : Nat} {a w : World} (h : Below B a w) (g : Nat) (cs : Array Value) : Below B (a.setRow g cs) (w.setRow g cs) :=
  ⟨h.os, h.tape, h.output, by simpa using h.size, fun k hk => by
    unfold World.setRow
    simp only [Array.getElem?_modify]
    rw [h.block k hk]⟩
theorem Chg.at {w w' : World} {V : Nat} {T : TypeId} {cs c0 : List Value} (h : Chg w V cs w') (h0 : At w V T c0) : At w' V T cs :=
  (h0.put cs).below h h0.lt
theorem Chg.self {w w' : World} {V : Nat} {T : TypeId} {cs : List Value} (h0 : At w V T cs) (hb : Below w.heap.size w w') : Chg w V cs w' := by
  unfold Chg
  rw [setRow_self h0]
  exact hb
theorem Chg.size {w w' : World} {V : Nat} {cs : List Value} (h : Chg w V cs w') : w.heap.size ≤ w'.heap.size := by
  have := Below.size h
  simpa using this
theorem Chg.trans {w w1 w2 : World} {V : Nat} {c1 c2 : List Value} (h : Chg w V c1 w1) (k : Chg w1 V c2 w2) : Chg w V c2 w2 := by
  unfold Chg at *
  have := Below.setRow h V c2.toArray
  rw [setRow_setRow] at this
  exact Below.trans this (Below.mono k (by have := h.size; simpa using this))
theorem Chg.below {w w1 w2 : World} {V B : Nat} {c1 : List Value} (h : Chg w V c1 w1) (k : Below B w1 w2) (hB : w.heap.size ≤ B) : Chg w V c1 w2 := Below.trans h (k.mono hB)
theorem Chg.other {w w1 : World} {V X : Nat} {T : TypeId} {c1 cs : List Value} (h : Chg w V c1 w1) (k : At w X T cs) (hx : X ≠ V) : At w1 X T cs := (k.other c1.toArray hx).below h k.lt
theorem Chg.setCell {w w1 : World} {V : Nat} {T : TypeId} {cs c0 : List Value} (h : Chg w V cs w1) (h0 : At w V T c0) (i : Nat) (v : Value) : Chg w V (cs.set i v) (w1.setCell ⟨V, i, none⟩ v) := by
  have h1 := h.at h0
  unfold Chg at *
  rw [setCell_eq_setRow w1 V i _ T (0, 0) v h1]
  have := Below.setRow h V (cs.set i v).toArray
  rw [setRow_setRow] at this
  simpa using this
theorem Chg.drew {w w1 : World} {V : Nat} {cs : List Value} (h : Chg w V cs w1) : Chg w V cs w1.drew := Below.drew h
theorem Chg.below_of {w w1 : World} {V B : Nat} {cs : List Value} (h : Chg w V cs w1) (hV : B ≤ V) (hB : B ≤ w.heap.size) : Below B w w1 := by
  have h1 : Below B (w.setRow V cs.toArray) w1 := h.mono hB
  have h2 : Below B w (w.setRow V cs.toArray) := ⟨rfl, rfl, rfl, by simp, fun k hk => setRow_other w V k _ (by omega)⟩
  exact h2.trans h1
theorem oneCells_w32 (l : List Int) : (w32 l).toArray.all (·.oneCell') = true := by simp [w32, Value.oneCell']
theorem oneCells_b8 (l : List Int) : (b8 l).toArray.all (·.oneCell') = true := by simp [b8, Value.oneCell']
/-- A whole row is read. -/
theorem loadRow {P : Program} {w : World} {g : Nat} {T : TypeId} {cs : List Value} (hg : At w g T cs) (ty : TypeId) (d : TypeDesc) (n : Nat) (hu : P.underlying ty = some d) (hd : (match d with | .struct _ | .array _ _ => true | _ => false) = true) (hi : (P.info? ty).map (·.size) = some n) (hn : cs.length = n) :
    (Instr.loadAt ty (.pointer (some ⟨g, 0, none⟩))).run P w = .ok (.agg cs.toArray) w := by
  simp only [Instr.loadAt, Instr.sureAddr, Sem.run_bind, Sem.run_pure, Result.andThen_ok]
  exact run_loadVar_row w g T ty cs.toArray (0, 0) d hg hu hd (by rw [hi, ← hn]; simp)
/-- A whole row is written. -/
theorem storeRow {P : Program} {w : World} {g : Nat} {T : TypeId} {cs : List Value} (hg : At w g T cs) (ty : TypeId) (c : List Value) (n : Nat) (hi : (P.info? ty).map (·.size) = some n) (hn : cs.length = n) (hc : c.length = n) (h1 : c.toArray.all (·.oneCell') = true) :
    (Instr.storeAt ty (.pointer (some ⟨g, 0, none⟩)) (.agg c.toArray)).run P w = .ok () (w.setRow g c.toArray) := by
  simp only [Instr.storeAt, Instr.sureAddr, Sem.run_bind, Sem.run_pure, Result.andThen_ok]
  exact run_storeVar_row w g T ty cs.toArray c.toArray hg (by rw [hi, ← hc]; simp) (by simp; omega) h1
/-- What a func returns that keeps its result in a row. -/
theorem retRow {P : Program} {w : World} {g : Nat} {T : TypeId} {cs : List Value} (hg : At w g T cs) {fn : Func} {p : Tmp} {ty : TypeId} (h : fn.results = #[.cell p ty]) (tmps : Array Value) (hp : tmps.getD p undef = .pointer (some ⟨g, 0, none⟩)) (d : TypeDesc) (n : Nat) (hu : P.underlying ty = some d) (hd : (match d with | .struct _ | .array _ _ => true | _ => false) = true) (hi : (P.info? ty).map (·.size) = some n) (hn : cs.length = n) :
    (results fn tmps).run P w = .ok (.agg cs.toArray) w :=
  results_cell_row h tmps w g T cs.toArray (0, 0) d hp hg hu hd (by rw [hi, ← hn]; simp)
theorem At.alloc {w : World} {V : Nat} {T : TypeId} {cs : List Value} (h : At w V T cs) (o : Obj) : At (w.alloc o) V T cs := (Below.heap_alloc w o V h.lt).trans h
theorem Below.setRowOwn {B : Nat} {a w : World} (h : Below B a w) {g : Nat} (hg : B ≤ g) (cs : Array Value) : Below B a (w.setRow g cs) :=
  h.trans ⟨rfl, rfl, rfl, by simp, fun k hk => setRow_other w g k _ (by omega)⟩
theorem zeros32 (n : Nat) : w32 (List.replicate n 0) = List.replicate n (Value.int .u32 0) := by simp [w32]
theorem zeros8 (n : Nat) : b8 (List.replicate n 0) = List.replicate n (Value.int .u8 0) := by simp [b8]
/-- The steps of a walk that read and write a whole row. -/
theorem stepLoad {P : Program} {ops : Array Oper} {rest : List Oper} {o : Oper} {a : Act} {w : World} {Q : Exit → Act → World → Prop} (hgd : o.guard = none) (ty : TypeId) (x : Operand) (ho : o.op = .load ty x)
    (g : Nat) (hx : a.eval x = .pointer (some ⟨g, 0, none⟩)) {T : TypeId} {cs : List Value} (hg : At w g T cs) (d : TypeDesc) (n : Nat)
    (hu : P.underlying ty = some d) (hd : (match d with | .struct _ | .array _ _ => true | _ => false) = true) (hi : (P.info? ty).map (·.size) = some n) (hn : cs.length = n)
    (h : wpList P ops Q rest (a.put o.dst (.agg cs.toArray)) w) : wpList P ops Q (o :: rest) a w :=
  wpList_load_row hgd ty x ho g hx T cs.toArray (0, 0) d hg hu hd (by rw [hi, ← hn]; simp) h
theorem stepStore {P : Program} {ops : Array Oper} {rest : List Oper} {o : Oper} {a : Act} {w : World} {Q : Exit → Act → World → Prop} (hgd : o.guard = none) (ty : TypeId) (x y : Operand) (ho : o.op = .store ty x y)
    (g : Nat) (c : List Value) (hx : a.eval x = .pointer (some ⟨g, 0, none⟩)) (hy : a.eval y = .agg c.toArray) {T : TypeId} {cs : List Value} (hg : At w g T cs) (n : Nat)
    (hi : (P.info? ty).map (·.size) = some n) (hn : cs.length = n) (hc : c.length = n) (h1 : c.toArray.all (·.oneCell') = true)
    (h : wpList P ops Q rest (a.put o.dst undef) (w.setRow g c.toArray)) : wpList P ops Q (o :: rest) a w :=
  wpList_store_row hgd ty x y ho g c.toArray hx hy T cs.toArray hg (by rw [hi, ← hc]; simp) (by simp; omega) h1 h
end BlkM
end Go.Proofs.Ythcemghamdmjmaa

namespace Go.Proofs.Ythcemghamdmjmaa
namespace WirM
open Go Go.RowKit BlkM

/-! ### Frames -/
/-- Of the blocks that stood, only those in X may have changed. -/
structure Fr (X : Nat → Prop) (w w' : World) : Prop where
  os : w'.os = w.os
  tape : w'.tape = w.tape
  output : w'.output = w.output
  size : w.heap.size ≤ w'.heap.size
  block : ∀ k, k < w.heap.size → ¬ X k → w'.heap[k]? = w.heap[k]?
theorem Fr.refl (X : Nat → Prop) (w : World) : Fr X w w := ⟨rfl, rfl, rfl, Nat.le_refl _, fun _ _ _ => rfl⟩
theorem Fr.trans {X : Nat → Prop} {a b c : World} (h : Fr X a b) (k : Fr X b c) : Fr X a c :=
  ⟨k.os.trans h.os, k.tape.trans h.tape, k.output.trans h.output, Nat.le_trans h.size k.size, fun i hi hx => (k.block i (Nat.lt_of_lt_of_le hi h.size) hx).trans (h.block i hi hx)⟩
/-- Two steps, the second of which may change blocks that the first made. -/
theorem Fr.trans' {X Y : Nat → Prop} {a b c : World} (h : Fr X a b) (k : Fr Y b c) (hY : ∀ i, i < a.heap.size → Y i → X i) : Fr X a c :=
  ⟨k.os.trans h.os, k.tape.trans h.tape, k.output.trans h.output, Nat.le_trans h.size k.size, fun i hi hx => (k.block i (Nat.lt_of_lt_of_le hi h.size) (fun hy => hx (hY i hi hy))).trans (h.block i hi hx)⟩
theorem Fr.mono {X Y : Nat → Prop} {w w' : World} (h : Fr X w w') (hXY : ∀ i, i < w.heap.size → X i → Y i) : Fr Y w w' :=
  ⟨h.os, h.tape, h.output, h.size, fun k hk hy => h.block k hk (fun hx => hy (hXY k hk hx))⟩
theorem Fr.of_below {X : Nat → Prop} {w w' : World} (h : Below w.heap.size w w') : Fr X w w' :=
  ⟨h.os, h.tape, h.output, h.size, fun k hk _ => h.block k hk⟩
theorem Fr.below {X : Nat → Prop} {w w' : World} {B : Nat} (h : Fr X w w') (hB : B ≤ w.heap.size) (hX : ∀ k, k < B → ¬ X k) : Below B w w' :=
  ⟨h.os, h.tape, h.output, h.size, fun k hk => h.block k (Nat.lt_of_lt_of_le hk hB) (hX k hk)⟩
theorem Fr.of_grown {w w' : World} {row : Option Nat} (h : w.grownBy w' row) : Fr (fun k => row = some k) w w' :=
  ⟨h.os, h.tape, h.output, h.size, fun k hk hx => h.block k hk (fun e => hx e.symm)⟩
theorem Fr.setCell {X : Nat → Prop} {w w' : World} (h : Fr X w w') (V i : Nat) (v : Value) (hV : V < w.heap.size → X V) : Fr X w (w'.setCell ⟨V, i, none⟩ v) :=
  ⟨h.os, h.tape, h.output, by simpa using h.size, fun k hk hx => by
    rw [heap_setCell_other w' ⟨V, i, none⟩ k v (fun e => by subst e; exact hx (hV hk))]
    exact h.block k hk hx⟩
theorem Fr.alloc {X : Nat → Prop} {w w' : World} (h : Fr X w w') (o : Obj) : Fr X w (w'.alloc o) :=
  ⟨h.os, h.tape, h.output, by simp; have := h.size; omega, fun k hk hx => by
    rw [Below.heap_alloc w' o k (Nat.lt_of_lt_of_le hk h.size)]
    exact h.block k hk hx⟩
theorem Fr.drew {X : Nat → Prop} {w w' : World} (h : Fr X w w') : Fr X w w'.drew := ⟨h.os, h.tape, h.output, h.size, h.block⟩
theorem At.fr {X : Nat → Prop} {w w' : World} {V : Nat} {T : TypeId} {cs : List Value} (h : At w V T cs) (hf : Fr X w w') (hV : ¬ X V) : At w' V T cs := (hf.block V h.lt hV).trans h
theorem Fr.cell {X : Nat → Prop} {w w' : World} (h : Fr X w w') {p : Addr} (hp : p.block < w.heap.size) (hX : ¬ X p.block) : w'.cell? p = w.cell? p := World.cell?_of_block (h.block p.block hp hX)
theorem Fr.frozen {X : Nat → Prop} {w w' : World} (h : Fr X w w') {p : Addr} (hp : p.block < w.heap.size) (hX : ¬ X p.block) : w'.frozen? p = w.frozen? p := World.frozen?_of_block (h.block p.block hp hX)

/-! ### Bytes that are read -/
/-- A slice that reads as these bytes. -/
def BIn (w : World) (v : Value) (zs : List Int) : Prop := ∃ a cap, v = .slice a zs.length cap ∧ zs.length ≤ cap ∧ (zs ≠ [] → ∃ B o, a = some ⟨B, o, none⟩ ∧ B < w.heap.size ∧ ∀ i, i < zs.length → w.cell? ⟨B, o + i, none⟩ = some (.int .u8 (zs.getD i 0)))
theorem BIn.nil (w : World) : BIn w (.slice none 0 0) [] := ⟨none, 0, rfl, Nat.le_refl _, fun h => absurd rfl h⟩
/-- Not in a block of X. -/
def Off (X : Nat → Prop) (v : Value) : Prop := ∀ k, v.ownBlock = some k → ¬ X k
theorem BIn.fr {X : Nat → Prop} {w w' : World} {v : Value} {zs : List Int} (h : BIn w v zs) (hf : Fr X w w') (ho : Off X v) : BIn w' v zs := by
  obtain ⟨a, cap, rfl, hc, hz⟩ := h
  refine ⟨a, cap, rfl, hc, fun hne => ?_⟩
  obtain ⟨B, o, rfl, hB, hcell⟩ := hz hne
  exact ⟨B, o, rfl, Nat.lt_of_lt_of_le hB hf.size, fun i hi => (hf.cell hB (ho B rfl)).trans (hcell i hi)⟩
theorem BIn.below {w w' : World} {v : Value} {zs : List Int} (h : BIn w v zs) (hb : Below w.heap.size w w') : BIn w' v zs := h.fr (X := fun _ => False) (Fr.of_below hb) (fun _ _ h => h)
theorem BIn.new (u : World) (T : TypeId) (cs : List Int) (n c : Nat) (fr : Nat × Nat) (hn : n ≤ cs.length) (hc : n ≤ c) : BIn (u.alloc (.cells (b8 cs).toArray T fr)) (.slice (some ⟨u.heap.size, 0, none⟩) n c) (cs.take n) := by
  have hl : (cs.take n).length = n := by simp; omega
  refine ⟨_, c, by rw [hl], by omega, fun _ => ⟨u.heap.size, 0, rfl, by simp, fun i hi => ?_⟩⟩
  have h1 : (u.alloc (.cells (b8 cs).toArray T fr)).heap[u.heap.size]? = some (.cells (b8 cs).toArray T fr) := by
    show (u.heap.push _)[u.heap.size]? = _
    simp
  have h2 := b8_get cs i (by omega)
  simp only [World.cell?, h1, Nat.zero_add]
  have hin : i < n := by omega
  have hg : (cs.take n).getD i 0 = cs.getD i 0 := by simp [List.getD, hin]
  rw [hg]
  simpa using h2
theorem one_b8 (zs : List Int) : ∀ u ∈ b8 zs, u.oneCell' = true := fun u hu => by
  obtain ⟨_, _, rfl⟩ := List.mem_map.1 hu
  rfl
theorem BIn.src {P : Program} {w : World} {v : Value} {zs : List Int} {tx e' : TypeId} (h : BIn w v zs) (hk : P.underlying tx = some (.slice e')) : Src P 1 tx v zs.length (b8 zs) w := by
  obtain ⟨a, cap, rfl, _, hz⟩ := h
  by_cases hne : zs = []
  · subst hne
    cases a with
    | none => exact Src.ofNil w hk cap
    | some a => exact Src.ofSlice w hk a 0 cap [] (by simp) (fun j u hj => by simp at hj) (fun _ h => by cases h)
  · obtain ⟨B, o, rfl, hB, hcell⟩ := hz hne
    refine Src.ofSlice w hk _ _ cap (b8 zs) (by simp [b8_len]) (fun j u hj => ?_) (one_b8 zs)
    have hjl : j < zs.length := by
      have := (List.getElem?_eq_some_iff.1 hj).1
      rwa [b8_len] at this
    rw [b8_get zs j hjl] at hj
    rw [Addr.add_lit, hcell j hjl]
    exact hj

/-! ### Slices of the call's own, and append -/
/-- A block of cells reads as these bytes, from its head on, and may be appended to. -/
def Own (w : World) (T : TypeId) (v : Value) (zs : List Int) : Prop := w.ownsRow 0 T 1 v zs.length (b8 zs)
theorem Own.nil (w : World) (T : TypeId) : Own w T (.slice none 0 0) [] := World.ownsRow_nil w 0 T 1
theorem Own.lt {w : World} {T : TypeId} {v : Value} {zs : List Int} (h : Own w T v zs) : ∀ k, v.ownBlock = some k → k < w.heap.size := fun k hk => (World.ownsRow.lt h k hk).2
theorem Own.fr {X : Nat → Prop} {w w' : World} {T : TypeId} {v : Value} {zs : List Int} (h : Own w T v zs) (hf : Fr X w w') (ho : Off X v) : Own w' T v zs := by
  obtain ⟨hl, h | ⟨g, cap, cur, rfl, hb, hg, h1, h2, h3, h4⟩⟩ := h
  · exact ⟨hl, .inl h⟩
  · exact ⟨hl, .inr ⟨g, cap, cur, rfl, hb, (hf.block g (Array.getElem?_eq_some_iff.1 hg).1 (ho g rfl)).trans hg, h1, h2, h3, h4⟩⟩
theorem Own.bin {w : World} {T : TypeId} {v : Value} {zs : List Int} (h : Own w T v zs) : BIn w v zs := by
  have hlt := h.lt
  obtain ⟨hl, ⟨rfl, hz⟩ | ⟨g, cap, cur, rfl, hb, hg, h1, h2, h3, h4⟩⟩ := h
  · exact ⟨none, 0, by rw [hz], by omega, fun hne => absurd (List.eq_nil_of_length_eq_zero hz) hne⟩
  · refine ⟨_, cap, rfl, h1, fun _ => ⟨g, 0, rfl, hlt g rfl, fun i hi => ?_⟩⟩
    have h5 := b8_get zs i hi
    rw [← h4, List.getElem?_take, if_pos (by omega)] at h5
    simp only [World.cell?, hg, Nat.zero_add]
    simpa using h5
/-- A slice's block is the old one's, or new. -/
def NewOr (w : World) (v v' : Value) : Prop := ∀ k, v'.ownBlock = some k → v.ownBlock = some k ∨ w.heap.size ≤ k
theorem NewOr.refl (w : World) (v : Value) : NewOr w v v := fun _ h => .inl h
theorem putL_take {α : Type} (vs cs : List α) (o : Nat) (h : o + vs.length ≤ cs.length) : (cs.take o ++ (vs ++ cs.drop (o + vs.length))).take (o + vs.length) = cs.take o ++ vs := by
  rw [← List.append_assoc, List.take_left' (by simp; omega)]
theorem heap_setCells_one (V : Nat) (T : TypeId) : ∀ (vs : List Value) (o : Nat) (cs : List Value) (w : World), w.heap[V]? = some (.cells cs.toArray T (0, 0)) → o + vs.length ≤ cs.length →
    (w.setCells V o vs).heap[V]? = some (.cells (cs.take o ++ (vs ++ cs.drop (o + vs.length))).toArray T (0, 0))
  | [], o, cs, w, h, _ => by simpa [World.setCells] using h
  | v :: r, o, cs, w, h, ho => by
    simp only [List.length_cons] at ho
    unfold World.setCells
    have h1 : (w.setCell ⟨V, o, none⟩ v).heap[V]? = some (.cells (cs.set o v).toArray T (0, 0)) := by
      rw [heap_setCell_same w V o _ T v h]
      simp
    rw [heap_setCells_one V T r (o + 1) (cs.set o v) _ h1 (by rw [List.length_set]; omega)]
    have hl : o < cs.length := by omega
    rw [List.take_set, List.drop_set_of_lt (by omega), List.take_succ_eq_append_getElem hl, List.set_append_right _ _ (by simp; omega)]
    simp [Nat.min_eq_left (Nat.le_of_lt hl), List.length_cons]
    congr 1
    omega
theorem fr_setCells (V : Nat) : ∀ (vs : List Value) (o : Nat) (w0 w : World), Fr (fun k => k = V) w0 w → Fr (fun k => k = V) w0 (w.setCells V o vs)
  | [], _, _, _, h => h
  | v :: r, o, w0, w, h => by
    unfold World.setCells
    exact fr_setCells V r (o + 1) w0 _ (h.setCell V o v (fun _ => rfl))
/-- **append**, onto a slice of the call's own, of whatever. -/
theorem app_any {P : Program} (w : World) (t tx ty e : TypeId) (i : TypeInfo) (z : Value) (ht : P.underlying t = some (.slice e)) (hi : P.info? e = some i) (hz : i.zero = some z) (hs1 : i.size = 1) (hb1 : i.bytes = 1) (hzs : z.cells.size = 1)
    (v x : Value) (zs news : List Int) (hO : Own w e v zs) (hx : Src P 1 tx x news.length (b8 news) w) (hlen : zs.length + news.length ≤ 1099511627776) :
    ∃ v' w', (Builtin.append_ #[t, tx] ty #[v, x]).run P w = .ok v' w' ∧ Own w' e v' (zs ++ news) ∧ Fr (fun k => v.ownBlock = some k) w w' ∧ NewOr w v v' := by
  have hcat : b8 (zs ++ news) = b8 zs ++ b8 news := by simp [b8]
  have hfull : (zs ++ news).length = zs.length + news.length := List.length_append
  have hx' := hx
  rw [← hs1] at hx'
  have grown : ∀ (old : Nat), old < zs.length + news.length → ∀ (row : Nat → Prop),
      Own (w.drew.alloc (.cells ((b8 zs ++ b8 news).toArray ++ Builtin.zeroCells z.cells (grownCap w (zs.length + news.length) old e - (zs.length + news.length))) e)) e
        (.slice (some ⟨w.heap.size, 0, none⟩) (zs.length + news.length) (grownCap w (zs.length + news.length) old e)) (zs ++ news) ∧
      Fr row w (w.drew.alloc (.cells ((b8 zs ++ b8 news).toArray ++ Builtin.zeroCells z.cells (grownCap w (zs.length + news.length) old e - (zs.length + news.length))) e)) := by
    intro old ho row
    have hge := grownCap_ge w (zs.length + news.length) old e
    have hcm : grownCap w (zs.length + news.length) old e ≤ maxLen := grownCap_le_maxLen w (zs.length + news.length) old e (by unfold maxLen; omega)
    refine ⟨⟨by rw [b8_len]; omega, .inr ⟨w.heap.size, _, _, by rw [hfull], Nat.zero_le _, heap_alloc_new w.drew _, by rw [hfull]; exact hge, hcm, ?_, ?_⟩⟩, (Fr.refl row w).drew.alloc _⟩
    · simp only [Array.size_append, List.size_toArray, List.length_append, size_zeroCells, hzs, b8_len]
      omega
    · simp only [Array.toList_append, hcat, hfull, Nat.mul_one]
      exact List.take_left' (by simp [b8_len])
  obtain ⟨hl, ⟨rfl, hz0⟩ | ⟨g, cap, cur, rfl, hb, hg, h1, h2, h3, h4⟩⟩ := hO
  · have he : zs = [] := List.eq_nil_of_length_eq_zero hz0
    subst he
    by_cases hm : news = []
    · subst hm
      refine ⟨.slice none 0 0, w, ?_, Own.nil w e, Fr.refl _ w, NewOr.refl w _⟩
      have hc := hx.cells
      have hL := hx.len
      rcases hx.kind with ⟨e', hk⟩ | hk <;> simp [Builtin.append_, run_underlying ht, run_underlying hk, sizeOf, typeInfo, hi, hs1, hL] <;> simp_all [b8]
    · have hpos : 0 < news.length := List.length_pos_iff.2 hm
      have hr := run_append_grow_src (P := P) w t tx ty e i z ht hi hz none 0 0 [] (run_firstCells_none w.drew i.size 0 0 0) x news.length (b8 news) hx' (by omega) (by omega) (growslice_fits (by omega) (by rw [hb1]; omega))
      have hgr := grown 0 (by simpa using hpos) (fun k => (Value.slice none 0 0).ownBlock = some k)
      simp only [Nat.zero_add, List.nil_append, List.length_nil] at hgr hr ⊢
      simp only [show b8 [] = [] from rfl, List.nil_append] at hgr
      exact ⟨_, _, hr, hgr.1, hgr.2, fun k hk => .inr (by simp [Value.ownBlock] at hk; omega)⟩
  · by_cases hroom : zs.length + news.length ≤ cap
    · have hg' : w.heap[g]? = some (.cells cur.toList.toArray e (0, 0)) := by simpa using hg
      have hcl : cur.toList.length = cap := by simp [h3]
      have hin : ∀ j, j < (b8 news).length → (w.cell? ⟨g, 0 + zs.length * i.size + j, none⟩).isSome = true := fun j hj => by
        rw [b8_len] at hj
        simp only [World.cell?, hg, hs1, Nat.zero_add, Nat.mul_one]
        simp [h3]
        omega
      have hr := run_append_room_src (P := P) w t tx ty e i ht hi g 0 zs.length cap x news.length (b8 news) hx' hroom hin (fun j _ => by simp [World.frozen?, hg])
      simp only [hs1, Nat.zero_add, Nat.mul_one] at hr
      have hA := heap_setCells_one g e (b8 news) zs.length cur.toList w hg' (by rw [b8_len, hcl]; exact hroom)
      refine ⟨_, _, hr, ⟨by rw [b8_len]; omega, .inr ⟨g, cap, _, by rw [hfull], Nat.zero_le _, hA, by rw [hfull]; exact hroom, h2, ?_, ?_⟩⟩, ?_, NewOr.refl w _⟩
      · simp only [List.size_toArray, List.length_append, List.length_take, List.length_drop, b8_len, Array.length_toList]
        omega
      · simp only [hfull, Nat.mul_one]
        have := putL_take (b8 news) cur.toList zs.length (by rw [b8_len, hcl]; exact hroom)
        rw [← b8_len news, this, hcat]
        congr 1
        simpa using h4
      · exact (fr_setCells g (b8 news) zs.length w w (Fr.refl _ w)).mono (fun k _ hk => by subst hk; rfl)
    · have holds : ∀ j u, (b8 zs)[j]? = some u → w.drew.cell? ((⟨g, 0, none⟩ : Addr).add j) = some u := fun j u hj => by
        have := World.ownsRow.cells (w := w) (base := 0) (e := e) (size := 1) (v := .slice (some ⟨g, 0, none⟩) zs.length cap) ⟨hl, .inr ⟨g, cap, cur, rfl, hb, hg, h1, h2, h3, h4⟩⟩ (g := g) rfl j u hj
        simpa using this
      have hr := run_append_grow_src (P := P) w t tx ty e i z ht hi hz (some ⟨g, 0, none⟩) zs.length cap (b8 zs) (run_firstCells_some w.drew i.size zs.length ⟨g, 0, none⟩ zs.length cap (b8 zs) (by rw [b8_len, hs1, Nat.mul_one]) holds) x news.length (b8 news) hx' (by omega) (by omega) (growslice_fits (by omega) (by rw [hb1]; omega))
      have hgr := grown cap (by omega) (fun k => (Value.slice (some ⟨g, 0, none⟩) zs.length cap).ownBlock = some k)
      exact ⟨_, _, hr, hgr.1, hgr.2, fun k hk => .inr (by simp [Value.ownBlock] at hk; omega)⟩
end WirM
end Go.Proofs.Ythcemghamdmjmaa

namespace Go.Proofs.Ythcemghamdmjmaa
namespace WirS
open Go.RowKit
open BlkM WirM
theorem hide {p : Prop} (h : p) : Hid p := h
section
variable {P : Program} {ops : Array Oper} {rest : List Oper} {o : Oper} {a : Act} {w w' : World} {Q : Exit → Act → World → Prop}
theorem stepW (hw : Region.wanted o (yielded ops a.tmps) = true) (h : ∀ K : Act → World → Prop, (∀ a w, wpList P ops Q rest a w → K a w) → o.wp P a w K Q) : wpList P ops Q (o :: rest) a w :=
  wpList_step fun K hK => by simp only [hw, if_true]; exact h K hK
theorem sV (v : Value) (w' : World) (hw : Region.wanted o (yielded ops a.tmps) = true) (hrun : (execOp a.eval o).run P w = .ok (.value v) w') (h : wpList P ops Q rest (a.put o.dst v) w') : wpList P ops Q (o :: rest) a w :=
  stepW hw fun _ hK => by
    unfold Oper.wp
    rw [hrun]
    exact hK _ _ h
theorem sC {f : FuncId} {args : Array Value} {v : Value} {R : World → Prop} (hw : Region.wanted o (yielded ops a.tmps) = true) (hrun : (execOp a.eval o).run P w = .ok (.enter f args) w)
    (hc : Calls P f args w fun e w' => e = .returned v ∧ R w') (h : ∀ w', R w' → wpList P ops Q rest (a.put o.dst v) w') : wpList P ops Q (o :: rest) a w :=
  stepW hw fun _ hK => by
    unfold Oper.wp
    rw [hrun, Oper.upon_enter]
    exact hc.mono (by rintro e w' ⟨rfl, hr⟩; exact hK _ _ (h w' hr))
theorem sL (hw : Region.wanted o (yielded ops a.tmps) = true) (ty : TypeId) (x : Operand) (ho : o.op = .load ty x)
    (g : Nat) (hx : a.eval x = .pointer (some ⟨g, 0, none⟩)) {T : TypeId} {cs : List Value} (hg : At w g T cs) (d : TypeDesc) (n : Nat)
    (hu : P.underlying ty = some d) (hd : (match d with | .struct _ | .array _ _ => true | _ => false) = true) (hi : (P.info? ty).map (·.size) = some n) (hn : cs.length = n)
    (h : wpList P ops Q rest (a.put o.dst (.agg cs.toArray)) w) : wpList P ops Q (o :: rest) a w :=
  stepW hw fun _ hK => wp_load_row ty x ho g hx T cs.toArray (0, 0) d hg hu hd (by rw [hi, ← hn]; simp) (hK _ _ h)
/-- One cell is read. -/
theorem sP (hw : Region.wanted o (yielded ops a.tmps) = true) (ty : TypeId) (x : Operand) (ho : o.op = .load ty x) (ad : Addr) (hx : a.eval x = .pointer (some ad)) (v : Value) (hc : w.cell? ad = some v) (hag : (isAgg ty).run P w = .ok false w)
    (h : wpList P ops Q rest (a.put o.dst v) w) : wpList P ops Q (o :: rest) a w :=
  sV v w hw (by
    unfold execOp
    simp only [ho, hx, Instr.loadAt, Instr.sureAddr, loadVar, Sem.run_bind, Sem.run_pure, hag, Bool.false_eq_true, if_false, run_load, hc, Result.andThen]) h
/-- Two values compared. -/
theorem sB (hw : Region.wanted o (yielded ops a.tmps) = true) (op : BinOp) (t t2 : TypeId) (x y : Operand) (ho : o.op = .binOp op t x y t2) (vx vy : Value) (hx : a.eval x = vx) (hy : a.eval y = vy) (v : Value) (hr : (binOp op t vx vy).run P w = .ok v w)
    (hg : (eqGuard op t x y vx vy).run P w = .ok () w) (h : wpList P ops Q rest (a.put o.dst v) w) : wpList P ops Q (o :: rest) a w :=
  sV v w hw (by
    unfold execOp
    simp only [ho, hx, hy, Sem.run_bind, hg, Result.andThen_ok, hr, Sem.run_pure]) h
/-- An operation whose guard is not met is passed over. -/
theorem sS (hw : Region.wanted o (yielded ops a.tmps) = false) (h : wpList P ops Q rest (a.put o.dst undef) w) : wpList P ops Q (o :: rest) a w := by
  unfold wpList
  simp only [hw, Bool.false_eq_true, if_false]
  exact h
/-- append, by what it yields here. -/
theorem sA (hw : Region.wanted o (yielded ops a.tmps) = true) (t tx : TypeId) (x y : Operand) (ho : o.op = .call { callee := .builtin .append, args := #[x, y], argTypes := #[t, tx] }) (v s : Value) (hx : a.eval x = v) (hy : a.eval y = s)
    (v' : Value) (w' : World) (hr : (Builtin.append_ #[t, tx] o.type #[v, s]).run P w = .ok v' w') (h : wpList P ops Q rest (a.put o.dst v') w') : wpList P ops Q (o :: rest) a w :=
  stepW hw fun _ hK => by
    unfold Oper.wp execOp
    simp only [ho, resolve, invoke, builtin, Sem.run_bind, Sem.run_pure, Result.andThen_ok, List.map_toArray, List.map_cons, List.map_nil, hx, hy, hr]
    exact hK _ _ h
end
/-- A pointer compared with another one's absence, or itself. -/
theorem ptr_eq {P : Program} {t e : TypeId} (ht : P.underlying t = some (.pointer e)) (hi : (P.info? e).isSome = true) (S : Nat) (W : World) : (binOp .eql t (.pointer (some ⟨S, 0, none⟩)) (.pointer (some ⟨S, 0, none⟩))).run P W = .ok (.bool true) W := by
  obtain ⟨j, hj⟩ := Option.isSome_iff_exists.1 hi
  exact run_eql_ptr_same W ⟨S, 0, none⟩ ht hj
theorem ptr_ne {P : Program} {t e : TypeId} (ht : P.underlying t = some (.pointer e)) (hi : (P.info? e).isSome = true) (S : Nat) (W : World) : (binOp .neq t (.pointer (some ⟨S, 0, none⟩)) (.pointer (some ⟨S, 0, none⟩))).run P W = .ok (.bool false) W := by
  obtain ⟨j, hj⟩ := Option.isSome_iff_exists.1 hi
  have h : ∀ d : Nat, (Op.equalIn (d + 1) t (.pointer (some ⟨S, 0, none⟩)) (.pointer (some ⟨S, 0, none⟩))).run P W = .ok true W := fun d => by
    simp [Op.equalIn, run_underlying ht, sizeOf, typeInfo, hj, run_sameAddr_same]
  simp only [binOp]
  simp [Op.equal, Op.maxDepth, h 9999]
theorem nil_ne {P : Program} {t e : TypeId} (ht : P.underlying t = some (.pointer e)) (S : Nat) (W : World) : (binOp .neq t (.pointer none) (.pointer (some ⟨S, 0, none⟩))).run P W = .ok (.bool true) W := by
  have h : ∀ d : Nat, (Op.equalIn (d + 1) t (.pointer none) (.pointer (some ⟨S, 0, none⟩))).run P W = .ok false W := fun d => by
    simp [Op.equalIn, run_underlying ht]
  simp only [binOp]
  simp [Op.equal, Op.maxDepth, h 9999]
theorem nil_eq {P : Program} {t e : TypeId} (ht : P.underlying t = some (.pointer e)) (S : Nat) (W : World) : (binOp .eql t (.pointer none) (.pointer (some ⟨S, 0, none⟩))).run P W = .ok (.bool false) W := by
  have h : ∀ d : Nat, (Op.equalIn (d + 1) t (.pointer none) (.pointer (some ⟨S, 0, none⟩))).run P W = .ok false W := fun d => by
    simp [Op.equalIn, run_underlying ht]
  simp only [binOp]
  simp [Op.equal, Op.maxDepth, h 9999]
end WirS
end Go.Proofs.Ythcemghamdmjmaa

namespace Go.Proofs.Ythcemghamdmjmaa
namespace ValF
open Go.RowKit
open BlkM WirM WirS

/-- append as a step of a region that draws its order: by what it yields here. -/
theorem step_app {P : Program} {ops : Array Oper} {o : Oper} {a : Act} {w : World} {K : Act → World → Prop} {Q : Exit → Act → World → Prop} {E : Prop} (hgd : o.guard = none) (t tx : TypeId) (x y : Operand) (ho : o.op = .call { callee := .builtin .append, args := #[x, y], argTypes := #[t, tx] }) (v s : Value) (hx : a.eval x = v) (hy : a.eval y = s)
    (v' : Value) (w' : World) (hr : (Builtin.append_ #[t, tx] o.type #[v, s]).run P w = .ok v' w') (h : K (a.put o.dst v') w') :
    if Region.wanted o (yielded ops a.tmps) = true then Oper.wp P o a w K Q else E := by
  have hw : Region.wanted o (yielded ops a.tmps) = true := by simp [Region.wanted, hgd]
  rw [if_pos hw]
  unfold Oper.wp execOp
  simp only [ho, resolve, invoke, builtin, Sem.run_bind, Sem.run_pure, Result.andThen_ok, List.map_toArray, List.map_cons, List.map_nil, hx, hy, hr]
  exact h
end ValF
end Go.Proofs.Ythcemghamdmjmaa

