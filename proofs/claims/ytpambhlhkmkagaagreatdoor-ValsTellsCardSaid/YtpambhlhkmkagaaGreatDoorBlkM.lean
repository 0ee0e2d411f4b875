/-
  BLAKE2s as a function of lists of integers (Go's own operations on words, left as they stand), and laws on one block of memory that is written. (Pure, but for the model's arithmetic and worlds.)
-/
import Derived.Below
import Derived.Laws.Tables
import Derived.Laws.Rows
import Derived.Laws.Bits64
import Derived.Laws.BitsLemmas
import Derived.Laws.IdiomCopy
import Derived.Deep.MidRow
import Derived.Laws.ResultCell
import Derived.Tactics
namespace Go.Proofs.YtpambhlhkmkagaaGreatDoor
namespace BlkM
open Go Go.RowKit

/-! ### Words -/
/-- A sum of words. -/
def ad (a b : Int) : Int := IntKind.u32.wrap (a + b)
/-- Bit by bit. -/
def xo (a b : Int) : Int := bits .xor .u32 a b
def oo (a b : Int) : Int := bits .or .u32 a b
/-- A word, turned. -/
def rt (n : Nat) (x : Int) : Int := bits .or .u32 (x / 2 ^ n) (IntKind.u32.wrap (x * 2 ^ (32 - n)))
theorem or_comm (k : IntKind) (a b : Int) : bits .or k a b = bits .or k b a := by
  show k.wrap ((BitVec.ofInt k.bits a ||| BitVec.ofInt k.bits b).toNat : Int) = k.wrap ((BitVec.ofInt k.bits b ||| BitVec.ofInt k.bits a).toNat : Int)
  rw [BitVec.or_comm]
theorem toNat_wrap (z : BitVec 32) : IntKind.u32.wrap (z.toNat : Int) = (z.toNat : Int) := by
  rw [IntKind.wrap_u32]
  have := z.isLt
  omega
theorem ofInt_toNat (z : BitVec 32) : BitVec.ofInt 32 (z.toNat : Int) = z := by
  rw [BitVec.ofInt_natCast, BitVec.ofNat_toNat, BitVec.setWidth_eq]
theorem xo_bv (a b : Int) : xo a b = ((BitVec.ofInt 32 a ^^^ BitVec.ofInt 32 b).toNat : Int) := by
  show IntKind.u32.wrap ((BitVec.ofInt 32 a ^^^ BitVec.ofInt 32 b).toNat : Int) = _
  rw [toNat_wrap]
theorem oo_bv (a b : Int) : oo a b = ((BitVec.ofInt 32 a ||| BitVec.ofInt 32 b).toNat : Int) := by
  show IntKind.u32.wrap ((BitVec.ofInt 32 a ||| BitVec.ofInt 32 b).toNat : Int) = _
  rw [toNat_wrap]
theorem xo_assoc (a b c : Int) : xo (xo a b) c = xo a (xo b c) := by
  rw [xo_bv, xo_bv a b, xo_bv a, xo_bv b c, ofInt_toNat, ofInt_toNat, BitVec.xor_assoc]
theorem zero_oo (a : Int) (h : 0 ≤ a) (k : a < 4294967296) : oo 0 a = a := by
  rw [oo_bv, show BitVec.ofInt 32 0 = 0#32 from rfl, BitVec.zero_or]
  obtain ⟨n, rfl⟩ := Int.eq_ofNat_of_zero_le h
  show ((BitVec.ofInt 32 (n : Int)).toNat : Int) = (n : Int)
  rw [BitVec.ofInt_natCast, BitVec.toNat_ofNat]
  omega

/-! ### The hash -/
def ini : List Int := [1779033703, 3144134277, 1013904242, 2773480762, 1359893119, 2600822924, 528734635, 1541459225]
def table : List (List Nat) := [[0, 1, 2, 3, 4, 5, 6, 7, 8, 9, 10, 11, 12, 13, 14, 15], [14, 10, 4, 8, 9, 15, 13, 6, 1, 12, 0, 2, 11, 7, 5, 3], [11, 8, 12, 0, 5, 2, 15, 13, 10, 14, 3, 6, 7, 1, 9, 4], [7, 9, 3, 1, 13, 12, 11, 14, 2, 6, 5, 10, 4, 0, 15, 8], [9, 0, 5, 7, 2, 4, 10, 15, 14, 1, 11, 12, 6, 8, 3, 13], [2, 12, 6, 10, 0, 11, 8, 3, 4, 13, 7, 5, 15, 14, 1, 9], [12, 5, 1, 15, 14, 13, 4, 10, 0, 7, 6, 3, 9, 2, 8, 11], [13, 11, 7, 14, 12, 1, 3, 9, 5, 0, 15, 4, 8, 6, 2, 10], [6, 15, 14, 9, 11, 3, 0, 8, 12, 2, 13, 7, 1, 4, 10, 5], [10, 2, 8, 4, 7, 6, 1, 5, 15, 11, 9, 14, 3, 12, 13, 0]]
/-- Mixing, of the words at four places. -/
def mixL (v : List Int) (a b c d : Nat) (x y : Int) : List Int :=
  let A := v.getD a 0
  let B := v.getD b 0
  let C := v.getD c 0
  let D := v.getD d 0
  let a1 := ad A (ad B x)
  let d1 := rt 16 (xo D a1)
  let c1 := ad C d1
  let b1 := rt 12 (xo B c1)
  let a2 := ad a1 (ad b1 y)
  let d2 := rt 8 (xo d1 a2)
  let c2 := ad c1 d2
  let b2 := rt 7 (xo b1 c2)
  (((((((v.set a a1).set d d1).set c c1).set b b1).set a a2).set d d2).set c c2).set b b2
theorem mixL_len (v : List Int) (a b c d : Nat) (x y : Int) : (mixL v a b c d x y).length = v.length := by
  unfold mixL; simp only [List.length_set]
/-- The eight mixings of a round, with the words of a row: the first n of them. -/
def place : Nat → Nat × Nat × Nat × Nat
  | 0 => (0, 4, 8, 12) | 1 => (1, 5, 9, 13) | 2 => (2, 6, 10, 14) | 3 => (3, 7, 11, 15)
  | 4 => (0, 5, 10, 15) | 5 => (1, 6, 11, 12) | 6 => (2, 7, 8, 13) | _ => (3, 4, 9, 14)
def part (v s : List Int) : Nat → List Int
  | 0 => v
  | n + 1 => mixL (part v s n) (place n).1 (place n).2.1 (place n).2.2.1 (place n).2.2.2 (s.getD (2 * n) 0) (s.getD (2 * n + 1) 0)
def roundL (v s : List Int) : List Int := part v s 8
theorem part_len (v s : List Int) : ∀ n, (part v s n).length = v.length
  | 0 => rfl
  | n + 1 => by rw [part, mixL_len, part_len v s n]
theorem roundL_len (v s : List Int) : (roundL v s).length = v.length := part_len v s 8
/-- The words of a row. -/
def sched (m : List Int) (r : Nat) : List Int := (table.getD r []).map fun i => m.getD i 0
/-- The first n rounds. -/
def roundsL (v m : List Int) : Nat → List Int
  | 0 => v
  | n + 1 => roundL (roundsL v m n) (sched m n)
theorem roundsL_len (v m : List Int) : ∀ n, (roundsL v m n).length = v.length
  | 0 => rfl
  | n + 1 => by rw [roundsL, roundL_len, roundsL_len v m n]
/-- The words of a block. -/
def wordOf (b : List Int) (i : Nat) : Int := oo (oo (oo (b.getD (4 * i) 0) (IntKind.u32.wrap (b.getD (4 * i + 1) 0 * 2 ^ 8))) (IntKind.u32.wrap (b.getD (4 * i + 2) 0 * 2 ^ 16))) (IntKind.u32.wrap (b.getD (4 * i + 3) 0 * 2 ^ 24))
def wordsL (b : List Int) : List Int := (List.range 16).map (wordOf b)
theorem wordsL_len (b : List Int) : (wordsL b).length = 16 := by simp [wordsL]
/-- The words v, when a block begins. -/
def start (h : List Int) (n last : Int) : List Int :=
  (((h ++ ini).set 12 (xo 1359893119 (IntKind.u32.wrap n))).set 13 (xo 2600822924 (IntKind.u32.wrap (n / 2 ^ 32)))).set 14 (xo 528734635 last)
theorem start_len (h : List Int) (n last : Int) (hh : h.length = 8) : (start h n last).length = 16 := by simp [start, hh, ini]
/-- A block, with the number of bytes up to and with it. -/
def comp (h b : List Int) (n last : Int) : List Int :=
  let v := roundsL (start h n last) (wordsL b) 10
  (List.range 8).map fun i => xo (h.getD i 0) (xo (v.getD i 0) (v.getD (i + 8) 0))
theorem comp_len (h b : List Int) (n last : Int) : (comp h b n last).length = 8 := by simp [comp]
def h0 : List Int := ini.set 0 (xo 1779033703 16842784)
/-- H behind the first k blocks. -/
def hs (l : List Int) : Nat → List Int
  | 0 => h0
  | k + 1 => comp (hs l k) ((l.drop (64 * k)).take 64) ((64 * (k + 1) : Nat) : Int) 0
theorem hs_len (l : List Int) : ∀ k, (hs l k).length = 8
  | 0 => rfl
  | k + 1 => by rw [hs, comp_len]
theorem hs_append (l m : List Int) : ∀ k, 64 * k ≤ l.length → hs (l ++ m) k = hs l k
  | 0, _ => rfl
  | k + 1, h => by
    rw [hs, hs, hs_append l m k (by omega), List.drop_append_of_le_length (by omega), List.take_append_of_le_length (by rw [List.length_drop]; omega)]
/-- Bytes, padded to so many. -/
def pad (n : Nat) (l : List Int) : List Int := l ++ List.replicate (n - l.length) 0
/-- How many blocks lie before the last one. -/
def before (n : Nat) : Nat := (n - 1) / 64
def fin (l : List Int) : List Int := comp (hs l (before l.length)) (pad 64 (l.drop (64 * before l.length))) (l.length : Int) 4294967295
theorem fin_len (l : List Int) : (fin l).length = 8 := comp_len _ _ _ _
/-- The bytes of words. -/
def byteOf (h : List Int) (i : Nat) : Int := IntKind.u8.wrap (h.getD (i / 4) 0 / 2 ^ (8 * (i % 4)))
def out (h : List Int) : List Int := (List.range 32).map (byteOf h)
theorem out_len (h : List Int) : (out h).length = 32 := by simp [out]
/-- The hash. -/
def sumL (l : List Int) : List Int := out (fin l)
theorem sumL_len (l : List Int) : (sumL l).length = 32 := out_len _
/-! ### Cells -/
def w32 (l : List Int) : List Value := l.map (Value.int .u32)
def b8 (l : List Int) : List Value := l.map (Value.int .u8)
theorem w32_len (l : List Int) : (w32 l).length = l.length := by simp [w32]
theorem b8_len (l : List Int) : (b8 l).length = l.length := by simp [b8]
theorem w32_get (l : List Int) (i : Nat) (h : i < l.length) : (w32 l)[i]? = some (.int .u32 (l.getD i 0)) := by
  simp [w32, List.getElem?_map, List.getElem?_eq_getElem h, List.getD]
theorem b8_get (l : List Int) (i : Nat) (h : i < l.length) : (b8 l)[i]? = some (.int .u8 (l.getD i 0)) := by
  simp [b8, List.getElem?_map, List.getElem?_eq_getElem h, List.getD]
theorem w32_set (l : List Int) (i : Nat) (x : Int) : (w32 l).set i (.int .u32 x) = w32 (l.set i x) := by simp [w32, List.map_set]
theorem b8_set (l : List Int) (i : Nat) (x : Int) : (b8 l).set i (.int .u8 x) = b8 (l.set i x) := by simp [b8, List.map_set]
theorem w32_append (l m : List Int) : w32 (l ++ m) = w32 l ++ w32 m := by simp [w32]

/-- A block of cells lies in memory. -/
def At (w : World) (V : Nat) (T : TypeId) (cs : List Value) : Prop := w.heap[V]? = some (.cells cs.toArray T (0, 0))
theorem At.cell {w : World} {V : Nat} {T : TypeId} {cs : List Value} (h : At w V T cs) (i : Nat) : w.cell? ⟨V, i, none⟩ = cs[i]? := by
  unfold At at h
  simp [World.cell?, h]
theorem At.frozen {w : World} {V : Nat} {T : TypeId} {cs : List Value} (h : At w V T cs) (i : Nat) : w.frozen? ⟨V, i, none⟩ = false := by
  unfold At at h
  simp [World.frozen?, h]
theorem At.lt {w : World} {V : Nat} {T : TypeId} {cs : List Value} (h : At w V T cs) : V < w.heap.size := (Array.getElem?_eq_some_iff.1 h).1
theorem At.below {w w' : World} {V B : Nat} {T : TypeId} {cs : List Value} (h : At w V T cs) (hb : Below B w w') (hv : V < B) : At w' V T cs := (hb.block V hv).trans h
theorem At.new (w : World) (T : TypeId) (cs : List Value) : At (w.alloc (.cells cs.toArray T)) w.heap.size T cs := by
  show (w.heap.push _)[w.heap.size]? = _
  simp
theorem At.other {w : World} {V X : Nat} {T : TypeId} {cs : List Value} (h : At w V T cs) (c : Array Value) (hv : V ≠ X) : At (w.setRow X c) V T cs := (setRow_other w X V c hv).trans h
theorem At.setCell {w : World} {V : Nat} {T : TypeId} {cs : List Value} (h : At w V T cs) (i : Nat) (v : Value) : At (w.setCell ⟨V, i, none⟩ v) V T (cs.set i v) := by
  unfold At at *
  rw [heap_setCell_same w V i _ T v h]
  simp
theorem At.setCell_other {w : World} {V X : Nat} {T : TypeId} {cs : List Value} (h : At w V T cs) (hv : V ≠ X) (i : Nat) (v : Value) : At (w.setCell ⟨X, i, none⟩ v) V T cs :=
  (heap_setCell_other w ⟨X, i, none⟩ V v hv).trans h
theorem At.put {w : World} {V : Nat} {T : TypeId} {cs : List Value} (h : At w V T cs) (c : List Value) : At (w.setRow V c.toArray) V T c := setRow_heap w V _ _ T _ h

/-- The world is as it was below its end, but for the block V, which is the row cs now. -/
def Chg (w : World) (V : Nat) (cs : List Value) (w' : World) : Prop := Below w.heap.size (w.setRow V cs.toArray) w'
theorem setRow_self {w : World} {V : Nat} {T : TypeId} {cs : List Value} (h : At w V T cs) : w.setRow V cs.toArray = w := by
  have hlt := h.lt
  have hv : w.heap[V] = .cells cs.toArray T (0, 0) := (Array.getElem?_eq_some_iff.1 h).2
  unfold World.setRow
  obtain ⟨hp, tp, dr, os, ou⟩ := w
  congr 1
  apply Array.ext
  · simp
  · intro k h1 h2
    simp only [Array.getElem_modify]
    split
    · rename_i hk; subst hk; simp at hv; simp [hv]
    · rfl
theorem Below.setRow {B : Nat} {a w : World} (h : Below B a w) (g : Nat) (cs : Array Value) : Below B (a.setRow g cs) (w.setRow g cs) :=
  ⟨h.os, h.tape, h.output, by simpa using h.size, fun k hk => by
    unfold World.setRow
    simp only [Array.getElem?_modify]
    rw [h.block k hk]⟩
theorem Chg.at {w w' : World} {V : Nat} {T : TypeId} {cs c0 : List Value} (h : Chg w V cs w') (h0 : At w V T c0) : At w' V T cs :=
  (h0.put cs).below h h0.lt
theorem Chg.self {w w' : World} {V : Nat} {T : TypeId} {cs : List Value} (h0 : At w V T cs) (hb : Below w.heap.size w w') : Chg w V cs w' := by
  unfold Chg
  rw [setRow_self h0]
  exact hb
theorem Chg.size {w w' : World} {V : Nat} {cs : List Value} (h : Chg w V cs w') : w.heap.size ≤ w'.heap.size := by
  have := Below.size h
  simpa using this
theorem Chg.trans {w w1 w2 : World} {V : Nat} {c1 c2 : List Value} (h : Chg w V c1 w1) (k : Chg w1 V c2 w2) : Chg w V c2 w2 := by
  unfold Chg at *
  have := Below.setRow h V c2.toArray
  rw [setRow_setRow] at this
  exact Below.trans this (Below.mono k (by have := h.size; simpa using this))
theorem Chg.below {w w1 w2 : World} {V B : Nat} {c1 : List Value} (h : Chg w V c1 w1) (k : Below B w1 w2) (hB : w.heap.size ≤ B) : Chg w V c1 w2 := Below.trans h (k.mono hB)
theorem Chg.other {w w1 : World} {V X : Nat} {T : TypeId} {c1 cs : List Value} (h : Chg w V c1 w1) (k : At w X T cs) (hx : X ≠ V) : At w1 X T cs := (k.other c1.toArray hx).below h k.lt
theorem Chg.setCell {w w1 : World} {V : Nat} {T : TypeId} {cs c0 : List Value} (h : Chg w V cs w1) (h0 : At w V T c0) (i : Nat) (v : Value) : Chg w V (cs.set i v) (w1.setCell ⟨V, i, none⟩ v) := by
  have h1 := h.at h0
  unfold Chg at *
  rw [setCell_eq_setRow w1 V i _ T (0, 0) v h1]
  have := Below.setRow h V (cs.set i v).toArray
  rw [setRow_setRow] at this
  simpa using this
theorem Chg.drew {w w1 : World} {V : Nat} {cs : List Value} (h : Chg w V cs w1) : Chg w V cs w1.drew := Below.drew h
theorem Chg.below_of {w w1 : World} {V B : Nat} {cs : List Value} (h : Chg w V cs w1) (hV : B ≤ V) (hB : B ≤ w.heap.size) : Below B w w1 := by
  have h1 : Below B (w.setRow V cs.toArray) w1 := h.mono hB
  have h2 : Below B w (w.setRow V cs.toArray) := ⟨rfl, rfl, rfl, by simp, fun k hk => setRow_other w V k _ (by omega)⟩
  exact h2.trans h1
theorem oneCells_w32 (l : List Int) : (w32 l).toArray.all (·.oneCell') = true := by simp [w32, Value.oneCell']
theorem oneCells_b8 (l : List Int) : (b8 l).toArray.all (·.oneCell') = true := by simp [b8, Value.oneCell']
/-- What a func returns that keeps its result in a row. -/
theorem retRow {P : Program} {w : World} {g : Nat} {T : TypeId} {cs : List Value} (hg : At w g T cs) {fn : Func} {p : Tmp} {ty : TypeId} (h : fn.results = #[.cell p ty]) (tmps : Array Value) (hp : tmps.getD p undef = .pointer (some ⟨g, 0, none⟩)) (d : TypeDesc) (n : Nat) (hu : P.underlying ty = some d) (hd : (match d with | .struct _ | .array _ _ => true | _ => false) = true) (hi : (P.info? ty).map (·.size) = some n) (hn : cs.length = n) :
    (results fn tmps).run P w = .ok (.agg cs.toArray) w :=
  results_cell_row h tmps w g T cs.toArray (0, 0) d hp hg hu hd (by rw [hi, ← hn]; simp)
theorem At.alloc {w : World} {V : Nat} {T : TypeId} {cs : List Value} (h : At w V T cs) (o : Obj) : At (w.alloc o) V T cs := (Below.heap_alloc w o V h.lt).trans h
theorem Below.setRowOwn {B : Nat} {a w : World} (h : Below B a w) {g : Nat} (hg : B ≤ g) (cs : Array Value) : Below B a (w.setRow g cs) :=
  h.trans ⟨rfl, rfl, rfl, by simp, fun k hk => setRow_other w g k _ (by omega)⟩
theorem zeros8 (n : Nat) : b8 (List.replicate n 0) = List.replicate n (Value.int .u8 0) := by simp [b8]
/-- The steps of a walk that read and write a whole row. -/
theorem stepLoad {P : Program} {ops : Array Oper} {rest : List Oper} {o : Oper} {a : Act} {w : World} {Q : Exit → Act → World → Prop} (hgd : o.guard = none) (ty : TypeId) (x : Operand) (ho : o.op = .load ty x)
    (g : Nat) (hx : a.eval x = .pointer (some ⟨g, 0, none⟩)) {T : TypeId} {cs : List Value} (hg : At w g T cs) (d : TypeDesc) (n : Nat)
    (hu : P.underlying ty = some d) (hd : (match d with | .struct _ | .array _ _ => true | _ => false) = true) (hi : (P.info? ty).map (·.size) = some n) (hn : cs.length = n)
    (h : wpList P ops Q rest (a.put o.dst (.agg cs.toArray)) w) : wpList P ops Q (o :: rest) a w :=
  wpList_load_row hgd ty x ho g hx T cs.toArray (0, 0) d hg hu hd (by rw [hi, ← hn]; simp) h
theorem stepStore {P : Program} {ops : Array Oper} {rest : List Oper} {o : Oper} {a : Act} {w : World} {Q : Exit → Act → World → Prop} (hgd : o.guard = none) (ty : TypeId) (x y : Operand) (ho : o.op = .store ty x y)
    (g : Nat) (c : List Value) (hx : a.eval x = .pointer (some ⟨g, 0, none⟩)) (hy : a.eval y = .agg c.toArray) {T : TypeId} {cs : List Value} (hg : At w g T cs) (n : Nat)
    (hi : (P.info? ty).map (·.size) = some n) (hn : cs.length = n) (hc : c.length = n) (h1 : c.toArray.all (·.oneCell') = true)
    (h : wpList P ops Q rest (a.put o.dst undef) (w.setRow g c.toArray)) : wpList P ops Q (o :: rest) a w :=
  wpList_store_row hgd ty x y ho g c.toArray hx hy T cs.toArray hg (by rw [hi, ← hc]; simp) (by simp; omega) h1 h
end BlkM
end Go.Proofs.YtpambhlhkmkagaaGreatDoor
