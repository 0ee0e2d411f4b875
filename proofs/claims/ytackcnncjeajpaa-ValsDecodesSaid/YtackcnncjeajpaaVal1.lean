/-
  ValA, ValB, ValC, ValD, ValP, ValE, ValF, ValG, ValH, ValM, ValN, in one text.
-/
import Derived.Test.YtackcnncjeajpaaWirS
import Derived.Deep.MidRow
import Derived.Deep.AppendSrc
import Derived.ChangeKeysEq
import Derived.Lib.BytesEntry
import Derived.Test.YtackcnncjeajpaaWirB
import Derived.Test.YtackcnncjeajpaaWirBE
import Derived.Laws.StructEq
import Derived.Test.YtackcnncjeajpaaKitC
namespace Go.Proofs.Ytackcnncjeajpaa
namespace ValA
open Go.RowKit
open BlkM WirM WirS

/-- A validator: its key's four bytes, its power. -/
structure Vd where
  a : Int
  b : Int
  c : Int
  d : Int
  p : Int
def Vd.cells (v : Vd) : List Value := [.int .u8 v.a, .int .u8 v.b, .int .u8 v.c, .int .u8 v.d, .int .i64 v.p]
def Vd.key (v : Vd) : List Int := [v.a, v.b, v.c, v.d]
/-- Its key as one number. -/
def Vd.rk (v : Vd) : Int := ((v.a * 256 + v.b) * 256 + v.c) * 256 + v.d
structure Vd.ok (v : Vd) : Prop where
  a : 0 ≤ v.a ∧ v.a < 256
  b : 0 ≤ v.b ∧ v.b < 256
  c : 0 ≤ v.c ∧ v.c < 256
  d : 0 ≤ v.d ∧ v.d < 256
  p : -9223372036854775808 ≤ v.p ∧ v.p < 9223372036854775808
theorem Vd.key_eq {x y : Vd} (hx : x.ok) (hy : y.ok) (h : x.rk = y.rk) : x.a = y.a ∧ x.b = y.b ∧ x.c = y.c ∧ x.d = y.d := by
  obtain ⟨a, b, c, d, _⟩ := hx
  obtain ⟨a', b', c', d', _⟩ := hy
  unfold Vd.rk at h
  omega
theorem Vd.eq_of {x y : Vd} (hx : x.ok) (hy : y.ok) (h : x.rk = y.rk) (hp : x.p = y.p) : x = y := by
  obtain ⟨h1, h2, h3, h4⟩ := Vd.key_eq hx hy h
  cases x
  cases y
  simp_all
def cellsL (vs : List Vd) : List Value := vs.flatMap Vd.cells
theorem cells_len (v : Vd) : v.cells.length = 5 := rfl
theorem cellsL_len : ∀ vs : List Vd, (cellsL vs).length = vs.length * 5
  | [] => rfl
  | x :: l => by
    have : cellsL (x :: l) = x.cells ++ cellsL l := by simp [cellsL]
    rw [this, List.length_append, cellsL_len l, cells_len, List.length_cons]
    omega
theorem cellsL_app (a b : List Vd) : cellsL (a ++ b) = cellsL a ++ cellsL b := by simp [cellsL]
theorem cellsL_get : ∀ (vs : List Vd) (i : Nat) (x : Vd), vs[i]? = some x → ∀ j v, x.cells[j]? = some v → (cellsL vs)[i * 5 + j]? = some v
  | [], i, x, h => by simp at h
  | y :: l, 0, x, h => fun j v hj => by
    have e : cellsL (y :: l) = y.cells ++ cellsL l := by simp [cellsL]
    simp at h
    subst h
    have hj5 : j < y.cells.length := (List.getElem?_eq_some_iff.1 hj).1
    rw [e, Nat.zero_mul, Nat.zero_add, List.getElem?_append_left hj5]
    exact hj
  | y :: l, i + 1, x, h => fun j v hj => by
    have e : cellsL (y :: l) = y.cells ++ cellsL l := by simp [cellsL]
    have h' : l[i]? = some x := by simpa using h
    rw [e, List.getElem?_append_right (by rw [cells_len]; omega), cells_len, show (i + 1) * 5 + j - 5 = i * 5 + j by omega]
    exact cellsL_get l i x h' j v hj
theorem one_cells (vs : List Vd) : ∀ u ∈ cellsL vs, u.oneCell' = true := by
  intro u hu
  simp only [cellsL, List.mem_flatMap] at hu
  obtain ⟨x, _, hx⟩ := hu
  simp [Vd.cells] at hx
  rcases hx with rfl | rfl | rfl | rfl | rfl <;> rfl

/-- A list of validators, as it comes in. -/
structure VIn (w : World) (a : Option Addr) (n c : Nat) (vs : List Vd) : Prop where
  len : vs.length = n
  cap : n ≤ c
  small : c ≤ 9223372036854775807
  row : 0 < n → ∃ B o, a = some ⟨B, o, none⟩ ∧ B < w.heap.size ∧ ∀ (i : Nat) (x : Vd), vs[i]? = some x → w.rangeAt B (o + i * 5) x.cells
  ok : ∀ x ∈ vs, x.ok
theorem VIn.nil (w : World) (a : Option Addr) (c : Nat) (hc : c ≤ 9223372036854775807) : VIn w a 0 c [] := ⟨rfl, Nat.zero_le _, hc, fun h => absurd h (by decide), fun x h => by cases h⟩
/-- Where its block is not among those that may change, it stands. -/
theorem VIn.fr {X : Nat → Prop} {w w' : World} {a : Option Addr} {n c : Nat} {vs : List Vd} (h : VIn w a n c vs) (hf : Fr X w w') (ho : Off X (.slice a n c)) : VIn w' a n c vs := by
  refine ⟨h.len, h.cap, h.small, fun hp => ?_, h.ok⟩
  obtain ⟨B, o, e, hB, hr⟩ := h.row hp
  have hX : ¬ X B := ho B (by subst e; rfl)
  exact ⟨B, o, e, Nat.lt_of_lt_of_le hB hf.size, fun i x hx j v hj => (hf.cell (p := ⟨B, _, none⟩) hB hX).trans (hr i x hx j v hj)⟩
theorem VIn.below {w w' : World} {a : Option Addr} {n c : Nat} {vs : List Vd} (h : VIn w a n c vs) (hb : Below w.heap.size w w') : VIn w' a n c vs := h.fr (X := fun _ => False) (Fr.of_below hb) (fun _ _ h => h)
theorem VIn.cell {w : World} {a : Option Addr} {n c : Nat} {vs : List Vd} (h : VIn w a n c vs) {i : Nat} (hi : i < n) : ∃ (x : Vd) (B o : Nat), vs[i]? = some x ∧ x ∈ vs ∧ a = some ⟨B, o, none⟩ ∧ B < w.heap.size ∧ w.rangeAt B (o + i * 5) x.cells := by
  obtain ⟨B, o, e, hB, hr⟩ := h.row (by omega)
  have hx : vs[i]? = some (vs[i]'(by rw [h.len]; exact hi)) := List.getElem?_eq_getElem _
  exact ⟨_, B, o, hx, List.getElem_mem _, e, hB, hr i _ hx⟩
/-- Without its first one. -/
theorem VIn.tail {w : World} {B o n c : Nat} {x : Vd} {vs : List Vd} (h : VIn w (some ⟨B, o, none⟩) (n + 1) c (x :: vs)) : VIn w (some ⟨B, o + 5, none⟩) n (c - 1) vs := by
  have h1 := h.len
  have h2 := h.cap
  have h3 := h.small
  refine ⟨by simpa using h1, by omega, by omega, fun hp => ?_, fun y hy => h.ok y (by simp [hy])⟩
  obtain ⟨B', o', e, hB, hr⟩ := h.row (by omega)
  cases e
  exact ⟨B, o + 5, rfl, hB, fun i y hy => by
    have := hr (i + 1) y (by simpa using hy)
    rwa [show o + (i + 1) * 5 = o + 5 + i * 5 by omega] at this⟩
/-- As a source of append. -/
theorem VIn.src {w : World} {a : Option Addr} {n c : Nat} {vs : List Vd} {tx e' : TypeId} (h : VIn w a n c vs) (hk : Try.prog.underlying tx = some (.slice e')) : Src Try.prog 5 tx (.slice a n c) vs.length (cellsL vs) w := by
  have hl := h.len
  by_cases h0 : n = 0
  · subst h0
    obtain rfl : vs = [] := List.eq_nil_of_length_eq_zero hl
    cases a with
    | none => exact Src.ofNil w hk c
    | some a => exact Src.ofSlice w hk a 0 c [] rfl (fun j u hj => by simp at hj) (fun _ h => by cases h)
  · obtain ⟨B, o, rfl, hB, hr⟩ := h.row (by omega)
    have := Src.ofSlice (P := Try.prog) (size := 5) w hk ⟨B, o, none⟩ n c (cellsL vs) (by rw [cellsL_len, hl]) (fun j u hj => by
      have hj5 : j < vs.length * 5 := by
        have := (List.getElem?_eq_some_iff.1 hj).1
        rwa [cellsL_len] at this
      have hx : vs[j / 5]? = some (vs[j / 5]'(by omega)) := List.getElem?_eq_getElem _
      have hc : (vs[j / 5]'(by omega)).cells[j % 5]? = some ((vs[j / 5]'(by omega)).cells[j % 5]'(by rw [cells_len]; omega)) := List.getElem?_eq_getElem _
      have h1 := cellsL_get vs (j / 5) _ hx (j % 5) _ hc
      have h2 := hr (j / 5) _ hx (j % 5) _ hc
      rw [show j / 5 * 5 + j % 5 = j by omega, hj] at h1
      rw [Addr.add_mid, show o + j = o + j / 5 * 5 + j % 5 by omega, h2, h1]) (one_cells vs)
    rw [hl]
    exact this

/-! ### append of rows -/
theorem app_row {P : Program} (w : World) (t tx ty e : TypeId) (i : TypeInfo) (z : Value) (ht : P.underlying t = some (.slice e)) (hi : P.info? e = some i) (hz : i.zero = some z) (sz : Nat) (hs1 : i.size = sz) (hb1 : i.bytes ≤ 64) (hzs : z.cells.size = sz)
    (v x : Value) (n m : Nat) (olds news : List Value) (hO : w.ownsRow 0 e sz v n olds) (hx : Src P sz tx x m news w) (hlen : n + m ≤ 1073741824) :
    ∃ v' w', (Builtin.append_ #[t, tx] ty #[v, x]).run P w = .ok v' w' ∧ w'.ownsRow 0 e sz v' (n + m) (olds ++ news) ∧ Fr (fun k => v.ownBlock = some k) w w' ∧ NewOr w v v' := by
  subst hs1
  have hol := hO.1
  have hnl := hx.newsLen
  have hfit : (n + m) * i.bytes ≤ 140737488355328 := Nat.le_trans (Nat.mul_le_mul hlen hb1) (by decide)
  have hsum : (olds ++ news).length = (n + m) * i.size := by rw [List.length_append, hol, hnl, Nat.add_mul]
  have grown : ∀ (old : Nat), old < n + m → ∀ (row : Nat → Prop),
      (w.drew.alloc (.cells ((olds ++ news).toArray ++ Builtin.zeroCells z.cells (grownCap w (n + m) old e - (n + m))) e)).ownsRow 0 e i.size
        (.slice (some ⟨w.heap.size, 0, none⟩) (n + m) (grownCap w (n + m) old e)) (n + m) (olds ++ news) ∧
      Fr row w (w.drew.alloc (.cells ((olds ++ news).toArray ++ Builtin.zeroCells z.cells (grownCap w (n + m) old e - (n + m))) e)) := by
    intro old ho row
    have hge := grownCap_ge w (n + m) old e
    have hcm : grownCap w (n + m) old e ≤ maxLen := grownCap_le_maxLen w (n + m) old e (by unfold maxLen; omega)
    refine ⟨⟨hsum, .inr ⟨w.heap.size, _, _, rfl, Nat.zero_le _, heap_alloc_new w.drew _, hge, hcm, ?_, ?_⟩⟩, (Fr.refl row w).drew.alloc _⟩
    · rw [Array.size_append, List.size_toArray, hsum, size_zeroCells, hzs, ← Nat.add_mul]
      congr 1
      omega
    · simp only [Array.toList_append]
      exact List.take_left' hsum
  obtain ⟨hl, ⟨rfl, hz0⟩ | ⟨g, cap, cur, rfl, hb, hg, h1, h2, h3, h4⟩⟩ := hO
  · subst hz0
    have he : olds = [] := List.eq_nil_of_length_eq_zero (by rw [hl]; simp)
    subst he
    by_cases hm : m = 0
    · subst hm
      have hn : news = [] := List.eq_nil_of_length_eq_zero (by rw [hnl]; simp)
      subst hn
      refine ⟨.slice none 0 0, w, ?_, World.ownsRow_nil w 0 e i.size, Fr.refl _ w, NewOr.refl w _⟩
      have hc := hx.cells
      have hL := hx.len
      rcases hx.kind with ⟨e', hk⟩ | hk <;> simp [Builtin.append_, run_underlying ht, run_underlying hk, sizeOf, typeInfo, hi, hL] <;> simp_all
    · have hr := run_append_grow_src (P := P) w t tx ty e i z ht hi hz none 0 0 [] (run_firstCells_none w.drew i.size 0 0 0) x m news hx (by omega) (by omega) (growslice_fits (by omega) (by simpa using hfit))
      have hgr := grown 0 (by omega) (fun k => (Value.slice none 0 0).ownBlock = some k)
      simp only [Nat.zero_add, List.nil_append] at hgr hr ⊢
      exact ⟨_, _, hr, hgr.1, hgr.2, fun k hk => .inr (by simp [Value.ownBlock] at hk; omega)⟩
  · by_cases hroom : n + m ≤ cap
    · have hg' : w.heap[g]? = some (.cells cur.toList.toArray e (0, 0)) := by simpa using hg
      have hcl : cur.toList.length = cap * i.size := by simp [h3]
      have hin0 : n * i.size + m * i.size ≤ cap * i.size := by rw [← Nat.add_mul]; exact Nat.mul_le_mul_right _ hroom
      have hin : ∀ j, j < news.length → (w.cell? ⟨g, 0 + n * i.size + j, none⟩).isSome = true := fun j hj => by
        rw [hnl] at hj
        simp only [World.cell?, hg, Nat.zero_add]
        simp [h3]
        omega
      have hr := run_append_room_src (P := P) w t tx ty e i ht hi g 0 n cap x m news hx hroom hin (fun j _ => by simp [World.frozen?, hg])
      simp only [Nat.zero_add] at hr
      have hA := heap_setCells_one g e news (n * i.size) cur.toList w hg' (by rw [hnl, hcl]; exact hin0)
      refine ⟨_, _, hr, ⟨hsum, .inr ⟨g, cap, _, rfl, Nat.zero_le _, hA, hroom, h2, ?_, ?_⟩⟩, ?_, NewOr.refl w _⟩
      · simp only [List.size_toArray, List.length_append, List.length_take, List.length_drop, hnl, Array.length_toList, h3]
        omega
      · have := putL_take news cur.toList (n * i.size) (by rw [hnl, hcl]; exact hin0)
        rw [Nat.add_mul, ← hnl]
        rw [this]
        congr 1
      · exact (fr_setCells g news (n * i.size) w w (Fr.refl _ w)).mono (fun k _ hk => by subst hk; rfl)
    · have holds : ∀ j u, olds[j]? = some u → w.drew.cell? ((⟨g, 0, none⟩ : Addr).add j) = some u := fun j u hj => by
        have := World.ownsRow.cells (w := w) (base := 0) (e := e) (size := i.size) (v := .slice (some ⟨g, 0, none⟩) n cap) ⟨hl, .inr ⟨g, cap, cur, rfl, hb, hg, h1, h2, h3, h4⟩⟩ (g := g) rfl j u hj
        simpa using this
      have hr := run_append_grow_src (P := P) w t tx ty e i z ht hi hz (some ⟨g, 0, none⟩) n cap olds (run_firstCells_some w.drew i.size n ⟨g, 0, none⟩ n cap olds hol holds) x m news hx (by omega) (by omega) (growslice_fits (by omega) hfit)
      have hgr := grown cap (by omega) (fun k => (Value.slice (some ⟨g, 0, none⟩) n cap).ownBlock = some k)
      exact ⟨_, _, hr, hgr.1, hgr.2, fun k hk => .inr (by simp [Value.ownBlock] at hk; omega)⟩

/-- A list of validators in memory of its own. -/
structure OwnV (w : World) (v : Value) (vs : List Vd) : Prop where
  own : w.ownsRow 0 100 5 v vs.length (cellsL vs)
  ok : ∀ x ∈ vs, x.ok
theorem OwnV.nil (w : World) : OwnV w (.slice none 0 0) [] := ⟨World.ownsRow_nil w 0 _ 5, fun _ h => by cases h⟩
theorem OwnV.lt {w : World} {v : Value} {vs : List Vd} (h : OwnV w v vs) : ∀ k, v.ownBlock = some k → k < w.heap.size := by
  obtain ⟨⟨_, ⟨rfl, _⟩ | ⟨g, cap, cur, rfl, _, hg, _⟩⟩, _⟩ := h
  · intro k hk
    simp [Value.ownBlock] at hk
  · intro k hk
    simp [Value.ownBlock] at hk
    subst hk
    exact (Array.getElem?_eq_some_iff.1 hg).1
theorem OwnV.fr {X : Nat → Prop} {w w' : World} {v : Value} {vs : List Vd} (h : OwnV w v vs) (hf : Fr X w w') (ho : Off X v) : OwnV w' v vs := by
  have hlt := h.lt
  obtain ⟨⟨hl, ⟨rfl, h0⟩ | ⟨g, cap, cur, rfl, hb, hg, hr⟩⟩, hok⟩ := h
  · exact ⟨⟨hl, .inl ⟨rfl, h0⟩⟩, hok⟩
  · exact ⟨⟨hl, .inr ⟨g, cap, cur, rfl, hb, (hf.block g (hlt g rfl) (ho g rfl)).trans hg, hr⟩⟩, hok⟩
theorem OwnV.below {w w' : World} {v : Value} {vs : List Vd} (h : OwnV w v vs) (hb : Below w.heap.size w w') : OwnV w' v vs := h.fr (X := fun _ => False) (Fr.of_below hb) (fun _ _ h => h)
theorem OwnV.len_of {w : World} {v : Value} {vs : List Vd} (h : OwnV w v vs) : ∃ a cap, v = .slice a vs.length cap := by
  obtain ⟨⟨_, ⟨rfl, h0⟩ | ⟨g, cap, cur, rfl, _⟩⟩, _⟩ := h
  · exact ⟨none, 0, by rw [h0]⟩
  · exact ⟨_, _, rfl⟩
theorem OwnV.vin {w : World} {a : Option Addr} {n c : Nat} {vs : List Vd} (h : OwnV w (.slice a n c) vs) : VIn w a n c vs := by
  have hlt := h.lt
  have hc := fun g => World.ownsRow.cells (w := w) (base := 0) (e := 100) (size := 5) (v := .slice a n c) (n := vs.length) (xs := cellsL vs) h.own (g := g)
  obtain ⟨⟨hl, ⟨e, h0⟩ | ⟨g, cap, cur, e, hb, hg, h1, h2, h3, h4⟩⟩, hok⟩ := h
  · cases e
    obtain rfl : vs = [] := List.eq_nil_of_length_eq_zero h0
    exact VIn.nil w none 0 (by decide)
  · cases e
    refine ⟨rfl, h1, by unfold maxLen at h2; omega, fun hp => ⟨g, 0, rfl, hlt g rfl, fun i x hx j v hj => ?_⟩, hok⟩
    have h5 := cellsL_get vs i x hx j v hj
    have h6 := hc g rfl _ _ h5
    rw [Addr.add_mid] at h6
    rw [show 0 + i * 5 + j = 0 + (i * 5 + j) by omega]
    exact h6
/-- append of validators onto memory of its own. -/
theorem app_vals (w : World) (tx ty : TypeId) (v x : Value) (olds news : List Vd) (hO : OwnV w v olds) (hx : Src Try.prog 5 tx x news.length (cellsL news) w) (hok : ∀ y ∈ news, y.ok) (hlen : olds.length + news.length ≤ 1073741824) :
    ∃ v' w', (Builtin.append_ #[80, tx] ty #[v, x]).run Try.prog w = .ok v' w' ∧ OwnV w' v' (olds ++ news) ∧ Fr (fun k => v.ownBlock = some k) w w' ∧ NewOr w v v' := by
  obtain ⟨i0, hi, hz0, hz1, hz2⟩ := info_parts (show (Try.prog.info? 100).map (fun i => (i.zero, i.size, i.bytes)) = some (some (.agg #[.int .u8 0, .int .u8 0, .int .u8 0, .int .u8 0, .int .i64 0]), 5, 16) by kernel_rfl)
  obtain ⟨v', w', h1, h2, h3, h4⟩ := app_row (P := Try.prog) w 80 tx ty 100 i0 _ Try.underlying80 hi hz0 5 hz1 (by omega) rfl v x olds.length news.length (cellsL olds) (cellsL news) hO.own hx hlen
  refine ⟨v', w', h1, ⟨?_, fun y hy => ?_⟩, h3, h4⟩
  · rw [List.length_append, cellsL_app]
    exact h2
  · rcases List.mem_append.1 hy with hy | hy
    · exact hO.ok y hy
    · exact hok y hy
/-- One validator in a variable of its own, as a source. -/
theorem src_one {w : World} {tx e' : TypeId} (hk : Try.prog.underlying tx = some (.slice e')) (g o c : Nat) (x : Vd) (h : w.rangeAt g o x.cells) : Src Try.prog 5 tx (.slice (some ⟨g, o, none⟩) 1 c) 1 (cellsL [x]) w := by
  have e : cellsL [x] = x.cells := by simp [cellsL]
  exact Src.ofSlice w hk ⟨g, o, none⟩ 1 c (cellsL [x]) (by rw [cellsL_len]; rfl) (fun j u hj => by rw [Addr.add_mid]; rw [e] at hj; exact h j u hj) (one_cells [x])
end ValA
end Go.Proofs.Ytackcnncjeajpaa

namespace Go.Proofs.Ytackcnncjeajpaa
namespace ValB
open Go.RowKit Go.Lib
open BlkM WirM WirS ValA

def bts (l : List Int) : List UInt8 := l.map fun n => n.toNat.toUInt8
def cmpI (l m : List Int) : Int := compareBytes (bts l) (bts m)
theorem acmp (g h : Nat) (l m : List Int) (hl : l.length = 4) (hm : m.length = 4) (W : World) (a : At W g 36 (b8 l)) (b : At W h 36 (b8 m)) :
    (callFunc 202 #[.slice (some ⟨g, 0, none⟩) 4 4, .slice (some ⟨h, 0, none⟩) 4 4]).run Try.prog W = .ok (.value (.int .i64 (cmpI l m))) W := by
  have ld : ∀ (x : Nat) (z : List Int), z.length = 4 → At W x 36 (b8 z) → (Extern.Bytes.bytesOf (.slice (some ⟨x, 0, none⟩) 4 4)).run Try.prog W = .ok ⟨(bts z).toArray⟩ W := fun x z hz hx => by
    have := run_loadBytesX (P := Try.prog) W z ⟨x, 0, none⟩ .empty (fun j y hj => by
      have hjl : j < z.length := (List.getElem?_eq_some_iff.1 hj).1
      rw [Addr.add_mid, Nat.zero_add, hx.cell, b8_get z j hjl, List.getD_eq_getElem?_getD, hj]
      rfl)
    rw [hz] at this
    simp only [Extern.Bytes.bytesOf]
    rw [this]
    congr 1
    apply ByteArray.ext
    simp [Lib.bytesOf, bts]
  rw [run_callFunc_extern Try.func202 (by kernel_rfl) (by kernel_rfl) (by kernel_rfl) (e := Extern.BytealgCompare.compare) (by kernel_rfl)]
  have h2 : (Extern.BytealgCompare.compare #[.slice (some ⟨g, 0, none⟩) 4 4, .slice (some ⟨h, 0, none⟩) 4 4]).run Try.prog W = .ok (.int .i64 (cmpI l m)) W := by
    change Sem.run Try.prog (do pure (goInt (Extern.BytealgCompare.cmp (← Extern.Bytes.bytesOf (.slice (some ⟨g, 0, none⟩) 4 4)) (← Extern.Bytes.bytesOf (.slice (some ⟨h, 0, none⟩) 4 4))))) W = _
    simp only [Sem.run_bind, Sem.run_pure, Result.andThen, ld g l hl a, ld h m hm b]
    rw [cmp_eq]
    rfl
  rw [h2]
  rfl
set_option maxHeartbeats 400000 in
theorem bcmp_any (g h : Nat) (l m : List Int) (hl : l.length = 4) (hm : m.length = 4) (w : World) (a : At w g 36 (b8 l)) (b : At w h 36 (b8 m)) :
    Calls Try.prog 199 #[.slice (some ⟨g, 0, none⟩) 4 4, .slice (some ⟨h, 0, none⟩) 4 4] w fun e w' => e = .returned (.int .i64 (cmpI l m)) ∧ w = w' := by
  have H := acmp g h l m hl hm w a b
  clear a b
  generalize cmpI l m = r at *
  go_enter Try.func199, Try.ntmps199
  go_wp2
  go_ret
  exact ⟨rfl, rfl⟩
theorem u8_lt (a b : Nat) (ha : a < 256) (hb : b < 256) : (a.toUInt8 < b.toUInt8) ↔ a < b := by
  rw [UInt8.lt_iff_toNat_lt]
  simp [Nat.mod_eq_of_lt ha, Nat.mod_eq_of_lt hb]
theorem cmp_cons (x y : Int) (l m : List Int) (hx : 0 ≤ x ∧ x < 256) (hy : 0 ≤ y ∧ y < 256) : cmpI (x :: l) (y :: m) = if x < y then -1 else if y < x then 1 else cmpI l m := by
  show (if x.toNat.toUInt8 < y.toNat.toUInt8 then (-1 : Int) else if y.toNat.toUInt8 < x.toNat.toUInt8 then 1 else compareBytes (bts l) (bts m)) = _
  simp only [u8_lt _ _ (show x.toNat < 256 by omega) (show y.toNat < 256 by omega), u8_lt _ _ (show y.toNat < 256 by omega) (show x.toNat < 256 by omega), show x.toNat < y.toNat ↔ x < y by omega, show y.toNat < x.toNat ↔ y < x by omega]
  rfl
/-- Which of two numbers is less. -/
def cmpR (r s : Int) : Int := if r < s then -1 else if s < r then 1 else 0
theorem cmpR_le (r s : Int) : cmpR r s ≤ 0 ↔ r ≤ s := by unfold cmpR; split <;> (try split) <;> omega
theorem cmpR_lt (r s : Int) : cmpR r s < 0 ↔ r < s := by unfold cmpR; split <;> (try split) <;> omega
theorem cmp_key {x y : Vd} (hx : x.ok) (hy : y.ok) : cmpI x.key y.key = cmpR x.rk y.rk := by
  obtain ⟨a, b, c, d, _⟩ := hx
  obtain ⟨a', b', c', d', _⟩ := hy
  unfold Vd.key
  rw [cmp_cons _ _ _ _ a a', cmp_cons _ _ _ _ b b', cmp_cons _ _ _ _ c c', cmp_cons _ _ _ _ d d', show cmpI [] [] = 0 from rfl]
  unfold cmpR Vd.rk
  repeat' split
  all_goals omega
/-- A key as a value. -/
def Vd.keyV (x : Vd) : Value := .agg #[.int .u8 x.a, .int .u8 x.b, .int .u8 x.c, .int .u8 x.d]
theorem keyV_b8 (x : Vd) : Vd.keyV x = .agg (b8 x.key).toArray := rfl
set_option maxRecDepth 10000 in
set_option maxHeartbeats 1000000 in
theorem compare_b8 (w : World) (l m : List Int) (hl : l.length = 4) (hm : m.length = 4) :
    Calls Try.prog 189 #[.agg (b8 l).toArray, .agg (b8 m).toArray] w fun e w' => e = .returned (.int .i64 (cmpI l m)) ∧ Below w.heap.size w w' := by
  obtain ⟨W0, eW0⟩ : ∃ X, X = (w.alloc (.cells (b8 l).toArray 36)).alloc (.cells (b8 m).toArray 36) := ⟨_, rfl⟩
  have hA : At W0 w.heap.size 36 (b8 l) := by rw [eW0]; exact At.alloc (At.new w _ _) _
  have hB : At W0 (w.heap.size + 1) 36 (b8 m) := by
    rw [eW0]
    have := At.new (w.alloc (.cells (b8 l).toArray 36)) 36 (b8 m)
    rw [World.size_alloc] at this
    exact this
  have hb0 : Below w.heap.size w W0 := by rw [eW0]; exact Below.alloc (Below.alloc (Below.refl _ _) (Nat.le_refl _) _) (by simp) _
  have HC := WirS.hide (bcmp_any w.heap.size (w.heap.size + 1) l m hl hm W0.drew hA hB)
  have HB0 := WirS.hide hb0.drew
  have E0 := WirS.hide eW0
  have hsl : ∀ (g : Nat) (Y : World), (Instr.sliceAt 36 (.pointer (some ⟨g, 0, none⟩)) none none none).run Try.prog Y = .ok (.slice (some ⟨g, 0, none⟩) 4 4) Y := by
    intro g Y
    kernel_rfl
  clear eW0 hA hB hb0
  go_enter Try.func189, Try.ntmps189
  go_upto_region 1 with (fail)
  rw [← E0.out]
  go_still_tail 2, (by kernel_rfl)
  go_wp2_with ((go_at_call 199; refine (show Calls _ _ _ _ _ from HC.out).mono ?_; rintro e w1 ⟨rfl, rfl⟩))
  go_ret
  exact ⟨rfl, HB0.out⟩
theorem compare_any (w : World) (x y : Vd) (hx : x.ok) (hy : y.ok) :
    Calls Try.prog 189 #[Vd.keyV x, Vd.keyV y] w fun e w' => e = .returned (.int .i64 (cmpR x.rk y.rk)) ∧ Below w.heap.size w w' := by
  have h := compare_b8 w x.key y.key rfl rfl
  rw [cmp_key hx hy] at h
  exact h

/-! ### row.next -/
/-- A row's cells: the least power, the validator that came last. -/
def rcl (least : Int) : Option Vd → List Value
  | none => [.int .i64 least, .bool false, .int .u8 0, .int .u8 0, .int .u8 0, .int .u8 0]
  | some q => [.int .i64 least, .bool true, .int .u8 q.a, .int .u8 q.b, .int .u8 q.c, .int .u8 q.d]
/-- It does not come behind the one before. -/
def late : Option Vd → Vd → Bool
  | none, _ => false
  | some q, v => decide (v.rk ≤ q.rk)
def nextE (least : Int) (q : Option Vd) (v : Vd) : Int :=
  if late q v = true then 9 else if v.p < least ∨ 4611686018427387904 < v.p then 3 else 0
def Vd.val (v : Vd) : Value := .agg #[.int .u8 v.a, .int .u8 v.b, .int .u8 v.c, .int .u8 v.d, .int .i64 v.p]
def NextP (w : World) (R : Nat) (least : Int) (q : Option Vd) (v : Vd) (e : Ending) (w' : World) : Prop :=
  e = .returned (.int .i64 (nextE least q v)) ∧ At w' R 166 (rcl least (if nextE least q v = 0 then some v else q)) ∧ Fr (fun k => k = R) w w'
end ValB
end Go.Proofs.Ytackcnncjeajpaa

namespace Go.Proofs.Ytackcnncjeajpaa
namespace ValC
open Go.RowKit
open BlkM WirM WirS WirA WirB ValA ValB

theorem keepAt {w w1 : World} {R : Nat} {T : TypeId} {cs : List Value} (h : At w R T cs) (hb : Below w.heap.size w w1) : At w1 R T cs := h.below hb h.lt
theorem nextP_ok {w W : World} {R : Nat} {least : Int} {q : Option Vd} {v : Vd} (hE : nextE least q v = 0) (hA : At W R 166 (rcl least (some v))) (hF : Fr (fun k => k = R) w W) : NextP w R least q v (.returned (.int .i64 0)) W := by
  refine ⟨by rw [hE], ?_, hF⟩
  rw [hE, if_pos rfl]
  exact hA
theorem nextP_of {w W : World} {R : Nat} {least : Int} {q : Option Vd} {v : Vd} {c : Int} (hE : nextE least q v = c) (hc : ¬ c = 0) (hA : At W R 166 (rcl least q)) (hF : Fr (fun k => k = R) w W) : NextP w R least q v (.returned (.int .i64 c)) W := by
  refine ⟨by rw [hE], ?_, hF⟩
  rw [hE, if_neg hc]
  exact hA
set_option maxRecDepth 10000 in
set_option maxHeartbeats 2000000 in
theorem next_range (w : World) (R : Nat) (least : Int) (v : Vd) (h : At w R 166 (rcl least none)) (hp : v.p < least ∨ 4611686018427387904 < v.p) :
    Calls Try.prog 151 #[.pointer (some ⟨R, 0, none⟩), Vd.val v] w (NextP w R least none v) := by
  have hE : nextE least none v = 3 := by unfold nextE late; simp [hp]
  have HE := WirS.hide hE
  obtain ⟨W0, e0⟩ : ∃ X, X = w.alloc (.cells #[.int .u8 v.a, .int .u8 v.b, .int .u8 v.c, .int .u8 v.d, .int .i64 v.p] 100) := ⟨_, rfl⟩
  have hR0 : At W0 R 166 (rcl least none) := by rw [e0]; exact h.alloc _
  have hA : At W0 w.heap.size 100 v.cells := by rw [e0]; exact At.new w _ _
  have c0 : W0.cell? ⟨R, 0, none⟩ = some (.int .i64 least) := hR0.cell 0
  have c1 : W0.cell? ⟨R, 1, none⟩ = some (.bool false) := hR0.cell 1
  have a4 : W0.cell? ⟨w.heap.size, 4, none⟩ = some (.int .i64 v.p) := hA.cell 4
  have hF := WirS.hide (show Fr (fun k => k = R) w W0 by rw [e0]; exact (Fr.refl _ w).alloc _)
  have HR := WirS.hide hR0
  have E0 := WirS.hide e0
  clear h e0 hE hA hR0
  unfold Vd.val
  go_enter Try.func151, Try.ntmps151
  go_upto_region 1 with fail
  rw [← E0.out]
  clear E0
  rcases hp with hp | hp
  · have hd : decide (v.p < least) = true := by simpa using hp
    generalize w.heap.size = X at *
    go_quiet (fail)
    go_upto_region 3 with fail
    go_quiet (fail)
    go_wp2_with fail
    go_ret
    exact nextP_of HE.out (by decide) HR.out (by first | exact WirB.Fr.drewN (WirB.Fr.drewN hF.out _) _ | exact WirB.Fr.drewN hF.out _)
  · by_cases hl : v.p < least
    · have hd : decide (v.p < least) = true := by simpa using hl
      generalize w.heap.size = X at *
      go_quiet (fail)
      go_upto_region 3 with fail
      go_quiet (fail)
      go_wp2_with fail
      go_ret
      exact nextP_of HE.out (by decide) HR.out (by first | exact WirB.Fr.drewN (WirB.Fr.drewN hF.out _) _ | exact WirB.Fr.drewN hF.out _)
    · have hd : decide (v.p < least) = false := by simpa using hl
      have hd2 : decide (4611686018427387904 < v.p) = true := by simpa using hp
      generalize w.heap.size = X at *
      go_quiet (fail)
      go_upto_region 3 with fail
      go_quiet (fail)
      go_wp2_with fail
      go_ret
      exact nextP_of HE.out (by decide) HR.out (by first | exact WirB.Fr.drewN (WirB.Fr.drewN hF.out _) _ | exact WirB.Fr.drewN hF.out _)
set_option maxRecDepth 10000 in
set_option maxHeartbeats 2000000 in
theorem next_first (w : World) (R : Nat) (least : Int) (v : Vd) (h : At w R 166 (rcl least none)) (hp : ¬ (v.p < least ∨ 4611686018427387904 < v.p)) :
    Calls Try.prog 151 #[.pointer (some ⟨R, 0, none⟩), Vd.val v] w (NextP w R least none v) := by
  have hE : nextE least none v = 0 := by unfold nextE late; simp; omega
  have HE := WirS.hide hE
  obtain ⟨W0, e0⟩ : ∃ X, X = w.alloc (.cells #[.int .u8 v.a, .int .u8 v.b, .int .u8 v.c, .int .u8 v.d, .int .i64 v.p] 100) := ⟨_, rfl⟩
  have hR0 : At W0 R 166 (rcl least none) := by rw [e0]; exact h.alloc _
  have hA : At W0 w.heap.size 100 v.cells := by rw [e0]; exact At.new w _ _
  have c0 : W0.cell? ⟨R, 0, none⟩ = some (.int .i64 least) := hR0.cell 0
  have c1 : W0.cell? ⟨R, 1, none⟩ = some (.bool false) := hR0.cell 1
  have a4 : W0.cell? ⟨w.heap.size, 4, none⟩ = some (.int .i64 v.p) := hA.cell 4
  have hF := WirS.hide (show Fr (fun k => k = R) w W0 by rw [e0]; exact (Fr.refl _ w).alloc _)
  have HR := WirS.hide hR0
  have HA := WirS.hide hA
  have E0 := WirS.hide e0
  have hd : decide (v.p < least) = false := by simp; omega
  have hd2 : decide (4611686018427387904 < v.p) = false := by simp; omega
  have hne := h.lt
  clear h e0 hE hA hR0 hp
  unfold Vd.val
  go_enter Try.func151, Try.ntmps151
  go_upto_region 1 with fail
  rw [← E0.out]
  clear E0
  generalize w.heap.size = X at *
  go_quiet (fail)
  go_upto_region 3 with fail
  go_quiet (fail)
  go_upto_region 5 with fail
  generalize hW : World.drewN (World.drewN W0 _) _ = W1
  have hR1 : At W1 R 166 (rcl least none) := by rw [← hW]; exact HR.out
  have hA1 : At W1 X 100 v.cells := by rw [← hW]; exact HA.out
  have HF1 := WirS.hide (show Fr (fun k => k = R) w W1 by rw [← hW]; first | exact WirB.Fr.drewN (WirB.Fr.drewN hF.out _) _ | exact WirB.Fr.drewN hF.out _)
  clear c0 c1 a4 HR HA hF hW
  have c0 : W1.cell? ⟨R, 0, none⟩ = some (.int .i64 least) := hR1.cell 0
  have c1 : W1.cell? ⟨R, 1, none⟩ = some (.bool false) := hR1.cell 1
  have c2 : W1.cell? ⟨R, 2, none⟩ = some (.int .u8 0) := hR1.cell 2
  have c3 : W1.cell? ⟨R, 3, none⟩ = some (.int .u8 0) := hR1.cell 3
  have c4 : W1.cell? ⟨R, 4, none⟩ = some (.int .u8 0) := hR1.cell 4
  have c5 : W1.cell? ⟨R, 5, none⟩ = some (.int .u8 0) := hR1.cell 5
  have f1 := hR1.frozen 1
  have f2 := hR1.frozen 2
  have f3 := hR1.frozen 3
  have f4 := hR1.frozen 4
  have f5 := hR1.frozen 5
  have a0 : W1.cell? ⟨X, 0, none⟩ = some (.int .u8 v.a) := hA1.cell 0
  have a1 : W1.cell? ⟨X, 1, none⟩ = some (.int .u8 v.b) := hA1.cell 1
  have a2 : W1.cell? ⟨X, 2, none⟩ = some (.int .u8 v.c) := hA1.cell 2
  have a3 : W1.cell? ⟨X, 3, none⟩ = some (.int .u8 v.d) := hA1.cell 3
  have HR1 := WirS.hide hR1
  clear hR1 hA1
  go_region
  go_wp2_with fail
  go_ret
  exact nextP_ok HE.out (((((HR1.out.setCell 1 _).setCell 2 _).setCell 3 _).setCell 4 _).setCell 5 _) ((((((HF1.out.setCell R 1 _ (fun _ => rfl)).setCell R 2 _ (fun _ => rfl)).setCell R 3 _ (fun _ => rfl)).setCell R 4 _ (fun _ => rfl)).setCell R 5 _ (fun _ => rfl)).drew)
set_option maxRecDepth 10000 in
set_option maxHeartbeats 2000000 in
theorem next_late (w : World) (R : Nat) (least : Int) (q v : Vd) (hq : q.ok) (hv : v.ok) (h : At w R 166 (rcl least (some q))) (hl : v.rk ≤ q.rk) :
    Calls Try.prog 151 #[.pointer (some ⟨R, 0, none⟩), Vd.val v] w (NextP w R least (some q) v) := by
  have hE : nextE least (some q) v = 9 := by unfold nextE late; simp [hl]
  have HE := WirS.hide hE
  have HC := WirS.hide (fun U => show Calls Try.prog 189 #[.agg #[.int .u8 v.a, .int .u8 v.b, .int .u8 v.c, .int .u8 v.d], .agg #[.int .u8 q.a, .int .u8 q.b, .int .u8 q.c, .int .u8 q.d]] U (fun e w' => e = .returned (.int .i64 (cmpR v.rk q.rk)) ∧ Below U.heap.size U w') from compare_any U v q hv hq)
  have hK : cmpR v.rk q.rk ≤ 0 := (cmpR_le _ _).2 hl
  clear hl
  generalize cmpR v.rk q.rk = K at *
  obtain ⟨W0, e0⟩ : ∃ X, X = w.alloc (.cells #[.int .u8 v.a, .int .u8 v.b, .int .u8 v.c, .int .u8 v.d, .int .i64 v.p] 100) := ⟨_, rfl⟩
  have hR0 : At W0 R 166 (rcl least (some q)) := by rw [e0]; exact h.alloc _
  have hA : At W0 w.heap.size 100 v.cells := by rw [e0]; exact At.new w _ _
  have c1 : W0.cell? ⟨R, 1, none⟩ = some (.bool true) := hR0.cell 1
  have c2 : W0.cell? ⟨R, 2, none⟩ = some (.int .u8 q.a) := hR0.cell 2
  have c3 : W0.cell? ⟨R, 3, none⟩ = some (.int .u8 q.b) := hR0.cell 3
  have c4 : W0.cell? ⟨R, 4, none⟩ = some (.int .u8 q.c) := hR0.cell 4
  have c5 : W0.cell? ⟨R, 5, none⟩ = some (.int .u8 q.d) := hR0.cell 5
  have a0 : W0.cell? ⟨w.heap.size, 0, none⟩ = some (.int .u8 v.a) := hA.cell 0
  have a1 : W0.cell? ⟨w.heap.size, 1, none⟩ = some (.int .u8 v.b) := hA.cell 1
  have a2 : W0.cell? ⟨w.heap.size, 2, none⟩ = some (.int .u8 v.c) := hA.cell 2
  have a3 : W0.cell? ⟨w.heap.size, 3, none⟩ = some (.int .u8 v.d) := hA.cell 3
  have HF := WirS.hide (show Fr (fun k => k = R) w W0 by rw [e0]; exact (Fr.refl _ w).alloc _)
  have HR := WirS.hide hR0
  have HA := WirS.hide hA
  have E0 := WirS.hide e0
  have hne := h.lt
  clear h e0 hE hA hR0
  unfold Vd.val
  go_enter Try.func151, Try.ntmps151
  go_upto_region 1 with fail
  rw [← E0.out]
  clear E0
  generalize w.heap.size = X at *
  go_region_held3 (fun w' => w'.cell? ⟨R, 1, none⟩ = some (.bool true) ∧ w'.cell? ⟨R, 2, none⟩ = some (.int .u8 q.a) ∧ w'.cell? ⟨R, 3, none⟩ = some (.int .u8 q.b) ∧ w'.cell? ⟨R, 4, none⟩ = some (.int .u8 q.c) ∧ w'.cell? ⟨R, 5, none⟩ = some (.int .u8 q.d) ∧ w'.cell? ⟨X, 0, none⟩ = some (.int .u8 v.a) ∧ w'.cell? ⟨X, 1, none⟩ = some (.int .u8 v.b) ∧ w'.cell? ⟨X, 2, none⟩ = some (.int .u8 v.c) ∧ w'.cell? ⟨X, 3, none⟩ = some (.int .u8 v.d)) (go_keep)
    (first | (go_at_call 189; refine (HC.out _).mono ?_; rintro e w1 ⟨rfl, hb⟩; have hb1 : Below W0.heap.size W0 w1 := (below_drewN (Below.refl _ _) 1).trans hb; have hR2 := keepAt HR.out hb1; have hA2 := keepAt HA.out hb1; have d1 : w1.cell? ⟨R, 1, none⟩ = some (.bool true) := hR2.cell 1; have d2 : w1.cell? ⟨R, 2, none⟩ = some (.int .u8 q.a) := hR2.cell 2; have d3 : w1.cell? ⟨R, 3, none⟩ = some (.int .u8 q.b) := hR2.cell 3; have d4 : w1.cell? ⟨R, 4, none⟩ = some (.int .u8 q.c) := hR2.cell 4; have d5 : w1.cell? ⟨R, 5, none⟩ = some (.int .u8 q.d) := hR2.cell 5; have e0 : w1.cell? ⟨X, 0, none⟩ = some (.int .u8 v.a) := hA2.cell 0; have e1 : w1.cell? ⟨X, 1, none⟩ = some (.int .u8 v.b) := hA2.cell 1; have e2 : w1.cell? ⟨X, 2, none⟩ = some (.int .u8 v.c) := hA2.cell 2; have e3 : w1.cell? ⟨X, 3, none⟩ = some (.int .u8 v.d) := hA2.cell 3; have HR1 := WirS.hide hR2; have HA1 := WirS.hide hA2; have HF1 := WirS.hide (HF.out.trans' (Fr.of_below (X := fun _ => False) hb1) (fun _ _ h => h.elim)); clear hb hb1 hR2 hA2))
  go_wp2_with fail
  go_ret
  exact nextP_of HE.out (by decide) HR1.out HF1.out
set_option maxRecDepth 10000 in
set_option maxHeartbeats 2000000 in
theorem next_range2 (w : World) (R : Nat) (least : Int) (q v : Vd) (hq : q.ok) (hv : v.ok) (h : At w R 166 (rcl least (some q))) (hl : ¬ v.rk ≤ q.rk) (hp : v.p < least ∨ 4611686018427387904 < v.p) :
    Calls Try.prog 151 #[.pointer (some ⟨R, 0, none⟩), Vd.val v] w (NextP w R least (some q) v) := by
  have hE : nextE least (some q) v = 3 := by unfold nextE late; simp [hl, hp]
  have HE := WirS.hide hE
  have HC := WirS.hide (fun U => show Calls Try.prog 189 #[.agg #[.int .u8 v.a, .int .u8 v.b, .int .u8 v.c, .int .u8 v.d], .agg #[.int .u8 q.a, .int .u8 q.b, .int .u8 q.c, .int .u8 q.d]] U (fun e w' => e = .returned (.int .i64 (cmpR v.rk q.rk)) ∧ Below U.heap.size U w') from compare_any U v q hv hq)
  have hK : ¬ cmpR v.rk q.rk ≤ 0 := fun h => hl ((cmpR_le _ _).1 h)
  clear hl
  generalize cmpR v.rk q.rk = K at *
  obtain ⟨W0, e0⟩ : ∃ X, X = w.alloc (.cells #[.int .u8 v.a, .int .u8 v.b, .int .u8 v.c, .int .u8 v.d, .int .i64 v.p] 100) := ⟨_, rfl⟩
  have hR0 : At W0 R 166 (rcl least (some q)) := by rw [e0]; exact h.alloc _
  have hA : At W0 w.heap.size 100 v.cells := by rw [e0]; exact At.new w _ _
  have c1 : W0.cell? ⟨R, 1, none⟩ = some (.bool true) := hR0.cell 1
  have c2 : W0.cell? ⟨R, 2, none⟩ = some (.int .u8 q.a) := hR0.cell 2
  have c3 : W0.cell? ⟨R, 3, none⟩ = some (.int .u8 q.b) := hR0.cell 3
  have c4 : W0.cell? ⟨R, 4, none⟩ = some (.int .u8 q.c) := hR0.cell 4
  have c5 : W0.cell? ⟨R, 5, none⟩ = some (.int .u8 q.d) := hR0.cell 5
  have a0 : W0.cell? ⟨w.heap.size, 0, none⟩ = some (.int .u8 v.a) := hA.cell 0
  have a1 : W0.cell? ⟨w.heap.size, 1, none⟩ = some (.int .u8 v.b) := hA.cell 1
  have a2 : W0.cell? ⟨w.heap.size, 2, none⟩ = some (.int .u8 v.c) := hA.cell 2
  have a3 : W0.cell? ⟨w.heap.size, 3, none⟩ = some (.int .u8 v.d) := hA.cell 3
  have HF := WirS.hide (show Fr (fun k => k = R) w W0 by rw [e0]; exact (Fr.refl _ w).alloc _)
  have HR := WirS.hide hR0
  have HA := WirS.hide hA
  have E0 := WirS.hide e0
  have hne := h.lt
  clear h e0 hE hA hR0
  unfold Vd.val
  go_enter Try.func151, Try.ntmps151
  go_upto_region 1 with fail
  rw [← E0.out]
  clear E0
  generalize w.heap.size = X at *
  go_region_held3 (fun w' => w'.cell? ⟨R, 1, none⟩ = some (.bool true) ∧ w'.cell? ⟨R, 2, none⟩ = some (.int .u8 q.a) ∧ w'.cell? ⟨R, 3, none⟩ = some (.int .u8 q.b) ∧ w'.cell? ⟨R, 4, none⟩ = some (.int .u8 q.c) ∧ w'.cell? ⟨R, 5, none⟩ = some (.int .u8 q.d) ∧ w'.cell? ⟨X, 0, none⟩ = some (.int .u8 v.a) ∧ w'.cell? ⟨X, 1, none⟩ = some (.int .u8 v.b) ∧ w'.cell? ⟨X, 2, none⟩ = some (.int .u8 v.c) ∧ w'.cell? ⟨X, 3, none⟩ = some (.int .u8 v.d)) (go_keep)
    (first | (go_at_call 189; refine (HC.out _).mono ?_; rintro e w1 ⟨rfl, hb⟩; have hb1 : Below W0.heap.size W0 w1 := (below_drewN (Below.refl _ _) 1).trans hb; have hR2 := keepAt HR.out hb1; have hA2 := keepAt HA.out hb1; have d1 : w1.cell? ⟨R, 1, none⟩ = some (.bool true) := hR2.cell 1; have d2 : w1.cell? ⟨R, 2, none⟩ = some (.int .u8 q.a) := hR2.cell 2; have d3 : w1.cell? ⟨R, 3, none⟩ = some (.int .u8 q.b) := hR2.cell 3; have d4 : w1.cell? ⟨R, 4, none⟩ = some (.int .u8 q.c) := hR2.cell 4; have d5 : w1.cell? ⟨R, 5, none⟩ = some (.int .u8 q.d) := hR2.cell 5; have e0 : w1.cell? ⟨X, 0, none⟩ = some (.int .u8 v.a) := hA2.cell 0; have e1 : w1.cell? ⟨X, 1, none⟩ = some (.int .u8 v.b) := hA2.cell 1; have e2 : w1.cell? ⟨X, 2, none⟩ = some (.int .u8 v.c) := hA2.cell 2; have e3 : w1.cell? ⟨X, 3, none⟩ = some (.int .u8 v.d) := hA2.cell 3; have HR1 := WirS.hide hR2; have HA1 := WirS.hide hA2; have HF1 := WirS.hide (HF.out.trans' (Fr.of_below (X := fun _ => False) hb1) (fun _ _ h => h.elim)); clear hb hb1 hR2 hA2))
  clear c1 c2 c3 c4 c5 a0 a1 a2 a3 d2 d3 d4 d5 e0 e1 e2 e3 HR HA HF HC hq hv
  go_upto_region 3 with fail
  have r0 : w1.cell? ⟨R, 0, none⟩ = some (.int .i64 least) := HR1.out.cell 0
  have r4 : w1.cell? ⟨X, 4, none⟩ = some (.int .i64 v.p) := HA1.out.cell 4
  by_cases hlt : v.p < least
  · have hd : decide (v.p < least) = true := by simpa using hlt
    go_quiet (fail)
    go_wp2_with fail
    go_ret
    exact nextP_of HE.out (by decide) HR1.out (by first | exact WirB.Fr.drewN (WirB.Fr.drewN HF1.out _) _ | exact WirB.Fr.drewN HF1.out _)
  · have hd : decide (v.p < least) = false := by simpa using hlt
    have hd2 : decide (4611686018427387904 < v.p) = true := by simp; omega
    go_quiet (fail)
    go_wp2_with fail
    go_ret
    exact nextP_of HE.out (by decide) HR1.out (by first | exact WirB.Fr.drewN (WirB.Fr.drewN HF1.out _) _ | exact WirB.Fr.drewN HF1.out _)
set_option maxRecDepth 10000 in
set_option maxHeartbeats 2000000 in
theorem next_goes (w : World) (R : Nat) (least : Int) (q v : Vd) (hq : q.ok) (hv : v.ok) (h : At w R 166 (rcl least (some q))) (hl : ¬ v.rk ≤ q.rk) (hp : ¬ (v.p < least ∨ 4611686018427387904 < v.p)) :
    Calls Try.prog 151 #[.pointer (some ⟨R, 0, none⟩), Vd.val v] w (NextP w R least (some q) v) := by
  have hE : nextE least (some q) v = 0 := by unfold nextE late; simp [hl]; omega
  have HE := WirS.hide hE
  have HC := WirS.hide (fun U => show Calls Try.prog 189 #[.agg #[.int .u8 v.a, .int .u8 v.b, .int .u8 v.c, .int .u8 v.d], .agg #[.int .u8 q.a, .int .u8 q.b, .int .u8 q.c, .int .u8 q.d]] U (fun e w' => e = .returned (.int .i64 (cmpR v.rk q.rk)) ∧ Below U.heap.size U w') from compare_any U v q hv hq)
  have hK : ¬ cmpR v.rk q.rk ≤ 0 := fun h => hl ((cmpR_le _ _).1 h)
  clear hl
  generalize cmpR v.rk q.rk = K at *
  obtain ⟨W0, e0⟩ : ∃ X, X = w.alloc (.cells #[.int .u8 v.a, .int .u8 v.b, .int .u8 v.c, .int .u8 v.d, .int .i64 v.p] 100) := ⟨_, rfl⟩
  have hR0 : At W0 R 166 (rcl least (some q)) := by rw [e0]; exact h.alloc _
  have hA : At W0 w.heap.size 100 v.cells := by rw [e0]; exact At.new w _ _
  have c1 : W0.cell? ⟨R, 1, none⟩ = some (.bool true) := hR0.cell 1
  have c2 : W0.cell? ⟨R, 2, none⟩ = some (.int .u8 q.a) := hR0.cell 2
  have c3 : W0.cell? ⟨R, 3, none⟩ = some (.int .u8 q.b) := hR0.cell 3
  have c4 : W0.cell? ⟨R, 4, none⟩ = some (.int .u8 q.c) := hR0.cell 4
  have c5 : W0.cell? ⟨R, 5, none⟩ = some (.int .u8 q.d) := hR0.cell 5
  have a0 : W0.cell? ⟨w.heap.size, 0, none⟩ = some (.int .u8 v.a) := hA.cell 0
  have a1 : W0.cell? ⟨w.heap.size, 1, none⟩ = some (.int .u8 v.b) := hA.cell 1
  have a2 : W0.cell? ⟨w.heap.size, 2, none⟩ = some (.int .u8 v.c) := hA.cell 2
  have a3 : W0.cell? ⟨w.heap.size, 3, none⟩ = some (.int .u8 v.d) := hA.cell 3
  have HF := WirS.hide (show Fr (fun k => k = R) w W0 by rw [e0]; exact (Fr.refl _ w).alloc _)
  have HR := WirS.hide hR0
  have HA := WirS.hide hA
  have E0 := WirS.hide e0
  have hne := h.lt
  clear h e0 hE hA hR0
  unfold Vd.val
  go_enter Try.func151, Try.ntmps151
  go_upto_region 1 with fail
  rw [← E0.out]
  clear E0
  generalize w.heap.size = X at *
  go_region_held3 (fun w' => w'.cell? ⟨R, 1, none⟩ = some (.bool true) ∧ w'.cell? ⟨R, 2, none⟩ = some (.int .u8 q.a) ∧ w'.cell? ⟨R, 3, none⟩ = some (.int .u8 q.b) ∧ w'.cell? ⟨R, 4, none⟩ = some (.int .u8 q.c) ∧ w'.cell? ⟨R, 5, none⟩ = some (.int .u8 q.d) ∧ w'.cell? ⟨X, 0, none⟩ = some (.int .u8 v.a) ∧ w'.cell? ⟨X, 1, none⟩ = some (.int .u8 v.b) ∧ w'.cell? ⟨X, 2, none⟩ = some (.int .u8 v.c) ∧ w'.cell? ⟨X, 3, none⟩ = some (.int .u8 v.d)) (go_keep)
    (first | (go_at_call 189; refine (HC.out _).mono ?_; rintro e w1 ⟨rfl, hb⟩; have hb1 : Below W0.heap.size W0 w1 := (below_drewN (Below.refl _ _) 1).trans hb; have hR2 := keepAt HR.out hb1; have hA2 := keepAt HA.out hb1; have d1 : w1.cell? ⟨R, 1, none⟩ = some (.bool true) := hR2.cell 1; have d2 : w1.cell? ⟨R, 2, none⟩ = some (.int .u8 q.a) := hR2.cell 2; have d3 : w1.cell? ⟨R, 3, none⟩ = some (.int .u8 q.b) := hR2.cell 3; have d4 : w1.cell? ⟨R, 4, none⟩ = some (.int .u8 q.c) := hR2.cell 4; have d5 : w1.cell? ⟨R, 5, none⟩ = some (.int .u8 q.d) := hR2.cell 5; have e0 : w1.cell? ⟨X, 0, none⟩ = some (.int .u8 v.a) := hA2.cell 0; have e1 : w1.cell? ⟨X, 1, none⟩ = some (.int .u8 v.b) := hA2.cell 1; have e2 : w1.cell? ⟨X, 2, none⟩ = some (.int .u8 v.c) := hA2.cell 2; have e3 : w1.cell? ⟨X, 3, none⟩ = some (.int .u8 v.d) := hA2.cell 3; have HR1 := WirS.hide hR2; have HA1 := WirS.hide hA2; have HF1 := WirS.hide (HF.out.trans' (Fr.of_below (X := fun _ => False) hb1) (fun _ _ h => h.elim)); clear hb hb1 hR2 hA2))
  clear c1 c2 c3 c4 c5 a0 a1 a2 a3 d2 d3 d4 d5 e0 e1 e2 e3 HR HA HF HC hq hv
  go_upto_region 3 with fail
  have r0 : w1.cell? ⟨R, 0, none⟩ = some (.int .i64 least) := HR1.out.cell 0
  have r4 : w1.cell? ⟨X, 4, none⟩ = some (.int .i64 v.p) := HA1.out.cell 4
  have hd : decide (v.p < least) = false := by simp; omega
  have hd2 : decide (4611686018427387904 < v.p) = false := by simp; omega
  clear hp
  go_quiet (fail)
  go_upto_region 5 with fail
  generalize hW : World.drewN w1 _ = W1
  have hR1 : At W1 R 166 (rcl least (some q)) := by rw [← hW]; exact HR1.out
  have hA1 : At W1 X 100 v.cells := by rw [← hW]; exact HA1.out
  have HF1 := WirS.hide (show Fr (fun k => k = R) w W1 by rw [← hW]; exact WirB.Fr.drewN HF1.out _)
  clear r0 r4 d1 HR1 HA1 hW hd hd2
  have c1 : W1.cell? ⟨R, 1, none⟩ = some (.bool true) := hR1.cell 1
  have c2 : W1.cell? ⟨R, 2, none⟩ = some (.int .u8 q.a) := hR1.cell 2
  have c3 : W1.cell? ⟨R, 3, none⟩ = some (.int .u8 q.b) := hR1.cell 3
  have c4 : W1.cell? ⟨R, 4, none⟩ = some (.int .u8 q.c) := hR1.cell 4
  have c5 : W1.cell? ⟨R, 5, none⟩ = some (.int .u8 q.d) := hR1.cell 5
  have f1 := hR1.frozen 1
  have f2 := hR1.frozen 2
  have f3 := hR1.frozen 3
  have f4 := hR1.frozen 4
  have f5 := hR1.frozen 5
  have a0 : W1.cell? ⟨X, 0, none⟩ = some (.int .u8 v.a) := hA1.cell 0
  have a1 : W1.cell? ⟨X, 1, none⟩ = some (.int .u8 v.b) := hA1.cell 1
  have a2 : W1.cell? ⟨X, 2, none⟩ = some (.int .u8 v.c) := hA1.cell 2
  have a3 : W1.cell? ⟨X, 3, none⟩ = some (.int .u8 v.d) := hA1.cell 3
  have HR1 := WirS.hide hR1
  clear hR1 hA1
  go_region
  go_wp2_with fail
  go_ret
  exact nextP_ok HE.out (((((HR1.out.setCell 1 _).setCell 2 _).setCell 3 _).setCell 4 _).setCell 5 _) ((((((HF1.out.setCell R 1 _ (fun _ => rfl)).setCell R 2 _ (fun _ => rfl)).setCell R 3 _ (fun _ => rfl)).setCell R 4 _ (fun _ => rfl)).setCell R 5 _ (fun _ => rfl)).drew)
theorem next_any (w : World) (R : Nat) (least : Int) (q : Option Vd) (v : Vd) (hq : ∀ x, q = some x → x.ok) (hv : v.ok) (h : At w R 166 (rcl least q)) :
    Calls Try.prog 151 #[.pointer (some ⟨R, 0, none⟩), Vd.val v] w (NextP w R least q v) := by
  by_cases hp : v.p < least ∨ 4611686018427387904 < v.p
  · cases q with
    | none => exact next_range w R least v h hp
    | some q =>
      by_cases hl : v.rk ≤ q.rk
      · exact next_late w R least q v (hq q rfl) hv h hl
      · exact next_range2 w R least q v (hq q rfl) hv h hl hp
  · cases q with
    | none => exact next_first w R least v h hp
    | some q =>
      by_cases hl : v.rk ≤ q.rk
      · exact next_late w R least q v (hq q rfl) hv h hl
      · exact next_goes w R least q v (hq q rfl) hv h hl hp
end ValC
end Go.Proofs.Ytackcnncjeajpaa

namespace Go.Proofs.Ytackcnncjeajpaa
namespace ValD
open Go.RowKit
open BlkM WirM WirS WirA WirB ValA ValB ValC

/-- What is wrong first, validator by validator. -/
def rowE (least : Int) : Option Vd → List Vd → Int
  | _, [] => 0
  | q, x :: l => if nextE least q x = 0 then rowE least (some x) l else nextE least q x
def chk (vs : List Vd) : Int := if vs.length = 0 then 6 else if 64 < vs.length then 4 else rowE 1 none vs
theorem drop_get {α : Type} {l : List α} {k : Nat} {x : α} (h : l[k]? = some x) : l.drop k = x :: l.drop (k + 1) := by
  obtain ⟨hk, rfl⟩ := List.getElem?_eq_some_iff.1 h
  exact List.drop_eq_getElem_cons hk
theorem next_ok (w : World) (R : Nat) (least : Int) (q : Option Vd) (v : Vd) (hq : ∀ x, q = some x → x.ok) (hv : v.ok) (h : At w R 166 (rcl least q)) (hn : nextE least q v = 0) :
    Calls Try.prog 151 #[.pointer (some ⟨R, 0, none⟩), .agg #[.int .u8 v.a, .int .u8 v.b, .int .u8 v.c, .int .u8 v.d, .int .i64 v.p]] w fun e w' => e = .returned (.int .i64 0) ∧ At w' R 166 (rcl least (some v)) ∧ Fr (fun k => k = R) w w' :=
  (next_any w R least q v hq hv h).mono fun _ _ ⟨h1, h2, h3⟩ => ⟨by rw [h1, hn], by rw [hn, if_pos rfl] at h2; exact h2, h3⟩
theorem next_no (w : World) (R : Nat) (least : Int) (q : Option Vd) (v : Vd) (hq : ∀ x, q = some x → x.ok) (hv : v.ok) (h : At w R 166 (rcl least q)) (c : Int) (hn : nextE least q v = c) :
    Calls Try.prog 151 #[.pointer (some ⟨R, 0, none⟩), .agg #[.int .u8 v.a, .int .u8 v.b, .int .u8 v.c, .int .u8 v.d, .int .i64 v.p]] w fun e w' => e = .returned (.int .i64 c) ∧ Fr (fun k => k = R) w w' :=
  (next_any w R least q v hq hv h).mono fun _ _ ⟨h1, _, h3⟩ => ⟨by rw [h1, hn], h3⟩
def MidK (w : World) (vs : List Vd) (n : Nat) (i : Value) (U : World) : Prop :=
  ∃ (k : Nat) (q : Option Vd), k ≤ n ∧ i = .int .i64 (k : Int) ∧ At U w.heap.size 166 (rcl 1 q) ∧ (∀ x, q = some x → x ∈ vs) ∧ rowE 1 none vs = rowE 1 q (vs.drop k) ∧ Below w.heap.size w U
set_option maxRecDepth 10000 in
set_option maxHeartbeats 2000000 in
theorem check_any (w : World) (a : Option Addr) (n c : Nat) (vs : List Vd) (h : VIn w a n c vs) :
    Calls Try.prog 58 #[.slice a n c] w fun e w' => e = .returned (.int .i64 (chk vs)) ∧ Below w.heap.size w w' := by
  have hlen := h.len
  have H := WirS.hide h
  have HL := WirS.hide hlen
  by_cases h0 : n = 0
  · subst h0
    have hE : chk vs = 6 := by unfold chk; simp [hlen]
    rw [hE]
    clear h hlen hE
    go_enter Try.func58, Try.ntmps58
    go_wp2_with fail
    go_ret
    exact ⟨rfl, Below.refl _ _⟩
  by_cases h64 : 64 < n
  · have hE : chk vs = 4 := by unfold chk; rw [hlen, if_neg h0, if_pos h64]
    rw [hE]
    have e1 : ((n : Int) == 0) = false := by simp; omega
    have e2 : (64 : Int) < (n : Int) := by omega
    clear h hlen hE
    go_enter Try.func58, Try.ntmps58
    go_wp2_with fail
    go_ret
    exact ⟨rfl, Below.refl _ _⟩
  have hE : chk vs = rowE 1 none vs := by unfold chk; rw [hlen, if_neg h0, if_neg h64]
  rw [hE]
  have e1 : ((n : Int) == 0) = false := by simp; omega
  have e2 : ¬ (64 : Int) < (n : Int) := by omega
  have hst : MidK w vs n (.int .i64 0) (w.alloc (.cells #[.int .i64 1, .bool false, .int .u8 0, .int .u8 0, .int .u8 0, .int .u8 0] 166)) :=
    ⟨0, none, by omega, rfl, At.new w _ (rcl 1 none), (fun x hx => absurd hx (by simp)), rfl, Below.alloc (Below.refl _ _) (Nat.le_refl _) _⟩
  have HST := WirS.hide hst
  clear h hlen hE hst
  go_enter Try.func58, Try.ntmps58
  go_wp2_with fail
  go_loopw [16] (fun i wr => MidK w vs n i wr) (fun i _ => n - (intOf i).toNat)
  case atStart => exact HST.out
  case round =>
    clear HST
    obtain ⟨k, q, hk, rfl, hR, hq, hE, hB⟩ := hrel
    by_cases hlt : k < n
    · obtain ⟨x, B, o, hx, hmem, rfl, hBl, hr⟩ := (H.out.below hB).cell hlt
      have r0 : wr.cell? ⟨B, o + k * 5, none⟩ = some (.int .u8 x.a) := hr 0 _ rfl
      have r1 : wr.cell? ⟨B, o + k * 5 + 1, none⟩ = some (.int .u8 x.b) := hr 1 _ rfl
      have r2 : wr.cell? ⟨B, o + k * 5 + 2, none⟩ = some (.int .u8 x.c) := hr 2 _ rfl
      have r3 : wr.cell? ⟨B, o + k * 5 + 3, none⟩ = some (.int .u8 x.d) := hr 3 _ rfl
      have r4 : wr.cell? ⟨B, o + k * 5 + 4, none⟩ = some (.int .i64 x.p) := hr 4 _ rfl
      have hkl : (k : Int) < (n : Int) := by omega
      have HX := WirS.hide hx
      have HE := WirS.hide hE
      have HB := WirS.hide hB
      have HB2 := WirS.hide (show Below w.heap.size w (wr.alloc (.cells #[.int .u8 x.a, .int .u8 x.b, .int .u8 x.c, .int .u8 x.d, .int .i64 x.p] 100)) from hB.alloc hB.size _)
      have hR2 : At (wr.alloc (.cells #[.int .u8 x.a, .int .u8 x.b, .int .u8 x.c, .int .u8 x.d, .int .i64 x.p] 100)) w.heap.size 166 (rcl 1 q) := hR.alloc _
      have hqo : ∀ y, q = some y → y.ok := fun y hy => H.out.ok y (hq y hy)
      have hxo := H.out.ok x hmem
      have HM := WirS.hide hmem
      by_cases hne : nextE 1 q x = 0
      · have HN := WirS.hide (next_ok _ _ 1 q x hqo hxo hR2 hne)
        rw [drop_get HX.out, rowE, if_pos hne] at HE
        clear hr hx hE hB hq hmem hqo hxo hR2 hne hR HX
        go_wp2_with (first | (go_at_call 151; refine (HN.out).mono ?_; rintro e u ⟨rfl, hA, hF⟩; have HA := WirS.hide hA; have HU := WirS.hide (hF.below HB2.out.size (fun k hk hx => by omega)); clear hA hF))
        go_roundw
        case rel => exact ⟨k + 1, some x, by omega, by go_num, HA.out, fun y hy => by cases hy; exact HM.out, HE.out, HB2.out.trans HU.out⟩
        case measure => simp [intOf]; omega
      · obtain ⟨cd, hcd⟩ : ∃ cd, nextE 1 q x = cd := ⟨_, rfl⟩
        have HN := WirS.hide (next_no _ _ 1 q x hqo hxo hR2 cd hcd)
        rw [drop_get HX.out, rowE, if_neg hne, hcd] at HE
        rw [hcd] at hne
        have hn0 : (cd == 0) = false := by simpa using hne
        have hn1 : (cd != 0) = true := by simpa using hne
        clear hr hx hE hB hq hmem hqo hxo hR2 hne hR HX hcd
        go_wp2_with (first | (go_at_call 151; refine (HN.out).mono ?_; rintro e u ⟨rfl, hF⟩; have HU := WirS.hide (hF.below HB2.out.size (fun k hk hx => by omega)); clear hF))
        go_ret
        exact ⟨(by rw [HE.out]; rfl), HB2.out.trans HU.out⟩
    · have hd : vs.drop k = [] := List.drop_eq_nil_of_le (by rw [HL.out]; omega)
      rw [hd, rowE] at hE
      have HE := WirS.hide hE
      have HB := WirS.hide hB
      clear hE hB hR hq hd
      go_wp2_with fail
      go_ret
      exact ⟨(by rw [HE.out]; rfl), HB.out⟩
end ValD
end Go.Proofs.Ytackcnncjeajpaa

namespace Go.Proofs.Ytackcnncjeajpaa
namespace ValP
open Go.RowKit
open BlkM WirM WirS ValA ValB ValC ValD

theorem nextE_zero (least : Int) (q : Option Vd) (v : Vd) : nextE least q v = 0 ↔ late q v = false ∧ least ≤ v.p ∧ v.p ≤ 4611686018427387904 := by
  unfold nextE
  by_cases h : late q v = true
  · simp [h]
  · rw [if_neg h]
    have h2 : late q v = false := by simpa using h
    by_cases hp : v.p < least ∨ 4611686018427387904 < v.p
    · rw [if_pos hp]
      simp only [h2, true_and]
      omega
    · rw [if_neg hp]
      simp only [h2, true_and, true_iff]
      omega
/-- Keys ascend. -/
def asc : Option Vd → List Vd → Prop
  | _, [] => True
  | q, x :: l => late q x = false ∧ asc (some x) l
theorem rowE_zero (least : Int) : ∀ (l : List Vd) (q : Option Vd), rowE least q l = 0 ↔ asc q l ∧ ∀ x ∈ l, least ≤ x.p ∧ x.p ≤ 4611686018427387904
  | [], _ => by simp [rowE, asc]
  | x :: l, q => by
    rw [rowE]
    by_cases h : nextE least q x = 0
    · rw [if_pos h, rowE_zero least l (some x)]
      obtain ⟨h1, h2⟩ := (nextE_zero least q x).1 h
      simp only [asc, h1, true_and, List.forall_mem_cons, h2]
    · rw [if_neg h]
      simp only [h, false_iff, asc]
      rintro ⟨⟨h1, _⟩, h2⟩
      exact h ((nextE_zero least q x).2 ⟨h1, h2 x (by simp)⟩)
theorem chk_zero (vs : List Vd) : chk vs = 0 ↔ 0 < vs.length ∧ vs.length ≤ 64 ∧ asc none vs ∧ ∀ x ∈ vs, 1 ≤ x.p ∧ x.p ≤ 4611686018427387904 := by
  unfold chk
  by_cases h0 : vs.length = 0
  · rw [if_pos h0]
    omega
  · rw [if_neg h0]
    by_cases h1 : 64 < vs.length
    · rw [if_pos h1]
      omega
    · rw [if_neg h1, rowE_zero]
      constructor
      · intro h
        exact ⟨by omega, by omega, h⟩
      · intro h
        exact h.2.2
theorem asc_lt : ∀ (l : List Vd) (q : Vd), asc (some q) l → ∀ x ∈ l, q.rk < x.rk
  | [], _, _ => fun x hx => by cases hx
  | y :: l, q, h => fun x hx => by
    obtain ⟨h1, h2⟩ := h
    have h3 : q.rk < y.rk := by simpa [late] using h1
    rcases List.mem_cons.1 hx with rfl | hx
    · exact h3
    · have := asc_lt l y h2 x hx
      omega
/-- Ascending, as a fact on any two. -/
def Up (l : List Vd) : Prop := l.Pairwise fun x y => x.rk < y.rk
theorem asc_up : ∀ (l : List Vd) (q : Option Vd), asc q l ↔ Up l ∧ ∀ p, q = some p → ∀ x ∈ l, p.rk < x.rk
  | [], q => by simp [asc, Up]
  | y :: l, q => by
    constructor
    · intro h
      have h2 := (asc_up l (some y)).1 h.2
      refine ⟨List.pairwise_cons.2 ⟨fun x hx => h2.2 y rfl x hx, h2.1⟩, ?_⟩
      rintro p rfl
      exact asc_lt (y :: l) p h
    · rintro ⟨h1, h2⟩
      obtain ⟨h3, h4⟩ := List.pairwise_cons.1 h1
      refine ⟨?_, (asc_up l (some y)).2 ⟨h4, ?_⟩⟩
      · cases q with
        | none => rfl
        | some p =>
          have := h2 p rfl y (by simp)
          simp [late]
          omega
      · rintro p hp x hx
        cases hp
        exact h3 x hx
theorem chk_up (vs : List Vd) : chk vs = 0 ↔ 0 < vs.length ∧ vs.length ≤ 64 ∧ Up vs ∧ ∀ x ∈ vs, 1 ≤ x.p ∧ x.p ≤ 4611686018427387904 := by
  rw [chk_zero, asc_up]
  constructor
  · rintro ⟨a, b, ⟨c, _⟩, d⟩
    exact ⟨a, b, c, d⟩
  · rintro ⟨a, b, c, d⟩
    exact ⟨a, b, ⟨c, fun p h => by cases h⟩, d⟩
end ValP
end Go.Proofs.Ytackcnncjeajpaa

namespace Go.Proofs.Ytackcnncjeajpaa
namespace ValE
open Go.RowKit
open BlkM WirM WirS WirA WirB ValA ValB ValC ValD
open WirBE (eqItems4 ext4)

theorem eqKd (l m : List Int) (hl : l.length = 4) (hm : m.length = 4) (d : Nat) (W : World) : (Op.equalIn (d + 1 + 1) 36 (.agg (b8 l).toArray) (.agg (b8 m).toArray)).run Try.prog W = .ok (decide (l = m)) W := by
  have hi : (Try.prog.info? 5).isSome = true := by kernel_rfl
  obtain ⟨i, hi⟩ := Option.isSome_iff_exists.1 hi
  have hc : Try.prog.cellsOf 5 = 1 := by kernel_rfl
  rw [run_equalIn_array W (d + 1) (b8 l).toArray (b8 m).toArray Try.underlying36 hi, hc, eqItems4 l m hl hm d W (List.range 4) (fun i hi => List.mem_range.1 hi)]
  simp only [ext4 hl hm]
def Vd.same (x y : Vd) : Bool := decide (x.key = y.key) && x.p == y.p
theorem Vd.same_iff (x y : Vd) : Vd.same x y = true ↔ x = y := by
  cases x
  cases y
  simp [Vd.same, Vd.key]
  omega
theorem part_key (x : Vd) (W : World) : (part 36 #[.int .u8 x.a, .int .u8 x.b, .int .u8 x.c, .int .u8 x.d, .int .i64 x.p] 0).run Try.prog W = .ok (.agg (b8 x.key).toArray) W := by kernel_rfl
theorem part_pow (x : Vd) (W : World) : (part 3 #[.int .u8 x.a, .int .u8 x.b, .int .u8 x.c, .int .u8 x.d, .int .i64 x.p] 4).run Try.prog W = .ok (.int .i64 x.p) W := by kernel_rfl
theorem eq_vals (x y : Vd) (W : World) : (binOp .eql 100 (.agg #[.int .u8 x.a, .int .u8 x.b, .int .u8 x.c, .int .u8 x.d, .int .i64 x.p]) (.agg #[.int .u8 y.a, .int .u8 y.b, .int .u8 y.c, .int .u8 y.d, .int .i64 y.p])).run Try.prog W = .ok (.bool (Vd.same x y)) W := by
  have hf : (Try.prog.fieldsOf 100).toList.map (fun f => (f.name, f.type, f.offset)) = [("Key", 36, 0), ("Power", 3, 4)] := by kernel_rfl
  have h : (Op.equalIn (9997 + 1 + 1 + 1) 100 (.agg #[.int .u8 x.a, .int .u8 x.b, .int .u8 x.c, .int .u8 x.d, .int .i64 x.p]) (.agg #[.int .u8 y.a, .int .u8 y.b, .int .u8 y.c, .int .u8 y.d, .int .i64 y.p])).run Try.prog W = .ok (Vd.same x y) W := by
    rw [run_equalIn_struct W (9997 + 1 + 1) 100 _ _ (by kernel_rfl) (by kernel_rfl)]
    generalize (Try.prog.fieldsOf 100).toList = L at hf ⊢
    obtain _ | ⟨f1, _ | ⟨f2, _ | ⟨f3, L⟩⟩⟩ := L
    · simp at hf
    · simp at hf
    · simp only [List.map_cons, List.map_nil, List.cons.injEq, Prod.mk.injEq, and_true] at hf
      obtain ⟨⟨n1, t1, o1⟩, n2, t2, o2⟩ := hf
      have e2 : (Op.equalIn (9997 + 1 + 1) 3 (.int .i64 x.p) (.int .i64 y.p)).run Try.prog W = .ok (x.p == y.p) W := run_equalIn_int W (9997 + 1) 3 .i64 .i64 x.p y.p Try.underlying3
      simp only [Op.eqFields, n1, t1, o1, n2, t2, o2, show (("Key" : String) ≠ "_") = True by simp, show (("Power" : String) ≠ "_") = True by simp, if_true, Sem.run_bind, part_key, part_pow, eqKd _ _ (show x.key.length = 4 from rfl) (show y.key.length = 4 from rfl), e2, Result.andThen_ok, Sem.run_ite, Sem.run_pure]
      unfold Vd.same
      by_cases hk : x.key = y.key <;> by_cases hp : x.p = y.p <;> simp [hk, hp]
    · simp at hf
  simp only [binOp]
  simp [Op.equal, Op.maxDepth, h]
theorem eq_val (x : Vd) (W : World) : (binOp .eql 100 (.agg #[.int .u8 x.a, .int .u8 x.b, .int .u8 x.c, .int .u8 x.d, .int .i64 x.p]) (.agg #[.int .u8 x.a, .int .u8 x.b, .int .u8 x.c, .int .u8 x.d, .int .i64 x.p])).run Try.prog W = .ok (.bool true) W := by
  rw [eq_vals, (Vd.same_iff x x).2 rfl]
def MidS (w : World) (n : Nat) (s i : Value) (U : World) : Prop := ∃ k : Nat, k ≤ n ∧ s = .bool true ∧ i = .int .i64 (k : Int) ∧ Below w.heap.size w U
set_option maxRecDepth 10000 in
set_option maxHeartbeats 2000000 in
theorem same_any (w : World) (a b : Option Addr) (n c d : Nat) (vs : List Vd) (h : VIn w a n c vs) (h' : VIn w b n d vs) :
    Calls Try.prog 50 #[.slice a n c, .slice b n d] w fun e w' => e = .returned (.bool true) ∧ Below w.heap.size w w' := by
  have hns : n ≤ 9223372036854775807 := Nat.le_trans h.cap h.small
  have H := WirS.hide h
  have H' := WirS.hide h'
  clear h h'
  go_enter Try.func50, Try.ntmps50
  go_wp2_with fail
  go_loopw [5, 6] (fun s i wr => MidS w n s i wr) (fun _ i _ => n - (intOf i).toNat)
  case atStart => exact ⟨0, Nat.zero_le _, by simp, rfl, Below.refl _ _⟩
  case round =>
    obtain ⟨k, hk, rfl, rfl, hB⟩ := hrel
    by_cases hlt : k < n
    · obtain ⟨x, B, o, hx, hmem, rfl, hBl, hr⟩ := (H.out.below hB).cell hlt
      obtain ⟨y, B', o', hy, hmem', rfl, hBl', hr'⟩ := (H'.out.below hB).cell hlt
      obtain rfl : x = y := by rw [hx] at hy; exact Option.some.inj hy
      have r0 : wr.cell? ⟨B, o + k * 5, none⟩ = some (.int .u8 x.a) := hr 0 _ rfl
      have r1 : wr.cell? ⟨B, o + k * 5 + 1, none⟩ = some (.int .u8 x.b) := hr 1 _ rfl
      have r2 : wr.cell? ⟨B, o + k * 5 + 2, none⟩ = some (.int .u8 x.c) := hr 2 _ rfl
      have r3 : wr.cell? ⟨B, o + k * 5 + 3, none⟩ = some (.int .u8 x.d) := hr 3 _ rfl
      have r4 : wr.cell? ⟨B, o + k * 5 + 4, none⟩ = some (.int .i64 x.p) := hr 4 _ rfl
      have s0 : wr.cell? ⟨B', o' + k * 5, none⟩ = some (.int .u8 x.a) := hr' 0 _ rfl
      have s1 : wr.cell? ⟨B', o' + k * 5 + 1, none⟩ = some (.int .u8 x.b) := hr' 1 _ rfl
      have s2 : wr.cell? ⟨B', o' + k * 5 + 2, none⟩ = some (.int .u8 x.c) := hr' 2 _ rfl
      have s3 : wr.cell? ⟨B', o' + k * 5 + 3, none⟩ = some (.int .u8 x.d) := hr' 3 _ rfl
      have s4 : wr.cell? ⟨B', o' + k * 5 + 4, none⟩ = some (.int .i64 x.p) := hr' 4 _ rfl
      have hkl : (k : Int) < (n : Int) := by omega
      have HB := WirS.hide hB
      have hq := eq_val x
      clear hr hx hB hmem hr' hmem' hy
      go_upto_region 5 with fail
      go_quiet (fail)
      go_wp2_with fail
      go_roundw
      case rel => exact ⟨k + 1, by omega, rfl, by go_num, by first | exact below_drewN (below_drewN HB.out _) _ | exact below_drewN HB.out _⟩
      case measure => simp [intOf]; omega
    · have HB := WirS.hide hB
      clear hB
      go_wp2_with fail
      go_ret
      exact ⟨rfl, HB.out⟩
end ValE
end Go.Proofs.Ytackcnncjeajpaa

namespace Go.Proofs.Ytackcnncjeajpaa
namespace ValF
open Go.RowKit
open BlkM WirM WirS WirA WirB ValA ValB ValC ValD ValE

def NewB (w : World) (x : Value) : Prop := ∀ k, x.ownBlock = some k → w.heap.size ≤ k
set_option maxRecDepth 10000 in
theorem key_any (w : World) (n : Int) : Calls Try.prog 57 #[.int .u8 n] w fun e w' => e = .returned (.agg #[.int .u8 0, .int .u8 0, .int .u8 0, .int .u8 n]) ∧ Below w.heap.size w w' := by
  go_enter Try.func57, Try.ntmps57
  go_wp2_with fail
  exact bodyPost_ret (v := .agg #[.int .u8 0, .int .u8 0, .int .u8 0, .int .u8 n]) (by simp [results, Try.results57, go_sem]) rfl ⟨rfl, by repeat' (first | exact Below.refl _ _ | refine Below.setCell ?_ (by simp) _ | refine Below.alloc ?_ (by simp) _)⟩
/-- append as a step of a region that draws its order: by what it yields here. -/
theorem step_app {P : Program} {ops : Array Oper} {o : Oper} {a : Act} {w : World} {K : Act → World → Prop} {Q : Exit → Act → World → Prop} {E : Prop} (hgd : o.guard = none) (t tx : TypeId) (x y : Operand) (ho : o.op = .call { callee := .builtin .append, args := #[x, y], argTypes := #[t, tx] }) (v s : Value) (hx : a.eval x = v) (hy : a.eval y = s)
    (v' : Value) (w' : World) (hr : (Builtin.append_ #[t, tx] o.type #[v, s]).run P w = .ok v' w') (h : K (a.put o.dst v') w') :
    if Region.wanted o (yielded ops a.tmps) = true then Oper.wp P o a w K Q else E := by
  have hw : Region.wanted o (yielded ops a.tmps) = true := by simp [Region.wanted, hgd]
  rw [if_pos hw]
  unfold Oper.wp execOp
  simp only [ho, resolve, invoke, builtin, Sem.run_bind, Sem.run_pure, Result.andThen_ok, List.map_toArray, List.map_cons, List.map_nil, hx, hy, hr]
  exact h
/-- Pairs of numbers, as they lie. -/
structure PIn (w : World) (B n : Nat) (ps : List (Int × Int)) : Prop where
  len : n = 2 * ps.length
  lt : B < w.heap.size
  cell : ∀ (j : Nat) (x : Int × Int), ps[j]? = some x → w.cell? ⟨B, 2 * j, none⟩ = some (.int .i64 x.1) ∧ w.cell? ⟨B, 2 * j + 1, none⟩ = some (.int .i64 x.2)
  ok : ∀ x ∈ ps, 0 ≤ x.1 ∧ x.1 < 256 ∧ -9223372036854775808 ≤ x.2 ∧ x.2 < 9223372036854775808
theorem PIn.below {w w' : World} {B n : Nat} {ps : List (Int × Int)} (h : PIn w B n ps) (hb : Below w.heap.size w w') : PIn w' B n ps :=
  ⟨h.len, Nat.lt_of_lt_of_le h.lt hb.size, fun j x hx => ⟨(hb.cell (p := ⟨B, _, none⟩) h.lt).trans (h.cell j x hx).1, (hb.cell (p := ⟨B, _, none⟩) h.lt).trans (h.cell j x hx).2⟩, h.ok⟩
def vof (ps : List (Int × Int)) : List Vd := ps.map fun x => ⟨0, 0, 0, x.1, x.2⟩
def MidO (w : World) (ps : List (Int × Int)) (v i : Value) (U : World) : Prop :=
  ∃ k : Nat, k ≤ ps.length ∧ i = .int .i64 ((2 * k : Nat) : Int) ∧ OwnV U v (vof (ps.take k)) ∧ NewB w v ∧ Below w.heap.size w U
set_option maxRecDepth 10000 in
set_option maxHeartbeats 2000000 in
theorem of_any (w : World) (B n c : Nat) (ps : List (Int × Int)) (h : PIn w B n ps) (h30 : ps.length ≤ 30) :
    Calls Try.prog 56 #[.slice (some ⟨B, 0, none⟩) n c] w fun e w' => ∃ va vn vc, e = .returned (.slice va vn vc) ∧ OwnV w' (.slice va vn vc) (vof ps) ∧ NewB w (.slice va vn vc) ∧ Below w.heap.size w w' := by
  have hlen := h.len
  have hn60 : n ≤ 60 := by omega
  have H := WirS.hide h
  have HN := WirS.hide hlen
  clear h hlen
  go_enter Try.func56, Try.ntmps56
  go_wp2_with fail
  go_loopw [3, 4] (fun v i wr => MidO w ps v i wr) (fun _ i _ => n - (intOf i).toNat)
  case atStart => exact ⟨0, Nat.zero_le _, rfl, OwnV.nil _, fun k hk => by simp [Value.ownBlock] at hk, Below.refl _ _⟩
  case round =>
    obtain ⟨k, hk, rfl, hO, hNB, hB⟩ := hrel
    by_cases hlt : k < ps.length
    · have hx : ps[k]? = some (ps[k]'hlt) := List.getElem?_eq_getElem hlt
      obtain ⟨p1, hp1⟩ : ∃ p, ps[k]'hlt = p := ⟨_, rfl⟩
      rw [hp1] at hx
      obtain ⟨r0, r1⟩ := (H.out.below hB).cell k p1 hx
      obtain ⟨q0, q1, q2, q3⟩ := H.out.ok p1 (List.mem_of_getElem? hx)
      have hkl : ((2 * k : Nat) : Int) + 1 < (n : Int) := by have := HN.out; omega
      have hk0 : ((2 * k : Nat) : Int) < (n : Int) := by omega
      have hw : IntKind.u8.wrap p1.1 = p1.1 := by simp [IntKind.wrap, IntKind.bits, IntKind.signed]; omega
      obtain ⟨m, hm⟩ : ∃ m, 2 * k = m := ⟨_, rfl⟩
      rw [hm] at hkl hk0 r0 r1
      have HX := WirS.hide hx
      have HO := WirS.hide hO
      have HB := WirS.hide hB
      have HNB := WirS.hide hNB
      have HM := WirS.hide hm
      obtain ⟨x1, e1⟩ : ∃ x, p1.1 = x := ⟨_, rfl⟩
      obtain ⟨x2, e2⟩ : ∃ x, p1.2 = x := ⟨_, rfl⟩
      rw [e1] at r0 hw q0 q1
      rw [e2] at r1 q2 q3
      have HE := WirS.hide (show p1 = (x1, x2) by rw [← e1, ← e2])
      have HQ := WirS.hide (show (⟨0, 0, 0, x1, x2⟩ : Vd).ok from ⟨by simp, by simp, by simp, ⟨q0, q1⟩, ⟨q2, q3⟩⟩)
      have HBl := WirS.hide (Nat.lt_of_lt_of_le H.out.lt hB.size)
      have hix : (0 : Int) ≤ (m : Int) + 1 := by omega
      have htn : ((m : Int) + 1).toNat = m + 1 := by omega
      have hwr : IntKind.i64.wrap ((m : Int) + 1) = (m : Int) + 1 := IntWalk.i64_in _ (by omega)
      clear hx hO hB hNB hp1 e1 e2 q0 q1 q2 q3
      rw [hm]
      clear hm
      go_upto_region 5 with fail
      go_region_held3 (fun w' => w'.cell? ⟨B, m, none⟩ = some (.int .i64 x1) ∧ w'.cell? ⟨B, m + 1, none⟩ = some (.int .i64 x2)) (go_keep)
        (first | (go_at_call 57; refine (key_any _ _).mono ?_; rintro e w1 ⟨rfl, hb⟩; have HB1 := WirS.hide (show Below wr.heap.size wr w1 from (below_drewN (Below.refl _ _) 1).trans hb); have d0 := (HB1.out.cell (p := ⟨B, m, none⟩) HBl.out).trans r0; have d1 := (HB1.out.cell (p := ⟨B, m + 1, none⟩) HBl.out).trans r1; have hal : Below w1.heap.size w1 (w1.alloc (.cells #[.int .u8 0, .int .u8 0, .int .u8 0, .int .u8 x1, .int .i64 x2] 100)) := Below.alloc (Below.refl _ _) (Nat.le_refl _) _; obtain ⟨v', u', hrun, ho, hf, hn⟩ := app_vals (w1.alloc (.cells #[.int .u8 0, .int .u8 0, .int .u8 0, .int .u8 x1, .int .i64 x2] 100)) 80 80 _ (.slice (some ⟨w1.heap.size, 0, none⟩) 1 1) _ [⟨0, 0, 0, x1, x2⟩] ((HO.out.below HB1.out).below hal) (src_one Try.underlying80 _ 0 1 _ (fun j v hj => by rw [Nat.zero_add]; exact ((At.new w1 _ (Vd.cells ⟨0, 0, 0, x1, x2⟩)).cell j).trans hj)) (fun y hy => by rw [List.mem_singleton.1 hy]; exact HQ.out) (by have := List.length_take_le k ps; simp [vof]; omega); have hBn : ¬ (Value.ownBlock u3 = some B) := (fun h => by have := HNB.out B h; have := H.out.lt; omega); have f0 := (hf.cell (p := ⟨B, m, none⟩) (Nat.lt_of_lt_of_le HBl.out (Nat.le_trans HB1.out.size hal.size)) hBn).trans ((hal.cell (p := ⟨B, m, none⟩) (Nat.lt_of_lt_of_le HBl.out HB1.out.size)).trans d0); have f1 := (hf.cell (p := ⟨B, m + 1, none⟩) (Nat.lt_of_lt_of_le HBl.out (Nat.le_trans HB1.out.size hal.size)) hBn).trans ((hal.cell (p := ⟨B, m + 1, none⟩) (Nat.lt_of_lt_of_le HBl.out HB1.out.size)).trans d1); have HRUN := WirS.hide hrun; have HO1 := WirS.hide ho; have HF1 := WirS.hide hf; have HN1 := WirS.hide hn; have HA1 := WirS.hide hal; clear hb ho hf hn hal hrun hBn) | (refine step_app rfl _ _ _ _ rfl _ _ rfl rfl v' u' HRUN.out ?_))
      go_wp2_with fail
      go_roundw
      case rel =>
        refine ⟨k + 1, by omega, by have := HM.out; go_num, ?_, ?_, ?_⟩
        · have h2 := HO1.out
          rw [List.take_add_one, HX.out, HE.out]
          simpa [vof] using h2
        · intro q hq
          rcases HN1.out q hq with h3 | h3
          · exact HNB.out q h3
          · have := HB.out.size
            have := HB1.out.size
            simp at h3
            omega
        · have hs := HB1.out.size
          exact HB.out.trans ((HB1.out.trans (HA1.out.mono hs)).mono HB.out.size |>.trans (HF1.out.below (by simp; have := HB.out.size; omega) (fun q hq hx => by have := HNB.out q hx; omega)))
      case measure => have := HM.out; simp [intOf]; omega
    · obtain rfl : k = ps.length := by omega
      have hkl : ¬ ((2 * ps.length : Nat) : Int) + 1 < (n : Int) := by have := HN.out; omega
      obtain ⟨m, hm⟩ : ∃ m, 2 * ps.length = m := ⟨_, rfl⟩
      rw [List.take_length] at hO
      obtain ⟨va, vc, rfl⟩ := hO.len_of
      obtain ⟨vn, hvn⟩ : ∃ vn, (vof ps).length = vn := ⟨_, rfl⟩
      rw [hvn] at hO hNB
      rw [hvn]
      have hm60 : m ≤ 60 := by omega
      rw [hm] at hkl
      rw [hm]
      have HO := WirS.hide hO
      have HB := WirS.hide hB
      have HNB := WirS.hide hNB
      clear hO hB hNB hvn hm hlt hk
      go_wp2_with fail
      go_ret
      exact ⟨_, _, _, rfl, HO.out, HNB.out, HB.out⟩
end ValF
end Go.Proofs.Ytackcnncjeajpaa

namespace Go.Proofs.Ytackcnncjeajpaa
namespace ValG
open Go.RowKit
open BlkM WirM WirS WirA WirB ValA ValB ValC ValD ValE ValF

def vmany (n : Nat) : List Vd := (List.range n).map fun k : Nat => ⟨0, 0, 0, (k : Int), 1⟩
theorem vmany_succ (n : Nat) : vmany (n + 1) = vmany n ++ [⟨0, 0, 0, (n : Int), 1⟩] := by simp [vmany, List.range_succ]
theorem vmany_len (n : Nat) : (vmany n).length = n := by simp [vmany]
def MidY (w : World) (n : Nat) (v i : Value) (U : World) : Prop :=
  ∃ k : Nat, k ≤ n ∧ i = .int .i64 (k : Int) ∧ OwnV U v (vmany k) ∧ NewB w v ∧ Below w.heap.size w U
theorem cv8 {n : Int} (a : Operand → Value) (o : Oper) (x : Operand) (ho : o.op = Op.convert 3 5 x) (hx : a x = .int .i64 n) (h0 : 0 ≤ n) (h1 : n < 256) (W : World) : (execOp a o).run Try.prog W = .ok (.value (.int .u8 n)) W := by
  have hw : IntKind.u8.wrap n = n := by simp [IntKind.wrap, IntKind.bits, IntKind.signed]; omega
  unfold execOp
  rw [ho]
  simp only [hx]
  simp [convert, run_underlying Try.underlying5, run_underlying Try.underlying3, Conv.intToInt, hw]
set_option maxRecDepth 10000 in
set_option maxHeartbeats 2000000 in
theorem many_any (w : World) (n : Nat) (hn : n ≤ 200) :
    Calls Try.prog 59 #[.int .i64 (n : Int)] w fun e w' => ∃ va vn vc, e = .returned (.slice va vn vc) ∧ OwnV w' (.slice va vn vc) (vmany n) ∧ NewB w (.slice va vn vc) ∧ Below w.heap.size w w' := by
  go_enter Try.func59, Try.ntmps59
  go_wp2_with fail
  go_loopw [3, 4] (fun v i wr => MidY w n v i wr) (fun _ i _ => n - (intOf i).toNat)
  case atStart => exact ⟨0, Nat.zero_le _, rfl, OwnV.nil _, fun k hk => by simp [Value.ownBlock] at hk, Below.refl _ _⟩
  case round =>
    obtain ⟨k, hk, rfl, hO, hNB, hB⟩ := hrel
    by_cases hlt : k < n
    · have hkl : (k : Int) < (n : Int) := by omega
      have HO := WirS.hide hO
      have HB := WirS.hide hB
      have HNB := WirS.hide hNB
      clear hO hB hNB
      go_upto_region 5 with fail
      refine wp_region_lit ?_
      refine sV (u3) (wr) (by kernel_rfl) (by kernel_rfl) ?_
      simp only [Act.put, List.setIfInBounds_toArray, List.set_cons_succ, List.set_cons_zero]
      refine sV (.int .i64 (k : Int)) (wr) (by kernel_rfl) (by kernel_rfl) ?_
      simp only [Act.put, List.setIfInBounds_toArray, List.set_cons_succ, List.set_cons_zero]
      refine sV (.int .u8 (k : Int)) wr (by kernel_rfl) (cv8 _ _ _ (by rfl) (by kernel_rfl) (by omega) (by omega) wr) ?_
      simp only [Act.put, List.setIfInBounds_toArray, List.set_cons_succ, List.set_cons_zero]
      refine sC (by kernel_rfl) (by kernel_rfl) (key_any wr (k : Int)) ?_
      rintro w1 hb
      simp only [Act.put, List.setIfInBounds_toArray, List.set_cons_succ, List.set_cons_zero]
      have hal : Below w1.heap.size w1 (w1.alloc (.cells #[.int .u8 0, .int .u8 0, .int .u8 0, .int .u8 (k : Int), .int .i64 1] 100)) := Below.alloc (Below.refl _ _) (Nat.le_refl _) _
      obtain ⟨v', u', hrun, ho, hf, hn'⟩ := app_vals (w1.alloc (.cells #[.int .u8 0, .int .u8 0, .int .u8 0, .int .u8 (k : Int), .int .i64 1] 100)) 80 80 _ (.slice (some ⟨w1.heap.size, 0, none⟩) 1 1) _ [⟨0, 0, 0, (k : Int), 1⟩] ((HO.out.below hb).below hal) (src_one Try.underlying80 _ 0 1 _ (fun j v hj => by rw [Nat.zero_add]; exact ((At.new w1 _ (Vd.cells ⟨0, 0, 0, (k : Int), 1⟩)).cell j).trans hj)) (fun y hy => by rw [List.mem_singleton.1 hy]; exact ⟨by simp, by simp, by simp, by simp; omega, by simp⟩) (by rw [vmany_len]; simp; omega)
      refine sV (.agg #[.int .u8 0, .int .u8 0, .int .u8 0, .int .u8 (k : Int), .int .i64 1]) (w1) (by kernel_rfl) (by kernel_rfl) ?_
      simp only [Act.put, List.setIfInBounds_toArray, List.set_cons_succ, List.set_cons_zero]
      refine sV (.slice (some ⟨w1.heap.size, 0, none⟩) 1 1) (w1.alloc (.cells #[.int .u8 0, .int .u8 0, .int .u8 0, .int .u8 (k : Int), .int .i64 1] 100)) (by kernel_rfl) (by kernel_rfl) ?_
      simp only [Act.put, List.setIfInBounds_toArray, List.set_cons_succ, List.set_cons_zero]
      refine sA (by kernel_rfl) 80 80 _ _ (by rfl) (u3) (.slice (some ⟨w1.heap.size, 0, none⟩) 1 1) (by kernel_rfl) (by kernel_rfl) (v') (u') hrun ?_
      simp only [Act.put, List.setIfInBounds_toArray, List.set_cons_succ, List.set_cons_zero]
      have HO1 := WirS.hide ho
      have HF1 := WirS.hide hf
      have HN1 := WirS.hide hn'
      have HA1 := WirS.hide hal
      have HB1 := WirS.hide hb
      clear hb ho hf hn' hal hrun
      go_wp2_with fail
      go_roundw
      case rel =>
        refine ⟨k + 1, by omega, by go_num, by rw [vmany_succ]; exact HO1.out, ?_, ?_⟩
        · intro q hq
          rcases HN1.out q hq with h3 | h3
          · exact HNB.out q h3
          · have := HB.out.size
            have := HB1.out.size
            simp at h3
            omega
        · have hs := HB1.out.size
          exact HB.out.trans ((HB1.out.trans (HA1.out.mono hs)).mono HB.out.size |>.trans (HF1.out.below (by simp; have := HB.out.size; omega) (fun q hq hx => by have := HNB.out q hx; omega)))
      case measure => simp [intOf]; omega
    · obtain rfl : k = n := by omega
      obtain ⟨va, vc, rfl⟩ := hO.len_of
      obtain ⟨vn, hvn⟩ : ∃ vn, (vmany k).length = vn := ⟨_, rfl⟩
      rw [hvn] at hO hNB
      rw [hvn]
      have HO := WirS.hide hO
      have HB := WirS.hide hB
      have HNB := WirS.hide hNB
      clear hO hB hNB hvn
      go_wp2_with fail
      go_ret
      exact ⟨_, _, _, rfl, HO.out, HNB.out, HB.out⟩
end ValG
end Go.Proofs.Ytackcnncjeajpaa

namespace Go.Proofs.Ytackcnncjeajpaa
namespace ValH
open Go.RowKit
open BlkM WirM WirS WirA WirB ValA ValB ValC ValD ValE

/-- Where the first one with this key stands, from i on; else -1. -/
def ixK (kk : List Int) : List Vd → Nat → Int
  | [], _ => -1
  | x :: l, i => if x.key = kk then (i : Int) else ixK kk l (i + 1)
theorem ixK_neg (kk : List Int) : ∀ (vs : List Vd) (i : Nat), (∀ x ∈ vs, x.key ≠ kk) → ixK kk vs i = -1
  | [], _, _ => rfl
  | x :: l, i, h => by rw [ixK, if_neg (h x (by simp)), ixK_neg kk l (i + 1) (fun y hy => h y (by simp [hy]))]
theorem ixK_pos (kk : List Int) : ∀ (vs : List Vd) (i : Nat), (∃ x ∈ vs, x.key = kk) → (i : Int) ≤ ixK kk vs i
  | [], _, h => by obtain ⟨_, h, _⟩ := h; cases h
  | x :: l, i, h => by
    rw [ixK]
    split
    · omega
    · obtain ⟨y, hy, e⟩ := h
      have : ∃ x ∈ l, x.key = kk := by
        rcases List.mem_cons.1 hy with rfl | hy
        · exact absurd e (by assumption)
        · exact ⟨y, hy, e⟩
      have := ixK_pos kk l (i + 1) this
      omega
theorem ixK_iff (kk : List Int) (vs : List Vd) : 0 ≤ ixK kk vs 0 ↔ ∃ x ∈ vs, x.key = kk := by
  by_cases h : ∃ x ∈ vs, x.key = kk
  · have := ixK_pos kk vs 0 h
    simp only [h, iff_true]
    omega
  · rw [ixK_neg kk vs 0 (fun x hx e => h ⟨x, hx, e⟩)]
    simp only [h, iff_false]
    omega
theorem ixK_lt (kk : List Int) : ∀ (vs : List Vd) (i : Nat), ixK kk vs i < ((i + vs.length : Nat) : Int)
  | [], i => by rw [ixK]; omega
  | x :: l, i => by
    rw [ixK]
    have := ixK_lt kk l (i + 1)
    simp only [List.length_cons]
    split <;> omega
def kcl (k : Vd) : List Value := [.int .u8 k.a, .int .u8 k.b, .int .u8 k.c, .int .u8 k.d]
theorem eqK4 (x k : Vd) (W : World) : (binOp .eql 36 (.agg #[.int .u8 x.a, .int .u8 x.b, .int .u8 x.c, .int .u8 x.d]) (.agg #[.int .u8 k.a, .int .u8 k.b, .int .u8 k.c, .int .u8 k.d])).run Try.prog W = .ok (.bool (decide (x.key = k.key))) W := WirBE.eqKg x.key k.key rfl rfl W
set_option maxRecDepth 10000 in
theorem is_any (w : World) (X : Nat) (v k : Vd) (h : At w X 36 (kcl k)) :
    Calls Try.prog 150 #[.agg #[.int .u8 v.a, .int .u8 v.b, .int .u8 v.c, .int .u8 v.d, .int .i64 v.p], .pointer (some ⟨X, 0, none⟩)] w fun e w' => e = .returned (.bool (decide (v.key = k.key))) ∧ Below w.heap.size w w' := by
  have hlt := h.lt
  have c0 : w.cell? ⟨X, 0, none⟩ = some (.int .u8 k.a) := h.cell 0
  have c1 : w.cell? ⟨X, 1, none⟩ = some (.int .u8 k.b) := h.cell 1
  have c2 : w.cell? ⟨X, 2, none⟩ = some (.int .u8 k.c) := h.cell 2
  have c3 : w.cell? ⟨X, 3, none⟩ = some (.int .u8 k.d) := h.cell 3
  have hq := eqK4 v k
  generalize decide (v.key = k.key) = r at *
  clear h
  go_enter Try.func150, Try.ntmps150
  go_wp2_with fail
  go_ret
  exact ⟨rfl, Below.alloc (Below.refl _ _) (Nat.le_refl _) _⟩
def MidI (w : World) (vs : List Vd) (kk : List Int) (n : Nat) (i : Value) (U : World) : Prop :=
  ∃ k : Nat, k ≤ n ∧ i = .int .i64 (k : Int) ∧ ixK kk vs 0 = ixK kk (vs.drop k) k ∧ Below w.heap.size w U
set_option maxRecDepth 10000 in
set_option maxHeartbeats 2000000 in
theorem index_any (w : World) (a : Option Addr) (n c X : Nat) (vs : List Vd) (kv : Vd) (h : VIn w a n c vs) (hX : At w X 36 (kcl kv)) :
    Calls Try.prog 149 #[.slice a n c, .func (.func 150) #[] #[.pointer (some ⟨X, 0, none⟩)]] w fun e w' => e = .returned (.int .i64 (ixK kv.key vs 0)) ∧ Below w.heap.size w w' := by
  have hns : n ≤ 9223372036854775807 := Nat.le_trans h.cap h.small
  have HL := WirS.hide h.len
  have H := WirS.hide h
  have HX := WirS.hide hX
  clear h hX
  go_enter Try.func149, Try.ntmps149
  go_wp2_with fail
  go_loopw [8] (fun i wr => MidI w vs kv.key n i wr) (fun i _ => n - (intOf i).toNat)
  case atStart => exact ⟨0, Nat.zero_le _, rfl, rfl, Below.refl _ _⟩
  case round =>
    obtain ⟨k, hk, rfl, hE, hB⟩ := hrel
    by_cases hlt : k < n
    · obtain ⟨x, B, o, hx, hmem, rfl, hBl, hr⟩ := (H.out.below hB).cell hlt
      have r0 : wr.cell? ⟨B, o + k * 5, none⟩ = some (.int .u8 x.a) := hr 0 _ rfl
      have r1 : wr.cell? ⟨B, o + k * 5 + 1, none⟩ = some (.int .u8 x.b) := hr 1 _ rfl
      have r2 : wr.cell? ⟨B, o + k * 5 + 2, none⟩ = some (.int .u8 x.c) := hr 2 _ rfl
      have r3 : wr.cell? ⟨B, o + k * 5 + 3, none⟩ = some (.int .u8 x.d) := hr 3 _ rfl
      have r4 : wr.cell? ⟨B, o + k * 5 + 4, none⟩ = some (.int .i64 x.p) := hr 4 _ rfl
      have hkl : (k : Int) < (n : Int) := by omega
      have HC := WirS.hide (is_any wr X x kv (HX.out.below hB HX.out.lt))
      rw [drop_get hx, ixK] at hE
      have HB := WirS.hide hB
      clear hr hx hB hmem
      by_cases hkk : x.key = kv.key
      · rw [if_pos hkk] at hE
        rw [decide_eq_true hkk] at HC
        have HE := WirS.hide hE
        clear hE hkk
        go_wp2_with (first | (go_at_call 150; refine (HC.out).mono ?_; rintro e u ⟨rfl, hb⟩; have HU := WirS.hide hb; clear hb))
        go_ret
        exact ⟨by rw [HE.out]; rfl, HB.out.trans (HU.out.mono HB.out.size)⟩
      · rw [if_neg hkk] at hE
        rw [decide_eq_false hkk] at HC
        have HE := WirS.hide hE
        clear hE hkk
        go_wp2_with (first | (go_at_call 150; refine (HC.out).mono ?_; rintro e u ⟨rfl, hb⟩; have HU := WirS.hide hb; clear hb))
        go_roundw
        case rel => exact ⟨k + 1, by omega, by go_num, HE.out, HB.out.trans (HU.out.mono HB.out.size)⟩
        case measure => simp [intOf]; omega
    · have hd : vs.drop k = [] := List.drop_eq_nil_of_le (by rw [HL.out]; omega)
      rw [hd, ixK] at hE
      have HE := WirS.hide hE
      have HB := WirS.hide hB
      clear hE hB hd
      go_wp2_with fail
      go_ret
      exact ⟨by rw [HE.out]; rfl, HB.out⟩
set_option maxRecDepth 10000 in
set_option maxHeartbeats 2000000 in
theorem find_any (w : World) (a : Option Addr) (n c : Nat) (vs : List Vd) (kv : Vd) (h : VIn w a n c vs) :
    Calls Try.prog 55 #[.slice a n c, .agg #[.int .u8 kv.a, .int .u8 kv.b, .int .u8 kv.c, .int .u8 kv.d]] w fun e w' => e = .returned (.tuple #[.int .i64 (if 0 ≤ ixK kv.key vs 0 then ixK kv.key vs 0 else 0), .bool (decide (0 ≤ ixK kv.key vs 0))]) ∧ Below w.heap.size w w' := by
  obtain ⟨W0, e0⟩ : ∃ X, X = w.alloc (.cells #[.int .u8 kv.a, .int .u8 kv.b, .int .u8 kv.c, .int .u8 kv.d] 36) := ⟨_, rfl⟩
  have hA : At W0 w.heap.size 36 (kcl kv) := by rw [e0]; exact At.new w _ _
  have hB : Below w.heap.size w W0 := by rw [e0]; exact Below.alloc (Below.refl _ _) (Nat.le_refl _) _
  have HC := WirS.hide (index_any W0 a n c w.heap.size vs kv (h.below hB) hA)
  have HB := WirS.hide hB
  have E0 := WirS.hide e0
  generalize ixK kv.key vs 0 = r at *
  clear h e0 hA hB
  by_cases hr : 0 ≤ r
  · rw [if_pos hr, decide_eq_true hr]
    go_enter Try.func55, Try.ntmps55
    go_upto_region 1 with fail
    rw [← E0.out]
    go_wp2_with (first | (go_at_call 149; refine (HC.out).mono ?_; rintro e u ⟨rfl, hb⟩; have HU := WirS.hide hb; clear hb))
    exact bodyPost_ret (v := .tuple #[.int .i64 r, .bool true]) (by simp [results, Try.results55, go_sem]; omega) rfl ⟨rfl, HB.out.trans (HU.out.mono HB.out.size)⟩
  · rw [if_neg hr, decide_eq_false hr]
    go_enter Try.func55, Try.ntmps55
    go_upto_region 1 with fail
    rw [← E0.out]
    go_wp2_with (first | (go_at_call 149; refine (HC.out).mono ?_; rintro e u ⟨rfl, hb⟩; have HU := WirS.hide hb; clear hb))
    exact bodyPost_ret (v := .tuple #[.int .i64 0, .bool false]) (by simp [results, Try.results55, go_sem]; omega) rfl ⟨rfl, HB.out.trans (HU.out.mono HB.out.size)⟩
set_option maxRecDepth 10000 in
theorem has_any (w : World) (a : Option Addr) (n c : Nat) (vs : List Vd) (kv : Vd) (h : VIn w a n c vs) :
    Calls Try.prog 187 #[.slice a n c, .agg #[.int .u8 kv.a, .int .u8 kv.b, .int .u8 kv.c, .int .u8 kv.d]] w fun e w' => e = .returned (.bool (decide (0 ≤ ixK kv.key vs 0))) ∧ Below w.heap.size w w' := by
  obtain ⟨W0, e0⟩ : ∃ X, X = w.alloc (.cells #[.int .u8 kv.a, .int .u8 kv.b, .int .u8 kv.c, .int .u8 kv.d] 36) := ⟨_, rfl⟩
  have hA : At W0 w.heap.size 36 (kcl kv) := by rw [e0]; exact At.new w _ _
  have hB : Below w.heap.size w W0 := by rw [e0]; exact Below.alloc (Below.refl _ _) (Nat.le_refl _) _
  have c0 : W0.cell? ⟨w.heap.size, 0, none⟩ = some (.int .u8 kv.a) := hA.cell 0
  have c1 : W0.cell? ⟨w.heap.size, 1, none⟩ = some (.int .u8 kv.b) := hA.cell 1
  have c2 : W0.cell? ⟨w.heap.size, 2, none⟩ = some (.int .u8 kv.c) := hA.cell 2
  have c3 : W0.cell? ⟨w.heap.size, 3, none⟩ = some (.int .u8 kv.d) := hA.cell 3
  have HC := WirS.hide (find_any W0 a n c vs kv (h.below hB))
  have HB := WirS.hide hB
  have E0 := WirS.hide e0
  generalize (if 0 ≤ ixK kv.key vs 0 then ixK kv.key vs 0 else 0) = r at *
  generalize decide (0 ≤ ixK kv.key vs 0) = s at *
  clear h e0 hA hB
  go_enter Try.func187, Try.ntmps187
  go_upto_region 1 with fail
  rw [← E0.out]
  go_wp2_with (first | (go_at_call 55; refine (HC.out).mono ?_; rintro e u ⟨rfl, hb⟩; have HU := WirS.hide hb; clear hb))
  go_ret
  exact ⟨rfl, HB.out.trans (HU.out.mono HB.out.size)⟩
set_option maxRecDepth 10000 in
theorem removes_any (w : World) (v : Vd) : Calls Try.prog 145 #[.agg #[.int .u8 v.a, .int .u8 v.b, .int .u8 v.c, .int .u8 v.d, .int .i64 v.p]] w fun e w' => e = .returned (.bool (v.p == 0)) ∧ Below w.heap.size w w' := by
  go_enter Try.func145, Try.ntmps145
  go_wp2_with fail
  go_ret
  exact ⟨rfl, Below.alloc (Below.refl _ _) (Nat.le_refl _) _⟩
end ValH
end Go.Proofs.Ytackcnncjeajpaa

namespace Go.Proofs.Ytackcnncjeajpaa
namespace ValM
open Go.RowKit
open BlkM WirM WirS WirA WirB ValA ValB ValC ValD ValE ValH ValP

/-- What is wrong first with changes of vs. -/
def chgE (vs : List Vd) : Option Vd → List Vd → Int
  | _, [] => 0
  | q, x :: cs => if nextE 0 q x ≠ 0 then nextE 0 q x else if x.p = 0 ∧ ¬ 0 ≤ ixK x.key vs 0 then 10 else chgE vs (some x) cs
def MidG (w : World) (vs ch : List Vd) (n : Nat) (i : Value) (U : World) : Prop :=
  ∃ (k : Nat) (q : Option Vd), k ≤ n ∧ i = .int .i64 (k : Int) ∧ At U w.heap.size 166 (rcl 0 q) ∧ (∀ x, q = some x → x ∈ ch) ∧ chgE vs none ch = chgE vs q (ch.drop k) ∧ Below w.heap.size w U
set_option maxRecDepth 10000 in
set_option maxHeartbeats 4000000 in
theorem checkChanges_any (w : World) (a a2 : Option Addr) (n c n2 c2 : Nat) (vs ch : List Vd) (h : VIn w a n c vs) (h2 : VIn w a2 n2 c2 ch) (hn2 : n2 ≤ 1000000) :
    Calls Try.prog 143 #[.slice a n c, .slice a2 n2 c2] w fun e w' => e = .returned (.int .i64 (chgE vs none ch)) ∧ Below w.heap.size w w' := by
  have HV := WirS.hide h
  have H := WirS.hide h2
  have HL := WirS.hide h2.len
  have hst : MidG w vs ch n2 (.int .i64 0) (w.alloc (.cells #[.int .i64 0, .bool false, .int .u8 0, .int .u8 0, .int .u8 0, .int .u8 0] 166)) :=
    ⟨0, none, by omega, rfl, At.new w _ (rcl 0 none), (fun x hx => absurd hx (by simp)), rfl, Below.alloc (Below.refl _ _) (Nat.le_refl _) _⟩
  have HST := WirS.hide hst
  clear h h2 hst
  go_enter Try.func143, Try.ntmps143
  go_wp2_with fail
  go_loopw [12] (fun i wr => MidG w vs ch n2 i wr) (fun i _ => n2 - (intOf i).toNat)
  case atStart => exact HST.out
  case round =>
    clear HST
    obtain ⟨k, q, hk, rfl, hR, hq, hE, hB⟩ := hrel
    by_cases hlt : k < n2
    · obtain ⟨x, B, o, hx, hmem, rfl, hBl, hr⟩ := (H.out.below hB).cell hlt
      have r0 : wr.cell? ⟨B, o + k * 5, none⟩ = some (.int .u8 x.a) := hr 0 _ rfl
      have r1 : wr.cell? ⟨B, o + k * 5 + 1, none⟩ = some (.int .u8 x.b) := hr 1 _ rfl
      have r2 : wr.cell? ⟨B, o + k * 5 + 2, none⟩ = some (.int .u8 x.c) := hr 2 _ rfl
      have r3 : wr.cell? ⟨B, o + k * 5 + 3, none⟩ = some (.int .u8 x.d) := hr 3 _ rfl
      have r4 : wr.cell? ⟨B, o + k * 5 + 4, none⟩ = some (.int .i64 x.p) := hr 4 _ rfl
      have hkl : (k : Int) < (n2 : Int) := by omega
      have HX := WirS.hide hx
      have HE := WirS.hide hE
      have HB2 := WirS.hide (show Below w.heap.size w (wr.alloc (.cells #[.int .u8 x.a, .int .u8 x.b, .int .u8 x.c, .int .u8 x.d, .int .i64 x.p] 100)) from hB.alloc hB.size _)
      have hR2 : At (wr.alloc (.cells #[.int .u8 x.a, .int .u8 x.b, .int .u8 x.c, .int .u8 x.d, .int .i64 x.p] 100)) w.heap.size 166 (rcl 0 q) := hR.alloc _
      have HXA := WirS.hide (show At (wr.alloc (.cells #[.int .u8 x.a, .int .u8 x.b, .int .u8 x.c, .int .u8 x.d, .int .i64 x.p] 100)) wr.heap.size 100 x.cells from At.new wr _ _)
      have hXR : wr.heap.size ≠ w.heap.size := by have := hR.lt; omega
      have hqo : ∀ y, q = some y → y.ok := fun y hy => H.out.ok y (hq y hy)
      have hxo := H.out.ok x hmem
      have HM := WirS.hide hmem
      have HXR := WirS.hide hXR
      rw [drop_get HX.out, chgE] at HE
      by_cases hne : nextE 0 q x = 0
      · have HN := WirS.hide (next_ok _ _ 0 q x hqo hxo hR2 hne)
        rw [if_neg (by simpa using hne)] at HE
        clear hr hx hE hB hq hmem hqo hxo hR2 hne hR HX hXR
        by_cases hp : x.p = 0
        · have HRm := WirS.hide (fun U => show Calls Try.prog 145 #[.agg #[.int .u8 x.a, .int .u8 x.b, .int .u8 x.c, .int .u8 x.d, .int .i64 x.p]] U (fun e w' => e = .returned (.bool true) ∧ Below U.heap.size U w') from by
            have := removes_any U x
            rw [show (x.p == 0) = true by simpa using hp] at this
            exact this)
          have HHs := WirS.hide (fun U (hU : Below w.heap.size w U) => has_any U a n c vs x (HV.out.below hU))
          by_cases hi : 0 ≤ ixK x.key vs 0
          · rw [if_neg (by simp [hi])] at HE
            rw [decide_eq_true hi] at HHs
            clear hp hi
            go_wp2_with (first | (go_at_call 151; refine (HN.out).mono ?_; rintro e u ⟨rfl, hA, hF⟩; have HA := WirS.hide hA; have hxu := At.fr HXA.out hF HXR.out; have d0 : u.cell? ⟨wr.heap.size, 0, none⟩ = some (.int .u8 x.a) := hxu.cell 0; have d1 : u.cell? ⟨wr.heap.size, 1, none⟩ = some (.int .u8 x.b) := hxu.cell 1; have d2 : u.cell? ⟨wr.heap.size, 2, none⟩ = some (.int .u8 x.c) := hxu.cell 2; have d3 : u.cell? ⟨wr.heap.size, 3, none⟩ = some (.int .u8 x.d) := hxu.cell 3; have d4 : u.cell? ⟨wr.heap.size, 4, none⟩ = some (.int .i64 x.p) := hxu.cell 4; have HXU := WirS.hide hxu; have HU := WirS.hide (HB2.out.trans (hF.below HB2.out.size (fun k hk hx => by omega))); clear hA hF hxu) | (go_at_call 145; refine (HRm.out _).mono ?_; rintro e u2 ⟨rfl, hb⟩; have hx2 := HXU.out.below hb HXU.out.lt; have d0 : u2.cell? ⟨wr.heap.size, 0, none⟩ = some (.int .u8 x.a) := hx2.cell 0; have d1 : u2.cell? ⟨wr.heap.size, 1, none⟩ = some (.int .u8 x.b) := hx2.cell 1; have d2 : u2.cell? ⟨wr.heap.size, 2, none⟩ = some (.int .u8 x.c) := hx2.cell 2; have d3 : u2.cell? ⟨wr.heap.size, 3, none⟩ = some (.int .u8 x.d) := hx2.cell 3; have HA2 := WirS.hide (HA.out.below hb HA.out.lt); have HU2 := WirS.hide (HU.out.trans (hb.mono HU.out.size)); clear hb hx2) | (go_at_call 187; refine (HHs.out _ HU2.out).mono ?_; rintro e u3 ⟨rfl, hb⟩; have HA3 := WirS.hide (HA2.out.below hb HA2.out.lt); have HU3 := WirS.hide (HU2.out.trans (hb.mono HU2.out.size)); clear hb))
            go_roundw
            case rel => exact ⟨k + 1, some x, by omega, by go_num, HA3.out, fun y hy => by cases hy; exact HM.out, HE.out, HU3.out⟩
            case measure => simp [intOf]; omega
          · rw [if_pos ⟨hp, hi⟩] at HE
            rw [decide_eq_false hi] at HHs
            clear hp hi
            go_wp2_with (first | (go_at_call 151; refine (HN.out).mono ?_; rintro e u ⟨rfl, hA, hF⟩; have HA := WirS.hide hA; have hxu := At.fr HXA.out hF HXR.out; have d0 : u.cell? ⟨wr.heap.size, 0, none⟩ = some (.int .u8 x.a) := hxu.cell 0; have d1 : u.cell? ⟨wr.heap.size, 1, none⟩ = some (.int .u8 x.b) := hxu.cell 1; have d2 : u.cell? ⟨wr.heap.size, 2, none⟩ = some (.int .u8 x.c) := hxu.cell 2; have d3 : u.cell? ⟨wr.heap.size, 3, none⟩ = some (.int .u8 x.d) := hxu.cell 3; have d4 : u.cell? ⟨wr.heap.size, 4, none⟩ = some (.int .i64 x.p) := hxu.cell 4; have HXU := WirS.hide hxu; have HU := WirS.hide (HB2.out.trans (hF.below HB2.out.size (fun k hk hx => by omega))); clear hA hF hxu) | (go_at_call 145; refine (HRm.out _).mono ?_; rintro e u2 ⟨rfl, hb⟩; have hx2 := HXU.out.below hb HXU.out.lt; have d0 : u2.cell? ⟨wr.heap.size, 0, none⟩ = some (.int .u8 x.a) := hx2.cell 0; have d1 : u2.cell? ⟨wr.heap.size, 1, none⟩ = some (.int .u8 x.b) := hx2.cell 1; have d2 : u2.cell? ⟨wr.heap.size, 2, none⟩ = some (.int .u8 x.c) := hx2.cell 2; have d3 : u2.cell? ⟨wr.heap.size, 3, none⟩ = some (.int .u8 x.d) := hx2.cell 3; have HU2 := WirS.hide (HU.out.trans (hb.mono HU.out.size)); clear hb hx2) | (go_at_call 187; refine (HHs.out _ HU2.out).mono ?_; rintro e u3 ⟨rfl, hb⟩; have HU3 := WirS.hide (HU2.out.trans (hb.mono HU2.out.size)); clear hb))
            go_ret
            exact ⟨(by rw [HE.out]; rfl), HU3.out⟩
        · have HRm := WirS.hide (fun U => show Calls Try.prog 145 #[.agg #[.int .u8 x.a, .int .u8 x.b, .int .u8 x.c, .int .u8 x.d, .int .i64 x.p]] U (fun e w' => e = .returned (.bool false) ∧ Below U.heap.size U w') from by
            have := removes_any U x
            rw [show (x.p == 0) = false by simpa using hp] at this
            exact this)
          rw [if_neg (fun h => hp h.1)] at HE
          clear hp
          go_wp2_with (first | (go_at_call 151; refine (HN.out).mono ?_; rintro e u ⟨rfl, hA, hF⟩; have HA := WirS.hide hA; have hxu := At.fr HXA.out hF HXR.out; have d0 : u.cell? ⟨wr.heap.size, 0, none⟩ = some (.int .u8 x.a) := hxu.cell 0; have d1 : u.cell? ⟨wr.heap.size, 1, none⟩ = some (.int .u8 x.b) := hxu.cell 1; have d2 : u.cell? ⟨wr.heap.size, 2, none⟩ = some (.int .u8 x.c) := hxu.cell 2; have d3 : u.cell? ⟨wr.heap.size, 3, none⟩ = some (.int .u8 x.d) := hxu.cell 3; have d4 : u.cell? ⟨wr.heap.size, 4, none⟩ = some (.int .i64 x.p) := hxu.cell 4; have HU := WirS.hide (HB2.out.trans (hF.below HB2.out.size (fun k hk hx => by omega))); clear hA hF hxu) | (go_at_call 145; refine (HRm.out _).mono ?_; rintro e u2 ⟨rfl, hb⟩; have HA2 := WirS.hide (HA.out.below hb HA.out.lt); have HU2 := WirS.hide (HU.out.trans (hb.mono HU.out.size)); clear hb))
          go_roundw
          case rel => exact ⟨k + 1, some x, by omega, by go_num, HA2.out, fun y hy => by cases hy; exact HM.out, HE.out, HU2.out⟩
          case measure => simp [intOf]; omega
      · obtain ⟨cd, hcd⟩ : ∃ cd, nextE 0 q x = cd := ⟨_, rfl⟩
        have HN := WirS.hide (next_no _ _ 0 q x hqo hxo hR2 cd hcd)
        rw [if_pos (by simpa using hne), hcd] at HE
        rw [hcd] at hne
        have hn0 : (cd == 0) = false := by simpa using hne
        have hn1 : (cd != 0) = true := by simpa using hne
        clear hr hx hE hB hq hmem hqo hxo hR2 hne hR HX hcd hXR
        go_wp2_with (first | (go_at_call 151; refine (HN.out).mono ?_; rintro e u ⟨rfl, hF⟩; have HU := WirS.hide (hF.below HB2.out.size (fun k hk hx => by omega)); clear hF))
        go_ret
        exact ⟨(by rw [HE.out]; rfl), HB2.out.trans HU.out⟩
    · have hd : ch.drop k = [] := List.drop_eq_nil_of_le (by rw [HL.out]; omega)
      rw [hd, chgE] at hE
      have HE := WirS.hide hE
      have HB := WirS.hide hB
      clear hE hB hR hq hd
      go_wp2_with fail
      go_ret
      exact ⟨(by rw [HE.out]; rfl), HB.out⟩
end ValM
end Go.Proofs.Ytackcnncjeajpaa

namespace Go.Proofs.Ytackcnncjeajpaa
namespace ValN
open Go.RowKit
open BlkM WirM WirS WirA WirB ValA ValB ValC ValD ValE ValH ValP ValM

/-- Both lists merged, with all keys ascending; where both have a key, the second one's. -/
def mrg : List Vd → List Vd → List Vd
  | [], cs => cs
  | os, [] => os
  | o :: os, c :: cs => if o.rk < c.rk then o :: mrg os (c :: cs) else if o.rk = c.rk then c :: mrg os cs else c :: mrg (o :: os) cs
termination_by a b => a.length + b.length
theorem mrg_nil_left (cs : List Vd) : mrg [] cs = cs := by simp [mrg]
theorem mrg_nil_right (os : List Vd) : mrg os [] = os := by cases os <;> simp [mrg]
theorem mrg_lt {o c : Vd} (os cs : List Vd) (h : o.rk < c.rk) : mrg (o :: os) (c :: cs) = o :: mrg os (c :: cs) := by rw [mrg, if_pos h]
theorem mrg_eq {o c : Vd} (os cs : List Vd) (h : o.rk = c.rk) : mrg (o :: os) (c :: cs) = c :: mrg os cs := by rw [mrg, if_neg (by omega), if_pos h]
theorem mrg_gt {o c : Vd} (os cs : List Vd) (h : c.rk < o.rk) : mrg (o :: os) (c :: cs) = c :: mrg (o :: os) cs := by rw [mrg, if_neg (by omega), if_neg (by omega)]
theorem mrg_mem (os cs : List Vd) : ∀ x ∈ mrg os cs, x ∈ os ∨ x ∈ cs := by
  induction os, cs using mrg.induct with
  | case1 cs => intro x hx; rw [mrg_nil_left] at hx; exact .inr hx
  | case2 os h => intro x hx; rw [mrg_nil_right] at hx; exact .inl hx
  | case3 o os c cs h ih =>
    intro x hx
    rw [mrg_lt os cs h] at hx
    rcases List.mem_cons.1 hx with rfl | hx
    · exact .inl (by simp)
    · rcases ih x hx with h | h
      · exact .inl (by simp [h])
      · exact .inr h
  | case4 o os c cs h h2 ih =>
    intro x hx
    rw [mrg_eq os cs h2] at hx
    rcases List.mem_cons.1 hx with rfl | hx
    · exact .inr (by simp)
    · rcases ih x hx with h | h
      · exact .inl (by simp [h])
      · exact .inr (by simp [h])
  | case5 o os c cs h h2 ih =>
    intro x hx
    rw [mrg_gt os cs (by omega)] at hx
    rcases List.mem_cons.1 hx with rfl | hx
    · exact .inr (by simp)
    · rcases ih x hx with h | h
      · exact .inl h
      · exact .inr (by simp [h])
theorem mrg_len (os cs : List Vd) : (mrg os cs).length ≤ os.length + cs.length := by
  induction os, cs using mrg.induct with
  | case1 cs => rw [mrg_nil_left]; simp
  | case2 os h => rw [mrg_nil_right]; simp
  | case3 o os c cs h ih => rw [mrg_lt os cs h]; simp only [List.length_cons] at ih ⊢; omega
  | case4 o os c cs h h2 ih => rw [mrg_eq os cs h2]; simp only [List.length_cons] at ih ⊢; omega
  | case5 o os c cs h h2 ih => rw [mrg_gt os cs (by omega)]; simp only [List.length_cons] at ih ⊢; omega
/-- Without the first one. -/
theorem cut_one {w : World} {B o n c : Nat} {x : Vd} {vs : List Vd} (h : VIn w (some ⟨B, o, none⟩) (n + 1) c (x :: vs)) :
    ∃ a2 c2, (∀ W : World, (Instr.sliceAt 80 (.slice (some ⟨B, o, none⟩) (n + 1) c) (some (.int .i64 1)) none none).run Try.prog W = .ok (.slice a2 n c2) W) ∧ VIn w a2 n c2 vs := by
  have hc := h.cap
  have hs := h.small
  have hu : Try.prog.underlying 80 = some (.slice (Try.prog.elem 80)) := by kernel_rfl
  refine ⟨if c = 1 then some ⟨B, o, none⟩ else some ⟨B, o + 5, none⟩, c - 1, fun W => ?_, ?_⟩
  · rw [run_sliceAt_slice W 80 _ _ _ _ hu, run_slice_l W 80 _ (n + 1) c hu .i64 1 (by omega) (by omega)]
    have hz : (sizeOf (Try.prog.elem 80)).run Try.prog W = .ok 5 W := by kernel_rfl
    rw [hz]
    by_cases h1 : c = 1 <;> simp [sliced, h1, Addr.add]
  · by_cases h1 : c = 1
    · rw [if_pos h1]
      obtain rfl : n = 0 := by omega
      have hl := h.len
      obtain rfl : vs = [] := List.eq_nil_of_length_eq_zero (by simpa using hl)
      exact VIn.nil w _ _ (by omega)
    · rw [if_neg h1]
      exact h.tail
theorem VIn.head {w : World} {a : Option Addr} {n c : Nat} {x : Vd} {vs : List Vd} (h : VIn w a n c (x :: vs)) : ∃ B o m, a = some ⟨B, o, none⟩ ∧ n = m + 1 ∧ B < w.heap.size ∧ w.rangeAt B o x.cells ∧ x.ok := by
  have hl := h.len
  obtain ⟨B, o, e, hB, hr⟩ := h.row (by simp at hl; omega)
  have := hr 0 x rfl
  rw [Nat.zero_mul, Nat.add_zero] at this
  exact ⟨B, o, vs.length, e, by simpa using hl.symm, hB, this, h.ok x (by simp)⟩
end ValN
end Go.Proofs.Ytackcnncjeajpaa

