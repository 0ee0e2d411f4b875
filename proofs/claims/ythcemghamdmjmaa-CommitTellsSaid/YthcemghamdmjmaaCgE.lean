/-
  ValA, CmS, CmR, in one text.
-/
import Derived.Test.YthcemghamdmjmaaPkA
import Derived.Deep.MidRow
import Derived.Deep.AppendSrc
import Derived.Test.YthcemghamdmjmaaCgD
namespace Go.Proofs.Ythcemghamdmjmaa
namespace ValA
open Go.RowKit
open BlkM WirM WirS

/-- A validator: its key's four bytes, its power. -/
structure Vd where
  a : Int
  b : Int
  c : Int
  d : Int
  p : Int
def Vd.cells (v : Vd) : List Value := [.int .u8 v.a, .int .u8 v.b, .int .u8 v.c, .int .u8 v.d, .int .i64 v.p]
def Vd.key (v : Vd) : List Int := [v.a, v.b, v.c, v.d]
/-- Its key as one number. -/
def Vd.rk (v : Vd) : Int := ((v.a * 256 + v.b) * 256 + v.c) * 256 + v.d
structure Vd.ok (v : Vd) : Prop where
  a : 0 ≤ v.a ∧ v.a < 256
  b : 0 ≤ v.b ∧ v.b < 256
  c : 0 ≤ v.c ∧ v.c < 256
  d : 0 ≤ v.d ∧ v.d < 256
  p : -9223372036854775808 ≤ v.p ∧ v.p < 9223372036854775808
theorem Vd.key_eq {x y : Vd} (hx : x.ok) (hy : y.ok) (h : x.rk = y.rk) : x.a = y.a ∧ x.b = y.b ∧ x.c = y.c ∧ x.d = y.d := by
  obtain ⟨a, b, c, d, _⟩ := hx
  obtain ⟨a', b', c', d', _⟩ := hy
  unfold Vd.rk at h
  omega
theorem Vd.eq_of {x y : Vd} (hx : x.ok) (hy : y.ok) (h : x.rk = y.rk) (hp : x.p = y.p) : x = y := by
  obtain ⟨h1, h2, h3, h4⟩ := Vd.key_eq hx hy h
  cases x
  cases y
  simp_all
def cellsL (vs : List Vd) : List Value := vs.flatMap Vd.cells
theorem cells_len (v : Vd) : v.cells.length = 5 := rfl
theorem cellsL_len : ∀ vs : List Vd, (cellsL vs).length = vs.length * 5
  | [] => rfl
  | x :: l => by
    have : cellsL (x :: l) = x.cells ++ cellsL l := by simp [cellsL]
    rw [this, List.length_append, cellsL_len l, cells_len, List.length_cons]
    omega
theorem cellsL_app (a b : List Vd) : cellsL (a ++ b) = cellsL a ++ cellsL b := by simp [cellsL]
theorem cellsL_get : ∀ (vs : List Vd) (i : Nat) (x : Vd), vs[i]? = some x → ∀ j v, x.cells[j]? = some v → (cellsL vs)[i * 5 + j]? = some v
  | [], i, x, h => by simp at h
  | y :: l, 0, x, h => fun j v hj => by
    have e : cellsL (y :: l) = y.cells ++ cellsL l := by simp [cellsL]
    simp at h
    subst h
    have hj5 : j < y.cells.length := (List.getElem?_eq_some_iff.1 hj).1
    rw [e, Nat.zero_mul, Nat.zero_add, List.getElem?_append_left hj5]
    exact hj
  | y :: l, i + 1, x, h => fun j v hj => by
    have e : cellsL (y :: l) = y.cells ++ cellsL l := by simp [cellsL]
    have h' : l[i]? = some x := by simpa using h
    rw [e, List.getElem?_append_right (by rw [cells_len]; omega), cells_len, show (i + 1) * 5 + j - 5 = i * 5 + j by omega]
    exact cellsL_get l i x h' j v hj
theorem one_cells (vs : List Vd) : ∀ u ∈ cellsL vs, u.oneCell' = true := by
  intro u hu
  simp only [cellsL, List.mem_flatMap] at hu
  obtain ⟨x, _, hx⟩ := hu
  simp [Vd.cells] at hx
  rcases hx with rfl | rfl | rfl | rfl | rfl <;> rfl

/-- A list of validators, as it comes in. -/
structure VIn (w : World) (a : Option Addr) (n c : Nat) (vs : List Vd) : Prop where
  len : vs.length = n
  cap : n ≤ c
  small : c ≤ 9223372036854775807
  row : 0 < n → ∃ B o, a = some ⟨B, o, none⟩ ∧ B < w.heap.size ∧ ∀ (i : Nat) (x : Vd), vs[i]? = some x → w.rangeAt B (o + i * 5) x.cells
  ok : ∀ x ∈ vs, x.ok
theorem VIn.nil (w : World) (a : Option Addr) (c : Nat) (hc : c ≤ 9223372036854775807) : VIn w a 0 c [] := ⟨rfl, Nat.zero_le _, hc, fun h => absurd h (by decide), fun x h => by cases h⟩
/-- Where its block is not among those that may change, it stands. -/
theorem VIn.fr {X : Nat → Prop} {w w' : World} {a : Option Addr} {n c : Nat} {vs : List Vd} (h : VIn w a n c vs) (hf : Fr X w w') (ho : Off X (.slice a n c)) : VIn w' a n c vs := by
  refine ⟨h.len, h.cap, h.small, fun hp => ?_, h.ok⟩
  obtain ⟨B, o, e, hB, hr⟩ := h.row hp
  have hX : ¬ X B := ho B (by subst e; rfl)
  exact ⟨B, o, e, Nat.lt_of_lt_of_le hB hf.size, fun i x hx j v hj => (hf.cell (p := ⟨B, _, none⟩) hB hX).trans (hr i x hx j v hj)⟩
theorem VIn.below {w w' : World} {a : Option Addr} {n c : Nat} {vs : List Vd} (h : VIn w a n c vs) (hb : Below w.heap.size w w') : VIn w' a n c vs := h.fr (X := fun _ => False) (Fr.of_below hb) (fun _ _ h => h)
theorem VIn.cell {w : World} {a : Option Addr} {n c : Nat} {vs : List Vd} (h : VIn w a n c vs) {i : Nat} (hi : i < n) : ∃ (x : Vd) (B o : Nat), vs[i]? = some x ∧ x ∈ vs ∧ a = some ⟨B, o, none⟩ ∧ B < w.heap.size ∧ w.rangeAt B (o + i * 5) x.cells := by
  obtain ⟨B, o, e, hB, hr⟩ := h.row (by omega)
  have hx : vs[i]? = some (vs[i]'(by rw [h.len]; exact hi)) := List.getElem?_eq_getElem _
  exact ⟨_, B, o, hx, List.getElem_mem _, e, hB, hr i _ hx⟩
/-- Without its first one. -/
theorem VIn.tail {w : World} {B o n c : Nat} {x : Vd} {vs : List Vd} (h : VIn w (some ⟨B, o, none⟩) (n + 1) c (x :: vs)) : VIn w (some ⟨B, o + 5, none⟩) n (c - 1) vs := by
  have h1 := h.len
  have h2 := h.cap
  have h3 := h.small
  refine ⟨by simpa using h1, by omega, by omega, fun hp => ?_, fun y hy => h.ok y (by simp [hy])⟩
  obtain ⟨B', o', e, hB, hr⟩ := h.row (by omega)
  cases e
  exact ⟨B, o + 5, rfl, hB, fun i y hy => by
    have := hr (i + 1) y (by simpa using hy)
    rwa [show o + (i + 1) * 5 = o + 5 + i * 5 by omega] at this⟩
/-- As a source of append. -/
theorem VIn.src {w : World} {a : Option Addr} {n c : Nat} {vs : List Vd} {tx e' : TypeId} (h : VIn w a n c vs) (hk : Try.prog.underlying tx = some (.slice e')) : Src Try.prog 5 tx (.slice a n c) vs.length (cellsL vs) w := by
  have hl := h.len
  by_cases h0 : n = 0
  · subst h0
    obtain rfl : vs = [] := List.eq_nil_of_length_eq_zero hl
    cases a with
    | none => exact Src.ofNil w hk c
    | some a => exact Src.ofSlice w hk a 0 c [] rfl (fun j u hj => by simp at hj) (fun _ h => by cases h)
  · obtain ⟨B, o, rfl, hB, hr⟩ := h.row (by omega)
    have := Src.ofSlice (P := Try.prog) (size := 5) w hk ⟨B, o, none⟩ n c (cellsL vs) (by rw [cellsL_len, hl]) (fun j u hj => by
      have hj5 : j < vs.length * 5 := by
        have := (List.getElem?_eq_some_iff.1 hj).1
        rwa [cellsL_len] at this
      have hx : vs[j / 5]? = some (vs[j / 5]'(by omega)) := List.getElem?_eq_getElem _
      have hc : (vs[j / 5]'(by omega)).cells[j % 5]? = some ((vs[j / 5]'(by omega)).cells[j % 5]'(by rw [cells_len]; omega)) := List.getElem?_eq_getElem _
      have h1 := cellsL_get vs (j / 5) _ hx (j % 5) _ hc
      have h2 := hr (j / 5) _ hx (j % 5) _ hc
      rw [show j / 5 * 5 + j % 5 = j by omega, hj] at h1
      rw [Addr.add_mid, show o + j = o + j / 5 * 5 + j % 5 by omega, h2, h1]) (one_cells vs)
    rw [hl]
    exact this

/-! ### append of rows -/
theorem app_row {P : Program} (w : World) (t tx ty e : TypeId) (i : TypeInfo) (z : Value) (ht : P.underlying t = some (.slice e)) (hi : P.info? e = some i) (hz : i.zero = some z) (sz : Nat) (hs1 : i.size = sz) (hb1 : i.bytes ≤ 64) (hzs : z.cells.size = sz)
    (v x : Value) (n m : Nat) (olds news : List Value) (hO : w.ownsRow 0 e sz v n olds) (hx : Src P sz tx x m news w) (hlen : n + m ≤ 1073741824) :
    ∃ v' w', (Builtin.append_ #[t, tx] ty #[v, x]).run P w = .ok v' w' ∧ w'.ownsRow 0 e sz v' (n + m) (olds ++ news) ∧ Fr (fun k => v.ownBlock = some k) w w' ∧ NewOr w v v' := by
  subst hs1
  have hol := hO.1
  have hnl := hx.newsLen
  have hfit : (n + m) * i.bytes ≤ 140737488355328 := Nat.le_trans (Nat.mul_le_mul hlen hb1) (by decide)
  have hsum : (olds ++ news).length = (n + m) * i.size := by rw [List.length_append, hol, hnl, Nat.add_mul]
  have grown : ∀ (old : Nat), old < n + m → ∀ (row : Nat → Prop),
      (w.drew.alloc (.cells ((olds ++ news).toArray ++ Builtin.zeroCells z.cells (grownCap w (n + m) old e - (n + m))) e)).ownsRow 0 e i.size
        (.slice (some ⟨w.heap.size, 0, none⟩) (n + m) (grownCap w (n + m) old e)) (n + m) (olds ++ news) ∧
      Fr row w (w.drew.alloc (.cells ((olds ++ news).toArray ++ Builtin.zeroCells z.cells (grownCap w (n + m) old e - (n + m))) e)) := by
    intro old ho row
    have hge := grownCap_ge w (n + m) old e
    have hcm : grownCap w (n + m) old e ≤ maxLen := grownCap_le_maxLen w (n + m) old e (by unfold maxLen; omega)
    refine ⟨⟨hsum, .inr ⟨w.heap.size, _, _, rfl, Nat.zero_le _, heap_alloc_new w.drew _, hge, hcm, ?_, ?_⟩⟩, (Fr.refl row w).drew.alloc _⟩
    · rw [Array.size_append, List.size_toArray, hsum, size_zeroCells, hzs, ← Nat.add_mul]
      congr 1
      omega
    · simp only [Array.toList_append]
      exact List.take_left' hsum
  obtain ⟨hl, ⟨rfl, hz0⟩ | ⟨g, cap, cur, rfl, hb, hg, h1, h2, h3, h4⟩⟩ := hO
  · subst hz0
    have he : olds = [] := List.eq_nil_of_length_eq_zero (by rw [hl]; simp)
    subst he
    by_cases hm : m = 0
    · subst hm
      have hn : news = [] := List.eq_nil_of_length_eq_zero (by rw [hnl]; simp)
      subst hn
      refine ⟨.slice none 0 0, w, ?_, World.ownsRow_nil w 0 e i.size, Fr.refl _ w, NewOr.refl w _⟩
      have hc := hx.cells
      have hL := hx.len
      rcases hx.kind with ⟨e', hk⟩ | hk <;> simp [Builtin.append_, run_underlying ht, run_underlying hk, sizeOf, typeInfo, hi, hL] <;> simp_all
    · have hr := run_append_grow_src (P := P) w t tx ty e i z ht hi hz none 0 0 [] (run_firstCells_none w.drew i.size 0 0 0) x m news hx (by omega) (by omega) (growslice_fits (by omega) (by simpa using hfit))
      have hgr := grown 0 (by omega) (fun k => (Value.slice none 0 0).ownBlock = some k)
      simp only [Nat.zero_add, List.nil_append] at hgr hr ⊢
      exact ⟨_, _, hr, hgr.1, hgr.2, fun k hk => .inr (by simp [Value.ownBlock] at hk; omega)⟩
  · by_cases hroom : n + m ≤ cap
    · have hg' : w.heap[g]? = some (.cells cur.toList.toArray e (0, 0)) := by simpa using hg
      have hcl : cur.toList.length = cap * i.size := by simp [h3]
      have hin0 : n * i.size + m * i.size ≤ cap * i.size := by rw [← Nat.add_mul]; exact Nat.mul_le_mul_right _ hroom
      have hin : ∀ j, j < news.length → (w.cell? ⟨g, 0 + n * i.size + j, none⟩).isSome = true := fun j hj => by
        rw [hnl] at hj
        simp only [World.cell?, hg, Nat.zero_add]
        simp [h3]
        omega
      have hr := run_append_room_src (P := P) w t tx ty e i ht hi g 0 n cap x m news hx hroom hin (fun j _ => by simp [World.frozen?, hg])
      simp only [Nat.zero_add] at hr
      have hA := heap_setCells_one g e news (n * i.size) cur.toList w hg' (by rw [hnl, hcl]; exact hin0)
      refine ⟨_, _, hr, ⟨hsum, .inr ⟨g, cap, _, rfl, Nat.zero_le _, hA, hroom, h2, ?_, ?_⟩⟩, ?_, NewOr.refl w _⟩
      · simp only [List.size_toArray, List.length_append, List.length_take, List.length_drop, hnl, Array.length_toList, h3]
        omega
      · have := putL_take news cur.toList (n * i.size) (by rw [hnl, hcl]; exact hin0)
        rw [Nat.add_mul, ← hnl]
        rw [this]
        congr 1
      · exact (fr_setCells g news (n * i.size) w w (Fr.refl _ w)).mono (fun k _ hk => by subst hk; rfl)
    · have holds : ∀ j u, olds[j]? = some u → w.drew.cell? ((⟨g, 0, none⟩ : Addr).add j) = some u := fun j u hj => by
        have := World.ownsRow.cells (w := w) (base := 0) (e := e) (size := i.size) (v := .slice (some ⟨g, 0, none⟩) n cap) ⟨hl, .inr ⟨g, cap, cur, rfl, hb, hg, h1, h2, h3, h4⟩⟩ (g := g) rfl j u hj
        simpa using this
      have hr := run_append_grow_src (P := P) w t tx ty e i z ht hi hz (some ⟨g, 0, none⟩) n cap olds (run_firstCells_some w.drew i.size n ⟨g, 0, none⟩ n cap olds hol holds) x m news hx (by omega) (by omega) (growslice_fits (by omega) hfit)
      have hgr := grown cap (by omega) (fun k => (Value.slice (some ⟨g, 0, none⟩) n cap).ownBlock = some k)
      exact ⟨_, _, hr, hgr.1, hgr.2, fun k hk => .inr (by simp [Value.ownBlock] at hk; omega)⟩

/-- A list of validators in memory of its own. -/
structure OwnV (w : World) (v : Value) (vs : List Vd) : Prop where
  own : w.ownsRow 0 187 5 v vs.length (cellsL vs)
  ok : ∀ x ∈ vs, x.ok
theorem OwnV.nil (w : World) : OwnV w (.slice none 0 0) [] := ⟨World.ownsRow_nil w 0 _ 5, fun _ h => by cases h⟩
theorem OwnV.lt {w : World} {v : Value} {vs : List Vd} (h : OwnV w v vs) : ∀ k, v.ownBlock = some k → k < w.heap.size := by
  obtain ⟨⟨_, ⟨rfl, _⟩ | ⟨g, cap, cur, rfl, _, hg, _⟩⟩, _⟩ := h
  · intro k hk
    simp [Value.ownBlock] at hk
  · intro k hk
    simp [Value.ownBlock] at hk
    subst hk
    exact (Array.getElem?_eq_some_iff.1 hg).1
theorem OwnV.fr {X : Nat → Prop} {w w' : World} {v : Value} {vs : List Vd} (h : OwnV w v vs) (hf : Fr X w w') (ho : Off X v) : OwnV w' v vs := by
  have hlt := h.lt
  obtain ⟨⟨hl, ⟨rfl, h0⟩ | ⟨g, cap, cur, rfl, hb, hg, hr⟩⟩, hok⟩ := h
  · exact ⟨⟨hl, .inl ⟨rfl, h0⟩⟩, hok⟩
  · exact ⟨⟨hl, .inr ⟨g, cap, cur, rfl, hb, (hf.block g (hlt g rfl) (ho g rfl)).trans hg, hr⟩⟩, hok⟩
theorem OwnV.below {w w' : World} {v : Value} {vs : List Vd} (h : OwnV w v vs) (hb : Below w.heap.size w w') : OwnV w' v vs := h.fr (X := fun _ => False) (Fr.of_below hb) (fun _ _ h => h)
theorem OwnV.len_of {w : World} {v : Value} {vs : List Vd} (h : OwnV w v vs) : ∃ a cap, v = .slice a vs.length cap := by
  obtain ⟨⟨_, ⟨rfl, h0⟩ | ⟨g, cap, cur, rfl, _⟩⟩, _⟩ := h
  · exact ⟨none, 0, by rw [h0]⟩
  · exact ⟨_, _, rfl⟩
theorem OwnV.vin {w : World} {a : Option Addr} {n c : Nat} {vs : List Vd} (h : OwnV w (.slice a n c) vs) : VIn w a n c vs := by
  have hlt := h.lt
  have hc := fun g => World.ownsRow.cells (w := w) (base := 0) (e := 187) (size := 5) (v := .slice a n c) (n := vs.length) (xs := cellsL vs) h.own (g := g)
  obtain ⟨⟨hl, ⟨e, h0⟩ | ⟨g, cap, cur, e, hb, hg, h1, h2, h3, h4⟩⟩, hok⟩ := h
  · cases e
    obtain rfl : vs = [] := List.eq_nil_of_length_eq_zero h0
    exact VIn.nil w none 0 (by decide)
  · cases e
    refine ⟨rfl, h1, by unfold maxLen at h2; omega, fun hp => ⟨g, 0, rfl, hlt g rfl, fun i x hx j v hj => ?_⟩, hok⟩
    have h5 := cellsL_get vs i x hx j v hj
    have h6 := hc g rfl _ _ h5
    rw [Addr.add_mid] at h6
    rw [show 0 + i * 5 + j = 0 + (i * 5 + j) by omega]
    exact h6
/-- append of validators onto memory of its own. -/
theorem app_vals (w : World) (tx ty : TypeId) (v x : Value) (olds news : List Vd) (hO : OwnV w v olds) (hx : Src Try.prog 5 tx x news.length (cellsL news) w) (hok : ∀ y ∈ news, y.ok) (hlen : olds.length + news.length ≤ 1073741824) :
    ∃ v' w', (Builtin.append_ #[80, tx] ty #[v, x]).run Try.prog w = .ok v' w' ∧ OwnV w' v' (olds ++ news) ∧ Fr (fun k => v.ownBlock = some k) w w' ∧ NewOr w v v' := by
  obtain ⟨i0, hi, hz0, hz1, hz2⟩ := info_parts (show (Try.prog.info? 187).map (fun i => (i.zero, i.size, i.bytes)) = some (some (.agg #[.int .u8 0, .int .u8 0, .int .u8 0, .int .u8 0, .int .i64 0]), 5, 16) by kernel_rfl)
  obtain ⟨v', w', h1, h2, h3, h4⟩ := app_row (P := Try.prog) w 80 tx ty 187 i0 _ Try.underlying80 hi hz0 5 hz1 (by omega) rfl v x olds.length news.length (cellsL olds) (cellsL news) hO.own hx hlen
  refine ⟨v', w', h1, ⟨?_, fun y hy => ?_⟩, h3, h4⟩
  · rw [List.length_append, cellsL_app]
    exact h2
  · rcases List.mem_append.1 hy with hy | hy
    · exact hO.ok y hy
    · exact hok y hy
/-- One validator in a variable of its own, as a source. -/
theorem src_one {w : World} {tx e' : TypeId} (hk : Try.prog.underlying tx = some (.slice e')) (g o c : Nat) (x : Vd) (h : w.rangeAt g o x.cells) : Src Try.prog 5 tx (.slice (some ⟨g, o, none⟩) 1 c) 1 (cellsL [x]) w := by
  have e : cellsL [x] = x.cells := by simp [cellsL]
  exact Src.ofSlice w hk ⟨g, o, none⟩ 1 c (cellsL [x]) (by rw [cellsL_len]; rfl) (fun j u hj => by rw [Addr.add_mid]; rw [e] at hj; exact h j u hj) (one_cells [x])
end ValA
end Go.Proofs.Ythcemghamdmjmaa

namespace Go.Proofs.Ythcemghamdmjmaa
namespace CmS
open Go.RowKit
open BlkM WirM WirS CmA CmP CmI CmJ
open CmB (TV TC ccl ccl_len ccl_33 drop_get)
open WirX (Thg Bag)
open WirAA (box bag_box)
open WirAB (sCx)
open ValA (Vd VIn)

abbrev TK : TypeId := 101
abbrev TKE : TypeId := 36
def kcells (ks : List (List Int)) : List Value := ks.flatMap b8
theorem kcells_len : ∀ ks : List (List Int), (∀ k ∈ ks, k.length = 4) → (kcells ks).length = ks.length * 4
  | [], _ => rfl
  | x :: l, h => by
    have : kcells (x :: l) = b8 x ++ kcells l := by simp [kcells]
    rw [this, List.length_append, kcells_len l (fun k hk => h k (by simp [hk])), b8_len, h x (by simp), List.length_cons]
    omega
theorem kcells_app (a b : List (List Int)) : kcells (a ++ b) = kcells a ++ kcells b := by simp [kcells]
theorem kcells_get : ∀ (ks : List (List Int)) (_ : ∀ k ∈ ks, k.length = 4) (i : Nat) (x : List Int), ks[i]? = some x → ∀ j v, (b8 x)[j]? = some v → (kcells ks)[i * 4 + j]? = some v
  | [], _, i, x, h => by simp at h
  | y :: l, hk, 0, x, h => fun j v hj => by
    have e : kcells (y :: l) = b8 y ++ kcells l := by simp [kcells]
    simp at h
    subst h
    rw [e, Nat.zero_mul, Nat.zero_add, List.getElem?_append_left (List.getElem?_eq_some_iff.1 hj).1]
    exact hj
  | y :: l, hk, i + 1, x, h => fun j v hj => by
    have e : kcells (y :: l) = b8 y ++ kcells l := by simp [kcells]
    have h' : l[i]? = some x := by simpa using h
    have hy : (b8 y).length = 4 := by rw [b8_len]; exact hk y (by simp)
    rw [e, List.getElem?_append_right (by rw [hy]; omega), hy, show (i + 1) * 4 + j - 4 = i * 4 + j by omega]
    exact kcells_get l (fun k h => hk k (by simp [h])) i x h' j v hj
/-- A list of keys, as it lies. -/
structure KIn (w : World) (a : Option Addr) (n c : Nat) (ks : List (List Int)) : Prop where
  len : ks.length = n
  cap : n ≤ c
  small : c ≤ 9223372036854775807
  row : 0 < n → ∃ B o, a = some ⟨B, o, none⟩ ∧ B < w.heap.size ∧ ∀ (i : Nat) (x : List Int), ks[i]? = some x → w.rangeAt B (o + i * 4) (b8 x)
  four : ∀ k ∈ ks, k.length = 4
theorem KIn.below {w w' : World} {a : Option Addr} {n c : Nat} {ks : List (List Int)} (h : KIn w a n c ks) (hb : Below w.heap.size w w') : KIn w' a n c ks := by
  refine ⟨h.len, h.cap, h.small, fun hp => ?_, h.four⟩
  obtain ⟨B, o, e, hB, hr⟩ := h.row hp
  exact ⟨B, o, e, Nat.lt_of_lt_of_le hB hb.size, fun i x hx j v hj => (hb.cell (p := ⟨B, _, none⟩) hB).trans (hr i x hx j v hj)⟩
/-- Keys in memory of their own. -/
structure OwnK (w : World) (v : Value) (ks : List (List Int)) : Prop where
  own : w.ownsRow 0 TKE 4 v ks.length (kcells ks)
  four : ∀ k ∈ ks, k.length = 4
theorem OwnK.nil (w : World) : OwnK w (.slice none 0 0) [] := ⟨World.ownsRow_nil w 0 _ 4, fun _ h => by cases h⟩
theorem OwnK.lt {w : World} {v : Value} {ks : List (List Int)} (h : OwnK w v ks) : ∀ k, v.ownBlock = some k → k < w.heap.size := fun k hk => (World.ownsRow.lt h.own k hk).2
theorem OwnK.fr {X : Nat → Prop} {w w' : World} {v : Value} {ks : List (List Int)} (h : OwnK w v ks) (hf : Fr X w w') (ho : Off X v) : OwnK w' v ks := by
  have hlt := h.lt
  obtain ⟨⟨hl, ⟨rfl, h0⟩ | ⟨g, cap, cur, rfl, hb, hg, hr⟩⟩, hok⟩ := h
  · exact ⟨⟨hl, .inl ⟨rfl, h0⟩⟩, hok⟩
  · exact ⟨⟨hl, .inr ⟨g, cap, cur, rfl, hb, (hf.block g (hlt g rfl) (ho g rfl)).trans hg, hr⟩⟩, hok⟩
theorem OwnK.below {w w' : World} {v : Value} {ks : List (List Int)} (h : OwnK w v ks) (hb : Below w.heap.size w w') : OwnK w' v ks := h.fr (X := fun _ => False) (Fr.of_below hb) (fun _ _ h => h)
theorem OwnK.len_of {w : World} {v : Value} {ks : List (List Int)} (h : OwnK w v ks) : ∃ a cap, v = .slice a ks.length cap := by
  obtain ⟨⟨_, ⟨rfl, h0⟩ | ⟨g, cap, cur, rfl, _⟩⟩, _⟩ := h
  · exact ⟨none, 0, by rw [h0]⟩
  · exact ⟨_, _, rfl⟩
theorem OwnK.kin {w : World} {a : Option Addr} {n c : Nat} {ks : List (List Int)} (h : OwnK w (.slice a n c) ks) : KIn w a n c ks := by
  have hlt := h.lt
  have hc := fun g => World.ownsRow.cells (w := w) (base := 0) (e := TKE) (size := 4) (v := .slice a n c) (n := ks.length) (xs := kcells ks) h.own (g := g)
  obtain ⟨⟨hl, ⟨e, h0⟩ | ⟨g, cap, cur, e, hb, hg, h1, h2, h3, h4⟩⟩, hok⟩ := h
  · cases e
    obtain rfl : ks = [] := List.eq_nil_of_length_eq_zero h0
    exact ⟨rfl, Nat.le_refl _, by decide, fun h => absurd h (by decide), hok⟩
  · cases e
    refine ⟨rfl, h1, by unfold maxLen at h2; omega, fun hp => ⟨g, 0, rfl, hlt g rfl, fun i x hx j v hj => ?_⟩, hok⟩
    have h5 := kcells_get ks hok i x hx j v hj
    have h6 := hc g rfl _ _ h5
    rw [Addr.add_mid] at h6
    rw [show 0 + i * 4 + j = 0 + (i * 4 + j) by omega]
    exact h6
theorem app_key (w : World) (ty : TypeId) (v : Value) (olds : List (List Int)) (k : List Int) (hk : k.length = 4) (V : Nat) (hO : OwnK w v olds) (hV : At w V TKE (b8 k)) (hlen : olds.length ≤ 1000) :
    ∃ v' w', (Builtin.append_ #[TK, TK] ty #[v, .slice (some ⟨V, 0, none⟩) 1 1]).run Try.prog w = .ok v' w' ∧ OwnK w' v' (olds ++ [k]) ∧ Fr (fun k => v.ownBlock = some k) w w' ∧ NewOr w v v' := by
  obtain ⟨i0, hi, hz0, hz1, hz2⟩ := info_parts (show (Try.prog.info? TKE).map (fun i => (i.zero, i.size, i.bytes)) = some (some (.agg #[.int .u8 0, .int .u8 0, .int .u8 0, .int .u8 0]), 4, 4) by kernel_rfl)
  have hx : Src Try.prog 4 TK (.slice (some ⟨V, 0, none⟩) 1 1) 1 (b8 k) w := Src.ofSlice w Try.underlying101 ⟨V, 0, none⟩ 1 1 (b8 k) (by rw [b8_len, hk]) (fun j u hj => by rw [Addr.add_mid, Nat.zero_add, hV.cell]; exact hj) (fun u hu => one_b8 k u hu)
  obtain ⟨v', w', h1, h2, h3, h4⟩ := CmA.app_row (P := Try.prog) w TK TK ty TKE i0 _ Try.underlying101 hi hz0 4 hz1 (by omega) rfl v _ olds.length 1 (kcells olds) (b8 k) hO.own hx (by omega)
  refine ⟨v', w', h1, ⟨?_, fun y hy => ?_⟩, h3, h4⟩
  · rw [List.length_append, kcells_app, show kcells [k] = b8 k by simp [kcells]]
    exact h2
  · rcases List.mem_append.1 hy with hy | hy
    · exact hO.four y hy
    · rw [List.mem_singleton.1 hy]
      exact hk
theorem list4 (k : List Int) (h : k.length = 4) : ∃ a b c d, k = [a, b, c, d] := by
  obtain _ | ⟨a, _ | ⟨b, _ | ⟨c, _ | ⟨d, _ | ⟨e, l⟩⟩⟩⟩⟩ := k
  · simp at h
  · simp at h
  · simp at h
  · simp at h
  · exact ⟨a, b, c, d, rfl⟩
  · simp at h
def MidS (w : World) (n : Nat) (s i : Value) (U : World) : Prop := ∃ k : Nat, k ≤ n ∧ s = .bool true ∧ i = .int .i64 (k : Int) ∧ Below w.heap.size w U
set_option maxRecDepth 10000 in
set_option maxHeartbeats 2000000 in
theorem sk_any (w : World) (a b : Option Addr) (n c d : Nat) (ks : List (List Int)) (h : KIn w a n c ks) (h' : KIn w b n d ks) :
    Calls Try.prog 70 #[.slice a n c, .slice b n d] w fun e w' => e = .returned (.bool true) ∧ Below w.heap.size w w' := by
  have hns : n ≤ 9223372036854775807 := Nat.le_trans h.cap h.small
  have H := WirS.hide h
  have H' := WirS.hide h'
  clear h h'
  go_enter Try.func70, Try.ntmps70
  go_wp2_with fail
  go_loopw [5, 6] (fun s i wr => MidS w n s i wr) (fun _ i _ => n - (intOf i).toNat)
  case atStart => exact ⟨0, Nat.zero_le _, by simp, rfl, Below.refl _ _⟩
  case round =>
    obtain ⟨k, hk, rfl, rfl, hB⟩ := hrel
    by_cases hlt : k < n
    · obtain ⟨B, o, rfl, hBl, hr⟩ := (H.out.below hB).row (by omega)
      obtain ⟨B', o', rfl, hBl', hr'⟩ := (H'.out.below hB).row (by omega)
      obtain ⟨x, hx⟩ : ∃ x, ks[k]? = some x := ⟨_, List.getElem?_eq_getElem (by rw [H.out.len]; exact hlt)⟩
      obtain ⟨x0, x1, x2, x3, rfl⟩ := list4 x (H.out.four x (List.mem_of_getElem? hx))
      have r0 : wr.cell? ⟨B, o + k * 4, none⟩ = some (.int .u8 x0) := hr k _ hx 0 _ rfl
      have r1 : wr.cell? ⟨B, o + k * 4 + 1, none⟩ = some (.int .u8 x1) := hr k _ hx 1 _ rfl
      have r2 : wr.cell? ⟨B, o + k * 4 + 2, none⟩ = some (.int .u8 x2) := hr k _ hx 2 _ rfl
      have r3 : wr.cell? ⟨B, o + k * 4 + 3, none⟩ = some (.int .u8 x3) := hr k _ hx 3 _ rfl
      have s0 : wr.cell? ⟨B', o' + k * 4, none⟩ = some (.int .u8 x0) := hr' k _ hx 0 _ rfl
      have s1 : wr.cell? ⟨B', o' + k * 4 + 1, none⟩ = some (.int .u8 x1) := hr' k _ hx 1 _ rfl
      have s2 : wr.cell? ⟨B', o' + k * 4 + 2, none⟩ = some (.int .u8 x2) := hr' k _ hx 2 _ rfl
      have s3 : wr.cell? ⟨B', o' + k * 4 + 3, none⟩ = some (.int .u8 x3) := hr' k _ hx 3 _ rfl
      have hkl : (k : Int) < (n : Int) := by omega
      have HB := WirS.hide hB
      have hq : ∀ W, (binOp .eql TKE (.agg #[.int .u8 x0, .int .u8 x1, .int .u8 x2, .int .u8 x3]) (.agg #[.int .u8 x0, .int .u8 x1, .int .u8 x2, .int .u8 x3])).run Try.prog W = .ok (.bool true) W := fun W => by
        have h := WirBE.eqKg [x0, x1, x2, x3] [x0, x1, x2, x3] rfl rfl W
        rw [decide_eq_true rfl] at h
        exact h
      clear hr hx hB hr'
      go_upto_region 5 with fail
      go_quiet (fail)
      go_wp2_with fail
      go_roundw
      case rel => exact ⟨k + 1, by omega, rfl, by go_num, by first | exact below_drewN (below_drewN HB.out _) _ | exact below_drewN HB.out _⟩
      case measure => simp [intOf]; omega
    · have HB := WirS.hide hB
      clear hB
      go_wp2_with fail
      go_ret
      exact ⟨rfl, HB.out⟩
/-- Whose keys voted. -/
def keyAt (ls : List Vd) (v : Vt) : List Int := ((ls[v.at'.toNat]?).map Vd.key).getD [0, 0, 0, 0]
theorem keyAt_len (ls : List Vd) (v : Vt) : (keyAt ls v).length = 4 := by
  unfold keyAt
  cases ls[v.at'.toNat]? <;> rfl
def far (m : Nat) (vs : List Vt) : Bool := vs.any fun v => decide ((m : Int) ≤ v.at')
def whoE (ht : Int) (vs : List Vt) (m : Nat) : Int := if chk ht vs ≠ 0 then chk ht vs else if far m vs = true then 3 else 0
def whoL (ht : Int) (vs : List Vt) (ls : List Vd) : List (List Int) := if whoE ht vs ls.length = 0 then vs.map (keyAt ls) else []
def WP (w : World) (cd : Int) (ks : List (List Int)) (e : Ending) (w' : World) : Prop := ∃ a n c, e = .returned (.tuple #[.slice a n c, .int .i64 cd]) ∧ OwnK w' (.slice a n c) ks ∧ NewB w (.slice a n c) ∧ Below w.heap.size w w'
theorem wp_none {w w' : World} {cd : Int} {e : Ending} (he : e = .returned (.tuple #[.slice none 0 0, .int .i64 cd])) (hb : Below w.heap.size w w') : WP w cd [] e w' := ⟨none, 0, 0, he, OwnK.nil w', fun k hk => by simp [Value.ownBlock] at hk, hb⟩
theorem ixV (B o m d q : Nat) (hq : q < m) (W : World) : (Instr.indexAt 80 (.slice (some ⟨B, o, none⟩) m d) (.int .i64 (q : Int))).run Try.prog W = .ok (.pointer (some ⟨B, o + q * 5, none⟩)) W := by
  simp [Instr.indexAt, run_underlying Try.underlying80, asIntOf, go_sem]
  intro h
  omega
theorem opV (a : Operand → Value) (ob : Oper) (x y : Operand) (B o m d q : Nat) (ho : ob.op = Op.indexAddr 80 x y) (hx : a x = .slice (some ⟨B, o, none⟩) m d) (hy : a y = .int .i64 (q : Int)) (hq : q < m) (W : World) :
    (execOp a ob).run Try.prog W = .ok (.value (.pointer (some ⟨B, o + q * 5, none⟩))) W := by
  unfold execOp
  rw [ho]
  simp only [hx, hy]
  simp only [Sem.run_bind, ixV B o m d q hq W, Result.andThen_ok, Sem.run_pure]
def MidW (w : World) (vs : List Vt) (ls : List Vd) (n : Nat) (s i : Value) (U : World) : Prop :=
  ∃ (k : Nat) (sa : Option Addr) (sn sc : Nat), k ≤ n ∧ i = .int .i64 (k : Int) ∧ s = .slice sa sn sc ∧ OwnK U (.slice sa sn sc) ((vs.take k).map (keyAt ls)) ∧ NewB w (.slice sa sn sc) ∧ far ls.length vs = far ls.length (vs.drop k) ∧ Below w.heap.size w U
set_option maxRecDepth 10000 in
set_option maxHeartbeats 8000000 in
theorem who_any (w : World) (ht : Int) (h : List Int) (a b : Option Addr) (n c m d : Nat) (vs : List Vt) (ls : List Vd) (hl : h.length = 32) (hv : VtIn w a n c vs) (hw : VIn w b m d ls) (_hm : m ≤ 1000) :
    Calls Try.prog 68 #[.agg (ccl ht h (.slice a n c)).toArray, .slice b m d] w (WP w (whoE ht vs m) (whoL ht vs ls)) := by
  obtain ⟨W0, e0⟩ : ∃ X, X = w.alloc (.cells (ccl ht h (.slice a n c)).toArray TC) := ⟨_, rfl⟩
  have hA : At W0 w.heap.size TC (ccl ht h (.slice a n c)) := by rw [e0]; exact At.new w _ _
  have hB : Below w.heap.size w W0 := by rw [e0]; exact Below.alloc (Below.refl _ _) (Nat.le_refl _) _
  have HA := WirS.hide hA
  have HB := WirS.hide hB
  have HV := WirS.hide hv
  have HW := WirS.hide hw
  have HLN := WirS.hide hv.len
  have HLM := WirS.hide hw.len
  have HL := WirS.hide hl
  have E0 := WirS.hide e0
  have HCK := WirS.hide (CmB.check_any W0 ht h a n c vs hl (hv.below hB))
  have hXl := hA.lt
  clear hA hB e0
  by_cases hc : chk ht vs = 0
  · have hup := (chk_up ht vs).1 hc
    have hn64 : n ≤ 64 := by have := hup.2.1; have := hv.len; omega
    have HUP := WirS.hide hup.2.2
    have hwE : whoE ht vs m = if far m vs = true then 3 else 0 := by unfold whoE; rw [if_neg (by simpa using hc)]
    have hwL : whoL ht vs ls = if far m vs = true then [] else vs.map (keyAt ls) := by
      unfold whoL
      rw [hw.len, hwE]
      by_cases e : far m vs = true
      · rw [if_pos e, if_pos e, if_neg (by decide)]
      · rw [if_neg e, if_neg e, if_pos rfl]
    obtain ⟨rc, hrc⟩ : ∃ r : Int, (if far m vs = true then 3 else 0) = r := ⟨_, rfl⟩
    obtain ⟨rk, hrk⟩ : ∃ r : List (List Int), (if far m vs = true then [] else vs.map (keyAt ls)) = r := ⟨_, rfl⟩
    rw [hwE, hwL, hrc, hrk]
    have HRC := WirS.hide hrc
    have HRK := WirS.hide hrk
    rw [hc] at HCK
    clear hl hv hw hc hup hwE hwL hrc hrk
    go_enter Try.func68, Try.ntmps68
    go_upto_region 1 with fail
    rw [show w.alloc (.cells (ccl ht h (.slice a n c)).toArray TC) = W0 from E0.out.symm]
    clear E0
    refine wp_region_lit ?_
    refine sL (by kernel_rfl) _ _ (by rfl) _ (by kernel_rfl) HA.out _ _ CmJ.UC rfl (by kernel_rfl) (by rw [ccl_len _ _ _ HL.out]) ?_
    simp only [Act.put, List.setIfInBounds_toArray, List.set_cons_succ, List.set_cons_zero]
    refine sC (R := fun w' => Below W0.heap.size W0 w') (by kernel_rfl) (by kernel_rfl) HCK.out ?_
    rintro u0 hb
    simp only [Act.put, List.setIfInBounds_toArray, List.set_cons_succ, List.set_cons_zero]
    have k33 : u0.cell? ⟨w.heap.size, 33, none⟩ = some (.slice a n c) := (hb.cell (p := ⟨w.heap.size, 33, none⟩) hXl).trans ((HA.out.cell 33).trans (ccl_33 _ _ _ HL.out))
    have HB0 := WirS.hide (HB.out.trans (hb.mono HB.out.size))
    clear hb HCK
    have HST := WirS.hide (show MidW w vs ls n (.slice none 0 0) (.int .i64 0) u0 from ⟨0, none, 0, 0, Nat.zero_le _, rfl, rfl, OwnK.nil u0, (fun k hk => by simp [Value.ownBlock] at hk), rfl, HB0.out⟩)
    go_wp2_with fail
    go_loopw [7, 18] (fun s i wr => MidW w vs ls n s i wr) (fun _ i _ => n - (intOf i).toNat)
    case atStart => exact HST.out
    case round =>
      clear HST k33
      obtain ⟨k, sa, sn, sc, hk, rfl, rfl, hO, hNB, hE, hBw⟩ := hrel
      have HO := WirS.hide hO
      have HNB := WirS.hide hNB
      have HBW := WirS.hide hBw
      rw [HLM.out] at hE
      by_cases hlt : k < n
      · obtain ⟨x, Bx, ox, hx, hmem, rfl, hBl2, hr⟩ := (HV.out.below hBw).cell hlt
        have r0 : wr.cell? ⟨Bx, ox + k * 2, none⟩ = some (.int .i64 x.at') := hr 0 _ rfl
        have r1 : wr.cell? ⟨Bx, ox + k * 2 + 1, none⟩ = some (.int .u64 x.sg) := hr 1 _ rfl
        have hkl : (k : Int) < (n : Int) := by omega
        have hxp := HUP.out.rng x hmem
        have htk : vs.take k ++ [x] = vs.take (k + 1) := by rw [List.take_add_one, hx]; rfl
        rw [drop_get hx] at hE
        obtain ⟨W1, e1⟩ : ∃ X, X = wr.alloc (.cells #[.int .i64 x.at', .int .u64 x.sg] TV) := ⟨_, rfl⟩
        obtain ⟨Y, eY⟩ : ∃ Y, wr.heap.size = Y := ⟨_, rfl⟩
        have hA1 : At W1 Y TV x.cells := by rw [e1, ← eY]; exact At.new wr _ _
        have h01 : Below wr.heap.size wr W1 := by rw [e1]; exact Below.alloc (Below.refl _ _) (Nat.le_refl _) _
        have HB1 := WirS.hide (hBw.trans (h01.mono hBw.size))
        have HO1 := WirS.hide (hO.below h01)
        have HA1 := WirS.hide hA1
        have HTK := WirS.hide htk
        have E1 := WirS.hide e1
        obtain ⟨q, hq⟩ : ∃ q : Nat, x.at' = (q : Int) := ⟨x.at'.toNat, by omega⟩
        have HXQ := WirS.hide hq
        have y0 : W1.cell? ⟨Y, 0, none⟩ = some (.int .i64 (q : Int)) := by rw [← hq]; exact hA1.cell 0
        clear hr hx hmem hxp hA1 h01 hO hNB hBw htk e1
        by_cases hqm : (m : Int) ≤ (q : Int)
        · have hE2 : far m vs = true := by rw [hE]; simp [far, hq]; exact .inl (by omega)
          have HE := WirS.hide hE2
          have d1 : decide ((m : Int) ≤ (q : Int)) = true := by simpa using hqm
          clear hE hE2 hq
          go_upto_region 8 with fail
          rw [show wr.alloc (.cells #[.int .i64 x.at', .int .u64 x.sg] TV) = W1 from E1.out.symm]
          clear r0 r1 eY E1
          go_wp2_with fail
          refine bodyPost_ret (v := .tuple #[.slice none 0 0, .int .i64 3]) (by simp [results, Try.results68, go_sem]) rfl ?_
          rw [← HRC.out, ← HRK.out, if_pos HE.out, if_pos HE.out]
          exact wp_none rfl HB1.out
        · have hE2 : far m vs = far m (vs.drop (k + 1)) := by rw [hE]; simp [far, hq]; omega
          have HE := WirS.hide hE2
          have d1 : decide ((m : Int) ≤ (q : Int)) = false := by simpa using hqm
          have hqm2 : q < m := by omega
          obtain ⟨y, By, oy, hy, _, rfl, _, hyr⟩ := (HW.out.below HB1.out).cell hqm2
          have hky : keyAt ls x = y.key := by unfold keyAt; rw [hq, Int.toNat_natCast, hy]; rfl
          have HKR := WirS.hide (show W1.rangeAt By (oy + q * 5) (b8 y.key) from fun j v hj => hyr j v (by
            have hj4 : j < 4 := (List.getElem?_eq_some_iff.1 hj).1
            have : ∀ j, j < 4 → (b8 y.key)[j]? = y.cells[j]? := fun j h => by
              obtain rfl | rfl | rfl | rfl : j = 0 ∨ j = 1 ∨ j = 2 ∨ j = 3 := by omega
              all_goals rfl
            rw [← this j hj4]
            exact hj))
          have HKY := WirS.hide hky
          have hsl : sn = ((vs.take k).map (keyAt ls)).length := by obtain ⟨va, vc, e⟩ := HO.out.len_of; cases e; rfl
          have hal : Below W1.heap.size W1 (W1.alloc (.cells (b8 y.key).toArray TKE)) := Below.alloc (Below.refl _ _) (Nat.le_refl _) _
          obtain ⟨v', u9, hrun, ho, hf, hnw⟩ := app_key (W1.alloc (.cells (b8 y.key).toArray TKE)) TK (.slice sa sn sc) ((vs.take k).map (keyAt ls)) y.key rfl W1.heap.size (HO1.out.below hal) (At.new _ _ _) (by rw [List.length_map, List.length_take]; omega)
          obtain ⟨ia, ic, rfl⟩ := ho.len_of
          have HIO := WirS.hide (show OwnK u9 (.slice ia ((vs.take k).map (keyAt ls) ++ [y.key]).length ic) ((vs.take (k + 1)).map (keyAt ls)) from by rw [← HTK.out, List.map_append, List.map_cons, List.map_nil, hky]; exact ho)
          obtain ⟨im, him⟩ : ∃ i, ((vs.take k).map (keyAt ls) ++ [y.key]).length = i := ⟨_, rfl⟩
          rw [him] at HIO hrun hnw
          have HBF := WirS.hide (show Below w.heap.size w u9 from (HB1.out.trans (hal.mono HB1.out.size)).trans (hf.below (Nat.le_trans HB1.out.size hal.size) (fun q hq hx => by have := HNB.out q hx; omega)))
          have HNN := WirS.hide (show NewB w (.slice ia im ic) from fun q hq => by
            rcases hnw q hq with h | h
            · exact HNB.out q h
            · exact Nat.le_trans (Nat.le_trans HB1.out.size hal.size) h)
          have HRUN := WirS.hide hrun
          clear hE hE2 hy hyr hky hsl hal ho hf hnw hrun him hq
          go_upto_region 8 with fail
          rw [show wr.alloc (.cells #[.int .i64 x.at', .int .u64 x.sg] TV) = W1 from E1.out.symm]
          clear r0 r1 eY E1
          go_upto_region 10 with fail
          refine wp_region_lit ?_
          refine sV (.slice sa sn sc) (W1) (by kernel_rfl) (by kernel_rfl) ?_
          simp only [Act.put, List.setIfInBounds_toArray, List.set_cons_succ, List.set_cons_zero]
          refine sV (.slice (some ⟨By, oy, none⟩) m d) (W1) (by kernel_rfl) (by kernel_rfl) ?_
          simp only [Act.put, List.setIfInBounds_toArray, List.set_cons_succ, List.set_cons_zero]
          refine sV (.pointer (some ⟨Y, 0, none⟩)) (W1) (by kernel_rfl) (by kernel_rfl) ?_
          simp only [Act.put, List.setIfInBounds_toArray, List.set_cons_succ, List.set_cons_zero]
          refine sP (by kernel_rfl) _ _ (by rfl) ⟨Y, 0, none⟩ (by kernel_rfl) (.int .i64 (q : Int)) y0 (by kernel_rfl) ?_
          simp only [Act.put, List.setIfInBounds_toArray, List.set_cons_succ, List.set_cons_zero]
          refine sV (.pointer (some ⟨By, oy + q * 5, none⟩)) W1 (by kernel_rfl) (opV _ _ (.tmp 28) (.tmp 30) By oy m d q (by kernel_rfl) (by kernel_rfl) (by kernel_rfl) hqm2 W1) ?_
          simp only [Act.put, List.setIfInBounds_toArray, List.set_cons_succ, List.set_cons_zero]
          refine sV (.pointer (some ⟨By, oy + q * 5, none⟩)) (W1) (by kernel_rfl) (by kernel_rfl) ?_
          simp only [Act.put, List.setIfInBounds_toArray, List.set_cons_succ, List.set_cons_zero]
          refine wpList_load_mid (by rfl) _ _ (by rfl) By (oy + q * 5) (by kernel_rfl) (b8 y.key) _ HKR.out Try.underlying36 (by rfl) (by kernel_rfl) ?_
          simp only [Act.put, List.setIfInBounds_toArray, List.set_cons_succ, List.set_cons_zero]
          refine sV (.slice (some ⟨W1.heap.size, 0, none⟩) 1 1) (W1.alloc (.cells (b8 y.key).toArray TKE)) (by kernel_rfl) (by kernel_rfl) ?_
          simp only [Act.put, List.setIfInBounds_toArray, List.set_cons_succ, List.set_cons_zero]
          refine sA (by kernel_rfl) TK TK _ _ (by rfl) (.slice sa sn sc) (.slice (some ⟨W1.heap.size, 0, none⟩) 1 1) (by kernel_rfl) (by kernel_rfl) (.slice ia im ic) (u9) HRUN.out ?_
          simp only [Act.put, List.setIfInBounds_toArray, List.set_cons_succ, List.set_cons_zero]
          clear HRUN
          go_wp2_with fail
          go_roundw
          case rel => exact ⟨k + 1, ia, im, ic, by omega, by go_num, rfl, HIO.out, HNN.out, by rw [HLM.out]; exact HE.out, HBF.out⟩
          case measure => simp [intOf]; omega
      · have hkn : k = n := by omega
        have hE2 : ¬ far m vs = true := by
          rw [hE, List.drop_eq_nil_of_le (by rw [HLN.out]; omega)]
          simp [far]
        have HE := WirS.hide hE2
        have HOF : Hid (OwnK wr (.slice sa sn sc) (vs.map (keyAt ls))) := by
          have h := HO.out
          rw [List.take_of_length_le (by rw [HLN.out]; omega)] at h
          exact h
        clear hE hE2 hO hNB hBw hkn
        go_wp2_with fail
        refine bodyPost_ret (v := .tuple #[.slice sa sn sc, .int .i64 0]) (by simp [results, Try.results68, go_sem]) rfl ?_
        rw [← HRC.out, ← HRK.out, if_neg HE.out, if_neg HE.out]
        exact ⟨sa, sn, sc, rfl, HOF.out, HNB.out, HBW.out⟩
  · have hwE : whoE ht vs m = chk ht vs := by unfold whoE; rw [if_pos hc]
    have hwL : whoL ht vs ls = [] := by unfold whoL; rw [hw.len, hwE, if_neg hc]
    rw [hwE, hwL]
    generalize chk ht vs = cd at *
    have d1 : (cd != 0) = true := by simpa using hc
    clear hl hv hw hc hwE hwL
    go_enter Try.func68, Try.ntmps68
    go_upto_region 1 with fail
    rw [show w.alloc (.cells (ccl ht h (.slice a n c)).toArray TC) = W0 from E0.out.symm]
    clear E0
    refine wp_region_lit ?_
    refine sL (by kernel_rfl) _ _ (by rfl) _ (by kernel_rfl) HA.out _ _ CmJ.UC rfl (by kernel_rfl) (by rw [ccl_len _ _ _ HL.out]) ?_
    simp only [Act.put, List.setIfInBounds_toArray, List.set_cons_succ, List.set_cons_zero]
    refine sC (R := fun w' => Below W0.heap.size W0 w') (by kernel_rfl) (by kernel_rfl) HCK.out ?_
    rintro u0 hb
    simp only [Act.put, List.setIfInBounds_toArray, List.set_cons_succ, List.set_cons_zero]
    have HB0 := WirS.hide (HB.out.trans (hb.mono HB.out.size))
    clear hb HCK
    go_wp2_with fail
    refine bodyPost_ret (v := .tuple #[.slice none 0 0, .int .i64 cd]) (by simp [results, Try.results68, go_sem]) rfl ?_
    exact wp_none rfl HB0.out
end CmS
end Go.Proofs.Ythcemghamdmjmaa

namespace Go.Proofs.Ythcemghamdmjmaa
namespace CmR
open Go.RowKit
open BlkM WirM WirS CmA CmP CmI CmJ CmL CmO CmQ
open CmB (TV TC ccl ofS)
open CmN (nums hh1)
open WirAB (sCx)
open ValA (Vd VIn)
open CmS (KIn OwnK TK TKE kcells keyAt whoE whoL who_any sk_any)

def ks3 : List Vd := [⟨97, 0, 0, 0, 1⟩, ⟨98, 0, 0, 0, 1⟩, ⟨99, 0, 0, 0, 1⟩]
theorem keys_any (w : World) : Calls Try.prog 79 #[] w fun e w' => ∃ B, e = .returned (.slice (some ⟨B, 0, none⟩) 3 3) ∧ VIn w' (some ⟨B, 0, none⟩) 3 3 ks3 ∧ Below w.heap.size w w' := by
  have hA := At.new w 187 (ValA.cellsL ks3)
  have hV : VIn (w.alloc (.cells (ValA.cellsL ks3).toArray 187)) (some ⟨w.heap.size, 0, none⟩) 3 3 ks3 := ⟨rfl, Nat.le_refl _, by decide, fun _ => ⟨_, 0, rfl, hA.lt, fun i x hx j v hj => by
    rw [hA.cell, show 0 + i * 5 + j = i * 5 + j by omega]
    exact ValA.cellsL_get ks3 i x hx j v hj⟩, fun x hx => by
    simp only [ks3, List.mem_cons, List.not_mem_nil, or_false] at hx
    rcases hx with rfl | rfl | rfl <;> exact ⟨by decide, by decide, by decide, by decide, by decide⟩⟩
  have HV := WirS.hide hV
  clear hV hA
  go_enter Try.func79, Try.ntmps79
  go_wp2_with fail
  go_ret
  exact ⟨_, rfl, HV.out, Below.alloc (Below.refl _ _) (Nat.le_refl _) _⟩
theorem kin_new (w : World) (ks : List (List Int)) (n : Nat) (hn : ks.length = n) (h4 : ∀ k ∈ ks, k.length = 4) (hs : n ≤ 1000) (B : Nat) (hA : At w B TKE (kcells ks)) : KIn w (some ⟨B, 0, none⟩) n n ks := ⟨hn, Nat.le_refl _, by omega, fun _ => ⟨_, 0, rfl, hA.lt, fun i x hx j v hj => by
    rw [hA.cell, show 0 + i * 4 + j = i * 4 + j by omega]
    exact CmS.kcells_get ks h4 i x hx j v hj⟩, h4⟩
set_option maxRecDepth 20000 in
set_option maxHeartbeats 16000000 in
theorem known_any (w : World) : Calls Try.prog 13 #[] w fun e w' => e = .returned (.bool true) ∧ Below w.heap.size w w' := by
  have HW := WirS.hide (Below.refl w.heap.size w)
  go_enter Try.func13, Try.ntmps13
  go_upto_region 1 with fail
  refine wp_region_lit ?_
  refine sCx (by kernel_rfl) (by kernel_rfl) (of_nil w 5) ?_
  rintro e u1 ⟨a1, n1, c1, rfl, ho, _, hb⟩
  refine ⟨_, rfl, ?_⟩
  simp only [Act.put, List.setIfInBounds_toArray, List.set_cons_succ, List.set_cons_zero]
  have HV1 := WirS.hide ho.vin
  clear ho
  replace HW := WirS.hide (HW.out.trans (hb.mono HW.out.size))
  clear hb
  refine sC (R := fun w' => Below u1.heap.size u1 w') (by kernel_rfl) (by kernel_rfl) (by have C := CmB.of_any u1 5 hh1 a1 n1 c1 ([] : List Vt) 0 rfl HV1.out; rw [show ofS 0 ([] : List Vt) = 0 from by kernel_rfl, show (ofV 0 ([] : List Vt)).isSome = false from by kernel_rfl] at C; exact C) ?_
  rintro u2 hb
  simp only [Act.put, List.setIfInBounds_toArray, List.set_cons_succ, List.set_cons_zero]
  replace HW := WirS.hide (HW.out.trans (hb.mono HW.out.size))
  replace HV1 := WirS.hide (HV1.out.below hb)
  clear hb
  refine sV (.tuple #[.int .u64 0, .bool false]) (u2) (by kernel_rfl) (by kernel_rfl) ?_
  simp only [Act.put, List.setIfInBounds_toArray, List.set_cons_succ, List.set_cons_zero]
  refine sV (.int .u64 0) (u2) (by kernel_rfl) (by kernel_rfl) ?_
  simp only [Act.put, List.setIfInBounds_toArray, List.set_cons_succ, List.set_cons_zero]
  refine sV (.bool false) (u2) (by kernel_rfl) (by kernel_rfl) ?_
  simp only [Act.put, List.setIfInBounds_toArray, List.set_cons_succ, List.set_cons_zero]
  go_upto_region 2 with fail
  refine wp_region_lit ?_
  refine sV (.slice (some ⟨u2.heap.size, 0, none⟩) 4 4) (u2.alloc (.cells (nums ([⟨0, 7⟩, ⟨2, 9⟩] : List Vt)).toArray 3)) (by kernel_rfl) (by kernel_rfl) ?_
  simp only [Act.put, List.setIfInBounds_toArray, List.set_cons_succ, List.set_cons_zero]
  obtain ⟨B3, eB3⟩ : ∃ A, u2.heap.size = A := ⟨_, rfl⟩
  have HA3 := WirS.hide (show At (u2.alloc (.cells (nums ([⟨0, 7⟩, ⟨2, 9⟩] : List Vt)).toArray 3)) B3 3 _ from by rw [← eB3]; exact At.new _ _ _)
  have hb : Below u2.heap.size u2 (u2.alloc (.cells (nums ([⟨0, 7⟩, ⟨2, 9⟩] : List Vt)).toArray 3)) := Below.alloc (Below.refl _ _) (Nat.le_refl _) _
  rw [eB3]
  clear eB3
  generalize World.alloc u2 _ = u3 at *
  replace HW := WirS.hide (HW.out.trans (hb.mono HW.out.size))
  replace HV1 := WirS.hide (HV1.out.below hb)
  clear hb
  refine sCx (by kernel_rfl) (by kernel_rfl) (CmN.of_any u3 B3 4 5 ([⟨0, 7⟩, ⟨2, 9⟩] : List Vt) HA3.out (by decide) (by intro x hx; simp at hx; rcases hx with rfl | rfl <;> exact ⟨by decide, by decide⟩)) ?_
  rintro e u4 ⟨a4, n4, c4, rfl, ho, _, hb⟩
  refine ⟨_, rfl, ?_⟩
  simp only [Act.put, List.setIfInBounds_toArray, List.set_cons_succ, List.set_cons_zero]
  have HV4 := WirS.hide ho.vin
  clear ho HA3
  replace HW := WirS.hide (HW.out.trans (hb.mono HW.out.size))
  replace HV1 := WirS.hide (HV1.out.below hb)
  clear hb
  refine sCx (by kernel_rfl) (by kernel_rfl) (keys_any u4) ?_
  rintro e u5 ⟨K5, rfl, hv, hb⟩
  refine ⟨_, rfl, ?_⟩
  simp only [Act.put, List.setIfInBounds_toArray, List.set_cons_succ, List.set_cons_zero]
  have HK5 := WirS.hide hv
  clear hv
  replace HW := WirS.hide (HW.out.trans (hb.mono HW.out.size))
  replace HV1 := WirS.hide (HV1.out.below hb)
  replace HV4 := WirS.hide (HV4.out.below hb)
  clear hb
  refine sCx (R := CmS.WP u5 0 ([[97, 0, 0, 0], [99, 0, 0, 0]] : List (List Int))) (by kernel_rfl) (by kernel_rfl) (by have C := who_any u5 5 hh1 a4 (some ⟨K5, 0, none⟩) n4 c4 3 3 ([⟨0, 7⟩, ⟨2, 9⟩] : List Vt) ks3 rfl HV4.out HK5.out (by decide); rw [show whoE 5 ([⟨0, 7⟩, ⟨2, 9⟩] : List Vt) 3 = 0 from by kernel_rfl, show whoL 5 ([⟨0, 7⟩, ⟨2, 9⟩] : List Vt) ks3 = ([[97, 0, 0, 0], [99, 0, 0, 0]] : List (List Int)) from by kernel_rfl] at C; exact C) ?_
  rintro e u6 ⟨wa6, wn6, wc6, rfl, ho, _, hb⟩
  refine ⟨_, rfl, ?_⟩
  simp only [Act.put, List.setIfInBounds_toArray, List.set_cons_succ, List.set_cons_zero]
  have HO6 := WirS.hide ho.kin
  clear ho
  replace HW := WirS.hide (HW.out.trans (hb.mono HW.out.size))
  replace HV1 := WirS.hide (HV1.out.below hb)
  replace HV4 := WirS.hide (HV4.out.below hb)
  replace HK5 := WirS.hide (HK5.out.below hb)
  clear hb
  refine sV (.tuple #[.slice wa6 wn6 wc6, .int .i64 0]) (u6) (by kernel_rfl) (by kernel_rfl) ?_
  simp only [Act.put, List.setIfInBounds_toArray, List.set_cons_succ, List.set_cons_zero]
  refine sV (.slice wa6 wn6 wc6) (u6) (by kernel_rfl) (by kernel_rfl) ?_
  simp only [Act.put, List.setIfInBounds_toArray, List.set_cons_succ, List.set_cons_zero]
  refine sV (.int .i64 0) (u6) (by kernel_rfl) (by kernel_rfl) ?_
  simp only [Act.put, List.setIfInBounds_toArray, List.set_cons_succ, List.set_cons_zero]
  go_upto_region 3 with fail
  refine wp_region_lit ?_
  refine sV (.slice (some ⟨u6.heap.size, 0, none⟩) 2 2) (u6.alloc (.cells (nums ([⟨3, 9⟩] : List Vt)).toArray 3)) (by kernel_rfl) (by kernel_rfl) ?_
  simp only [Act.put, List.setIfInBounds_toArray, List.set_cons_succ, List.set_cons_zero]
  obtain ⟨B7, eB7⟩ : ∃ A, u6.heap.size = A := ⟨_, rfl⟩
  have HA7 := WirS.hide (show At (u6.alloc (.cells (nums ([⟨3, 9⟩] : List Vt)).toArray 3)) B7 3 _ from by rw [← eB7]; exact At.new _ _ _)
  have hb : Below u6.heap.size u6 (u6.alloc (.cells (nums ([⟨3, 9⟩] : List Vt)).toArray 3)) := Below.alloc (Below.refl _ _) (Nat.le_refl _) _
  rw [eB7]
  clear eB7
  generalize World.alloc u6 _ = u7 at *
  replace HW := WirS.hide (HW.out.trans (hb.mono HW.out.size))
  replace HV1 := WirS.hide (HV1.out.below hb)
  replace HV4 := WirS.hide (HV4.out.below hb)
  replace HK5 := WirS.hide (HK5.out.below hb)
  replace HO6 := WirS.hide (HO6.out.below hb)
  clear hb
  refine sCx (by kernel_rfl) (by kernel_rfl) (CmN.of_any u7 B7 2 5 ([⟨3, 9⟩] : List Vt) HA7.out (by decide) (by intro x hx; simp at hx; rcases hx with rfl <;> exact ⟨by decide, by decide⟩)) ?_
  rintro e u8 ⟨a8, n8, c8, rfl, ho, _, hb⟩
  refine ⟨_, rfl, ?_⟩
  simp only [Act.put, List.setIfInBounds_toArray, List.set_cons_succ, List.set_cons_zero]
  have HV8 := WirS.hide ho.vin
  clear ho HA7
  replace HW := WirS.hide (HW.out.trans (hb.mono HW.out.size))
  replace HV1 := WirS.hide (HV1.out.below hb)
  replace HV4 := WirS.hide (HV4.out.below hb)
  replace HK5 := WirS.hide (HK5.out.below hb)
  replace HO6 := WirS.hide (HO6.out.below hb)
  clear hb
  refine sCx (by kernel_rfl) (by kernel_rfl) (keys_any u8) ?_
  rintro e u9 ⟨K9, rfl, hv, hb⟩
  refine ⟨_, rfl, ?_⟩
  simp only [Act.put, List.setIfInBounds_toArray, List.set_cons_succ, List.set_cons_zero]
  have HK9 := WirS.hide hv
  clear hv
  replace HW := WirS.hide (HW.out.trans (hb.mono HW.out.size))
  replace HV1 := WirS.hide (HV1.out.below hb)
  replace HV4 := WirS.hide (HV4.out.below hb)
  replace HK5 := WirS.hide (HK5.out.below hb)
  replace HO6 := WirS.hide (HO6.out.below hb)
  replace HV8 := WirS.hide (HV8.out.below hb)
  clear hb
  refine sCx (R := CmS.WP u9 3 ([] : List (List Int))) (by kernel_rfl) (by kernel_rfl) (by have C := who_any u9 5 hh1 a8 (some ⟨K9, 0, none⟩) n8 c8 3 3 ([⟨3, 9⟩] : List Vt) ks3 rfl HV8.out HK9.out (by decide); rw [show whoE 5 ([⟨3, 9⟩] : List Vt) 3 = 3 from by kernel_rfl, show whoL 5 ([⟨3, 9⟩] : List Vt) ks3 = ([] : List (List Int)) from by kernel_rfl] at C; exact C) ?_
  rintro e u10 ⟨wa10, wn10, wc10, rfl, ho, _, hb⟩
  refine ⟨_, rfl, ?_⟩
  simp only [Act.put, List.setIfInBounds_toArray, List.set_cons_succ, List.set_cons_zero]
  have HO10 := WirS.hide ho.kin
  clear ho
  replace HW := WirS.hide (HW.out.trans (hb.mono HW.out.size))
  replace HV1 := WirS.hide (HV1.out.below hb)
  replace HV4 := WirS.hide (HV4.out.below hb)
  replace HK5 := WirS.hide (HK5.out.below hb)
  replace HO6 := WirS.hide (HO6.out.below hb)
  replace HV8 := WirS.hide (HV8.out.below hb)
  replace HK9 := WirS.hide (HK9.out.below hb)
  clear hb
  refine sV (.tuple #[.slice wa10 wn10 wc10, .int .i64 3]) (u10) (by kernel_rfl) (by kernel_rfl) ?_
  simp only [Act.put, List.setIfInBounds_toArray, List.set_cons_succ, List.set_cons_zero]
  refine sV (.slice wa10 wn10 wc10) (u10) (by kernel_rfl) (by kernel_rfl) ?_
  simp only [Act.put, List.setIfInBounds_toArray, List.set_cons_succ, List.set_cons_zero]
  refine sV (.int .i64 3) (u10) (by kernel_rfl) (by kernel_rfl) ?_
  simp only [Act.put, List.setIfInBounds_toArray, List.set_cons_succ, List.set_cons_zero]
  go_upto_region 4 with fail
  refine wp_region_lit ?_
  refine sV (.slice (some ⟨u10.heap.size, 0, none⟩) 4 4) (u10.alloc (.cells (nums ([⟨0, 7⟩, ⟨3, 9⟩] : List Vt)).toArray 3)) (by kernel_rfl) (by kernel_rfl) ?_
  simp only [Act.put, List.setIfInBounds_toArray, List.set_cons_succ, List.set_cons_zero]
  obtain ⟨B11, eB11⟩ : ∃ A, u10.heap.size = A := ⟨_, rfl⟩
  have HA11 := WirS.hide (show At (u10.alloc (.cells (nums ([⟨0, 7⟩, ⟨3, 9⟩] : List Vt)).toArray 3)) B11 3 _ from by rw [← eB11]; exact At.new _ _ _)
  have hb : Below u10.heap.size u10 (u10.alloc (.cells (nums ([⟨0, 7⟩, ⟨3, 9⟩] : List Vt)).toArray 3)) := Below.alloc (Below.refl _ _) (Nat.le_refl _) _
  rw [eB11]
  clear eB11
  generalize World.alloc u10 _ = u11 at *
  replace HW := WirS.hide (HW.out.trans (hb.mono HW.out.size))
  replace HV1 := WirS.hide (HV1.out.below hb)
  replace HV4 := WirS.hide (HV4.out.below hb)
  replace HK5 := WirS.hide (HK5.out.below hb)
  replace HO6 := WirS.hide (HO6.out.below hb)
  replace HV8 := WirS.hide (HV8.out.below hb)
  replace HK9 := WirS.hide (HK9.out.below hb)
  replace HO10 := WirS.hide (HO10.out.below hb)
  clear hb
  refine sCx (by kernel_rfl) (by kernel_rfl) (CmN.of_any u11 B11 4 5 ([⟨0, 7⟩, ⟨3, 9⟩] : List Vt) HA11.out (by decide) (by intro x hx; simp at hx; rcases hx with rfl | rfl <;> exact ⟨by decide, by decide⟩)) ?_
  rintro e u12 ⟨a12, n12, c12, rfl, ho, _, hb⟩
  refine ⟨_, rfl, ?_⟩
  simp only [Act.put, List.setIfInBounds_toArray, List.set_cons_succ, List.set_cons_zero]
  have HV12 := WirS.hide ho.vin
  clear ho HA11
  replace HW := WirS.hide (HW.out.trans (hb.mono HW.out.size))
  replace HV1 := WirS.hide (HV1.out.below hb)
  replace HV4 := WirS.hide (HV4.out.below hb)
  replace HK5 := WirS.hide (HK5.out.below hb)
  replace HO6 := WirS.hide (HO6.out.below hb)
  replace HV8 := WirS.hide (HV8.out.below hb)
  replace HK9 := WirS.hide (HK9.out.below hb)
  replace HO10 := WirS.hide (HO10.out.below hb)
  clear hb
  refine sC (R := fun w' => Below u12.heap.size u12 w') (by kernel_rfl) (by kernel_rfl) (by have C := CmB.check_any u12 5 hh1 a12 n12 c12 ([⟨0, 7⟩, ⟨3, 9⟩] : List Vt) rfl HV12.out; rw [show chk 5 ([⟨0, 7⟩, ⟨3, 9⟩] : List Vt) = 0 from by kernel_rfl] at C; exact C) ?_
  rintro u13 hb
  simp only [Act.put, List.setIfInBounds_toArray, List.set_cons_succ, List.set_cons_zero]
  replace HW := WirS.hide (HW.out.trans (hb.mono HW.out.size))
  replace HV1 := WirS.hide (HV1.out.below hb)
  replace HV4 := WirS.hide (HV4.out.below hb)
  replace HK5 := WirS.hide (HK5.out.below hb)
  replace HO6 := WirS.hide (HO6.out.below hb)
  replace HV8 := WirS.hide (HV8.out.below hb)
  replace HK9 := WirS.hide (HK9.out.below hb)
  replace HO10 := WirS.hide (HO10.out.below hb)
  replace HV12 := WirS.hide (HV12.out.below hb)
  clear hb
  refine sV (.bool true) (u13) (by kernel_rfl) (by kernel_rfl) ?_
  simp only [Act.put, List.setIfInBounds_toArray, List.set_cons_succ, List.set_cons_zero]
  refine sV (.bool true) (u13) (by kernel_rfl) (by kernel_rfl) ?_
  simp only [Act.put, List.setIfInBounds_toArray, List.set_cons_succ, List.set_cons_zero]
  refine sV (.slice (some ⟨u13.heap.size, 0, none⟩) 4 4) (u13.alloc (.cells (nums ([⟨3, 1⟩, ⟨3, 1⟩] : List Vt)).toArray 3)) (by kernel_rfl) (by kernel_rfl) ?_
  simp only [Act.put, List.setIfInBounds_toArray, List.set_cons_succ, List.set_cons_zero]
  obtain ⟨B14, eB14⟩ : ∃ A, u13.heap.size = A := ⟨_, rfl⟩
  have HA14 := WirS.hide (show At (u13.alloc (.cells (nums ([⟨3, 1⟩, ⟨3, 1⟩] : List Vt)).toArray 3)) B14 3 _ from by rw [← eB14]; exact At.new _ _ _)
  have hb : Below u13.heap.size u13 (u13.alloc (.cells (nums ([⟨3, 1⟩, ⟨3, 1⟩] : List Vt)).toArray 3)) := Below.alloc (Below.refl _ _) (Nat.le_refl _) _
  rw [eB14]
  clear eB14
  generalize World.alloc u13 _ = u14 at *
  replace HW := WirS.hide (HW.out.trans (hb.mono HW.out.size))
  replace HV1 := WirS.hide (HV1.out.below hb)
  replace HV4 := WirS.hide (HV4.out.below hb)
  replace HK5 := WirS.hide (HK5.out.below hb)
  replace HO6 := WirS.hide (HO6.out.below hb)
  replace HV8 := WirS.hide (HV8.out.below hb)
  replace HK9 := WirS.hide (HK9.out.below hb)
  replace HO10 := WirS.hide (HO10.out.below hb)
  replace HV12 := WirS.hide (HV12.out.below hb)
  clear hb
  refine sCx (by kernel_rfl) (by kernel_rfl) (CmN.of_any u14 B14 4 5 ([⟨3, 1⟩, ⟨3, 1⟩] : List Vt) HA14.out (by decide) (by intro x hx; simp at hx; rcases hx with rfl | rfl <;> exact ⟨by decide, by decide⟩)) ?_
  rintro e u15 ⟨a15, n15, c15, rfl, ho, _, hb⟩
  refine ⟨_, rfl, ?_⟩
  simp only [Act.put, List.setIfInBounds_toArray, List.set_cons_succ, List.set_cons_zero]
  have HV15 := WirS.hide ho.vin
  clear ho HA14
  replace HW := WirS.hide (HW.out.trans (hb.mono HW.out.size))
  replace HV1 := WirS.hide (HV1.out.below hb)
  replace HV4 := WirS.hide (HV4.out.below hb)
  replace HK5 := WirS.hide (HK5.out.below hb)
  replace HO6 := WirS.hide (HO6.out.below hb)
  replace HV8 := WirS.hide (HV8.out.below hb)
  replace HK9 := WirS.hide (HK9.out.below hb)
  replace HO10 := WirS.hide (HO10.out.below hb)
  replace HV12 := WirS.hide (HV12.out.below hb)
  clear hb
  refine sC (R := fun w' => Below u15.heap.size u15 w') (by kernel_rfl) (by kernel_rfl) (by have C := CmB.check_any u15 5 hh1 a15 n15 c15 ([⟨3, 1⟩, ⟨3, 1⟩] : List Vt) rfl HV15.out; rw [show chk 5 ([⟨3, 1⟩, ⟨3, 1⟩] : List Vt) = 9 from by kernel_rfl] at C; exact C) ?_
  rintro u16 hb
  simp only [Act.put, List.setIfInBounds_toArray, List.set_cons_succ, List.set_cons_zero]
  replace HW := WirS.hide (HW.out.trans (hb.mono HW.out.size))
  replace HV1 := WirS.hide (HV1.out.below hb)
  replace HV4 := WirS.hide (HV4.out.below hb)
  replace HK5 := WirS.hide (HK5.out.below hb)
  replace HO6 := WirS.hide (HO6.out.below hb)
  replace HV8 := WirS.hide (HV8.out.below hb)
  replace HK9 := WirS.hide (HK9.out.below hb)
  replace HO10 := WirS.hide (HO10.out.below hb)
  replace HV12 := WirS.hide (HV12.out.below hb)
  replace HV15 := WirS.hide (HV15.out.below hb)
  clear hb
  refine sV (.bool true) (u16) (by kernel_rfl) (by kernel_rfl) ?_
  simp only [Act.put, List.setIfInBounds_toArray, List.set_cons_succ, List.set_cons_zero]
  refine sV (.bool true) (u16) (by kernel_rfl) (by kernel_rfl) ?_
  simp only [Act.put, List.setIfInBounds_toArray, List.set_cons_succ, List.set_cons_zero]
  refine sV (.bool true) (u16) (by kernel_rfl) (by kernel_rfl) ?_
  simp only [Act.put, List.setIfInBounds_toArray, List.set_cons_succ, List.set_cons_zero]
  refine sV (.slice (some ⟨u16.heap.size, 0, none⟩) 2 2) (u16.alloc (.cells (nums ([⟨64, 1⟩] : List Vt)).toArray 3)) (by kernel_rfl) (by kernel_rfl) ?_
  simp only [Act.put, List.setIfInBounds_toArray, List.set_cons_succ, List.set_cons_zero]
  obtain ⟨B17, eB17⟩ : ∃ A, u16.heap.size = A := ⟨_, rfl⟩
  have HA17 := WirS.hide (show At (u16.alloc (.cells (nums ([⟨64, 1⟩] : List Vt)).toArray 3)) B17 3 _ from by rw [← eB17]; exact At.new _ _ _)
  have hb : Below u16.heap.size u16 (u16.alloc (.cells (nums ([⟨64, 1⟩] : List Vt)).toArray 3)) := Below.alloc (Below.refl _ _) (Nat.le_refl _) _
  rw [eB17]
  clear eB17
  generalize World.alloc u16 _ = u17 at *
  replace HW := WirS.hide (HW.out.trans (hb.mono HW.out.size))
  replace HV1 := WirS.hide (HV1.out.below hb)
  replace HV4 := WirS.hide (HV4.out.below hb)
  replace HK5 := WirS.hide (HK5.out.below hb)
  replace HO6 := WirS.hide (HO6.out.below hb)
  replace HV8 := WirS.hide (HV8.out.below hb)
  replace HK9 := WirS.hide (HK9.out.below hb)
  replace HO10 := WirS.hide (HO10.out.below hb)
  replace HV12 := WirS.hide (HV12.out.below hb)
  replace HV15 := WirS.hide (HV15.out.below hb)
  clear hb
  refine sCx (by kernel_rfl) (by kernel_rfl) (CmN.of_any u17 B17 2 5 ([⟨64, 1⟩] : List Vt) HA17.out (by decide) (by intro x hx; simp at hx; rcases hx with rfl <;> exact ⟨by decide, by decide⟩)) ?_
  rintro e u18 ⟨a18, n18, c18, rfl, ho, _, hb⟩
  refine ⟨_, rfl, ?_⟩
  simp only [Act.put, List.setIfInBounds_toArray, List.set_cons_succ, List.set_cons_zero]
  have HV18 := WirS.hide ho.vin
  clear ho HA17
  replace HW := WirS.hide (HW.out.trans (hb.mono HW.out.size))
  replace HV1 := WirS.hide (HV1.out.below hb)
  replace HV4 := WirS.hide (HV4.out.below hb)
  replace HK5 := WirS.hide (HK5.out.below hb)
  replace HO6 := WirS.hide (HO6.out.below hb)
  replace HV8 := WirS.hide (HV8.out.below hb)
  replace HK9 := WirS.hide (HK9.out.below hb)
  replace HO10 := WirS.hide (HO10.out.below hb)
  replace HV12 := WirS.hide (HV12.out.below hb)
  replace HV15 := WirS.hide (HV15.out.below hb)
  clear hb
  refine sC (R := fun w' => Below u18.heap.size u18 w') (by kernel_rfl) (by kernel_rfl) (by have C := CmB.check_any u18 5 hh1 a18 n18 c18 ([⟨64, 1⟩] : List Vt) rfl HV18.out; rw [show chk 5 ([⟨64, 1⟩] : List Vt) = 3 from by kernel_rfl] at C; exact C) ?_
  rintro u19 hb
  simp only [Act.put, List.setIfInBounds_toArray, List.set_cons_succ, List.set_cons_zero]
  replace HW := WirS.hide (HW.out.trans (hb.mono HW.out.size))
  replace HV1 := WirS.hide (HV1.out.below hb)
  replace HV4 := WirS.hide (HV4.out.below hb)
  replace HK5 := WirS.hide (HK5.out.below hb)
  replace HO6 := WirS.hide (HO6.out.below hb)
  replace HV8 := WirS.hide (HV8.out.below hb)
  replace HK9 := WirS.hide (HK9.out.below hb)
  replace HO10 := WirS.hide (HO10.out.below hb)
  replace HV12 := WirS.hide (HV12.out.below hb)
  replace HV15 := WirS.hide (HV15.out.below hb)
  replace HV18 := WirS.hide (HV18.out.below hb)
  clear hb
  refine sV (.bool true) (u19) (by kernel_rfl) (by kernel_rfl) ?_
  simp only [Act.put, List.setIfInBounds_toArray, List.set_cons_succ, List.set_cons_zero]
  refine sV (.bool true) (u19) (by kernel_rfl) (by kernel_rfl) ?_
  simp only [Act.put, List.setIfInBounds_toArray, List.set_cons_succ, List.set_cons_zero]
  refine sV (.bool true) (u19) (by kernel_rfl) (by kernel_rfl) ?_
  simp only [Act.put, List.setIfInBounds_toArray, List.set_cons_succ, List.set_cons_zero]
  refine sV (.bool false) (u19) (by kernel_rfl) (by kernel_rfl) ?_
  simp only [Act.put, List.setIfInBounds_toArray, List.set_cons_succ, List.set_cons_zero]
  refine sV (.bool true) (u19) (by kernel_rfl) (by kernel_rfl) ?_
  simp only [Act.put, List.setIfInBounds_toArray, List.set_cons_succ, List.set_cons_zero]
  refine sV (.bool true) (u19) (by kernel_rfl) (by kernel_rfl) ?_
  simp only [Act.put, List.setIfInBounds_toArray, List.set_cons_succ, List.set_cons_zero]
  go_upto_region 5 with fail
  refine wp_region_lit ?_
  refine sV (.slice (some ⟨u19.heap.size, 0, none⟩) 2 2) (u19.alloc (.cells (nums ([⟨3, 9⟩] : List Vt)).toArray 3)) (by kernel_rfl) (by kernel_rfl) ?_
  simp only [Act.put, List.setIfInBounds_toArray, List.set_cons_succ, List.set_cons_zero]
  obtain ⟨B20, eB20⟩ : ∃ A, u19.heap.size = A := ⟨_, rfl⟩
  have HA20 := WirS.hide (show At (u19.alloc (.cells (nums ([⟨3, 9⟩] : List Vt)).toArray 3)) B20 3 _ from by rw [← eB20]; exact At.new _ _ _)
  have hb : Below u19.heap.size u19 (u19.alloc (.cells (nums ([⟨3, 9⟩] : List Vt)).toArray 3)) := Below.alloc (Below.refl _ _) (Nat.le_refl _) _
  rw [eB20]
  clear eB20
  generalize World.alloc u19 _ = u20 at *
  replace HW := WirS.hide (HW.out.trans (hb.mono HW.out.size))
  replace HV1 := WirS.hide (HV1.out.below hb)
  replace HV4 := WirS.hide (HV4.out.below hb)
  replace HK5 := WirS.hide (HK5.out.below hb)
  replace HO6 := WirS.hide (HO6.out.below hb)
  replace HV8 := WirS.hide (HV8.out.below hb)
  replace HK9 := WirS.hide (HK9.out.below hb)
  replace HO10 := WirS.hide (HO10.out.below hb)
  replace HV12 := WirS.hide (HV12.out.below hb)
  replace HV15 := WirS.hide (HV15.out.below hb)
  replace HV18 := WirS.hide (HV18.out.below hb)
  clear hb
  refine sCx (by kernel_rfl) (by kernel_rfl) (CmN.of_any u20 B20 2 5 ([⟨3, 9⟩] : List Vt) HA20.out (by decide) (by intro x hx; simp at hx; rcases hx with rfl <;> exact ⟨by decide, by decide⟩)) ?_
  rintro e u21 ⟨a21, n21, c21, rfl, ho, _, hb⟩
  refine ⟨_, rfl, ?_⟩
  simp only [Act.put, List.setIfInBounds_toArray, List.set_cons_succ, List.set_cons_zero]
  have HV21 := WirS.hide ho.vin
  clear ho HA20
  replace HW := WirS.hide (HW.out.trans (hb.mono HW.out.size))
  replace HV1 := WirS.hide (HV1.out.below hb)
  replace HV4 := WirS.hide (HV4.out.below hb)
  replace HK5 := WirS.hide (HK5.out.below hb)
  replace HO6 := WirS.hide (HO6.out.below hb)
  replace HV8 := WirS.hide (HV8.out.below hb)
  replace HK9 := WirS.hide (HK9.out.below hb)
  replace HO10 := WirS.hide (HO10.out.below hb)
  replace HV12 := WirS.hide (HV12.out.below hb)
  replace HV15 := WirS.hide (HV15.out.below hb)
  replace HV18 := WirS.hide (HV18.out.below hb)
  clear hb
  refine sV (.agg zcm.toArray) (u21) (by kernel_rfl) (by kernel_rfl) ?_
  simp only [Act.put, List.setIfInBounds_toArray, List.set_cons_succ, List.set_cons_zero]
  have HV22 := WirS.hide (VtIn.nil u21 none 0 (by decide))
  refine sC (R := fun w' => Below u21.heap.size u21 w') (by kernel_rfl) (by kernel_rfl) (adds_any u21 5 0 hh1 z32 a21 none n21 c21 0 0 ([] : List Vt) 3 9 8 rfl rfl HV22.out (by decide) (by decide) (fun U hU => by have C := CmJ.add_any U 5 hh1 a21 n21 c21 ([⟨3, 9⟩] : List Vt) ⟨3, 9⟩ rfl (HV21.out.below hU) (by have := HV21.out.len; simp at this; omega) ⟨by decide, by decide⟩; rw [show addE 5 ([⟨3, 9⟩] : List Vt) ⟨3, 9⟩ = 8 from by kernel_rfl] at C; exact C)) ?_
  rintro u23 hb
  simp only [Act.put, List.setIfInBounds_toArray, List.set_cons_succ, List.set_cons_zero]
  replace HW := WirS.hide (HW.out.trans (hb.mono HW.out.size))
  replace HV1 := WirS.hide (HV1.out.below hb)
  replace HV4 := WirS.hide (HV4.out.below hb)
  replace HK5 := WirS.hide (HK5.out.below hb)
  replace HO6 := WirS.hide (HO6.out.below hb)
  replace HV8 := WirS.hide (HV8.out.below hb)
  replace HK9 := WirS.hide (HK9.out.below hb)
  replace HO10 := WirS.hide (HO10.out.below hb)
  replace HV12 := WirS.hide (HV12.out.below hb)
  replace HV15 := WirS.hide (HV15.out.below hb)
  replace HV18 := WirS.hide (HV18.out.below hb)
  replace HV21 := WirS.hide (HV21.out.below hb)
  replace HV22 := WirS.hide (HV22.out.below hb)
  clear hb
  refine sV (.bool true) (u23) (by kernel_rfl) (by kernel_rfl) ?_
  simp only [Act.put, List.setIfInBounds_toArray, List.set_cons_succ, List.set_cons_zero]
  refine sCx (by kernel_rfl) (by kernel_rfl) (of_nil u23 5) ?_
  rintro e u24 ⟨a24, n24, c24, rfl, ho, _, hb⟩
  refine ⟨_, rfl, ?_⟩
  simp only [Act.put, List.setIfInBounds_toArray, List.set_cons_succ, List.set_cons_zero]
  have HV24 := WirS.hide ho.vin
  clear ho
  replace HW := WirS.hide (HW.out.trans (hb.mono HW.out.size))
  replace HV1 := WirS.hide (HV1.out.below hb)
  replace HV4 := WirS.hide (HV4.out.below hb)
  replace HK5 := WirS.hide (HK5.out.below hb)
  replace HO6 := WirS.hide (HO6.out.below hb)
  replace HV8 := WirS.hide (HV8.out.below hb)
  replace HK9 := WirS.hide (HK9.out.below hb)
  replace HO10 := WirS.hide (HO10.out.below hb)
  replace HV12 := WirS.hide (HV12.out.below hb)
  replace HV15 := WirS.hide (HV15.out.below hb)
  replace HV18 := WirS.hide (HV18.out.below hb)
  replace HV21 := WirS.hide (HV21.out.below hb)
  replace HV22 := WirS.hide (HV22.out.below hb)
  clear hb
  refine sV (.agg zcm.toArray) (u24) (by kernel_rfl) (by kernel_rfl) ?_
  simp only [Act.put, List.setIfInBounds_toArray, List.set_cons_succ, List.set_cons_zero]
  have HV25 := WirS.hide (VtIn.nil u24 none 0 (by decide))
  refine sC (R := fun w' => Below u24.heap.size u24 w') (by kernel_rfl) (by kernel_rfl) (adds_any u24 5 0 hh1 z32 a24 none n24 c24 0 0 ([] : List Vt) (-1) 1 3 rfl rfl HV25.out (by decide) (by decide) (fun U hU => by have C := CmJ.add_any U 5 hh1 a24 n24 c24 ([] : List Vt) ⟨(-1), 1⟩ rfl (HV24.out.below hU) (by have := HV24.out.len; simp at this; omega) ⟨by decide, by decide⟩; rw [show addE 5 ([] : List Vt) ⟨(-1), 1⟩ = 3 from by kernel_rfl] at C; exact C)) ?_
  rintro u26 hb
  simp only [Act.put, List.setIfInBounds_toArray, List.set_cons_succ, List.set_cons_zero]
  replace HW := WirS.hide (HW.out.trans (hb.mono HW.out.size))
  replace HV1 := WirS.hide (HV1.out.below hb)
  replace HV4 := WirS.hide (HV4.out.below hb)
  replace HK5 := WirS.hide (HK5.out.below hb)
  replace HO6 := WirS.hide (HO6.out.below hb)
  replace HV8 := WirS.hide (HV8.out.below hb)
  replace HK9 := WirS.hide (HK9.out.below hb)
  replace HO10 := WirS.hide (HO10.out.below hb)
  replace HV12 := WirS.hide (HV12.out.below hb)
  replace HV15 := WirS.hide (HV15.out.below hb)
  replace HV18 := WirS.hide (HV18.out.below hb)
  replace HV21 := WirS.hide (HV21.out.below hb)
  replace HV22 := WirS.hide (HV22.out.below hb)
  replace HV24 := WirS.hide (HV24.out.below hb)
  replace HV25 := WirS.hide (HV25.out.below hb)
  clear hb
  refine sV (.bool true) (u26) (by kernel_rfl) (by kernel_rfl) ?_
  simp only [Act.put, List.setIfInBounds_toArray, List.set_cons_succ, List.set_cons_zero]
  refine sV (.bool true) (u26) (by kernel_rfl) (by kernel_rfl) ?_
  simp only [Act.put, List.setIfInBounds_toArray, List.set_cons_succ, List.set_cons_zero]
  refine sV (.int .i64 0) (u26) (by kernel_rfl) (by kernel_rfl) ?_
  simp only [Act.put, List.setIfInBounds_toArray, List.set_cons_succ, List.set_cons_zero]
  refine sV (.bool true) (u26) (by kernel_rfl) (by kernel_rfl) ?_
  simp only [Act.put, List.setIfInBounds_toArray, List.set_cons_succ, List.set_cons_zero]
  refine sV (.bool true) (u26) (by kernel_rfl) (by kernel_rfl) ?_
  simp only [Act.put, List.setIfInBounds_toArray, List.set_cons_succ, List.set_cons_zero]
  refine sV (.bool true) (u26) (by kernel_rfl) (by kernel_rfl) ?_
  simp only [Act.put, List.setIfInBounds_toArray, List.set_cons_succ, List.set_cons_zero]
  have hn2 : wn6 = 2 := by have := HO6.out.len; simpa using this.symm
  subst hn2
  refine sV (.slice wa6 2 wc6) (u26) (by kernel_rfl) (by kernel_rfl) ?_
  simp only [Act.put, List.setIfInBounds_toArray, List.set_cons_succ, List.set_cons_zero]
  refine sV (.agg (b8 [97, 0, 0, 0]).toArray) (u26) (by kernel_rfl) (by kernel_rfl) ?_
  simp only [Act.put, List.setIfInBounds_toArray, List.set_cons_succ, List.set_cons_zero]
  refine sV (.agg (b8 [99, 0, 0, 0]).toArray) (u26) (by kernel_rfl) (by kernel_rfl) ?_
  simp only [Act.put, List.setIfInBounds_toArray, List.set_cons_succ, List.set_cons_zero]
  refine sV (.slice (some ⟨u26.heap.size, 0, none⟩) 2 2) (u26.alloc (.cells (kcells [[97, 0, 0, 0], [99, 0, 0, 0]]).toArray TKE)) (by kernel_rfl) (by kernel_rfl) ?_
  simp only [Act.put, List.setIfInBounds_toArray, List.set_cons_succ, List.set_cons_zero]
  obtain ⟨B27, eB27⟩ : ∃ A, u26.heap.size = A := ⟨_, rfl⟩
  have HA27 := WirS.hide (show At (u26.alloc (.cells (kcells [[97, 0, 0, 0], [99, 0, 0, 0]]).toArray TKE)) B27 TKE _ from by rw [← eB27]; exact At.new _ _ _)
  have hb : Below u26.heap.size u26 (u26.alloc (.cells (kcells [[97, 0, 0, 0], [99, 0, 0, 0]]).toArray TKE)) := Below.alloc (Below.refl _ _) (Nat.le_refl _) _
  rw [eB27]
  clear eB27
  generalize World.alloc u26 _ = u27 at *
  replace HW := WirS.hide (HW.out.trans (hb.mono HW.out.size))
  replace HV1 := WirS.hide (HV1.out.below hb)
  replace HV4 := WirS.hide (HV4.out.below hb)
  replace HK5 := WirS.hide (HK5.out.below hb)
  replace HO6 := WirS.hide (HO6.out.below hb)
  replace HV8 := WirS.hide (HV8.out.below hb)
  replace HK9 := WirS.hide (HK9.out.below hb)
  replace HO10 := WirS.hide (HO10.out.below hb)
  replace HV12 := WirS.hide (HV12.out.below hb)
  replace HV15 := WirS.hide (HV15.out.below hb)
  replace HV18 := WirS.hide (HV18.out.below hb)
  replace HV21 := WirS.hide (HV21.out.below hb)
  replace HV22 := WirS.hide (HV22.out.below hb)
  replace HV24 := WirS.hide (HV24.out.below hb)
  replace HV25 := WirS.hide (HV25.out.below hb)
  clear hb
  refine sC (R := fun w' => Below u27.heap.size u27 w') (by kernel_rfl) (by kernel_rfl) (sk_any u27 wa6 (some ⟨B27, 0, none⟩) 2 wc6 2 [[97, 0, 0, 0], [99, 0, 0, 0]] HO6.out (kin_new u27 [[97, 0, 0, 0], [99, 0, 0, 0]] 2 rfl (by decide) (by decide) B27 HA27.out)) ?_
  rintro u28 hb
  simp only [Act.put, List.setIfInBounds_toArray, List.set_cons_succ, List.set_cons_zero]
  replace HW := WirS.hide (HW.out.trans (hb.mono HW.out.size))
  replace HV1 := WirS.hide (HV1.out.below hb)
  replace HV4 := WirS.hide (HV4.out.below hb)
  replace HK5 := WirS.hide (HK5.out.below hb)
  replace HO6 := WirS.hide (HO6.out.below hb)
  replace HV8 := WirS.hide (HV8.out.below hb)
  replace HK9 := WirS.hide (HK9.out.below hb)
  replace HO10 := WirS.hide (HO10.out.below hb)
  replace HV12 := WirS.hide (HV12.out.below hb)
  replace HV15 := WirS.hide (HV15.out.below hb)
  replace HV18 := WirS.hide (HV18.out.below hb)
  replace HV21 := WirS.hide (HV21.out.below hb)
  replace HV22 := WirS.hide (HV22.out.below hb)
  replace HV24 := WirS.hide (HV24.out.below hb)
  replace HV25 := WirS.hide (HV25.out.below hb)
  clear hb
  refine sV (.bool true) (u28) (by kernel_rfl) (by kernel_rfl) ?_
  simp only [Act.put, List.setIfInBounds_toArray, List.set_cons_succ, List.set_cons_zero]
  refine sV (.bool true) (u28) (by kernel_rfl) (by kernel_rfl) ?_
  simp only [Act.put, List.setIfInBounds_toArray, List.set_cons_succ, List.set_cons_zero]
  refine sV (.int .i64 3) (u28) (by kernel_rfl) (by kernel_rfl) ?_
  simp only [Act.put, List.setIfInBounds_toArray, List.set_cons_succ, List.set_cons_zero]
  refine sV (.bool true) (u28) (by kernel_rfl) (by kernel_rfl) ?_
  simp only [Act.put, List.setIfInBounds_toArray, List.set_cons_succ, List.set_cons_zero]
  refine sV (.bool true) (u28) (by kernel_rfl) (by kernel_rfl) ?_
  simp only [Act.put, List.setIfInBounds_toArray, List.set_cons_succ, List.set_cons_zero]
  go_upto_region 6 with fail
  refine wp_region_lit ?_
  refine sC (R := fun w' => Below u28.heap.size u28 w') (by kernel_rfl) (by kernel_rfl) (awake_any u28) ?_
  rintro u29 hb
  simp only [Act.put, List.setIfInBounds_toArray, List.set_cons_succ, List.set_cons_zero]
  replace HW := WirS.hide (HW.out.trans (hb.mono HW.out.size))
  replace HV1 := WirS.hide (HV1.out.below hb)
  replace HV4 := WirS.hide (HV4.out.below hb)
  replace HK5 := WirS.hide (HK5.out.below hb)
  replace HO6 := WirS.hide (HO6.out.below hb)
  replace HV8 := WirS.hide (HV8.out.below hb)
  replace HK9 := WirS.hide (HK9.out.below hb)
  replace HO10 := WirS.hide (HO10.out.below hb)
  replace HV12 := WirS.hide (HV12.out.below hb)
  replace HV15 := WirS.hide (HV15.out.below hb)
  replace HV18 := WirS.hide (HV18.out.below hb)
  replace HV21 := WirS.hide (HV21.out.below hb)
  replace HV22 := WirS.hide (HV22.out.below hb)
  replace HV24 := WirS.hide (HV24.out.below hb)
  replace HV25 := WirS.hide (HV25.out.below hb)
  clear hb
  refine sV (.bool true) (u29) (by kernel_rfl) (by kernel_rfl) ?_
  simp only [Act.put, List.setIfInBounds_toArray, List.set_cons_succ, List.set_cons_zero]
  refine sV (.bool true) (u29) (by kernel_rfl) (by kernel_rfl) ?_
  simp only [Act.put, List.setIfInBounds_toArray, List.set_cons_succ, List.set_cons_zero]
  refine sV (.bool true) (u29) (by kernel_rfl) (by kernel_rfl) ?_
  simp only [Act.put, List.setIfInBounds_toArray, List.set_cons_succ, List.set_cons_zero]
  refine sV (.bool true) (u29) (by kernel_rfl) (by kernel_rfl) ?_
  simp only [Act.put, List.setIfInBounds_toArray, List.set_cons_succ, List.set_cons_zero]
  refine sV (.bool true) (u29) (by kernel_rfl) (by kernel_rfl) ?_
  simp only [Act.put, List.setIfInBounds_toArray, List.set_cons_succ, List.set_cons_zero]
  refine sV (.bool true) (u29) (by kernel_rfl) (by kernel_rfl) ?_
  simp only [Act.put, List.setIfInBounds_toArray, List.set_cons_succ, List.set_cons_zero]
  refine sV (.bool true) (u29) (by kernel_rfl) (by kernel_rfl) ?_
  simp only [Act.put, List.setIfInBounds_toArray, List.set_cons_succ, List.set_cons_zero]
  refine sV (.slice (some ⟨u29.heap.size, 0, none⟩) 2 2) (u29.alloc (.cells (nums ([⟨0, 7⟩] : List Vt)).toArray 3)) (by kernel_rfl) (by kernel_rfl) ?_
  simp only [Act.put, List.setIfInBounds_toArray, List.set_cons_succ, List.set_cons_zero]
  obtain ⟨B30, eB30⟩ : ∃ A, u29.heap.size = A := ⟨_, rfl⟩
  have HA30 := WirS.hide (show At (u29.alloc (.cells (nums ([⟨0, 7⟩] : List Vt)).toArray 3)) B30 3 _ from by rw [← eB30]; exact At.new _ _ _)
  have hb : Below u29.heap.size u29 (u29.alloc (.cells (nums ([⟨0, 7⟩] : List Vt)).toArray 3)) := Below.alloc (Below.refl _ _) (Nat.le_refl _) _
  rw [eB30]
  clear eB30
  generalize World.alloc u29 _ = u30 at *
  replace HW := WirS.hide (HW.out.trans (hb.mono HW.out.size))
  replace HV1 := WirS.hide (HV1.out.below hb)
  replace HV4 := WirS.hide (HV4.out.below hb)
  replace HK5 := WirS.hide (HK5.out.below hb)
  replace HO6 := WirS.hide (HO6.out.below hb)
  replace HV8 := WirS.hide (HV8.out.below hb)
  replace HK9 := WirS.hide (HK9.out.below hb)
  replace HO10 := WirS.hide (HO10.out.below hb)
  replace HV12 := WirS.hide (HV12.out.below hb)
  replace HV15 := WirS.hide (HV15.out.below hb)
  replace HV18 := WirS.hide (HV18.out.below hb)
  replace HV21 := WirS.hide (HV21.out.below hb)
  replace HV22 := WirS.hide (HV22.out.below hb)
  replace HV24 := WirS.hide (HV24.out.below hb)
  replace HV25 := WirS.hide (HV25.out.below hb)
  clear hb
  refine sCx (by kernel_rfl) (by kernel_rfl) (CmN.of_any u30 B30 2 5 ([⟨0, 7⟩] : List Vt) HA30.out (by decide) (by intro x hx; simp at hx; rcases hx with rfl <;> exact ⟨by decide, by decide⟩)) ?_
  rintro e u31 ⟨a31, n31, c31, rfl, ho, _, hb⟩
  refine ⟨_, rfl, ?_⟩
  simp only [Act.put, List.setIfInBounds_toArray, List.set_cons_succ, List.set_cons_zero]
  have HV31 := WirS.hide ho.vin
  clear ho HA30
  replace HW := WirS.hide (HW.out.trans (hb.mono HW.out.size))
  replace HV1 := WirS.hide (HV1.out.below hb)
  replace HV4 := WirS.hide (HV4.out.below hb)
  replace HK5 := WirS.hide (HK5.out.below hb)
  replace HO6 := WirS.hide (HO6.out.below hb)
  replace HV8 := WirS.hide (HV8.out.below hb)
  replace HK9 := WirS.hide (HK9.out.below hb)
  replace HO10 := WirS.hide (HO10.out.below hb)
  replace HV12 := WirS.hide (HV12.out.below hb)
  replace HV15 := WirS.hide (HV15.out.below hb)
  replace HV18 := WirS.hide (HV18.out.below hb)
  replace HV21 := WirS.hide (HV21.out.below hb)
  replace HV22 := WirS.hide (HV22.out.below hb)
  replace HV24 := WirS.hide (HV24.out.below hb)
  replace HV25 := WirS.hide (HV25.out.below hb)
  clear hb
  refine sV (.slice (some ⟨u31.heap.size, 0, none⟩) 2 2) (u31.alloc (.cells (nums ([⟨0, 8⟩] : List Vt)).toArray 3)) (by kernel_rfl) (by kernel_rfl) ?_
  simp only [Act.put, List.setIfInBounds_toArray, List.set_cons_succ, List.set_cons_zero]
  obtain ⟨B32, eB32⟩ : ∃ A, u31.heap.size = A := ⟨_, rfl⟩
  have HA32 := WirS.hide (show At (u31.alloc (.cells (nums ([⟨0, 8⟩] : List Vt)).toArray 3)) B32 3 _ from by rw [← eB32]; exact At.new _ _ _)
  have hb : Below u31.heap.size u31 (u31.alloc (.cells (nums ([⟨0, 8⟩] : List Vt)).toArray 3)) := Below.alloc (Below.refl _ _) (Nat.le_refl _) _
  rw [eB32]
  clear eB32
  generalize World.alloc u31 _ = u32 at *
  replace HW := WirS.hide (HW.out.trans (hb.mono HW.out.size))
  replace HV1 := WirS.hide (HV1.out.below hb)
  replace HV4 := WirS.hide (HV4.out.below hb)
  replace HK5 := WirS.hide (HK5.out.below hb)
  replace HO6 := WirS.hide (HO6.out.below hb)
  replace HV8 := WirS.hide (HV8.out.below hb)
  replace HK9 := WirS.hide (HK9.out.below hb)
  replace HO10 := WirS.hide (HO10.out.below hb)
  replace HV12 := WirS.hide (HV12.out.below hb)
  replace HV15 := WirS.hide (HV15.out.below hb)
  replace HV18 := WirS.hide (HV18.out.below hb)
  replace HV21 := WirS.hide (HV21.out.below hb)
  replace HV22 := WirS.hide (HV22.out.below hb)
  replace HV24 := WirS.hide (HV24.out.below hb)
  replace HV25 := WirS.hide (HV25.out.below hb)
  replace HV31 := WirS.hide (HV31.out.below hb)
  clear hb
  refine sCx (by kernel_rfl) (by kernel_rfl) (CmN.of_any u32 B32 2 5 ([⟨0, 8⟩] : List Vt) HA32.out (by decide) (by intro x hx; simp at hx; rcases hx with rfl <;> exact ⟨by decide, by decide⟩)) ?_
  rintro e u33 ⟨a33, n33, c33, rfl, ho, _, hb⟩
  refine ⟨_, rfl, ?_⟩
  simp only [Act.put, List.setIfInBounds_toArray, List.set_cons_succ, List.set_cons_zero]
  have HV33 := WirS.hide ho.vin
  clear ho HA32
  replace HW := WirS.hide (HW.out.trans (hb.mono HW.out.size))
  replace HV1 := WirS.hide (HV1.out.below hb)
  replace HV4 := WirS.hide (HV4.out.below hb)
  replace HK5 := WirS.hide (HK5.out.below hb)
  replace HO6 := WirS.hide (HO6.out.below hb)
  replace HV8 := WirS.hide (HV8.out.below hb)
  replace HK9 := WirS.hide (HK9.out.below hb)
  replace HO10 := WirS.hide (HO10.out.below hb)
  replace HV12 := WirS.hide (HV12.out.below hb)
  replace HV15 := WirS.hide (HV15.out.below hb)
  replace HV18 := WirS.hide (HV18.out.below hb)
  replace HV21 := WirS.hide (HV21.out.below hb)
  replace HV22 := WirS.hide (HV22.out.below hb)
  replace HV24 := WirS.hide (HV24.out.below hb)
  replace HV25 := WirS.hide (HV25.out.below hb)
  replace HV31 := WirS.hide (HV31.out.below hb)
  clear hb
  refine sV (.agg zcm.toArray) (u33) (by kernel_rfl) (by kernel_rfl) ?_
  simp only [Act.put, List.setIfInBounds_toArray, List.set_cons_succ, List.set_cons_zero]
  have HV34 := WirS.hide (VtIn.nil u33 none 0 (by decide))
  refine sC (R := fun w' => Below u33.heap.size u33 w') (by kernel_rfl) (by kernel_rfl) (joins_any u33 5 5 0 hh1 hh1 z32 a31 a33 none n31 c31 n33 c33 0 0 ([] : List Vt) 8 rfl rfl rfl HV34.out (fun U hU => by have C := CmL.join_any U 5 5 hh1 hh1 a31 a33 n31 c31 n33 c33 ([⟨0, 7⟩] : List Vt) ([⟨0, 8⟩] : List Vt) rfl rfl (HV31.out.below hU) (HV33.out.below hU) (by have := HV31.out.len; simp at this; omega) (by have := HV33.out.len; simp at this; omega); rw [show joinO 5 hh1 ([⟨0, 7⟩] : List Vt) 5 hh1 ([⟨0, 8⟩] : List Vt) = (8, none) from by kernel_rfl] at C; exact C)) ?_
  rintro u35 hb
  simp only [Act.put, List.setIfInBounds_toArray, List.set_cons_succ, List.set_cons_zero]
  replace HW := WirS.hide (HW.out.trans (hb.mono HW.out.size))
  replace HV1 := WirS.hide (HV1.out.below hb)
  replace HV4 := WirS.hide (HV4.out.below hb)
  replace HK5 := WirS.hide (HK5.out.below hb)
  replace HO6 := WirS.hide (HO6.out.below hb)
  replace HV8 := WirS.hide (HV8.out.below hb)
  replace HK9 := WirS.hide (HK9.out.below hb)
  replace HO10 := WirS.hide (HO10.out.below hb)
  replace HV12 := WirS.hide (HV12.out.below hb)
  replace HV15 := WirS.hide (HV15.out.below hb)
  replace HV18 := WirS.hide (HV18.out.below hb)
  replace HV21 := WirS.hide (HV21.out.below hb)
  replace HV22 := WirS.hide (HV22.out.below hb)
  replace HV24 := WirS.hide (HV24.out.below hb)
  replace HV25 := WirS.hide (HV25.out.below hb)
  replace HV31 := WirS.hide (HV31.out.below hb)
  replace HV33 := WirS.hide (HV33.out.below hb)
  replace HV34 := WirS.hide (HV34.out.below hb)
  clear hb
  refine sV (.bool true) (u35) (by kernel_rfl) (by kernel_rfl) ?_
  simp only [Act.put, List.setIfInBounds_toArray, List.set_cons_succ, List.set_cons_zero]
  refine sV (.bool true) (u35) (by kernel_rfl) (by kernel_rfl) ?_
  simp only [Act.put, List.setIfInBounds_toArray, List.set_cons_succ, List.set_cons_zero]
  refine sCx (by kernel_rfl) (by kernel_rfl) (of_nil u35 5) ?_
  rintro e u36 ⟨a36, n36, c36, rfl, ho, _, hb⟩
  refine ⟨_, rfl, ?_⟩
  simp only [Act.put, List.setIfInBounds_toArray, List.set_cons_succ, List.set_cons_zero]
  have HV36 := WirS.hide ho.vin
  clear ho
  replace HW := WirS.hide (HW.out.trans (hb.mono HW.out.size))
  replace HV1 := WirS.hide (HV1.out.below hb)
  replace HV4 := WirS.hide (HV4.out.below hb)
  replace HK5 := WirS.hide (HK5.out.below hb)
  replace HO6 := WirS.hide (HO6.out.below hb)
  replace HV8 := WirS.hide (HV8.out.below hb)
  replace HK9 := WirS.hide (HK9.out.below hb)
  replace HO10 := WirS.hide (HO10.out.below hb)
  replace HV12 := WirS.hide (HV12.out.below hb)
  replace HV15 := WirS.hide (HV15.out.below hb)
  replace HV18 := WirS.hide (HV18.out.below hb)
  replace HV21 := WirS.hide (HV21.out.below hb)
  replace HV22 := WirS.hide (HV22.out.below hb)
  replace HV24 := WirS.hide (HV24.out.below hb)
  replace HV25 := WirS.hide (HV25.out.below hb)
  replace HV31 := WirS.hide (HV31.out.below hb)
  replace HV33 := WirS.hide (HV33.out.below hb)
  replace HV34 := WirS.hide (HV34.out.below hb)
  clear hb
  refine sCx (by kernel_rfl) (by kernel_rfl) (of_nil u36 6) ?_
  rintro e u37 ⟨a37, n37, c37, rfl, ho, _, hb⟩
  refine ⟨_, rfl, ?_⟩
  simp only [Act.put, List.setIfInBounds_toArray, List.set_cons_succ, List.set_cons_zero]
  have HV37 := WirS.hide ho.vin
  clear ho
  replace HW := WirS.hide (HW.out.trans (hb.mono HW.out.size))
  replace HV1 := WirS.hide (HV1.out.below hb)
  replace HV4 := WirS.hide (HV4.out.below hb)
  replace HK5 := WirS.hide (HK5.out.below hb)
  replace HO6 := WirS.hide (HO6.out.below hb)
  replace HV8 := WirS.hide (HV8.out.below hb)
  replace HK9 := WirS.hide (HK9.out.below hb)
  replace HO10 := WirS.hide (HO10.out.below hb)
  replace HV12 := WirS.hide (HV12.out.below hb)
  replace HV15 := WirS.hide (HV15.out.below hb)
  replace HV18 := WirS.hide (HV18.out.below hb)
  replace HV21 := WirS.hide (HV21.out.below hb)
  replace HV22 := WirS.hide (HV22.out.below hb)
  replace HV24 := WirS.hide (HV24.out.below hb)
  replace HV25 := WirS.hide (HV25.out.below hb)
  replace HV31 := WirS.hide (HV31.out.below hb)
  replace HV33 := WirS.hide (HV33.out.below hb)
  replace HV34 := WirS.hide (HV34.out.below hb)
  replace HV36 := WirS.hide (HV36.out.below hb)
  clear hb
  refine sV (.agg zcm.toArray) (u37) (by kernel_rfl) (by kernel_rfl) ?_
  simp only [Act.put, List.setIfInBounds_toArray, List.set_cons_succ, List.set_cons_zero]
  have HV38 := WirS.hide (VtIn.nil u37 none 0 (by decide))
  refine sC (R := fun w' => Below u37.heap.size u37 w') (by kernel_rfl) (by kernel_rfl) (joins_any u37 5 6 0 hh1 hh1 z32 a36 a37 none n36 c36 n37 c37 0 0 ([] : List Vt) 9 rfl rfl rfl HV38.out (fun U hU => by have C := CmL.join_any U 5 6 hh1 hh1 a36 a37 n36 c36 n37 c37 ([] : List Vt) ([] : List Vt) rfl rfl (HV36.out.below hU) (HV37.out.below hU) (by have := HV36.out.len; simp at this; omega) (by have := HV37.out.len; simp at this; omega); rw [show joinO 5 hh1 ([] : List Vt) 6 hh1 ([] : List Vt) = (9, none) from by kernel_rfl] at C; exact C)) ?_
  rintro u39 hb
  simp only [Act.put, List.setIfInBounds_toArray, List.set_cons_succ, List.set_cons_zero]
  replace HW := WirS.hide (HW.out.trans (hb.mono HW.out.size))
  replace HV1 := WirS.hide (HV1.out.below hb)
  replace HV4 := WirS.hide (HV4.out.below hb)
  replace HK5 := WirS.hide (HK5.out.below hb)
  replace HO6 := WirS.hide (HO6.out.below hb)
  replace HV8 := WirS.hide (HV8.out.below hb)
  replace HK9 := WirS.hide (HK9.out.below hb)
  replace HO10 := WirS.hide (HO10.out.below hb)
  replace HV12 := WirS.hide (HV12.out.below hb)
  replace HV15 := WirS.hide (HV15.out.below hb)
  replace HV18 := WirS.hide (HV18.out.below hb)
  replace HV21 := WirS.hide (HV21.out.below hb)
  replace HV22 := WirS.hide (HV22.out.below hb)
  replace HV24 := WirS.hide (HV24.out.below hb)
  replace HV25 := WirS.hide (HV25.out.below hb)
  replace HV31 := WirS.hide (HV31.out.below hb)
  replace HV33 := WirS.hide (HV33.out.below hb)
  replace HV34 := WirS.hide (HV34.out.below hb)
  replace HV36 := WirS.hide (HV36.out.below hb)
  replace HV37 := WirS.hide (HV37.out.below hb)
  replace HV38 := WirS.hide (HV38.out.below hb)
  clear hb
  refine sV (.bool true) (u39) (by kernel_rfl) (by kernel_rfl) ?_
  simp only [Act.put, List.setIfInBounds_toArray, List.set_cons_succ, List.set_cons_zero]
  go_wp2_with fail
  go_ret
  exact ⟨rfl, HW.out⟩
end CmR
end Go.Proofs.Ythcemghamdmjmaa

