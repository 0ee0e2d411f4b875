/-
  CmA, ValA, StpA, CmSv, KitB, in one text.
-/
import Derived.Test.YtpambhlhkmkagaaGreatDoorWirS
import Derived.Deep.MidRow
import Derived.Deep.AppendSrc
import Derived.Test.YtpambhlhkmkagaaGreatDoorPvI
import Derived.Laws.StructEq
namespace Go.Proofs.YtpambhlhkmkagaaGreatDoor
namespace CmA
open Go.RowKit
open BlkM WirM WirS

/-- A vote: its place, its signature. -/
structure Vt where
  at' : Int
  sg : Int
def Vt.cells (v : Vt) : List Value := [.int .i64 v.at', .int .u64 v.sg]
structure Vt.ok (v : Vt) : Prop where
  a : -9223372036854775808 ≤ v.at' ∧ v.at' < 9223372036854775808
  s : 0 ≤ v.sg ∧ v.sg < 18446744073709551616
/-! ### append of rows -/
theorem app_row {P : Program} (w : World) (t tx ty e : TypeId) (i : TypeInfo) (z : Value) (ht : P.underlying t = some (.slice e)) (hi : P.info? e = some i) (hz : i.zero = some z) (sz : Nat) (hs1 : i.size = sz) (hb1 : i.bytes ≤ 64) (hzs : z.cells.size = sz)
    (v x : Value) (n m : Nat) (olds news : List Value) (hO : w.ownsRow 0 e sz v n olds) (hx : Src P sz tx x m news w) (hlen : n + m ≤ 1073741824) :
    ∃ v' w', (Builtin.append_ #[t, tx] ty #[v, x]).run P w = .ok v' w' ∧ w'.ownsRow 0 e sz v' (n + m) (olds ++ news) ∧ Fr (fun k => v.ownBlock = some k) w w' ∧ NewOr w v v' := by
  subst hs1
  have hol := hO.1
  have hnl := hx.newsLen
  have hfit : (n + m) * i.bytes ≤ 140737488355328 := Nat.le_trans (Nat.mul_le_mul hlen hb1) (by decide)
  have hsum : (olds ++ news).length = (n + m) * i.size := by rw [List.length_append, hol, hnl, Nat.add_mul]
  have grown : ∀ (old : Nat), old < n + m → ∀ (row : Nat → Prop),
      (w.drew.alloc (.cells ((olds ++ news).toArray ++ Builtin.zeroCells z.cells (grownCap w (n + m) old e - (n + m))) e)).ownsRow 0 e i.size
        (.slice (some ⟨w.heap.size, 0, none⟩) (n + m) (grownCap w (n + m) old e)) (n + m) (olds ++ news) ∧
      Fr row w (w.drew.alloc (.cells ((olds ++ news).toArray ++ Builtin.zeroCells z.cells (grownCap w (n + m) old e - (n + m))) e)) := by
    intro old ho row
    have hge := grownCap_ge w (n + m) old e
    have hcm : grownCap w (n + m) old e ≤ maxLen := grownCap_le_maxLen w (n + m) old e (by unfold maxLen; omega)
    refine ⟨⟨hsum, .inr ⟨w.heap.size, _, _, rfl, Nat.zero_le _, heap_alloc_new w.drew _, hge, hcm, ?_, ?_⟩⟩, (Fr.refl row w).drew.alloc _⟩
    · rw [Array.size_append, List.size_toArray, hsum, size_zeroCells, hzs, ← Nat.add_mul]
      congr 1
      omega
    · simp only [Array.toList_append]
      exact List.take_left' hsum
  obtain ⟨hl, ⟨rfl, hz0⟩ | ⟨g, cap, cur, rfl, hb, hg, h1, h2, h3, h4⟩⟩ := hO
  · subst hz0
    have he : olds = [] := List.eq_nil_of_length_eq_zero (by rw [hl]; simp)
    subst he
    by_cases hm : m = 0
    · subst hm
      have hn : news = [] := List.eq_nil_of_length_eq_zero (by rw [hnl]; simp)
      subst hn
      refine ⟨.slice none 0 0, w, ?_, World.ownsRow_nil w 0 e i.size, Fr.refl _ w, NewOr.refl w _⟩
      have hc := hx.cells
      have hL := hx.len
      rcases hx.kind with ⟨e', hk⟩ | hk <;> simp [Builtin.append_, run_underlying ht, run_underlying hk, sizeOf, typeInfo, hi, hL] <;> simp_all
    · have hr := run_append_grow_src (P := P) w t tx ty e i z ht hi hz none 0 0 [] (run_firstCells_none w.drew i.size 0 0 0) x m news hx (by omega) (by omega) (growslice_fits (by omega) (by simpa using hfit))
      have hgr := grown 0 (by omega) (fun k => (Value.slice none 0 0).ownBlock = some k)
      simp only [Nat.zero_add, List.nil_append] at hgr hr ⊢
      exact ⟨_, _, hr, hgr.1, hgr.2, fun k hk => .inr (by simp [Value.ownBlock] at hk; omega)⟩
  · by_cases hroom : n + m ≤ cap
    · have hg' : w.heap[g]? = some (.cells cur.toList.toArray e (0, 0)) := by simpa using hg
      have hcl : cur.toList.length = cap * i.size := by simp [h3]
      have hin0 : n * i.size + m * i.size ≤ cap * i.size := by rw [← Nat.add_mul]; exact Nat.mul_le_mul_right _ hroom
      have hin : ∀ j, j < news.length → (w.cell? ⟨g, 0 + n * i.size + j, none⟩).isSome = true := fun j hj => by
        rw [hnl] at hj
        simp only [World.cell?, hg, Nat.zero_add]
        simp [h3]
        omega
      have hr := run_append_room_src (P := P) w t tx ty e i ht hi g 0 n cap x m news hx hroom hin (fun j _ => by simp [World.frozen?, hg])
      simp only [Nat.zero_add] at hr
      have hA := heap_setCells_one g e news (n * i.size) cur.toList w hg' (by rw [hnl, hcl]; exact hin0)
      refine ⟨_, _, hr, ⟨hsum, .inr ⟨g, cap, _, rfl, Nat.zero_le _, hA, hroom, h2, ?_, ?_⟩⟩, ?_, NewOr.refl w _⟩
      · simp only [List.size_toArray, List.length_append, List.length_take, List.length_drop, hnl, Array.length_toList, h3]
        omega
      · have := putL_take news cur.toList (n * i.size) (by rw [hnl, hcl]; exact hin0)
        rw [Nat.add_mul, ← hnl]
        rw [this]
        congr 1
      · exact (fr_setCells g news (n * i.size) w w (Fr.refl _ w)).mono (fun k _ hk => by subst hk; rfl)
    · have holds : ∀ j u, olds[j]? = some u → w.drew.cell? ((⟨g, 0, none⟩ : Addr).add j) = some u := fun j u hj => by
        have := World.ownsRow.cells (w := w) (base := 0) (e := e) (size := i.size) (v := .slice (some ⟨g, 0, none⟩) n cap) ⟨hl, .inr ⟨g, cap, cur, rfl, hb, hg, h1, h2, h3, h4⟩⟩ (g := g) rfl j u hj
        simpa using this
      have hr := run_append_grow_src (P := P) w t tx ty e i z ht hi hz (some ⟨g, 0, none⟩) n cap olds (run_firstCells_some w.drew i.size n ⟨g, 0, none⟩ n cap olds hol holds) x m news hx (by omega) (by omega) (growslice_fits (by omega) hfit)
      have hgr := grown cap (by omega) (fun k => (Value.slice (some ⟨g, 0, none⟩) n cap).ownBlock = some k)
      exact ⟨_, _, hr, hgr.1, hgr.2, fun k hk => .inr (by simp [Value.ownBlock] at hk; omega)⟩

end CmA
end Go.Proofs.YtpambhlhkmkagaaGreatDoor

namespace Go.Proofs.YtpambhlhkmkagaaGreatDoor
namespace ValA
open Go.RowKit
open BlkM WirM WirS

/-- A validator: its key's four bytes, its power. -/
structure Vd where
  a : Int
  b : Int
  c : Int
  d : Int
  p : Int
def Vd.cells (v : Vd) : List Value := [.int .u8 v.a, .int .u8 v.b, .int .u8 v.c, .int .u8 v.d, .int .i64 v.p]
def Vd.key (v : Vd) : List Int := [v.a, v.b, v.c, v.d]
/-- Its key as one number. -/
def Vd.rk (v : Vd) : Int := ((v.a * 256 + v.b) * 256 + v.c) * 256 + v.d
structure Vd.ok (v : Vd) : Prop where
  a : 0 ≤ v.a ∧ v.a < 256
  b : 0 ≤ v.b ∧ v.b < 256
  c : 0 ≤ v.c ∧ v.c < 256
  d : 0 ≤ v.d ∧ v.d < 256
  p : -9223372036854775808 ≤ v.p ∧ v.p < 9223372036854775808
theorem Vd.key_eq {x y : Vd} (hx : x.ok) (hy : y.ok) (h : x.rk = y.rk) : x.a = y.a ∧ x.b = y.b ∧ x.c = y.c ∧ x.d = y.d := by
  obtain ⟨a, b, c, d, _⟩ := hx
  obtain ⟨a', b', c', d', _⟩ := hy
  unfold Vd.rk at h
  omega
def cellsL (vs : List Vd) : List Value := vs.flatMap Vd.cells
theorem cells_len (v : Vd) : v.cells.length = 5 := rfl
theorem cellsL_len : ∀ vs : List Vd, (cellsL vs).length = vs.length * 5
  | [] => rfl
  | x :: l => by
    have : cellsL (x :: l) = x.cells ++ cellsL l := by simp [cellsL]
    rw [this, List.length_append, cellsL_len l, cells_len, List.length_cons]
    omega
theorem cellsL_app (a b : List Vd) : cellsL (a ++ b) = cellsL a ++ cellsL b := by simp [cellsL]
theorem cellsL_get : ∀ (vs : List Vd) (i : Nat) (x : Vd), vs[i]? = some x → ∀ j v, x.cells[j]? = some v → (cellsL vs)[i * 5 + j]? = some v
  | [], i, x, h => by simp at h
  | y :: l, 0, x, h => fun j v hj => by
    have e : cellsL (y :: l) = y.cells ++ cellsL l := by simp [cellsL]
    simp at h
    subst h
    have hj5 : j < y.cells.length := (List.getElem?_eq_some_iff.1 hj).1
    rw [e, Nat.zero_mul, Nat.zero_add, List.getElem?_append_left hj5]
    exact hj
  | y :: l, i + 1, x, h => fun j v hj => by
    have e : cellsL (y :: l) = y.cells ++ cellsL l := by simp [cellsL]
    have h' : l[i]? = some x := by simpa using h
    rw [e, List.getElem?_append_right (by rw [cells_len]; omega), cells_len, show (i + 1) * 5 + j - 5 = i * 5 + j by omega]
    exact cellsL_get l i x h' j v hj
theorem one_cells (vs : List Vd) : ∀ u ∈ cellsL vs, u.oneCell' = true := by
  intro u hu
  simp only [cellsL, List.mem_flatMap] at hu
  obtain ⟨x, _, hx⟩ := hu
  simp [Vd.cells] at hx
  rcases hx with rfl | rfl | rfl | rfl | rfl <;> rfl

/-- A list of validators, as it comes in. -/
structure VIn (w : World) (a : Option Addr) (n c : Nat) (vs : List Vd) : Prop where
  len : vs.length = n
  cap : n ≤ c
  small : c ≤ 9223372036854775807
  row : 0 < n → ∃ B o, a = some ⟨B, o, none⟩ ∧ B < w.heap.size ∧ ∀ (i : Nat) (x : Vd), vs[i]? = some x → w.rangeAt B (o + i * 5) x.cells
  ok : ∀ x ∈ vs, x.ok
theorem VIn.nil (w : World) (a : Option Addr) (c : Nat) (hc : c ≤ 9223372036854775807) : VIn w a 0 c [] := ⟨rfl, Nat.zero_le _, hc, fun h => absurd h (by decide), fun x h => by cases h⟩
/-- Where its block is not among those that may change, it stands. -/
theorem VIn.fr {X : Nat → Prop} {w w' : World} {a : Option Addr} {n c : Nat} {vs : List Vd} (h : VIn w a n c vs) (hf : Fr X w w') (ho : Off X (.slice a n c)) : VIn w' a n c vs := by
  refine ⟨h.len, h.cap, h.small, fun hp => ?_, h.ok⟩
  obtain ⟨B, o, e, hB, hr⟩ := h.row hp
  have hX : ¬ X B := ho B (by subst e; rfl)
  exact ⟨B, o, e, Nat.lt_of_lt_of_le hB hf.size, fun i x hx j v hj => (hf.cell (p := ⟨B, _, none⟩) hB hX).trans (hr i x hx j v hj)⟩
theorem VIn.below {w w' : World} {a : Option Addr} {n c : Nat} {vs : List Vd} (h : VIn w a n c vs) (hb : Below w.heap.size w w') : VIn w' a n c vs := h.fr (X := fun _ => False) (Fr.of_below hb) (fun _ _ h => h)
theorem VIn.cell {w : World} {a : Option Addr} {n c : Nat} {vs : List Vd} (h : VIn w a n c vs) {i : Nat} (hi : i < n) : ∃ (x : Vd) (B o : Nat), vs[i]? = some x ∧ x ∈ vs ∧ a = some ⟨B, o, none⟩ ∧ B < w.heap.size ∧ w.rangeAt B (o + i * 5) x.cells := by
  obtain ⟨B, o, e, hB, hr⟩ := h.row (by omega)
  have hx : vs[i]? = some (vs[i]'(by rw [h.len]; exact hi)) := List.getElem?_eq_getElem _
  exact ⟨_, B, o, hx, List.getElem_mem _, e, hB, hr i _ hx⟩
/-- Without its first one. -/
theorem VIn.tail {w : World} {B o n c : Nat} {x : Vd} {vs : List Vd} (h : VIn w (some ⟨B, o, none⟩) (n + 1) c (x :: vs)) : VIn w (some ⟨B, o + 5, none⟩) n (c - 1) vs := by
  have h1 := h.len
  have h2 := h.cap
  have h3 := h.small
  refine ⟨by simpa using h1, by omega, by omega, fun hp => ?_, fun y hy => h.ok y (by simp [hy])⟩
  obtain ⟨B', o', e, hB, hr⟩ := h.row (by omega)
  cases e
  exact ⟨B, o + 5, rfl, hB, fun i y hy => by
    have := hr (i + 1) y (by simpa using hy)
    rwa [show o + (i + 1) * 5 = o + 5 + i * 5 by omega] at this⟩
/-- As a source of append. -/
theorem VIn.src {w : World} {a : Option Addr} {n c : Nat} {vs : List Vd} {tx e' : TypeId} (h : VIn w a n c vs) (hk : Tryz.prog.underlying tx = some (.slice e')) : Src Tryz.prog 5 tx (.slice a n c) vs.length (cellsL vs) w := by
  have hl := h.len
  by_cases h0 : n = 0
  · subst h0
    obtain rfl : vs = [] := List.eq_nil_of_length_eq_zero hl
    cases a with
    | none => exact Src.ofNil w hk c
    | some a => exact Src.ofSlice w hk a 0 c [] rfl (fun j u hj => by simp at hj) (fun _ h => by cases h)
  · obtain ⟨B, o, rfl, hB, hr⟩ := h.row (by omega)
    have := Src.ofSlice (P := Tryz.prog) (size := 5) w hk ⟨B, o, none⟩ n c (cellsL vs) (by rw [cellsL_len, hl]) (fun j u hj => by
      have hj5 : j < vs.length * 5 := by
        have := (List.getElem?_eq_some_iff.1 hj).1
        rwa [cellsL_len] at this
      have hx : vs[j / 5]? = some (vs[j / 5]'(by omega)) := List.getElem?_eq_getElem _
      have hc : (vs[j / 5]'(by omega)).cells[j % 5]? = some ((vs[j / 5]'(by omega)).cells[j % 5]'(by rw [cells_len]; omega)) := List.getElem?_eq_getElem _
      have h1 := cellsL_get vs (j / 5) _ hx (j % 5) _ hc
      have h2 := hr (j / 5) _ hx (j % 5) _ hc
      rw [show j / 5 * 5 + j % 5 = j by omega, hj] at h1
      rw [Addr.add_mid, show o + j = o + j / 5 * 5 + j % 5 by omega, h2, h1]) (one_cells vs)
    rw [hl]
    exact this

/-! ### append of rows -/
theorem app_row {P : Program} (w : World) (t tx ty e : TypeId) (i : TypeInfo) (z : Value) (ht : P.underlying t = some (.slice e)) (hi : P.info? e = some i) (hz : i.zero = some z) (sz : Nat) (hs1 : i.size = sz) (hb1 : i.bytes ≤ 64) (hzs : z.cells.size = sz)
    (v x : Value) (n m : Nat) (olds news : List Value) (hO : w.ownsRow 0 e sz v n olds) (hx : Src P sz tx x m news w) (hlen : n + m ≤ 1073741824) :
    ∃ v' w', (Builtin.append_ #[t, tx] ty #[v, x]).run P w = .ok v' w' ∧ w'.ownsRow 0 e sz v' (n + m) (olds ++ news) ∧ Fr (fun k => v.ownBlock = some k) w w' ∧ NewOr w v v' := by
  subst hs1
  have hol := hO.1
  have hnl := hx.newsLen
  have hfit : (n + m) * i.bytes ≤ 140737488355328 := Nat.le_trans (Nat.mul_le_mul hlen hb1) (by decide)
  have hsum : (olds ++ news).length = (n + m) * i.size := by rw [List.length_append, hol, hnl, Nat.add_mul]
  have grown : ∀ (old : Nat), old < n + m → ∀ (row : Nat → Prop),
      (w.drew.alloc (.cells ((olds ++ news).toArray ++ Builtin.zeroCells z.cells (grownCap w (n + m) old e - (n + m))) e)).ownsRow 0 e i.size
        (.slice (some ⟨w.heap.size, 0, none⟩) (n + m) (grownCap w (n + m) old e)) (n + m) (olds ++ news) ∧
      Fr row w (w.drew.alloc (.cells ((olds ++ news).toArray ++ Builtin.zeroCells z.cells (grownCap w (n + m) old e - (n + m))) e)) := by
    intro old ho row
    have hge := grownCap_ge w (n + m) old e
    have hcm : grownCap w (n + m) old e ≤ maxLen := grownCap_le_maxLen w (n + m) old e (by unfold maxLen; omega)
    refine ⟨⟨hsum, .inr ⟨w.heap.size, _, _, rfl, Nat.zero_le _, heap_alloc_new w.drew _, hge, hcm, ?_, ?_⟩⟩, (Fr.refl row w).drew.alloc _⟩
    · rw [Array.size_append, List.size_toArray, hsum, size_zeroCells, hzs, ← Nat.add_mul]
      congr 1
      omega
    · simp only [Array.toList_append]
      exact List.take_left' hsum
  obtain ⟨hl, ⟨rfl, hz0⟩ | ⟨g, cap, cur, rfl, hb, hg, h1, h2, h3, h4⟩⟩ := hO
  · subst hz0
    have he : olds = [] := List.eq_nil_of_length_eq_zero (by rw [hl]; simp)
    subst he
    by_cases hm : m = 0
    · subst hm
      have hn : news = [] := List.eq_nil_of_length_eq_zero (by rw [hnl]; simp)
      subst hn
      refine ⟨.slice none 0 0, w, ?_, World.ownsRow_nil w 0 e i.size, Fr.refl _ w, NewOr.refl w _⟩
      have hc := hx.cells
      have hL := hx.len
      rcases hx.kind with ⟨e', hk⟩ | hk <;> simp [Builtin.append_, run_underlying ht, run_underlying hk, sizeOf, typeInfo, hi, hL] <;> simp_all
    · have hr := run_append_grow_src (P := P) w t tx ty e i z ht hi hz none 0 0 [] (run_firstCells_none w.drew i.size 0 0 0) x m news hx (by omega) (by omega) (growslice_fits (by omega) (by simpa using hfit))
      have hgr := grown 0 (by omega) (fun k => (Value.slice none 0 0).ownBlock = some k)
      simp only [Nat.zero_add, List.nil_append] at hgr hr ⊢
      exact ⟨_, _, hr, hgr.1, hgr.2, fun k hk => .inr (by simp [Value.ownBlock] at hk; omega)⟩
  · by_cases hroom : n + m ≤ cap
    · have hg' : w.heap[g]? = some (.cells cur.toList.toArray e (0, 0)) := by simpa using hg
      have hcl : cur.toList.length = cap * i.size := by simp [h3]
      have hin0 : n * i.size + m * i.size ≤ cap * i.size := by rw [← Nat.add_mul]; exact Nat.mul_le_mul_right _ hroom
      have hin : ∀ j, j < news.length → (w.cell? ⟨g, 0 + n * i.size + j, none⟩).isSome = true := fun j hj => by
        rw [hnl] at hj
        simp only [World.cell?, hg, Nat.zero_add]
        simp [h3]
        omega
      have hr := run_append_room_src (P := P) w t tx ty e i ht hi g 0 n cap x m news hx hroom hin (fun j _ => by simp [World.frozen?, hg])
      simp only [Nat.zero_add] at hr
      have hA := heap_setCells_one g e news (n * i.size) cur.toList w hg' (by rw [hnl, hcl]; exact hin0)
      refine ⟨_, _, hr, ⟨hsum, .inr ⟨g, cap, _, rfl, Nat.zero_le _, hA, hroom, h2, ?_, ?_⟩⟩, ?_, NewOr.refl w _⟩
      · simp only [List.size_toArray, List.length_append, List.length_take, List.length_drop, hnl, Array.length_toList, h3]
        omega
      · have := putL_take news cur.toList (n * i.size) (by rw [hnl, hcl]; exact hin0)
        rw [Nat.add_mul, ← hnl]
        rw [this]
        congr 1
      · exact (fr_setCells g news (n * i.size) w w (Fr.refl _ w)).mono (fun k _ hk => by subst hk; rfl)
    · have holds : ∀ j u, olds[j]? = some u → w.drew.cell? ((⟨g, 0, none⟩ : Addr).add j) = some u := fun j u hj => by
        have := World.ownsRow.cells (w := w) (base := 0) (e := e) (size := i.size) (v := .slice (some ⟨g, 0, none⟩) n cap) ⟨hl, .inr ⟨g, cap, cur, rfl, hb, hg, h1, h2, h3, h4⟩⟩ (g := g) rfl j u hj
        simpa using this
      have hr := run_append_grow_src (P := P) w t tx ty e i z ht hi hz (some ⟨g, 0, none⟩) n cap olds (run_firstCells_some w.drew i.size n ⟨g, 0, none⟩ n cap olds hol holds) x m news hx (by omega) (by omega) (growslice_fits (by omega) hfit)
      have hgr := grown cap (by omega) (fun k => (Value.slice (some ⟨g, 0, none⟩) n cap).ownBlock = some k)
      exact ⟨_, _, hr, hgr.1, hgr.2, fun k hk => .inr (by simp [Value.ownBlock] at hk; omega)⟩

/-- A list of validators in memory of its own. -/
structure OwnV (w : World) (v : Value) (vs : List Vd) : Prop where
  own : w.ownsRow 0 55 5 v vs.length (cellsL vs)
  ok : ∀ x ∈ vs, x.ok
theorem OwnV.nil (w : World) : OwnV w (.slice none 0 0) [] := ⟨World.ownsRow_nil w 0 _ 5, fun _ h => by cases h⟩
theorem OwnV.lt {w : World} {v : Value} {vs : List Vd} (h : OwnV w v vs) : ∀ k, v.ownBlock = some k → k < w.heap.size := by
  obtain ⟨⟨_, ⟨rfl, _⟩ | ⟨g, cap, cur, rfl, _, hg, _⟩⟩, _⟩ := h
  · intro k hk
    simp [Value.ownBlock] at hk
  · intro k hk
    simp [Value.ownBlock] at hk
    subst hk
    exact (Array.getElem?_eq_some_iff.1 hg).1
theorem OwnV.fr {X : Nat → Prop} {w w' : World} {v : Value} {vs : List Vd} (h : OwnV w v vs) (hf : Fr X w w') (ho : Off X v) : OwnV w' v vs := by
  have hlt := h.lt
  obtain ⟨⟨hl, ⟨rfl, h0⟩ | ⟨g, cap, cur, rfl, hb, hg, hr⟩⟩, hok⟩ := h
  · exact ⟨⟨hl, .inl ⟨rfl, h0⟩⟩, hok⟩
  · exact ⟨⟨hl, .inr ⟨g, cap, cur, rfl, hb, (hf.block g (hlt g rfl) (ho g rfl)).trans hg, hr⟩⟩, hok⟩
theorem OwnV.below {w w' : World} {v : Value} {vs : List Vd} (h : OwnV w v vs) (hb : Below w.heap.size w w') : OwnV w' v vs := h.fr (X := fun _ => False) (Fr.of_below hb) (fun _ _ h => h)
theorem OwnV.len_of {w : World} {v : Value} {vs : List Vd} (h : OwnV w v vs) : ∃ a cap, v = .slice a vs.length cap := by
  obtain ⟨⟨_, ⟨rfl, h0⟩ | ⟨g, cap, cur, rfl, _⟩⟩, _⟩ := h
  · exact ⟨none, 0, by rw [h0]⟩
  · exact ⟨_, _, rfl⟩
theorem OwnV.vin {w : World} {a : Option Addr} {n c : Nat} {vs : List Vd} (h : OwnV w (.slice a n c) vs) : VIn w a n c vs := by
  have hlt := h.lt
  have hc := fun g => World.ownsRow.cells (w := w) (base := 0) (e := 55) (size := 5) (v := .slice a n c) (n := vs.length) (xs := cellsL vs) h.own (g := g)
  obtain ⟨⟨hl, ⟨e, h0⟩ | ⟨g, cap, cur, e, hb, hg, h1, h2, h3, h4⟩⟩, hok⟩ := h
  · cases e
    obtain rfl : vs = [] := List.eq_nil_of_length_eq_zero h0
    exact VIn.nil w none 0 (by decide)
  · cases e
    refine ⟨rfl, h1, by unfold maxLen at h2; omega, fun hp => ⟨g, 0, rfl, hlt g rfl, fun i x hx j v hj => ?_⟩, hok⟩
    have h5 := cellsL_get vs i x hx j v hj
    have h6 := hc g rfl _ _ h5
    rw [Addr.add_mid] at h6
    rw [show 0 + i * 5 + j = 0 + (i * 5 + j) by omega]
    exact h6
/-- append of validators onto memory of its own. -/
theorem app_vals (w : World) (tx ty : TypeId) (v x : Value) (olds news : List Vd) (hO : OwnV w v olds) (hx : Src Tryz.prog 5 tx x news.length (cellsL news) w) (hok : ∀ y ∈ news, y.ok) (hlen : olds.length + news.length ≤ 1073741824) :
    ∃ v' w', (Builtin.append_ #[22, tx] ty #[v, x]).run Tryz.prog w = .ok v' w' ∧ OwnV w' v' (olds ++ news) ∧ Fr (fun k => v.ownBlock = some k) w w' ∧ NewOr w v v' := by
  obtain ⟨i0, hi, hz0, hz1, hz2⟩ := info_parts (show (Tryz.prog.info? 55).map (fun i => (i.zero, i.size, i.bytes)) = some (some (.agg #[.int .u8 0, .int .u8 0, .int .u8 0, .int .u8 0, .int .i64 0]), 5, 16) by kernel_rfl)
  obtain ⟨v', w', h1, h2, h3, h4⟩ := app_row (P := Tryz.prog) w 22 tx ty 55 i0 _ Tryz.underlying22 hi hz0 5 hz1 (by omega) rfl v x olds.length news.length (cellsL olds) (cellsL news) hO.own hx hlen
  refine ⟨v', w', h1, ⟨?_, fun y hy => ?_⟩, h3, h4⟩
  · rw [List.length_append, cellsL_app]
    exact h2
  · rcases List.mem_append.1 hy with hy | hy
    · exact hO.ok y hy
    · exact hok y hy
/-- One validator in a variable of its own, as a source. -/
theorem src_one {w : World} {tx e' : TypeId} (hk : Tryz.prog.underlying tx = some (.slice e')) (g o c : Nat) (x : Vd) (h : w.rangeAt g o x.cells) : Src Tryz.prog 5 tx (.slice (some ⟨g, o, none⟩) 1 c) 1 (cellsL [x]) w := by
  have e : cellsL [x] = x.cells := by simp [cellsL]
  exact Src.ofSlice w hk ⟨g, o, none⟩ 1 c (cellsL [x]) (by rw [cellsL_len]; rfl) (fun j u hj => by rw [Addr.add_mid]; rw [e] at hj; exact h j u hj) (one_cells [x])
end ValA
end Go.Proofs.YtpambhlhkmkagaaGreatDoor

namespace Go.Proofs.YtpambhlhkmkagaaGreatDoor
namespace ValF
open Go.RowKit
open BlkM WirM WirS

/-- append as a step of a region that draws its order: by what it yields here. -/
theorem step_app {P : Program} {ops : Array Oper} {o : Oper} {a : Act} {w : World} {K : Act → World → Prop} {Q : Exit → Act → World → Prop} {E : Prop} (hgd : o.guard = none) (t tx : TypeId) (x y : Operand) (ho : o.op = .call { callee := .builtin .append, args := #[x, y], argTypes := #[t, tx] }) (v s : Value) (hx : a.eval x = v) (hy : a.eval y = s)
    (v' : Value) (w' : World) (hr : (Builtin.append_ #[t, tx] o.type #[v, s]).run P w = .ok v' w') (h : K (a.put o.dst v') w') :
    if Region.wanted o (yielded ops a.tmps) = true then Oper.wp P o a w K Q else E := by
  have hw : Region.wanted o (yielded ops a.tmps) = true := by simp [Region.wanted, hgd]
  rw [if_pos hw]
  unfold Oper.wp execOp
  simp only [ho, resolve, invoke, builtin, Sem.run_bind, Sem.run_pure, Result.andThen_ok, List.map_toArray, List.map_cons, List.map_nil, hx, hy, hr]
  exact h
end ValF
end Go.Proofs.YtpambhlhkmkagaaGreatDoor

namespace Go.Proofs.YtpambhlhkmkagaaGreatDoor
namespace CmSv
open Go.RowKit
open BlkM WirM WirS WirA WirB ValA
open WirBE (eqItems4 ext4)

theorem eqKd (l m : List Int) (hl : l.length = 4) (hm : m.length = 4) (d : Nat) (W : World) : (Op.equalIn (d + 1 + 1) 24 (.agg (b8 l).toArray) (.agg (b8 m).toArray)).run Tryz.prog W = .ok (decide (l = m)) W := by
  have hi : (Tryz.prog.info? 5).isSome = true := by kernel_rfl
  obtain ⟨i, hi⟩ := Option.isSome_iff_exists.1 hi
  have hc : Tryz.prog.cellsOf 5 = 1 := by kernel_rfl
  rw [run_equalIn_array W (d + 1) (b8 l).toArray (b8 m).toArray Tryz.underlying24 hi, hc, eqItems4 l m hl hm d W (List.range 4) (fun i hi => List.mem_range.1 hi)]
  simp only [ext4 hl hm]
def Vd.same (x y : Vd) : Bool := decide (x.key = y.key) && x.p == y.p
theorem Vd.same_iff (x y : Vd) : Vd.same x y = true ↔ x = y := by
  cases x
  cases y
  simp [Vd.same, Vd.key]
  omega
theorem part_key (x : Vd) (W : World) : (part 24 #[.int .u8 x.a, .int .u8 x.b, .int .u8 x.c, .int .u8 x.d, .int .i64 x.p] 0).run Tryz.prog W = .ok (.agg (b8 x.key).toArray) W := by kernel_rfl
theorem part_pow (x : Vd) (W : World) : (part 3 #[.int .u8 x.a, .int .u8 x.b, .int .u8 x.c, .int .u8 x.d, .int .i64 x.p] 4).run Tryz.prog W = .ok (.int .i64 x.p) W := by kernel_rfl
theorem eq_vals (x y : Vd) (W : World) : (binOp .eql 55 (.agg #[.int .u8 x.a, .int .u8 x.b, .int .u8 x.c, .int .u8 x.d, .int .i64 x.p]) (.agg #[.int .u8 y.a, .int .u8 y.b, .int .u8 y.c, .int .u8 y.d, .int .i64 y.p])).run Tryz.prog W = .ok (.bool (Vd.same x y)) W := by
  have hf : (Tryz.prog.fieldsOf 55).toList.map (fun f => (f.name, f.type, f.offset)) = [("Key", 24, 0), ("Power", 3, 4)] := by kernel_rfl
  have h : (Op.equalIn (9997 + 1 + 1 + 1) 55 (.agg #[.int .u8 x.a, .int .u8 x.b, .int .u8 x.c, .int .u8 x.d, .int .i64 x.p]) (.agg #[.int .u8 y.a, .int .u8 y.b, .int .u8 y.c, .int .u8 y.d, .int .i64 y.p])).run Tryz.prog W = .ok (Vd.same x y) W := by
    rw [run_equalIn_struct W (9997 + 1 + 1) 55 _ _ (by kernel_rfl) (by kernel_rfl)]
    generalize (Tryz.prog.fieldsOf 55).toList = L at hf ⊢
    obtain _ | ⟨f1, _ | ⟨f2, _ | ⟨f3, L⟩⟩⟩ := L
    · simp at hf
    · simp at hf
    · simp only [List.map_cons, List.map_nil, List.cons.injEq, Prod.mk.injEq, and_true] at hf
      obtain ⟨⟨n1, t1, o1⟩, n2, t2, o2⟩ := hf
      have e2 : (Op.equalIn (9997 + 1 + 1) 3 (.int .i64 x.p) (.int .i64 y.p)).run Tryz.prog W = .ok (x.p == y.p) W := run_equalIn_int W (9997 + 1) 3 .i64 .i64 x.p y.p Tryz.underlying3
      simp only [Op.eqFields, n1, t1, o1, n2, t2, o2, show (("Key" : String) ≠ "_") = True by simp, show (("Power" : String) ≠ "_") = True by simp, if_true, Sem.run_bind, part_key, part_pow, eqKd _ _ (show x.key.length = 4 from rfl) (show y.key.length = 4 from rfl), e2, Result.andThen_ok, Sem.run_ite, Sem.run_pure]
      unfold Vd.same
      by_cases hk : x.key = y.key <;> by_cases hp : x.p = y.p <;> simp [hk, hp]
    · simp at hf
  simp only [binOp]
  simp [Op.equal, Op.maxDepth, h]
theorem eq_val (x : Vd) (W : World) : (binOp .eql 55 (.agg #[.int .u8 x.a, .int .u8 x.b, .int .u8 x.c, .int .u8 x.d, .int .i64 x.p]) (.agg #[.int .u8 x.a, .int .u8 x.b, .int .u8 x.c, .int .u8 x.d, .int .i64 x.p])).run Tryz.prog W = .ok (.bool true) W := by
  rw [eq_vals, (Vd.same_iff x x).2 rfl]
def MidS (w : World) (n : Nat) (s i : Value) (U : World) : Prop := ∃ k : Nat, k ≤ n ∧ s = .bool true ∧ i = .int .i64 (k : Int) ∧ Below w.heap.size w U
set_option maxRecDepth 10000 in
set_option maxHeartbeats 2000000 in
theorem same_any (w : World) (a b : Option Addr) (n c d : Nat) (vs : List Vd) (h : VIn w a n c vs) (h' : VIn w b n d vs) :
    Calls Tryz.prog 18 #[.slice a n c, .slice b n d] w fun e w' => e = .returned (.bool true) ∧ Below w.heap.size w w' := by
  have hns : n ≤ 9223372036854775807 := Nat.le_trans h.cap h.small
  have H := WirS.hide h
  have H' := WirS.hide h'
  clear h h'
  go_enter Tryz.func18, Tryz.ntmps18
  go_wp2_with fail
  go_loopw [5, 6] (fun s i wr => MidS w n s i wr) (fun _ i _ => n - (intOf i).toNat)
  case atStart => exact ⟨0, Nat.zero_le _, by simp, rfl, Below.refl _ _⟩
  case round =>
    obtain ⟨k, hk, rfl, rfl, hB⟩ := hrel
    by_cases hlt : k < n
    · obtain ⟨x, B, o, hx, hmem, rfl, hBl, hr⟩ := (H.out.below hB).cell hlt
      obtain ⟨y, B', o', hy, hmem', rfl, hBl', hr'⟩ := (H'.out.below hB).cell hlt
      obtain rfl : x = y := by rw [hx] at hy; exact Option.some.inj hy
      have r0 : wr.cell? ⟨B, o + k * 5, none⟩ = some (.int .u8 x.a) := hr 0 _ rfl
      have r1 : wr.cell? ⟨B, o + k * 5 + 1, none⟩ = some (.int .u8 x.b) := hr 1 _ rfl
      have r2 : wr.cell? ⟨B, o + k * 5 + 2, none⟩ = some (.int .u8 x.c) := hr 2 _ rfl
      have r3 : wr.cell? ⟨B, o + k * 5 + 3, none⟩ = some (.int .u8 x.d) := hr 3 _ rfl
      have r4 : wr.cell? ⟨B, o + k * 5 + 4, none⟩ = some (.int .i64 x.p) := hr 4 _ rfl
      have s0 : wr.cell? ⟨B', o' + k * 5, none⟩ = some (.int .u8 x.a) := hr' 0 _ rfl
      have s1 : wr.cell? ⟨B', o' + k * 5 + 1, none⟩ = some (.int .u8 x.b) := hr' 1 _ rfl
      have s2 : wr.cell? ⟨B', o' + k * 5 + 2, none⟩ = some (.int .u8 x.c) := hr' 2 _ rfl
      have s3 : wr.cell? ⟨B', o' + k * 5 + 3, none⟩ = some (.int .u8 x.d) := hr' 3 _ rfl
      have s4 : wr.cell? ⟨B', o' + k * 5 + 4, none⟩ = some (.int .i64 x.p) := hr' 4 _ rfl
      have hkl : (k : Int) < (n : Int) := by omega
      have HB := WirS.hide hB
      have hq := eq_val x
      clear hr hx hB hmem hr' hmem' hy
      go_upto_region 5 with fail
      go_quiet (fail)
      go_wp2_with fail
      go_roundw
      case rel => exact ⟨k + 1, by omega, rfl, by go_num, by first | exact below_drewN (below_drewN HB.out _) _ | exact below_drewN HB.out _⟩
      case measure => simp [intOf]; omega
    · have HB := WirS.hide hB
      clear hB
      go_wp2_with fail
      go_ret
      exact ⟨rfl, HB.out⟩
def NewB (w : World) (v : Value) : Prop := ∀ k, v.ownBlock = some k → w.heap.size ≤ k
theorem ownv_new (w : World) : OwnV (w.alloc (.cells #[] 55)) (.slice (some ⟨w.heap.size, 0, none⟩) 0 0) [] := ⟨World.ownsRow_made w #[] 0 (Nat.zero_le _) (Nat.zero_le _) (by simp), fun x hx => by cases hx⟩
theorem cp_row (w : World) (a : Option Addr) (n c : Nat) (vs : List Vd) (h : VIn w a n c vs) (hn : n ≤ 1000) :
    ∃ v1 u1, (Builtin.append_ #[22, 22] 22 #[.slice (some ⟨w.heap.size, 0, none⟩) 0 0, .slice a n c]).run Tryz.prog (w.alloc (.cells #[] 55)) = .ok v1 u1 ∧ OwnV u1 v1 vs ∧ NewB w v1 ∧ Below w.heap.size w u1 := by
  have hb : Below w.heap.size w (w.alloc (.cells #[] 55)) := Below.alloc (Below.refl _ _) (Nat.le_refl _) _
  have hl := h.len
  obtain ⟨v', u', hrun, ho, hf, hn'⟩ := app_vals (w.alloc (.cells #[] 55)) 22 22 (.slice (some ⟨w.heap.size, 0, none⟩) 0 0) (.slice a n c) [] vs (ownv_new w) ((h.below hb).src Tryz.underlying22) h.ok (by simp; omega)
  refine ⟨v', u', hrun, ho, fun q hq => ?_, hb.trans (hf.below (by simp) (fun q hq hx => by simp [Value.ownBlock] at hx; omega))⟩
  rcases hn' q hq with h3 | h3
  · simp [Value.ownBlock] at h3
    omega
  · simp at h3
    omega
theorem copyv_any (w : World) (a : Option Addr) (n c : Nat) (vs : List Vd) (h : VIn w a n c vs) (hn : n ≤ 1000) :
    Calls Tryz.prog 5 #[.slice a n c] w fun e w' => ∃ va vc, e = .returned (.slice va n vc) ∧ OwnV w' (.slice va n vc) vs ∧ NewB w (.slice va n vc) ∧ Below w.heap.size w w' := by
  have hl := h.len
  obtain ⟨v1, u1, hrun, ho, hnb, hb⟩ := cp_row w a n c vs h hn
  obtain ⟨va, vc, rfl⟩ := ho.len_of
  rw [hl] at ho hnb hrun
  have HO := WirS.hide ho
  have HN := WirS.hide hnb
  have HB := WirS.hide hb
  clear h ho hnb hb hl
  go_enter Tryz.func5, Tryz.ntmps5
  go_upto_region 1 with fail
  refine wp_region_lit ?_
  refine sV (.slice (some ⟨w.heap.size, 0, none⟩) 0 0) (w.alloc (.cells #[] 55)) (by kernel_rfl) (by kernel_rfl) ?_
  simp only [Act.put, List.setIfInBounds_toArray, List.set_cons_succ, List.set_cons_zero]
  refine sV (.slice a n c) (w.alloc (.cells #[] 55)) (by kernel_rfl) (by kernel_rfl) ?_
  simp only [Act.put, List.setIfInBounds_toArray, List.set_cons_succ, List.set_cons_zero]
  refine sA (by kernel_rfl) 22 22 _ _ (by rfl) (.slice (some ⟨w.heap.size, 0, none⟩) 0 0) (.slice a n c) (by kernel_rfl) (by kernel_rfl) (.slice va n vc) (u1) hrun ?_
  simp only [Act.put, List.setIfInBounds_toArray, List.set_cons_succ, List.set_cons_zero]
  go_wp2_with fail
  go_ret
  exact ⟨_, _, rfl, HO.out, HN.out, HB.out⟩
end CmSv
end Go.Proofs.YtpambhlhkmkagaaGreatDoor

namespace Go.Proofs.YtpambhlhkmkagaaGreatDoor
namespace KitB
open Go.RowKit
open BlkM WirM WirS

theorem Own.set {w : World} {T : TypeId} {g n cap : Nat} {zs : List Int} (h : Own w T (.slice (some ⟨g, 0, none⟩) n cap) zs) (k : Nat) (hk : k < n) (x : Int) : Own (w.setCell ⟨g, k, none⟩ (.int .u8 x)) T (.slice (some ⟨g, 0, none⟩) n cap) (zs.set k x) := by
  obtain ⟨hl, ⟨h0, _⟩ | ⟨g', cap', cur, e, hb, hg, h1, h2, h3, h4⟩⟩ := h
  · cases h0
  · obtain ⟨rfl, rfl, rfl⟩ : g = g' ∧ n = zs.length ∧ cap = cap' := by cases e; exact ⟨rfl, rfl, rfl⟩
    refine ⟨by rw [b8_len]; omega, .inr ⟨g, cap, cur.setIfInBounds k (.int .u8 x), by rw [List.length_set], hb, ?_, by rw [List.length_set]; exact h1, h2, by rw [Array.size_setIfInBounds]; exact h3, ?_⟩⟩
    · rw [heap_setCell_same w g k _ T _ hg]
    · rw [List.length_set, ← b8_set, ← h4]
      simp [List.take_set]
theorem Own.cell {w : World} {T : TypeId} {g n cap : Nat} {zs : List Int} (h : Own w T (.slice (some ⟨g, 0, none⟩) n cap) zs) (k : Nat) (hk : k < n) : w.cell? ⟨g, k, none⟩ = some (.int .u8 (zs.getD k 0)) ∧ w.frozen? ⟨g, k, none⟩ = false := by
  obtain ⟨hl, ⟨h0, _⟩ | ⟨g', cap', cur, e, hb, hg, h1, h2, h3, h4⟩⟩ := h
  · cases h0
  · obtain ⟨rfl, rfl, rfl⟩ : g = g' ∧ n = zs.length ∧ cap = cap' := by cases e; exact ⟨rfl, rfl, rfl⟩
    have h5 := b8_get zs k hk
    rw [← h4, List.getElem?_take, if_pos (by omega)] at h5
    refine ⟨?_, by simp [World.frozen?, hg]⟩
    simp only [World.cell?, hg]
    simpa using h5
def MidO (w : World) (T : TypeId) (v : Value) (n : Nat) (i : Value) (U : World) : Prop := ∃ (k : Nat) (ys : List Int), k ≤ n ∧ i = .int .i64 (k : Int) ∧ ys.length = n ∧ Own U T v ys ∧ Fr (fun k => v.ownBlock = some k) w U
set_option maxHeartbeats 1000000 in
/-- Bytes are written over: only they. -/
theorem over_any (w : World) (a : Option Addr) (n c : Nat) (zs : List Int) (h : Own w 5 (.slice a n c) zs) (hn : n ≤ 1099511627776) :
    Calls Tryz.prog 17 #[.slice a n c] w fun e w' => e = .returned (.tuple #[]) ∧ (∃ ys, ys.length = n ∧ Own w' 5 (.slice a n c) ys) ∧ Fr (fun k => (Value.slice a n c).ownBlock = some k) w w' := by
  have hl : zs.length = n := by obtain ⟨_, _, e, _⟩ := h.bin; cases e; rfl
  by_cases h0 : n = 0
  · subst h0
    have HH := WirS.hide h
    have HL := WirS.hide hl
    clear h hl
    go_enter Tryz.func17, Tryz.ntmps17
    go_wp2_with fail
    refine wp_loop_rounds 1 ?_
    rw [rounds_succ]
    go_wp2_with fail
    first | go_end0 | refine bodyPost_ret (results_none rfl _ _ _) rfl ?_
    exact ⟨rfl, ⟨zs, HL.out, HH.out⟩, Fr.refl _ _⟩
  · obtain ⟨g, rfl⟩ : ∃ g, a = some ⟨g, 0, none⟩ := by
      obtain ⟨_, ⟨e, _⟩ | ⟨g, _, _, e, _⟩⟩ := h
      · cases e; exact absurd rfl h0
      · cases e; exact ⟨g, rfl⟩
    have HH := WirS.hide h
    have HL := WirS.hide hl
    clear h hl
    go_enter Tryz.func17, Tryz.ntmps17
    go_wp2_with fail
    go_loopw [2] (fun i wr => MidO w 5 (.slice (some ⟨g, 0, none⟩) n c) n i wr) (fun i _ => n - (intOf i).toNat)
    case atStart => exact ⟨0, zs, Nat.zero_le _, rfl, HL.out, HH.out, Fr.refl _ _⟩
    case round =>
      obtain ⟨k, ys, hk, rfl, hy, ho, hf⟩ := hrel
      by_cases hlt : k < n
      · obtain ⟨ck, fk⟩ := Own.cell ho k hlt
        have HO := WirS.hide ho
        have HF := WirS.hide hf
        have HY := WirS.hide hy
        generalize ys.getD k 0 = x at ck
        clear ho hf hy
        go_wp2_with fail
        go_roundw
        case rel => exact ⟨k + 1, ys.set k (bits .xor .u8 x 165), by omega, by go_num, by rw [List.length_set]; exact HY.out, Own.set HO.out k hlt _, HF.out.setCell g k _ (fun _ => rfl)⟩
        case measure => simp [intOf]; omega
      · have HO := WirS.hide ho
        have HF := WirS.hide hf
        have HY := WirS.hide hy
        clear ho hf hy
        go_wp2_with fail
        first | go_end0 | refine bodyPost_ret (results_none rfl _ _ _) rfl ?_
        exact ⟨rfl, ⟨ys, HY.out, HO.out⟩, HF.out⟩
end KitB
end Go.Proofs.YtpambhlhkmkagaaGreatDoor

