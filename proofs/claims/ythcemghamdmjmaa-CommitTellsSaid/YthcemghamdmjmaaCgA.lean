/-
  CmA, CmP, CmB, CmE, in one text.
-/
import Derived.Test.YthcemghamdmjmaaPkA
import Derived.Deep.MidRow
import Derived.Deep.AppendSrc
namespace Go.Proofs.Ythcemghamdmjmaa
namespace CmA
open Go.RowKit
open BlkM WirM WirS

/-- A vote: its place, its signature. -/
structure Vt where
  at' : Int
  sg : Int
def Vt.cells (v : Vt) : List Value := [.int .i64 v.at', .int .u64 v.sg]
structure Vt.ok (v : Vt) : Prop where
  a : -9223372036854775808 ≤ v.at' ∧ v.at' < 9223372036854775808
  s : 0 ≤ v.sg ∧ v.sg < 18446744073709551616
theorem Vt.eq_of {x y : Vt} (h : x.at' = y.at') (hp : x.sg = y.sg) : x = y := by
  cases x
  cases y
  simp_all
def cellsL (vs : List Vt) : List Value := vs.flatMap Vt.cells
theorem cells_len (v : Vt) : v.cells.length = 2 := rfl
theorem cellsL_len : ∀ vs : List Vt, (cellsL vs).length = vs.length * 2
  | [] => rfl
  | x :: l => by
    have : cellsL (x :: l) = x.cells ++ cellsL l := by simp [cellsL]
    rw [this, List.length_append, cellsL_len l, cells_len, List.length_cons]
    omega
theorem cellsL_app (a b : List Vt) : cellsL (a ++ b) = cellsL a ++ cellsL b := by simp [cellsL]
theorem cellsL_get : ∀ (vs : List Vt) (i : Nat) (x : Vt), vs[i]? = some x → ∀ j v, x.cells[j]? = some v → (cellsL vs)[i * 2 + j]? = some v
  | [], i, x, h => by simp at h
  | y :: l, 0, x, h => fun j v hj => by
    have e : cellsL (y :: l) = y.cells ++ cellsL l := by simp [cellsL]
    simp at h
    subst h
    have hj2 : j < y.cells.length := (List.getElem?_eq_some_iff.1 hj).1
    rw [e, Nat.zero_mul, Nat.zero_add, List.getElem?_append_left hj2]
    exact hj
  | y :: l, i + 1, x, h => fun j v hj => by
    have e : cellsL (y :: l) = y.cells ++ cellsL l := by simp [cellsL]
    have h' : l[i]? = some x := by simpa using h
    rw [e, List.getElem?_append_right (by rw [cells_len]; omega), cells_len, show (i + 1) * 2 + j - 2 = i * 2 + j by omega]
    exact cellsL_get l i x h' j v hj
theorem one_cells (vs : List Vt) : ∀ u ∈ cellsL vs, u.oneCell' = true := by
  intro u hu
  simp only [cellsL, List.mem_flatMap] at hu
  obtain ⟨x, _, hx⟩ := hu
  simp [Vt.cells] at hx
  rcases hx with rfl | rfl <;> rfl

/-- A list of votes, as it comes in. -/
structure VtIn (w : World) (a : Option Addr) (n c : Nat) (vs : List Vt) : Prop where
  len : vs.length = n
  cap : n ≤ c
  small : c ≤ 9223372036854775807
  row : 0 < n → ∃ B o, a = some ⟨B, o, none⟩ ∧ B < w.heap.size ∧ ∀ (i : Nat) (x : Vt), vs[i]? = some x → w.rangeAt B (o + i * 2) x.cells
  ok : ∀ x ∈ vs, x.ok
theorem VtIn.nil (w : World) (a : Option Addr) (c : Nat) (hc : c ≤ 9223372036854775807) : VtIn w a 0 c [] := ⟨rfl, Nat.zero_le _, hc, fun h => absurd h (by decide), fun x h => by cases h⟩
/-- Where its block is not among those that may change, it stands. -/
theorem VtIn.fr {X : Nat → Prop} {w w' : World} {a : Option Addr} {n c : Nat} {vs : List Vt} (h : VtIn w a n c vs) (hf : Fr X w w') (ho : Off X (.slice a n c)) : VtIn w' a n c vs := by
  refine ⟨h.len, h.cap, h.small, fun hp => ?_, h.ok⟩
  obtain ⟨B, o, e, hB, hr⟩ := h.row hp
  have hX : ¬ X B := ho B (by subst e; rfl)
  exact ⟨B, o, e, Nat.lt_of_lt_of_le hB hf.size, fun i x hx j v hj => (hf.cell (p := ⟨B, _, none⟩) hB hX).trans (hr i x hx j v hj)⟩
theorem VtIn.below {w w' : World} {a : Option Addr} {n c : Nat} {vs : List Vt} (h : VtIn w a n c vs) (hb : Below w.heap.size w w') : VtIn w' a n c vs := h.fr (X := fun _ => False) (Fr.of_below hb) (fun _ _ h => h)
theorem VtIn.cell {w : World} {a : Option Addr} {n c : Nat} {vs : List Vt} (h : VtIn w a n c vs) {i : Nat} (hi : i < n) : ∃ (x : Vt) (B o : Nat), vs[i]? = some x ∧ x ∈ vs ∧ a = some ⟨B, o, none⟩ ∧ B < w.heap.size ∧ w.rangeAt B (o + i * 2) x.cells := by
  obtain ⟨B, o, e, hB, hr⟩ := h.row (by omega)
  have hx : vs[i]? = some (vs[i]'(by rw [h.len]; exact hi)) := List.getElem?_eq_getElem _
  exact ⟨_, B, o, hx, List.getElem_mem _, e, hB, hr i _ hx⟩
/-- Without its first one. -/
theorem VtIn.tail {w : World} {B o n c : Nat} {x : Vt} {vs : List Vt} (h : VtIn w (some ⟨B, o, none⟩) (n + 1) c (x :: vs)) : VtIn w (some ⟨B, o + 2, none⟩) n (c - 1) vs := by
  have h1 := h.len
  have h2 := h.cap
  have h3 := h.small
  refine ⟨by simpa using h1, by omega, by omega, fun hp => ?_, fun y hy => h.ok y (by simp [hy])⟩
  obtain ⟨B', o', e, hB, hr⟩ := h.row (by omega)
  cases e
  exact ⟨B, o + 2, rfl, hB, fun i y hy => by
    have := hr (i + 1) y (by simpa using hy)
    rwa [show o + (i + 1) * 2 = o + 2 + i * 2 by omega] at this⟩
/-- As a source of append. -/
theorem VtIn.src {w : World} {a : Option Addr} {n c : Nat} {vs : List Vt} {tx e' : TypeId} (h : VtIn w a n c vs) (hk : Try.prog.underlying tx = some (.slice e')) : Src Try.prog 2 tx (.slice a n c) vs.length (cellsL vs) w := by
  have hl := h.len
  by_cases h0 : n = 0
  · subst h0
    obtain rfl : vs = [] := List.eq_nil_of_length_eq_zero hl
    cases a with
    | none => exact Src.ofNil w hk c
    | some a => exact Src.ofSlice w hk a 0 c [] rfl (fun j u hj => by simp at hj) (fun _ h => by cases h)
  · obtain ⟨B, o, rfl, hB, hr⟩ := h.row (by omega)
    have := Src.ofSlice (P := Try.prog) (size := 2) w hk ⟨B, o, none⟩ n c (cellsL vs) (by rw [cellsL_len, hl]) (fun j u hj => by
      have hj2 : j < vs.length * 2 := by
        have := (List.getElem?_eq_some_iff.1 hj).1
        rwa [cellsL_len] at this
      have hx : vs[j / 2]? = some (vs[j / 2]'(by omega)) := List.getElem?_eq_getElem _
      have hc : (vs[j / 2]'(by omega)).cells[j % 2]? = some ((vs[j / 2]'(by omega)).cells[j % 2]'(by rw [cells_len]; omega)) := List.getElem?_eq_getElem _
      have h1 := cellsL_get vs (j / 2) _ hx (j % 2) _ hc
      have h2 := hr (j / 2) _ hx (j % 2) _ hc
      rw [show j / 2 * 2 + j % 2 = j by omega, hj] at h1
      rw [Addr.add_mid, show o + j = o + j / 2 * 2 + j % 2 by omega, h2, h1]) (one_cells vs)
    rw [hl]
    exact this

/-! ### append of rows -/
theorem app_row {P : Program} (w : World) (t tx ty e : TypeId) (i : TypeInfo) (z : Value) (ht : P.underlying t = some (.slice e)) (hi : P.info? e = some i) (hz : i.zero = some z) (sz : Nat) (hs1 : i.size = sz) (hb1 : i.bytes ≤ 64) (hzs : z.cells.size = sz)
    (v x : Value) (n m : Nat) (olds news : List Value) (hO : w.ownsRow 0 e sz v n olds) (hx : Src P sz tx x m news w) (hlen : n + m ≤ 1073741824) :
    ∃ v' w', (Builtin.append_ #[t, tx] ty #[v, x]).run P w = .ok v' w' ∧ w'.ownsRow 0 e sz v' (n + m) (olds ++ news) ∧ Fr (fun k => v.ownBlock = some k) w w' ∧ NewOr w v v' := by
  subst hs1
  have hol := hO.1
  have hnl := hx.newsLen
  have hfit : (n + m) * i.bytes ≤ 140737488355328 := Nat.le_trans (Nat.mul_le_mul hlen hb1) (by decide)
  have hsum : (olds ++ news).length = (n + m) * i.size := by rw [List.length_append, hol, hnl, Nat.add_mul]
  have grown : ∀ (old : Nat), old < n + m → ∀ (row : Nat → Prop),
      (w.drew.alloc (.cells ((olds ++ news).toArray ++ Builtin.zeroCells z.cells (grownCap w (n + m) old e - (n + m))) e)).ownsRow 0 e i.size
        (.slice (some ⟨w.heap.size, 0, none⟩) (n + m) (grownCap w (n + m) old e)) (n + m) (olds ++ news) ∧
      Fr row w (w.drew.alloc (.cells ((olds ++ news).toArray ++ Builtin.zeroCells z.cells (grownCap w (n + m) old e - (n + m))) e)) := by
    intro old ho row
    have hge := grownCap_ge w (n + m) old e
    have hcm : grownCap w (n + m) old e ≤ maxLen := grownCap_le_maxLen w (n + m) old e (by unfold maxLen; omega)
    refine ⟨⟨hsum, .inr ⟨w.heap.size, _, _, rfl, Nat.zero_le _, heap_alloc_new w.drew _, hge, hcm, ?_, ?_⟩⟩, (Fr.refl row w).drew.alloc _⟩
    · rw [Array.size_append, List.size_toArray, hsum, size_zeroCells, hzs, ← Nat.add_mul]
      congr 1
      omega
    · simp only [Array.toList_append]
      exact List.take_left' hsum
  obtain ⟨hl, ⟨rfl, hz0⟩ | ⟨g, cap, cur, rfl, hb, hg, h1, h2, h3, h4⟩⟩ := hO
  · subst hz0
    have he : olds = [] := List.eq_nil_of_length_eq_zero (by rw [hl]; simp)
    subst he
    by_cases hm : m = 0
    · subst hm
      have hn : news = [] := List.eq_nil_of_length_eq_zero (by rw [hnl]; simp)
      subst hn
      refine ⟨.slice none 0 0, w, ?_, World.ownsRow_nil w 0 e i.size, Fr.refl _ w, NewOr.refl w _⟩
      have hc := hx.cells
      have hL := hx.len
      rcases hx.kind with ⟨e', hk⟩ | hk <;> simp [Builtin.append_, run_underlying ht, run_underlying hk, sizeOf, typeInfo, hi, hL] <;> simp_all
    · have hr := run_append_grow_src (P := P) w t tx ty e i z ht hi hz none 0 0 [] (run_firstCells_none w.drew i.size 0 0 0) x m news hx (by omega) (by omega) (growslice_fits (by omega) (by simpa using hfit))
      have hgr := grown 0 (by omega) (fun k => (Value.slice none 0 0).ownBlock = some k)
      simp only [Nat.zero_add, List.nil_append] at hgr hr ⊢
      exact ⟨_, _, hr, hgr.1, hgr.2, fun k hk => .inr (by simp [Value.ownBlock] at hk; omega)⟩
  · by_cases hroom : n + m ≤ cap
    · have hg' : w.heap[g]? = some (.cells cur.toList.toArray e (0, 0)) := by simpa using hg
      have hcl : cur.toList.length = cap * i.size := by simp [h3]
      have hin0 : n * i.size + m * i.size ≤ cap * i.size := by rw [← Nat.add_mul]; exact Nat.mul_le_mul_right _ hroom
      have hin : ∀ j, j < news.length → (w.cell? ⟨g, 0 + n * i.size + j, none⟩).isSome = true := fun j hj => by
        rw [hnl] at hj
        simp only [World.cell?, hg, Nat.zero_add]
        simp [h3]
        omega
      have hr := run_append_room_src (P := P) w t tx ty e i ht hi g 0 n cap x m news hx hroom hin (fun j _ => by simp [World.frozen?, hg])
      simp only [Nat.zero_add] at hr
      have hA := heap_setCells_one g e news (n * i.size) cur.toList w hg' (by rw [hnl, hcl]; exact hin0)
      refine ⟨_, _, hr, ⟨hsum, .inr ⟨g, cap, _, rfl, Nat.zero_le _, hA, hroom, h2, ?_, ?_⟩⟩, ?_, NewOr.refl w _⟩
      · simp only [List.size_toArray, List.length_append, List.length_take, List.length_drop, hnl, Array.length_toList, h3]
        omega
      · have := putL_take news cur.toList (n * i.size) (by rw [hnl, hcl]; exact hin0)
        rw [Nat.add_mul, ← hnl]
        rw [this]
        congr 1
      · exact (fr_setCells g news (n * i.size) w w (Fr.refl _ w)).mono (fun k _ hk => by subst hk; rfl)
    · have holds : ∀ j u, olds[j]? = some u → w.drew.cell? ((⟨g, 0, none⟩ : Addr).add j) = some u := fun j u hj => by
        have := World.ownsRow.cells (w := w) (base := 0) (e := e) (size := i.size) (v := .slice (some ⟨g, 0, none⟩) n cap) ⟨hl, .inr ⟨g, cap, cur, rfl, hb, hg, h1, h2, h3, h4⟩⟩ (g := g) rfl j u hj
        simpa using this
      have hr := run_append_grow_src (P := P) w t tx ty e i z ht hi hz (some ⟨g, 0, none⟩) n cap olds (run_firstCells_some w.drew i.size n ⟨g, 0, none⟩ n cap olds hol holds) x m news hx (by omega) (by omega) (growslice_fits (by omega) hfit)
      have hgr := grown cap (by omega) (fun k => (Value.slice (some ⟨g, 0, none⟩) n cap).ownBlock = some k)
      exact ⟨_, _, hr, hgr.1, hgr.2, fun k hk => .inr (by simp [Value.ownBlock] at hk; omega)⟩

/-- A list of votes in memory of its own. -/
structure OwnT (w : World) (v : Value) (vs : List Vt) : Prop where
  own : w.ownsRow 0 119 2 v vs.length (cellsL vs)
  ok : ∀ x ∈ vs, x.ok
theorem OwnT.nil (w : World) : OwnT w (.slice none 0 0) [] := ⟨World.ownsRow_nil w 0 _ 2, fun _ h => by cases h⟩
theorem OwnT.lt {w : World} {v : Value} {vs : List Vt} (h : OwnT w v vs) : ∀ k, v.ownBlock = some k → k < w.heap.size := by
  obtain ⟨⟨_, ⟨rfl, _⟩ | ⟨g, cap, cur, rfl, _, hg, _⟩⟩, _⟩ := h
  · intro k hk
    simp [Value.ownBlock] at hk
  · intro k hk
    simp [Value.ownBlock] at hk
    subst hk
    exact (Array.getElem?_eq_some_iff.1 hg).1
theorem OwnT.fr {X : Nat → Prop} {w w' : World} {v : Value} {vs : List Vt} (h : OwnT w v vs) (hf : Fr X w w') (ho : Off X v) : OwnT w' v vs := by
  have hlt := h.lt
  obtain ⟨⟨hl, ⟨rfl, h0⟩ | ⟨g, cap, cur, rfl, hb, hg, hr⟩⟩, hok⟩ := h
  · exact ⟨⟨hl, .inl ⟨rfl, h0⟩⟩, hok⟩
  · exact ⟨⟨hl, .inr ⟨g, cap, cur, rfl, hb, (hf.block g (hlt g rfl) (ho g rfl)).trans hg, hr⟩⟩, hok⟩
theorem OwnT.below {w w' : World} {v : Value} {vs : List Vt} (h : OwnT w v vs) (hb : Below w.heap.size w w') : OwnT w' v vs := h.fr (X := fun _ => False) (Fr.of_below hb) (fun _ _ h => h)
theorem OwnT.len_of {w : World} {v : Value} {vs : List Vt} (h : OwnT w v vs) : ∃ a cap, v = .slice a vs.length cap := by
  obtain ⟨⟨_, ⟨rfl, h0⟩ | ⟨g, cap, cur, rfl, _⟩⟩, _⟩ := h
  · exact ⟨none, 0, by rw [h0]⟩
  · exact ⟨_, _, rfl⟩
theorem OwnT.vin {w : World} {a : Option Addr} {n c : Nat} {vs : List Vt} (h : OwnT w (.slice a n c) vs) : VtIn w a n c vs := by
  have hlt := h.lt
  have hc := fun g => World.ownsRow.cells (w := w) (base := 0) (e := 119) (size := 2) (v := .slice a n c) (n := vs.length) (xs := cellsL vs) h.own (g := g)
  obtain ⟨⟨hl, ⟨e, h0⟩ | ⟨g, cap, cur, e, hb, hg, h1, h2, h3, h4⟩⟩, hok⟩ := h
  · cases e
    obtain rfl : vs = [] := List.eq_nil_of_length_eq_zero h0
    exact VtIn.nil w none 0 (by decide)
  · cases e
    refine ⟨rfl, h1, by unfold maxLen at h2; omega, fun hp => ⟨g, 0, rfl, hlt g rfl, fun i x hx j v hj => ?_⟩, hok⟩
    have h5 := cellsL_get vs i x hx j v hj
    have h6 := hc g rfl _ _ h5
    rw [Addr.add_mid] at h6
    rw [show 0 + i * 2 + j = 0 + (i * 2 + j) by omega]
    exact h6
/-- append of votes onto memory of its own. -/
theorem app_votes (w : World) (tx ty : TypeId) (v x : Value) (olds news : List Vt) (hO : OwnT w v olds) (hx : Src Try.prog 2 tx x news.length (cellsL news) w) (hok : ∀ y ∈ news, y.ok) (hlen : olds.length + news.length ≤ 1073741824) :
    ∃ v' w', (Builtin.append_ #[92, tx] ty #[v, x]).run Try.prog w = .ok v' w' ∧ OwnT w' v' (olds ++ news) ∧ Fr (fun k => v.ownBlock = some k) w w' ∧ NewOr w v v' := by
  obtain ⟨i0, hi, hz0, hz1, hz2⟩ := info_parts (show (Try.prog.info? 119).map (fun i => (i.zero, i.size, i.bytes)) = some (some (.agg #[.int .i64 0, .int .u64 0]), 2, 16) by kernel_rfl)
  obtain ⟨v', w', h1, h2, h3, h4⟩ := app_row (P := Try.prog) w 92 tx ty 119 i0 _ Try.underlying92 hi hz0 2 hz1 (by omega) rfl v x olds.length news.length (cellsL olds) (cellsL news) hO.own hx hlen
  refine ⟨v', w', h1, ⟨?_, fun y hy => ?_⟩, h3, h4⟩
  · rw [List.length_append, cellsL_app]
    exact h2
  · rcases List.mem_append.1 hy with hy | hy
    · exact hO.ok y hy
    · exact hok y hy
/-- One vote in a variable of its own, as a source. -/
theorem src_one {w : World} {tx e' : TypeId} (hk : Try.prog.underlying tx = some (.slice e')) (g o c : Nat) (x : Vt) (h : w.rangeAt g o x.cells) : Src Try.prog 2 tx (.slice (some ⟨g, o, none⟩) 1 c) 1 (cellsL [x]) w := by
  have e : cellsL [x] = x.cells := by simp [cellsL]
  exact Src.ofSlice w hk ⟨g, o, none⟩ 1 c (cellsL [x]) (by rw [cellsL_len]; rfl) (fun j u hj => by rw [Addr.add_mid]; rw [e] at hj; exact h j u hj) (one_cells [x])
end CmA
end Go.Proofs.Ythcemghamdmjmaa

namespace Go.Proofs.Ythcemghamdmjmaa
namespace CmP
open CmA

/-- What is wrong first, vote by vote; p: the previous place. -/
def chkV : Int → List Vt → Int
  | _, [] => 0
  | p, v :: l => if ¬(0 ≤ v.at' ∧ v.at' < 64) then 3 else if v.at' ≤ p then 9 else chkV v.at' l
def chk (ht : Int) (vs : List Vt) : Int := if ¬(1 ≤ ht ∧ ht ≤ 1073741824) then 3 else if 64 < vs.length then 4 else chkV (-1) vs
/-- Places from 0 to 63, strictly ascending. -/
structure Up (vs : List Vt) : Prop where
  rng : ∀ v ∈ vs, 0 ≤ v.at' ∧ v.at' < 64
  asc : vs.Pairwise fun x y => x.at' < y.at'
theorem Up.nil : Up [] := ⟨(fun _ h => by cases h), List.Pairwise.nil⟩
theorem Up.tail {v : Vt} {l : List Vt} (h : Up (v :: l)) : Up l := ⟨fun x hx => h.rng x (by simp [hx]), (List.pairwise_cons.1 h.asc).2⟩
theorem chkV_up : ∀ (vs : List Vt) (p : Int), chkV p vs = 0 ↔ Up vs ∧ ∀ v ∈ vs, p < v.at'
  | [], p => by simp [chkV, Up.nil]
  | v :: l, p => by
    rw [chkV]
    constructor
    · intro h
      by_cases h1 : 0 ≤ v.at' ∧ v.at' < 64
      · rw [if_neg (by simpa using h1)] at h
        by_cases h2 : v.at' ≤ p
        · rw [if_pos h2] at h
          exact absurd h (by decide)
        · rw [if_neg h2] at h
          obtain ⟨hu, hp⟩ := (chkV_up l v.at').1 h
          refine ⟨⟨fun x hx => ?_, List.pairwise_cons.2 ⟨hp, hu.asc⟩⟩, fun x hx => ?_⟩
          · rcases List.mem_cons.1 hx with rfl | hx
            · exact h1
            · exact hu.rng x hx
          · rcases List.mem_cons.1 hx with rfl | hx
            · omega
            · have := hp x hx; omega
      · rw [if_pos h1] at h
        exact absurd h (by decide)
    · rintro ⟨hu, hp⟩
      have h1 := hu.rng v (by simp)
      have h2 := hp v (by simp)
      rw [if_neg (by simpa using h1), if_neg (by omega), chkV_up l v.at']
      exact ⟨hu.tail, (List.pairwise_cons.1 hu.asc).1⟩
theorem chk_up (ht : Int) (vs : List Vt) : chk ht vs = 0 ↔ (1 ≤ ht ∧ ht ≤ 1073741824) ∧ vs.length ≤ 64 ∧ Up vs := by
  unfold chk
  constructor
  · intro h
    by_cases h1 : 1 ≤ ht ∧ ht ≤ 1073741824
    · rw [if_neg (by simpa using h1)] at h
      by_cases h2 : 64 < vs.length
      · rw [if_pos h2] at h
        exact absurd h (by decide)
      · rw [if_neg h2] at h
        exact ⟨h1, by omega, ((chkV_up vs (-1)).1 h).1⟩
    · rw [if_pos h1] at h
      exact absurd h (by decide)
  · rintro ⟨h1, h2, h3⟩
    rw [if_neg (by simpa using h1), if_neg (by omega), chkV_up]
    exact ⟨h3, fun v hv => by have := h3.rng v hv; omega⟩
theorem chkV_codes : ∀ (vs : List Vt) (p : Int), chkV p vs = 0 ∨ chkV p vs = 3 ∨ chkV p vs = 9
  | [], p => .inl rfl
  | v :: l, p => by
    rw [chkV]
    split
    · exact .inr (.inl rfl)
    split
    · exact .inr (.inr rfl)
    · exact chkV_codes l v.at'
/-- The first vote for a place. -/
def ofV (k : Int) : List Vt → Option Int
  | [] => none
  | v :: l => if v.at' = k then some v.sg else ofV k l
theorem ofV_none (k : Int) : ∀ vs : List Vt, ofV k vs = none ↔ ∀ v ∈ vs, v.at' ≠ k
  | [] => by simp [ofV]
  | v :: l => by
    rw [ofV]
    by_cases h : v.at' = k
    · rw [if_pos h]
      simp [h]
    · rw [if_neg h, ofV_none k l]
      simp [h]
theorem ofV_some {vs : List Vt} (h : Up vs) (k s : Int) : ofV k vs = some s ↔ (⟨k, s⟩ : Vt) ∈ vs := by
  induction vs with
  | nil => simp [ofV]
  | cons v l ih =>
    rw [ofV]
    have hp := (List.pairwise_cons.1 h.asc).1
    by_cases e : v.at' = k
    · rw [if_pos e]
      constructor
      · intro h2
        cases h2
        subst e
        simp
      · intro h2
        rcases List.mem_cons.1 h2 with h2 | h2
        · rw [← h2]
        · have := hp _ h2
          simp only at this
          omega
    · rw [if_neg e, ih h.tail]
      constructor
      · intro h2; simp [h2]
      · intro h2
        rcases List.mem_cons.1 h2 with h2 | h2
        · exact absurd (by rw [← h2]) e
        · exact h2
/-- How many lie below a place. -/
def cut (k : Int) : List Vt → Nat
  | [] => 0
  | v :: l => if v.at' < k then cut k l + 1 else 0
theorem cut_le (k : Int) : ∀ vs : List Vt, cut k vs ≤ vs.length
  | [] => Nat.le_refl _
  | v :: l => by
    rw [cut]
    have := cut_le k l
    split <;> simp <;> omega
theorem cut_of (k : Int) : ∀ (vs : List Vt) (i : Nat), i ≤ vs.length → (∀ t x, t < i → vs[t]? = some x → x.at' < k) → (∀ x, vs[i]? = some x → k ≤ x.at') → cut k vs = i
  | [], i, hi, _, _ => by simp at hi; simp [cut, hi]
  | v :: l, 0, _, _, h2 => by
    have := h2 v rfl
    rw [cut, if_neg (by omega)]
  | v :: l, i + 1, hi, h1, h2 => by
    have := h1 0 v (by omega) rfl
    rw [cut, if_pos this, cut_of k l i (by simpa using hi) (fun t x ht hx => h1 (t + 1) x (by omega) (by simpa using hx)) (fun x hx => h2 x (by simpa using hx))]
theorem cut_split (k : Int) : ∀ vs : List Vt, (∀ x ∈ vs.take (cut k vs), x.at' < k) ∧ ∀ x, vs[cut k vs]? = some x → k ≤ x.at'
  | [] => by simp [cut]
  | v :: l => by
    rw [cut]
    by_cases h : v.at' < k
    · rw [if_pos h]
      obtain ⟨h1, h2⟩ := cut_split k l
      refine ⟨fun x hx => ?_, fun x hx => h2 x (by simpa using hx)⟩
      rw [List.take_succ_cons] at hx
      rcases List.mem_cons.1 hx with rfl | hx
      · exact h
      · exact h1 x hx
    · rw [if_neg h]
      exact ⟨fun x hx => by simp at hx, fun x hx => by simp at hx; subst hx; omega⟩
theorem cut_above {vs : List Vt} (h : Up vs) (k : Int) : ∀ x ∈ vs.drop (cut k vs), k ≤ x.at' := by
  intro x hx
  obtain ⟨i, hi, rfl⟩ := List.getElem_of_mem hx
  rw [List.length_drop] at hi
  have h0 : vs[cut k vs]? = some (vs[cut k vs]'(by omega)) := List.getElem?_eq_getElem _
  have h1 := (cut_split k vs).2 _ h0
  rw [List.getElem_drop]
  by_cases e : i = 0
  · subst e
    exact h1
  · have := List.pairwise_iff_getElem.1 h.asc (cut k vs) (cut k vs + i) (by omega) (by omega) (by omega)
    omega
/-- A vote for the place is there: just at the cut. -/
theorem at_cut {vs : List Vt} (h : Up vs) (k : Int) : ofV k vs = (if (vs[cut k vs]?.map (·.at')) = some k then vs[cut k vs]?.map (·.sg) else none) := by
  by_cases e : (vs[cut k vs]?.map (·.at')) = some k
  · rw [if_pos e]
    obtain ⟨x, hx, hk⟩ := Option.map_eq_some_iff.1 e
    rw [hx]
    have : (⟨k, x.sg⟩ : Vt) ∈ vs := by
      rw [← hk]
      exact List.mem_of_getElem? hx
    rw [(ofV_some h k x.sg).2 this]
    rfl
  · rw [if_neg e, ofV_none]
    intro v hv hk
    have hv2 : v ∈ vs.take (cut k vs) ++ vs.drop (cut k vs) := by rw [List.take_append_drop]; exact hv
    rcases List.mem_append.1 hv2 with h1 | h1
    · have := (cut_split k vs).1 v h1
      omega
    · obtain ⟨i, hi, hvi⟩ := List.getElem_of_mem h1
      rw [List.length_drop] at hi
      rw [List.getElem_drop] at hvi
      have h0 : vs[cut k vs]? = some (vs[cut k vs]'(by omega)) := List.getElem?_eq_getElem _
      by_cases e0 : i = 0
      · subst e0
        simp only [Nat.add_zero] at hvi
        rw [h0, hvi] at e
        exact e (by simp [hk])
      · have h2 := (cut_split k vs).2 _ h0
        have := List.pairwise_iff_getElem.1 h.asc (cut k vs) (cut k vs + i) (by omega) (by omega) (by omega)
        rw [hvi] at this
        omega
/-- A vote laid where it belongs. -/
def ins (vs : List Vt) (i : Nat) (v : Vt) : List Vt := vs.take i ++ v :: vs.drop i
def insV (vs : List Vt) (v : Vt) : List Vt := ins vs (cut v.at' vs) v
theorem ins_len (vs : List Vt) (i : Nat) (v : Vt) (h : i ≤ vs.length) : (ins vs i v).length = vs.length + 1 := by
  simp only [ins, List.length_append, List.length_take, List.length_cons, List.length_drop]
  omega
theorem insV_len (vs : List Vt) (v : Vt) : (insV vs v).length = vs.length + 1 := ins_len _ _ _ (cut_le _ _)
theorem mem_ins {vs : List Vt} {i : Nat} {v x : Vt} : x ∈ ins vs i v ↔ x = v ∨ x ∈ vs := by
  have : x ∈ vs ↔ x ∈ vs.take i ∨ x ∈ vs.drop i := by
    rw [← List.mem_append, List.take_append_drop]
  unfold ins
  rw [List.mem_append, List.mem_cons, this]
  constructor
  · rintro (h | h | h)
    · exact .inr (.inl h)
    · exact .inl h
    · exact .inr (.inr h)
  · rintro (h | h | h)
    · exact .inr (.inl h)
    · exact .inl h
    · exact .inr (.inr h)
theorem mem_insV {vs : List Vt} {v x : Vt} : x ∈ insV vs v ↔ x = v ∨ x ∈ vs := mem_ins
theorem up_insV {vs : List Vt} {v : Vt} (h : Up vs) (hv : 0 ≤ v.at' ∧ v.at' < 64) (hn : ofV v.at' vs = none) : Up (insV vs v) := by
  have hne := (ofV_none _ _).1 hn
  refine ⟨fun x hx => ?_, ?_⟩
  · rcases mem_insV.1 hx with rfl | hx
    · exact hv
    · exact h.rng x hx
  · unfold insV ins
    have h3 := cut_above h v.at'
    have h4 := (cut_split v.at' vs).1
    have hp : (vs.take (cut v.at' vs) ++ vs.drop (cut v.at' vs)).Pairwise fun x y => x.at' < y.at' := by rw [List.take_append_drop]; exact h.asc
    obtain ⟨p1, p2, p3⟩ := List.pairwise_append.1 hp
    refine List.pairwise_append.2 ⟨p1, List.pairwise_cons.2 ⟨fun y hy => ?_, p2⟩, fun x hx y hy => ?_⟩
    · have := h3 y hy
      have := hne y (List.mem_of_mem_drop hy)
      omega
    · rcases List.mem_cons.1 hy with rfl | hy
      · exact h4 x hx
      · exact p3 x hx y hy
/-- Two lists in order with the same votes are one. -/
theorem up_ext : ∀ {a b : List Vt}, Up a → Up b → (∀ x, x ∈ a ↔ x ∈ b) → a = b
  | [], [], _, _, _ => rfl
  | [], y :: l, _, _, h => by have := (h y).2 (by simp); cases this
  | x :: k, [], _, _, h => by have := (h x).1 (by simp); cases this
  | x :: k, y :: l, ha, hb, h => by
    have pa := (List.pairwise_cons.1 ha.asc).1
    have pb := (List.pairwise_cons.1 hb.asc).1
    have hxy : x = y := by
      rcases List.mem_cons.1 ((h x).1 (by simp)) with e | e
      · exact e
      · rcases List.mem_cons.1 ((h y).2 (by simp)) with e2 | e2
        · exact e2.symm
        · have h1 := pb x e
          have h2 := pa y e2
          omega
    subst hxy
    rw [up_ext ha.tail hb.tail fun z => ?_]
    constructor
    · intro hz
      rcases List.mem_cons.1 ((h z).1 (by simp [hz])) with e | e
      · have := pa z hz
        rw [e] at this
        omega
      · exact e
    · intro hz
      rcases List.mem_cons.1 ((h z).2 (by simp [hz])) with e | e
      · have := pb z hz
        rw [e] at this
        omega
      · exact e
/-- Votes laid into others, one by one, unless one differs. -/
def mg : List Vt → List Vt → Option (List Vt)
  | all, [] => some all
  | all, v :: l => match ofV v.at' all with
    | none => mg (insV all v) l
    | some s => if s = v.sg then mg all l else none
/-- Do two lists have no unlike votes for a place? -/
def agree (a b : List Vt) : Prop := ∀ x ∈ b, ∀ y ∈ a, x.at' = y.at' → x.sg = y.sg
theorem mg_some : ∀ (l all : List Vt), Up all → Up l → agree all l → ∃ r, mg all l = some r ∧ Up r ∧ ∀ x, x ∈ r ↔ x ∈ all ∨ x ∈ l
  | [], all, ha, _, _ => ⟨all, rfl, ha, fun x => by simp⟩
  | v :: l, all, ha, hl, hg => by
    have pl := (List.pairwise_cons.1 hl.asc).1
    rw [mg]
    cases ho : ofV v.at' all with
    | none =>
      obtain ⟨r, h1, h2, h3⟩ := mg_some l (insV all v) (up_insV ha (hl.rng v (by simp)) ho) hl.tail (fun x hx y hy e => by
        rcases mem_insV.1 hy with rfl | hy
        · have := pl x hx; omega
        · exact hg x (by simp [hx]) y hy e)
      refine ⟨r, h1, h2, fun x => ?_⟩
      rw [h3, mem_insV, List.mem_cons]
      constructor
      · rintro ((h | h) | h)
        · exact .inr (.inl h)
        · exact .inl h
        · exact .inr (.inr h)
      · rintro (h | h | h)
        · exact .inl (.inr h)
        · exact .inl (.inl h)
        · exact .inr h
    | some s =>
      have hm := (ofV_some ha v.at' s).1 ho
      have hs : s = v.sg := (hg v (by simp) _ hm rfl).symm
      obtain ⟨r, h1, h2, h3⟩ := mg_some l all ha hl.tail (fun x hx y hy e => hg x (by simp [hx]) y hy e)
      refine ⟨r, by simp only [if_pos hs]; exact h1, h2, fun x => ?_⟩
      rw [h3, List.mem_cons]
      constructor
      · rintro (h | h)
        · exact .inl h
        · exact .inr (.inr h)
      · rintro (h | h | h)
        · exact .inl h
        · rw [hs] at hm
          exact .inl (by rw [h]; exact hm)
        · exact .inr h
theorem mg_none : ∀ (l all : List Vt), Up all → Up l → ¬ agree all l → mg all l = none
  | [], all, _, _, hg => absurd (fun x hx => by cases hx) hg
  | v :: l, all, ha, hl, hg => by
    have pl := (List.pairwise_cons.1 hl.asc).1
    rw [mg]
    cases ho : ofV v.at' all with
    | none =>
      have hne := (ofV_none _ _).1 ho
      refine mg_none l (insV all v) (up_insV ha (hl.rng v (by simp)) ho) hl.tail (fun h => hg fun x hx y hy e => ?_)
      rcases List.mem_cons.1 hx with rfl | hx
      · exact absurd e.symm (hne y hy)
      · exact h x hx y (mem_insV.2 (.inr hy)) e
    | some s =>
      have hm := (ofV_some ha v.at' s).1 ho
      by_cases hs : s = v.sg
      · simp only [if_pos hs]
        refine mg_none l all ha hl.tail (fun h => hg fun x hx y hy e => ?_)
        rcases List.mem_cons.1 hx with rfl | hx
        · have := (ofV_some ha x.at' y.sg).2 (by rw [e]; exact hy)
          rw [ho] at this
          cases this
          exact hs.symm
        · exact h x hx y hy e
      · simp only [if_neg hs]
theorem mg_self (a : List Vt) (h : Up a) : mg [] a = some a := by
  obtain ⟨r, h1, h2, h3⟩ := mg_some a [] Up.nil h (fun x hx y hy => by cases hy)
  rw [h1, up_ext h2 h fun x => by rw [h3]; simp]
end CmP
end Go.Proofs.Ythcemghamdmjmaa

namespace Go.Proofs.Ythcemghamdmjmaa
namespace CmB
open Go.RowKit
open BlkM WirM WirS CmA CmP

theorem drop_get {α : Type} {l : List α} {k : Nat} {x : α} (h : l[k]? = some x) : l.drop k = x :: l.drop (k + 1) := by
  obtain ⟨hk, rfl⟩ := List.getElem?_eq_some_iff.1 h
  exact List.drop_eq_getElem_cons hk
/-- A commit: its height, its hash's bytes, its votes as a slice. -/
def ccl (ht : Int) (h : List Int) (s : Value) : List Value := .int .i64 ht :: (b8 h ++ [s])
theorem ccl_len (ht : Int) (h : List Int) (s : Value) (hl : h.length = 32) : (ccl ht h s).length = 34 := by simp [ccl, b8_len, hl]
theorem ccl_0 (ht : Int) (h : List Int) (s : Value) : (ccl ht h s)[0]? = some (.int .i64 ht) := rfl
theorem ccl_33 (ht : Int) (h : List Int) (s : Value) (hl : h.length = 32) : (ccl ht h s)[33]? = some s := by
  show (b8 h ++ [s])[32]? = some s
  rw [List.getElem?_append_right (by rw [b8_len, hl]; exact Nat.le_refl _), b8_len, hl]
  rfl
theorem one_ccl (ht : Int) (h : List Int) (a : Option Addr) (n c : Nat) : (ccl ht h (.slice a n c)).toArray.all (·.oneCell') = true := by simp [ccl, b8, Value.oneCell']
abbrev TC : TypeId := 94
abbrev TV : TypeId := 119
theorem place_any (w : World) (x : Int) : Calls Try.prog 172 #[.int .i64 x] w fun e w' => e = .returned (.bool (decide (0 ≤ x ∧ x < 64))) ∧ w = w' := by
  by_cases h1 : 0 ≤ x
  · have d1 : decide (0 ≤ x) = true := by simpa using h1
    by_cases h2 : x < 64
    · have d2 : decide (x < 64) = true := by simpa using h2
      rw [decide_eq_true (⟨h1, h2⟩ : 0 ≤ x ∧ x < 64)]
      go_enter Try.func172, Try.ntmps172
      go_wp2_with fail
      go_ret
      exact ⟨rfl, rfl⟩
    · have d2 : decide (x < 64) = false := by simpa using h2
      rw [decide_eq_false (fun h => h2 h.2 : ¬(0 ≤ x ∧ x < 64))]
      go_enter Try.func172, Try.ntmps172
      go_wp2_with fail
      go_ret
      exact ⟨rfl, rfl⟩
  · have d1 : decide (0 ≤ x) = false := by simpa using h1
    rw [decide_eq_false (fun h => h1 h.1 : ¬(0 ≤ x ∧ x < 64))]
    go_enter Try.func172, Try.ntmps172
    go_wp2_with fail
    go_ret
    exact ⟨rfl, rfl⟩
theorem asc_any (w : World) : Calls Try.prog 169 #[] w fun e w' => e = .returned (.func (.func 222) #[] #[.pointer (some ⟨w.heap.size, 0, none⟩)]) ∧ At w' w.heap.size 3 [.int .i64 (-1)] ∧ Below w.heap.size w w' := by
  have hA := (At.new w 3 [.int .i64 0]).setCell 0 (.int .i64 (-1))
  have hB : Below w.heap.size w ((w.alloc (.cells #[.int .i64 0] 3)).setCell ⟨w.heap.size, 0, none⟩ (.int .i64 (-1))) := Below.setCell (Below.alloc (Below.refl _ _) (Nat.le_refl _) _) (by simp) _
  have HA := WirS.hide hA
  have HB := WirS.hide hB
  clear hA hB
  go_enter Try.func169, Try.ntmps169
  go_wp2_with fail
  go_ret
  first | exact ⟨rfl, HA.out, HB.out⟩ | exact ⟨rfl, At.new _ _ _, Below.alloc (Below.refl _ _) (Nat.le_refl _) _⟩
def nxE (p : Int) (v : Vt) : Int := if ¬(0 ≤ v.at' ∧ v.at' < 64) then 3 else if v.at' ≤ p then 9 else 0
set_option maxRecDepth 10000 in
theorem nx_any (w : World) (P : Nat) (p : Int) (v : Vt) (h : At w P 3 [.int .i64 p]) :
    Calls Try.prog 222 #[.agg #[.int .i64 v.at', .int .u64 v.sg], .pointer (some ⟨P, 0, none⟩)] w fun e w' => e = .returned (.int .i64 (nxE p v)) ∧ (nxE p v = 0 → At w' P 3 [.int .i64 v.at']) ∧ Fr (fun k => k = P) w w' := by
  have hPl := h.lt
  obtain ⟨W0, e0⟩ : ∃ X, X = w.alloc (.cells #[.int .i64 v.at', .int .u64 v.sg] TV) := ⟨_, rfl⟩
  have hA : At W0 w.heap.size TV v.cells := by rw [e0]; exact At.new w _ _
  have hP : At W0 P 3 [.int .i64 p] := by rw [e0]; exact At.alloc h _
  have k0 : W0.cell? ⟨w.heap.size, 0, none⟩ = some (.int .i64 v.at') := hA.cell 0
  have kp : W0.cell? ⟨P, 0, none⟩ = some (.int .i64 p) := hP.cell 0
  have fp : W0.frozen? ⟨P, 0, none⟩ = false := hP.frozen 0
  have hF : Fr (fun k => k = P) w W0 := by rw [e0]; exact (Fr.refl _ w).alloc _
  have HF := WirS.hide hF
  have HP := WirS.hide hP
  have E0 := WirS.hide e0
  have HPL := WirS.hide (fun U => place_any U v.at')
  have HS := WirS.hide (show At (W0.setCell ⟨P, 0, none⟩ (.int .i64 v.at')) P 3 [.int .i64 v.at'] from hP.setCell 0 _)
  have HFS := WirS.hide (show Fr (fun k => k = P) w (W0.setCell ⟨P, 0, none⟩ (.int .i64 v.at')) from hF.setCell P 0 _ (fun _ => rfl))
  clear hA hP e0 h hF
  unfold nxE
  by_cases h1 : 0 ≤ v.at' ∧ v.at' < 64
  · rw [if_neg (by simpa using h1)]
    rw [decide_eq_true h1] at HPL
    clear h1
    generalize v.at' = x at *
    by_cases h2 : x ≤ p
    · have d2 : decide (x ≤ p) = true := by simpa using h2
      rw [if_pos h2]
      go_enter Try.func222, Try.ntmps222
      go_upto_region 1 with fail
      rw [← E0.out]
      go_wp2_with (go_at_call 172; refine (HPL.out _).mono ?_; rintro e u ⟨rfl, rfl⟩)
      go_ret
      exact ⟨rfl, fun h => absurd h (by decide), HF.out⟩
    · have d2 : decide (x ≤ p) = false := by simpa using h2
      rw [if_neg h2]
      go_enter Try.func222, Try.ntmps222
      go_upto_region 1 with fail
      rw [← E0.out]
      go_wp2_with (go_at_call 172; refine (HPL.out _).mono ?_; rintro e u ⟨rfl, rfl⟩)
      go_ret
      exact ⟨rfl, fun _ => HS.out, HFS.out⟩
  · rw [if_pos h1]
    rw [decide_eq_false h1] at HPL
    clear h1
    generalize v.at' = x at *
    go_enter Try.func222, Try.ntmps222
    go_upto_region 1 with fail
    rw [← E0.out]
    go_wp2_with (go_at_call 172; refine (HPL.out _).mono ?_; rintro e u ⟨rfl, rfl⟩)
    go_ret
    exact ⟨rfl, fun h => absurd h (by decide), HF.out⟩
def MidK (w : World) (P : Nat) (vs : List Vt) (n : Nat) (i : Value) (U : World) : Prop :=
  ∃ (k : Nat) (p : Int), k ≤ n ∧ i = .int .i64 (k : Int) ∧ At U P 3 [.int .i64 p] ∧ chkV (-1) vs = chkV p (vs.drop k) ∧ Below w.heap.size w U
set_option maxRecDepth 10000 in
set_option maxHeartbeats 4000000 in
theorem check_any (w : World) (ht : Int) (h : List Int) (a : Option Addr) (n c : Nat) (vs : List Vt) (hl : h.length = 32) (hv : VtIn w a n c vs) :
    Calls Try.prog 71 #[.agg (ccl ht h (.slice a n c)).toArray] w fun e w' => e = .returned (.int .i64 (chk ht vs)) ∧ Below w.heap.size w w' := by
  have hlen := hv.len
  obtain ⟨W0, e0⟩ : ∃ X, X = w.alloc (.cells (ccl ht h (.slice a n c)).toArray TC) := ⟨_, rfl⟩
  have hA : At W0 w.heap.size TC (ccl ht h (.slice a n c)) := by rw [e0]; exact At.new w _ _
  have hB : Below w.heap.size w W0 := by rw [e0]; exact Below.alloc (Below.refl _ _) (Nat.le_refl _) _
  have k0 : W0.cell? ⟨w.heap.size, 0, none⟩ = some (.int .i64 ht) := (hA.cell 0).trans (ccl_0 _ _ _)
  have k33 : W0.cell? ⟨w.heap.size, 33, none⟩ = some (.slice a n c) := (hA.cell 33).trans (ccl_33 _ _ _ hl)
  have hXl := hA.lt
  have HA := WirS.hide hA
  have HB := WirS.hide hB
  have HV := WirS.hide hv
  have E0 := WirS.hide e0
  have HL := WirS.hide hlen
  have hC : chk ht vs = if ¬(1 ≤ ht ∧ ht ≤ 1073741824) then 3 else if 64 < n then 4 else chkV (-1) vs := by rw [← hlen]; rfl
  rw [hC]
  clear hA hB e0 hv hlen hC hl
  by_cases h1 : ht < 1
  · have d1 : decide (ht < 1) = true := by simpa using h1
    rw [if_pos (by omega)]
    go_enter Try.func71, Try.ntmps71
    go_upto_region 1 with fail
    rw [← E0.out]
    go_wp2_with fail
    go_ret
    exact ⟨rfl, HB.out⟩
  have d1 : decide (ht < 1) = false := by simpa using h1
  by_cases h2 : 1073741824 < ht
  · have d2 : decide ((1073741824 : Int) < ht) = true := by simpa using h2
    rw [if_pos (by omega)]
    go_enter Try.func71, Try.ntmps71
    go_upto_region 1 with fail
    rw [← E0.out]
    go_wp2_with fail
    go_ret
    exact ⟨rfl, HB.out⟩
  have d2 : decide ((1073741824 : Int) < ht) = false := by simpa using h2
  rw [if_neg (by omega)]
  by_cases h3 : 64 < n
  · have e2 : (64 : Int) < (n : Int) := by omega
    rw [if_pos h3]
    go_enter Try.func71, Try.ntmps71
    go_upto_region 1 with fail
    rw [← E0.out]
    go_wp2_with fail
    go_ret
    exact ⟨rfl, HB.out⟩
  have e2 : ¬ (64 : Int) < (n : Int) := by omega
  rw [if_neg h3]
  have HASC := WirS.hide (asc_any W0)
  go_enter Try.func71, Try.ntmps71
  go_upto_region 1 with fail
  rw [← E0.out]
  go_upto_region 6 with (go_at_call 169; refine (HASC.out).mono ?_; rintro e u0 ⟨rfl, hA, hb⟩; have HST := WirS.hide (show MidK w W0.heap.size vs n (.int .i64 0) u0 from ⟨0, -1, Nat.zero_le _, rfl, hA, rfl, HB.out.trans (hb.mono HB.out.size)⟩); have k33' : u0.cell? ⟨w.heap.size, 33, none⟩ = some (.slice a n c) := (hb.cell (p := ⟨w.heap.size, 33, none⟩) hXl).trans k33; clear hA hb)
  clear k0 k33
  go_wp2_with fail
  go_loopw [23] (fun i wr => MidK w W0.heap.size vs n i wr) (fun i _ => n - (intOf i).toNat)
  case atStart => exact HST.out
  case round =>
    clear HST k33'
    obtain ⟨k, p, hk, rfl, hP, hE, hBw⟩ := hrel
    by_cases hlt : k < n
    · obtain ⟨x, B, o, hx, hmem, rfl, hBl, hr⟩ := (HV.out.below hBw).cell hlt
      have r0 : wr.cell? ⟨B, o + k * 2, none⟩ = some (.int .i64 x.at') := hr 0 _ rfl
      have r1 : wr.cell? ⟨B, o + k * 2 + 1, none⟩ = some (.int .u64 x.sg) := hr 1 _ rfl
      have hkl : (k : Int) < (n : Int) := by omega
      have HB2 := WirS.hide (show Below w.heap.size w (wr.alloc (.cells #[.int .i64 x.at', .int .u64 x.sg] TV)) from hBw.alloc hBw.size _)
      have HNX := WirS.hide (nx_any (wr.alloc (.cells #[.int .i64 x.at', .int .u64 x.sg] TV)) W0.heap.size p x (hP.alloc _))
      rw [drop_get hx, chkV] at hE
      have HWs := WirS.hide (show w.heap.size ≤ W0.heap.size from HB.out.size)
      by_cases h0 : nxE p x = 0
      · have hE2 : chkV (-1) vs = chkV x.at' (vs.drop (k + 1)) := by
          rw [hE]
          unfold nxE at h0
          split at h0
          · exact absurd h0 (by decide)
          rename_i q1
          split at h0
          · exact absurd h0 (by decide)
          rename_i q2
          rw [if_neg q1, if_neg q2]
        rw [h0] at HNX
        have HE := WirS.hide hE2
        clear hr hx hmem hE hE2 h0 hP hBw
        go_wp2_with (go_at_call 222; refine (HNX.out).mono ?_; rintro e u ⟨rfl, hA, hF⟩; have HA2 := WirS.hide (hA rfl); have HU := WirS.hide (HB2.out.trans (hF.below HB2.out.size (fun q hq hx => by have := HWs.out; omega))); clear hA hF)
        go_roundw
        case rel => exact ⟨k + 1, x.at', by omega, by go_num, HA2.out, HE.out, HU.out⟩
        case measure => simp [intOf]; omega
      · have hE2 : chkV (-1) vs = nxE p x := by
          rw [hE]
          unfold nxE at h0 ⊢
          by_cases q1 : ¬(0 ≤ x.at' ∧ x.at' < 64)
          · rw [if_pos q1, if_pos q1]
          · rw [if_neg q1, if_neg q1]
            by_cases q2 : x.at' ≤ p
            · rw [if_pos q2, if_pos q2]
            · rw [if_neg q1, if_neg q2] at h0
              exact absurd rfl h0
        obtain ⟨cd, hcd⟩ : ∃ cd, nxE p x = cd := ⟨_, rfl⟩
        rw [hcd] at h0 hE2 HNX
        have hn0 : (cd == 0) = false := by simpa using h0
        have hn1 : (cd != 0) = true := by simpa using h0
        have HE := WirS.hide hE2
        clear hr hx hmem hE hE2 h0 hP hBw hcd
        go_wp2_with (go_at_call 222; refine (HNX.out).mono ?_; rintro e u ⟨rfl, hA, hF⟩; have HU := WirS.hide (HB2.out.trans (hF.below HB2.out.size (fun q hq hx => by have := HWs.out; omega))); clear hA hF)
        go_ret
        exact ⟨(by rw [HE.out]; rfl), HU.out⟩
    · have hd : vs.drop k = [] := List.drop_eq_nil_of_le (by rw [HL.out]; omega)
      rw [hd, chkV] at hE
      have HE := WirS.hide hE
      have HBB := WirS.hide hBw
      clear hE hBw hP hd
      go_wp2_with fail
      go_ret
      exact ⟨(by rw [HE.out]; rfl), HBB.out⟩
/-- What Of answers. -/
def ofS (k : Int) (vs : List Vt) : Int := (ofV k vs).getD 0
def MidO (w : World) (vs : List Vt) (at0 : Int) (n : Nat) (i : Value) (U : World) : Prop :=
  ∃ k : Nat, k ≤ n ∧ i = .int .i64 (k : Int) ∧ ofV at0 vs = ofV at0 (vs.drop k) ∧ Below w.heap.size w U
set_option maxRecDepth 10000 in
set_option maxHeartbeats 4000000 in
theorem of_any (w : World) (ht : Int) (h : List Int) (a : Option Addr) (n c : Nat) (vs : List Vt) (at0 : Int) (hl : h.length = 32) (hv : VtIn w a n c vs) :
    Calls Try.prog 64 #[.agg (ccl ht h (.slice a n c)).toArray, .int .i64 at0] w fun e w' => e = .returned (.tuple #[.int .u64 (ofS at0 vs), .bool (ofV at0 vs).isSome]) ∧ Below w.heap.size w w' := by
  have hlen := hv.len
  have hns : n ≤ 9223372036854775807 := Nat.le_trans hv.cap hv.small
  obtain ⟨W0, e0⟩ : ∃ X, X = w.alloc (.cells (ccl ht h (.slice a n c)).toArray TC) := ⟨_, rfl⟩
  have hA : At W0 w.heap.size TC (ccl ht h (.slice a n c)) := by rw [e0]; exact At.new w _ _
  have hB : Below w.heap.size w W0 := by rw [e0]; exact Below.alloc (Below.refl _ _) (Nat.le_refl _) _
  have k33 : W0.cell? ⟨w.heap.size, 33, none⟩ = some (.slice a n c) := (hA.cell 33).trans (ccl_33 _ _ _ hl)
  have HV := WirS.hide hv
  have E0 := WirS.hide e0
  have HL := WirS.hide hlen
  have HST := WirS.hide (show MidO w vs at0 n (.int .i64 0) W0 from ⟨0, Nat.zero_le _, rfl, rfl, hB⟩)
  obtain ⟨rs, hrs⟩ : ∃ r, ofS at0 vs = r := ⟨_, rfl⟩
  obtain ⟨rb, hrb⟩ : ∃ r, (ofV at0 vs).isSome = r := ⟨_, rfl⟩
  rw [hrs, hrb]
  have HRS := WirS.hide hrs
  have HRB := WirS.hide hrb
  clear hA hB e0 hv hlen hl hrs hrb
  go_enter Try.func64, Try.ntmps64
  go_upto_region 1 with fail
  rw [← E0.out]
  go_wp2_with fail
  go_loopw [11] (fun i wr => MidO w vs at0 n i wr) (fun i _ => n - (intOf i).toNat)
  case atStart => exact HST.out
  case round =>
    clear HST k33
    obtain ⟨k, hk, rfl, hE, hBw⟩ := hrel
    by_cases hlt : k < n
    · obtain ⟨x, B, o, hx, hmem, rfl, hBl, hr⟩ := (HV.out.below hBw).cell hlt
      have r0 : wr.cell? ⟨B, o + k * 2, none⟩ = some (.int .i64 x.at') := hr 0 _ rfl
      have r1 : wr.cell? ⟨B, o + k * 2 + 1, none⟩ = some (.int .u64 x.sg) := hr 1 _ rfl
      have hkl : (k : Int) < (n : Int) := by omega
      have HB2 := WirS.hide (show Below w.heap.size w (wr.alloc (.cells #[.int .i64 x.at', .int .u64 x.sg] TV)) from hBw.alloc hBw.size _)
      rw [drop_get hx, ofV] at hE
      by_cases h0 : x.at' = at0
      · rw [if_pos h0] at hE
        have d0 : (x.at' == at0) = true := by simpa using h0
        have HE := WirS.hide hE
        clear hr hx hmem hE h0 hBw
        go_wp2_with fail
        refine bodyPost_ret (v := .tuple #[.int .u64 x.sg, .bool true]) (by simp [results, Try.results64, go_sem]) rfl ?_
        exact ⟨by rw [← HRS.out, ← HRB.out, ofS, HE.out]; rfl, HB2.out⟩
      · rw [if_neg h0] at hE
        have d0 : (x.at' == at0) = false := by simpa using h0
        have HE := WirS.hide hE
        clear hr hx hmem hE h0 hBw
        go_wp2_with fail
        go_roundw
        case rel => exact ⟨k + 1, by omega, by go_num, HE.out, HB2.out⟩
        case measure => simp [intOf]; omega
    · have hd : vs.drop k = [] := List.drop_eq_nil_of_le (by rw [HL.out]; omega)
      rw [hd, ofV] at hE
      have HE := WirS.hide hE
      have HBB := WirS.hide hBw
      clear hE hBw hd
      go_wp2_with fail
      refine bodyPost_ret (v := .tuple #[.int .u64 0, .bool false]) (by simp [results, Try.results64, go_sem]) rfl ?_
      exact ⟨by rw [← HRS.out, ← HRB.out, ofS, HE.out]; rfl, HBB.out⟩
end CmB
end Go.Proofs.Ythcemghamdmjmaa

namespace Go.Proofs.Ythcemghamdmjmaa
namespace CmE
open Go.RowKit
open BlkM WirM WirS CmA CmP CmB

def cmpI (x y : Int) : Int := if x < y then -1 else if y < x then 1 else 0
theorem nan_any (w : World) (x : Int) : Calls Try.prog 241 #[.int .i64 x] w fun e w' => e = .returned (.bool false) ∧ w = w' := by
  have d : (x != x) = false := by simp
  go_enter Try.func241, Try.ntmps241
  go_wp2_with fail
  go_ret
  exact ⟨rfl, rfl⟩
theorem cmp_any (w : World) (x y : Int) : Calls Try.prog 226 #[.int .i64 x, .int .i64 y] w fun e w' => e = .returned (.int .i64 (cmpI x y)) ∧ w = w' := by
  have HN := WirS.hide (fun U z => nan_any U z)
  unfold cmpI
  by_cases h1 : x < y
  · have d1 : decide (x < y) = true := by simpa using h1
    rw [if_pos h1]
    go_enter Try.func226, Try.ntmps226
    go_wp2_with (go_at_call 241; refine (HN.out _ _).mono ?_; rintro e u ⟨rfl, rfl⟩)
    go_ret
    exact ⟨rfl, rfl⟩
  · have d1 : decide (x < y) = false := by simpa using h1
    rw [if_neg h1]
    by_cases h2 : y < x
    · have d2 : decide (y < x) = true := by simpa using h2
      rw [if_pos h2]
      go_enter Try.func226, Try.ntmps226
      go_wp2_with (go_at_call 241; refine (HN.out _ _).mono ?_; rintro e u ⟨rfl, rfl⟩)
      go_ret
      exact ⟨rfl, rfl⟩
    · have d2 : decide (y < x) = false := by simpa using h2
      rw [if_neg h2]
      go_enter Try.func226, Try.ntmps226
      go_wp2_with (go_at_call 241; refine (HN.out _ _).mono ?_; rintro e u ⟨rfl, rfl⟩)
      go_ret
      exact ⟨rfl, rfl⟩
theorem f1_any (w : World) (v : Vt) (k : Int) : Calls Try.prog 225 #[.agg #[.int .i64 v.at', .int .u64 v.sg], .int .i64 k] w fun e w' => e = .returned (.int .i64 (cmpI v.at' k)) ∧ Below w.heap.size w w' := by
  obtain ⟨W0, e0⟩ : ∃ X, X = w.alloc (.cells #[.int .i64 v.at', .int .u64 v.sg] TV) := ⟨_, rfl⟩
  have hA : At W0 w.heap.size TV v.cells := by rw [e0]; exact At.new w _ _
  have k0 : W0.cell? ⟨w.heap.size, 0, none⟩ = some (.int .i64 v.at') := hA.cell 0
  have HB := WirS.hide (show Below w.heap.size w W0 by rw [e0]; exact Below.alloc (Below.refl _ _) (Nat.le_refl _) _)
  have E0 := WirS.hide e0
  have HC := WirS.hide (fun U => cmp_any U v.at' k)
  generalize cmpI v.at' k = r at *
  clear hA e0
  go_enter Try.func225, Try.ntmps225
  go_upto_region 1 with fail
  rw [← E0.out]
  go_wp2_with (go_at_call 226; refine (HC.out _).mono ?_; rintro e u ⟨rfl, rfl⟩)
  go_ret
  exact ⟨rfl, HB.out⟩
theorem has_cut {vs : List Vt} (h : Up vs) (k : Int) : (ofV k vs).isSome = decide ((vs[cut k vs]?.map (·.at')) = some k) := by
  rw [at_cut h k]
  by_cases e : (vs[cut k vs]?.map (·.at')) = some k
  · rw [if_pos e, decide_eq_true e]
    obtain ⟨x, hx, _⟩ := Option.map_eq_some_iff.1 e
    rw [hx]
    rfl
  · rw [if_neg e, decide_eq_false e]
    rfl
structure Br (vs : List Vt) (k : Int) (n i j : Nat) : Prop where
  ij : i ≤ j
  jn : j ≤ n
  lo : ∀ t x, t < i → vs[t]? = some x → x.at' < k
  hi : ∀ t x, j ≤ t → vs[t]? = some x → k ≤ x.at'
theorem Br.up {vs : List Vt} {k : Int} {n i j h : Nat} (b : Br vs k n i j) (hu : Up vs) (h2 : h < j) (x : Vt) (hx : vs[h]? = some x) (hk : x.at' < k) : Br vs k n (h + 1) j := by
  refine ⟨by omega, b.jn, fun t y ht hy => ?_, b.hi⟩
  by_cases e : t = h
  · subst e
    rw [hx] at hy
    cases hy
    exact hk
  · obtain ⟨l1, e1⟩ := List.getElem?_eq_some_iff.1 hy
    obtain ⟨l2, e2⟩ := List.getElem?_eq_some_iff.1 hx
    have := List.pairwise_iff_getElem.1 hu.asc t h l1 l2 (by omega)
    rw [e1, e2] at this
    omega
theorem Br.down {vs : List Vt} {k : Int} {n i j h : Nat} (b : Br vs k n i j) (hu : Up vs) (h1 : i ≤ h) (h2 : h < j) (x : Vt) (hx : vs[h]? = some x) (hk : k ≤ x.at') : Br vs k n i h := by
  have hj := b.jn
  refine ⟨h1, by omega, b.lo, fun t y ht hy => ?_⟩
  by_cases e : t = h
  · subst e
    rw [hx] at hy
    cases hy
    exact hk
  · obtain ⟨l1, e1⟩ := List.getElem?_eq_some_iff.1 hy
    obtain ⟨l2, e2⟩ := List.getElem?_eq_some_iff.1 hx
    have := List.pairwise_iff_getElem.1 hu.asc h t l2 l1 (by omega)
    rw [e1, e2] at this
    omega
def MidF (w : World) (vs : List Vt) (k : Int) (n : Nat) (i j : Value) (U : World) : Prop :=
  ∃ i' j' : Nat, i = .int .i64 (i' : Int) ∧ j = .int .i64 (j' : Int) ∧ Br vs k n i' j' ∧ Below w.heap.size w U
set_option maxRecDepth 10000 in
set_option maxHeartbeats 4000000 in
theorem bs_any (w : World) (a : Option Addr) (n c : Nat) (vs : List Vt) (k : Int) (hv : VtIn w a n c vs) (hu : Up vs) (hn : n ≤ 1000000) :
    Calls Try.prog 224 #[.slice a n c, .int .i64 k, .func (.func 225) #[] #[]] w fun e w' => e = .returned (.tuple #[.int .i64 ((cut k vs : Nat) : Int), .bool (ofV k vs).isSome]) ∧ Below w.heap.size w w' := by
  have hlen := hv.len
  have HV := WirS.hide hv
  have HL := WirS.hide hlen
  have HU := WirS.hide hu
  have HF := WirS.hide (fun U x => f1_any U x k)
  have HST := WirS.hide (show MidF w vs k n (.int .i64 0) (.int .i64 (n : Int)) w from ⟨0, n, rfl, rfl, ⟨Nat.zero_le _, Nat.le_refl _, fun t x ht => absurd ht (by omega), fun t x ht hx => by rw [List.getElem?_eq_none (by omega)] at hx; cases hx⟩, Below.refl _ _⟩)
  clear hv hlen hu
  go_enter Try.func224, Try.ntmps224
  go_wp2_with fail
  go_loopw [9, 10] (fun i j wr => MidF w vs k n i j wr) (fun i j _ => (intOf j).toNat - (intOf i).toNat)
  case atStart => exact HST.out
  case round =>
    clear HST
    obtain ⟨i, j, rfl, rfl, hbr, hBw⟩ := hrel
    have hij := hbr.ij
    have hjn := hbr.jn
    have HBR := WirS.hide hbr
    have HBW := WirS.hide hBw
    clear hbr
    by_cases hlt : i < j
    · have hlt2 : (i : Int) < (j : Int) := by omega
      obtain ⟨s, hs⟩ : ∃ s, i + j = s := ⟨_, rfl⟩
      obtain ⟨h, hh⟩ : ∃ h, s / 2 = h := ⟨_, rfl⟩
      have f1 : IntKind.i64.wrap ((i : Int) + (j : Int)) = (s : Int) := by rw [IntWalk.i64_in _ (by omega)]; omega
      have f2 : IntKind.u64.wrap (s : Int) = (s : Int) := by rw [IntKind.wrap_u64]; omega
      have f3 : (s : Int) / 2 = (h : Int) := by omega
      have f4 : IntKind.i64.wrap (h : Int) = (h : Int) := IntWalk.i64_in _ (by omega)
      have g1 : i ≤ h := by omega
      have g2 : h < j := by omega
      have g3 : h < n := by omega
      have g4 : (h : Int) < (n : Int) := by omega
      obtain ⟨x, B, o, hx, hmem, rfl, hBl, hr⟩ := (HV.out.below hBw).cell g3
      have r0 : wr.cell? ⟨B, o + h * 2, none⟩ = some (.int .i64 x.at') := hr 0 _ rfl
      have r1 : wr.cell? ⟨B, o + h * 2 + 1, none⟩ = some (.int .u64 x.sg) := hr 1 _ rfl
      have HX := WirS.hide hx
      have HIJ := WirS.hide (And.intro hij (And.intro hjn hlt))
      have HG := WirS.hide (And.intro g1 (And.intro g2 g3))
      clear hr hx hmem hBw hs hh g1 g2 g3 hij hjn hlt
      by_cases hk : x.at' < k
      · have hc : cmpI x.at' k = -1 := by unfold cmpI; rw [if_pos hk]
        have HC := WirS.hide (fun U => hc ▸ HF.out U x)
        have HK := WirS.hide hk
        clear hk hc
        go_wp2_with (go_at_call 225; refine (HC.out _).mono ?_; rintro e u ⟨rfl, hb⟩; have HB2 := WirS.hide (HBW.out.trans (hb.mono HBW.out.size)); clear hb)
        go_roundw
        case rel => exact ⟨h + 1, j, by go_num, rfl, HBR.out.up HU.out HG.out.2.1 x HX.out HK.out, HB2.out⟩
        case measure => have := HG.out; have := HIJ.out; simp [intOf]; omega
      · have hc : 0 ≤ cmpI x.at' k := by unfold cmpI; rw [if_neg hk]; split <;> omega
        obtain ⟨r, hr⟩ : ∃ r, cmpI x.at' k = r := ⟨_, rfl⟩
        rw [hr] at hc
        have HC := WirS.hide (fun U => hr ▸ HF.out U x)
        have HK := WirS.hide hk
        have d0 : ¬ r < 0 := by omega
        clear hk hr
        go_wp2_with (go_at_call 225; refine (HC.out _).mono ?_; rintro e u ⟨rfl, hb⟩; have HB2 := WirS.hide (HBW.out.trans (hb.mono HBW.out.size)); clear hb)
        go_roundw
        case rel => exact ⟨i, h, rfl, rfl, HBR.out.down HU.out HG.out.1 HG.out.2.1 x HX.out (by have := HK.out; omega), HB2.out⟩
        case measure => have := HG.out; have := HIJ.out; simp [intOf]; omega
    · obtain rfl : i = j := by omega
      have hcut : cut k vs = i := cut_of k vs i (by rw [HL.out]; exact hjn) HBR.out.lo (fun x hx => HBR.out.hi i x (Nat.le_refl _) hx)
      have hhas := has_cut HU.out k
      rw [hcut] at hhas
      have HCUT := WirS.hide hcut
      have HHAS := WirS.hide hhas
      clear hcut hhas hij hlt
      by_cases hin : i < n
      · have d1 : decide ((i : Int) < (n : Int)) = true := by simp; omega
        obtain ⟨x, B, o, hx, hmem, rfl, hBl, hr⟩ := (HV.out.below hBw).cell hin
        have r0 : wr.cell? ⟨B, o + i * 2, none⟩ = some (.int .i64 x.at') := hr 0 _ rfl
        have r1 : wr.cell? ⟨B, o + i * 2 + 1, none⟩ = some (.int .u64 x.sg) := hr 1 _ rfl
        have g4 : (i : Int) < (n : Int) := by omega
        have hge := HBR.out.hi i x (Nat.le_refl _) hx
        obtain ⟨q, hq⟩ : ∃ q : Bool, (cmpI x.at' k == 0) = q := ⟨_, rfl⟩
        have hq2 : (ofV k vs).isSome = q := by
          rw [HHAS.out, hx, ← hq]
          unfold cmpI
          rw [if_neg (by omega)]
          by_cases e : k < x.at'
          · rw [if_pos e]
            simp
            omega
          · rw [if_neg e]
            simp
            omega
        have HC := WirS.hide (fun U => HF.out U x)
        generalize cmpI x.at' k = r at *
        have HQ := WirS.hide hq2
        clear hr hx hmem hBw hge hq2 hin
        have hq0 : (r == 0) = q := hq
        clear hq
        cases q
        · go_wp2_with (go_at_call 225; refine (HC.out _).mono ?_; rintro e u ⟨rfl, hb⟩; have HB2 := WirS.hide (HBW.out.trans (hb.mono HBW.out.size)); clear hb)
          refine bodyPost_ret (v := .tuple #[.int .i64 (i : Int), .bool false]) (by simp [results, Try.results224, go_sem]) rfl ?_
          exact ⟨by rw [HCUT.out, HQ.out], HB2.out⟩
        · go_wp2_with (go_at_call 225; refine (HC.out _).mono ?_; rintro e u ⟨rfl, hb⟩; have HB2 := WirS.hide (HBW.out.trans (hb.mono HBW.out.size)); clear hb)
          refine bodyPost_ret (v := .tuple #[.int .i64 (i : Int), .bool true]) (by simp [results, Try.results224, go_sem]) rfl ?_
          exact ⟨by rw [HCUT.out, HQ.out], HB2.out⟩
      · have d1 : decide ((i : Int) < (n : Int)) = false := by simp; omega
        have d2 : ¬ ((i : Int) < (n : Int)) := by omega
        have hq2 : (ofV k vs).isSome = false := by
          rw [HHAS.out, List.getElem?_eq_none (by rw [HL.out]; omega)]
          rfl
        have HQ := WirS.hide hq2
        clear hBw hin hq2
        go_wp2_with fail
        refine bodyPost_ret (v := .tuple #[.int .i64 (i : Int), .bool false]) (by simp [results, Try.results224, go_sem]) rfl ?_
        exact ⟨by rw [HCUT.out, HQ.out], HBW.out⟩
theorem find_any (w : World) (a : Option Addr) (n c : Nat) (vs : List Vt) (k : Int) (hv : VtIn w a n c vs) (hu : Up vs) (hn : n ≤ 1000000) :
    Calls Try.prog 173 #[.slice a n c, .int .i64 k] w fun e w' => e = .returned (.tuple #[.int .i64 ((cut k vs : Nat) : Int), .bool (ofV k vs).isSome]) ∧ Below w.heap.size w w' := by
  have HC := WirS.hide (bs_any w a n c vs k hv hu hn)
  generalize (cut k vs : Nat) = q at *
  generalize (ofV k vs).isSome = r at *
  clear hv hu
  go_enter Try.func173, Try.ntmps173
  go_wp2_with (go_at_call 224; refine (HC.out).mono ?_; rintro e u ⟨rfl, hb⟩)
  refine bodyPost_ret (v := .tuple #[.int .i64 (q : Int), .bool r]) (by simp [results, Try.results173, go_sem]) rfl ?_
  exact ⟨rfl, hb⟩
end CmE
end Go.Proofs.Ythcemghamdmjmaa

