/-
  Votes as cells; a list of them that comes in; a list of memory of its own; append of rows.
-/
import Derived.Test.YtplinpbmncccoaaWirS
import Derived.Deep.MidRow
import Derived.Deep.AppendSrc
namespace Go.Proofs.Ytplinpbmncccoaa
namespace CmA
open Go.RowKit
open BlkM WirM WirS

/-- A vote: its place, its signature. -/
structure Vt where
  at' : Int
  sg : Int
def Vt.cells (v : Vt) : List Value := [.int .i64 v.at', .int .u64 v.sg]
structure Vt.ok (v : Vt) : Prop where
  a : -9223372036854775808 ≤ v.at' ∧ v.at' < 9223372036854775808
  s : 0 ≤ v.sg ∧ v.sg < 18446744073709551616
theorem Vt.eq_of {x y : Vt} (h : x.at' = y.at') (hp : x.sg = y.sg) : x = y := by
  cases x
  cases y
  simp_all
def cellsL (vs : List Vt) : List Value := vs.flatMap Vt.cells
theorem cells_len (v : Vt) : v.cells.length = 2 := rfl
theorem cellsL_len : ∀ vs : List Vt, (cellsL vs).length = vs.length * 2
  | [] => rfl
  | x :: l => by
    have : cellsL (x :: l) = x.cells ++ cellsL l := by simp [cellsL]
    rw [this, List.length_append, cellsL_len l, cells_len, List.length_cons]
    omega
theorem cellsL_app (a b : List Vt) : cellsL (a ++ b) = cellsL a ++ cellsL b := by simp [cellsL]
theorem cellsL_get : ∀ (vs : List Vt) (i : Nat) (x : Vt), vs[i]? = some x → ∀ j v, x.cells[j]? = some v → (cellsL vs)[i * 2 + j]? = some v
  | [], i, x, h => by simp at h
  | y :: l, 0, x, h => fun j v hj => by
    have e : cellsL (y :: l) = y.cells ++ cellsL l := by simp [cellsL]
    simp at h
    subst h
    have hj2 : j < y.cells.length := (List.getElem?_eq_some_iff.1 hj).1
    rw [e, Nat.zero_mul, Nat.zero_add, List.getElem?_append_left hj2]
    exact hj
  | y :: l, i + 1, x, h => fun j v hj => by
    have e : cellsL (y :: l) = y.cells ++ cellsL l := by simp [cellsL]
    have h' : l[i]? = some x := by simpa using h
    rw [e, List.getElem?_append_right (by rw [cells_len]; omega), cells_len, show (i + 1) * 2 + j - 2 = i * 2 + j by omega]
    exact cellsL_get l i x h' j v hj
theorem one_cells (vs : List Vt) : ∀ u ∈ cellsL vs, u.oneCell' = true := by
  intro u hu
  simp only [cellsL, List.mem_flatMap] at hu
  obtain ⟨x, _, hx⟩ := hu
  simp [Vt.cells] at hx
  rcases hx with rfl | rfl <;> rfl

/-- A list of votes, as it comes in. -/
structure VtIn (w : World) (a : Option Addr) (n c : Nat) (vs : List Vt) : Prop where
  len : vs.length = n
  cap : n ≤ c
  small : c ≤ 9223372036854775807
  row : 0 < n → ∃ B o, a = some ⟨B, o, none⟩ ∧ B < w.heap.size ∧ ∀ (i : Nat) (x : Vt), vs[i]? = some x → w.rangeAt B (o + i * 2) x.cells
  ok : ∀ x ∈ vs, x.ok
theorem VtIn.nil (w : World) (a : Option Addr) (c : Nat) (hc : c ≤ 9223372036854775807) : VtIn w a 0 c [] := ⟨rfl, Nat.zero_le _, hc, fun h => absurd h (by decide), fun x h => by cases h⟩
/-- Where its block is not among those that may change, it stands. -/
theorem VtIn.fr {X : Nat → Prop} {w w' : World} {a : Option Addr} {n c : Nat} {vs : List Vt} (h : VtIn w a n c vs) (hf : Fr X w w') (ho : Off X (.slice a n c)) : VtIn w' a n c vs := by
  refine ⟨h.len, h.cap, h.small, fun hp => ?_, h.ok⟩
  obtain ⟨B, o, e, hB, hr⟩ := h.row hp
  have hX : ¬ X B := ho B (by subst e; rfl)
  exact ⟨B, o, e, Nat.lt_of_lt_of_le hB hf.size, fun i x hx j v hj => (hf.cell (p := ⟨B, _, none⟩) hB hX).trans (hr i x hx j v hj)⟩
theorem VtIn.below {w w' : World} {a : Option Addr} {n c : Nat} {vs : List Vt} (h : VtIn w a n c vs) (hb : Below w.heap.size w w') : VtIn w' a n c vs := h.fr (X := fun _ => False) (Fr.of_below hb) (fun _ _ h => h)
theorem VtIn.cell {w : World} {a : Option Addr} {n c : Nat} {vs : List Vt} (h : VtIn w a n c vs) {i : Nat} (hi : i < n) : ∃ (x : Vt) (B o : Nat), vs[i]? = some x ∧ x ∈ vs ∧ a = some ⟨B, o, none⟩ ∧ B < w.heap.size ∧ w.rangeAt B (o + i * 2) x.cells := by
  obtain ⟨B, o, e, hB, hr⟩ := h.row (by omega)
  have hx : vs[i]? = some (vs[i]'(by rw [h.len]; exact hi)) := List.getElem?_eq_getElem _
  exact ⟨_, B, o, hx, List.getElem_mem _, e, hB, hr i _ hx⟩
/-- Without its first one. -/
theorem VtIn.tail {w : World} {B o n c : Nat} {x : Vt} {vs : List Vt} (h : VtIn w (some ⟨B, o, none⟩) (n + 1) c (x :: vs)) : VtIn w (some ⟨B, o + 2, none⟩) n (c - 1) vs := by
  have h1 := h.len
  have h2 := h.cap
  have h3 := h.small
  refine ⟨by simpa using h1, by omega, by omega, fun hp => ?_, fun y hy => h.ok y (by simp [hy])⟩
  obtain ⟨B', o', e, hB, hr⟩ := h.row (by omega)
  cases e
  exact ⟨B, o + 2, rfl, hB, fun i y hy => by
    have := hr (i + 1) y (by simpa using hy)
    rwa [show o + (i + 1) * 2 = o + 2 + i * 2 by omega] at this⟩
/-- As a source of append. -/
theorem VtIn.src {w : World} {a : Option Addr} {n c : Nat} {vs : List Vt} {tx e' : TypeId} (h : VtIn w a n c vs) (hk : Try.prog.underlying tx = some (.slice e')) : Src Try.prog 2 tx (.slice a n c) vs.length (cellsL vs) w := by
  have hl := h.len
  by_cases h0 : n = 0
  · subst h0
    obtain rfl : vs = [] := List.eq_nil_of_length_eq_zero hl
    cases a with
    | none => exact Src.ofNil w hk c
    | some a => exact Src.ofSlice w hk a 0 c [] rfl (fun j u hj => by simp at hj) (fun _ h => by cases h)
  · obtain ⟨B, o, rfl, hB, hr⟩ := h.row (by omega)
    have := Src.ofSlice (P := Try.prog) (size := 2) w hk ⟨B, o, none⟩ n c (cellsL vs) (by rw [cellsL_len, hl]) (fun j u hj => by
      have hj2 : j < vs.length * 2 := by
        have := (List.getElem?_eq_some_iff.1 hj).1
        rwa [cellsL_len] at this
      have hx : vs[j / 2]? = some (vs[j / 2]'(by omega)) := List.getElem?_eq_getElem _
      have hc : (vs[j / 2]'(by omega)).cells[j % 2]? = some ((vs[j / 2]'(by omega)).cells[j % 2]'(by rw [cells_len]; omega)) := List.getElem?_eq_getElem _
      have h1 := cellsL_get vs (j / 2) _ hx (j % 2) _ hc
      have h2 := hr (j / 2) _ hx (j % 2) _ hc
      rw [show j / 2 * 2 + j % 2 = j by omega, hj] at h1
      rw [Addr.add_mid, show o + j = o + j / 2 * 2 + j % 2 by omega, h2, h1]) (one_cells vs)
    rw [hl]
    exact this

/-! ### append of rows -/
theorem app_row {P : Program} (w : World) (t tx ty e : TypeId) (i : TypeInfo) (z : Value) (ht : P.underlying t = some (.slice e)) (hi : P.info? e = some i) (hz : i.zero = some z) (sz : Nat) (hs1 : i.size = sz) (hb1 : i.bytes ≤ 64) (hzs : z.cells.size = sz)
    (v x : Value) (n m : Nat) (olds news : List Value) (hO : w.ownsRow 0 e sz v n olds) (hx : Src P sz tx x m news w) (hlen : n + m ≤ 1073741824) :
    ∃ v' w', (Builtin.append_ #[t, tx] ty #[v, x]).run P w = .ok v' w' ∧ w'.ownsRow 0 e sz v' (n + m) (olds ++ news) ∧ Fr (fun k => v.ownBlock = some k) w w' ∧ NewOr w v v' := by
  subst hs1
  have hol := hO.1
  have hnl := hx.newsLen
  have hfit : (n + m) * i.bytes ≤ 140737488355328 := Nat.le_trans (Nat.mul_le_mul hlen hb1) (by decide)
  have hsum : (olds ++ news).length = (n + m) * i.size := by rw [List.length_append, hol, hnl, Nat.add_mul]
  have grown : ∀ (old : Nat), old < n + m → ∀ (row : Nat → Prop),
      (w.drew.alloc (.cells ((olds ++ news).toArray ++ Builtin.zeroCells z.cells (grownCap w (n + m) old e - (n + m))) e)).ownsRow 0 e i.size
        (.slice (some ⟨w.heap.size, 0, none⟩) (n + m) (grownCap w (n + m) old e)) (n + m) (olds ++ news) ∧
      Fr row w (w.drew.alloc (.cells ((olds ++ news).toArray ++ Builtin.zeroCells z.cells (grownCap w (n + m) old e - (n + m))) e)) := by
    intro old ho row
    have hge := grownCap_ge w (n + m) old e
    have hcm : grownCap w (n + m) old e ≤ maxLen := grownCap_le_maxLen w (n + m) old e (by unfold maxLen; omega)
    refine ⟨⟨hsum, .inr ⟨w.heap.size, _, _, rfl, Nat.zero_le _, heap_alloc_new w.drew _, hge, hcm, ?_, ?_⟩⟩, (Fr.refl row w).drew.alloc _⟩
    · rw [Array.size_append, List.size_toArray, hsum, size_zeroCells, hzs, ← Nat.add_mul]
      congr 1
      omega
    · simp only [Array.toList_append]
      exact List.take_left' hsum
  obtain ⟨hl, ⟨rfl, hz0⟩ | ⟨g, cap, cur, rfl, hb, hg, h1, h2, h3, h4⟩⟩ := hO
  · subst hz0
    have he : olds = [] := List.eq_nil_of_length_eq_zero (by rw [hl]; simp)
    subst he
    by_cases hm : m = 0
    · subst hm
      have hn : news = [] := List.eq_nil_of_length_eq_zero (by rw [hnl]; simp)
      subst hn
      refine ⟨.slice none 0 0, w, ?_, World.ownsRow_nil w 0 e i.size, Fr.refl _ w, NewOr.refl w _⟩
      have hc := hx.cells
      have hL := hx.len
      rcases hx.kind with ⟨e', hk⟩ | hk <;> simp [Builtin.append_, run_underlying ht, run_underlying hk, sizeOf, typeInfo, hi, hL] <;> simp_all
    · have hr := run_append_grow_src (P := P) w t tx ty e i z ht hi hz none 0 0 [] (run_firstCells_none w.drew i.size 0 0 0) x m news hx (by omega) (by omega) (growslice_fits (by omega) (by simpa using hfit))
      have hgr := grown 0 (by omega) (fun k => (Value.slice none 0 0).ownBlock = some k)
      simp only [Nat.zero_add, List.nil_append] at hgr hr ⊢
      exact ⟨_, _, hr, hgr.1, hgr.2, fun k hk => .inr (by simp [Value.ownBlock] at hk; omega)⟩
  · by_cases hroom : n + m ≤ cap
    · have hg' : w.heap[g]? = some (.cells cur.toList.toArray e (0, 0)) := by simpa using hg
      have hcl : cur.toList.length = cap * i.size := by simp [h3]
      have hin0 : n * i.size + m * i.size ≤ cap * i.size := by rw [← Nat.add_mul]; exact Nat.mul_le_mul_right _ hroom
      have hin : ∀ j, j < news.length → (w.cell? ⟨g, 0 + n * i.size + j, none⟩).isSome = true := fun j hj => by
        rw [hnl] at hj
        simp only [World.cell?, hg, Nat.zero_add]
        simp [h3]
        omega
      have hr := run_append_room_src (P := P) w t tx ty e i ht hi g 0 n cap x m news hx hroom hin (fun j _ => by simp [World.frozen?, hg])
      simp only [Nat.zero_add] at hr
      have hA := heap_setCells_one g e news (n * i.size) cur.toList w hg' (by rw [hnl, hcl]; exact hin0)
      refine ⟨_, _, hr, ⟨hsum, .inr ⟨g, cap, _, rfl, Nat.zero_le _, hA, hroom, h2, ?_, ?_⟩⟩, ?_, NewOr.refl w _⟩
      · simp only [List.size_toArray, List.length_append, List.length_take, List.length_drop, hnl, Array.length_toList, h3]
        omega
      · have := putL_take news cur.toList (n * i.size) (by rw [hnl, hcl]; exact hin0)
        rw [Nat.add_mul, ← hnl]
        rw [this]
        congr 1
      · exact (fr_setCells g news (n * i.size) w w (Fr.refl _ w)).mono (fun k _ hk => by subst hk; rfl)
    · have holds : ∀ j u, olds[j]? = some u → w.drew.cell? ((⟨g, 0, none⟩ : Addr).add j) = some u := fun j u hj => by
        have := World.ownsRow.cells (w := w) (base := 0) (e := e) (size := i.size) (v := .slice (some ⟨g, 0, none⟩) n cap) ⟨hl, .inr ⟨g, cap, cur, rfl, hb, hg, h1, h2, h3, h4⟩⟩ (g := g) rfl j u hj
        simpa using this
      have hr := run_append_grow_src (P := P) w t tx ty e i z ht hi hz (some ⟨g, 0, none⟩) n cap olds (run_firstCells_some w.drew i.size n ⟨g, 0, none⟩ n cap olds hol holds) x m news hx (by omega) (by omega) (growslice_fits (by omega) hfit)
      have hgr := grown cap (by omega) (fun k => (Value.slice (some ⟨g, 0, none⟩) n cap).ownBlock = some k)
      exact ⟨_, _, hr, hgr.1, hgr.2, fun k hk => .inr (by simp [Value.ownBlock] at hk; omega)⟩

/-- A list of votes in memory of its own. -/
structure OwnT (w : World) (v : Value) (vs : List Vt) : Prop where
  own : w.ownsRow 0 113 2 v vs.length (cellsL vs)
  ok : ∀ x ∈ vs, x.ok
theorem OwnT.nil (w : World) : OwnT w (.slice none 0 0) [] := ⟨World.ownsRow_nil w 0 _ 2, fun _ h => by cases h⟩
theorem OwnT.lt {w : World} {v : Value} {vs : List Vt} (h : OwnT w v vs) : ∀ k, v.ownBlock = some k → k < w.heap.size := by
  obtain ⟨⟨_, ⟨rfl, _⟩ | ⟨g, cap, cur, rfl, _, hg, _⟩⟩, _⟩ := h
  · intro k hk
    simp [Value.ownBlock] at hk
  · intro k hk
    simp [Value.ownBlock] at hk
    subst hk
    exact (Array.getElem?_eq_some_iff.1 hg).1
theorem OwnT.fr {X : Nat → Prop} {w w' : World} {v : Value} {vs : List Vt} (h : OwnT w v vs) (hf : Fr X w w') (ho : Off X v) : OwnT w' v vs := by
  have hlt := h.lt
  obtain ⟨⟨hl, ⟨rfl, h0⟩ | ⟨g, cap, cur, rfl, hb, hg, hr⟩⟩, hok⟩ := h
  · exact ⟨⟨hl, .inl ⟨rfl, h0⟩⟩, hok⟩
  · exact ⟨⟨hl, .inr ⟨g, cap, cur, rfl, hb, (hf.block g (hlt g rfl) (ho g rfl)).trans hg, hr⟩⟩, hok⟩
theorem OwnT.below {w w' : World} {v : Value} {vs : List Vt} (h : OwnT w v vs) (hb : Below w.heap.size w w') : OwnT w' v vs := h.fr (X := fun _ => False) (Fr.of_below hb) (fun _ _ h => h)
theorem OwnT.len_of {w : World} {v : Value} {vs : List Vt} (h : OwnT w v vs) : ∃ a cap, v = .slice a vs.length cap := by
  obtain ⟨⟨_, ⟨rfl, h0⟩ | ⟨g, cap, cur, rfl, _⟩⟩, _⟩ := h
  · exact ⟨none, 0, by rw [h0]⟩
  · exact ⟨_, _, rfl⟩
theorem OwnT.vin {w : World} {a : Option Addr} {n c : Nat} {vs : List Vt} (h : OwnT w (.slice a n c) vs) : VtIn w a n c vs := by
  have hlt := h.lt
  have hc := fun g => World.ownsRow.cells (w := w) (base := 0) (e := 113) (size := 2) (v := .slice a n c) (n := vs.length) (xs := cellsL vs) h.own (g := g)
  obtain ⟨⟨hl, ⟨e, h0⟩ | ⟨g, cap, cur, e, hb, hg, h1, h2, h3, h4⟩⟩, hok⟩ := h
  · cases e
    obtain rfl : vs = [] := List.eq_nil_of_length_eq_zero h0
    exact VtIn.nil w none 0 (by decide)
  · cases e
    refine ⟨rfl, h1, by unfold maxLen at h2; omega, fun hp => ⟨g, 0, rfl, hlt g rfl, fun i x hx j v hj => ?_⟩, hok⟩
    have h5 := cellsL_get vs i x hx j v hj
    have h6 := hc g rfl _ _ h5
    rw [Addr.add_mid] at h6
    rw [show 0 + i * 2 + j = 0 + (i * 2 + j) by omega]
    exact h6
/-- append of votes onto memory of its own. -/
theorem app_votes (w : World) (tx ty : TypeId) (v x : Value) (olds news : List Vt) (hO : OwnT w v olds) (hx : Src Try.prog 2 tx x news.length (cellsL news) w) (hok : ∀ y ∈ news, y.ok) (hlen : olds.length + news.length ≤ 1073741824) :
    ∃ v' w', (Builtin.append_ #[93, tx] ty #[v, x]).run Try.prog w = .ok v' w' ∧ OwnT w' v' (olds ++ news) ∧ Fr (fun k => v.ownBlock = some k) w w' ∧ NewOr w v v' := by
  obtain ⟨i0, hi, hz0, hz1, hz2⟩ := info_parts (show (Try.prog.info? 113).map (fun i => (i.zero, i.size, i.bytes)) = some (some (.agg #[.int .i64 0, .int .u64 0]), 2, 16) by kernel_rfl)
  obtain ⟨v', w', h1, h2, h3, h4⟩ := app_row (P := Try.prog) w 93 tx ty 113 i0 _ Try.underlying93 hi hz0 2 hz1 (by omega) rfl v x olds.length news.length (cellsL olds) (cellsL news) hO.own hx hlen
  refine ⟨v', w', h1, ⟨?_, fun y hy => ?_⟩, h3, h4⟩
  · rw [List.length_append, cellsL_app]
    exact h2
  · rcases List.mem_append.1 hy with hy | hy
    · exact hO.ok y hy
    · exact hok y hy
/-- One vote in a variable of its own, as a source. -/
theorem src_one {w : World} {tx e' : TypeId} (hk : Try.prog.underlying tx = some (.slice e')) (g o c : Nat) (x : Vt) (h : w.rangeAt g o x.cells) : Src Try.prog 2 tx (.slice (some ⟨g, o, none⟩) 1 c) 1 (cellsL [x]) w := by
  have e : cellsL [x] = x.cells := by simp [cellsL]
  exact Src.ofSlice w hk ⟨g, o, none⟩ 1 c (cellsL [x]) (by rw [cellsL_len]; rfl) (fun j u hj => by rw [Addr.add_mid]; rw [e] at hj; exact h j u hj) (one_cells [x])
end CmA
end Go.Proofs.Ytplinpbmncccoaa
