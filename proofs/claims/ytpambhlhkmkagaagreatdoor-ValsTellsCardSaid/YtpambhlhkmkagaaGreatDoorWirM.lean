/-
  Frames (which blocks of a world may have changed), slices of the call's own, and what append makes of one, whatever is appended. (No function of the program.)
-/
import Derived.Test.YtpambhlhkmkagaaGreatDoorBlkM
import Derived.Deep.AppendSrc
import Derived.Laws.AppendOwn
import Derived.Laws.IdiomCopy
import Derived.Lib.Hide
namespace Go.Proofs.YtpambhlhkmkagaaGreatDoor
namespace WirM
open Go Go.RowKit BlkM

/-! ### Frames -/
/-- Of the blocks that stood, only those in X may have changed. -/
structure Fr (X : Nat → Prop) (w w' : World) : Prop where
  os : w'.os = w.os
  tape : w'.tape = w.tape
  output : w'.output = w.output
  size : w.heap.size ≤ w'.heap.size
  block : ∀ k, k < w.heap.size → ¬ X k → w'.heap[k]? = w.heap[k]?
theorem Fr.refl (X : Nat → Prop) (w : World) : Fr X w w := ⟨rfl, rfl, rfl, Nat.le_refl _, fun _ _ _ => rfl⟩
theorem Fr.trans {X : Nat → Prop} {a b c : World} (h : Fr X a b) (k : Fr X b c) : Fr X a c :=
  ⟨k.os.trans h.os, k.tape.trans h.tape, k.output.trans h.output, Nat.le_trans h.size k.size, fun i hi hx => (k.block i (Nat.lt_of_lt_of_le hi h.size) hx).trans (h.block i hi hx)⟩
/-- Two steps, the second of which may change blocks that the first made. -/
theorem Fr.trans' {X Y : Nat → Prop} {a b c : World} (h : Fr X a b) (k : Fr Y b c) (hY : ∀ i, i < a.heap.size → Y i → X i) : Fr X a c :=
  ⟨k.os.trans h.os, k.tape.trans h.tape, k.output.trans h.output, Nat.le_trans h.size k.size, fun i hi hx => (k.block i (Nat.lt_of_lt_of_le hi h.size) (fun hy => hx (hY i hi hy))).trans (h.block i hi hx)⟩
theorem Fr.mono {X Y : Nat → Prop} {w w' : World} (h : Fr X w w') (hXY : ∀ i, i < w.heap.size → X i → Y i) : Fr Y w w' :=
  ⟨h.os, h.tape, h.output, h.size, fun k hk hy => h.block k hk (fun hx => hy (hXY k hk hx))⟩
theorem Fr.of_below {X : Nat → Prop} {w w' : World} (h : Below w.heap.size w w') : Fr X w w' :=
  ⟨h.os, h.tape, h.output, h.size, fun k hk _ => h.block k hk⟩
theorem Fr.below {X : Nat → Prop} {w w' : World} {B : Nat} (h : Fr X w w') (hB : B ≤ w.heap.size) (hX : ∀ k, k < B → ¬ X k) : Below B w w' :=
  ⟨h.os, h.tape, h.output, h.size, fun k hk => h.block k (Nat.lt_of_lt_of_le hk hB) (hX k hk)⟩
theorem Fr.of_grown {w w' : World} {row : Option Nat} (h : w.grownBy w' row) : Fr (fun k => row = some k) w w' :=
  ⟨h.os, h.tape, h.output, h.size, fun k hk hx => h.block k hk (fun e => hx e.symm)⟩
theorem Fr.setCell {X : Nat → Prop} {w w' : World} (h : Fr X w w') (V i : Nat) (v : Value) (hV : V < w.heap.size → X V) : Fr X w (w'.setCell ⟨V, i, none⟩ v) :=
  ⟨h.os, h.tape, h.output, by simpa using h.size, fun k hk hx => by
    rw [heap_setCell_other w' ⟨V, i, none⟩ k v (fun e => by subst e; exact hx (hV hk))]
    exact h.block k hk hx⟩
theorem Fr.alloc {X : Nat → Prop} {w w' : World} (h : Fr X w w') (o : Obj) : Fr X w (w'.alloc o) :=
  ⟨h.os, h.tape, h.output, by simp; have := h.size; omega, fun k hk hx => by
    rw [Below.heap_alloc w' o k (Nat.lt_of_lt_of_le hk h.size)]
    exact h.block k hk hx⟩
theorem Fr.drew {X : Nat → Prop} {w w' : World} (h : Fr X w w') : Fr X w w'.drew := ⟨h.os, h.tape, h.output, h.size, h.block⟩
theorem At.fr {X : Nat → Prop} {w w' : World} {V : Nat} {T : TypeId} {cs : List Value} (h : At w V T cs) (hf : Fr X w w') (hV : ¬ X V) : At w' V T cs := (hf.block V h.lt hV).trans h
theorem Fr.cell {X : Nat → Prop} {w w' : World} (h : Fr X w w') {p : Addr} (hp : p.block < w.heap.size) (hX : ¬ X p.block) : w'.cell? p = w.cell? p := World.cell?_of_block (h.block p.block hp hX)
theorem Fr.frozen {X : Nat → Prop} {w w' : World} (h : Fr X w w') {p : Addr} (hp : p.block < w.heap.size) (hX : ¬ X p.block) : w'.frozen? p = w.frozen? p := World.frozen?_of_block (h.block p.block hp hX)

/-! ### Bytes that are read -/
/-- A slice that reads as these bytes. -/
def BIn (w : World) (v : Value) (zs : List Int) : Prop := ∃ a cap, v = .slice a zs.length cap ∧ zs.length ≤ cap ∧ (zs ≠ [] → ∃ B o, a = some ⟨B, o, none⟩ ∧ B < w.heap.size ∧ ∀ i, i < zs.length → w.cell? ⟨B, o + i, none⟩ = some (.int .u8 (zs.getD i 0)))
theorem BIn.nil (w : World) : BIn w (.slice none 0 0) [] := ⟨none, 0, rfl, Nat.le_refl _, fun h => absurd rfl h⟩
/-- Not in a block of X. -/
def Off (X : Nat → Prop) (v : Value) : Prop := ∀ k, v.ownBlock = some k → ¬ X k
theorem BIn.fr {X : Nat → Prop} {w w' : World} {v : Value} {zs : List Int} (h : BIn w v zs) (hf : Fr X w w') (ho : Off X v) : BIn w' v zs := by
  obtain ⟨a, cap, rfl, hc, hz⟩ := h
  refine ⟨a, cap, rfl, hc, fun hne => ?_⟩
  obtain ⟨B, o, rfl, hB, hcell⟩ := hz hne
  exact ⟨B, o, rfl, Nat.lt_of_lt_of_le hB hf.size, fun i hi => (hf.cell hB (ho B rfl)).trans (hcell i hi)⟩
theorem BIn.below {w w' : World} {v : Value} {zs : List Int} (h : BIn w v zs) (hb : Below w.heap.size w w') : BIn w' v zs := h.fr (X := fun _ => False) (Fr.of_below hb) (fun _ _ h => h)
theorem BIn.new (u : World) (T : TypeId) (cs : List Int) (n c : Nat) (fr : Nat × Nat) (hn : n ≤ cs.length) (hc : n ≤ c) : BIn (u.alloc (.cells (b8 cs).toArray T fr)) (.slice (some ⟨u.heap.size, 0, none⟩) n c) (cs.take n) := by
  have hl : (cs.take n).length = n := by simp; omega
  refine ⟨_, c, by rw [hl], by omega, fun _ => ⟨u.heap.size, 0, rfl, by simp, fun i hi => ?_⟩⟩
  have h1 : (u.alloc (.cells (b8 cs).toArray T fr)).heap[u.heap.size]? = some (.cells (b8 cs).toArray T fr) := by
    show (u.heap.push _)[u.heap.size]? = _
    simp
  have h2 := b8_get cs i (by omega)
  simp only [World.cell?, h1, Nat.zero_add]
  have hin : i < n := by omega
  have hg : (cs.take n).getD i 0 = cs.getD i 0 := by simp [List.getD, hin]
  rw [hg]
  simpa using h2
theorem one_b8 (zs : List Int) : ∀ u ∈ b8 zs, u.oneCell' = true := fun u hu => by
  obtain ⟨_, _, rfl⟩ := List.mem_map.1 hu
  rfl
theorem BIn.src {P : Program} {w : World} {v : Value} {zs : List Int} {tx e' : TypeId} (h : BIn w v zs) (hk : P.underlying tx = some (.slice e')) : Src P 1 tx v zs.length (b8 zs) w := by
  obtain ⟨a, cap, rfl, _, hz⟩ := h
  by_cases hne : zs = []
  · subst hne
    cases a with
    | none => exact Src.ofNil w hk cap
    | some a => exact Src.ofSlice w hk a 0 cap [] (by simp) (fun j u hj => by simp at hj) (fun _ h => by cases h)
  · obtain ⟨B, o, rfl, hB, hcell⟩ := hz hne
    refine Src.ofSlice w hk _ _ cap (b8 zs) (by simp [b8_len]) (fun j u hj => ?_) (one_b8 zs)
    have hjl : j < zs.length := by
      have := (List.getElem?_eq_some_iff.1 hj).1
      rwa [b8_len] at this
    rw [b8_get zs j hjl] at hj
    rw [Addr.add_lit, hcell j hjl]
    exact hj

/-! ### Slices of the call's own, and append -/
/-- A block of cells reads as these bytes, from its head on, and may be appended to. -/
def Own (w : World) (T : TypeId) (v : Value) (zs : List Int) : Prop := w.ownsRow 0 T 1 v zs.length (b8 zs)
theorem Own.nil (w : World) (T : TypeId) : Own w T (.slice none 0 0) [] := World.ownsRow_nil w 0 T 1
theorem Own.lt {w : World} {T : TypeId} {v : Value} {zs : List Int} (h : Own w T v zs) : ∀ k, v.ownBlock = some k → k < w.heap.size := fun k hk => (World.ownsRow.lt h k hk).2
theorem Own.fr {X : Nat → Prop} {w w' : World} {T : TypeId} {v : Value} {zs : List Int} (h : Own w T v zs) (hf : Fr X w w') (ho : Off X v) : Own w' T v zs := by
  obtain ⟨hl, h | ⟨g, cap, cur, rfl, hb, hg, h1, h2, h3, h4⟩⟩ := h
  · exact ⟨hl, .inl h⟩
  · exact ⟨hl, .inr ⟨g, cap, cur, rfl, hb, (hf.block g (Array.getElem?_eq_some_iff.1 hg).1 (ho g rfl)).trans hg, h1, h2, h3, h4⟩⟩
theorem Own.bin {w : World} {T : TypeId} {v : Value} {zs : List Int} (h : Own w T v zs) : BIn w v zs := by
  have hlt := h.lt
  obtain ⟨hl, ⟨rfl, hz⟩ | ⟨g, cap, cur, rfl, hb, hg, h1, h2, h3, h4⟩⟩ := h
  · exact ⟨none, 0, by rw [hz], by omega, fun hne => absurd (List.eq_nil_of_length_eq_zero hz) hne⟩
  · refine ⟨_, cap, rfl, h1, fun _ => ⟨g, 0, rfl, hlt g rfl, fun i hi => ?_⟩⟩
    have h5 := b8_get zs i hi
    rw [← h4, List.getElem?_take, if_pos (by omega)] at h5
    simp only [World.cell?, hg, Nat.zero_add]
    simpa using h5
/-- A slice's block is the old one's, or new. -/
def NewOr (w : World) (v v' : Value) : Prop := ∀ k, v'.ownBlock = some k → v.ownBlock = some k ∨ w.heap.size ≤ k
theorem NewOr.refl (w : World) (v : Value) : NewOr w v v := fun _ h => .inl h
theorem putL_take {α : Type} (vs cs : List α) (o : Nat) (h : o + vs.length ≤ cs.length) : (cs.take o ++ (vs ++ cs.drop (o + vs.length))).take (o + vs.length) = cs.take o ++ vs := by
  rw [← List.append_assoc, List.take_left' (by simp; omega)]
theorem heap_setCells_one (V : Nat) (T : TypeId) : ∀ (vs : List Value) (o : Nat) (cs : List Value) (w : World), w.heap[V]? = some (.cells cs.toArray T (0, 0)) → o + vs.length ≤ cs.length →
    (w.setCells V o vs).heap[V]? = some (.cells (cs.take o ++ (vs ++ cs.drop (o + vs.length))).toArray T (0, 0))
  | [], o, cs, w, h, _ => by simpa [World.setCells] using h
  | v :: r, o, cs, w, h, ho => by
    simp only [List.length_cons] at ho
    unfold World.setCells
    have h1 : (w.setCell ⟨V, o, none⟩ v).heap[V]? = some (.cells (cs.set o v).toArray T (0, 0)) := by
      rw [heap_setCell_same w V o _ T v h]
      simp
    rw [heap_setCells_one V T r (o + 1) (cs.set o v) _ h1 (by rw [List.length_set]; omega)]
    have hl : o < cs.length := by omega
    rw [List.take_set, List.drop_set_of_lt (by omega), List.take_succ_eq_append_getElem hl, List.set_append_right _ _ (by simp; omega)]
    simp [Nat.min_eq_left (Nat.le_of_lt hl), List.length_cons]
    congr 1
    omega
theorem fr_setCells (V : Nat) : ∀ (vs : List Value) (o : Nat) (w0 w : World), Fr (fun k => k = V) w0 w → Fr (fun k => k = V) w0 (w.setCells V o vs)
  | [], _, _, _, h => h
  | v :: r, o, w0, w, h => by
    unfold World.setCells
    exact fr_setCells V r (o + 1) w0 _ (h.setCell V o v (fun _ => rfl))
/-- **append**, onto a slice of the call's own, of whatever. -/
theorem app_any {P : Program} (w : World) (t tx ty e : TypeId) (i : TypeInfo) (z : Value) (ht : P.underlying t = some (.slice e)) (hi : P.info? e = some i) (hz : i.zero = some z) (hs1 : i.size = 1) (hb1 : i.bytes = 1) (hzs : z.cells.size = 1)
    (v x : Value) (zs news : List Int) (hO : Own w e v zs) (hx : Src P 1 tx x news.length (b8 news) w) (hlen : zs.length + news.length ≤ 1099511627776) :
    ∃ v' w', (Builtin.append_ #[t, tx] ty #[v, x]).run P w = .ok v' w' ∧ Own w' e v' (zs ++ news) ∧ Fr (fun k => v.ownBlock = some k) w w' ∧ NewOr w v v' := by
  have hcat : b8 (zs ++ news) = b8 zs ++ b8 news := by simp [b8]
  have hfull : (zs ++ news).length = zs.length + news.length := List.length_append
  have hx' := hx
  rw [← hs1] at hx'
  have grown : ∀ (old : Nat), old < zs.length + news.length → ∀ (row : Nat → Prop),
      Own (w.drew.alloc (.cells ((b8 zs ++ b8 news).toArray ++ Builtin.zeroCells z.cells (grownCap w (zs.length + news.length) old e - (zs.length + news.length))) e)) e
        (.slice (some ⟨w.heap.size, 0, none⟩) (zs.length + news.length) (grownCap w (zs.length + news.length) old e)) (zs ++ news) ∧
      Fr row w (w.drew.alloc (.cells ((b8 zs ++ b8 news).toArray ++ Builtin.zeroCells z.cells (grownCap w (zs.length + news.length) old e - (zs.length + news.length))) e)) := by
    intro old ho row
    have hge := grownCap_ge w (zs.length + news.length) old e
    have hcm : grownCap w (zs.length + news.length) old e ≤ maxLen := grownCap_le_maxLen w (zs.length + news.length) old e (by unfold maxLen; omega)
    refine ⟨⟨by rw [b8_len]; omega, .inr ⟨w.heap.size, _, _, by rw [hfull], Nat.zero_le _, heap_alloc_new w.drew _, by rw [hfull]; exact hge, hcm, ?_, ?_⟩⟩, (Fr.refl row w).drew.alloc _⟩
    · simp only [Array.size_append, List.size_toArray, List.length_append, size_zeroCells, hzs, b8_len]
      omega
    · simp only [Array.toList_append, hcat, hfull, Nat.mul_one]
      exact List.take_left' (by simp [b8_len])
  obtain ⟨hl, ⟨rfl, hz0⟩ | ⟨g, cap, cur, rfl, hb, hg, h1, h2, h3, h4⟩⟩ := hO
  · have he : zs = [] := List.eq_nil_of_length_eq_zero hz0
    subst he
    by_cases hm : news = []
    · subst hm
      refine ⟨.slice none 0 0, w, ?_, Own.nil w e, Fr.refl _ w, NewOr.refl w _⟩
      have hc := hx.cells
      have hL := hx.len
      rcases hx.kind with ⟨e', hk⟩ | hk <;> simp [Builtin.append_, run_underlying ht, run_underlying hk, sizeOf, typeInfo, hi, hs1, hL] <;> simp_all [b8]
    · have hpos : 0 < news.length := List.length_pos_iff.2 hm
      have hr := run_append_grow_src (P := P) w t tx ty e i z ht hi hz none 0 0 [] (run_firstCells_none w.drew i.size 0 0 0) x news.length (b8 news) hx' (by omega) (by omega) (growslice_fits (by omega) (by rw [hb1]; omega))
      have hgr := grown 0 (by simpa using hpos) (fun k => (Value.slice none 0 0).ownBlock = some k)
      simp only [Nat.zero_add, List.nil_append, List.length_nil] at hgr hr ⊢
      simp only [show b8 [] = [] from rfl, List.nil_append] at hgr
      exact ⟨_, _, hr, hgr.1, hgr.2, fun k hk => .inr (by simp [Value.ownBlock] at hk; omega)⟩
  · by_cases hroom : zs.length + news.length ≤ cap
    · have hg' : w.heap[g]? = some (.cells cur.toList.toArray e (0, 0)) := by simpa using hg
      have hcl : cur.toList.length = cap := by simp [h3]
      have hin : ∀ j, j < (b8 news).length → (w.cell? ⟨g, 0 + zs.length * i.size + j, none⟩).isSome = true := fun j hj => by
        rw [b8_len] at hj
        simp only [World.cell?, hg, hs1, Nat.zero_add, Nat.mul_one]
        simp [h3]
        omega
      have hr := run_append_room_src (P := P) w t tx ty e i ht hi g 0 zs.length cap x news.length (b8 news) hx' hroom hin (fun j _ => by simp [World.frozen?, hg])
      simp only [hs1, Nat.zero_add, Nat.mul_one] at hr
      have hA := heap_setCells_one g e (b8 news) zs.length cur.toList w hg' (by rw [b8_len, hcl]; exact hroom)
      refine ⟨_, _, hr, ⟨by rw [b8_len]; omega, .inr ⟨g, cap, _, by rw [hfull], Nat.zero_le _, hA, by rw [hfull]; exact hroom, h2, ?_, ?_⟩⟩, ?_, NewOr.refl w _⟩
      · simp only [List.size_toArray, List.length_append, List.length_take, List.length_drop, b8_len, Array.length_toList]
        omega
      · simp only [hfull, Nat.mul_one]
        have := putL_take (b8 news) cur.toList zs.length (by rw [b8_len, hcl]; exact hroom)
        rw [← b8_len news, this, hcat]
        congr 1
        simpa using h4
      · exact (fr_setCells g (b8 news) zs.length w w (Fr.refl _ w)).mono (fun k _ hk => by subst hk; rfl)
    · have holds : ∀ j u, (b8 zs)[j]? = some u → w.drew.cell? ((⟨g, 0, none⟩ : Addr).add j) = some u := fun j u hj => by
        have := World.ownsRow.cells (w := w) (base := 0) (e := e) (size := 1) (v := .slice (some ⟨g, 0, none⟩) zs.length cap) ⟨hl, .inr ⟨g, cap, cur, rfl, hb, hg, h1, h2, h3, h4⟩⟩ (g := g) rfl j u hj
        simpa using this
      have hr := run_append_grow_src (P := P) w t tx ty e i z ht hi hz (some ⟨g, 0, none⟩) zs.length cap (b8 zs) (run_firstCells_some w.drew i.size zs.length ⟨g, 0, none⟩ zs.length cap (b8 zs) (by rw [b8_len, hs1, Nat.mul_one]) holds) x news.length (b8 news) hx' (by omega) (by omega) (growslice_fits (by omega) (by rw [hb1]; omega))
      have hgr := grown cap (by omega) (fun k => (Value.slice (some ⟨g, 0, none⟩) zs.length cap).ownBlock = some k)
      exact ⟨_, _, hr, hgr.1, hgr.2, fun k hk => .inr (by simp [Value.ownBlock] at hk; omega)⟩
end WirM
end Go.Proofs.YtpambhlhkmkagaaGreatDoor
