/-
  CmI, CmJ, CmU, CmD, CmC, in one text.
-/
import Derived.Test.YthcemghamdmjmaaCgA
import Derived.Laws.IdiomCopy
import Derived.Lib.AppendZerosOnto
import Derived.Lib.Overlaps
import Derived.Lib.SliceRun
import Derived.Deep.RegionHeld3
import Derived.Test.YthcemghamdmjmaaPkG
import Derived.Test.YthcemghamdmjmaaPkL
import Derived.Deep.MidRow
namespace Go.Proofs.Ythcemghamdmjmaa
namespace CmI
open Go.RowKit
open BlkM WirM WirS CmA CmP CmB CmE

abbrev TL : TypeId := 92
def NewB (w : World) (v : Value) : Prop := ∀ k, v.ownBlock = some k → w.heap.size ≤ k
theorem run_copy_k {P : Program} (w : World) (dT sT ty elem : TypeId) (k m b o dLen dCap : Nat) (a : Addr) (sLen sCap : Nat) (cs : List Value)
    (hu : P.underlying dT = some (.slice elem)) (hs : (P.info? elem).map (·.size) = some k) (hm : Nat.min sLen dLen = m) (hn : cs.length = m * k)
    (hsrc : ∀ j v, cs[j]? = some v → w.cell? (a.add j) = some v) (hc : ∀ j, j < cs.length → (w.cell? ⟨b, o + j, none⟩).isSome = true) (hf : ∀ j, j < cs.length → w.frozen? ⟨b, o + j, none⟩ = false) (h1 : ∀ v ∈ cs, v.oneCell' = true) :
    (Builtin.copy_ #[dT, sT] ty #[.slice (some ⟨b, o, none⟩) dLen dCap, .slice (some a) sLen sCap]).run P w = .ok (goInt m) (w.setCells b o cs) := by
  have hl := run_loadCells_list (P := P) w a cs hsrc
  have hst := run_storeCells_cells (P := P) b o cs 0 w (by simpa using hc) (by simpa using hf) h1
  cases hq : P.info? elem with
  | none => simp [hq] at hs
  | some i =>
    have hi : i.size = k := by simpa [hq] using hs
    have hm' : min sLen dLen = m := hm
    simp [Builtin.copy_, run_underlying hu, Builtin.lenOf, Builtin.firstCells, sizeOf, typeInfo, hq, hi, hm', ← hn, hl, hst]
/-- copy, by what it yields here: as a step. -/
theorem wpK {P : Program} {o : Oper} {a : Act} {w : World} {K : Act → World → Prop} {Q : Exit → Act → World → Prop} (t tx : TypeId) (x y : Operand) (ho : o.op = .call { callee := .builtin .copy, args := #[x, y], argTypes := #[t, tx] }) (v s : Value) (hx : a.eval x = v) (hy : a.eval y = s)
    (v' : Value) (w' : World) (hr : (Builtin.copy_ #[t, tx] o.type #[v, s]).run P w = .ok v' w') (h : K (a.put o.dst v') w') : o.wp P a w K Q := by
  unfold Oper.wp execOp
  simp only [ho, resolve, invoke, builtin, Sem.run_bind, Sem.run_pure, Result.andThen_ok, List.map_toArray, List.map_cons, List.map_nil, hx, hy, hr]
  exact h
theorem slopL {a : Operand → Value} {ob : Oper} {ty : TypeId} {x y : Operand} {p l v : Value} {W : World} (ho : ob.op = .slice ty x (some y) none none) (hx : a x = p) (hy : a y = l) (hr : (Instr.sliceAt ty p (some l) none none).run Try.prog W = .ok v W) :
    (execOp a ob).run Try.prog W = .ok (.value v) W := by
  unfold execOp
  simp only [ho, hx, hy, Option.map_none, Option.map_some, Sem.run_bind, hr, Result.andThen_ok, Sem.run_pure]
theorem slopH {a : Operand → Value} {ob : Oper} {ty : TypeId} {x y : Operand} {p l v : Value} {W : World} (ho : ob.op = .slice ty x none (some y) none) (hx : a x = p) (hy : a y = l) (hr : (Instr.sliceAt ty p none (some l) none).run Try.prog W = .ok v W) :
    (execOp a ob).run Try.prog W = .ok (.value v) W := by
  unfold execOp
  simp only [ho, hx, hy, Option.map_none, Option.map_some, Sem.run_bind, hr, Result.andThen_ok, Sem.run_pure]
theorem uTL : Try.prog.underlying TL = some (.slice (Try.prog.elem TL)) := by kernel_rfl
theorem sTL (Y : World) : (sizeOf (Try.prog.elem TL)).run Try.prog Y = .ok 2 Y := by kernel_rfl
def sa2 (a : Option Addr) (c l : Nat) : Option Addr := if c = l then a else a.map (·.add (l * 2))
theorem slC (a : Option Addr) (len c l : Nat) (h : l ≤ len) (Y : World) : (Instr.sliceAt TL (.slice a len c) (some (.int .i64 (l : Int))) none none).run Try.prog Y = .ok (.slice (sa2 a c l) (len - l) (c - l)) Y := by
  rw [run_sliceAt_slice Y TL _ _ _ _ uTL, run_slice_l Y TL a len c uTL .i64 (l : Int) (by omega) (by omega), sTL]
  simp [sliced, sa2]
theorem slA (g len c l : Nat) (h : l ≤ len) (hc : l < c) (Y : World) : (Instr.sliceAt TL (.slice (some ⟨g, 0, none⟩) len c) (some (.int .i64 (l : Int))) none none).run Try.prog Y = .ok (.slice (some ⟨g, l * 2, none⟩) (len - l) (c - l)) Y := by
  rw [slC _ _ _ _ h]
  simp [sa2, Nat.ne_of_gt hc, Addr.add_lit]
theorem slB (g len c m : Nat) (h : m ≤ c) (Y : World) : (Instr.sliceAt TL (.slice (some ⟨g, 0, none⟩) len c) none (some (.int .i64 (m : Int))) none).run Try.prog Y = .ok (.slice (some ⟨g, 0, none⟩) m c) Y := by
  rw [run_sliceAt_slice Y TL _ _ _ _ uTL, run_slice_h Y TL _ len c uTL .i64 (m : Int) (by omega) (by omega), sTL]
  simp [sliced, Addr.add_lit]
/-- What is known of a slice of the call's own that holds something. -/
structure Rw (w : World) (g n c : Nat) (vs : List Vt) (cur : List Value) : Prop where
  at' : w.heap[g]? = some (.cells cur.toArray TV (0, 0))
  len : cur.length = c * 2
  nc : n ≤ c
  cm : c ≤ maxLen
  ln : vs.length = n
  pre : cur.take (n * 2) = cellsL vs
theorem Rw.own {w : World} {g n c : Nat} {vs : List Vt} {cur : List Value} (h : Rw w g n c vs cur) (hok : ∀ x ∈ vs, x.ok) : OwnT w (.slice (some ⟨g, 0, none⟩) n c) vs := by
  have hn := h.ln
  refine ⟨⟨by rw [cellsL_len], .inr ⟨g, c, cur.toArray, by rw [hn], Nat.zero_le _, h.at', by rw [hn]; exact h.nc, h.cm, by simp [h.len], ?_⟩⟩, hok⟩
  rw [hn]
  simpa using h.pre
theorem OwnT.rw' {w : World} {a : Option Addr} {n c : Nat} {vs : List Vt} (h : OwnT w (.slice a n c) vs) (hp : 0 < vs.length) : ∃ g cur, a = some ⟨g, 0, none⟩ ∧ Rw w g n c vs cur := by
  obtain ⟨⟨hl, ⟨e, h0⟩ | ⟨g, cap, cur, e, hb, hg, h1, h2, h3, h4⟩⟩, hok⟩ := h
  · omega
  · cases e
    exact ⟨g, cur.toList, rfl, by simpa using hg, by simpa using h3, h1, h2, rfl, by simpa using h4⟩
theorem cells_take (vs : List Vt) (i : Nat) (h : i ≤ vs.length) : (cellsL vs).take (i * 2) = cellsL (vs.take i) := by
  have e : cellsL vs = cellsL (vs.take i) ++ cellsL (vs.drop i) := by rw [← cellsL_app, List.take_append_drop]
  rw [e, List.take_left' (by rw [cellsL_len, List.length_take, Nat.min_eq_left h])]
theorem cells_drop (vs : List Vt) (i : Nat) (h : i ≤ vs.length) : (cellsL vs).drop (i * 2) = cellsL (vs.drop i) := by
  have e : cellsL vs = cellsL (vs.take i) ++ cellsL (vs.drop i) := by rw [← cellsL_app, List.take_append_drop]
  rw [e, List.drop_left' (by rw [cellsL_len, List.length_take, Nat.min_eq_left h])]
theorem cells_ins (vs : List Vt) (i : Nat) (x : Vt) : cellsL (ins vs i x) = cellsL (vs.take i) ++ (x.cells ++ cellsL (vs.drop i)) := by
  have e : cellsL [x] = x.cells := by simp [cellsL]
  unfold ins
  rw [show x :: vs.drop i = [x] ++ vs.drop i from rfl, cellsL_app, cellsL_app, e]
/-- The cells behind both copies. -/
theorem shift_list {cur A B C D : List Value} {n i : Nat} (hc : cur = A ++ (B ++ D)) (hA : A.length = i * 2) (hB : B.length = (n - i) * 2) (hC : C.length = 2) (hD : 2 ≤ D.length) (_hi : i ≤ n) :
    let L1 := cur.take ((i + 1) * 2) ++ (B ++ cur.drop ((i + 1) * 2 + B.length))
    L1.take (i * 2) ++ (C ++ L1.drop (i * 2 + C.length)) = A ++ (C ++ (B ++ D.drop 2)) := by
  intro L1
  have h1 : L1.take (i * 2) = A := by
    show (cur.take ((i + 1) * 2) ++ _).take (i * 2) = A
    rw [List.take_append_of_le_length (by rw [hc]; simp only [List.length_take, List.length_append]; omega), List.take_take, Nat.min_eq_left (by omega), hc, List.take_left' hA]
  have h2 : L1.drop (i * 2 + C.length) = B ++ D.drop 2 := by
    have hl : (cur.take ((i + 1) * 2)).length = i * 2 + 2 := by
      rw [hc]
      simp only [List.length_take, List.length_append]
      omega
    show (cur.take ((i + 1) * 2) ++ (B ++ cur.drop ((i + 1) * 2 + B.length))).drop (i * 2 + C.length) = B ++ D.drop 2
    rw [hC, List.drop_left' hl]
    congr 1
    have e : (i + 1) * 2 + B.length = A.length + (B.length + 2) := by omega
    rw [e, hc, List.drop_append, List.drop_append, List.drop_eq_nil_of_le (by omega), List.drop_eq_nil_of_le (by omega)]
    simp
  rw [h1, h2]

theorem ownt_new (w : World) : OwnT (w.alloc (.cells #[] TV)) (.slice (some ⟨w.heap.size, 0, none⟩) 0 0) [] := ⟨World.ownsRow_made w #[] 0 (Nat.zero_le _) (Nat.zero_le _) (by simp), fun x hx => by cases hx⟩
set_option maxRecDepth 10000 in
set_option maxHeartbeats 2000000 in
theorem clone_any (w : World) (a : Option Addr) (n c : Nat) (vs : List Vt) (h : VtIn w a n c vs) (hn : n ≤ 1000) :
    Calls Try.prog 175 #[.slice a n c] w fun e w' => ∃ va vc, e = .returned (.slice va n vc) ∧ OwnT w' (.slice va n vc) vs ∧ NewB w (.slice va n vc) ∧ Below w.heap.size w w' := by
  have hl := h.len
  cases a with
  | none =>
    obtain rfl : n = 0 := by
      by_cases e : 0 < n
      · obtain ⟨B, o, e2, _⟩ := h.row e
        cases e2
      · omega
    obtain rfl : vs = [] := List.eq_nil_of_length_eq_zero hl
    have hq : ∀ W : World, (binOp .eql TL (.slice none 0 c) (.slice none 0 0)).run Try.prog W = .ok (.bool true) W := fun W => Lib.run_eql_slice_nil W TL _ none 0 c 0 0 uTL
    clear h hl
    go_enter Try.func175, Try.ntmps175
    go_wp2_with fail
    go_ret
    exact ⟨none, 0, rfl, OwnT.nil w, fun k hk => by simp [Value.ownBlock] at hk, Below.refl _ _⟩
  | some ad =>
    have hb : Below w.heap.size w (w.alloc (.cells #[] TV)) := Below.alloc (Below.refl _ _) (Nat.le_refl _) _
    obtain ⟨v1, u1, hrun, ho, hf, hn'⟩ := app_votes (w.alloc (.cells #[] TV)) TL TL (.slice (some ⟨w.heap.size, 0, none⟩) 0 0) (.slice (some ad) n c) [] vs (ownt_new w) ((h.below hb).src Try.underlying92) h.ok (by simp; omega)
    rw [List.nil_append] at ho
    have HN := WirS.hide (show NewB w v1 from fun q hq => by
      rcases hn' q hq with h3 | h3
      · simp [Value.ownBlock] at h3
        omega
      · simp at h3
        omega)
    have HB := WirS.hide (hb.trans (hf.below (by simp) (fun q hq hx => by simp [Value.ownBlock] at hx; omega)))
    obtain ⟨va, vc, rfl⟩ := ho.len_of
    rw [hl] at ho HN hrun
    have HO := WirS.hide ho
    have HRUN := WirS.hide hrun
    have hq : ∀ W : World, (binOp .eql TL (.slice (some ad) n c) (.slice none 0 0)).run Try.prog W = .ok (.bool false) W := fun W => Lib.run_eql_slice_nil W TL _ (some ad) n c 0 0 uTL
    clear h ho hb hl hf hn' hrun
    go_enter Try.func175, Try.ntmps175
    go_upto_region 3 with fail
    refine wp_region_lit ?_
    refine sV (.slice (some ⟨w.heap.size, 0, none⟩) 0 0) (w.alloc (.cells #[] TV)) (by kernel_rfl) (by kernel_rfl) ?_
    simp only [Act.put, List.setIfInBounds_toArray, List.set_cons_succ, List.set_cons_zero]
    refine sV (.slice (some ad) n c) (w.alloc (.cells #[] TV)) (by kernel_rfl) (by kernel_rfl) ?_
    simp only [Act.put, List.setIfInBounds_toArray, List.set_cons_succ, List.set_cons_zero]
    refine sA (by kernel_rfl) TL TL _ _ (by rfl) (.slice (some ⟨w.heap.size, 0, none⟩) 0 0) (.slice (some ad) n c) (by kernel_rfl) (by kernel_rfl) (.slice va n vc) (u1) HRUN.out ?_
    simp only [Act.put, List.setIfInBounds_toArray, List.set_cons_succ, List.set_cons_zero]
    clear HRUN
    go_wp2_with fail
    go_ret
    exact ⟨va, vc, rfl, HO.out, HN.out, HB.out⟩
/-- What Insert leaves. -/
def InsP (w : World) (v : Value) (vs : List Vt) (e : Ending) (w' : World) : Prop := ∃ a n c, e = .returned (.slice a n c) ∧ OwnT w' (.slice a n c) vs ∧ Fr (fun k => v.ownBlock = some k) w w' ∧ NewOr w v (.slice a n c)
theorem src_1 {w : World} {V : Nat} {x : Vt} (h : At w V TV x.cells) : Src Try.prog 2 TL (.slice (some ⟨V, 0, none⟩) 1 1) [x].length (cellsL [x]) w := src_one Try.underlying92 V 0 1 x (fun j v hj => by rw [Nat.zero_add, h.cell]; exact hj)
set_option maxRecDepth 10000 in
set_option maxHeartbeats 4000000 in
theorem insert_end (w : World) (a : Option Addr) (n c V : Nat) (vs : List Vt) (x : Vt) (h : OwnT w (.slice a n c) vs) (hx : At w V TV x.cells) (hxo : x.ok) (hn : n ≤ 1000) :
    Calls Try.prog 174 #[.slice a n c, .int .i64 (n : Int), .slice (some ⟨V, 0, none⟩) 1 1] w (InsP w (.slice a n c) (ins vs n x)) := by
  have hl : vs.length = n := by obtain ⟨va, vc, e⟩ := h.len_of; cases e; rfl
  have e0 : ins vs n x = vs ++ [x] := by unfold ins; rw [List.take_of_length_le (by omega), List.drop_eq_nil_of_le (by omega)]
  rw [e0]
  obtain ⟨v1, u1, hrun, ho, hf, hn'⟩ := app_votes w TL TL (.slice a n c) (.slice (some ⟨V, 0, none⟩) 1 1) vs [x] h (src_1 hx) (fun y hy => by rw [List.mem_singleton.1 hy]; exact hxo) (by simp; omega)
  obtain ⟨va, vc, rfl⟩ := ho.len_of
  have HP := WirS.hide (show InsP w (.slice a n c) (vs ++ [x]) (.returned (.slice va (vs ++ [x]).length vc)) u1 from ⟨va, _, vc, rfl, ho, hf, hn'⟩)
  have HRUN := WirS.hide hrun
  have HSL := WirS.hide (fun Y => slC a n c n (Nat.le_refl _) Y)
  clear h hx ho hf hn' hrun hl e0
  generalize (vs ++ [x]).length = m1 at *
  go_enter Try.func174, Try.ntmps174
  go_upto_region 1 with fail
  refine wp_region_lit ?_
  refine sV (.slice a n c) (w) (by kernel_rfl) (by kernel_rfl) ?_
  simp only [Act.put, List.setIfInBounds_toArray, List.set_cons_succ, List.set_cons_zero]
  refine sV (.int .i64 (n : Int)) (w) (by kernel_rfl) (by kernel_rfl) ?_
  simp only [Act.put, List.setIfInBounds_toArray, List.set_cons_succ, List.set_cons_zero]
  refine sV _ w (by kernel_rfl) (slopL (x := .tmp 10) (y := .tmp 11) (by kernel_rfl) (by kernel_rfl) (by kernel_rfl) (HSL.out w)) ?_
  simp only [Act.put, List.setIfInBounds_toArray, List.set_cons_succ, List.set_cons_zero]
  go_upto_region 7 with fail
  refine wp_region_lit ?_
  refine sV (.slice a n c) (w) (by kernel_rfl) (by kernel_rfl) ?_
  simp only [Act.put, List.setIfInBounds_toArray, List.set_cons_succ, List.set_cons_zero]
  refine sV (.slice (some ⟨V, 0, none⟩) 1 1) (w) (by kernel_rfl) (by kernel_rfl) ?_
  simp only [Act.put, List.setIfInBounds_toArray, List.set_cons_succ, List.set_cons_zero]
  refine sA (by kernel_rfl) TL TL _ _ (by rfl) (.slice a n c) (.slice (some ⟨V, 0, none⟩) 1 1) (by kernel_rfl) (by kernel_rfl) (.slice va m1 vc) (u1) HRUN.out ?_
  simp only [Act.put, List.setIfInBounds_toArray, List.set_cons_succ, List.set_cons_zero]
  clear HRUN
  go_wp2_with fail
  go_ret
  exact HP.out

theorem zero_len (k : Nat) : (Builtin.zeroCells (Value.agg #[.int .i64 0, .int .u64 0]).cells k).size = k * 2 := by rw [size_zeroCells]; rfl
/-- The new row behind both copies. -/
theorem grow_list {R A B C : List Value} {n i c2 : Nat} (hR : R.length = c2 * 2) (hA : R.take (i * 2) = A) (hB : B.length = (n - i) * 2) (hC : C.length = 2) (hi : i < n) (hn : n + 1 ≤ c2) :
    let L1 := R.take (i * 2) ++ (C ++ R.drop (i * 2 + C.length))
    let L2 := L1.take ((i + 1) * 2) ++ (B ++ L1.drop ((i + 1) * 2 + B.length))
    L1.length = c2 * 2 ∧ L2.length = c2 * 2 ∧ L2.take ((n + 1) * 2) = A ++ (C ++ B) := by
  intro L1 L2
  have hAl : A.length = i * 2 := by rw [← hA, List.length_take, hR]; omega
  have e1 : L1 = A ++ (C ++ R.drop (i * 2 + 2)) := by
    show R.take (i * 2) ++ (C ++ R.drop (i * 2 + C.length)) = _
    rw [hA, hC]
  have h1 : L1.length = c2 * 2 := by
    rw [e1]
    simp only [List.length_append, List.length_drop, hR, hAl, hC]
    omega
  have h2 : L1.take ((i + 1) * 2) = A ++ C := by
    rw [e1, ← List.append_assoc]
    exact List.take_left' (by rw [List.length_append, hAl, hC]; omega)
  have e2 : L2 = (A ++ (C ++ B)) ++ L1.drop ((i + 1) * 2 + B.length) := by
    show L1.take ((i + 1) * 2) ++ (B ++ L1.drop ((i + 1) * 2 + B.length)) = _
    rw [h2]
    simp only [List.append_assoc]
  have hl : (A ++ (C ++ B)).length = (n + 1) * 2 := by simp only [List.length_append, hAl, hC, hB]; omega
  refine ⟨h1, ?_, ?_⟩
  · rw [e2, List.length_append, hl, List.length_drop, h1, hB]
    omega
  · rw [e2]
    exact List.take_left' hl
theorem oneV (x : Vt) : ∀ v ∈ x.cells, v.oneCell' = true := fun v hv => by simp [Vt.cells] at hv; rcases hv with rfl | rfl <;> rfl
theorem cell_row {w : World} {g : Nat} {L : List Value} (h : w.heap[g]? = some (.cells L.toArray TV (0, 0))) (j : Nat) : w.cell? ⟨g, j, none⟩ = L[j]? := by simp [World.cell?, h]
theorem froz_row {w : World} {g : Nat} {L : List Value} (h : w.heap[g]? = some (.cells L.toArray TV (0, 0))) (j : Nat) : w.frozen? ⟨g, j, none⟩ = false := by simp [World.frozen?, h]
theorem sTV : (Try.prog.info? (Try.prog.elem TL)).map (·.size) = some 2 := by kernel_rfl

set_option maxRecDepth 10000 in
set_option maxHeartbeats 4000000 in
theorem insert_grow (w : World) (g n c i V : Nat) (vs : List Vt) (cur : List Value) (x : Vt) (h : Rw w g n c vs cur) (hok : ∀ y ∈ vs, y.ok) (hx : At w V TV x.cells) (hxo : x.ok) (hi : i < n) (hc : c < n + 1) (hn : n ≤ 1000) :
    Calls Try.prog 174 #[.slice (some ⟨g, 0, none⟩) n c, .int .i64 (i : Int), .slice (some ⟨V, 0, none⟩) 1 1] w (InsP w (.slice (some ⟨g, 0, none⟩) n c) (ins vs i x)) := by
  obtain ⟨i0, hi0, hz0, hz1, hz2⟩ := info_parts (show (Try.prog.info? TV).map (fun i => (i.zero, i.size, i.bytes)) = some (some (.agg #[.int .i64 0, .int .u64 0]), 2, 16) by kernel_rfl)
  have hgl : g < w.heap.size := (Array.getElem?_eq_some_iff.1 h.at').1
  have hVl := hx.lt
  have hvl := h.ln
  have hA0 := cells_take vs i (by omega)
  have hcurA : cur.take (i * 2) = cellsL (vs.take i) := by rw [← hA0, ← h.pre, List.take_take, Nat.min_eq_left (by omega)]
  have hAl : (cellsL (vs.take i)).length = i * 2 := by rw [cellsL_len, List.length_take, Nat.min_eq_left (by omega)]
  have hBl : (cellsL (vs.drop i)).length = (n - i) * 2 := by rw [cellsL_len, List.length_drop, hvl]
  obtain ⟨d, hd⟩ : ∃ d, n + 1 - i = d := ⟨_, rfl⟩
  have hid : i + d = n + 1 := by omega
  have hold : (Builtin.firstCells i0.size i (.slice (some ⟨g, 0, none⟩) i c)).run Try.prog w.drew = .ok (cellsL (vs.take i)).toArray w.drew := by
    rw [hz1]
    exact run_firstCells_some w.drew 2 i ⟨g, 0, none⟩ i c (cellsL (vs.take i)) (by rw [hAl]) (fun j v hj => by
      rw [Addr.add_lit, Nat.zero_add]
      show w.cell? ⟨g, j, none⟩ = some v
      rw [cell_row h.at', ← hj, ← hcurA]
      have hjl := (List.getElem?_eq_some_iff.1 hj).1
      rw [hAl] at hjl
      rw [List.getElem?_take, if_pos hjl])
  have hrz := Lib.run_append_grow_zeros (P := Try.prog) w TL 3 TL TV i0 _ .i64 .i64 Try.underlying92 Try.underlying3 hi0 hz0 (some ⟨g, 0, none⟩) i c (cellsL (vs.take i)) hold d (by omega) (by omega) (by omega) (by omega) (by rw [hz2]; omega) (growslice_fits (by omega) (by rw [hz2]; omega))
  rw [hid] at hrz
  obtain ⟨c2, hc2⟩ : ∃ c2, grownCap w (n + 1) c TV = c2 := ⟨_, rfl⟩
  have hge : n + 1 ≤ c2 := by rw [← hc2]; exact grownCap_ge _ _ _ _
  have hcm : c2 ≤ maxLen := by rw [← hc2]; exact grownCap_le_maxLen _ _ _ _ (by unfold maxLen; omega)
  rw [hc2] at hrz
  obtain ⟨R, hRe⟩ : ∃ R : List Value, (cellsL (vs.take i)).toArray ++ Builtin.zeroCells (Value.agg #[.int .i64 0, .int .u64 0]).cells d ++ Builtin.zeroCells (Value.agg #[.int .i64 0, .int .u64 0]).cells (c2 - (n + 1)) = R.toArray := ⟨_, (Array.toArray_toList).symm⟩
  have hRl : R.length = c2 * 2 := by
    have := congrArg Array.size hRe
    rw [Array.size_append, Array.size_append, zero_len, zero_len, List.size_toArray, List.size_toArray, hAl] at this
    omega
  have hRA : R.take (i * 2) = cellsL (vs.take i) := by
    have := congrArg Array.toList hRe
    simp only [Array.toList_append, List.append_assoc] at this
    rw [← this]
    exact List.take_left' hAl
  rw [hRe] at hrz
  obtain ⟨g1, g2, g3⟩ := grow_list hRl hRA hBl (show x.cells.length = 2 from rfl) hi hge
  obtain ⟨G, hG⟩ : ∃ G, w.heap.size = G := ⟨_, rfl⟩
  rw [hG] at hrz
  have a1 : At (w.drew.alloc (.cells R.toArray TV)) G TV R := by rw [← hG]; exact At.new w.drew TV R
  have hF1 : Fr (fun k => (Value.slice (some ⟨g, 0, none⟩) n c).ownBlock = some k) w (w.drew.alloc (.cells R.toArray TV)) := (Fr.refl _ w).drew.alloc _
  have cg1 : ∀ j, (w.drew.alloc (.cells R.toArray TV)).cell? ⟨g, j, none⟩ = cur[j]? := fun j => by
    rw [← cell_row h.at' j]
    exact (Fr.of_below (X := fun _ => False) (w := w) (w' := w.drew.alloc (.cells R.toArray TV)) (Below.alloc (Below.drew (Below.refl _ _)) (Nat.le_refl _) _)).cell (p := ⟨g, j, none⟩) hgl (fun h => h)
  have hx1 : At (w.drew.alloc (.cells R.toArray TV)) V TV x.cells := (At.fr (X := fun _ => False) hx (Fr.of_below (Below.alloc (Below.drew (Below.refl _ _)) (Nat.le_refl _) _)) (fun h => h))
  generalize w.drew.alloc (.cells R.toArray TV) = w1 at hrz a1 hF1 cg1 hx1
  have hcp1 : ∀ ty dc, (Builtin.copy_ #[TL, TL] ty #[.slice (some ⟨G, i * 2, none⟩) (n + 1 - i) dc, .slice (some ⟨V, 0, none⟩) 1 1]).run Try.prog w1 = .ok (goInt 1) (w1.setCells G (i * 2) x.cells) := fun ty dc =>
    run_copy_k w1 TL TL ty _ 2 1 G (i * 2) (n + 1 - i) dc ⟨V, 0, none⟩ 1 1 x.cells uTL sTV (by show min _ _ = 1; omega) rfl
      (fun j v hj => by rw [Addr.add_lit, Nat.zero_add, hx1.cell]; exact hj)
      (fun j hj => by rw [cell_row a1, List.getElem?_eq_getElem (by rw [hRl]; simp [Vt.cells] at hj; omega)]; rfl) (fun j _ => froz_row a1 _) (oneV x)
  have a2 := heap_setCells_one G TV x.cells (i * 2) R w1 a1 (by rw [hRl]; show i * 2 + 2 ≤ _; omega)
  have hF2 : Fr (fun k => (Value.slice (some ⟨g, 0, none⟩) n c).ownBlock = some k) w (w1.setCells G (i * 2) x.cells) := hF1.trans' (fr_setCells G x.cells (i * 2) w1 w1 (Fr.refl _ _)) (fun k hk e => by omega)
  have cg2 : ∀ j, (w1.setCells G (i * 2) x.cells).cell? ⟨g, j, none⟩ = cur[j]? := fun j => by
    rw [World.cell?_setCells_out _ _ _ _ _ (fun e _ => absurd (show g = G from e) (by omega))]
    exact cg1 j
  generalize w1.setCells G (i * 2) x.cells = w2 at hcp1 a2 hF2 cg2
  obtain ⟨L1, hL1⟩ : ∃ L1, R.take (i * 2) ++ (x.cells ++ R.drop (i * 2 + x.cells.length)) = L1 := ⟨_, rfl⟩
  have hcp2 : ∀ ty dc sc, (Builtin.copy_ #[TL, TL] ty #[.slice (some ⟨G, (i + 1) * 2, none⟩) (n + 1 - (i + 1)) dc, .slice (some ⟨g, i * 2, none⟩) (n - i) sc]).run Try.prog w2.drew = .ok (goInt (n - i : Nat)) (w2.drew.setCells G ((i + 1) * 2) (cellsL (vs.drop i))) := fun ty dc sc =>
    run_copy_k w2.drew TL TL ty _ 2 (n - i) G ((i + 1) * 2) (n + 1 - (i + 1)) dc ⟨g, i * 2, none⟩ (n - i) sc (cellsL (vs.drop i)) uTL sTV (by show min _ _ = _; omega) hBl
      (fun j v hj => by
        rw [Addr.add_lit]
        show w2.cell? _ = _
        rw [cg2, ← hj, ← cells_drop vs i (by omega), ← h.pre, List.getElem?_drop, List.getElem?_take]
        have hjl := (List.getElem?_eq_some_iff.1 hj).1
        rw [hBl] at hjl
        rw [if_pos (by omega)])
      (fun j hj => by
        show (w2.cell? _).isSome = true
        rw [cell_row a2, List.getElem?_eq_getElem (by rw [g1]; rw [hBl] at hj; omega)]
        rfl)
      (fun j _ => froz_row a2 _) (fun v hv => one_cells _ v hv)
  have a3 := heap_setCells_one G TV (cellsL (vs.drop i)) ((i + 1) * 2) _ w2.drew a2 (by rw [g1, hBl]; omega)
  have HP := WirS.hide (show InsP w (.slice (some ⟨g, 0, none⟩) n c) (ins vs i x) (.returned (.slice (some ⟨G, 0, none⟩) (n + 1) c2)) (w2.drew.setCells G ((i + 1) * 2) (cellsL (vs.drop i))) from
    ⟨_, _, _, rfl, Rw.own ⟨a3, g2, hge, hcm, by rw [ins_len _ _ _ (by omega), hvl], by rw [g3, cells_ins]⟩ (fun y hy => by rcases mem_ins.1 hy with rfl | hy; exact hxo; exact hok y hy), hF2.trans' ((fr_setCells G (cellsL (vs.drop i)) ((i + 1) * 2) w2 w2.drew (Fr.refl _ _).drew)) (fun k hk e => by omega), fun k hk => .inr (by simp [Value.ownBlock] at hk; omega)⟩)
  obtain ⟨n1, hn1⟩ : ∃ m, n + 1 = m := ⟨_, rfl⟩
  obtain ⟨i1, hi1⟩ : ∃ m, i + 1 = m := ⟨_, rfl⟩
  have f1 : IntKind.i64.wrap ((n : Int) + 1) = (n1 : Int) := by rw [IntWalk.i64_in _ (by omega)]; omega
  have f2 : IntKind.i64.wrap ((i : Int) + 1) = (i1 : Int) := by rw [IntWalk.i64_in _ (by omega)]; omega
  have f3 : IntKind.i64.wrap ((n1 : Int) - (i : Int)) = (d : Int) := by rw [IntWalk.i64_in _ (by omega)]; omega
  have e1 : ((i : Int) == (n : Int)) = false := by simp; omega
  have e2 : (c : Int) < (n1 : Int) := by omega
  have HS1 := WirS.hide (fun Y => slA g n c i (by omega) (by have := h.nc; omega) Y)
  have HS2 := WirS.hide (fun Y => slB g n c i (by have := h.nc; omega) Y)
  have HS3 := WirS.hide (fun Y => slA G n1 c2 i (by omega) (by omega) Y)
  have HS4 := WirS.hide (fun Y => slA G n1 c2 i1 (by omega) (by omega) Y)
  rw [hn1] at hrz hcp1 hcp2 HP
  rw [hi1] at hcp2 HP
  have HRZ := WirS.hide hrz
  have HC1 := WirS.hide hcp1
  have HC2 := WirS.hide hcp2
  clear h hok hx hxo hi hc hgl hVl hvl hA0 hcurA hAl hBl hd hid hold hrz hc2 hge hcm hRe hRl hRA g1 g2 g3 hG a1 hF1 cg1 hx1 hcp1 a2 hF2 cg2 hL1 hcp2 a3 hn1 hi1 hi0 hz0 hz1 hz2
  generalize cellsL (vs.drop i) = Bs at *
  generalize x.cells = xs at *
  go_enter Try.func174, Try.ntmps174
  go_upto_region 1 with fail
  refine wp_region_lit ?_
  refine sV (.slice (some ⟨g, 0, none⟩) n c) (w) (by kernel_rfl) (by kernel_rfl) ?_
  simp only [Act.put, List.setIfInBounds_toArray, List.set_cons_succ, List.set_cons_zero]
  refine sV (.int .i64 (i : Int)) (w) (by kernel_rfl) (by kernel_rfl) ?_
  simp only [Act.put, List.setIfInBounds_toArray, List.set_cons_succ, List.set_cons_zero]
  refine sV _ w (by kernel_rfl) (slopL (x := .tmp 10) (y := .tmp 11) (by kernel_rfl) (by kernel_rfl) (by kernel_rfl) (HS1.out w)) ?_
  simp only [Act.put, List.setIfInBounds_toArray, List.set_cons_succ, List.set_cons_zero]
  go_upto_region 9 with fail
  refine wp_region_lit ?_
  refine sV (.slice (some ⟨g, 0, none⟩) n c) (w) (by kernel_rfl) (by kernel_rfl) ?_
  simp only [Act.put, List.setIfInBounds_toArray, List.set_cons_succ, List.set_cons_zero]
  refine sV (.int .i64 (i : Int)) (w) (by kernel_rfl) (by kernel_rfl) ?_
  simp only [Act.put, List.setIfInBounds_toArray, List.set_cons_succ, List.set_cons_zero]
  refine sV _ w (by kernel_rfl) (slopH (x := .tmp 32) (y := .tmp 33) (by kernel_rfl) (by kernel_rfl) (by kernel_rfl) (HS2.out w)) ?_
  simp only [Act.put, List.setIfInBounds_toArray, List.set_cons_succ, List.set_cons_zero]
  refine sV (.int .i64 (n : Int)) (w) (by kernel_rfl) (by kernel_rfl) ?_
  simp only [Act.put, List.setIfInBounds_toArray, List.set_cons_succ, List.set_cons_zero]
  refine sV (.int .i64 1) (w) (by kernel_rfl) (by kernel_rfl) ?_
  simp only [Act.put, List.setIfInBounds_toArray, List.set_cons_succ, List.set_cons_zero]
  refine sV (.int .i64 (n1 : Int)) w (by kernel_rfl) (by rw [← f1]; kernel_rfl) ?_
  simp only [Act.put, List.setIfInBounds_toArray, List.set_cons_succ, List.set_cons_zero]
  refine sV (.int .i64 (i : Int)) (w) (by kernel_rfl) (by kernel_rfl) ?_
  simp only [Act.put, List.setIfInBounds_toArray, List.set_cons_succ, List.set_cons_zero]
  refine sV (.int .i64 (d : Int)) w (by kernel_rfl) (by rw [← f3]; kernel_rfl) ?_
  simp only [Act.put, List.setIfInBounds_toArray, List.set_cons_succ, List.set_cons_zero]
  refine sA (by kernel_rfl) TL 3 _ _ (by rfl) (.slice (some ⟨g, 0, none⟩) i c) (.int .i64 (d : Int)) (by kernel_rfl) (by kernel_rfl) (.slice (some ⟨G, 0, none⟩) n1 c2) (w1) HRZ.out ?_
  simp only [Act.put, List.setIfInBounds_toArray, List.set_cons_succ, List.set_cons_zero]
  go_upto_region 10 with fail
  refine wp_region_lit ?_
  refine sV (.slice (some ⟨G, 0, none⟩) n1 c2) (w1) (by kernel_rfl) (by kernel_rfl) ?_
  simp only [Act.put, List.setIfInBounds_toArray, List.set_cons_succ, List.set_cons_zero]
  refine sV (.int .i64 (i : Int)) (w1) (by kernel_rfl) (by kernel_rfl) ?_
  simp only [Act.put, List.setIfInBounds_toArray, List.set_cons_succ, List.set_cons_zero]
  refine sV _ w1 (by kernel_rfl) (slopL (x := .tmp 41) (y := .tmp 42) (by kernel_rfl) (by kernel_rfl) (by kernel_rfl) (HS3.out w1)) ?_
  simp only [Act.put, List.setIfInBounds_toArray, List.set_cons_succ, List.set_cons_zero]
  refine sV (.slice (some ⟨V, 0, none⟩) 1 1) (w1) (by kernel_rfl) (by kernel_rfl) ?_
  simp only [Act.put, List.setIfInBounds_toArray, List.set_cons_succ, List.set_cons_zero]
  refine stepW (by kernel_rfl) (fun K hK => wpK TL TL (.tmp 43) (.tmp 44) (by kernel_rfl) (.slice (some ⟨G, i * 2, none⟩) (n1 - i) (c2 - i)) (.slice (some ⟨V, 0, none⟩) 1 1) (by kernel_rfl) (by kernel_rfl) _ w2 (HC1.out _ _) (hK _ _ ?_))
  simp only [Act.put, List.setIfInBounds_toArray, List.set_cons_succ, List.set_cons_zero]
  go_upto_region 11 with fail
  refine wp_region_noPanic ?_
  refine wp_region_held_drew (S := fun _ => True) (by kernel_rfl) trivial (fun hHeld => ?_)
  refine' wpAnyH_take (i := 0) (oi := _) (v := _) rfl (by kernel_rfl) (by kernel_rfl) (by kernel_rfl) (fun _ _ _ h => h) (Or.inl ⟨by kernel_rfl, ?hy0⟩) (by assumption) ?rest0
  case hy0 =>
    intro w hSw
    try dsimp only at hSw
    go_simp
    try with_reducible rfl
  case rest0 =>
  try simp only [List.getElem_toArray, List.getElem_cons_zero, Act.put, List.setIfInBounds_toArray, List.set_cons_zero, List.set_cons_succ]
  refine' wpAnyH_take (i := 1) (oi := _) (v := _) rfl (by kernel_rfl) (by kernel_rfl) (by kernel_rfl) (fun _ _ _ h => h) (Or.inl ⟨by kernel_rfl, ?hy1⟩) (by assumption) ?rest1
  case hy1 =>
    intro w hSw
    try dsimp only at hSw
    go_simp
    try with_reducible rfl
  case rest1 =>
  try simp only [List.getElem_toArray, List.getElem_cons_succ, List.getElem_cons_zero, Act.put, List.setIfInBounds_toArray, List.set_cons_zero, List.set_cons_succ]
  refine' wpAnyH_take (i := 2) (oi := _) (v := _) rfl (by kernel_rfl) (by kernel_rfl) (by kernel_rfl) (fun _ _ _ h => h) (Or.inl ⟨by kernel_rfl, ?hy2⟩) (by assumption) ?rest2
  case hy2 =>
    intro w hSw
    try dsimp only at hSw
    go_simp
    try with_reducible rfl
  case rest2 =>
  try simp only [List.getElem_toArray, List.getElem_cons_succ, List.getElem_cons_zero, Act.put, List.setIfInBounds_toArray, List.set_cons_zero, List.set_cons_succ]
  refine' wpAnyH_take (i := 3) (oi := _) (v := .int .i64 (i1 : Int)) rfl (by kernel_rfl) (by kernel_rfl) (by kernel_rfl) (fun _ _ _ h => h) (Or.inl ⟨by kernel_rfl, ?hy3⟩) (by assumption) ?rest3
  case hy3 =>
    intro W _
    exact (fun W => by rw [← f2]; kernel_rfl) W
  case rest3 =>
  try simp only [List.getElem_toArray, List.getElem_cons_succ, List.getElem_cons_zero, Act.put, List.setIfInBounds_toArray, List.set_cons_zero, List.set_cons_succ]
  refine' wpAnyH_take (i := 4) (oi := _) (v := .slice (some ⟨G, i1 * 2, none⟩) (n1 - i1) (c2 - i1)) rfl (by kernel_rfl) (by kernel_rfl) (by kernel_rfl) (fun _ _ _ h => h) (Or.inl ⟨by kernel_rfl, ?hy4⟩) (by assumption) ?rest4
  case hy4 =>
    intro W _
    exact (fun W => slopL (x := .tmp 46) (y := .tmp 49) (by kernel_rfl) (by kernel_rfl) (by kernel_rfl) (HS4.out W)) W
  case rest4 =>
  try simp only [List.getElem_toArray, List.getElem_cons_succ, List.getElem_cons_zero, Act.put, List.setIfInBounds_toArray, List.set_cons_zero, List.set_cons_succ]
  refine' wpAnyH_take (i := 5) (oi := _) (v := _) rfl (by kernel_rfl) (by kernel_rfl) (by kernel_rfl) (fun _ _ _ h => h) (Or.inl ⟨by kernel_rfl, ?hy5⟩) (by assumption) ?rest5
  case hy5 =>
    intro w hSw
    try dsimp only at hSw
    go_simp
    try with_reducible rfl
  case rest5 =>
  try simp only [List.getElem_toArray, List.getElem_cons_succ, List.getElem_cons_zero, Act.put, List.setIfInBounds_toArray, List.set_cons_zero, List.set_cons_succ]
  refine' wpAnyH_take (i := 6) (oi := _) (v := _) rfl (by kernel_rfl) (by kernel_rfl) (by kernel_rfl) (fun _ _ _ h => h) (Or.inl ⟨by kernel_rfl, ?hy6⟩) (by assumption) ?rest6
  case hy6 =>
    intro w hSw
    try dsimp only at hSw
    go_simp
    try with_reducible rfl
  case rest6 =>
  try simp only [List.getElem_toArray, List.getElem_cons_succ, List.getElem_cons_zero, Act.put, List.setIfInBounds_toArray, List.set_cons_zero, List.set_cons_succ]
  refine' wpAnyH_take (i := 7) (oi := _) (v := .slice (some ⟨g, i * 2, none⟩) (n - i) (c - i)) rfl (by kernel_rfl) (by kernel_rfl) (by kernel_rfl) (fun _ _ _ h => h) (Or.inl ⟨by kernel_rfl, ?hy7⟩) (by assumption) ?rest7
  case hy7 =>
    intro W _
    exact (fun W => slopL (x := .tmp 51) (y := .tmp 52) (by kernel_rfl) (by kernel_rfl) (by kernel_rfl) (HS1.out W)) W
  case rest7 =>
  try simp only [List.getElem_toArray, List.getElem_cons_succ, List.getElem_cons_zero, Act.put, List.setIfInBounds_toArray, List.set_cons_zero, List.set_cons_succ]
  refine wpAnyH_ready (rs := [8]) (by kernel_rfl) (by simp) ?_
  refine AllReadyH.cons rfl (fun K hK => ?_) AllReadyH.nil
  rw [if_pos (by kernel_rfl)]
  refine wpK TL TL (.tmp 50) (.tmp 53) (by kernel_rfl) (.slice (some ⟨G, i1 * 2, none⟩) (n1 - i1) (c2 - i1)) (.slice (some ⟨g, i * 2, none⟩) (n - i) (c - i)) (by kernel_rfl) (by kernel_rfl) _ _ (HC2.out _ _ _) ?_
  refine hK.out _ _ trivial (fun hHeld => ?_)
  clear hK K
  try simp only [Act.put]
  refine wpAnyH_done (by kernel_rfl) ?_ _
  refine NoPanic.normal ?_
  clear hHeld HRZ HC1 HC2 HS1 HS2 HS3 HS4
  generalize World.setCells w2.drew _ _ _ = w3 at *
  go_wp2_with fail
  go_ret
  exact HP.out

set_option maxRecDepth 10000 in
set_option maxHeartbeats 4000000 in
theorem insert_room (w : World) (g n c i V : Nat) (vs : List Vt) (cur : List Value) (x : Vt) (h : Rw w g n c vs cur) (hok : ∀ y ∈ vs, y.ok) (hx : At w V TV x.cells) (hxo : x.ok) (hVg : V ≠ g) (hi : i < n) (hc : n + 1 ≤ c) (hn : n ≤ 1000) :
    Calls Try.prog 174 #[.slice (some ⟨g, 0, none⟩) n c, .int .i64 (i : Int), .slice (some ⟨V, 0, none⟩) 1 1] w (InsP w (.slice (some ⟨g, 0, none⟩) n c) (ins vs i x)) := by
  have hvl := h.ln
  have hcl := h.len
  have hcm := h.cm
  have hBl : (cellsL (vs.drop i)).length = (n - i) * 2 := by rw [cellsL_len, List.length_drop, hvl]
  have hAl : (cellsL (vs.take i)).length = i * 2 := by rw [cellsL_len, List.length_take, Nat.min_eq_left (by omega)]
  have hcur : cur = cellsL (vs.take i) ++ (cellsL (vs.drop i) ++ cur.drop (n * 2)) := by
    have e : cellsL vs = cellsL (vs.take i) ++ cellsL (vs.drop i) := by rw [← cellsL_app, List.take_append_drop]
    rw [← List.append_assoc, ← e, ← h.pre, List.take_append_drop]
  have hsh := shift_list (n := n) (i := i) hcur hAl hBl (show x.cells.length = 2 from rfl) (by rw [List.length_drop, hcl]; omega) (by omega)
  have hov : ∀ (lb cb : Nat), (callFunc 227 #[.slice (some ⟨V, 0, none⟩) 1 1, .slice (some ⟨g, (i + 1) * 2, none⟩) lb cb]).run Try.prog w = .ok (.value (.bool false)) w := fun lb cb => by
    have hsv : w.shape? V = some (TV, 2) := by
      have := show w.heap[V]? = some (.cells x.cells.toArray TV (0, 0)) from hx
      simp [World.shape?, this, Vt.cells]
    have hsg : w.shape? g = some (TV, c * 2) := by simp [World.shape?, h.at', hcl]
    rw [run_callFunc_extern Try.func227 (by kernel_rfl) (by kernel_rfl) (by kernel_rfl) (e := Extern.SlicesOverlaps.overlaps #[TL, TL] #[4]) (by kernel_rfl),
      Lib.run_overlaps_apart w TL 4 (Try.prog.elem TL) uTL 2 sTL ⟨V, 0, none⟩ ⟨g, (i + 1) * 2, none⟩ 1 1 lb cb hVg TV TV 2 (c * 2) hsv hsg (by omega) (hx.frozen 0) (hx.frozen 2)]
    rfl
  have hcp1 : ∀ ty dc sc, (Builtin.copy_ #[TL, TL] ty #[.slice (some ⟨g, (i + 1) * 2, none⟩) (n + 1 - (i + 1)) dc, .slice (some ⟨g, i * 2, none⟩) (n + 1 - i) sc]).run Try.prog w.drew = .ok (goInt (n - i : Nat)) (w.drew.setCells g ((i + 1) * 2) (cellsL (vs.drop i))) := fun ty dc sc =>
    run_copy_k w.drew TL TL ty _ 2 (n - i) g ((i + 1) * 2) (n + 1 - (i + 1)) dc ⟨g, i * 2, none⟩ (n + 1 - i) sc (cellsL (vs.drop i)) uTL sTV (by show min _ _ = _; omega) hBl
      (fun j v hj => by
        rw [Addr.add_lit]
        show w.cell? _ = _
        rw [cell_row h.at', ← hj, ← cells_drop vs i (by omega), ← h.pre, List.getElem?_drop, List.getElem?_take]
        have hjl := (List.getElem?_eq_some_iff.1 hj).1
        rw [hBl] at hjl
        rw [if_pos (by omega)])
      (fun j hj => by
        show (w.cell? _).isSome = true
        rw [cell_row h.at', List.getElem?_eq_getElem (by rw [hcl]; rw [hBl] at hj; omega)]
        rfl)
      (fun j _ => froz_row h.at' _) (fun v hv => one_cells _ v hv)
  have a2 := heap_setCells_one g TV (cellsL (vs.drop i)) ((i + 1) * 2) cur w.drew h.at' (by rw [hcl, hBl]; omega)
  have hF2 : Fr (fun k => (Value.slice (some ⟨g, 0, none⟩) n c).ownBlock = some k) w (w.drew.setCells g ((i + 1) * 2) (cellsL (vs.drop i))) := (fr_setCells g (cellsL (vs.drop i)) ((i + 1) * 2) w w.drew (Fr.refl _ _).drew).mono (fun k _ hk => by subst hk; rfl)
  have hx2 : At (w.drew.setCells g ((i + 1) * 2) (cellsL (vs.drop i))) V TV x.cells := At.fr hx (fr_setCells g (cellsL (vs.drop i)) ((i + 1) * 2) w w.drew (Fr.refl _ _).drew) hVg
  generalize w.drew.setCells g ((i + 1) * 2) (cellsL (vs.drop i)) = w2 at hcp1 a2 hF2 hx2
  obtain ⟨L1, hL1⟩ : ∃ L1, cur.take ((i + 1) * 2) ++ (cellsL (vs.drop i) ++ cur.drop ((i + 1) * 2 + (cellsL (vs.drop i)).length)) = L1 := ⟨_, rfl⟩
  rw [hL1] at a2
  have hL1l : L1.length = c * 2 := by rw [← hL1]; simp only [List.length_append, List.length_take, List.length_drop, hcl, hBl]; omega
  have hcp2 : ∀ ty dc, (Builtin.copy_ #[TL, TL] ty #[.slice (some ⟨g, i * 2, none⟩) (n + 1 - i) dc, .slice (some ⟨V, 0, none⟩) 1 1]).run Try.prog w2 = .ok (goInt 1) (w2.setCells g (i * 2) x.cells) := fun ty dc =>
    run_copy_k w2 TL TL ty _ 2 1 g (i * 2) (n + 1 - i) dc ⟨V, 0, none⟩ 1 1 x.cells uTL sTV (by show min _ _ = 1; omega) rfl
      (fun j v hj => by rw [Addr.add_lit, Nat.zero_add, hx2.cell]; exact hj)
      (fun j hj => by rw [cell_row a2, List.getElem?_eq_getElem (by rw [hL1l]; simp [Vt.cells] at hj; omega)]; rfl) (fun j _ => froz_row a2 _) (oneV x)
  have a3 := heap_setCells_one g TV x.cells (i * 2) L1 w2 a2 (by rw [hL1l]; show i * 2 + 2 ≤ _; omega)
  have hL2 : L1.take (i * 2) ++ (x.cells ++ L1.drop (i * 2 + x.cells.length)) = cellsL (vs.take i) ++ (x.cells ++ (cellsL (vs.drop i) ++ (cur.drop (n * 2)).drop 2)) := by rw [← hL1]; exact hsh
  rw [hL2] at a3
  have HP := WirS.hide (show InsP w (.slice (some ⟨g, 0, none⟩) n c) (ins vs i x) (.returned (.slice (some ⟨g, 0, none⟩) (n + 1) c)) (w2.setCells g (i * 2) x.cells) from
    ⟨_, _, _, rfl, Rw.own ⟨a3, (by simp only [List.length_append, List.length_drop, hcl, hBl, hAl, show x.cells.length = 2 from rfl]; omega), hc, hcm, by rw [ins_len _ _ _ (by omega), hvl], by
      rw [cells_ins, ← List.append_assoc x.cells, ← List.append_assoc]
      exact List.take_left' (by simp only [List.length_append, hBl, hAl, show x.cells.length = 2 from rfl]; omega)⟩ (fun y hy => by rcases mem_ins.1 hy with rfl | hy; exact hxo; exact hok y hy), hF2.trans' (fr_setCells g x.cells (i * 2) w2 w2 (Fr.refl _ _)) (fun k _ hk => by subst hk; rfl), NewOr.refl w _⟩)
  obtain ⟨n1, hn1⟩ : ∃ m, n + 1 = m := ⟨_, rfl⟩
  obtain ⟨i1, hi1⟩ : ∃ m, i + 1 = m := ⟨_, rfl⟩
  have f1 : IntKind.i64.wrap ((n : Int) + 1) = (n1 : Int) := by rw [IntWalk.i64_in _ (by omega)]; omega
  have f2 : IntKind.i64.wrap ((i : Int) + 1) = (i1 : Int) := by rw [IntWalk.i64_in _ (by omega)]; omega
  have e1 : ((i : Int) == (n : Int)) = false := by simp; omega
  have e2 : ¬ (c : Int) < (n1 : Int) := by omega
  have HS1 := WirS.hide (fun Y => slA g n c i (by omega) (by omega) Y)
  have HS2 := WirS.hide (fun Y => slB g n c n1 (by omega) Y)
  have HS3 := WirS.hide (fun Y => slA g n1 c i (by omega) (by omega) Y)
  have HS4 := WirS.hide (fun Y => slA g n1 c i1 (by omega) (by omega) Y)
  rw [hn1] at hcp1 hcp2 HP
  rw [hi1] at hcp1 hov
  have HC1 := WirS.hide hcp1
  have HC2 := WirS.hide hcp2
  have HOV := WirS.hide hov
  clear h hok hx hxo hi hc hvl hcl hcm hBl hAl hcur hsh hov hcp1 a2 hF2 hx2 hL1 hL1l hcp2 a3 hL2 hn1 hi1 hVg
  generalize cellsL (vs.drop i) = Bs at *
  generalize x.cells = xs at *
  go_enter Try.func174, Try.ntmps174
  go_upto_region 1 with fail
  refine wp_region_lit ?_
  refine sV (.slice (some ⟨g, 0, none⟩) n c) (w) (by kernel_rfl) (by kernel_rfl) ?_
  simp only [Act.put, List.setIfInBounds_toArray, List.set_cons_succ, List.set_cons_zero]
  refine sV (.int .i64 (i : Int)) (w) (by kernel_rfl) (by kernel_rfl) ?_
  simp only [Act.put, List.setIfInBounds_toArray, List.set_cons_succ, List.set_cons_zero]
  refine sV _ w (by kernel_rfl) (slopL (x := .tmp 10) (y := .tmp 11) (by kernel_rfl) (by kernel_rfl) (by kernel_rfl) (HS1.out w)) ?_
  simp only [Act.put, List.setIfInBounds_toArray, List.set_cons_succ, List.set_cons_zero]
  go_upto_region 13 with fail
  refine wp_region_lit ?_
  refine sV (.slice (some ⟨g, 0, none⟩) n c) (w) (by kernel_rfl) (by kernel_rfl) ?_
  simp only [Act.put, List.setIfInBounds_toArray, List.set_cons_succ, List.set_cons_zero]
  refine sV (.int .i64 (n : Int)) (w) (by kernel_rfl) (by kernel_rfl) ?_
  simp only [Act.put, List.setIfInBounds_toArray, List.set_cons_succ, List.set_cons_zero]
  refine sV (.int .i64 1) (w) (by kernel_rfl) (by kernel_rfl) ?_
  simp only [Act.put, List.setIfInBounds_toArray, List.set_cons_succ, List.set_cons_zero]
  refine sV (.int .i64 (n1 : Int)) w (by kernel_rfl) (by rw [← f1]; kernel_rfl) ?_
  simp only [Act.put, List.setIfInBounds_toArray, List.set_cons_succ, List.set_cons_zero]
  refine sV _ w (by kernel_rfl) (slopH (x := .tmp 56) (y := .tmp 59) (by kernel_rfl) (by kernel_rfl) (by kernel_rfl) (HS2.out w)) ?_
  simp only [Act.put, List.setIfInBounds_toArray, List.set_cons_succ, List.set_cons_zero]
  go_upto_region 14 with fail
  refine wp_region_lit ?_
  refine sV (.slice (some ⟨V, 0, none⟩) 1 1) (w) (by kernel_rfl) (by kernel_rfl) ?_
  simp only [Act.put, List.setIfInBounds_toArray, List.set_cons_succ, List.set_cons_zero]
  refine sV (.slice (some ⟨g, 0, none⟩) n1 c) (w) (by kernel_rfl) (by kernel_rfl) ?_
  simp only [Act.put, List.setIfInBounds_toArray, List.set_cons_succ, List.set_cons_zero]
  refine sV (.int .i64 (i : Int)) (w) (by kernel_rfl) (by kernel_rfl) ?_
  simp only [Act.put, List.setIfInBounds_toArray, List.set_cons_succ, List.set_cons_zero]
  refine sV (.int .i64 1) (w) (by kernel_rfl) (by kernel_rfl) ?_
  simp only [Act.put, List.setIfInBounds_toArray, List.set_cons_succ, List.set_cons_zero]
  refine sV (.int .i64 (i1 : Int)) w (by kernel_rfl) (by rw [← f2]; kernel_rfl) ?_
  simp only [Act.put, List.setIfInBounds_toArray, List.set_cons_succ, List.set_cons_zero]
  refine sV _ w (by kernel_rfl) (slopL (x := .tmp 62) (y := .tmp 65) (by kernel_rfl) (by kernel_rfl) (by kernel_rfl) (HS4.out w)) ?_
  simp only [Act.put, List.setIfInBounds_toArray, List.set_cons_succ, List.set_cons_zero]
  go_upto_region 15 with (simp only [HOV.out])
  refine wp_region_noPanic ?_
  refine wp_region_held_drew (S := fun _ => True) (by kernel_rfl) trivial (fun hHeld => ?_)
  refine' wpAnyH_take (i := 0) (oi := _) (v := _) rfl (by kernel_rfl) (by kernel_rfl) (by kernel_rfl) (fun _ _ _ h => h) (Or.inl ⟨by kernel_rfl, ?hy0⟩) (by assumption) ?rest0
  case hy0 =>
    intro w hSw
    try dsimp only at hSw
    go_simp
    try with_reducible rfl
  case rest0 =>
  try simp only [List.getElem_toArray, List.getElem_cons_zero, Act.put, List.setIfInBounds_toArray, List.set_cons_zero, List.set_cons_succ]
  refine' wpAnyH_take (i := 1) (oi := _) (v := _) rfl (by kernel_rfl) (by kernel_rfl) (by kernel_rfl) (fun _ _ _ h => h) (Or.inl ⟨by kernel_rfl, ?hy1⟩) (by assumption) ?rest1
  case hy1 =>
    intro w hSw
    try dsimp only at hSw
    go_simp
    try with_reducible rfl
  case rest1 =>
  try simp only [List.getElem_toArray, List.getElem_cons_succ, List.getElem_cons_zero, Act.put, List.setIfInBounds_toArray, List.set_cons_zero, List.set_cons_succ]
  refine' wpAnyH_take (i := 2) (oi := _) (v := _) rfl (by kernel_rfl) (by kernel_rfl) (by kernel_rfl) (fun _ _ _ h => h) (Or.inl ⟨by kernel_rfl, ?hy2⟩) (by assumption) ?rest2
  case hy2 =>
    intro w hSw
    try dsimp only at hSw
    go_simp
    try with_reducible rfl
  case rest2 =>
  try simp only [List.getElem_toArray, List.getElem_cons_succ, List.getElem_cons_zero, Act.put, List.setIfInBounds_toArray, List.set_cons_zero, List.set_cons_succ]
  refine' wpAnyH_take (i := 3) (oi := _) (v := .int .i64 (i1 : Int)) rfl (by kernel_rfl) (by kernel_rfl) (by kernel_rfl) (fun _ _ _ h => h) (Or.inl ⟨by kernel_rfl, ?hy3⟩) (by assumption) ?rest3
  case hy3 =>
    intro W _
    exact (fun W => by rw [← f2]; kernel_rfl) W
  case rest3 =>
  try simp only [List.getElem_toArray, List.getElem_cons_succ, List.getElem_cons_zero, Act.put, List.setIfInBounds_toArray, List.set_cons_zero, List.set_cons_succ]
  refine' wpAnyH_take (i := 4) (oi := _) (v := .slice (some ⟨g, i1 * 2, none⟩) (n1 - i1) (c - i1)) rfl (by kernel_rfl) (by kernel_rfl) (by kernel_rfl) (fun _ _ _ h => h) (Or.inl ⟨by kernel_rfl, ?hy4⟩) (by assumption) ?rest4
  case hy4 =>
    intro W _
    exact (fun W => slopL (x := .tmp 69) (y := .tmp 72) (by kernel_rfl) (by kernel_rfl) (by kernel_rfl) (HS4.out W)) W
  case rest4 =>
  try simp only [List.getElem_toArray, List.getElem_cons_succ, List.getElem_cons_zero, Act.put, List.setIfInBounds_toArray, List.set_cons_zero, List.set_cons_succ]
  refine' wpAnyH_take (i := 5) (oi := _) (v := _) rfl (by kernel_rfl) (by kernel_rfl) (by kernel_rfl) (fun _ _ _ h => h) (Or.inl ⟨by kernel_rfl, ?hy5⟩) (by assumption) ?rest5
  case hy5 =>
    intro w hSw
    try dsimp only at hSw
    go_simp
    try with_reducible rfl
  case rest5 =>
  try simp only [List.getElem_toArray, List.getElem_cons_succ, List.getElem_cons_zero, Act.put, List.setIfInBounds_toArray, List.set_cons_zero, List.set_cons_succ]
  refine' wpAnyH_take (i := 6) (oi := _) (v := _) rfl (by kernel_rfl) (by kernel_rfl) (by kernel_rfl) (fun _ _ _ h => h) (Or.inl ⟨by kernel_rfl, ?hy6⟩) (by assumption) ?rest6
  case hy6 =>
    intro w hSw
    try dsimp only at hSw
    go_simp
    try with_reducible rfl
  case rest6 =>
  try simp only [List.getElem_toArray, List.getElem_cons_succ, List.getElem_cons_zero, Act.put, List.setIfInBounds_toArray, List.set_cons_zero, List.set_cons_succ]
  refine' wpAnyH_take (i := 7) (oi := _) (v := .slice (some ⟨g, i * 2, none⟩) (n1 - i) (c - i)) rfl (by kernel_rfl) (by kernel_rfl) (by kernel_rfl) (fun _ _ _ h => h) (Or.inl ⟨by kernel_rfl, ?hy7⟩) (by assumption) ?rest7
  case hy7 =>
    intro W _
    exact (fun W => slopL (x := .tmp 74) (y := .tmp 75) (by kernel_rfl) (by kernel_rfl) (by kernel_rfl) (HS3.out W)) W
  case rest7 =>
  try simp only [List.getElem_toArray, List.getElem_cons_succ, List.getElem_cons_zero, Act.put, List.setIfInBounds_toArray, List.set_cons_zero, List.set_cons_succ]
  refine wpAnyH_ready (rs := [8]) (by kernel_rfl) (by simp) ?_
  refine AllReadyH.cons rfl (fun K hK => ?_) AllReadyH.nil
  rw [if_pos (by kernel_rfl)]
  refine wpK TL TL (.tmp 73) (.tmp 76) (by kernel_rfl) (.slice (some ⟨g, i1 * 2, none⟩) (n1 - i1) (c - i1)) (.slice (some ⟨g, i * 2, none⟩) (n1 - i) (c - i)) (by kernel_rfl) (by kernel_rfl) _ _ (HC1.out _ _ _) ?_
  refine hK.out _ _ trivial (fun hHeld => ?_)
  clear hK K
  try simp only [Act.put]
  refine wpAnyH_done (by kernel_rfl) ?_ _
  refine NoPanic.normal ?_
  clear hHeld
  go_upto_region 16 with fail
  refine wp_region_lit ?_
  refine sV (.slice (some ⟨g, 0, none⟩) n1 c) (w2) (by kernel_rfl) (by kernel_rfl) ?_
  simp only [Act.put, List.setIfInBounds_toArray]
  refine sV (.int .i64 (i : Int)) (w2) (by kernel_rfl) (by kernel_rfl) ?_
  simp only [Act.put]
  refine sV _ w2 (by kernel_rfl) (slopL (x := .tmp 78) (y := .tmp 79) (by kernel_rfl) (by kernel_rfl) (by kernel_rfl) (HS3.out w2)) ?_
  simp only [Act.put]
  refine sV (.slice (some ⟨V, 0, none⟩) 1 1) (w2) (by kernel_rfl) (by kernel_rfl) ?_
  simp only [Act.put]
  refine stepW (by kernel_rfl) (fun K hK => wpK TL TL (.tmp 80) (.tmp 81) (by kernel_rfl) (.slice (some ⟨g, i * 2, none⟩) (n1 - i) (c - i)) (.slice (some ⟨V, 0, none⟩) 1 1) (by kernel_rfl) (by kernel_rfl) _ _ (HC2.out _ _) (hK _ _ ?_))
  simp only [Act.put]
  clear HC1 HC2 HS1 HS2 HS3 HS4 HOV
  generalize World.setCells w2 _ _ _ = w3 at *
  go_wp2_with fail
  go_ret
  exact HP.out
theorem insert_any (w : World) (a : Option Addr) (n c i V : Nat) (vs : List Vt) (x : Vt) (h : OwnT w (.slice a n c) vs) (hx : At w V TV x.cells) (hxo : x.ok) (hV : (Value.slice a n c).ownBlock ≠ some V) (hi : i ≤ n) (hn : n ≤ 1000) :
    Calls Try.prog 174 #[.slice a n c, .int .i64 (i : Int), .slice (some ⟨V, 0, none⟩) 1 1] w (InsP w (.slice a n c) (ins vs i x)) := by
  have hl : vs.length = n := by obtain ⟨va, vc, e⟩ := h.len_of; cases e; rfl
  by_cases e : i = n
  · subst e
    exact insert_end w a i c V vs x h hx hxo hn
  · obtain ⟨g, cur, rfl, hr⟩ := OwnT.rw' h (by omega)
    by_cases hc : c < n + 1
    · exact insert_grow w g n c i V vs cur x hr h.ok hx hxo (by omega) hc hn
    · exact insert_room w g n c i V vs cur x hr h.ok hx hxo (fun e => hV (by rw [e]; rfl)) (by omega) (by omega) hn
end CmI
end Go.Proofs.Ythcemghamdmjmaa

namespace Go.Proofs.Ythcemghamdmjmaa
namespace CmJ
open Go.RowKit
open BlkM WirM WirS CmA CmP CmB CmE CmI
open WirX (Thg Bag)
open WirAA (box bag_box bag_set)
open WirAB (sCx)

theorem bag_row {w0 w : World} {l : List Thg} {T : TypeId} {X : Nat} {cs : List Value} (h : Bag w0 w (box T X cs :: l)) (c : List Value) : Bag w0 (w.setRow X c.toArray) (box T X c :: l) :=
  h.act (WirO.Fr.setRow (Fr.refl _ _) X _ (fun _ => rfl)) (h.head.put c) (fun _ hk => .inl hk)
theorem retRow2 {P : Program} {w : World} {g : Nat} {T : TypeId} {cs : List Value} (hg : At w g T cs) {fn : Func} {p u : Tmp} {ty : TypeId} (h : fn.results = #[.cell p ty, .tmp u]) (tmps : Array Value) (hp : tmps.getD p undef = .pointer (some ⟨g, 0, none⟩)) (v : Value) (hv : tmps.getD u undef = v)
    (d : TypeDesc) (n : Nat) (hu : P.underlying ty = some d) (hd : (match d with | .struct _ | .array _ _ => true | _ => false) = true) (hi : (P.info? ty).map (·.size) = some n) (hn : cs.length = n) :
    (results fn tmps).run P w = .ok (.tuple #[.agg cs.toArray, v]) w := by
  rw [results_cell_tmp h, hp, hv]
  simp only [asAddr, Sem.run_pure, Result.andThen]
  rw [run_loadVar_row w g T ty cs.toArray (0, 0) d hg hu hd (by rw [hi, ← hn]; simp)]
/-- A call as a step of a drawn region. -/
theorem stepCallH {P : Program} {o : Oper} {a : Act} {w : World} {K : Act → World → Prop} {Q : Exit → Act → World → Prop} {f : FuncId} {args : Array Value} {v : Value} {R : World → Prop} (hrun : (execOp a.eval o).run P w = .ok (.enter f args) w)
    (hc : Calls P f args w fun e w' => e = .returned v ∧ R w') (h : ∀ w', R w' → K (a.put o.dst v) w') : o.wp P a w K Q := by
  unfold Oper.wp
  rw [hrun, Oper.upon_enter]
  exact hc.mono (by rintro e w' ⟨rfl, hr⟩; exact h w' hr)
theorem wp_load_cell {P : Program} {o : Oper} {a : Act} {w : World} {K : Act → World → Prop} {Q : Exit → Act → World → Prop} (ty : TypeId) (x : Operand) (ho : o.op = .load ty x) (ad : Addr) (v : Value) (hx : a.eval x = .pointer (some ad)) (hc : w.cell? ad = some v) (hag : (isAgg ty).run P w = .ok false w)
    (h : K (a.put o.dst v) w) : o.wp P a w K Q := by
  have hrun : (execOp a.eval o).run P w = .ok (.value v) w := by
    unfold execOp
    simp only [ho, hx, Instr.loadAt, Instr.sureAddr, loadVar, Sem.run_bind, Sem.run_pure, hag, Bool.false_eq_true, if_false, run_load, hc, Result.andThen]
  unfold Oper.wp
  rw [hrun]
  exact h
theorem wp_value {P : Program} {o : Oper} {a : Act} {w w' : World} {K : Act → World → Prop} {Q : Exit → Act → World → Prop} (v : Value) (hrun : (execOp a.eval o).run P w = .ok (.value v) w') (h : K (a.put o.dst v) w') : o.wp P a w K Q := by
  unfold Oper.wp
  rw [hrun]
  exact h
/-- A slice stored into one cell. -/
theorem store_sl {o : Oper} {a : Act} {w : World} {K : Act → World → Prop} {Q : Exit → Act → World → Prop} {x y : Operand} (ho : o.op = .store TL x y) (M k : Nat) (b : Option Addr) (n c : Nat) (c0 : Option Value) (hx : a.eval x = .pointer (some ⟨M, k, none⟩)) (hy : a.eval y = .slice b n c)
    (hc : w.cell? ⟨M, k, none⟩ = c0) (hs : c0.isSome = true) (hf : w.frozen? ⟨M, k, none⟩ = false) (h : K (a.put o.dst undef) (w.setCell ⟨M, k, none⟩ (.slice b n c))) : o.wp Try.prog a w K Q := by
  obtain ⟨c1, rfl⟩ := Option.isSome_iff_exists.1 hs
  unfold Oper.wp execOp
  simp only [ho, hx, hy, Instr.storeAt, Instr.sureAddr, Sem.run_bind, Sem.run_pure, Result.andThen_ok]
  have hst : (storeVar TL ⟨M, k, none⟩ (.slice b n c)).run Try.prog w = .ok () (w.setCell ⟨M, k, none⟩ (.slice b n c)) := by
    have e := run_storeCells_cells (P := Try.prog) M k [.slice b n c] 0 w (fun j hj => by obtain rfl : j = 0 := (by simp at hj; omega); simp [hc]) (fun j hj => by obtain rfl : j = 0 := (by simp at hj; omega); simpa using hf) (fun v hv => by simp at hv; subst hv; rfl)
    have hq : (sizeOf TL).run Try.prog w = .ok 1 w := by kernel_rfl
    simp [storeVar, hq, Value.cells, World.setCells, hc, hf, go_sem] at e ⊢
  rw [hst]
  exact h
abbrev z32 : List Int := List.replicate 32 0
abbrev zcm : List Value := ccl 0 z32 (.slice none 0 0)
/-- What Add says. -/
def addE (ht : Int) (vs : List Vt) (v : Vt) : Int := if chk ht vs ≠ 0 then chk ht vs else if ¬(0 ≤ v.at' ∧ v.at' < 64) then 3 else if (ofV v.at' vs).isSome = true then 8 else 0
/-- A commit told, with an error. -/
def CP (w : World) (cd ht : Int) (h : List Int) (vs : List Vt) (e : Ending) (w' : World) : Prop := ∃ a n c, e = .returned (.tuple #[.agg (ccl ht h (.slice a n c)).toArray, .int .i64 cd]) ∧ OwnT w' (.slice a n c) vs ∧ NewB w (.slice a n c) ∧ Below w.heap.size w w'
theorem cp_none {w w' : World} {cd : Int} {e : Ending} (he : e = .returned (.tuple #[.agg zcm.toArray, .int .i64 cd])) (hb : Below w.heap.size w w') : CP w cd 0 z32 [] e w' := ⟨none, 0, 0, he, OwnT.nil w', fun k hk => by simp [Value.ownBlock] at hk, hb⟩
abbrev UC := Try.underlying94
theorem ccl_set (ht : Int) (h : List Int) (s s' : Value) (hl : h.length = 32) : (ccl ht h s).set 33 s' = ccl ht h s' := by
  show Value.int .i64 ht :: (b8 h ++ [s]).set 32 s' = _
  rw [List.set_append_right _ _ (by rw [b8_len, hl]; exact Nat.le_refl _), b8_len, hl]
  rfl
set_option maxRecDepth 10000 in
set_option maxHeartbeats 8000000 in
theorem add_chk (w : World) (ht : Int) (h : List Int) (a : Option Addr) (n c : Nat) (vs : List Vt) (v : Vt) (hl : h.length = 32) (hv : VtIn w a n c vs) (_hn : n ≤ 1000) (hc : chk ht vs ≠ 0) :
    Calls Try.prog 83 #[.agg (ccl ht h (.slice a n c)).toArray, .agg #[.int .i64 v.at', .int .u64 v.sg]] w (CP w (chk ht vs) 0 z32 []) := by
  have HL := WirS.hide hl
  have HV := WirS.hide hv
  have hbX := bag_box (w0 := w) (T := TC) (cs := ccl ht h (.slice a n c)) (X := w.heap.size) (Bag.nil (Below.refl _ _)) rfl (w' := w.alloc (.cells (ccl ht h (.slice a n c)).toArray TC)) (At.new _ _ _) (Below.alloc (Below.refl _ _) (Nat.le_refl _) _)
  have HCK := WirS.hide (fun U (hU : Below w.heap.size w U) => check_any U ht h a n c vs hl (hv.below hU))
  generalize chk ht vs = cd at *
  have d1 : (cd != 0) = true := by simpa using hc
  clear hl hv hc
  go_enter Try.func83, Try.ntmps83
  go_upto_region 0 with fail
  refine wp_region_lit ?_
  refine sV (.pointer (some ⟨w.heap.size, 0, none⟩)) (w.alloc (.cells (ccl ht h (.slice a n c)).toArray TC)) (by kernel_rfl) (by kernel_rfl) ?_
  simp only [Act.put, List.setIfInBounds_toArray, List.set_cons_succ, List.set_cons_zero]
  obtain ⟨X, eX⟩ : ∃ A, w.heap.size = A := ⟨_, rfl⟩
  rw [eX] at hbX ⊢
  clear eX
  generalize World.alloc w _ = x0 at *
  refine sV (.pointer (some ⟨x0.heap.size, 0, none⟩)) (x0.alloc (.cells v.cells.toArray TV)) (by kernel_rfl) (by kernel_rfl) ?_
  simp only [Act.put, List.setIfInBounds_toArray, List.set_cons_succ, List.set_cons_zero]
  obtain ⟨Y, eY⟩ : ∃ A, x0.heap.size = A := ⟨_, rfl⟩
  have hbY := bag_box (T := TV) (cs := v.cells) (X := Y) hbX eY.symm (w' := x0.alloc (.cells v.cells.toArray TV)) (by rw [← eY]; exact At.new _ _ _) (Below.alloc (Below.refl _ _) (Nat.le_refl _) _)
  rw [eY]
  clear eY hbX
  generalize World.alloc x0 _ = x1 at *
  refine sV (.pointer (some ⟨x1.heap.size, 0, none⟩)) (x1.alloc (.cells zcm.toArray TC)) (by kernel_rfl) (by kernel_rfl) ?_
  simp only [Act.put, List.setIfInBounds_toArray, List.set_cons_succ, List.set_cons_zero]
  obtain ⟨Z, eZ⟩ : ∃ A, x1.heap.size = A := ⟨_, rfl⟩
  have hbZ := bag_box (T := TC) (cs := zcm) (X := Z) hbY eZ.symm (w' := x1.alloc (.cells zcm.toArray TC)) (by rw [← eZ]; exact At.new _ _ _) (Below.alloc (Below.refl _ _) (Nat.le_refl _) _)
  rw [eZ]
  clear eZ hbY
  generalize World.alloc x1 _ = x2 at *
  have H2 := WirS.hide hbZ
  clear hbZ
  go_upto_region 1 with fail
  refine wp_region_lit ?_
  refine sL (by kernel_rfl) _ _ (by rfl) _ (by kernel_rfl) H2.out.drop.drop.head _ _ UC rfl (by kernel_rfl) (by rw [ccl_len _ _ _ HL.out]) ?_
  simp only [Act.put, List.setIfInBounds_toArray, List.set_cons_succ, List.set_cons_zero]
  refine sC (R := fun w' => Below x2.heap.size x2 w') (by kernel_rfl) (by kernel_rfl) (HCK.out x2 H2.out.low) ?_
  rintro x3 hb
  simp only [Act.put, List.setIfInBounds_toArray, List.set_cons_succ, List.set_cons_zero]
  have H3 := WirS.hide (H2.out.more hb)
  clear hb H2
  go_upto_region 3 with fail
  refine wp_region_lit ?_
  refine sV (.agg zcm.toArray) (x3) (by kernel_rfl) (by kernel_rfl) ?_
  simp only [Act.put, List.setIfInBounds_toArray, List.set_cons_succ, List.set_cons_zero]
  refine sV (.int .i64 cd) (x3) (by kernel_rfl) (by kernel_rfl) ?_
  simp only [Act.put, List.setIfInBounds_toArray, List.set_cons_succ, List.set_cons_zero]
  refine stepStore (by rfl) _ _ _ (by rfl) Z zcm (by kernel_rfl) (by kernel_rfl) H3.out.head 34 (by kernel_rfl) (by rfl) (by rfl) (one_ccl _ _ _ _ _) ?_
  simp only [Act.put]
  have HF := WirS.hide (bag_row H3.out zcm)
  clear H3
  generalize World.setRow x3 Z _ = xf at *
  go_wp2_with fail
  refine bodyPost_ret (retRow2 HF.out.head Try.results83 _ (by rfl) (.int .i64 cd) (by rfl) _ 34 UC rfl (by kernel_rfl) (by rfl)) rfl ?_
  exact cp_none rfl HF.out.low
set_option maxRecDepth 10000 in
set_option maxHeartbeats 8000000 in
theorem add_place (w : World) (ht : Int) (h : List Int) (a : Option Addr) (n c : Nat) (vs : List Vt) (v : Vt) (hl : h.length = 32) (hv : VtIn w a n c vs) (_hn : n ≤ 1000) (hc : chk ht vs = 0) (hp : ¬(0 ≤ v.at' ∧ v.at' < 64)) :
    Calls Try.prog 83 #[.agg (ccl ht h (.slice a n c)).toArray, .agg #[.int .i64 v.at', .int .u64 v.sg]] w (CP w 3 0 z32 []) := by
  have HL := WirS.hide hl
  have HV := WirS.hide hv
  have hbX := bag_box (w0 := w) (T := TC) (cs := ccl ht h (.slice a n c)) (X := w.heap.size) (Bag.nil (Below.refl _ _)) rfl (w' := w.alloc (.cells (ccl ht h (.slice a n c)).toArray TC)) (At.new _ _ _) (Below.alloc (Below.refl _ _) (Nat.le_refl _) _)
  have HCK := WirS.hide (fun U (hU : Below w.heap.size w U) => check_any U ht h a n c vs hl (hv.below hU))
  have HPL := WirS.hide (fun U => place_any U v.at')
  rw [decide_eq_false hp] at HPL
  rw [hc] at HCK
  clear hl hv hc hp
  go_enter Try.func83, Try.ntmps83
  go_upto_region 0 with fail
  refine wp_region_lit ?_
  refine sV (.pointer (some ⟨w.heap.size, 0, none⟩)) (w.alloc (.cells (ccl ht h (.slice a n c)).toArray TC)) (by kernel_rfl) (by kernel_rfl) ?_
  simp only [Act.put, List.setIfInBounds_toArray, List.set_cons_succ, List.set_cons_zero]
  obtain ⟨X, eX⟩ : ∃ A, w.heap.size = A := ⟨_, rfl⟩
  rw [eX] at hbX ⊢
  clear eX
  generalize World.alloc w _ = x0 at *
  refine sV (.pointer (some ⟨x0.heap.size, 0, none⟩)) (x0.alloc (.cells v.cells.toArray TV)) (by kernel_rfl) (by kernel_rfl) ?_
  simp only [Act.put, List.setIfInBounds_toArray, List.set_cons_succ, List.set_cons_zero]
  obtain ⟨Y, eY⟩ : ∃ A, x0.heap.size = A := ⟨_, rfl⟩
  have hbY := bag_box (T := TV) (cs := v.cells) (X := Y) hbX eY.symm (w' := x0.alloc (.cells v.cells.toArray TV)) (by rw [← eY]; exact At.new _ _ _) (Below.alloc (Below.refl _ _) (Nat.le_refl _) _)
  rw [eY]
  clear eY hbX
  generalize World.alloc x0 _ = x1 at *
  refine sV (.pointer (some ⟨x1.heap.size, 0, none⟩)) (x1.alloc (.cells zcm.toArray TC)) (by kernel_rfl) (by kernel_rfl) ?_
  simp only [Act.put, List.setIfInBounds_toArray, List.set_cons_succ, List.set_cons_zero]
  obtain ⟨Z, eZ⟩ : ∃ A, x1.heap.size = A := ⟨_, rfl⟩
  have hbZ := bag_box (T := TC) (cs := zcm) (X := Z) hbY eZ.symm (w' := x1.alloc (.cells zcm.toArray TC)) (by rw [← eZ]; exact At.new _ _ _) (Below.alloc (Below.refl _ _) (Nat.le_refl _) _)
  rw [eZ]
  clear eZ hbY
  generalize World.alloc x1 _ = x2 at *
  have H2 := WirS.hide hbZ
  clear hbZ
  go_upto_region 1 with fail
  refine wp_region_lit ?_
  refine sL (by kernel_rfl) _ _ (by rfl) _ (by kernel_rfl) H2.out.drop.drop.head _ _ UC rfl (by kernel_rfl) (by rw [ccl_len _ _ _ HL.out]) ?_
  simp only [Act.put, List.setIfInBounds_toArray, List.set_cons_succ, List.set_cons_zero]
  refine sC (R := fun w' => Below x2.heap.size x2 w') (by kernel_rfl) (by kernel_rfl) (HCK.out x2 H2.out.low) ?_
  rintro x3 hb
  simp only [Act.put, List.setIfInBounds_toArray, List.set_cons_succ, List.set_cons_zero]
  have H3 := WirS.hide (H2.out.more hb)
  clear hb H2
  go_upto_region 4 with fail
  refine wp_region_lit ?_
  refine sV (.pointer (some ⟨Y, 0, none⟩)) (x3) (by kernel_rfl) (by kernel_rfl) ?_
  simp only [Act.put, List.setIfInBounds_toArray, List.set_cons_succ, List.set_cons_zero]
  refine sP (by kernel_rfl) _ _ (by rfl) ⟨Y, 0, none⟩ (by kernel_rfl) (.int .i64 v.at') (H3.out.drop.head.cell 0) (by kernel_rfl) ?_
  simp only [Act.put, List.setIfInBounds_toArray, List.set_cons_succ, List.set_cons_zero]
  refine sC (R := fun w' => x3 = w') (by kernel_rfl) (by kernel_rfl) (HPL.out x3) ?_
  rintro _ rfl
  simp only [Act.put, List.setIfInBounds_toArray, List.set_cons_succ, List.set_cons_zero]
  go_upto_region 5 with fail
  refine wp_region_lit ?_
  refine sV (.agg zcm.toArray) (x3) (by kernel_rfl) (by kernel_rfl) ?_
  simp only [Act.put, List.setIfInBounds_toArray, List.set_cons_succ, List.set_cons_zero]
  refine stepStore (by rfl) _ _ _ (by rfl) Z zcm (by kernel_rfl) (by kernel_rfl) H3.out.head 34 (by kernel_rfl) (by rfl) (by rfl) (one_ccl _ _ _ _ _) ?_
  simp only [Act.put]
  have HF := WirS.hide (bag_row H3.out zcm)
  clear H3
  generalize World.setRow x3 Z _ = xf at *
  go_wp2_with fail
  refine bodyPost_ret (retRow2 HF.out.head Try.results83 _ (by rfl) (.int .i64 3) (by rfl) _ 34 UC rfl (by kernel_rfl) (by rfl)) rfl ?_
  exact cp_none rfl HF.out.low
set_option maxRecDepth 10000 in
set_option maxHeartbeats 8000000 in
theorem add_has (w : World) (ht : Int) (h : List Int) (a : Option Addr) (n c : Nat) (vs : List Vt) (v : Vt) (hl : h.length = 32) (hv : VtIn w a n c vs) (hn : n ≤ 1000) (hc : chk ht vs = 0) (hp : 0 ≤ v.at' ∧ v.at' < 64) (ho : (ofV v.at' vs).isSome = true) :
    Calls Try.prog 83 #[.agg (ccl ht h (.slice a n c)).toArray, .agg #[.int .i64 v.at', .int .u64 v.sg]] w (CP w 8 0 z32 []) := by
  have hu := ((chk_up ht vs).1 hc).2.2
  have HL := WirS.hide hl
  have HV := WirS.hide hv
  have hbX := bag_box (w0 := w) (T := TC) (cs := ccl ht h (.slice a n c)) (X := w.heap.size) (Bag.nil (Below.refl _ _)) rfl (w' := w.alloc (.cells (ccl ht h (.slice a n c)).toArray TC)) (At.new _ _ _) (Below.alloc (Below.refl _ _) (Nat.le_refl _) _)
  have HCK := WirS.hide (fun U (hU : Below w.heap.size w U) => check_any U ht h a n c vs hl (hv.below hU))
  have HPL := WirS.hide (fun U => place_any U v.at')
  have HFD := WirS.hide (fun U (hU : Below w.heap.size w U) => find_any U a n c vs v.at' (hv.below hU) hu (by omega))
  rw [decide_eq_true hp] at HPL
  rw [hc] at HCK
  rw [ho] at HFD
  generalize (cut v.at' vs : Nat) = q at *
  clear hl hv hc hp ho hu
  go_enter Try.func83, Try.ntmps83
  go_upto_region 0 with fail
  refine wp_region_lit ?_
  refine sV (.pointer (some ⟨w.heap.size, 0, none⟩)) (w.alloc (.cells (ccl ht h (.slice a n c)).toArray TC)) (by kernel_rfl) (by kernel_rfl) ?_
  simp only [Act.put, List.setIfInBounds_toArray, List.set_cons_succ, List.set_cons_zero]
  obtain ⟨X, eX⟩ : ∃ A, w.heap.size = A := ⟨_, rfl⟩
  rw [eX] at hbX ⊢
  clear eX
  generalize World.alloc w _ = x0 at *
  refine sV (.pointer (some ⟨x0.heap.size, 0, none⟩)) (x0.alloc (.cells v.cells.toArray TV)) (by kernel_rfl) (by kernel_rfl) ?_
  simp only [Act.put, List.setIfInBounds_toArray, List.set_cons_succ, List.set_cons_zero]
  obtain ⟨Y, eY⟩ : ∃ A, x0.heap.size = A := ⟨_, rfl⟩
  have hbY := bag_box (T := TV) (cs := v.cells) (X := Y) hbX eY.symm (w' := x0.alloc (.cells v.cells.toArray TV)) (by rw [← eY]; exact At.new _ _ _) (Below.alloc (Below.refl _ _) (Nat.le_refl _) _)
  rw [eY]
  clear eY hbX
  generalize World.alloc x0 _ = x1 at *
  refine sV (.pointer (some ⟨x1.heap.size, 0, none⟩)) (x1.alloc (.cells zcm.toArray TC)) (by kernel_rfl) (by kernel_rfl) ?_
  simp only [Act.put, List.setIfInBounds_toArray, List.set_cons_succ, List.set_cons_zero]
  obtain ⟨Z, eZ⟩ : ∃ A, x1.heap.size = A := ⟨_, rfl⟩
  have hbZ := bag_box (T := TC) (cs := zcm) (X := Z) hbY eZ.symm (w' := x1.alloc (.cells zcm.toArray TC)) (by rw [← eZ]; exact At.new _ _ _) (Below.alloc (Below.refl _ _) (Nat.le_refl _) _)
  rw [eZ]
  clear eZ hbY
  generalize World.alloc x1 _ = x2 at *
  have H2 := WirS.hide hbZ
  clear hbZ
  go_upto_region 1 with fail
  refine wp_region_lit ?_
  refine sL (by kernel_rfl) _ _ (by rfl) _ (by kernel_rfl) H2.out.drop.drop.head _ _ UC rfl (by kernel_rfl) (by rw [ccl_len _ _ _ HL.out]) ?_
  simp only [Act.put, List.setIfInBounds_toArray, List.set_cons_succ, List.set_cons_zero]
  refine sC (R := fun w' => Below x2.heap.size x2 w') (by kernel_rfl) (by kernel_rfl) (HCK.out x2 H2.out.low) ?_
  rintro x3 hb
  simp only [Act.put, List.setIfInBounds_toArray, List.set_cons_succ, List.set_cons_zero]
  have H3 := WirS.hide (H2.out.more hb)
  clear hb H2
  go_upto_region 4 with fail
  refine wp_region_lit ?_
  refine sV (.pointer (some ⟨Y, 0, none⟩)) (x3) (by kernel_rfl) (by kernel_rfl) ?_
  simp only [Act.put, List.setIfInBounds_toArray, List.set_cons_succ, List.set_cons_zero]
  refine sP (by kernel_rfl) _ _ (by rfl) ⟨Y, 0, none⟩ (by kernel_rfl) (.int .i64 v.at') (H3.out.drop.head.cell 0) (by kernel_rfl) ?_
  simp only [Act.put, List.setIfInBounds_toArray, List.set_cons_succ, List.set_cons_zero]
  refine sC (R := fun w' => x3 = w') (by kernel_rfl) (by kernel_rfl) (HPL.out x3) ?_
  rintro _ rfl
  simp only [Act.put, List.setIfInBounds_toArray, List.set_cons_succ, List.set_cons_zero]
  go_upto_region 6 with fail
  refine wp_region_lit ?_
  refine sV (.pointer (some ⟨X, 33, none⟩)) (x3) (by kernel_rfl) (by kernel_rfl) ?_
  simp only [Act.put, List.setIfInBounds_toArray, List.set_cons_succ, List.set_cons_zero]
  refine sP (by kernel_rfl) _ _ (by rfl) ⟨X, 33, none⟩ (by kernel_rfl) (.slice a n c) ((H3.out.drop.drop.head.cell 33).trans (ccl_33 _ _ _ HL.out)) (by kernel_rfl) ?_
  simp only [Act.put, List.setIfInBounds_toArray, List.set_cons_succ, List.set_cons_zero]
  refine sV (.pointer (some ⟨Y, 0, none⟩)) (x3) (by kernel_rfl) (by kernel_rfl) ?_
  simp only [Act.put, List.setIfInBounds_toArray, List.set_cons_succ, List.set_cons_zero]
  refine sP (by kernel_rfl) _ _ (by rfl) ⟨Y, 0, none⟩ (by kernel_rfl) (.int .i64 v.at') (H3.out.drop.head.cell 0) (by kernel_rfl) ?_
  simp only [Act.put, List.setIfInBounds_toArray, List.set_cons_succ, List.set_cons_zero]
  refine sC (R := fun w' => Below x3.heap.size x3 w') (by kernel_rfl) (by kernel_rfl) (HFD.out x3 H3.out.low) ?_
  rintro x4 hb
  simp only [Act.put, List.setIfInBounds_toArray, List.set_cons_succ, List.set_cons_zero]
  have H4 := WirS.hide (H3.out.more hb)
  clear hb H3
  refine sV (.tuple #[.int .i64 (q : Int), .bool true]) (x4) (by kernel_rfl) (by kernel_rfl) ?_
  simp only [Act.put, List.setIfInBounds_toArray, List.set_cons_succ, List.set_cons_zero]
  refine sV (.int .i64 (q : Int)) (x4) (by kernel_rfl) (by kernel_rfl) ?_
  simp only [Act.put, List.setIfInBounds_toArray, List.set_cons_succ, List.set_cons_zero]
  refine sV (.bool true) (x4) (by kernel_rfl) (by kernel_rfl) ?_
  simp only [Act.put, List.setIfInBounds_toArray, List.set_cons_succ, List.set_cons_zero]
  go_upto_region 8 with fail
  refine wp_region_lit ?_
  refine sV (.agg zcm.toArray) (x4) (by kernel_rfl) (by kernel_rfl) ?_
  simp only [Act.put, List.setIfInBounds_toArray, List.set_cons_succ, List.set_cons_zero]
  refine stepStore (by rfl) _ _ _ (by rfl) Z zcm (by kernel_rfl) (by kernel_rfl) H4.out.head 34 (by kernel_rfl) (by rfl) (by rfl) (one_ccl _ _ _ _ _) ?_
  simp only [Act.put]
  have HF := WirS.hide (bag_row H4.out zcm)
  clear H4
  generalize World.setRow x4 Z _ = xf at *
  go_wp2_with fail
  refine bodyPost_ret (retRow2 HF.out.head Try.results83 _ (by rfl) (.int .i64 8) (by rfl) _ 34 UC rfl (by kernel_rfl) (by rfl)) rfl ?_
  exact cp_none rfl HF.out.low
/-- A slice of votes. -/
def ownt (v : Value) (vs : List Vt) : Thg where
  ok w := OwnT w v vs
  foot k := v.ownBlock = some k
  stable h hf hX := h.fr hf hX
  inside h k hk := h.lt k hk
theorem bag_ownt {w0 w w' : World} {l : List Thg} {v : Value} {vs : List Vt} (h : Bag w0 w l) (ho : OwnT w' v vs) (hn : NewB w v) (hb : Below w.heap.size w w') : Bag w0 w' (ownt v vs :: l) := h.new hb ho hn
/-- A call that answers one of several values, as a step of a drawn region. -/
theorem stepCallX {P : Program} {o : Oper} {a : Act} {w : World} {K : Act → World → Prop} {Q : Exit → Act → World → Prop} {f : FuncId} {args : Array Value} {R : Ending → World → Prop} (hc : Calls P f args w R) (hrun : (execOp a.eval o).run P w = .ok (.enter f args) w)
    (h : ∀ e w', R e w' → ∃ v, e = .returned v ∧ K (a.put o.dst v) w') : o.wp P a w K Q := by
  unfold Oper.wp
  rw [hrun, Oper.upon_enter]
  exact hc.mono (fun e w' hr => by obtain ⟨v, rfl, hk⟩ := h e w' hr; exact hk)
theorem perm5 {α : Type} (o z y x v : α) : [o, z, y, x, v].Perm [o, v, x, z, y] := by
  refine List.Perm.cons o ?_
  exact (List.perm_append_comm (l₁ := [z, y]) (l₂ := [x, v])).trans ((List.Perm.swap v x [z, y]))
set_option maxRecDepth 10000 in
set_option maxHeartbeats 8000000 in
theorem add_ok (w : World) (ht : Int) (h : List Int) (a : Option Addr) (n c : Nat) (vs : List Vt) (v : Vt) (hl : h.length = 32) (hv : VtIn w a n c vs) (hn : n ≤ 1000) (hvo : v.ok) (hc : chk ht vs = 0) (hp : 0 ≤ v.at' ∧ v.at' < 64) (ho : (ofV v.at' vs).isSome = false) :
    Calls Try.prog 83 #[.agg (ccl ht h (.slice a n c)).toArray, .agg #[.int .i64 v.at', .int .u64 v.sg]] w (CP w 0 ht h (insV vs v)) := by
  have hu := ((chk_up ht vs).1 hc).2.2
  have HL := WirS.hide hl
  have HV := WirS.hide hv
  have hbX := bag_box (w0 := w) (T := TC) (cs := ccl ht h (.slice a n c)) (X := w.heap.size) (Bag.nil (Below.refl _ _)) rfl (w' := w.alloc (.cells (ccl ht h (.slice a n c)).toArray TC)) (At.new _ _ _) (Below.alloc (Below.refl _ _) (Nat.le_refl _) _)
  have HCK := WirS.hide (fun U (hU : Below w.heap.size w U) => check_any U ht h a n c vs hl (hv.below hU))
  have HPL := WirS.hide (fun U => place_any U v.at')
  have HFD := WirS.hide (fun U (hU : Below w.heap.size w U) => find_any U a n c vs v.at' (hv.below hU) hu (by omega))
  rw [decide_eq_true hp] at HPL
  rw [hc] at HCK
  rw [ho] at HFD
  have HCL := WirS.hide (fun U (hU : Below w.heap.size w U) => clone_any U a n c vs (hv.below hU) hn)
  have hqn : cut v.at' vs ≤ n := by have := cut_le v.at' vs; rw [hv.len] at this; exact this
  have HIN := WirS.hide (fun (U : World) (ca : Option Addr) (cc V : Nat) (h1 : OwnT U (.slice ca n cc) vs) (h2 : At U V TV v.cells) (h3 : (Value.slice ca n cc).ownBlock ≠ some V) => insert_any U ca n cc (cut v.at' vs) V vs v h1 h2 hvo h3 hqn hn)
  rw [show ins vs (cut v.at' vs) v = insV vs v from rfl] at HIN
  generalize (cut v.at' vs : Nat) = q at *
  clear hl hv hc hp ho hu hvo hqn
  go_enter Try.func83, Try.ntmps83
  go_upto_region 0 with fail
  refine wp_region_lit ?_
  refine sV (.pointer (some ⟨w.heap.size, 0, none⟩)) (w.alloc (.cells (ccl ht h (.slice a n c)).toArray TC)) (by kernel_rfl) (by kernel_rfl) ?_
  simp only [Act.put, List.setIfInBounds_toArray, List.set_cons_succ, List.set_cons_zero]
  obtain ⟨X, eX⟩ : ∃ A, w.heap.size = A := ⟨_, rfl⟩
  rw [eX] at hbX ⊢
  clear eX
  generalize World.alloc w _ = x0 at *
  refine sV (.pointer (some ⟨x0.heap.size, 0, none⟩)) (x0.alloc (.cells v.cells.toArray TV)) (by kernel_rfl) (by kernel_rfl) ?_
  simp only [Act.put, List.setIfInBounds_toArray, List.set_cons_succ, List.set_cons_zero]
  obtain ⟨Y, eY⟩ : ∃ A, x0.heap.size = A := ⟨_, rfl⟩
  have hbY := bag_box (T := TV) (cs := v.cells) (X := Y) hbX eY.symm (w' := x0.alloc (.cells v.cells.toArray TV)) (by rw [← eY]; exact At.new _ _ _) (Below.alloc (Below.refl _ _) (Nat.le_refl _) _)
  rw [eY]
  clear eY hbX
  generalize World.alloc x0 _ = x1 at *
  refine sV (.pointer (some ⟨x1.heap.size, 0, none⟩)) (x1.alloc (.cells zcm.toArray TC)) (by kernel_rfl) (by kernel_rfl) ?_
  simp only [Act.put, List.setIfInBounds_toArray, List.set_cons_succ, List.set_cons_zero]
  obtain ⟨Z, eZ⟩ : ∃ A, x1.heap.size = A := ⟨_, rfl⟩
  have hbZ := bag_box (T := TC) (cs := zcm) (X := Z) hbY eZ.symm (w' := x1.alloc (.cells zcm.toArray TC)) (by rw [← eZ]; exact At.new _ _ _) (Below.alloc (Below.refl _ _) (Nat.le_refl _) _)
  rw [eZ]
  clear eZ hbY
  generalize World.alloc x1 _ = x2 at *
  have H2 := WirS.hide hbZ
  clear hbZ
  go_upto_region 1 with fail
  refine wp_region_lit ?_
  refine sL (by kernel_rfl) _ _ (by rfl) _ (by kernel_rfl) H2.out.drop.drop.head _ _ UC rfl (by kernel_rfl) (by rw [ccl_len _ _ _ HL.out]) ?_
  simp only [Act.put, List.setIfInBounds_toArray, List.set_cons_succ, List.set_cons_zero]
  refine sC (R := fun w' => Below x2.heap.size x2 w') (by kernel_rfl) (by kernel_rfl) (HCK.out x2 H2.out.low) ?_
  rintro x3 hb
  simp only [Act.put, List.setIfInBounds_toArray, List.set_cons_succ, List.set_cons_zero]
  have H3 := WirS.hide (H2.out.more hb)
  clear hb H2
  go_upto_region 4 with fail
  refine wp_region_lit ?_
  refine sV (.pointer (some ⟨Y, 0, none⟩)) (x3) (by kernel_rfl) (by kernel_rfl) ?_
  simp only [Act.put, List.setIfInBounds_toArray, List.set_cons_succ, List.set_cons_zero]
  refine sP (by kernel_rfl) _ _ (by rfl) ⟨Y, 0, none⟩ (by kernel_rfl) (.int .i64 v.at') (H3.out.drop.head.cell 0) (by kernel_rfl) ?_
  simp only [Act.put, List.setIfInBounds_toArray, List.set_cons_succ, List.set_cons_zero]
  refine sC (R := fun w' => x3 = w') (by kernel_rfl) (by kernel_rfl) (HPL.out x3) ?_
  rintro _ rfl
  simp only [Act.put, List.setIfInBounds_toArray, List.set_cons_succ, List.set_cons_zero]
  go_upto_region 6 with fail
  refine wp_region_lit ?_
  refine sV (.pointer (some ⟨X, 33, none⟩)) (x3) (by kernel_rfl) (by kernel_rfl) ?_
  simp only [Act.put, List.setIfInBounds_toArray, List.set_cons_succ, List.set_cons_zero]
  refine sP (by kernel_rfl) _ _ (by rfl) ⟨X, 33, none⟩ (by kernel_rfl) (.slice a n c) ((H3.out.drop.drop.head.cell 33).trans (ccl_33 _ _ _ HL.out)) (by kernel_rfl) ?_
  simp only [Act.put, List.setIfInBounds_toArray, List.set_cons_succ, List.set_cons_zero]
  refine sV (.pointer (some ⟨Y, 0, none⟩)) (x3) (by kernel_rfl) (by kernel_rfl) ?_
  simp only [Act.put, List.setIfInBounds_toArray, List.set_cons_succ, List.set_cons_zero]
  refine sP (by kernel_rfl) _ _ (by rfl) ⟨Y, 0, none⟩ (by kernel_rfl) (.int .i64 v.at') (H3.out.drop.head.cell 0) (by kernel_rfl) ?_
  simp only [Act.put, List.setIfInBounds_toArray, List.set_cons_succ, List.set_cons_zero]
  refine sC (R := fun w' => Below x3.heap.size x3 w') (by kernel_rfl) (by kernel_rfl) (HFD.out x3 H3.out.low) ?_
  rintro x4 hb
  simp only [Act.put, List.setIfInBounds_toArray, List.set_cons_succ, List.set_cons_zero]
  have H4 := WirS.hide (H3.out.more hb)
  clear hb H3
  refine sV (.tuple #[.int .i64 (q : Int), .bool false]) (x4) (by kernel_rfl) (by kernel_rfl) ?_
  simp only [Act.put, List.setIfInBounds_toArray, List.set_cons_succ, List.set_cons_zero]
  refine sV (.int .i64 (q : Int)) (x4) (by kernel_rfl) (by kernel_rfl) ?_
  simp only [Act.put, List.setIfInBounds_toArray, List.set_cons_succ, List.set_cons_zero]
  refine sV (.bool false) (x4) (by kernel_rfl) (by kernel_rfl) ?_
  simp only [Act.put, List.setIfInBounds_toArray, List.set_cons_succ, List.set_cons_zero]
  have HSY := WirS.hide (fun (U : World) (hb : At U Y TV v.cells) => (show U.rangeAt Y 0 v.cells from fun j u hj => by rw [Nat.zero_add, hb.cell]; exact hj))
  have HZ : Hid (Bag w x4.drew [box TC Z zcm, box TV Y v.cells, box TC X (ccl ht h (.slice a n c))]) := WirS.hide (H4.out.more (below_drewN (Below.refl _ _) 1))
  clear H4
  go_upto_region 9 with fail
  refine wp_region_noPanic ?_
  refine wp_region_held_drew (S := fun w' => w'.rangeAt Y 0 v.cells) (by kernel_rfl) (HSY.out _ (HZ.out.all (box TV Y v.cells) (by simp)).1) (fun hHeld => ?_)
  generalize World.drew x4 = z0 at *
  refine' wpAnyH_take (i := 0) (oi := _) (v := .pointer (some ⟨X, 33, none⟩)) rfl (by kernel_rfl) (by kernel_rfl) (by kernel_rfl) (fun _ _ _ h => h) (Or.inl ⟨by kernel_rfl, ?hy0⟩) (by assumption) ?rest0
  case hy0 =>
    intro W _
    kernel_rfl
  case rest0 =>
  try simp only [List.getElem_toArray, List.getElem_cons_zero, Act.put, List.setIfInBounds_toArray, List.set_cons_zero, List.set_cons_succ]
  refine' wpAnyH_take (i := 3) (oi := _) (v := .int .i64 (q : Int)) rfl (by kernel_rfl) (by kernel_rfl) (by kernel_rfl) (fun _ _ _ h => h) (Or.inl ⟨by kernel_rfl, ?hy3⟩) (by assumption) ?rest3
  case hy3 =>
    intro W _
    kernel_rfl
  case rest3 =>
  try simp only [List.getElem_toArray, List.getElem_cons_succ, List.getElem_cons_zero, Act.put, List.setIfInBounds_toArray, List.set_cons_zero, List.set_cons_succ]
  refine' wpAnyH_take (i := 4) (oi := _) (v := .agg (v.cells).toArray) rfl (by kernel_rfl) (by kernel_rfl) (by kernel_rfl) (fun _ _ _ h => h) (yieldsIf_load_mid (by kernel_rfl) TV (.tmp 3) (by kernel_rfl) Y 0 (by kernel_rfl) (v.cells) _ (fun _ h => h) Try.underlying119 (by kernel_rfl) ((by rfl))) (by assumption) ?rest4
  case rest4 =>
  try simp only [List.getElem_toArray, List.getElem_cons_succ, List.getElem_cons_zero, Act.put, List.setIfInBounds_toArray, List.set_cons_zero, List.set_cons_succ]
  refine wpAnyH_ready (rs := [1, 5]) (by kernel_rfl) (by simp) ?_
  refine AllReadyH.cons rfl (fun K hK => ?_) (AllReadyH.cons rfl (fun K hK => ?_) AllReadyH.nil)
  · rw [if_pos (by kernel_rfl)]
    refine wp_load_cell TL (.tmp 30) (by kernel_rfl) ⟨X, 33, none⟩ (.slice a n c) (by kernel_rfl) (((show At _ X TC (ccl ht h (.slice a n c)) from (HZ.out.all (box TC X (ccl ht h (.slice a n c))) (by simp)).1).cell 33).trans (ccl_33 _ _ _ HL.out)) (by kernel_rfl) ?_
    try simp only [List.getElem_toArray, List.getElem_cons_succ, List.getElem_cons_zero, Act.put, List.setIfInBounds_toArray, List.set_cons_zero, List.set_cons_succ]
    refine hK.out _ _ (HSY.out _ (HZ.out.all (box TV Y v.cells) (by simp)).1) (fun hHeld => ?_)
    clear hK K
    refine wpAnyH_ready (rs := [2, 5]) (by kernel_rfl) (by simp) ?_
    refine AllReadyH.cons rfl (fun K hK => ?_) (AllReadyH.cons rfl (fun K hK => ?_) AllReadyH.nil)
    · rw [if_pos (by kernel_rfl)]
      refine stepCallX (HCL.out z0 HZ.out.low) (by kernel_rfl) ?_
      rintro e u1 ⟨ca, cc, rfl, ho, hnb, hb⟩
      refine ⟨_, rfl, ?_⟩
      try simp only [List.getElem_toArray, List.getElem_cons_succ, List.getElem_cons_zero, Act.put, List.setIfInBounds_toArray, List.set_cons_zero, List.set_cons_succ]
      have HC1 := WirS.hide (bag_ownt HZ.out ho hnb hb)
      clear ho hnb hb HZ
      refine hK.out _ _ (HSY.out _ (HC1.out.all (box TV Y v.cells) (by simp)).1) (fun hHeld => ?_)
      clear hK K
      refine wpAnyH_ready (rs := [5]) (by kernel_rfl) (by simp) ?_
      refine AllReadyH.cons rfl (fun K hK => ?_) AllReadyH.nil
      rw [if_pos (by kernel_rfl)]
      refine wp_value (w' := u1.alloc (.cells v.cells.toArray TV)) (.slice (some ⟨u1.heap.size, 0, none⟩) 1 1) (by kernel_rfl) ?_
      try simp only [List.getElem_toArray, List.getElem_cons_succ, List.getElem_cons_zero, Act.put, List.setIfInBounds_toArray, List.set_cons_zero, List.set_cons_succ]
      obtain ⟨V, eV⟩ : ∃ A, u1.heap.size = A := ⟨_, rfl⟩
      have hbV := (bag_box (T := TV) (cs := v.cells) (X := V) HC1.out eV.symm (w' := u1.alloc (.cells v.cells.toArray TV)) (by rw [← eV]; exact At.new _ _ _) (Below.alloc (Below.refl _ _) (Nat.le_refl _) _)).last
      rw [eV]
      clear eV
      generalize World.alloc u1 _ = u2 at *
      have HC2 := WirS.hide hbV
      clear hbV HC1
      refine hK.out _ _ (HSY.out _ (HC2.out.all (box TV Y v.cells) (by simp)).1) (fun hHeld => ?_)
      clear hK K
      refine wpAnyH_ready (rs := [6]) (by kernel_rfl) (by simp) ?_
      refine AllReadyH.cons rfl (fun K hK => ?_) AllReadyH.nil
      rw [if_pos (by kernel_rfl)]
      have HB6 := WirS.hide (show Bag w u2 [ownt (.slice ca n cc) vs, box TV V v.cells, box TC X (ccl ht h (.slice a n c)), box TC Z zcm, box TV Y v.cells] from (HC2.out.perm (show [ownt (.slice ca n cc) vs, box TC Z zcm, box TV Y v.cells, box TC X (ccl ht h (.slice a n c)), box TV V v.cells].Perm [ownt (.slice ca n cc) vs, box TV V v.cells, box TC X (ccl ht h (.slice a n c)), box TC Z zcm, box TV Y v.cells] from perm5 _ _ _ _ _)))
      clear HC2
      refine stepCallX (HIN.out u2 ca cc V HB6.out.head HB6.out.drop.head (fun e => (List.pairwise_cons.1 HB6.out.apart).1 (box TV V v.cells) (by simp) V e rfl)) (by kernel_rfl) ?_
      rintro e u9 ⟨ia, im, ic, rfl, hio, hif, hin⟩
      refine ⟨_, rfl, ?_⟩
      try simp only [List.getElem_toArray, List.getElem_cons_succ, List.getElem_cons_zero, Act.put, List.setIfInBounds_toArray, List.set_cons_zero, List.set_cons_succ]
      have HB7 := WirS.hide (HB6.out.act (o' := ownt (.slice ia im ic) (insV vs v)) hif hio hin)
      clear hio hif hin HB6
      refine hK.out _ _ (HSY.out _ (HB7.out.all (box TV Y v.cells) (by simp)).1) (fun hHeld => ?_)
      clear hK K
      refine' wpAnyH_take (i := 7) (oi := _) (v := .pointer (some ⟨X, 33, none⟩)) rfl (by kernel_rfl) (by kernel_rfl) (by kernel_rfl) (fun _ _ _ h => h) (Or.inl ⟨by kernel_rfl, ?hy7⟩) (by assumption) ?rest7
      case hy7 =>
        intro W _
        kernel_rfl
      case rest7 =>
      try simp only [List.getElem_toArray, List.getElem_cons_succ, List.getElem_cons_zero, Act.put, List.setIfInBounds_toArray, List.set_cons_zero, List.set_cons_succ]
      refine wpAnyH_ready (rs := [8]) (by kernel_rfl) (by simp) ?_
      refine AllReadyH.cons rfl (fun K hK => ?_) AllReadyH.nil
      rw [if_pos (by kernel_rfl)]
      have HB8 := WirS.hide (HB7.out.perm (show [ownt (.slice ia im ic) (insV vs v), box TV V v.cells, box TC X (ccl ht h (.slice a n c)), box TC Z zcm, box TV Y v.cells].Perm [box TC X (ccl ht h (.slice a n c)), ownt (.slice ia im ic) (insV vs v), box TV V v.cells, box TC Z zcm, box TV Y v.cells] from List.perm_append_comm (l₁ := [ownt (.slice ia im ic) (insV vs v), box TV V v.cells]) (l₂ := [box TC X (ccl ht h (.slice a n c))]) |>.append_right _))
      clear HB7
      refine store_sl (x := .tmp 37) (y := .tmp 36) (by kernel_rfl) X 33 ia im ic _ (by kernel_rfl) (by kernel_rfl) (HB8.out.head.cell 33) (by rw [ccl_33 _ _ _ HL.out]; rfl) (HB8.out.head.frozen 33) ?_
      have hb9 := bag_set HB8.out 33 (.slice ia im ic)
      rw [ccl_set _ _ _ _ HL.out] at hb9
      have HB9 := WirS.hide hb9
      clear hb9 HB8
      refine hK.out _ _ (HSY.out _ (HB9.out.all (box TV Y v.cells) (by simp)).1) (fun hHeld => ?_)
      clear hK K
      try simp only [Act.put]
      refine wpAnyH_done (by kernel_rfl) ?_ _
      refine NoPanic.normal ?_
      clear hHeld
      generalize World.setCell u9 _ _ = y1 at *
      go_upto_region 10 with fail
      refine wp_region_lit ?_
      refine sL (by kernel_rfl) _ _ (by rfl) _ (by kernel_rfl) HB9.out.head _ _ UC rfl (by kernel_rfl) (by rw [ccl_len _ _ _ HL.out]) ?_
      simp only [Act.put, List.setIfInBounds_toArray]
      have HBZ := WirS.hide (HB9.out.perm (show [box TC X (ccl ht h (.slice ia im ic)), ownt (.slice ia im ic) (insV vs v), box TV V v.cells, box TC Z zcm, box TV Y v.cells].Perm [box TC Z zcm, box TC X (ccl ht h (.slice ia im ic)), ownt (.slice ia im ic) (insV vs v), box TV V v.cells, box TV Y v.cells] from List.perm_append_comm (l₁ := [box TC X (ccl ht h (.slice ia im ic)), ownt (.slice ia im ic) (insV vs v), box TV V v.cells]) (l₂ := [box TC Z zcm]) |>.append_right _))
      clear HB9
      refine stepStore (by rfl) _ _ _ (by rfl) Z (ccl ht h (.slice ia im ic)) (by kernel_rfl) (by kernel_rfl) HBZ.out.head 34 (by kernel_rfl) (by rfl) (ccl_len _ _ _ HL.out) (one_ccl _ _ _ _ _) ?_
      simp only [Act.put]
      have HF := WirS.hide (bag_row HBZ.out (ccl ht h (.slice ia im ic)))
      clear HBZ
      generalize World.setRow y1 Z _ = xf at *
      go_wp2_with fail
      refine bodyPost_ret (retRow2 HF.out.head Try.results83 _ (by rfl) (.int .i64 0) (by rfl) _ 34 UC rfl (by kernel_rfl) (ccl_len _ _ _ HL.out)) rfl ?_
      exact ⟨ia, im, ic, rfl, HF.out.drop.drop.head, fun k hk => (HF.out.all (ownt (.slice ia im ic) (insV vs v)) (by simp)).2 k hk, HF.out.low⟩
    · rw [if_pos (by kernel_rfl)]
      refine wp_value (w' := z0.alloc (.cells v.cells.toArray TV)) (.slice (some ⟨z0.heap.size, 0, none⟩) 1 1) (by kernel_rfl) ?_
      try simp only [List.getElem_toArray, List.getElem_cons_succ, List.getElem_cons_zero, Act.put, List.setIfInBounds_toArray, List.set_cons_zero, List.set_cons_succ]
      obtain ⟨V, eV⟩ : ∃ A, z0.heap.size = A := ⟨_, rfl⟩
      have hbV := (bag_box (T := TV) (cs := v.cells) (X := V) HZ.out eV.symm (w' := z0.alloc (.cells v.cells.toArray TV)) (by rw [← eV]; exact At.new _ _ _) (Below.alloc (Below.refl _ _) (Nat.le_refl _) _)).last
      rw [eV]
      clear eV
      generalize World.alloc z0 _ = u1 at *
      have HC1 := WirS.hide hbV
      clear hbV HZ
      refine hK.out _ _ (HSY.out _ (HC1.out.all (box TV Y v.cells) (by simp)).1) (fun hHeld => ?_)
      clear hK K
      refine wpAnyH_ready (rs := [2]) (by kernel_rfl) (by simp) ?_
      refine AllReadyH.cons rfl (fun K hK => ?_) AllReadyH.nil
      rw [if_pos (by kernel_rfl)]
      refine stepCallX (HCL.out u1 HC1.out.low) (by kernel_rfl) ?_
      rintro e u2 ⟨ca, cc, rfl, ho, hnb, hb⟩
      refine ⟨_, rfl, ?_⟩
      try simp only [List.getElem_toArray, List.getElem_cons_succ, List.getElem_cons_zero, Act.put, List.setIfInBounds_toArray, List.set_cons_zero, List.set_cons_succ]
      have HC2 := WirS.hide (bag_ownt HC1.out ho hnb hb)
      clear ho hnb hb HC1
      refine hK.out _ _ (HSY.out _ (HC2.out.all (box TV Y v.cells) (by simp)).1) (fun hHeld => ?_)
      clear hK K
      refine wpAnyH_ready (rs := [6]) (by kernel_rfl) (by simp) ?_
      refine AllReadyH.cons rfl (fun K hK => ?_) AllReadyH.nil
      rw [if_pos (by kernel_rfl)]
      have HB6 := WirS.hide (show Bag w u2 [ownt (.slice ca n cc) vs, box TV V v.cells, box TC X (ccl ht h (.slice a n c)), box TC Z zcm, box TV Y v.cells] from (HC2.out.perm (show [ownt (.slice ca n cc) vs, box TC Z zcm, box TV Y v.cells, box TC X (ccl ht h (.slice a n c)), box TV V v.cells].Perm [ownt (.slice ca n cc) vs, box TV V v.cells, box TC X (ccl ht h (.slice a n c)), box TC Z zcm, box TV Y v.cells] from perm5 _ _ _ _ _)))
      clear HC2
      refine stepCallX (HIN.out u2 ca cc V HB6.out.head HB6.out.drop.head (fun e => (List.pairwise_cons.1 HB6.out.apart).1 (box TV V v.cells) (by simp) V e rfl)) (by kernel_rfl) ?_
      rintro e u9 ⟨ia, im, ic, rfl, hio, hif, hin⟩
      refine ⟨_, rfl, ?_⟩
      try simp only [List.getElem_toArray, List.getElem_cons_succ, List.getElem_cons_zero, Act.put, List.setIfInBounds_toArray, List.set_cons_zero, List.set_cons_succ]
      have HB7 := WirS.hide (HB6.out.act (o' := ownt (.slice ia im ic) (insV vs v)) hif hio hin)
      clear hio hif hin HB6
      refine hK.out _ _ (HSY.out _ (HB7.out.all (box TV Y v.cells) (by simp)).1) (fun hHeld => ?_)
      clear hK K
      refine' wpAnyH_take (i := 7) (oi := _) (v := .pointer (some ⟨X, 33, none⟩)) rfl (by kernel_rfl) (by kernel_rfl) (by kernel_rfl) (fun _ _ _ h => h) (Or.inl ⟨by kernel_rfl, ?hy7⟩) (by assumption) ?rest7
      case hy7 =>
        intro W _
        kernel_rfl
      case rest7 =>
      try simp only [List.getElem_toArray, List.getElem_cons_succ, List.getElem_cons_zero, Act.put, List.setIfInBounds_toArray, List.set_cons_zero, List.set_cons_succ]
      refine wpAnyH_ready (rs := [8]) (by kernel_rfl) (by simp) ?_
      refine AllReadyH.cons rfl (fun K hK => ?_) AllReadyH.nil
      rw [if_pos (by kernel_rfl)]
      have HB8 := WirS.hide (HB7.out.perm (show [ownt (.slice ia im ic) (insV vs v), box TV V v.cells, box TC X (ccl ht h (.slice a n c)), box TC Z zcm, box TV Y v.cells].Perm [box TC X (ccl ht h (.slice a n c)), ownt (.slice ia im ic) (insV vs v), box TV V v.cells, box TC Z zcm, box TV Y v.cells] from List.perm_append_comm (l₁ := [ownt (.slice ia im ic) (insV vs v), box TV V v.cells]) (l₂ := [box TC X (ccl ht h (.slice a n c))]) |>.append_right _))
      clear HB7
      refine store_sl (x := .tmp 37) (y := .tmp 36) (by kernel_rfl) X 33 ia im ic _ (by kernel_rfl) (by kernel_rfl) (HB8.out.head.cell 33) (by rw [ccl_33 _ _ _ HL.out]; rfl) (HB8.out.head.frozen 33) ?_
      have hb9 := bag_set HB8.out 33 (.slice ia im ic)
      rw [ccl_set _ _ _ _ HL.out] at hb9
      have HB9 := WirS.hide hb9
      clear hb9 HB8
      refine hK.out _ _ (HSY.out _ (HB9.out.all (box TV Y v.cells) (by simp)).1) (fun hHeld => ?_)
      clear hK K
      try simp only [Act.put]
      refine wpAnyH_done (by kernel_rfl) ?_ _
      refine NoPanic.normal ?_
      clear hHeld
      generalize World.setCell u9 _ _ = y1 at *
      go_upto_region 10 with fail
      refine wp_region_lit ?_
      refine sL (by kernel_rfl) _ _ (by rfl) _ (by kernel_rfl) HB9.out.head _ _ UC rfl (by kernel_rfl) (by rw [ccl_len _ _ _ HL.out]) ?_
      simp only [Act.put, List.setIfInBounds_toArray]
      have HBZ := WirS.hide (HB9.out.perm (show [box TC X (ccl ht h (.slice ia im ic)), ownt (.slice ia im ic) (insV vs v), box TV V v.cells, box TC Z zcm, box TV Y v.cells].Perm [box TC Z zcm, box TC X (ccl ht h (.slice ia im ic)), ownt (.slice ia im ic) (insV vs v), box TV V v.cells, box TV Y v.cells] from List.perm_append_comm (l₁ := [box TC X (ccl ht h (.slice ia im ic)), ownt (.slice ia im ic) (insV vs v), box TV V v.cells]) (l₂ := [box TC Z zcm]) |>.append_right _))
      clear HB9
      refine stepStore (by rfl) _ _ _ (by rfl) Z (ccl ht h (.slice ia im ic)) (by kernel_rfl) (by kernel_rfl) HBZ.out.head 34 (by kernel_rfl) (by rfl) (ccl_len _ _ _ HL.out) (one_ccl _ _ _ _ _) ?_
      simp only [Act.put]
      have HF := WirS.hide (bag_row HBZ.out (ccl ht h (.slice ia im ic)))
      clear HBZ
      generalize World.setRow y1 Z _ = xf at *
      go_wp2_with fail
      refine bodyPost_ret (retRow2 HF.out.head Try.results83 _ (by rfl) (.int .i64 0) (by rfl) _ 34 UC rfl (by kernel_rfl) (ccl_len _ _ _ HL.out)) rfl ?_
      exact ⟨ia, im, ic, rfl, HF.out.drop.drop.head, fun k hk => (HF.out.all (ownt (.slice ia im ic) (insV vs v)) (by simp)).2 k hk, HF.out.low⟩
  · rw [if_pos (by kernel_rfl)]
    refine wp_value (w' := z0.alloc (.cells v.cells.toArray TV)) (.slice (some ⟨z0.heap.size, 0, none⟩) 1 1) (by kernel_rfl) ?_
    try simp only [List.getElem_toArray, List.getElem_cons_succ, List.getElem_cons_zero, Act.put, List.setIfInBounds_toArray, List.set_cons_zero, List.set_cons_succ]
    obtain ⟨V, eV⟩ : ∃ A, z0.heap.size = A := ⟨_, rfl⟩
    have hbV := (bag_box (T := TV) (cs := v.cells) (X := V) HZ.out eV.symm (w' := z0.alloc (.cells v.cells.toArray TV)) (by rw [← eV]; exact At.new _ _ _) (Below.alloc (Below.refl _ _) (Nat.le_refl _) _)).last
    rw [eV]
    clear eV
    generalize World.alloc z0 _ = u1 at *
    have HC1 := WirS.hide hbV
    clear hbV HZ
    refine hK.out _ _ (HSY.out _ (HC1.out.all (box TV Y v.cells) (by simp)).1) (fun hHeld => ?_)
    clear hK K
    refine wpAnyH_ready (rs := [1]) (by kernel_rfl) (by simp) ?_
    refine AllReadyH.cons rfl (fun K hK => ?_) AllReadyH.nil
    rw [if_pos (by kernel_rfl)]
    refine wp_load_cell TL (.tmp 30) (by kernel_rfl) ⟨X, 33, none⟩ (.slice a n c) (by kernel_rfl) (((show At _ X TC (ccl ht h (.slice a n c)) from (HC1.out.all (box TC X (ccl ht h (.slice a n c))) (by simp)).1).cell 33).trans (ccl_33 _ _ _ HL.out)) (by kernel_rfl) ?_
    try simp only [List.getElem_toArray, List.getElem_cons_succ, List.getElem_cons_zero, Act.put, List.setIfInBounds_toArray, List.set_cons_zero, List.set_cons_succ]
    refine hK.out _ _ (HSY.out _ (HC1.out.all (box TV Y v.cells) (by simp)).1) (fun hHeld => ?_)
    clear hK K
    refine wpAnyH_ready (rs := [2]) (by kernel_rfl) (by simp) ?_
    refine AllReadyH.cons rfl (fun K hK => ?_) AllReadyH.nil
    rw [if_pos (by kernel_rfl)]
    refine stepCallX (HCL.out u1 HC1.out.low) (by kernel_rfl) ?_
    rintro e u2 ⟨ca, cc, rfl, ho, hnb, hb⟩
    refine ⟨_, rfl, ?_⟩
    try simp only [List.getElem_toArray, List.getElem_cons_succ, List.getElem_cons_zero, Act.put, List.setIfInBounds_toArray, List.set_cons_zero, List.set_cons_succ]
    have HC2 := WirS.hide (bag_ownt HC1.out ho hnb hb)
    clear ho hnb hb HC1
    refine hK.out _ _ (HSY.out _ (HC2.out.all (box TV Y v.cells) (by simp)).1) (fun hHeld => ?_)
    clear hK K
    refine wpAnyH_ready (rs := [6]) (by kernel_rfl) (by simp) ?_
    refine AllReadyH.cons rfl (fun K hK => ?_) AllReadyH.nil
    rw [if_pos (by kernel_rfl)]
    have HB6 := WirS.hide (show Bag w u2 [ownt (.slice ca n cc) vs, box TV V v.cells, box TC X (ccl ht h (.slice a n c)), box TC Z zcm, box TV Y v.cells] from (HC2.out.perm (show [ownt (.slice ca n cc) vs, box TC Z zcm, box TV Y v.cells, box TC X (ccl ht h (.slice a n c)), box TV V v.cells].Perm [ownt (.slice ca n cc) vs, box TV V v.cells, box TC X (ccl ht h (.slice a n c)), box TC Z zcm, box TV Y v.cells] from perm5 _ _ _ _ _)))
    clear HC2
    refine stepCallX (HIN.out u2 ca cc V HB6.out.head HB6.out.drop.head (fun e => (List.pairwise_cons.1 HB6.out.apart).1 (box TV V v.cells) (by simp) V e rfl)) (by kernel_rfl) ?_
    rintro e u9 ⟨ia, im, ic, rfl, hio, hif, hin⟩
    refine ⟨_, rfl, ?_⟩
    try simp only [List.getElem_toArray, List.getElem_cons_succ, List.getElem_cons_zero, Act.put, List.setIfInBounds_toArray, List.set_cons_zero, List.set_cons_succ]
    have HB7 := WirS.hide (HB6.out.act (o' := ownt (.slice ia im ic) (insV vs v)) hif hio hin)
    clear hio hif hin HB6
    refine hK.out _ _ (HSY.out _ (HB7.out.all (box TV Y v.cells) (by simp)).1) (fun hHeld => ?_)
    clear hK K
    refine' wpAnyH_take (i := 7) (oi := _) (v := .pointer (some ⟨X, 33, none⟩)) rfl (by kernel_rfl) (by kernel_rfl) (by kernel_rfl) (fun _ _ _ h => h) (Or.inl ⟨by kernel_rfl, ?hy7⟩) (by assumption) ?rest7
    case hy7 =>
      intro W _
      kernel_rfl
    case rest7 =>
    try simp only [List.getElem_toArray, List.getElem_cons_succ, List.getElem_cons_zero, Act.put, List.setIfInBounds_toArray, List.set_cons_zero, List.set_cons_succ]
    refine wpAnyH_ready (rs := [8]) (by kernel_rfl) (by simp) ?_
    refine AllReadyH.cons rfl (fun K hK => ?_) AllReadyH.nil
    rw [if_pos (by kernel_rfl)]
    have HB8 := WirS.hide (HB7.out.perm (show [ownt (.slice ia im ic) (insV vs v), box TV V v.cells, box TC X (ccl ht h (.slice a n c)), box TC Z zcm, box TV Y v.cells].Perm [box TC X (ccl ht h (.slice a n c)), ownt (.slice ia im ic) (insV vs v), box TV V v.cells, box TC Z zcm, box TV Y v.cells] from List.perm_append_comm (l₁ := [ownt (.slice ia im ic) (insV vs v), box TV V v.cells]) (l₂ := [box TC X (ccl ht h (.slice a n c))]) |>.append_right _))
    clear HB7
    refine store_sl (x := .tmp 37) (y := .tmp 36) (by kernel_rfl) X 33 ia im ic _ (by kernel_rfl) (by kernel_rfl) (HB8.out.head.cell 33) (by rw [ccl_33 _ _ _ HL.out]; rfl) (HB8.out.head.frozen 33) ?_
    have hb9 := bag_set HB8.out 33 (.slice ia im ic)
    rw [ccl_set _ _ _ _ HL.out] at hb9
    have HB9 := WirS.hide hb9
    clear hb9 HB8
    refine hK.out _ _ (HSY.out _ (HB9.out.all (box TV Y v.cells) (by simp)).1) (fun hHeld => ?_)
    clear hK K
    try simp only [Act.put]
    refine wpAnyH_done (by kernel_rfl) ?_ _
    refine NoPanic.normal ?_
    clear hHeld
    generalize World.setCell u9 _ _ = y1 at *
    go_upto_region 10 with fail
    refine wp_region_lit ?_
    refine sL (by kernel_rfl) _ _ (by rfl) _ (by kernel_rfl) HB9.out.head _ _ UC rfl (by kernel_rfl) (by rw [ccl_len _ _ _ HL.out]) ?_
    simp only [Act.put, List.setIfInBounds_toArray]
    have HBZ := WirS.hide (HB9.out.perm (show [box TC X (ccl ht h (.slice ia im ic)), ownt (.slice ia im ic) (insV vs v), box TV V v.cells, box TC Z zcm, box TV Y v.cells].Perm [box TC Z zcm, box TC X (ccl ht h (.slice ia im ic)), ownt (.slice ia im ic) (insV vs v), box TV V v.cells, box TV Y v.cells] from List.perm_append_comm (l₁ := [box TC X (ccl ht h (.slice ia im ic)), ownt (.slice ia im ic) (insV vs v), box TV V v.cells]) (l₂ := [box TC Z zcm]) |>.append_right _))
    clear HB9
    refine stepStore (by rfl) _ _ _ (by rfl) Z (ccl ht h (.slice ia im ic)) (by kernel_rfl) (by kernel_rfl) HBZ.out.head 34 (by kernel_rfl) (by rfl) (ccl_len _ _ _ HL.out) (one_ccl _ _ _ _ _) ?_
    simp only [Act.put]
    have HF := WirS.hide (bag_row HBZ.out (ccl ht h (.slice ia im ic)))
    clear HBZ
    generalize World.setRow y1 Z _ = xf at *
    go_wp2_with fail
    refine bodyPost_ret (retRow2 HF.out.head Try.results83 _ (by rfl) (.int .i64 0) (by rfl) _ 34 UC rfl (by kernel_rfl) (ccl_len _ _ _ HL.out)) rfl ?_
    exact ⟨ia, im, ic, rfl, HF.out.drop.drop.head, fun k hk => (HF.out.all (ownt (.slice ia im ic) (insV vs v)) (by simp)).2 k hk, HF.out.low⟩
theorem add_any (w : World) (ht : Int) (h : List Int) (a : Option Addr) (n c : Nat) (vs : List Vt) (v : Vt) (hl : h.length = 32) (hv : VtIn w a n c vs) (hn : n ≤ 1000) (hvo : v.ok) :
    Calls Try.prog 83 #[.agg (ccl ht h (.slice a n c)).toArray, .agg #[.int .i64 v.at', .int .u64 v.sg]] w (CP w (addE ht vs v) (if addE ht vs v = 0 then ht else 0) (if addE ht vs v = 0 then h else z32) (if addE ht vs v = 0 then insV vs v else [])) := by
  unfold addE
  by_cases h1 : chk ht vs = 0
  · rw [if_neg (by simpa using h1)]
    by_cases h2 : 0 ≤ v.at' ∧ v.at' < 64
    · rw [if_neg (by simpa using h2)]
      cases h3 : (ofV v.at' vs).isSome with
      | true => exact add_has w ht h a n c vs v hl hv hn h1 h2 h3
      | false => exact add_ok w ht h a n c vs v hl hv hn hvo h1 h2 h3
    · rw [if_pos h2]
      exact add_place w ht h a n c vs v hl hv hn h1 h2
  · rw [if_pos h1, if_neg h1, if_neg h1, if_neg h1]
    exact add_chk w ht h a n c vs v hl hv hn h1
end CmJ
end Go.Proofs.Ythcemghamdmjmaa

namespace Go.Proofs.Ythcemghamdmjmaa
namespace CmU
open Go.RowKit
open BlkM WirM WirS CmA CmP CmB CmE CmI CmJ
open WirX (Thg Bag)
open WirAA (box bag_box bag_set)
open WirAB (sCx)

section
variable {ops : Array Oper} {Q : Exit → Act → World → Prop} {rest : List Oper} {o : Oper} {a : Act} {w : World}
theorem sSl {x y : Operand} (hw : Region.wanted o (yielded ops a.tmps) = true) (ho : o.op = .store TL x y) (M k : Nat) (b : Option Addr) (n c : Nat) (c0 : Option Value) (hx : a.eval x = .pointer (some ⟨M, k, none⟩)) (hy : a.eval y = .slice b n c)
    (hc : w.cell? ⟨M, k, none⟩ = c0) (hs : c0.isSome = true) (hf : w.frozen? ⟨M, k, none⟩ = false) (h : wpList Try.prog ops Q rest (a.put o.dst undef) (w.setCell ⟨M, k, none⟩ (.slice b n c))) : wpList Try.prog ops Q (o :: rest) a w :=
  stepW hw fun _ hK => store_sl ho M k b n c c0 hx hy hc hs hf (hK _ _ h)
end
set_option maxRecDepth 10000 in
set_option maxHeartbeats 4000000 in
theorem copy_any (w : World) (ht : Int) (h : List Int) (a : Option Addr) (n c : Nat) (vs : List Vt) (hl : h.length = 32) (hv : VtIn w a n c vs) (hn : n ≤ 1000) :
    Calls Try.prog 62 #[.agg (ccl ht h (.slice a n c)).toArray] w fun e w' => ∃ va vc, e = .returned (.agg (ccl ht h (.slice va n vc)).toArray) ∧ OwnT w' (.slice va n vc) vs ∧ NewB w (.slice va n vc) ∧ Below w.heap.size w w' := by
  have HL := WirS.hide hl
  have hbX := bag_box (w0 := w) (T := TC) (cs := ccl ht h (.slice a n c)) (X := w.heap.size) (Bag.nil (Below.refl _ _)) rfl (w' := w.alloc (.cells (ccl ht h (.slice a n c)).toArray TC)) (At.new _ _ _) (Below.alloc (Below.refl _ _) (Nat.le_refl _) _)
  have HAP := WirS.hide (fun (U : World) (E : Nat) (hU : Below w.heap.size w U) (ho : OwnT U (.slice (some ⟨E, 0, none⟩) 0 0) []) => show ∃ va vc u1, (Builtin.append_ #[TL, TL] TL #[.slice (some ⟨E, 0, none⟩) 0 0, .slice a n c]).run Try.prog U = .ok (.slice va n vc) u1 ∧ OwnT u1 (.slice va n vc) vs ∧ Fr (fun k => (Value.slice (some ⟨E, 0, none⟩) 0 0).ownBlock = some k) U u1 ∧ NewOr U (.slice (some ⟨E, 0, none⟩) 0 0) (.slice va n vc) from by
    obtain ⟨v1, u1, hrun, hO, hf, hn'⟩ := app_votes U TL TL (.slice (some ⟨E, 0, none⟩) 0 0) (.slice a n c) [] vs ho ((hv.below hU).src Try.underlying92) hv.ok (by have := hv.len; simp; omega)
    rw [List.nil_append] at hO
    obtain ⟨va, vc, rfl⟩ := hO.len_of
    rw [hv.len] at hrun hO hn'
    exact ⟨va, vc, u1, hrun, hO, hf, hn'⟩)
  clear hl hv
  go_enter Try.func62, Try.ntmps62
  go_upto_region 0 with fail
  refine wp_region_lit ?_
  refine sV (.pointer (some ⟨w.heap.size, 0, none⟩)) (w.alloc (.cells (ccl ht h (.slice a n c)).toArray TC)) (by kernel_rfl) (by kernel_rfl) ?_
  simp only [Act.put, List.setIfInBounds_toArray, List.set_cons_succ, List.set_cons_zero]
  obtain ⟨X, eX⟩ : ∃ A, w.heap.size = A := ⟨_, rfl⟩
  rw [eX] at hbX ⊢
  clear eX
  generalize World.alloc w _ = x1 at *
  refine sV (.pointer (some ⟨x1.heap.size, 0, none⟩)) (x1.alloc (.cells zcm.toArray TC)) (by kernel_rfl) (by kernel_rfl) ?_
  simp only [Act.put, List.setIfInBounds_toArray, List.set_cons_succ, List.set_cons_zero]
  obtain ⟨Z, eZ⟩ : ∃ A, x1.heap.size = A := ⟨_, rfl⟩
  have hbZ := bag_box (T := TC) (cs := zcm) (X := Z) hbX eZ.symm (w' := x1.alloc (.cells zcm.toArray TC)) (by rw [← eZ]; exact At.new _ _ _) (Below.alloc (Below.refl _ _) (Nat.le_refl _) _)
  rw [eZ]
  clear eZ hbX
  generalize World.alloc x1 _ = x2 at *
  have H2 := WirS.hide hbZ
  clear hbZ
  go_upto_region 1 with fail
  refine wp_region_lit ?_
  refine sV (.slice (some ⟨x2.heap.size, 0, none⟩) 0 0) (x2.alloc (.cells #[] TV)) (by kernel_rfl) (by kernel_rfl) ?_
  simp only [Act.put, List.setIfInBounds_toArray, List.set_cons_succ, List.set_cons_zero]
  have hb3 := bag_ownt H2.out (ownt_new x2) (fun q hq => by simp [Value.ownBlock] at hq; omega) (Below.alloc (Below.refl _ _) (Nat.le_refl _) _)
  obtain ⟨E, eE⟩ : ∃ A, x2.heap.size = A := ⟨_, rfl⟩
  rw [eE] at hb3 ⊢
  clear eE
  generalize World.alloc x2 _ = x3 at *
  have H3 := WirS.hide hb3
  clear hb3 H2
  obtain ⟨va, vc, u1, hrun, hO, hf, hn'⟩ := HAP.out x3 E H3.out.low H3.out.head
  have HRUN := WirS.hide hrun
  have HB4 := WirS.hide (H3.out.act (o' := ownt (.slice va n vc) vs) hf hO hn')
  clear hrun hO hf hn' HAP
  refine sV (.pointer (some ⟨X, 33, none⟩)) (x3) (by kernel_rfl) (by kernel_rfl) ?_
  simp only [Act.put, List.setIfInBounds_toArray, List.set_cons_succ, List.set_cons_zero]
  refine sP (by kernel_rfl) _ _ (by rfl) ⟨X, 33, none⟩ (by kernel_rfl) (.slice a n c) ((H3.out.drop.drop.head.cell 33).trans (ccl_33 _ _ _ HL.out)) (by kernel_rfl) ?_
  simp only [Act.put, List.setIfInBounds_toArray, List.set_cons_succ, List.set_cons_zero]
  refine sA (by kernel_rfl) TL TL _ _ (by rfl) (.slice (some ⟨E, 0, none⟩) 0 0) (.slice a n c) (by kernel_rfl) (by kernel_rfl) (.slice va n vc) (u1) HRUN.out ?_
  simp only [Act.put, List.setIfInBounds_toArray, List.set_cons_succ, List.set_cons_zero]
  clear HRUN H3
  refine sV (.pointer (some ⟨X, 33, none⟩)) (u1) (by kernel_rfl) (by kernel_rfl) ?_
  simp only [Act.put, List.setIfInBounds_toArray, List.set_cons_succ, List.set_cons_zero]
  have HB5 := WirS.hide (HB4.out.perm (show [ownt (.slice va n vc) vs, box TC Z zcm, box TC X (ccl ht h (.slice a n c))].Perm [box TC X (ccl ht h (.slice a n c)), ownt (.slice va n vc) vs, box TC Z zcm] from List.perm_append_comm (l₁ := [ownt (.slice va n vc) vs, box TC Z zcm]) (l₂ := [box TC X (ccl ht h (.slice a n c))])))
  clear HB4
  refine sSl (x := .tmp 7) (y := .tmp 6) (by kernel_rfl) (by kernel_rfl) X 33 va n vc _ (by kernel_rfl) (by kernel_rfl) (HB5.out.head.cell 33) (by rw [ccl_33 _ _ _ HL.out]; rfl) (HB5.out.head.frozen 33) ?_
  have hb6 := bag_set HB5.out 33 (.slice va n vc)
  rw [ccl_set _ _ _ _ HL.out] at hb6
  have HB6 := WirS.hide hb6
  clear hb6 HB5
  try simp only [Act.put]
  generalize World.setCell u1 _ _ = y1 at *
  go_upto_region 2 with fail
  refine wp_region_lit ?_
  refine sL (by kernel_rfl) _ _ (by rfl) _ (by kernel_rfl) HB6.out.head _ _ UC rfl (by kernel_rfl) (by rw [ccl_len _ _ _ HL.out]) ?_
  simp only [Act.put, List.setIfInBounds_toArray, List.set_cons_succ, List.set_cons_zero]
  have HBZ := WirS.hide (HB6.out.perm (show [box TC X (ccl ht h (.slice va n vc)), ownt (.slice va n vc) vs, box TC Z zcm].Perm [box TC Z zcm, box TC X (ccl ht h (.slice va n vc)), ownt (.slice va n vc) vs] from List.perm_append_comm (l₁ := [box TC X (ccl ht h (.slice va n vc)), ownt (.slice va n vc) vs]) (l₂ := [box TC Z zcm])))
  clear HB6
  refine stepStore (by rfl) _ _ _ (by rfl) Z (ccl ht h (.slice va n vc)) (by kernel_rfl) (by kernel_rfl) HBZ.out.head 34 (by kernel_rfl) (by rfl) (ccl_len _ _ _ HL.out) (one_ccl _ _ _ _ _) ?_
  simp only [Act.put]
  have HF := WirS.hide (bag_row HBZ.out (ccl ht h (.slice va n vc)))
  clear HBZ
  generalize World.setRow y1 Z _ = xf at *
  go_wp2_with fail
  refine bodyPost_ret (retRow HF.out.head Try.results62 _ (by rfl) _ 34 UC rfl (by kernel_rfl) (ccl_len _ _ _ HL.out)) rfl ?_
  exact ⟨va, vc, rfl, HF.out.drop.drop.head, fun k hk => (HF.out.all (ownt (.slice va n vc) vs) (by simp)).2 k hk, HF.out.low⟩
end CmU
end Go.Proofs.Ythcemghamdmjmaa

namespace Go.Proofs.Ythcemghamdmjmaa
namespace CmD
open Go.RowKit
open BlkM WirM WirS CmA CmP CmB CmI CmJ

theorem hd70 (n : Nat) : decide ((70 : Int) < (n : Int)) = decide (70 < n) := by
  by_cases e : 70 < n
  · rw [decide_eq_true e, decide_eq_true (by omega)]
  · rw [decide_eq_false e, decide_eq_false (by omega)]
theorem long_any (w : World) (ht : Int) (h : List Int) (a : Option Addr) (n c : Nat) (hl : h.length = 32) :
    Calls Try.prog 60 #[.agg (ccl ht h (.slice a n c)).toArray] w fun e w' => e = .returned (.bool (decide (70 < n))) ∧ Below w.heap.size w w' := by
  obtain ⟨W0, e0⟩ : ∃ X, X = w.alloc (.cells (ccl ht h (.slice a n c)).toArray TC) := ⟨_, rfl⟩
  have hA : At W0 w.heap.size TC (ccl ht h (.slice a n c)) := by rw [e0]; exact At.new w _ _
  have hB : Below w.heap.size w W0 := by rw [e0]; exact Below.alloc (Below.refl _ _) (Nat.le_refl _) _
  have k33 : W0.cell? ⟨w.heap.size, 33, none⟩ = some (.slice a n c) := (hA.cell 33).trans (ccl_33 _ _ _ hl)
  have E0 := WirS.hide e0
  have HB := WirS.hide hB
  clear hA hB e0
  go_enter Try.func60, Try.ntmps60
  go_upto_region 1 with fail
  rw [← E0.out]
  go_wp2_with fail
  go_ret
  exact ⟨show Ending.returned (.bool (decide ((70 : Int) < (n : Int)))) = _ from by rw [hd70 n], HB.out⟩
end CmD
end Go.Proofs.Ythcemghamdmjmaa

namespace Go.Proofs.Ythcemghamdmjmaa
namespace CmC
open Go.RowKit
open BlkM WirM WirS CmA CmP CmB CmI CmJ

theorem app_one (w U : World) (v : Value) (pre : List Vt) (y : Vt) (hO : OwnT U v pre) (hN : NewB w v) (hB : Below w.heap.size w U) (hy : y.ok) (hl : pre.length < 1000000) (g : Nat) (hg : U.heap.size = g) :
    ∃ v' u', (Builtin.append_ #[TL, TL] TL #[v, .slice (some ⟨g, 0, none⟩) 1 1]).run Try.prog (U.alloc (.cells #[.int .i64 y.at', .int .u64 y.sg] TV)) = .ok v' u' ∧ OwnT u' v' (pre ++ [y]) ∧ NewB w v' ∧ Below w.heap.size w u' := by
  subst hg
  have hal : Below U.heap.size U (U.alloc (.cells #[.int .i64 y.at', .int .u64 y.sg] TV)) := Below.alloc (Below.refl _ _) (Nat.le_refl _) _
  obtain ⟨v', u', hrun, ho, hf, hn⟩ := app_votes (U.alloc (.cells #[.int .i64 y.at', .int .u64 y.sg] TV)) TL TL v (.slice (some ⟨U.heap.size, 0, none⟩) 1 1) pre [y] (hO.below hal) (src_1 (At.new U _ (Vt.cells y))) (fun z hz => by rw [List.mem_singleton.1 hz]; exact hy) (by simp; omega)
  refine ⟨v', u', hrun, ho, fun q hq => ?_, ?_⟩
  · rcases hn q hq with h3 | h3
    · exact hN q h3
    · have := hB.size
      simp at h3
      omega
  · have hs := hB.size
    exact (hB.trans (hal.mono hs)).trans (hf.below (by simp; omega) (fun q hq hx => by have := hN q hx; omega))
theorem NewB_nil (w : World) : NewB w (.slice none 0 0) := fun k hk => by simp [Value.ownBlock] at hk
end CmC
end Go.Proofs.Ythcemghamdmjmaa

