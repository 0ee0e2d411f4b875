/-
  slices.Clone and slices.Insert at votes.
-/
import Derived.Test.YtplinpbmncccoaaCmE
import Derived.Laws.IdiomCopy
import Derived.Lib.AppendZerosOnto
import Derived.Lib.Overlaps
import Derived.Lib.SliceRun
import Derived.Deep.RegionHeld3
namespace Go.Proofs.Ytplinpbmncccoaa
namespace CmI
open Go.RowKit
open BlkM WirM WirS CmA CmP CmB CmE

abbrev TL : TypeId := 93
def NewB (w : World) (v : Value) : Prop := ∀ k, v.ownBlock = some k → w.heap.size ≤ k
theorem run_copy_k {P : Program} (w : World) (dT sT ty elem : TypeId) (k m b o dLen dCap : Nat) (a : Addr) (sLen sCap : Nat) (cs : List Value)
    (hu : P.underlying dT = some (.slice elem)) (hs : (P.info? elem).map (·.size) = some k) (hm : Nat.min sLen dLen = m) (hn : cs.length = m * k)
    (hsrc : ∀ j v, cs[j]? = some v → w.cell? (a.add j) = some v) (hc : ∀ j, j < cs.length → (w.cell? ⟨b, o + j, none⟩).isSome = true) (hf : ∀ j, j < cs.length → w.frozen? ⟨b, o + j, none⟩ = false) (h1 : ∀ v ∈ cs, v.oneCell' = true) :
    (Builtin.copy_ #[dT, sT] ty #[.slice (some ⟨b, o, none⟩) dLen dCap, .slice (some a) sLen sCap]).run P w = .ok (goInt m) (w.setCells b o cs) := by
  have hl := run_loadCells_list (P := P) w a cs hsrc
  have hst := run_storeCells_cells (P := P) b o cs 0 w (by simpa using hc) (by simpa using hf) h1
  cases hq : P.info? elem with
  | none => simp [hq] at hs
  | some i =>
    have hi : i.size = k := by simpa [hq] using hs
    have hm' : min sLen dLen = m := hm
    simp [Builtin.copy_, run_underlying hu, Builtin.lenOf, Builtin.firstCells, sizeOf, typeInfo, hq, hi, hm', ← hn, hl, hst]
/-- copy, by what it yields here: as a step. -/
theorem wpK {P : Program} {o : Oper} {a : Act} {w : World} {K : Act → World → Prop} {Q : Exit → Act → World → Prop} (t tx : TypeId) (x y : Operand) (ho : o.op = .call { callee := .builtin .copy, args := #[x, y], argTypes := #[t, tx] }) (v s : Value) (hx : a.eval x = v) (hy : a.eval y = s)
    (v' : Value) (w' : World) (hr : (Builtin.copy_ #[t, tx] o.type #[v, s]).run P w = .ok v' w') (h : K (a.put o.dst v') w') : o.wp P a w K Q := by
  unfold Oper.wp execOp
  simp only [ho, resolve, invoke, builtin, Sem.run_bind, Sem.run_pure, Result.andThen_ok, List.map_toArray, List.map_cons, List.map_nil, hx, hy, hr]
  exact h
theorem slopL {a : Operand → Value} {ob : Oper} {ty : TypeId} {x y : Operand} {p l v : Value} {W : World} (ho : ob.op = .slice ty x (some y) none none) (hx : a x = p) (hy : a y = l) (hr : (Instr.sliceAt ty p (some l) none none).run Try.prog W = .ok v W) :
    (execOp a ob).run Try.prog W = .ok (.value v) W := by
  unfold execOp
  simp only [ho, hx, hy, Option.map_none, Option.map_some, Sem.run_bind, hr, Result.andThen_ok, Sem.run_pure]
theorem slopH {a : Operand → Value} {ob : Oper} {ty : TypeId} {x y : Operand} {p l v : Value} {W : World} (ho : ob.op = .slice ty x none (some y) none) (hx : a x = p) (hy : a y = l) (hr : (Instr.sliceAt ty p none (some l) none).run Try.prog W = .ok v W) :
    (execOp a ob).run Try.prog W = .ok (.value v) W := by
  unfold execOp
  simp only [ho, hx, hy, Option.map_none, Option.map_some, Sem.run_bind, hr, Result.andThen_ok, Sem.run_pure]
theorem uTL : Try.prog.underlying TL = some (.slice (Try.prog.elem TL)) := by kernel_rfl
theorem sTL (Y : World) : (sizeOf (Try.prog.elem TL)).run Try.prog Y = .ok 2 Y := by kernel_rfl
def sa2 (a : Option Addr) (c l : Nat) : Option Addr := if c = l then a else a.map (·.add (l * 2))
theorem slC (a : Option Addr) (len c l : Nat) (h : l ≤ len) (Y : World) : (Instr.sliceAt TL (.slice a len c) (some (.int .i64 (l : Int))) none none).run Try.prog Y = .ok (.slice (sa2 a c l) (len - l) (c - l)) Y := by
  rw [run_sliceAt_slice Y TL _ _ _ _ uTL, run_slice_l Y TL a len c uTL .i64 (l : Int) (by omega) (by omega), sTL]
  simp [sliced, sa2]
theorem slA (g len c l : Nat) (h : l ≤ len) (hc : l < c) (Y : World) : (Instr.sliceAt TL (.slice (some ⟨g, 0, none⟩) len c) (some (.int .i64 (l : Int))) none none).run Try.prog Y = .ok (.slice (some ⟨g, l * 2, none⟩) (len - l) (c - l)) Y := by
  rw [slC _ _ _ _ h]
  simp [sa2, Nat.ne_of_gt hc, Addr.add_lit]
theorem slB (g len c m : Nat) (h : m ≤ c) (Y : World) : (Instr.sliceAt TL (.slice (some ⟨g, 0, none⟩) len c) none (some (.int .i64 (m : Int))) none).run Try.prog Y = .ok (.slice (some ⟨g, 0, none⟩) m c) Y := by
  rw [run_sliceAt_slice Y TL _ _ _ _ uTL, run_slice_h Y TL _ len c uTL .i64 (m : Int) (by omega) (by omega), sTL]
  simp [sliced, Addr.add_lit]
/-- What is known of a slice of the call's own that holds something. -/
structure Rw (w : World) (g n c : Nat) (vs : List Vt) (cur : List Value) : Prop where
  at' : w.heap[g]? = some (.cells cur.toArray TV (0, 0))
  len : cur.length = c * 2
  nc : n ≤ c
  cm : c ≤ maxLen
  ln : vs.length = n
  pre : cur.take (n * 2) = cellsL vs
theorem Rw.own {w : World} {g n c : Nat} {vs : List Vt} {cur : List Value} (h : Rw w g n c vs cur) (hok : ∀ x ∈ vs, x.ok) : OwnT w (.slice (some ⟨g, 0, none⟩) n c) vs := by
  have hn := h.ln
  refine ⟨⟨by rw [cellsL_len], .inr ⟨g, c, cur.toArray, by rw [hn], Nat.zero_le _, h.at', by rw [hn]; exact h.nc, h.cm, by simp [h.len], ?_⟩⟩, hok⟩
  rw [hn]
  simpa using h.pre
theorem OwnT.rw' {w : World} {a : Option Addr} {n c : Nat} {vs : List Vt} (h : OwnT w (.slice a n c) vs) (hp : 0 < vs.length) : ∃ g cur, a = some ⟨g, 0, none⟩ ∧ Rw w g n c vs cur := by
  obtain ⟨⟨hl, ⟨e, h0⟩ | ⟨g, cap, cur, e, hb, hg, h1, h2, h3, h4⟩⟩, hok⟩ := h
  · omega
  · cases e
    exact ⟨g, cur.toList, rfl, by simpa using hg, by simpa using h3, h1, h2, rfl, by simpa using h4⟩
theorem cells_take (vs : List Vt) (i : Nat) (h : i ≤ vs.length) : (cellsL vs).take (i * 2) = cellsL (vs.take i) := by
  have e : cellsL vs = cellsL (vs.take i) ++ cellsL (vs.drop i) := by rw [← cellsL_app, List.take_append_drop]
  rw [e, List.take_left' (by rw [cellsL_len, List.length_take, Nat.min_eq_left h])]
theorem cells_drop (vs : List Vt) (i : Nat) (h : i ≤ vs.length) : (cellsL vs).drop (i * 2) = cellsL (vs.drop i) := by
  have e : cellsL vs = cellsL (vs.take i) ++ cellsL (vs.drop i) := by rw [← cellsL_app, List.take_append_drop]
  rw [e, List.drop_left' (by rw [cellsL_len, List.length_take, Nat.min_eq_left h])]
theorem cells_ins (vs : List Vt) (i : Nat) (x : Vt) : cellsL (ins vs i x) = cellsL (vs.take i) ++ (x.cells ++ cellsL (vs.drop i)) := by
  have e : cellsL [x] = x.cells := by simp [cellsL]
  unfold ins
  rw [show x :: vs.drop i = [x] ++ vs.drop i from rfl, cellsL_app, cellsL_app, e]
/-- The cells behind both copies. -/
theorem shift_list {cur A B C D : List Value} {n i : Nat} (hc : cur = A ++ (B ++ D)) (hA : A.length = i * 2) (hB : B.length = (n - i) * 2) (hC : C.length = 2) (hD : 2 ≤ D.length) (_hi : i ≤ n) :
    let L1 := cur.take ((i + 1) * 2) ++ (B ++ cur.drop ((i + 1) * 2 + B.length))
    L1.take (i * 2) ++ (C ++ L1.drop (i * 2 + C.length)) = A ++ (C ++ (B ++ D.drop 2)) := by
  intro L1
  have h1 : L1.take (i * 2) = A := by
    show (cur.take ((i + 1) * 2) ++ _).take (i * 2) = A
    rw [List.take_append_of_le_length (by rw [hc]; simp only [List.length_take, List.length_append]; omega), List.take_take, Nat.min_eq_left (by omega), hc, List.take_left' hA]
  have h2 : L1.drop (i * 2 + C.length) = B ++ D.drop 2 := by
    have hl : (cur.take ((i + 1) * 2)).length = i * 2 + 2 := by
      rw [hc]
      simp only [List.length_take, List.length_append]
      omega
    show (cur.take ((i + 1) * 2) ++ (B ++ cur.drop ((i + 1) * 2 + B.length))).drop (i * 2 + C.length) = B ++ D.drop 2
    rw [hC, List.drop_left' hl]
    congr 1
    have e : (i + 1) * 2 + B.length = A.length + (B.length + 2) := by omega
    rw [e, hc, List.drop_append, List.drop_append, List.drop_eq_nil_of_le (by omega), List.drop_eq_nil_of_le (by omega)]
    simp
  rw [h1, h2]

theorem ownt_new (w : World) : OwnT (w.alloc (.cells #[] TV)) (.slice (some ⟨w.heap.size, 0, none⟩) 0 0) [] := ⟨World.ownsRow_made w #[] 0 (Nat.zero_le _) (Nat.zero_le _) (by simp), fun x hx => by cases hx⟩
set_option maxRecDepth 10000 in
set_option maxHeartbeats 2000000 in
theorem clone_any (w : World) (a : Option Addr) (n c : Nat) (vs : List Vt) (h : VtIn w a n c vs) (hn : n ≤ 1000) :
    Calls Try.prog 170 #[.slice a n c] w fun e w' => ∃ va vc, e = .returned (.slice va n vc) ∧ OwnT w' (.slice va n vc) vs ∧ NewB w (.slice va n vc) ∧ Below w.heap.size w w' := by
  have hl := h.len
  cases a with
  | none =>
    obtain rfl : n = 0 := by
      by_cases e : 0 < n
      · obtain ⟨B, o, e2, _⟩ := h.row e
        cases e2
      · omega
    obtain rfl : vs = [] := List.eq_nil_of_length_eq_zero hl
    have hq : ∀ W : World, (binOp .eql TL (.slice none 0 c) (.slice none 0 0)).run Try.prog W = .ok (.bool true) W := fun W => Lib.run_eql_slice_nil W TL _ none 0 c 0 0 uTL
    clear h hl
    go_enter Try.func170, Try.ntmps170
    go_wp2_with fail
    go_ret
    exact ⟨none, 0, rfl, OwnT.nil w, fun k hk => by simp [Value.ownBlock] at hk, Below.refl _ _⟩
  | some ad =>
    have hb : Below w.heap.size w (w.alloc (.cells #[] TV)) := Below.alloc (Below.refl _ _) (Nat.le_refl _) _
    obtain ⟨v1, u1, hrun, ho, hf, hn'⟩ := app_votes (w.alloc (.cells #[] TV)) TL TL (.slice (some ⟨w.heap.size, 0, none⟩) 0 0) (.slice (some ad) n c) [] vs (ownt_new w) ((h.below hb).src Try.underlying93) h.ok (by simp; omega)
    rw [List.nil_append] at ho
    have HN := WirS.hide (show NewB w v1 from fun q hq => by
      rcases hn' q hq with h3 | h3
      · simp [Value.ownBlock] at h3
        omega
      · simp at h3
        omega)
    have HB := WirS.hide (hb.trans (hf.below (by simp) (fun q hq hx => by simp [Value.ownBlock] at hx; omega)))
    obtain ⟨va, vc, rfl⟩ := ho.len_of
    rw [hl] at ho HN hrun
    have HO := WirS.hide ho
    have HRUN := WirS.hide hrun
    have hq : ∀ W : World, (binOp .eql TL (.slice (some ad) n c) (.slice none 0 0)).run Try.prog W = .ok (.bool false) W := fun W => Lib.run_eql_slice_nil W TL _ (some ad) n c 0 0 uTL
    clear h ho hb hl hf hn' hrun
    go_enter Try.func170, Try.ntmps170
    go_upto_region 3 with fail
    refine wp_region_lit ?_
    refine sV (.slice (some ⟨w.heap.size, 0, none⟩) 0 0) (w.alloc (.cells #[] TV)) (by kernel_rfl) (by kernel_rfl) ?_
    simp only [Act.put, List.setIfInBounds_toArray, List.set_cons_succ, List.set_cons_zero]
    refine sV (.slice (some ad) n c) (w.alloc (.cells #[] TV)) (by kernel_rfl) (by kernel_rfl) ?_
    simp only [Act.put, List.setIfInBounds_toArray, List.set_cons_succ, List.set_cons_zero]
    refine sA (by kernel_rfl) TL TL _ _ (by rfl) (.slice (some ⟨w.heap.size, 0, none⟩) 0 0) (.slice (some ad) n c) (by kernel_rfl) (by kernel_rfl) (.slice va n vc) (u1) HRUN.out ?_
    simp only [Act.put, List.setIfInBounds_toArray, List.set_cons_succ, List.set_cons_zero]
    clear HRUN
    go_wp2_with fail
    go_ret
    exact ⟨va, vc, rfl, HO.out, HN.out, HB.out⟩
/-- What Insert leaves. -/
def InsP (w : World) (v : Value) (vs : List Vt) (e : Ending) (w' : World) : Prop := ∃ a n c, e = .returned (.slice a n c) ∧ OwnT w' (.slice a n c) vs ∧ Fr (fun k => v.ownBlock = some k) w w' ∧ NewOr w v (.slice a n c)
theorem src_1 {w : World} {V : Nat} {x : Vt} (h : At w V TV x.cells) : Src Try.prog 2 TL (.slice (some ⟨V, 0, none⟩) 1 1) [x].length (cellsL [x]) w := src_one Try.underlying93 V 0 1 x (fun j v hj => by rw [Nat.zero_add, h.cell]; exact hj)
set_option maxRecDepth 10000 in
set_option maxHeartbeats 4000000 in
theorem insert_end (w : World) (a : Option Addr) (n c V : Nat) (vs : List Vt) (x : Vt) (h : OwnT w (.slice a n c) vs) (hx : At w V TV x.cells) (hxo : x.ok) (hn : n ≤ 1000) :
    Calls Try.prog 169 #[.slice a n c, .int .i64 (n : Int), .slice (some ⟨V, 0, none⟩) 1 1] w (InsP w (.slice a n c) (ins vs n x)) := by
  have hl : vs.length = n := by obtain ⟨va, vc, e⟩ := h.len_of; cases e; rfl
  have e0 : ins vs n x = vs ++ [x] := by unfold ins; rw [List.take_of_length_le (by omega), List.drop_eq_nil_of_le (by omega)]
  rw [e0]
  obtain ⟨v1, u1, hrun, ho, hf, hn'⟩ := app_votes w TL TL (.slice a n c) (.slice (some ⟨V, 0, none⟩) 1 1) vs [x] h (src_1 hx) (fun y hy => by rw [List.mem_singleton.1 hy]; exact hxo) (by simp; omega)
  obtain ⟨va, vc, rfl⟩ := ho.len_of
  have HP := WirS.hide (show InsP w (.slice a n c) (vs ++ [x]) (.returned (.slice va (vs ++ [x]).length vc)) u1 from ⟨va, _, vc, rfl, ho, hf, hn'⟩)
  have HRUN := WirS.hide hrun
  have HSL := WirS.hide (fun Y => slC a n c n (Nat.le_refl _) Y)
  clear h hx ho hf hn' hrun hl e0
  generalize (vs ++ [x]).length = m1 at *
  go_enter Try.func169, Try.ntmps169
  go_upto_region 1 with fail
  refine wp_region_lit ?_
  refine sV (.slice a n c) (w) (by kernel_rfl) (by kernel_rfl) ?_
  simp only [Act.put, List.setIfInBounds_toArray, List.set_cons_succ, List.set_cons_zero]
  refine sV (.int .i64 (n : Int)) (w) (by kernel_rfl) (by kernel_rfl) ?_
  simp only [Act.put, List.setIfInBounds_toArray, List.set_cons_succ, List.set_cons_zero]
  refine sV _ w (by kernel_rfl) (slopL (x := .tmp 10) (y := .tmp 11) (by kernel_rfl) (by kernel_rfl) (by kernel_rfl) (HSL.out w)) ?_
  simp only [Act.put, List.setIfInBounds_toArray, List.set_cons_succ, List.set_cons_zero]
  go_upto_region 7 with fail
  refine wp_region_lit ?_
  refine sV (.slice a n c) (w) (by kernel_rfl) (by kernel_rfl) ?_
  simp only [Act.put, List.setIfInBounds_toArray, List.set_cons_succ, List.set_cons_zero]
  refine sV (.slice (some ⟨V, 0, none⟩) 1 1) (w) (by kernel_rfl) (by kernel_rfl) ?_
  simp only [Act.put, List.setIfInBounds_toArray, List.set_cons_succ, List.set_cons_zero]
  refine sA (by kernel_rfl) TL TL _ _ (by rfl) (.slice a n c) (.slice (some ⟨V, 0, none⟩) 1 1) (by kernel_rfl) (by kernel_rfl) (.slice va m1 vc) (u1) HRUN.out ?_
  simp only [Act.put, List.setIfInBounds_toArray, List.set_cons_succ, List.set_cons_zero]
  clear HRUN
  go_wp2_with fail
  go_ret
  exact HP.out

theorem zero_len (k : Nat) : (Builtin.zeroCells (Value.agg #[.int .i64 0, .int .u64 0]).cells k).size = k * 2 := by rw [size_zeroCells]; rfl
/-- The new row behind both copies. -/
theorem grow_list {R A B C : List Value} {n i c2 : Nat} (hR : R.length = c2 * 2) (hA : R.take (i * 2) = A) (hB : B.length = (n - i) * 2) (hC : C.length = 2) (hi : i < n) (hn : n + 1 ≤ c2) :
    let L1 := R.take (i * 2) ++ (C ++ R.drop (i * 2 + C.length))
    let L2 := L1.take ((i + 1) * 2) ++ (B ++ L1.drop ((i + 1) * 2 + B.length))
    L1.length = c2 * 2 ∧ L2.length = c2 * 2 ∧ L2.take ((n + 1) * 2) = A ++ (C ++ B) := by
  intro L1 L2
  have hAl : A.length = i * 2 := by rw [← hA, List.length_take, hR]; omega
  have e1 : L1 = A ++ (C ++ R.drop (i * 2 + 2)) := by
    show R.take (i * 2) ++ (C ++ R.drop (i * 2 + C.length)) = _
    rw [hA, hC]
  have h1 : L1.length = c2 * 2 := by
    rw [e1]
    simp only [List.length_append, List.length_drop, hR, hAl, hC]
    omega
  have h2 : L1.take ((i + 1) * 2) = A ++ C := by
    rw [e1, ← List.append_assoc]
    exact List.take_left' (by rw [List.length_append, hAl, hC]; omega)
  have e2 : L2 = (A ++ (C ++ B)) ++ L1.drop ((i + 1) * 2 + B.length) := by
    show L1.take ((i + 1) * 2) ++ (B ++ L1.drop ((i + 1) * 2 + B.length)) = _
    rw [h2]
    simp only [List.append_assoc]
  have hl : (A ++ (C ++ B)).length = (n + 1) * 2 := by simp only [List.length_append, hAl, hC, hB]; omega
  refine ⟨h1, ?_, ?_⟩
  · rw [e2, List.length_append, hl, List.length_drop, h1, hB]
    omega
  · rw [e2]
    exact List.take_left' hl
theorem oneV (x : Vt) : ∀ v ∈ x.cells, v.oneCell' = true := fun v hv => by simp [Vt.cells] at hv; rcases hv with rfl | rfl <;> rfl
theorem cell_row {w : World} {g : Nat} {L : List Value} (h : w.heap[g]? = some (.cells L.toArray TV (0, 0))) (j : Nat) : w.cell? ⟨g, j, none⟩ = L[j]? := by simp [World.cell?, h]
theorem froz_row {w : World} {g : Nat} {L : List Value} (h : w.heap[g]? = some (.cells L.toArray TV (0, 0))) (j : Nat) : w.frozen? ⟨g, j, none⟩ = false := by simp [World.frozen?, h]
theorem sTV : (Try.prog.info? (Try.prog.elem TL)).map (·.size) = some 2 := by kernel_rfl

set_option maxRecDepth 10000 in
set_option maxHeartbeats 4000000 in
theorem insert_grow (w : World) (g n c i V : Nat) (vs : List Vt) (cur : List Value) (x : Vt) (h : Rw w g n c vs cur) (hok : ∀ y ∈ vs, y.ok) (hx : At w V TV x.cells) (hxo : x.ok) (hi : i < n) (hc : c < n + 1) (hn : n ≤ 1000) :
    Calls Try.prog 169 #[.slice (some ⟨g, 0, none⟩) n c, .int .i64 (i : Int), .slice (some ⟨V, 0, none⟩) 1 1] w (InsP w (.slice (some ⟨g, 0, none⟩) n c) (ins vs i x)) := by
  obtain ⟨i0, hi0, hz0, hz1, hz2⟩ := info_parts (show (Try.prog.info? TV).map (fun i => (i.zero, i.size, i.bytes)) = some (some (.agg #[.int .i64 0, .int .u64 0]), 2, 16) by kernel_rfl)
  have hgl : g < w.heap.size := (Array.getElem?_eq_some_iff.1 h.at').1
  have hVl := hx.lt
  have hvl := h.ln
  have hA0 := cells_take vs i (by omega)
  have hcurA : cur.take (i * 2) = cellsL (vs.take i) := by rw [← hA0, ← h.pre, List.take_take, Nat.min_eq_left (by omega)]
  have hAl : (cellsL (vs.take i)).length = i * 2 := by rw [cellsL_len, List.length_take, Nat.min_eq_left (by omega)]
  have hBl : (cellsL (vs.drop i)).length = (n - i) * 2 := by rw [cellsL_len, List.length_drop, hvl]
  obtain ⟨d, hd⟩ : ∃ d, n + 1 - i = d := ⟨_, rfl⟩
  have hid : i + d = n + 1 := by omega
  have hold : (Builtin.firstCells i0.size i (.slice (some ⟨g, 0, none⟩) i c)).run Try.prog w.drew = .ok (cellsL (vs.take i)).toArray w.drew := by
    rw [hz1]
    exact run_firstCells_some w.drew 2 i ⟨g, 0, none⟩ i c (cellsL (vs.take i)) (by rw [hAl]) (fun j v hj => by
      rw [Addr.add_lit, Nat.zero_add]
      show w.cell? ⟨g, j, none⟩ = some v
      rw [cell_row h.at', ← hj, ← hcurA]
      have hjl := (List.getElem?_eq_some_iff.1 hj).1
      rw [hAl] at hjl
      rw [List.getElem?_take, if_pos hjl])
  have hrz := Lib.run_append_grow_zeros (P := Try.prog) w TL 3 TL TV i0 _ .i64 .i64 Try.underlying93 Try.underlying3 hi0 hz0 (some ⟨g, 0, none⟩) i c (cellsL (vs.take i)) hold d (by omega) (by omega) (by omega) (by omega) (by rw [hz2]; omega) (growslice_fits (by omega) (by rw [hz2]; omega))
  rw [hid] at hrz
  obtain ⟨c2, hc2⟩ : ∃ c2, grownCap w (n + 1) c TV = c2 := ⟨_, rfl⟩
  have hge : n + 1 ≤ c2 := by rw [← hc2]; exact grownCap_ge _ _ _ _
  have hcm : c2 ≤ maxLen := by rw [← hc2]; exact grownCap_le_maxLen _ _ _ _ (by unfold maxLen; omega)
  rw [hc2] at hrz
  obtain ⟨R, hRe⟩ : ∃ R : List Value, (cellsL (vs.take i)).toArray ++ Builtin.zeroCells (Value.agg #[.int .i64 0, .int .u64 0]).cells d ++ Builtin.zeroCells (Value.agg #[.int .i64 0, .int .u64 0]).cells (c2 - (n + 1)) = R.toArray := ⟨_, (Array.toArray_toList).symm⟩
  have hRl : R.length = c2 * 2 := by
    have := congrArg Array.size hRe
    rw [Array.size_append, Array.size_append, zero_len, zero_len, List.size_toArray, List.size_toArray, hAl] at this
    omega
  have hRA : R.take (i * 2) = cellsL (vs.take i) := by
    have := congrArg Array.toList hRe
    simp only [Array.toList_append, List.append_assoc] at this
    rw [← this]
    exact List.take_left' hAl
  rw [hRe] at hrz
  obtain ⟨g1, g2, g3⟩ := grow_list hRl hRA hBl (show x.cells.length = 2 from rfl) hi hge
  obtain ⟨G, hG⟩ : ∃ G, w.heap.size = G := ⟨_, rfl⟩
  rw [hG] at hrz
  have a1 : At (w.drew.alloc (.cells R.toArray TV)) G TV R := by rw [← hG]; exact At.new w.drew TV R
  have hF1 : Fr (fun k => (Value.slice (some ⟨g, 0, none⟩) n c).ownBlock = some k) w (w.drew.alloc (.cells R.toArray TV)) := (Fr.refl _ w).drew.alloc _
  have cg1 : ∀ j, (w.drew.alloc (.cells R.toArray TV)).cell? ⟨g, j, none⟩ = cur[j]? := fun j => by
    rw [← cell_row h.at' j]
    exact (Fr.of_below (X := fun _ => False) (w := w) (w' := w.drew.alloc (.cells R.toArray TV)) (Below.alloc (Below.drew (Below.refl _ _)) (Nat.le_refl _) _)).cell (p := ⟨g, j, none⟩) hgl (fun h => h)
  have hx1 : At (w.drew.alloc (.cells R.toArray TV)) V TV x.cells := (At.fr (X := fun _ => False) hx (Fr.of_below (Below.alloc (Below.drew (Below.refl _ _)) (Nat.le_refl _) _)) (fun h => h))
  generalize w.drew.alloc (.cells R.toArray TV) = w1 at hrz a1 hF1 cg1 hx1
  have hcp1 : ∀ ty dc, (Builtin.copy_ #[TL, TL] ty #[.slice (some ⟨G, i * 2, none⟩) (n + 1 - i) dc, .slice (some ⟨V, 0, none⟩) 1 1]).run Try.prog w1 = .ok (goInt 1) (w1.setCells G (i * 2) x.cells) := fun ty dc =>
    run_copy_k w1 TL TL ty _ 2 1 G (i * 2) (n + 1 - i) dc ⟨V, 0, none⟩ 1 1 x.cells uTL sTV (by show min _ _ = 1; omega) rfl
      (fun j v hj => by rw [Addr.add_lit, Nat.zero_add, hx1.cell]; exact hj)
      (fun j hj => by rw [cell_row a1, List.getElem?_eq_getElem (by rw [hRl]; simp [Vt.cells] at hj; omega)]; rfl) (fun j _ => froz_row a1 _) (oneV x)
  have a2 := heap_setCells_one G TV x.cells (i * 2) R w1 a1 (by rw [hRl]; show i * 2 + 2 ≤ _; omega)
  have hF2 : Fr (fun k => (Value.slice (some ⟨g, 0, none⟩) n c).ownBlock = some k) w (w1.setCells G (i * 2) x.cells) := hF1.trans' (fr_setCells G x.cells (i * 2) w1 w1 (Fr.refl _ _)) (fun k hk e => by omega)
  have cg2 : ∀ j, (w1.setCells G (i * 2) x.cells).cell? ⟨g, j, none⟩ = cur[j]? := fun j => by
    rw [World.cell?_setCells_out _ _ _ _ _ (fun e _ => absurd (show g = G from e) (by omega))]
    exact cg1 j
  generalize w1.setCells G (i * 2) x.cells = w2 at hcp1 a2 hF2 cg2
  obtain ⟨L1, hL1⟩ : ∃ L1, R.take (i * 2) ++ (x.cells ++ R.drop (i * 2 + x.cells.length)) = L1 := ⟨_, rfl⟩
  have hcp2 : ∀ ty dc sc, (Builtin.copy_ #[TL, TL] ty #[.slice (some ⟨G, (i + 1) * 2, none⟩) (n + 1 - (i + 1)) dc, .slice (some ⟨g, i * 2, none⟩) (n - i) sc]).run Try.prog w2.drew = .ok (goInt (n - i : Nat)) (w2.drew.setCells G ((i + 1) * 2) (cellsL (vs.drop i))) := fun ty dc sc =>
    run_copy_k w2.drew TL TL ty _ 2 (n - i) G ((i + 1) * 2) (n + 1 - (i + 1)) dc ⟨g, i * 2, none⟩ (n - i) sc (cellsL (vs.drop i)) uTL sTV (by show min _ _ = _; omega) hBl
      (fun j v hj => by
        rw [Addr.add_lit]
        show w2.cell? _ = _
        rw [cg2, ← hj, ← cells_drop vs i (by omega), ← h.pre, List.getElem?_drop, List.getElem?_take]
        have hjl := (List.getElem?_eq_some_iff.1 hj).1
        rw [hBl] at hjl
        rw [if_pos (by omega)])
      (fun j hj => by
        show (w2.cell? _).isSome = true
        rw [cell_row a2, List.getElem?_eq_getElem (by rw [g1]; rw [hBl] at hj; omega)]
        rfl)
      (fun j _ => froz_row a2 _) (fun v hv => one_cells _ v hv)
  have a3 := heap_setCells_one G TV (cellsL (vs.drop i)) ((i + 1) * 2) _ w2.drew a2 (by rw [g1, hBl]; omega)
  have HP := WirS.hide (show InsP w (.slice (some ⟨g, 0, none⟩) n c) (ins vs i x) (.returned (.slice (some ⟨G, 0, none⟩) (n + 1) c2)) (w2.drew.setCells G ((i + 1) * 2) (cellsL (vs.drop i))) from
    ⟨_, _, _, rfl, Rw.own ⟨a3, g2, hge, hcm, by rw [ins_len _ _ _ (by omega), hvl], by rw [g3, cells_ins]⟩ (fun y hy => by rcases mem_ins.1 hy with rfl | hy; exact hxo; exact hok y hy), hF2.trans' ((fr_setCells G (cellsL (vs.drop i)) ((i + 1) * 2) w2 w2.drew (Fr.refl _ _).drew)) (fun k hk e => by omega), fun k hk => .inr (by simp [Value.ownBlock] at hk; omega)⟩)
  obtain ⟨n1, hn1⟩ : ∃ m, n + 1 = m := ⟨_, rfl⟩
  obtain ⟨i1, hi1⟩ : ∃ m, i + 1 = m := ⟨_, rfl⟩
  have f1 : IntKind.i64.wrap ((n : Int) + 1) = (n1 : Int) := by rw [IntWalk.i64_in _ (by omega)]; omega
  have f2 : IntKind.i64.wrap ((i : Int) + 1) = (i1 : Int) := by rw [IntWalk.i64_in _ (by omega)]; omega
  have f3 : IntKind.i64.wrap ((n1 : Int) - (i : Int)) = (d : Int) := by rw [IntWalk.i64_in _ (by omega)]; omega
  have e1 : ((i : Int) == (n : Int)) = false := by simp; omega
  have e2 : (c : Int) < (n1 : Int) := by omega
  have HS1 := WirS.hide (fun Y => slA g n c i (by omega) (by have := h.nc; omega) Y)
  have HS2 := WirS.hide (fun Y => slB g n c i (by have := h.nc; omega) Y)
  have HS3 := WirS.hide (fun Y => slA G n1 c2 i (by omega) (by omega) Y)
  have HS4 := WirS.hide (fun Y => slA G n1 c2 i1 (by omega) (by omega) Y)
  rw [hn1] at hrz hcp1 hcp2 HP
  rw [hi1] at hcp2 HP
  have HRZ := WirS.hide hrz
  have HC1 := WirS.hide hcp1
  have HC2 := WirS.hide hcp2
  clear h hok hx hxo hi hc hgl hVl hvl hA0 hcurA hAl hBl hd hid hold hrz hc2 hge hcm hRe hRl hRA g1 g2 g3 hG a1 hF1 cg1 hx1 hcp1 a2 hF2 cg2 hL1 hcp2 a3 hn1 hi1 hi0 hz0 hz1 hz2
  generalize cellsL (vs.drop i) = Bs at *
  generalize x.cells = xs at *
  go_enter Try.func169, Try.ntmps169
  go_upto_region 1 with fail
  refine wp_region_lit ?_
  refine sV (.slice (some ⟨g, 0, none⟩) n c) (w) (by kernel_rfl) (by kernel_rfl) ?_
  simp only [Act.put, List.setIfInBounds_toArray, List.set_cons_succ, List.set_cons_zero]
  refine sV (.int .i64 (i : Int)) (w) (by kernel_rfl) (by kernel_rfl) ?_
  simp only [Act.put, List.setIfInBounds_toArray, List.set_cons_succ, List.set_cons_zero]
  refine sV _ w (by kernel_rfl) (slopL (x := .tmp 10) (y := .tmp 11) (by kernel_rfl) (by kernel_rfl) (by kernel_rfl) (HS1.out w)) ?_
  simp only [Act.put, List.setIfInBounds_toArray, List.set_cons_succ, List.set_cons_zero]
  go_upto_region 9 with fail
  refine wp_region_lit ?_
  refine sV (.slice (some ⟨g, 0, none⟩) n c) (w) (by kernel_rfl) (by kernel_rfl) ?_
  simp only [Act.put, List.setIfInBounds_toArray, List.set_cons_succ, List.set_cons_zero]
  refine sV (.int .i64 (i : Int)) (w) (by kernel_rfl) (by kernel_rfl) ?_
  simp only [Act.put, List.setIfInBounds_toArray, List.set_cons_succ, List.set_cons_zero]
  refine sV _ w (by kernel_rfl) (slopH (x := .tmp 32) (y := .tmp 33) (by kernel_rfl) (by kernel_rfl) (by kernel_rfl) (HS2.out w)) ?_
  simp only [Act.put, List.setIfInBounds_toArray, List.set_cons_succ, List.set_cons_zero]
  refine sV (.int .i64 (n : Int)) (w) (by kernel_rfl) (by kernel_rfl) ?_
  simp only [Act.put, List.setIfInBounds_toArray, List.set_cons_succ, List.set_cons_zero]
  refine sV (.int .i64 1) (w) (by kernel_rfl) (by kernel_rfl) ?_
  simp only [Act.put, List.setIfInBounds_toArray, List.set_cons_succ, List.set_cons_zero]
  refine sV (.int .i64 (n1 : Int)) w (by kernel_rfl) (by rw [← f1]; kernel_rfl) ?_
  simp only [Act.put, List.setIfInBounds_toArray, List.set_cons_succ, List.set_cons_zero]
  refine sV (.int .i64 (i : Int)) (w) (by kernel_rfl) (by kernel_rfl) ?_
  simp only [Act.put, List.setIfInBounds_toArray, List.set_cons_succ, List.set_cons_zero]
  refine sV (.int .i64 (d : Int)) w (by kernel_rfl) (by rw [← f3]; kernel_rfl) ?_
  simp only [Act.put, List.setIfInBounds_toArray, List.set_cons_succ, List.set_cons_zero]
  refine sA (by kernel_rfl) TL 3 _ _ (by rfl) (.slice (some ⟨g, 0, none⟩) i c) (.int .i64 (d : Int)) (by kernel_rfl) (by kernel_rfl) (.slice (some ⟨G, 0, none⟩) n1 c2) (w1) HRZ.out ?_
  simp only [Act.put, List.setIfInBounds_toArray, List.set_cons_succ, List.set_cons_zero]
  go_upto_region 10 with fail
  refine wp_region_lit ?_
  refine sV (.slice (some ⟨G, 0, none⟩) n1 c2) (w1) (by kernel_rfl) (by kernel_rfl) ?_
  simp only [Act.put, List.setIfInBounds_toArray, List.set_cons_succ, List.set_cons_zero]
  refine sV (.int .i64 (i : Int)) (w1) (by kernel_rfl) (by kernel_rfl) ?_
  simp only [Act.put, List.setIfInBounds_toArray, List.set_cons_succ, List.set_cons_zero]
  refine sV _ w1 (by kernel_rfl) (slopL (x := .tmp 41) (y := .tmp 42) (by kernel_rfl) (by kernel_rfl) (by kernel_rfl) (HS3.out w1)) ?_
  simp only [Act.put, List.setIfInBounds_toArray, List.set_cons_succ, List.set_cons_zero]
  refine sV (.slice (some ⟨V, 0, none⟩) 1 1) (w1) (by kernel_rfl) (by kernel_rfl) ?_
  simp only [Act.put, List.setIfInBounds_toArray, List.set_cons_succ, List.set_cons_zero]
  refine stepW (by kernel_rfl) (fun K hK => wpK TL TL (.tmp 43) (.tmp 44) (by kernel_rfl) (.slice (some ⟨G, i * 2, none⟩) (n1 - i) (c2 - i)) (.slice (some ⟨V, 0, none⟩) 1 1) (by kernel_rfl) (by kernel_rfl) _ w2 (HC1.out _ _) (hK _ _ ?_))
  simp only [Act.put, List.setIfInBounds_toArray, List.set_cons_succ, List.set_cons_zero]
  go_upto_region 11 with fail
  refine wp_region_noPanic ?_
  refine wp_region_held_drew (S := fun _ => True) (by kernel_rfl) trivial (fun hHeld => ?_)
  refine' wpAnyH_take (i := 0) (oi := _) (v := _) rfl (by kernel_rfl) (by kernel_rfl) (by kernel_rfl) (fun _ _ _ h => h) (Or.inl ⟨by kernel_rfl, ?hy0⟩) (by assumption) ?rest0
  case hy0 =>
    intro w hSw
    try dsimp only at hSw
    go_simp
    try with_reducible rfl
  case rest0 =>
  try simp only [List.getElem_toArray, List.getElem_cons_zero, Act.put, List.setIfInBounds_toArray, List.set_cons_zero, List.set_cons_succ]
  refine' wpAnyH_take (i := 1) (oi := _) (v := _) rfl (by kernel_rfl) (by kernel_rfl) (by kernel_rfl) (fun _ _ _ h => h) (Or.inl ⟨by kernel_rfl, ?hy1⟩) (by assumption) ?rest1
  case hy1 =>
    intro w hSw
    try dsimp only at hSw
    go_simp
    try with_reducible rfl
  case rest1 =>
  try simp only [List.getElem_toArray, List.getElem_cons_succ, List.getElem_cons_zero, Act.put, List.setIfInBounds_toArray, List.set_cons_zero, List.set_cons_succ]
  refine' wpAnyH_take (i := 2) (oi := _) (v := _) rfl (by kernel_rfl) (by kernel_rfl) (by kernel_rfl) (fun _ _ _ h => h) (Or.inl ⟨by kernel_rfl, ?hy2⟩) (by assumption) ?rest2
  case hy2 =>
    intro w hSw
    try dsimp only at hSw
    go_simp
    try with_reducible rfl
  case rest2 =>
  try simp only [List.getElem_toArray, List.getElem_cons_succ, List.getElem_cons_zero, Act.put, List.setIfInBounds_toArray, List.set_cons_zero, List.set_cons_succ]
  refine' wpAnyH_take (i := 3) (oi := _) (v := .int .i64 (i1 : Int)) rfl (by kernel_rfl) (by kernel_rfl) (by kernel_rfl) (fun _ _ _ h => h) (Or.inl ⟨by kernel_rfl, ?hy3⟩) (by assumption) ?rest3
  case hy3 =>
    intro W _
    exact (fun W => by rw [← f2]; kernel_rfl) W
  case rest3 =>
  try simp only [List.getElem_toArray, List.getElem_cons_succ, List.getElem_cons_zero, Act.put, List.setIfInBounds_toArray, List.set_cons_zero, List.set_cons_succ]
  refine' wpAnyH_take (i := 4) (oi := _) (v := .slice (some ⟨G, i1 * 2, none⟩) (n1 - i1) (c2 - i1)) rfl (by kernel_rfl) (by kernel_rfl) (by kernel_rfl) (fun _ _ _ h => h) (Or.inl ⟨by kernel_rfl, ?hy4⟩) (by assumption) ?rest4
  case hy4 =>
    intro W _
    exact (fun W => slopL (x := .tmp 46) (y := .tmp 49) (by kernel_rfl) (by kernel_rfl) (by kernel_rfl) (HS4.out W)) W
  case rest4 =>
  try simp only [List.getElem_toArray, List.getElem_cons_succ, List.getElem_cons_zero, Act.put, List.setIfInBounds_toArray, List.set_cons_zero, List.set_cons_succ]
  refine' wpAnyH_take (i := 5) (oi := _) (v := _) rfl (by kernel_rfl) (by kernel_rfl) (by kernel_rfl) (fun _ _ _ h => h) (Or.inl ⟨by kernel_rfl, ?hy5⟩) (by assumption) ?rest5
  case hy5 =>
    intro w hSw
    try dsimp only at hSw
    go_simp
    try with_reducible rfl
  case rest5 =>
  try simp only [List.getElem_toArray, List.getElem_cons_succ, List.getElem_cons_zero, Act.put, List.setIfInBounds_toArray, List.set_cons_zero, List.set_cons_succ]
  refine' wpAnyH_take (i := 6) (oi := _) (v := _) rfl (by kernel_rfl) (by kernel_rfl) (by kernel_rfl) (fun _ _ _ h => h) (Or.inl ⟨by kernel_rfl, ?hy6⟩) (by assumption) ?rest6
  case hy6 =>
    intro w hSw
    try dsimp only at hSw
    go_simp
    try with_reducible rfl
  case rest6 =>
  try simp only [List.getElem_toArray, List.getElem_cons_succ, List.getElem_cons_zero, Act.put, List.setIfInBounds_toArray, List.set_cons_zero, List.set_cons_succ]
  refine' wpAnyH_take (i := 7) (oi := _) (v := .slice (some ⟨g, i * 2, none⟩) (n - i) (c - i)) rfl (by kernel_rfl) (by kernel_rfl) (by kernel_rfl) (fun _ _ _ h => h) (Or.inl ⟨by kernel_rfl, ?hy7⟩) (by assumption) ?rest7
  case hy7 =>
    intro W _
    exact (fun W => slopL (x := .tmp 51) (y := .tmp 52) (by kernel_rfl) (by kernel_rfl) (by kernel_rfl) (HS1.out W)) W
  case rest7 =>
  try simp only [List.getElem_toArray, List.getElem_cons_succ, List.getElem_cons_zero, Act.put, List.setIfInBounds_toArray, List.set_cons_zero, List.set_cons_succ]
  refine wpAnyH_ready (rs := [8]) (by kernel_rfl) (by simp) ?_
  refine AllReadyH.cons rfl (fun K hK => ?_) AllReadyH.nil
  rw [if_pos (by kernel_rfl)]
  refine wpK TL TL (.tmp 50) (.tmp 53) (by kernel_rfl) (.slice (some ⟨G, i1 * 2, none⟩) (n1 - i1) (c2 - i1)) (.slice (some ⟨g, i * 2, none⟩) (n - i) (c - i)) (by kernel_rfl) (by kernel_rfl) _ _ (HC2.out _ _ _) ?_
  refine hK.out _ _ trivial (fun hHeld => ?_)
  clear hK K
  try simp only [Act.put]
  refine wpAnyH_done (by kernel_rfl) ?_ _
  refine NoPanic.normal ?_
  clear hHeld HRZ HC1 HC2 HS1 HS2 HS3 HS4
  generalize World.setCells w2.drew _ _ _ = w3 at *
  go_wp2_with fail
  go_ret
  exact HP.out

set_option maxRecDepth 10000 in
set_option maxHeartbeats 4000000 in
theorem insert_room (w : World) (g n c i V : Nat) (vs : List Vt) (cur : List Value) (x : Vt) (h : Rw w g n c vs cur) (hok : ∀ y ∈ vs, y.ok) (hx : At w V TV x.cells) (hxo : x.ok) (hVg : V ≠ g) (hi : i < n) (hc : n + 1 ≤ c) (hn : n ≤ 1000) :
    Calls Try.prog 169 #[.slice (some ⟨g, 0, none⟩) n c, .int .i64 (i : Int), .slice (some ⟨V, 0, none⟩) 1 1] w (InsP w (.slice (some ⟨g, 0, none⟩) n c) (ins vs i x)) := by
  have hvl := h.ln
  have hcl := h.len
  have hcm := h.cm
  have hBl : (cellsL (vs.drop i)).length = (n - i) * 2 := by rw [cellsL_len, List.length_drop, hvl]
  have hAl : (cellsL (vs.take i)).length = i * 2 := by rw [cellsL_len, List.length_take, Nat.min_eq_left (by omega)]
  have hcur : cur = cellsL (vs.take i) ++ (cellsL (vs.drop i) ++ cur.drop (n * 2)) := by
    have e : cellsL vs = cellsL (vs.take i) ++ cellsL (vs.drop i) := by rw [← cellsL_app, List.take_append_drop]
    rw [← List.append_assoc, ← e, ← h.pre, List.take_append_drop]
  have hsh := shift_list (n := n) (i := i) hcur hAl hBl (show x.cells.length = 2 from rfl) (by rw [List.length_drop, hcl]; omega) (by omega)
  have hov : ∀ (lb cb : Nat), (callFunc 208 #[.slice (some ⟨V, 0, none⟩) 1 1, .slice (some ⟨g, (i + 1) * 2, none⟩) lb cb]).run Try.prog w = .ok (.value (.bool false)) w := fun lb cb => by
    have hsv : w.shape? V = some (TV, 2) := by
      have := show w.heap[V]? = some (.cells x.cells.toArray TV (0, 0)) from hx
      simp [World.shape?, this, Vt.cells]
    have hsg : w.shape? g = some (TV, c * 2) := by simp [World.shape?, h.at', hcl]
    rw [run_callFunc_extern Try.func208 (by kernel_rfl) (by kernel_rfl) (by kernel_rfl) (e := Extern.SlicesOverlaps.overlaps #[TL, TL] #[4]) (by kernel_rfl),
      Lib.run_overlaps_apart w TL 4 (Try.prog.elem TL) uTL 2 sTL ⟨V, 0, none⟩ ⟨g, (i + 1) * 2, none⟩ 1 1 lb cb hVg TV TV 2 (c * 2) hsv hsg (by omega) (hx.frozen 0) (hx.frozen 2)]
    rfl
  have hcp1 : ∀ ty dc sc, (Builtin.copy_ #[TL, TL] ty #[.slice (some ⟨g, (i + 1) * 2, none⟩) (n + 1 - (i + 1)) dc, .slice (some ⟨g, i * 2, none⟩) (n + 1 - i) sc]).run Try.prog w.drew = .ok (goInt (n - i : Nat)) (w.drew.setCells g ((i + 1) * 2) (cellsL (vs.drop i))) := fun ty dc sc =>
    run_copy_k w.drew TL TL ty _ 2 (n - i) g ((i + 1) * 2) (n + 1 - (i + 1)) dc ⟨g, i * 2, none⟩ (n + 1 - i) sc (cellsL (vs.drop i)) uTL sTV (by show min _ _ = _; omega) hBl
      (fun j v hj => by
        rw [Addr.add_lit]
        show w.cell? _ = _
        rw [cell_row h.at', ← hj, ← cells_drop vs i (by omega), ← h.pre, List.getElem?_drop, List.getElem?_take]
        have hjl := (List.getElem?_eq_some_iff.1 hj).1
        rw [hBl] at hjl
        rw [if_pos (by omega)])
      (fun j hj => by
        show (w.cell? _).isSome = true
        rw [cell_row h.at', List.getElem?_eq_getElem (by rw [hcl]; rw [hBl] at hj; omega)]
        rfl)
      (fun j _ => froz_row h.at' _) (fun v hv => one_cells _ v hv)
  have a2 := heap_setCells_one g TV (cellsL (vs.drop i)) ((i + 1) * 2) cur w.drew h.at' (by rw [hcl, hBl]; omega)
  have hF2 : Fr (fun k => (Value.slice (some ⟨g, 0, none⟩) n c).ownBlock = some k) w (w.drew.setCells g ((i + 1) * 2) (cellsL (vs.drop i))) := (fr_setCells g (cellsL (vs.drop i)) ((i + 1) * 2) w w.drew (Fr.refl _ _).drew).mono (fun k _ hk => by subst hk; rfl)
  have hx2 : At (w.drew.setCells g ((i + 1) * 2) (cellsL (vs.drop i))) V TV x.cells := At.fr hx (fr_setCells g (cellsL (vs.drop i)) ((i + 1) * 2) w w.drew (Fr.refl _ _).drew) hVg
  generalize w.drew.setCells g ((i + 1) * 2) (cellsL (vs.drop i)) = w2 at hcp1 a2 hF2 hx2
  obtain ⟨L1, hL1⟩ : ∃ L1, cur.take ((i + 1) * 2) ++ (cellsL (vs.drop i) ++ cur.drop ((i + 1) * 2 + (cellsL (vs.drop i)).length)) = L1 := ⟨_, rfl⟩
  rw [hL1] at a2
  have hL1l : L1.length = c * 2 := by rw [← hL1]; simp only [List.length_append, List.length_take, List.length_drop, hcl, hBl]; omega
  have hcp2 : ∀ ty dc, (Builtin.copy_ #[TL, TL] ty #[.slice (some ⟨g, i * 2, none⟩) (n + 1 - i) dc, .slice (some ⟨V, 0, none⟩) 1 1]).run Try.prog w2 = .ok (goInt 1) (w2.setCells g (i * 2) x.cells) := fun ty dc =>
    run_copy_k w2 TL TL ty _ 2 1 g (i * 2) (n + 1 - i) dc ⟨V, 0, none⟩ 1 1 x.cells uTL sTV (by show min _ _ = 1; omega) rfl
      (fun j v hj => by rw [Addr.add_lit, Nat.zero_add, hx2.cell]; exact hj)
      (fun j hj => by rw [cell_row a2, List.getElem?_eq_getElem (by rw [hL1l]; simp [Vt.cells] at hj; omega)]; rfl) (fun j _ => froz_row a2 _) (oneV x)
  have a3 := heap_setCells_one g TV x.cells (i * 2) L1 w2 a2 (by rw [hL1l]; show i * 2 + 2 ≤ _; omega)
  have hL2 : L1.take (i * 2) ++ (x.cells ++ L1.drop (i * 2 + x.cells.length)) = cellsL (vs.take i) ++ (x.cells ++ (cellsL (vs.drop i) ++ (cur.drop (n * 2)).drop 2)) := by rw [← hL1]; exact hsh
  rw [hL2] at a3
  have HP := WirS.hide (show InsP w (.slice (some ⟨g, 0, none⟩) n c) (ins vs i x) (.returned (.slice (some ⟨g, 0, none⟩) (n + 1) c)) (w2.setCells g (i * 2) x.cells) from
    ⟨_, _, _, rfl, Rw.own ⟨a3, (by simp only [List.length_append, List.length_drop, hcl, hBl, hAl, show x.cells.length = 2 from rfl]; omega), hc, hcm, by rw [ins_len _ _ _ (by omega), hvl], by
      rw [cells_ins, ← List.append_assoc x.cells, ← List.append_assoc]
      exact List.take_left' (by simp only [List.length_append, hBl, hAl, show x.cells.length = 2 from rfl]; omega)⟩ (fun y hy => by rcases mem_ins.1 hy with rfl | hy; exact hxo; exact hok y hy), hF2.trans' (fr_setCells g x.cells (i * 2) w2 w2 (Fr.refl _ _)) (fun k _ hk => by subst hk; rfl), NewOr.refl w _⟩)
  obtain ⟨n1, hn1⟩ : ∃ m, n + 1 = m := ⟨_, rfl⟩
  obtain ⟨i1, hi1⟩ : ∃ m, i + 1 = m := ⟨_, rfl⟩
  have f1 : IntKind.i64.wrap ((n : Int) + 1) = (n1 : Int) := by rw [IntWalk.i64_in _ (by omega)]; omega
  have f2 : IntKind.i64.wrap ((i : Int) + 1) = (i1 : Int) := by rw [IntWalk.i64_in _ (by omega)]; omega
  have e1 : ((i : Int) == (n : Int)) = false := by simp; omega
  have e2 : ¬ (c : Int) < (n1 : Int) := by omega
  have HS1 := WirS.hide (fun Y => slA g n c i (by omega) (by omega) Y)
  have HS2 := WirS.hide (fun Y => slB g n c n1 (by omega) Y)
  have HS3 := WirS.hide (fun Y => slA g n1 c i (by omega) (by omega) Y)
  have HS4 := WirS.hide (fun Y => slA g n1 c i1 (by omega) (by omega) Y)
  rw [hn1] at hcp1 hcp2 HP
  rw [hi1] at hcp1 hov
  have HC1 := WirS.hide hcp1
  have HC2 := WirS.hide hcp2
  have HOV := WirS.hide hov
  clear h hok hx hxo hi hc hvl hcl hcm hBl hAl hcur hsh hov hcp1 a2 hF2 hx2 hL1 hL1l hcp2 a3 hL2 hn1 hi1 hVg
  generalize cellsL (vs.drop i) = Bs at *
  generalize x.cells = xs at *
  go_enter Try.func169, Try.ntmps169
  go_upto_region 1 with fail
  refine wp_region_lit ?_
  refine sV (.slice (some ⟨g, 0, none⟩) n c) (w) (by kernel_rfl) (by kernel_rfl) ?_
  simp only [Act.put, List.setIfInBounds_toArray, List.set_cons_succ, List.set_cons_zero]
  refine sV (.int .i64 (i : Int)) (w) (by kernel_rfl) (by kernel_rfl) ?_
  simp only [Act.put, List.setIfInBounds_toArray, List.set_cons_succ, List.set_cons_zero]
  refine sV _ w (by kernel_rfl) (slopL (x := .tmp 10) (y := .tmp 11) (by kernel_rfl) (by kernel_rfl) (by kernel_rfl) (HS1.out w)) ?_
  simp only [Act.put, List.setIfInBounds_toArray, List.set_cons_succ, List.set_cons_zero]
  go_upto_region 13 with fail
  refine wp_region_lit ?_
  refine sV (.slice (some ⟨g, 0, none⟩) n c) (w) (by kernel_rfl) (by kernel_rfl) ?_
  simp only [Act.put, List.setIfInBounds_toArray, List.set_cons_succ, List.set_cons_zero]
  refine sV (.int .i64 (n : Int)) (w) (by kernel_rfl) (by kernel_rfl) ?_
  simp only [Act.put, List.setIfInBounds_toArray, List.set_cons_succ, List.set_cons_zero]
  refine sV (.int .i64 1) (w) (by kernel_rfl) (by kernel_rfl) ?_
  simp only [Act.put, List.setIfInBounds_toArray, List.set_cons_succ, List.set_cons_zero]
  refine sV (.int .i64 (n1 : Int)) w (by kernel_rfl) (by rw [← f1]; kernel_rfl) ?_
  simp only [Act.put, List.setIfInBounds_toArray, List.set_cons_succ, List.set_cons_zero]
  refine sV _ w (by kernel_rfl) (slopH (x := .tmp 56) (y := .tmp 59) (by kernel_rfl) (by kernel_rfl) (by kernel_rfl) (HS2.out w)) ?_
  simp only [Act.put, List.setIfInBounds_toArray, List.set_cons_succ, List.set_cons_zero]
  go_upto_region 14 with fail
  refine wp_region_lit ?_
  refine sV (.slice (some ⟨V, 0, none⟩) 1 1) (w) (by kernel_rfl) (by kernel_rfl) ?_
  simp only [Act.put, List.setIfInBounds_toArray, List.set_cons_succ, List.set_cons_zero]
  refine sV (.slice (some ⟨g, 0, none⟩) n1 c) (w) (by kernel_rfl) (by kernel_rfl) ?_
  simp only [Act.put, List.setIfInBounds_toArray, List.set_cons_succ, List.set_cons_zero]
  refine sV (.int .i64 (i : Int)) (w) (by kernel_rfl) (by kernel_rfl) ?_
  simp only [Act.put, List.setIfInBounds_toArray, List.set_cons_succ, List.set_cons_zero]
  refine sV (.int .i64 1) (w) (by kernel_rfl) (by kernel_rfl) ?_
  simp only [Act.put, List.setIfInBounds_toArray, List.set_cons_succ, List.set_cons_zero]
  refine sV (.int .i64 (i1 : Int)) w (by kernel_rfl) (by rw [← f2]; kernel_rfl) ?_
  simp only [Act.put, List.setIfInBounds_toArray, List.set_cons_succ, List.set_cons_zero]
  refine sV _ w (by kernel_rfl) (slopL (x := .tmp 62) (y := .tmp 65) (by kernel_rfl) (by kernel_rfl) (by kernel_rfl) (HS4.out w)) ?_
  simp only [Act.put, List.setIfInBounds_toArray, List.set_cons_succ, List.set_cons_zero]
  go_upto_region 15 with (simp only [HOV.out])
  refine wp_region_noPanic ?_
  refine wp_region_held_drew (S := fun _ => True) (by kernel_rfl) trivial (fun hHeld => ?_)
  refine' wpAnyH_take (i := 0) (oi := _) (v := _) rfl (by kernel_rfl) (by kernel_rfl) (by kernel_rfl) (fun _ _ _ h => h) (Or.inl ⟨by kernel_rfl, ?hy0⟩) (by assumption) ?rest0
  case hy0 =>
    intro w hSw
    try dsimp only at hSw
    go_simp
    try with_reducible rfl
  case rest0 =>
  try simp only [List.getElem_toArray, List.getElem_cons_zero, Act.put, List.setIfInBounds_toArray, List.set_cons_zero, List.set_cons_succ]
  refine' wpAnyH_take (i := 1) (oi := _) (v := _) rfl (by kernel_rfl) (by kernel_rfl) (by kernel_rfl) (fun _ _ _ h => h) (Or.inl ⟨by kernel_rfl, ?hy1⟩) (by assumption) ?rest1
  case hy1 =>
    intro w hSw
    try dsimp only at hSw
    go_simp
    try with_reducible rfl
  case rest1 =>
  try simp only [List.getElem_toArray, List.getElem_cons_succ, List.getElem_cons_zero, Act.put, List.setIfInBounds_toArray, List.set_cons_zero, List.set_cons_succ]
  refine' wpAnyH_take (i := 2) (oi := _) (v := _) rfl (by kernel_rfl) (by kernel_rfl) (by kernel_rfl) (fun _ _ _ h => h) (Or.inl ⟨by kernel_rfl, ?hy2⟩) (by assumption) ?rest2
  case hy2 =>
    intro w hSw
    try dsimp only at hSw
    go_simp
    try with_reducible rfl
  case rest2 =>
  try simp only [List.getElem_toArray, List.getElem_cons_succ, List.getElem_cons_zero, Act.put, List.setIfInBounds_toArray, List.set_cons_zero, List.set_cons_succ]
  refine' wpAnyH_take (i := 3) (oi := _) (v := .int .i64 (i1 : Int)) rfl (by kernel_rfl) (by kernel_rfl) (by kernel_rfl) (fun _ _ _ h => h) (Or.inl ⟨by kernel_rfl, ?hy3⟩) (by assumption) ?rest3
  case hy3 =>
    intro W _
    exact (fun W => by rw [← f2]; kernel_rfl) W
  case rest3 =>
  try simp only [List.getElem_toArray, List.getElem_cons_succ, List.getElem_cons_zero, Act.put, List.setIfInBounds_toArray, List.set_cons_zero, List.set_cons_succ]
  refine' wpAnyH_take (i := 4) (oi := _) (v := .slice (some ⟨g, i1 * 2, none⟩) (n1 - i1) (c - i1)) rfl (by kernel_rfl) (by kernel_rfl) (by kernel_rfl) (fun _ _ _ h => h) (Or.inl ⟨by kernel_rfl, ?hy4⟩) (by assumption) ?rest4
  case hy4 =>
    intro W _
    exact (fun W => slopL (x := .tmp 69) (y := .tmp 72) (by kernel_rfl) (by kernel_rfl) (by kernel_rfl) (HS4.out W)) W
  case rest4 =>
  try simp only [List.getElem_toArray, List.getElem_cons_succ, List.getElem_cons_zero, Act.put, List.setIfInBounds_toArray, List.set_cons_zero, List.set_cons_succ]
  refine' wpAnyH_take (i := 5) (oi := _) (v := _) rfl (by kernel_rfl) (by kernel_rfl) (by kernel_rfl) (fun _ _ _ h => h) (Or.inl ⟨by kernel_rfl, ?hy5⟩) (by assumption) ?rest5
  case hy5 =>
    intro w hSw
    try dsimp only at hSw
    go_simp
    try with_reducible rfl
  case rest5 =>
  try simp only [List.getElem_toArray, List.getElem_cons_succ, List.getElem_cons_zero, Act.put, List.setIfInBounds_toArray, List.set_cons_zero, List.set_cons_succ]
  refine' wpAnyH_take (i := 6) (oi := _) (v := _) rfl (by kernel_rfl) (by kernel_rfl) (by kernel_rfl) (fun _ _ _ h => h) (Or.inl ⟨by kernel_rfl, ?hy6⟩) (by assumption) ?rest6
  case hy6 =>
    intro w hSw
    try dsimp only at hSw
    go_simp
    try with_reducible rfl
  case rest6 =>
  try simp only [List.getElem_toArray, List.getElem_cons_succ, List.getElem_cons_zero, Act.put, List.setIfInBounds_toArray, List.set_cons_zero, List.set_cons_succ]
  refine' wpAnyH_take (i := 7) (oi := _) (v := .slice (some ⟨g, i * 2, none⟩) (n1 - i) (c - i)) rfl (by kernel_rfl) (by kernel_rfl) (by kernel_rfl) (fun _ _ _ h => h) (Or.inl ⟨by kernel_rfl, ?hy7⟩) (by assumption) ?rest7
  case hy7 =>
    intro W _
    exact (fun W => slopL (x := .tmp 74) (y := .tmp 75) (by kernel_rfl) (by kernel_rfl) (by kernel_rfl) (HS3.out W)) W
  case rest7 =>
  try simp only [List.getElem_toArray, List.getElem_cons_succ, List.getElem_cons_zero, Act.put, List.setIfInBounds_toArray, List.set_cons_zero, List.set_cons_succ]
  refine wpAnyH_ready (rs := [8]) (by kernel_rfl) (by simp) ?_
  refine AllReadyH.cons rfl (fun K hK => ?_) AllReadyH.nil
  rw [if_pos (by kernel_rfl)]
  refine wpK TL TL (.tmp 73) (.tmp 76) (by kernel_rfl) (.slice (some ⟨g, i1 * 2, none⟩) (n1 - i1) (c - i1)) (.slice (some ⟨g, i * 2, none⟩) (n1 - i) (c - i)) (by kernel_rfl) (by kernel_rfl) _ _ (HC1.out _ _ _) ?_
  refine hK.out _ _ trivial (fun hHeld => ?_)
  clear hK K
  try simp only [Act.put]
  refine wpAnyH_done (by kernel_rfl) ?_ _
  refine NoPanic.normal ?_
  clear hHeld
  go_upto_region 16 with fail
  refine wp_region_lit ?_
  refine sV (.slice (some ⟨g, 0, none⟩) n1 c) (w2) (by kernel_rfl) (by kernel_rfl) ?_
  simp only [Act.put, List.setIfInBounds_toArray]
  refine sV (.int .i64 (i : Int)) (w2) (by kernel_rfl) (by kernel_rfl) ?_
  simp only [Act.put]
  refine sV _ w2 (by kernel_rfl) (slopL (x := .tmp 78) (y := .tmp 79) (by kernel_rfl) (by kernel_rfl) (by kernel_rfl) (HS3.out w2)) ?_
  simp only [Act.put]
  refine sV (.slice (some ⟨V, 0, none⟩) 1 1) (w2) (by kernel_rfl) (by kernel_rfl) ?_
  simp only [Act.put]
  refine stepW (by kernel_rfl) (fun K hK => wpK TL TL (.tmp 80) (.tmp 81) (by kernel_rfl) (.slice (some ⟨g, i * 2, none⟩) (n1 - i) (c - i)) (.slice (some ⟨V, 0, none⟩) 1 1) (by kernel_rfl) (by kernel_rfl) _ _ (HC2.out _ _) (hK _ _ ?_))
  simp only [Act.put]
  clear HC1 HC2 HS1 HS2 HS3 HS4 HOV
  generalize World.setCells w2 _ _ _ = w3 at *
  go_wp2_with fail
  go_ret
  exact HP.out
theorem insert_any (w : World) (a : Option Addr) (n c i V : Nat) (vs : List Vt) (x : Vt) (h : OwnT w (.slice a n c) vs) (hx : At w V TV x.cells) (hxo : x.ok) (hV : (Value.slice a n c).ownBlock ≠ some V) (hi : i ≤ n) (hn : n ≤ 1000) :
    Calls Try.prog 169 #[.slice a n c, .int .i64 (i : Int), .slice (some ⟨V, 0, none⟩) 1 1] w (InsP w (.slice a n c) (ins vs i x)) := by
  have hl : vs.length = n := by obtain ⟨va, vc, e⟩ := h.len_of; cases e; rfl
  by_cases e : i = n
  · subst e
    exact insert_end w a i c V vs x h hx hxo hn
  · obtain ⟨g, cur, rfl, hr⟩ := OwnT.rw' h (by omega)
    by_cases hc : c < n + 1
    · exact insert_grow w g n c i V vs cur x hr h.ok hx hxo (by omega) hc hn
    · exact insert_room w g n c i V vs cur x hr h.ok hx hxo (fun e => hV (by rw [e]; rfl)) (by omega) (by omega) hn
end CmI
end Go.Proofs.Ytplinpbmncccoaa
