/-
  The document's block.
-/
import Derived.Test.YtpambhlhkmkagaaGreatDoorPvG
import Derived.Test.YtpambhlhkmkagaaGreatDoorPvH
import Derived.Deep.RegionHeld3
namespace Go.Proofs.YtpambhlhkmkagaaGreatDoor
namespace BlkSd
open Go.RowKit
open BlkM WirM WirS BlkB BlkSa BlkSp BlkSq
open WirX (Thg Bag)
open WirAA (box bag_box bag_set)

def mpart (b : List Int) (k : Nat) : List Int := (List.range 16).map fun i => if i < k then wordOf b i else 0
theorem mpart_len (b : List Int) (k : Nat) : (mpart b k).length = 16 := by simp [mpart]
theorem mpart_set (b : List Int) (k : Nat) (_h : k < 16) : (mpart b k).set k (wordOf b k) = mpart b (k + 1) := by
  apply List.ext_getElem
  · simp [mpart]
  · intro i h1 h2
    rw [List.getElem_set]
    simp only [mpart, List.getElem_map, List.getElem_range]
    by_cases e : k = i
    · subst e
      rw [if_pos rfl, if_pos (by omega)]
    · rw [if_neg e]
      by_cases e2 : i < k
      · rw [if_pos e2, if_pos (by omega)]
      · rw [if_neg e2, if_neg (by omega)]
theorem mpart_all (b : List Int) : mpart b 16 = wordsL b := by
  simp only [mpart, wordsL]
  exact List.map_congr_left (fun i hi => by rw [if_pos (List.mem_range.1 hi)])
theorem ixB (B o c j : Nat) (hj : j < 64) (W : World) : (Instr.indexAt 35 (.slice (some ⟨B, o, none⟩) 64 c) (.int .i64 (j : Int))).run Tryz.prog W = .ok (.pointer (some ⟨B, o + j, none⟩)) W := by
  have hs : (sizeOf (Tryz.prog.elem 35)).run Tryz.prog W = .ok 1 W := by kernel_rfl
  simp [Instr.indexAt, run_underlying Tryz.underlying35, asIntOf, go_sem]
  intro h
  omega
theorem opB (a : Operand → Value) (ob : Oper) (x y : Operand) (B o c j : Nat) (jj : Int) (ho : ob.op = Op.indexAddr 35 x y) (hx : a x = .slice (some ⟨B, o, none⟩) 64 c) (hy : a y = .int .i64 jj) (hjj : jj = (j : Int)) (hj : j < 64) (W : World) :
    (execOp a ob).run Tryz.prog W = .ok (.value (.pointer (some ⟨B, o + j, none⟩))) W := by
  subst hjj
  unfold execOp
  rw [ho]
  simp only [hx, hy]
  simp only [Sem.run_bind, ixB B o c j hj W, Result.andThen_ok, Sem.run_pure]
theorem store_u32 {o : Oper} {a : Act} {w : World} {K : Act → World → Prop} {Q : Exit → Act → World → Prop} {x y : Operand} (ho : o.op = .store 97 x y) (M k : Nat) (n : Int) (c0 : Option Value) (hx : a.eval x = .pointer (some ⟨M, k, none⟩)) (hy : a.eval y = .int .u32 n)
    (hc : w.cell? ⟨M, k, none⟩ = c0) (hs : c0.isSome = true) (hf : w.frozen? ⟨M, k, none⟩ = false) (h : K (a.put o.dst undef) (w.setCell ⟨M, k, none⟩ (.int .u32 n))) : o.wp Tryz.prog a w K Q := by
  obtain ⟨c1, rfl⟩ := Option.isSome_iff_exists.1 hs
  unfold Oper.wp execOp
  simp only [ho, hx, hy, Instr.storeAt, Instr.sureAddr, Sem.run_bind, Sem.run_pure, Result.andThen_ok]
  have hst : (storeVar 97 ⟨M, k, none⟩ (.int .u32 n)).run Tryz.prog w = .ok () (w.setCell ⟨M, k, none⟩ (.int .u32 n)) := by
    have e := run_storeCells_cells (P := Tryz.prog) M k [.int .u32 n] 0 w (fun j hj => by obtain rfl : j = 0 := (by simp at hj; omega); simp [hc]) (fun j hj => by obtain rfl : j = 0 := (by simp at hj; omega); simpa using hf) (fun v hv => by simp at hv; subst hv; rfl)
    have hq : (sizeOf 97).run Tryz.prog w = .ok 1 w := by kernel_rfl
    simp [storeVar, hq, Value.cells, World.setCells, hc, hf, go_sem] at e ⊢
  rw [hst]
  exact h
theorem ixM (M k : Nat) (h : k < 16) (W : World) : (Instr.indexAt 131 (.pointer (some ⟨M, 0, none⟩)) (.int .i64 (k : Int))).run Tryz.prog W = .ok (.pointer (some ⟨M, k, none⟩)) W := by
  obtain rfl | rfl | rfl | rfl | rfl | rfl | rfl | rfl | rfl | rfl | rfl | rfl | rfl | rfl | rfl | rfl : k = 0 ∨ k = 1 ∨ k = 2 ∨ k = 3 ∨ k = 4 ∨ k = 5 ∨ k = 6 ∨ k = 7 ∨ k = 8 ∨ k = 9 ∨ k = 10 ∨ k = 11 ∨ k = 12 ∨ k = 13 ∨ k = 14 ∨ k = 15 := by omega
  all_goals kernel_rfl
theorem opM (a : Operand → Value) (ob : Oper) (x y : Operand) (M k : Nat) (ho : ob.op = Op.indexAddr 131 x y) (hx : a x = .pointer (some ⟨M, 0, none⟩)) (hy : a y = .int .i64 (k : Int)) (h : k < 16) (W : World) :
    (execOp a ob).run Tryz.prog W = .ok (.value (.pointer (some ⟨M, k, none⟩))) W := by
  unfold execOp
  rw [ho]
  simp only [hx, hy]
  simp only [Sem.run_bind, ixM M k h W, Result.andThen_ok, Sem.run_pure]
abbrev TS : TypeId := 132
theorem ixH (H k : Nat) (h : k < 8) (W : World) : (Instr.indexAt 98 (.pointer (some ⟨H, 0, none⟩)) (.int .i64 (k : Int))).run Tryz.prog W = .ok (.pointer (some ⟨H, k, none⟩)) W := by
  obtain rfl | rfl | rfl | rfl | rfl | rfl | rfl | rfl : k = 0 ∨ k = 1 ∨ k = 2 ∨ k = 3 ∨ k = 4 ∨ k = 5 ∨ k = 6 ∨ k = 7 := by omega
  all_goals kernel_rfl
theorem opH (a : Operand → Value) (ob : Oper) (x y : Operand) (H k : Nat) (ho : ob.op = Op.indexAddr 98 x y) (hx : a x = .pointer (some ⟨H, 0, none⟩)) (hy : a y = .int .i64 (k : Int)) (h : k < 8) (W : World) :
    (execOp a ob).run Tryz.prog W = .ok (.value (.pointer (some ⟨H, k, none⟩))) W := by
  unfold execOp
  rw [ho]
  simp only [hx, hy]
  simp only [Sem.run_bind, ixH H k h W, Result.andThen_ok, Sem.run_pure]
theorem ixS (M k : Nat) (h : k < 16) (W : World) : (Instr.indexAt 132 (.pointer (some ⟨M, 0, none⟩)) (.int .i64 (k : Int))).run Tryz.prog W = .ok (.pointer (some ⟨M, k, none⟩)) W := by
  obtain rfl | rfl | rfl | rfl | rfl | rfl | rfl | rfl | rfl | rfl | rfl | rfl | rfl | rfl | rfl | rfl : k = 0 ∨ k = 1 ∨ k = 2 ∨ k = 3 ∨ k = 4 ∨ k = 5 ∨ k = 6 ∨ k = 7 ∨ k = 8 ∨ k = 9 ∨ k = 10 ∨ k = 11 ∨ k = 12 ∨ k = 13 ∨ k = 14 ∨ k = 15 := by omega
  all_goals kernel_rfl
theorem opS (a : Operand → Value) (ob : Oper) (x y : Operand) (M k : Nat) (ho : ob.op = Op.indexAddr 132 x y) (hx : a x = .pointer (some ⟨M, 0, none⟩)) (hy : a y = .int .i64 (k : Int)) (h : k < 16) (W : World) :
    (execOp a ob).run Tryz.prog W = .ok (.value (.pointer (some ⟨M, k, none⟩))) W := by
  unfold execOp
  rw [ho]
  simp only [hx, hy]
  simp only [Sem.run_bind, ixS M k h W, Result.andThen_ok, Sem.run_pure]
theorem opI (a : Operand → Value) (ob : Oper) (x y : Operand) (k : Nat) (ho : ob.op = Op.index 98 x y) (hx : a x = .agg (w32 ini).toArray) (hy : a y = .int .i64 (k : Int)) (h : k < 8) (W : World) :
    (execOp a ob).run Tryz.prog W = .ok (.value (.int .u32 (ini.getD k 0))) W := by
  unfold execOp
  rw [ho]
  simp only [hx, hy]
  obtain rfl | rfl | rfl | rfl | rfl | rfl | rfl | rfl : k = 0 ∨ k = 1 ∨ k = 2 ∨ k = 3 ∨ k = 4 ∨ k = 5 ∨ k = 6 ∨ k = 7 := by omega
  all_goals kernel_rfl
theorem app_get (h : List Int) (hh : h.length = 8) (i : Nat) : (h ++ ini).getD (8 + i) 0 = ini.getD i 0 := by simp [List.getD, List.getElem?_append_right, hh]
theorem app_len (h : List Int) (hh : h.length = 8) : (h ++ ini).length = 16 := by simp [hh, ini]
theorem st_get (l : List Int) (i j : Nat) (x : Int) (hi : i ≠ j) (hj : j < l.length) : ((w32 l).set i (.int .u32 x))[j]? = some (.int .u32 (l.getD j 0)) := by
  rw [List.getElem?_set_ne hi, w32_get _ j hj]
theorem tab_lt (r : Nat) (hr : r < 10) (i : Nat) (hi : i < 16) : (table.getD r []).getD i 0 < 16 := by
  have : ∀ r, r < 10 → ∀ i, i < 16 → (table.getD r []).getD i 0 < 16 := by decide
  exact this r hr i hi
theorem tab_len (r : Nat) (hr : r < 10) : (table.getD r []).length = 16 := by
  have : ∀ r, r < 10 → (table.getD r []).length = 16 := by decide
  exact this r hr
theorem sched_get (m : List Int) (r : Nat) (hr : r < 10) (i : Nat) (hi : i < 16) : (sched m r).getD i 0 = m.getD ((table.getD r []).getD i 0) 0 := by
  have hl := tab_len r hr
  unfold sched
  generalize table.getD r [] = l at *
  simp [List.getD, List.getElem?_map, List.getElem?_eq_getElem (show i < l.length by omega)]
theorem i16_get (l : List Nat) (i : Nat) (h : i < l.length) : (i16 l)[i]? = some (.int .i64 ((l.getD i 0 : Nat) : Int)) := by
  simp [i16, List.getElem?_map, List.getElem?_eq_getElem h, List.getD]
/-- The last mixing, as 'part' says it. -/
theorem part_first (v s : List Int) (k : Nat) (hk : k < 4) : BlkM.part v s (k + 1) = mixL (BlkM.part v s k) k (k + 4) (k + 8) (k + 12) (s.getD (2 * k) 0) (s.getD (2 * k + 1) 0) := by
  obtain rfl | rfl | rfl | rfl : k = 0 ∨ k = 1 ∨ k = 2 ∨ k = 3 := by omega
  all_goals rfl
theorem part_second (v s : List Int) (k : Nat) (hk : k < 4) : BlkM.part v s (4 + (k + 1)) = mixL (BlkM.part v s (4 + k)) k (4 + (k + 1) % 4) (8 + (k + 2) % 4) (12 + (k + 3) % 4) (s.getD (8 + 2 * k) 0) (s.getD (9 + 2 * k) 0) := by
  obtain rfl | rfl | rfl | rfl : k = 0 ∨ k = 1 ∨ k = 2 ∨ k = 3 := by omega
  all_goals rfl
/-- A call as a step of a drawn region. -/
theorem stepCallH {P : Program} {o : Oper} {a : Act} {w : World} {K : Act → World → Prop} {Q : Exit → Act → World → Prop} {f : FuncId} {args : Array Value} {v : Value} {R : World → Prop} (hrun : (execOp a.eval o).run P w = .ok (.enter f args) w)
    (hc : Calls P f args w fun e w' => e = .returned v ∧ R w') (h : ∀ w', R w' → K (a.put o.dst v) w') : o.wp P a w K Q := by
  unfold Oper.wp
  rw [hrun, Oper.upon_enter]
  exact hc.mono (by rintro e w' ⟨rfl, hr⟩; exact h w' hr)
theorem bag_row {w0 w : World} {l : List Thg} {T : TypeId} {X : Nat} {cs : List Value} (h : Bag w0 w (box T X cs :: l)) (c : List Value) : Bag w0 (w.setRow X c.toArray) (box T X c :: l) :=
  h.act (WirO.Fr.setRow (Fr.refl _ _) X _ (fun _ => rfl)) (h.head.put c) (fun _ hk => .inl hk)
theorem wp_load_cell {P : Program} {o : Oper} {a : Act} {w : World} {K : Act → World → Prop} {Q : Exit → Act → World → Prop} (ty : TypeId) (x : Operand) (ho : o.op = .load ty x) (ad : Addr) (v : Value) (hx : a.eval x = .pointer (some ad)) (hc : w.cell? ad = some v) (hag : (isAgg ty).run P w = .ok false w)
    (h : K (a.put o.dst v) w) : o.wp P a w K Q := by
  have hrun : (execOp a.eval o).run P w = .ok (.value v) w := by
    unfold execOp
    simp only [ho, hx, Instr.loadAt, Instr.sureAddr, loadVar, Sem.run_bind, Sem.run_pure, hag, Bool.false_eq_true, if_false, run_load, hc, Result.andThen]
  unfold Oper.wp
  rw [hrun]
  exact h
/-- The last of four goes ahead. -/
theorem bag_4 {w0 w : World} {a b c d : Thg} (h : Bag w0 w [a, b, c, d]) : Bag w0 w [d, a, b, c] :=
  h.perm (List.perm_append_comm (l₁ := [a, b, c]) (l₂ := [d]))
theorem places2 (k : Nat) (hk : k < 4) : ∃ b1 b2 c1 c2 d1 d2 bb cc dd j0 j j2 : Nat, IntKind.i64.wrap ((k : Int) + 1) = (b1 : Int) ∧ (b1 : Int) % 4 = (b2 : Int) ∧ (b1 : Int).tmod 4 = (b2 : Int) ∧ IntKind.i64.wrap (b2 : Int) = (b2 : Int) ∧ IntKind.i64.wrap (4 + (b2 : Int)) = (bb : Int) ∧ IntKind.i64.wrap ((k : Int) + 2) = (c1 : Int) ∧ (c1 : Int) % 4 = (c2 : Int) ∧ (c1 : Int).tmod 4 = (c2 : Int) ∧ IntKind.i64.wrap (c2 : Int) = (c2 : Int) ∧ IntKind.i64.wrap (8 + (c2 : Int)) = (cc : Int) ∧ IntKind.i64.wrap ((k : Int) + 3) = (d1 : Int) ∧ (d1 : Int) % 4 = (d2 : Int) ∧ (d1 : Int).tmod 4 = (d2 : Int) ∧ IntKind.i64.wrap (d2 : Int) = (d2 : Int) ∧ IntKind.i64.wrap (12 + (d2 : Int)) = (dd : Int) ∧ IntKind.i64.wrap (2 * (k : Int)) = (j0 : Int) ∧ IntKind.i64.wrap (8 + (j0 : Int)) = (j : Int) ∧ IntKind.i64.wrap (9 + (j0 : Int)) = (j2 : Int) ∧ j < 16 ∧ j2 < 16 ∧ (k ≠ bb ∧ k ≠ cc ∧ k ≠ dd ∧ bb ≠ cc ∧ bb ≠ dd ∧ cc ≠ dd ∧ bb < 16 ∧ cc < 16 ∧ dd < 16) ∧ (4 + (k + 1) % 4 = bb ∧ 8 + (k + 2) % 4 = cc ∧ 12 + (k + 3) % 4 = dd ∧ 8 + 2 * k = j ∧ 9 + 2 * k = j2) := by
  refine ⟨k + 1, (k + 1) % 4, k + 2, (k + 2) % 4, k + 3, (k + 3) % 4, 4 + (k + 1) % 4, 8 + (k + 2) % 4, 12 + (k + 3) % 4, 2 * k, 8 + 2 * k, 9 + 2 * k, ?_⟩
  obtain rfl | rfl | rfl | rfl : k = 0 ∨ k = 1 ∨ k = 2 ∨ k = 3 := by omega
  all_goals decide
abbrev T8 : TypeId := 98
abbrev T16 : TypeId := 131
def Mid1 (w : World) (M R H : Nat) (h b : List Int) (i : Value) (U : World) : Prop :=
  ∃ k : Nat, k ≤ 16 ∧ i = .int .i64 (k : Int) ∧ Bag w U [box T16 M (w32 (mpart b k)), box T8 R (w32 (List.replicate 8 0)), box T8 H (w32 h)]
def Mid2 (w : World) (M R H V : Nat) (h b : List Int) (i : Value) (U : World) : Prop :=
  ∃ k : Nat, k ≤ 8 ∧ i = .int .i64 (k : Int) ∧ Bag w U [box T16 V (w32 (vp h k)), box T16 M (w32 (wordsL b)), box T8 R (w32 (List.replicate 8 0)), box T8 H (w32 h)]
def Mid3 (w : World) (M R H V : Nat) (h b v0 : List Int) (i : Value) (U : World) : Prop :=
  ∃ r : Nat, r ≤ 10 ∧ i = .int .i64 (r : Int) ∧ Bag w U [box T16 V (w32 (roundsL v0 (wordsL b) r)), box T16 M (w32 (wordsL b)), box T8 R (w32 (List.replicate 8 0)), box T8 H (w32 h)]
def Mid4 (w : World) (M R H V S r : Nat) (TR : List Value) (h b v : List Int) (z : Nat) (i : Value) (U : World) : Prop :=
  ∃ k : Nat, k ≤ 4 ∧ i = .int .i64 (k : Int) ∧ Bag w U [box T16 V (w32 (BlkM.part v (sched (wordsL b) r) (z + k))), box TS S TR, box T16 M (w32 (wordsL b)), box T8 R (w32 (List.replicate 8 0)), box T8 H (w32 h)]
def Mid6 (w : World) (M R H V : Nat) (h b v : List Int) (i : Value) (U : World) : Prop :=
  ∃ k : Nat, k ≤ 8 ∧ i = .int .i64 (k : Int) ∧ Bag w U [box T8 H (w32 (hp h v k)), box T16 V (w32 v), box T16 M (w32 (wordsL b)), box T8 R (w32 (List.replicate 8 0))]
set_option pp.maxSteps 1000000 in
set_option pp.deepTerms true in
set_option maxRecDepth 10000 in
set_option maxHeartbeats 8000000 in
theorem rblock_any (w : World) (h b : List Int) (a : Option Addr) (c : Nat) (n : Int) (last : Bool) (hh : h.length = 8) (hb : BIn w (.slice a 64 c) b) (hr : ∀ x ∈ b, 0 ≤ x ∧ x < 256) (h0 : 0 ≤ n) (h1 : n < 9223372036854775808) :
    Calls Tryz.prog 61 #[.agg (w32 h).toArray, .slice a 64 c, .int .i64 n, .bool last] w fun e w' => e = .returned (.agg (w32 (comp h b n (if last then 4294967295 else 0))).toArray) ∧ Below w.heap.size w w' := by
  obtain ⟨lv, hlv⟩ : ∃ lv : Int, lv = (if last then 4294967295 else 0) := ⟨_, rfl⟩
  rw [← hlv]
  have HLV := WirS.hide hlv
  clear hlv
  obtain ⟨a', c', e64, _, hz⟩ := hb
  have hb64 : b.length = 64 := by injection e64 with h1 h2; omega
  obtain ⟨B, o, ea, hB, hcell⟩ := hz (by intro e; rw [e] at hb64; simp at hb64)
  have ea' : a = some ⟨B, o, none⟩ := by injection e64 with h1 h2; rw [h1, ea]
  subst ea'
  have HCE := WirS.hide (fun (U : World) (hU : Below w.heap.size w U) (i : Nat) (hi : i < 64) => show U.cell? ⟨B, o + i, none⟩ = some (.int .u8 (b.getD i 0)) from by
    rw [hU.cell (p := ⟨B, o + i, none⟩) hB]
    have := hcell i (by omega)
    simpa using this)
  clear e64 hz hcell
  have hbH := bag_box (w0 := w) (T := T8) (cs := w32 h) (X := w.heap.size) (Bag.nil (Below.refl _ _)) rfl (w' := w.alloc (.cells (w32 h).toArray T8)) (At.new _ _ _) (Below.alloc (Below.refl _ _) (Nat.le_refl _) _)
  go_enter Tryz.func61, Tryz.ntmps61
  go_upto_region 0 with fail
  refine wp_region_lit ?_
  refine sV (.pointer (some ⟨w.heap.size, 0, none⟩)) (w.alloc (.cells (w32 h).toArray T8)) (by kernel_rfl) (by kernel_rfl) ?_
  simp only [Act.put, List.setIfInBounds_toArray, List.set_cons_succ, List.set_cons_zero]
  obtain ⟨H, eH⟩ : ∃ A, w.heap.size = A := ⟨_, rfl⟩
  rw [eH] at hbH ⊢
  clear eH
  generalize World.alloc w _ = x0 at *
  refine sV (.pointer (some ⟨x0.heap.size, 0, none⟩)) (x0.alloc (.cells (w32 (List.replicate 8 0)).toArray T8)) (by kernel_rfl) (by kernel_rfl) ?_
  simp only [Act.put, List.setIfInBounds_toArray, List.set_cons_succ, List.set_cons_zero]
  obtain ⟨R, eR⟩ : ∃ A, x0.heap.size = A := ⟨_, rfl⟩
  have hbR := bag_box (T := T8) (cs := w32 (List.replicate 8 0)) (X := R) hbH eR.symm (w' := x0.alloc (.cells (w32 (List.replicate 8 0)).toArray T8)) (by rw [← eR]; exact At.new _ _ _) (Below.alloc (Below.refl _ _) (Nat.le_refl _) _)
  rw [eR]
  clear eR hbH
  generalize World.alloc x0 _ = x1 at *
  go_upto_region 1 with fail
  refine wp_region_lit ?_
  refine sV (.pointer (some ⟨x1.heap.size, 0, none⟩)) (x1.alloc (.cells (w32 (List.replicate 16 0)).toArray T16)) (by kernel_rfl) (by kernel_rfl) ?_
  simp only [Act.put, List.setIfInBounds_toArray, List.set_cons_succ, List.set_cons_zero]
  obtain ⟨M, eM⟩ : ∃ A, x1.heap.size = A := ⟨_, rfl⟩
  have hbM := bag_box (T := T16) (cs := w32 (mpart b 0)) (X := M) hbR eM.symm (w' := x1.alloc (.cells (w32 (List.replicate 16 0)).toArray T16)) (by rw [← eM]; exact At.new _ _ _) (Below.alloc (Below.refl _ _) (Nat.le_refl _) _)
  rw [eM]
  clear eM hbR
  generalize World.alloc x1 _ = x2 at *
  have HST := WirS.hide (show Mid1 w M R H h b (.int .i64 0) x2 from ⟨0, by omega, rfl, hbM⟩)
  clear hbM
  go_wp2_with fail
  go_loopw [10] (fun i wr => Mid1 w M R H h b i wr) (fun i _ => 16 - (intOf i).toNat)
  case atStart => exact HST.out
  case round =>
    clear HST
    obtain ⟨k, hk, rfl, hbag⟩ := hrel
    by_cases hlt : k < 16
    · have hlt2 : (k : Int) < 16 := by omega
      have p0 := HCE.out wr hbag.low (4 * k) (by omega)
      have p1 := HCE.out wr hbag.low (4 * k + 1) (by omega)
      have p2 := HCE.out wr hbag.low (4 * k + 2) (by omega)
      have p3 := HCE.out wr hbag.low (4 * k + 3) (by omega)
      have HBG := WirS.hide hbag
      clear hbag
      obtain ⟨d0, e0⟩ : ∃ x, b.getD (4 * k) 0 = x := ⟨_, rfl⟩
      obtain ⟨d1, e1⟩ : ∃ x, b.getD (4 * k + 1) 0 = x := ⟨_, rfl⟩
      obtain ⟨d2, e2⟩ : ∃ x, b.getD (4 * k + 2) 0 = x := ⟨_, rfl⟩
      obtain ⟨d3, e3⟩ : ∃ x, b.getD (4 * k + 3) 0 = x := ⟨_, rfl⟩
      rw [e0] at p0
      rw [e1] at p1
      rw [e2] at p2
      rw [e3] at p3
      have hM := HBG.out.head.frozen k
      have cM : wr.cell? ⟨M, k, none⟩ = some (.int .u32 ((mpart b k).getD k 0)) := by rw [HBG.out.head.cell, w32_get _ k (by rw [mpart_len]; exact hlt)]
      generalize (mpart b k).getD k 0 = old at cM
      have W0 := WirS.hide (show wordOf b k = oo (oo (oo d0 (IntKind.u32.wrap (d1 * 2 ^ 8))) (IntKind.u32.wrap (d2 * 2 ^ 16))) (IntKind.u32.wrap (d3 * 2 ^ 24)) from by unfold wordOf; rw [e0, e1, e2, e3])
      have HS4 : Hid (∀ U : World, Below w.heap.size w U → (U.cell? ⟨B, o + 4 * k, none⟩ = some (.int .u8 d0) ∧ U.cell? ⟨B, o + (4 * k + 1), none⟩ = some (.int .u8 d1) ∧ U.cell? ⟨B, o + (4 * k + 2), none⟩ = some (.int .u8 d2) ∧ U.cell? ⟨B, o + (4 * k + 3), none⟩ = some (.int .u8 d3))) := WirS.hide (fun U hU => ⟨by rw [← e0]; exact HCE.out U hU _ (by omega), by rw [← e1]; exact HCE.out U hU _ (by omega), by rw [← e2]; exact HCE.out U hU _ (by omega), by rw [← e3]; exact HCE.out U hU _ (by omega)⟩)
      have hrng : ∀ i, 0 ≤ b.getD i 0 ∧ b.getD i 0 < 256 := fun i => by
        rw [List.getD_eq_getElem?_getD]
        cases hq : b[i]? with
        | none => simp
        | some x => exact hr x (List.mem_of_getElem? hq)
      have HX : Hid (bits .or .u32 (bits .or .u32 (bits .or .u32 (IntKind.u32.wrap d0) (IntKind.u32.wrap (IntKind.u32.wrap d1 * 256))) (IntKind.u32.wrap (IntKind.u32.wrap d2 * 65536))) (IntKind.u32.wrap (IntKind.u32.wrap d3 * 16777216)) = wordOf b k) := WirS.hide (by
        have wr : ∀ i, IntKind.u32.wrap (b.getD i 0) = b.getD i 0 := fun i => by
          have := hrng i
          generalize b.getD i 0 = z at this ⊢
          simp [IntKind.wrap, IntKind.bits, IntKind.signed]
          omega
        rw [W0.out, ← e0, ← e1, ← e2, ← e3, wr, wr, wr, wr]
        rfl)
      clear e0 e1 e2 e3 hrng
      have w0 : IntKind.i64.wrap (4 * (k : Int)) = 4 * (k : Int) := IntWalk.i64_in _ (by omega)
      have w1 : IntKind.i64.wrap (4 * (k : Int) + 1) = 4 * (k : Int) + 1 := IntWalk.i64_in _ (by omega)
      have w2 : IntKind.i64.wrap (4 * (k : Int) + 2) = 4 * (k : Int) + 2 := IntWalk.i64_in _ (by omega)
      have w3 : IntKind.i64.wrap (4 * (k : Int) + 3) = 4 * (k : Int) + 3 := IntWalk.i64_in _ (by omega)
      have HBZ : Hid (Bag w wr.drew [box T16 M (w32 (mpart b k)), box T8 R (w32 (List.replicate 8 0)), box T8 H (w32 h)]) := WirS.hide (HBG.out.more (below_drewN (Below.refl _ _) 1))
      clear cM hM HBG
      go_upto_region 5 with fail
      refine wp_region_noPanic ?_
      refine wp_region_held_drew (S := fun w' => w'.cell? ⟨B, o + 4 * k, none⟩ = some (.int .u8 d0) ∧ w'.cell? ⟨B, o + (4 * k + 1), none⟩ = some (.int .u8 d1) ∧ w'.cell? ⟨B, o + (4 * k + 2), none⟩ = some (.int .u8 d2) ∧ w'.cell? ⟨B, o + (4 * k + 3), none⟩ = some (.int .u8 d3)) (by kernel_rfl) ⟨p0, p1, p2, p3⟩ (fun hHeld => ?_)
      generalize World.drew wr = z0 at *
      refine' wpAnyH_take (i := 0) (oi := _) (v := _) rfl (by kernel_rfl) (by kernel_rfl) (by kernel_rfl) (fun _ _ _ h => h) (Or.inl ⟨by kernel_rfl, ?hy0⟩) (by assumption) ?rest0
      case hy0 =>
        intro w hSw
        try dsimp only at hSw
        go_simp
        try with_reducible rfl
      case rest0 =>
      try simp only [List.getElem_toArray, List.getElem_cons_zero, Act.put, List.setIfInBounds_toArray, List.set_cons_zero, List.set_cons_succ]
      refine' wpAnyH_take (i := 1) (oi := _) (v := _) rfl (by kernel_rfl) (by kernel_rfl) (by kernel_rfl) (fun _ _ _ h => h) (Or.inl ⟨by kernel_rfl, ?hy1⟩) (by assumption) ?rest1
      case hy1 =>
        intro w hSw
        try dsimp only at hSw
        go_simp
        try with_reducible rfl
      case rest1 =>
      try simp only [List.getElem_toArray, List.getElem_cons_succ, List.getElem_cons_zero, Act.put, List.setIfInBounds_toArray, List.set_cons_zero, List.set_cons_succ]
      refine' wpAnyH_take (i := 2) (oi := _) (v := _) rfl (by kernel_rfl) (by kernel_rfl) (by kernel_rfl) (fun _ _ _ h => h) (Or.inl ⟨by kernel_rfl, ?hy2⟩) (by assumption) ?rest2
      case hy2 =>
        intro w hSw
        try dsimp only at hSw
        go_simp
        try with_reducible rfl
      case rest2 =>
      try simp only [List.getElem_toArray, List.getElem_cons_succ, List.getElem_cons_zero, Act.put, List.setIfInBounds_toArray, List.set_cons_zero, List.set_cons_succ]
      refine' wpAnyH_take (i := 3) (oi := _) (v := _) rfl (by kernel_rfl) (by kernel_rfl) (by kernel_rfl) (fun _ _ _ h => h) (Or.inl ⟨by kernel_rfl, ?hy3⟩) (by assumption) ?rest3
      case hy3 =>
        intro w hSw
        try dsimp only at hSw
        go_simp
        try with_reducible rfl
      case rest3 =>
      try simp only [List.getElem_toArray, List.getElem_cons_succ, List.getElem_cons_zero, Act.put, List.setIfInBounds_toArray, List.set_cons_zero, List.set_cons_succ]
      refine' wpAnyH_take (i := 4) (oi := _) (v := .pointer (some ⟨B, o + (4 * k), none⟩)) rfl (by kernel_rfl) (by kernel_rfl) (by kernel_rfl) (fun _ _ _ h => h) (Or.inl ⟨by kernel_rfl, ?hy4⟩) (by assumption) ?rest4
      case hy4 =>
        intro W _
        exact (fun W => opB _ _ _ _ B o c (4 * k) _ rfl (by kernel_rfl) (by kernel_rfl) (by push_cast; rfl) (by omega) W) W
      case rest4 =>
      try simp only [List.getElem_toArray, List.getElem_cons_succ, List.getElem_cons_zero, Act.put, List.setIfInBounds_toArray, List.set_cons_zero, List.set_cons_succ]
      refine' wpAnyH_take (i := 5) (oi := _) (v := _) rfl (by kernel_rfl) (by kernel_rfl) (by kernel_rfl) (fun _ _ _ h => h) (Or.inl ⟨by kernel_rfl, ?hy5⟩) (by assumption) ?rest5
      case hy5 =>
        intro w hSw
        try dsimp only at hSw
        go_simp
        try with_reducible rfl
      case rest5 =>
      try simp only [List.getElem_toArray, List.getElem_cons_succ, List.getElem_cons_zero, Act.put, List.setIfInBounds_toArray, List.set_cons_zero, List.set_cons_succ]
      refine' wpAnyH_take (i := 6) (oi := _) (v := _) rfl (by kernel_rfl) (by kernel_rfl) (by kernel_rfl) (fun _ _ _ h => h) (Or.inl ⟨by kernel_rfl, ?hy6⟩) (by assumption) ?rest6
      case hy6 =>
        intro w hSw
        try dsimp only at hSw
        go_simp
        try with_reducible rfl
      case rest6 =>
      try simp only [List.getElem_toArray, List.getElem_cons_succ, List.getElem_cons_zero, Act.put, List.setIfInBounds_toArray, List.set_cons_zero, List.set_cons_succ]
      refine' wpAnyH_take (i := 7) (oi := _) (v := _) rfl (by kernel_rfl) (by kernel_rfl) (by kernel_rfl) (fun _ _ _ h => h) (Or.inl ⟨by kernel_rfl, ?hy7⟩) (by assumption) ?rest7
      case hy7 =>
        intro w hSw
        try dsimp only at hSw
        go_simp
        try with_reducible rfl
      case rest7 =>
      try simp only [List.getElem_toArray, List.getElem_cons_succ, List.getElem_cons_zero, Act.put, List.setIfInBounds_toArray, List.set_cons_zero, List.set_cons_succ]
      refine' wpAnyH_take (i := 8) (oi := _) (v := _) rfl (by kernel_rfl) (by kernel_rfl) (by kernel_rfl) (fun _ _ _ h => h) (Or.inl ⟨by kernel_rfl, ?hy8⟩) (by assumption) ?rest8
      case hy8 =>
        intro w hSw
        try dsimp only at hSw
        go_simp
        try with_reducible rfl
      case rest8 =>
      try simp only [List.getElem_toArray, List.getElem_cons_succ, List.getElem_cons_zero, Act.put, List.setIfInBounds_toArray, List.set_cons_zero, List.set_cons_succ]
      refine' wpAnyH_take (i := 9) (oi := _) (v := _) rfl (by kernel_rfl) (by kernel_rfl) (by kernel_rfl) (fun _ _ _ h => h) (Or.inl ⟨by kernel_rfl, ?hy9⟩) (by assumption) ?rest9
      case hy9 =>
        intro w hSw
        try dsimp only at hSw
        go_simp
        try with_reducible rfl
      case rest9 =>
      try simp only [List.getElem_toArray, List.getElem_cons_succ, List.getElem_cons_zero, Act.put, List.setIfInBounds_toArray, List.set_cons_zero, List.set_cons_succ]
      refine' wpAnyH_take (i := 10) (oi := _) (v := _) rfl (by kernel_rfl) (by kernel_rfl) (by kernel_rfl) (fun _ _ _ h => h) (Or.inl ⟨by kernel_rfl, ?hy10⟩) (by assumption) ?rest10
      case hy10 =>
        intro w hSw
        try dsimp only at hSw
        go_simp
        try with_reducible rfl
      case rest10 =>
      try simp only [List.getElem_toArray, List.getElem_cons_succ, List.getElem_cons_zero, Act.put, List.setIfInBounds_toArray, List.set_cons_zero, List.set_cons_succ]
      refine' wpAnyH_take (i := 11) (oi := _) (v := .pointer (some ⟨B, o + (4 * k + 1), none⟩)) rfl (by kernel_rfl) (by kernel_rfl) (by kernel_rfl) (fun _ _ _ h => h) (Or.inl ⟨by kernel_rfl, ?hy11⟩) (by assumption) ?rest11
      case hy11 =>
        intro W _
        exact (fun W => opB _ _ _ _ B o c (4 * k + 1) _ rfl (by kernel_rfl) (by kernel_rfl) (by push_cast; rfl) (by omega) W) W
      case rest11 =>
      try simp only [List.getElem_toArray, List.getElem_cons_succ, List.getElem_cons_zero, Act.put, List.setIfInBounds_toArray, List.set_cons_zero, List.set_cons_succ]
      refine' wpAnyH_take (i := 12) (oi := _) (v := _) rfl (by kernel_rfl) (by kernel_rfl) (by kernel_rfl) (fun _ _ _ h => h) (Or.inl ⟨by kernel_rfl, ?hy12⟩) (by assumption) ?rest12
      case hy12 =>
        intro w hSw
        try dsimp only at hSw
        go_simp
        try with_reducible rfl
      case rest12 =>
      try simp only [List.getElem_toArray, List.getElem_cons_succ, List.getElem_cons_zero, Act.put, List.setIfInBounds_toArray, List.set_cons_zero, List.set_cons_succ]
      refine' wpAnyH_take (i := 13) (oi := _) (v := _) rfl (by kernel_rfl) (by kernel_rfl) (by kernel_rfl) (fun _ _ _ h => h) (Or.inl ⟨by kernel_rfl, ?hy13⟩) (by assumption) ?rest13
      case hy13 =>
        intro w hSw
        try dsimp only at hSw
        go_simp
        try with_reducible rfl
      case rest13 =>
      try simp only [List.getElem_toArray, List.getElem_cons_succ, List.getElem_cons_zero, Act.put, List.setIfInBounds_toArray, List.set_cons_zero, List.set_cons_succ]
      refine' wpAnyH_take (i := 14) (oi := _) (v := _) rfl (by kernel_rfl) (by kernel_rfl) (by kernel_rfl) (fun _ _ _ h => h) (Or.inl ⟨by kernel_rfl, ?hy14⟩) (by assumption) ?rest14
      case hy14 =>
        intro w hSw
        try dsimp only at hSw
        go_simp
        try with_reducible rfl
      case rest14 =>
      try simp only [List.getElem_toArray, List.getElem_cons_succ, List.getElem_cons_zero, Act.put, List.setIfInBounds_toArray, List.set_cons_zero, List.set_cons_succ]
      refine' wpAnyH_take (i := 15) (oi := _) (v := _) rfl (by kernel_rfl) (by kernel_rfl) (by kernel_rfl) (fun _ _ _ h => h) (Or.inl ⟨by kernel_rfl, ?hy15⟩) (by assumption) ?rest15
      case hy15 =>
        intro w hSw
        try dsimp only at hSw
        go_simp
        try with_reducible rfl
      case rest15 =>
      try simp only [List.getElem_toArray, List.getElem_cons_succ, List.getElem_cons_zero, Act.put, List.setIfInBounds_toArray, List.set_cons_zero, List.set_cons_succ]
      refine' wpAnyH_take (i := 16) (oi := _) (v := _) rfl (by kernel_rfl) (by kernel_rfl) (by kernel_rfl) (fun _ _ _ h => h) (Or.inl ⟨by kernel_rfl, ?hy16⟩) (by assumption) ?rest16
      case hy16 =>
        intro w hSw
        try dsimp only at hSw
        go_simp
        try with_reducible rfl
      case rest16 =>
      try simp only [List.getElem_toArray, List.getElem_cons_succ, List.getElem_cons_zero, Act.put, List.setIfInBounds_toArray, List.set_cons_zero, List.set_cons_succ]
      refine' wpAnyH_take (i := 17) (oi := _) (v := _) rfl (by kernel_rfl) (by kernel_rfl) (by kernel_rfl) (fun _ _ _ h => h) (Or.inl ⟨by kernel_rfl, ?hy17⟩) (by assumption) ?rest17
      case hy17 =>
        intro w hSw
        try dsimp only at hSw
        go_simp
        try with_reducible rfl
      case rest17 =>
      try simp only [List.getElem_toArray, List.getElem_cons_succ, List.getElem_cons_zero, Act.put, List.setIfInBounds_toArray, List.set_cons_zero, List.set_cons_succ]
      refine' wpAnyH_take (i := 18) (oi := _) (v := _) rfl (by kernel_rfl) (by kernel_rfl) (by kernel_rfl) (fun _ _ _ h => h) (Or.inl ⟨by kernel_rfl, ?hy18⟩) (by assumption) ?rest18
      case hy18 =>
        intro w hSw
        try dsimp only at hSw
        go_simp
        try with_reducible rfl
      case rest18 =>
      try simp only [List.getElem_toArray, List.getElem_cons_succ, List.getElem_cons_zero, Act.put, List.setIfInBounds_toArray, List.set_cons_zero, List.set_cons_succ]
      refine' wpAnyH_take (i := 19) (oi := _) (v := _) rfl (by kernel_rfl) (by kernel_rfl) (by kernel_rfl) (fun _ _ _ h => h) (Or.inl ⟨by kernel_rfl, ?hy19⟩) (by assumption) ?rest19
      case hy19 =>
        intro w hSw
        try dsimp only at hSw
        go_simp
        try with_reducible rfl
      case rest19 =>
      try simp only [List.getElem_toArray, List.getElem_cons_succ, List.getElem_cons_zero, Act.put, List.setIfInBounds_toArray, List.set_cons_zero, List.set_cons_succ]
      refine' wpAnyH_take (i := 20) (oi := _) (v := .pointer (some ⟨B, o + (4 * k + 2), none⟩)) rfl (by kernel_rfl) (by kernel_rfl) (by kernel_rfl) (fun _ _ _ h => h) (Or.inl ⟨by kernel_rfl, ?hy20⟩) (by assumption) ?rest20
      case hy20 =>
        intro W _
        exact (fun W => opB _ _ _ _ B o c (4 * k + 2) _ rfl (by kernel_rfl) (by kernel_rfl) (by push_cast; rfl) (by omega) W) W
      case rest20 =>
      try simp only [List.getElem_toArray, List.getElem_cons_succ, List.getElem_cons_zero, Act.put, List.setIfInBounds_toArray, List.set_cons_zero, List.set_cons_succ]
      refine' wpAnyH_take (i := 21) (oi := _) (v := _) rfl (by kernel_rfl) (by kernel_rfl) (by kernel_rfl) (fun _ _ _ h => h) (Or.inl ⟨by kernel_rfl, ?hy21⟩) (by assumption) ?rest21
      case hy21 =>
        intro w hSw
        try dsimp only at hSw
        go_simp
        try with_reducible rfl
      case rest21 =>
      try simp only [List.getElem_toArray, List.getElem_cons_succ, List.getElem_cons_zero, Act.put, List.setIfInBounds_toArray, List.set_cons_zero, List.set_cons_succ]
      refine' wpAnyH_take (i := 22) (oi := _) (v := _) rfl (by kernel_rfl) (by kernel_rfl) (by kernel_rfl) (fun _ _ _ h => h) (Or.inl ⟨by kernel_rfl, ?hy22⟩) (by assumption) ?rest22
      case hy22 =>
        intro w hSw
        try dsimp only at hSw
        go_simp
        try with_reducible rfl
      case rest22 =>
      try simp only [List.getElem_toArray, List.getElem_cons_succ, List.getElem_cons_zero, Act.put, List.setIfInBounds_toArray, List.set_cons_zero, List.set_cons_succ]
      refine' wpAnyH_take (i := 23) (oi := _) (v := _) rfl (by kernel_rfl) (by kernel_rfl) (by kernel_rfl) (fun _ _ _ h => h) (Or.inl ⟨by kernel_rfl, ?hy23⟩) (by assumption) ?rest23
      case hy23 =>
        intro w hSw
        try dsimp only at hSw
        go_simp
        try with_reducible rfl
      case rest23 =>
      try simp only [List.getElem_toArray, List.getElem_cons_succ, List.getElem_cons_zero, Act.put, List.setIfInBounds_toArray, List.set_cons_zero, List.set_cons_succ]
      refine' wpAnyH_take (i := 24) (oi := _) (v := _) rfl (by kernel_rfl) (by kernel_rfl) (by kernel_rfl) (fun _ _ _ h => h) (Or.inl ⟨by kernel_rfl, ?hy24⟩) (by assumption) ?rest24
      case hy24 =>
        intro w hSw
        try dsimp only at hSw
        go_simp
        try with_reducible rfl
      case rest24 =>
      try simp only [List.getElem_toArray, List.getElem_cons_succ, List.getElem_cons_zero, Act.put, List.setIfInBounds_toArray, List.set_cons_zero, List.set_cons_succ]
      refine' wpAnyH_take (i := 25) (oi := _) (v := _) rfl (by kernel_rfl) (by kernel_rfl) (by kernel_rfl) (fun _ _ _ h => h) (Or.inl ⟨by kernel_rfl, ?hy25⟩) (by assumption) ?rest25
      case hy25 =>
        intro w hSw
        try dsimp only at hSw
        go_simp
        try with_reducible rfl
      case rest25 =>
      try simp only [List.getElem_toArray, List.getElem_cons_succ, List.getElem_cons_zero, Act.put, List.setIfInBounds_toArray, List.set_cons_zero, List.set_cons_succ]
      refine' wpAnyH_take (i := 26) (oi := _) (v := _) rfl (by kernel_rfl) (by kernel_rfl) (by kernel_rfl) (fun _ _ _ h => h) (Or.inl ⟨by kernel_rfl, ?hy26⟩) (by assumption) ?rest26
      case hy26 =>
        intro w hSw
        try dsimp only at hSw
        go_simp
        try with_reducible rfl
      case rest26 =>
      try simp only [List.getElem_toArray, List.getElem_cons_succ, List.getElem_cons_zero, Act.put, List.setIfInBounds_toArray, List.set_cons_zero, List.set_cons_succ]
      refine' wpAnyH_take (i := 27) (oi := _) (v := _) rfl (by kernel_rfl) (by kernel_rfl) (by kernel_rfl) (fun _ _ _ h => h) (Or.inl ⟨by kernel_rfl, ?hy27⟩) (by assumption) ?rest27
      case hy27 =>
        intro w hSw
        try dsimp only at hSw
        go_simp
        try with_reducible rfl
      case rest27 =>
      try simp only [List.getElem_toArray, List.getElem_cons_succ, List.getElem_cons_zero, Act.put, List.setIfInBounds_toArray, List.set_cons_zero, List.set_cons_succ]
      refine' wpAnyH_take (i := 28) (oi := _) (v := _) rfl (by kernel_rfl) (by kernel_rfl) (by kernel_rfl) (fun _ _ _ h => h) (Or.inl ⟨by kernel_rfl, ?hy28⟩) (by assumption) ?rest28
      case hy28 =>
        intro w hSw
        try dsimp only at hSw
        go_simp
        try with_reducible rfl
      case rest28 =>
      try simp only [List.getElem_toArray, List.getElem_cons_succ, List.getElem_cons_zero, Act.put, List.setIfInBounds_toArray, List.set_cons_zero, List.set_cons_succ]
      refine' wpAnyH_take (i := 29) (oi := _) (v := .pointer (some ⟨B, o + (4 * k + 3), none⟩)) rfl (by kernel_rfl) (by kernel_rfl) (by kernel_rfl) (fun _ _ _ h => h) (Or.inl ⟨by kernel_rfl, ?hy29⟩) (by assumption) ?rest29
      case hy29 =>
        intro W _
        exact (fun W => opB _ _ _ _ B o c (4 * k + 3) _ rfl (by kernel_rfl) (by kernel_rfl) (by push_cast; rfl) (by omega) W) W
      case rest29 =>
      try simp only [List.getElem_toArray, List.getElem_cons_succ, List.getElem_cons_zero, Act.put, List.setIfInBounds_toArray, List.set_cons_zero, List.set_cons_succ]
      refine' wpAnyH_take (i := 30) (oi := _) (v := _) rfl (by kernel_rfl) (by kernel_rfl) (by kernel_rfl) (fun _ _ _ h => h) (Or.inl ⟨by kernel_rfl, ?hy30⟩) (by assumption) ?rest30
      case hy30 =>
        intro w hSw
        try dsimp only at hSw
        go_simp
        try with_reducible rfl
      case rest30 =>
      try simp only [List.getElem_toArray, List.getElem_cons_succ, List.getElem_cons_zero, Act.put, List.setIfInBounds_toArray, List.set_cons_zero, List.set_cons_succ]
      refine' wpAnyH_take (i := 31) (oi := _) (v := _) rfl (by kernel_rfl) (by kernel_rfl) (by kernel_rfl) (fun _ _ _ h => h) (Or.inl ⟨by kernel_rfl, ?hy31⟩) (by assumption) ?rest31
      case hy31 =>
        intro w hSw
        try dsimp only at hSw
        go_simp
        try with_reducible rfl
      case rest31 =>
      try simp only [List.getElem_toArray, List.getElem_cons_succ, List.getElem_cons_zero, Act.put, List.setIfInBounds_toArray, List.set_cons_zero, List.set_cons_succ]
      refine' wpAnyH_take (i := 32) (oi := _) (v := _) rfl (by kernel_rfl) (by kernel_rfl) (by kernel_rfl) (fun _ _ _ h => h) (Or.inl ⟨by kernel_rfl, ?hy32⟩) (by assumption) ?rest32
      case hy32 =>
        intro w hSw
        try dsimp only at hSw
        go_simp
        try with_reducible rfl
      case rest32 =>
      try simp only [List.getElem_toArray, List.getElem_cons_succ, List.getElem_cons_zero, Act.put, List.setIfInBounds_toArray, List.set_cons_zero, List.set_cons_succ]
      refine' wpAnyH_take (i := 33) (oi := _) (v := _) rfl (by kernel_rfl) (by kernel_rfl) (by kernel_rfl) (fun _ _ _ h => h) (Or.inl ⟨by kernel_rfl, ?hy33⟩) (by assumption) ?rest33
      case hy33 =>
        intro w hSw
        try dsimp only at hSw
        go_simp
        try with_reducible rfl
      case rest33 =>
      try simp only [List.getElem_toArray, List.getElem_cons_succ, List.getElem_cons_zero, Act.put, List.setIfInBounds_toArray, List.set_cons_zero, List.set_cons_succ]
      refine' wpAnyH_take (i := 34) (oi := _) (v := .pointer (some ⟨M, k, none⟩)) rfl (by kernel_rfl) (by kernel_rfl) (by kernel_rfl) (fun _ _ _ h => h) (Or.inl ⟨by kernel_rfl, ?hy34⟩) (by assumption) ?rest34
      case hy34 =>
        intro W _
        exact (fun W => opM _ _ _ _ M k rfl (by kernel_rfl) (by kernel_rfl) hlt W) W
      case rest34 =>
      try simp only [List.getElem_toArray, List.getElem_cons_succ, List.getElem_cons_zero, Act.put, List.setIfInBounds_toArray, List.set_cons_zero, List.set_cons_succ]
      refine wpAnyH_ready (rs := [35]) (by kernel_rfl) (by simp) ?_
      refine AllReadyH.cons rfl (fun K hK => ?_) AllReadyH.nil
      rw [if_pos (by kernel_rfl)]
      have HN := WirS.hide (bag_set HBZ.out k (.int .u32 (bits .or .u32 (bits .or .u32 (bits .or .u32 (IntKind.u32.wrap d0) (IntKind.u32.wrap (IntKind.u32.wrap d1 * 256))) (IntKind.u32.wrap (IntKind.u32.wrap d2 * 65536))) (IntKind.u32.wrap (IntKind.u32.wrap d3 * 16777216)))))
      refine store_u32 (x := .tmp 56) (y := .tmp 55) (by kernel_rfl) M k (bits .or .u32 (bits .or .u32 (bits .or .u32 (IntKind.u32.wrap d0) (IntKind.u32.wrap (IntKind.u32.wrap d1 * 256))) (IntKind.u32.wrap (IntKind.u32.wrap d2 * 65536))) (IntKind.u32.wrap (IntKind.u32.wrap d3 * 16777216))) _ (by kernel_rfl) (by kernel_rfl) (HBZ.out.head.cell k) (by rw [w32_get _ k (by rw [mpart_len]; exact hlt)]; rfl) (HBZ.out.head.frozen k) ?_
      refine hK.out _ _ (HS4.out _ HN.out.low) (fun hHeld => ?_)
      clear hK K
      try simp only [Act.put]
      refine wpAnyH_done (by kernel_rfl) ?_ _
      refine NoPanic.normal ?_
      rw [HX.out] at HN
      clear HBZ hHeld
      rw [HX.out]
      generalize World.setCell z0 _ _ = z1 at *
      have HN2 : Hid (Bag w z1 [box T16 M (w32 (mpart b (k + 1))), box T8 R (w32 (List.replicate 8 0)), box T8 H (w32 h)]) := by rw [← mpart_set b k hlt, ← w32_set]; exact HN
      clear HN
      go_wp2_with fail
      go_roundw
      case rel => exact ⟨k + 1, by omega, by go_num, HN2.out⟩
      case measure => simp [intOf]; omega
    · obtain rfl : k = 16 := by omega
      rw [mpart_all] at hbag
      clear HCE
      rw [show ((16 : Nat) : Int) = 16 from rfl]
      go_upto_region 6 with fail
      refine wp_region_lit ?_
      refine sV (.pointer (some ⟨wr.heap.size, 0, none⟩)) (wr.alloc (.cells (w32 (List.replicate 16 0)).toArray T16)) (by kernel_rfl) (by kernel_rfl) ?_
      simp only [Act.put, List.setIfInBounds_toArray, List.set_cons_succ, List.set_cons_zero]
      obtain ⟨V, eV⟩ : ∃ A, wr.heap.size = A := ⟨_, rfl⟩
      have hbV := bag_box (T := T16) (cs := w32 (vp h 0)) (X := V) hbag eV.symm (w' := wr.alloc (.cells (w32 (List.replicate 16 0)).toArray T16)) (by rw [← eV, vp_zero]; exact At.new _ _ _) (Below.alloc (Below.refl _ _) (Nat.le_refl _) _)
      rw [eV]
      clear eV hbag
      generalize World.alloc wr _ = x3 at *
      have HST2 := WirS.hide (show Mid2 w M R H V h b (.int .i64 0) x3 from ⟨0, by omega, rfl, hbV⟩)
      clear hbV
      go_wp2_with fail
      go_loopw [12] (fun i wr => Mid2 w M R H V h b i wr) (fun i _ => 8 - (intOf i).toNat)
      case atStart => exact HST2.out
      case round =>
        clear HST2
        obtain ⟨k, hk, rfl, hbag⟩ := hrel
        by_cases hlt : k < 8
        · have hlt2 : (k : Int) < 8 := by omega
          have HBG := WirS.hide hbag
          clear hbag
          have HXE := WirS.hide (show wr.cell? ⟨H, k, none⟩ = some (.int .u32 (h.getD k 0)) by rw [HBG.out.drop.drop.drop.head.cell, w32_get _ k (by rw [hh]; omega)])
          go_upto_region 10 with fail
          refine wp_region_lit ?_
          refine sV (.int .i64 (k : Int)) (wr) (by kernel_rfl) (by kernel_rfl) ?_
          simp only [Act.put, List.setIfInBounds_toArray, List.set_cons_succ, List.set_cons_zero]
          refine sV (.int .i64 (k : Int)) (wr) (by kernel_rfl) (by kernel_rfl) ?_
          simp only [Act.put, List.setIfInBounds_toArray, List.set_cons_succ, List.set_cons_zero]
          refine sV (.pointer (some ⟨H, k, none⟩)) wr (by kernel_rfl) (opH _ _ _ _ H k rfl (by kernel_rfl) (by kernel_rfl) hlt wr) ?_
          simp only [Act.put, List.setIfInBounds_toArray, List.set_cons_succ, List.set_cons_zero]
          refine sP (by kernel_rfl) _ _ (by rfl) ⟨H, k, none⟩ (by kernel_rfl) (.int .u32 (h.getD k 0)) HXE.out (by kernel_rfl) ?_
          simp only [Act.put, List.setIfInBounds_toArray, List.set_cons_succ, List.set_cons_zero]
          refine sV (.pointer (some ⟨V, k, none⟩)) wr (by kernel_rfl) (opM _ _ _ _ V k rfl (by kernel_rfl) (by kernel_rfl) (by omega) wr) ?_
          simp only [Act.put, List.setIfInBounds_toArray, List.set_cons_succ, List.set_cons_zero]
          refine stepW (by kernel_rfl) (fun K hK => store_u32 (x := .tmp 65) (y := .tmp 64) (by kernel_rfl) V (k) (h.getD k 0) _ (by kernel_rfl) (by kernel_rfl) (HBG.out.head.cell k) (by rw [w32_get _ k (by rw [vp_len]; omega)]; rfl) (HBG.out.head.frozen k) (hK _ _ ?_))
          simp only [Act.put]
          have HB1 := WirS.hide (bag_set HBG.out k (.int .u32 (h.getD k 0)))
          rw [w32_set] at HB1
          clear HBG HXE
          generalize World.setCell wr _ _ = u0 at *
          obtain ⟨j, hj⟩ : ∃ j : Nat, k + 8 = j := ⟨_, rfl⟩
          have hwj : IntKind.i64.wrap ((k : Int) + 8) = (j : Int) := by rw [IntWalk.i64_in _ (by omega)]; omega
          have HJ := WirS.hide hj
          have HWJ := WirS.hide hwj
          have hjl : j < 16 := by omega
          clear hj hwj
          go_upto_region 11 with fail
          refine wp_region_lit ?_
          refine sV (.int .i64 (k : Int)) (u0) (by kernel_rfl) (by kernel_rfl) ?_
          simp only [Act.put, List.setIfInBounds_toArray, List.set_cons_succ, List.set_cons_zero]
          refine sV (.int .i64 (j : Int)) u0 (by kernel_rfl) (by rw [← HWJ.out]; kernel_rfl) ?_
          simp only [Act.put, List.setIfInBounds_toArray, List.set_cons_succ, List.set_cons_zero]
          refine sC (by kernel_rfl) (by kernel_rfl) (rbegin_any u0) ?_
          rintro u1 hb
          simp only [Act.put, List.setIfInBounds_toArray, List.set_cons_succ, List.set_cons_zero]
          have HB2 := WirS.hide (HB1.out.more hb)
          clear HB1 hb
          refine sV (.int .i64 (k : Int)) (u1) (by kernel_rfl) (by kernel_rfl) ?_
          simp only [Act.put, List.setIfInBounds_toArray, List.set_cons_succ, List.set_cons_zero]
          refine sV (.int .u32 (ini.getD k 0)) u1 (by kernel_rfl) (opI _ _ _ _ k rfl (by kernel_rfl) (by kernel_rfl) hlt u1) ?_
          simp only [Act.put, List.setIfInBounds_toArray, List.set_cons_succ, List.set_cons_zero]
          refine sV (.pointer (some ⟨V, j, none⟩)) u1 (by kernel_rfl) (opM _ _ _ _ V j rfl (by kernel_rfl) (by kernel_rfl) hjl u1) ?_
          simp only [Act.put, List.setIfInBounds_toArray, List.set_cons_succ, List.set_cons_zero]
          refine stepW (by kernel_rfl) (fun K hK => store_u32 (x := .tmp 71) (y := .tmp 70) (by kernel_rfl) V (j) (ini.getD k 0) _ (by kernel_rfl) (by kernel_rfl) (HB2.out.head.cell j) (by rw [w32_get _ j (by rw [List.length_set, vp_len]; omega)]; rfl) (HB2.out.head.frozen j) (hK _ _ ?_))
          simp only [Act.put]
          have hb3 := bag_set HB2.out j (.int .u32 (ini.getD k 0))
          rw [w32_set, ← HJ.out, vp_set h k hlt] at hb3
          rw [← HJ.out]
          have HB3 := WirS.hide hb3
          clear HB2 hb3
          generalize World.setCell u1 _ _ = u2 at *
          go_wp2_with fail
          go_roundw
          case rel => exact ⟨k + 1, by omega, by go_num, HB3.out⟩
          case measure => simp [intOf]; omega
        · obtain rfl : k = 8 := by omega
          rw [vp_all h hh] at hbag
          rw [show ((8 : Nat) : Int) = 8 from rfl]
          have HBG := WirS.hide hbag
          clear hbag
          have hl16 := app_len h hh
          have HW64 := WirS.hide (show IntKind.u64.wrap n = n by rw [IntKind.wrap_u64]; omega)
          have c12 : wr.cell? ⟨V, 12, none⟩ = some (.int .u32 1359893119) := by rw [HBG.out.head.cell, w32_get _ 12 (by omega), app_get h hh 4]; rfl
          have HC13 := WirS.hide (show (h ++ ini).getD 13 0 = 2600822924 by rw [app_get h hh 5]; rfl)
          have HC14 := WirS.hide (show (h ++ ini).getD 14 0 = 528734635 by rw [app_get h hh 6]; rfl)
          have HL16 := WirS.hide hl16
          have HFD := WirS.hide (show (IntKind.u64.wrap n).fdiv (2 ^ 32) = IntKind.u64.wrap n / 2 ^ 32 from Int.fdiv_eq_ediv_of_nonneg _ (by decide))
          clear hl16
          go_upto_region 12 with fail
          refine wp_region_lit ?_
          refine sV (.pointer (some ⟨V, 12, none⟩)) (wr) (by kernel_rfl) (by kernel_rfl) ?_
          simp only [Act.put, List.setIfInBounds_toArray, List.set_cons_succ, List.set_cons_zero]
          refine sP (by kernel_rfl) _ _ (by rfl) ⟨V, 12, none⟩ (by kernel_rfl) (.int .u32 1359893119) c12 (by kernel_rfl) ?_
          simp only [Act.put, List.setIfInBounds_toArray, List.set_cons_succ, List.set_cons_zero]
          refine sV (.int .i64 n) (wr) (by kernel_rfl) (by kernel_rfl) ?_
          simp only [Act.put, List.setIfInBounds_toArray, List.set_cons_succ, List.set_cons_zero]
          refine sV (.int .u64 (IntKind.u64.wrap n)) (wr) (by kernel_rfl) (by kernel_rfl) ?_
          simp only [Act.put, List.setIfInBounds_toArray, List.set_cons_succ, List.set_cons_zero]
          refine sV (.int .u32 (IntKind.u32.wrap (IntKind.u64.wrap n))) (wr) (by kernel_rfl) (by kernel_rfl) ?_
          simp only [Act.put, List.setIfInBounds_toArray, List.set_cons_succ, List.set_cons_zero]
          refine sV (.int .u32 (bits .xor .u32 1359893119 (IntKind.u32.wrap (IntKind.u64.wrap n)))) (wr) (by kernel_rfl) (by kernel_rfl) ?_
          simp only [Act.put, List.setIfInBounds_toArray, List.set_cons_succ, List.set_cons_zero]
          refine sV (.pointer (some ⟨V, 12, none⟩)) (wr) (by kernel_rfl) (by kernel_rfl) ?_
          simp only [Act.put, List.setIfInBounds_toArray, List.set_cons_succ, List.set_cons_zero]
          refine stepW (by kernel_rfl) (fun K hK => store_u32 (x := .tmp 78) (y := .tmp 77) (by kernel_rfl) V (12) (bits .xor .u32 1359893119 (IntKind.u32.wrap (IntKind.u64.wrap n))) _ (by kernel_rfl) (by kernel_rfl) (HBG.out.head.cell 12) (by rw [w32_get _ 12 (by rw [HL16.out]; omega)]; rfl) (HBG.out.head.frozen 12) (hK _ _ ?_))
          simp only [Act.put]
          have hb1 := bag_set HBG.out 12 (.int .u32 (bits .xor .u32 1359893119 (IntKind.u32.wrap (IntKind.u64.wrap n))))
          clear c12 HBG
          rw [HW64.out, w32_set] at hb1
          rw [HW64.out]
          have HB1 := WirS.hide hb1
          clear hb1
          generalize World.setCell wr _ _ = u1 at *
          have c13 : u1.cell? ⟨V, 13, none⟩ = some (.int .u32 2600822924) := by rw [HB1.out.head.cell, ← w32_set, st_get _ 12 13 _ (by omega) (by rw [HL16.out]; omega), HC13.out]
          go_upto_region 13 with fail
          refine wp_region_lit ?_
          refine sV (.pointer (some ⟨V, 13, none⟩)) (u1) (by kernel_rfl) (by kernel_rfl) ?_
          simp only [Act.put, List.setIfInBounds_toArray, List.set_cons_succ, List.set_cons_zero]
          refine sP (by kernel_rfl) _ _ (by rfl) ⟨V, 13, none⟩ (by kernel_rfl) (.int .u32 2600822924) c13 (by kernel_rfl) ?_
          simp only [Act.put, List.setIfInBounds_toArray, List.set_cons_succ, List.set_cons_zero]
          refine sV (.int .i64 n) (u1) (by kernel_rfl) (by kernel_rfl) ?_
          simp only [Act.put, List.setIfInBounds_toArray, List.set_cons_succ, List.set_cons_zero]
          refine sV (.int .u64 (IntKind.u64.wrap n)) (u1) (by kernel_rfl) (by kernel_rfl) ?_
          simp only [Act.put, List.setIfInBounds_toArray, List.set_cons_succ, List.set_cons_zero]
          refine sV (.int .u64 (IntKind.u64.wrap n / 2 ^ 32)) u1 (by kernel_rfl) (by rw [← HFD.out]; kernel_rfl) ?_
          simp only [Act.put, List.setIfInBounds_toArray, List.set_cons_succ, List.set_cons_zero]
          refine sV (.int .u32 (IntKind.u32.wrap (IntKind.u64.wrap n / 2 ^ 32))) (u1) (by kernel_rfl) (by kernel_rfl) ?_
          simp only [Act.put, List.setIfInBounds_toArray, List.set_cons_succ, List.set_cons_zero]
          refine sV (.int .u32 (bits .xor .u32 2600822924 (IntKind.u32.wrap (IntKind.u64.wrap n / 2 ^ 32)))) (u1) (by kernel_rfl) (by kernel_rfl) ?_
          simp only [Act.put, List.setIfInBounds_toArray, List.set_cons_succ, List.set_cons_zero]
          refine sV (.pointer (some ⟨V, 13, none⟩)) (u1) (by kernel_rfl) (by kernel_rfl) ?_
          simp only [Act.put, List.setIfInBounds_toArray, List.set_cons_succ, List.set_cons_zero]
          refine stepW (by kernel_rfl) (fun K hK => store_u32 (x := .tmp 86) (y := .tmp 85) (by kernel_rfl) V (13) (bits .xor .u32 2600822924 (IntKind.u32.wrap (IntKind.u64.wrap n / 2 ^ 32))) _ (by kernel_rfl) (by kernel_rfl) (HB1.out.head.cell 13) (by rw [w32_get _ 13 (by rw [List.length_set, HL16.out]; omega)]; rfl) (HB1.out.head.frozen 13) (hK _ _ ?_))
          simp only [Act.put]
          have hb2 := bag_set HB1.out 13 (.int .u32 (bits .xor .u32 2600822924 (IntKind.u32.wrap (IntKind.u64.wrap n / 2 ^ 32))))
          clear c13 HB1
          rw [HW64.out, w32_set] at hb2
          rw [HW64.out]
          have HB2 := WirS.hide hb2
          clear hb2
          generalize World.setCell u1 _ _ = u2 at *
          have HC14' := WirS.hide (show u2.cell? ⟨V, 14, none⟩ = some (.int .u32 528734635) by rw [HB2.out.head.cell, ← w32_set, st_get _ 13 14 _ (by omega) (by rw [List.length_set, HL16.out]; omega), List.getD_eq_getElem?_getD, List.getElem?_set_ne (by omega), ← List.getD_eq_getElem?_getD, HC14.out])
          go_upto_if 87 with fail
          go_cut [] (fun wx => Hid (Bag w wx [box T16 V (w32 (BlkM.start h n lv)), box T16 M (w32 (wordsL b)), box T8 R (w32 (List.replicate 8 0)), box T8 H (w32 h)]))
          case first =>
            cases last
            · have e0 : lv = 0 := HLV.out
              subst e0
              have HB3 : Hid (Bag w u2 [box T16 V (w32 (BlkM.start h n 0)), box T16 M (w32 (wordsL b)), box T8 R (w32 (List.replicate 8 0)), box T8 H (w32 h)]) := by
                have e1 : BlkM.start h n 0 = ((h ++ ini).set 12 (xo 1359893119 (IntKind.u32.wrap n))).set 13 (xo 2600822924 (IntKind.u32.wrap (n / 2 ^ 32))) := by
                  unfold BlkM.start
                  rw [xo_zero _ (by decide) (by decide)]
                  apply List.ext_getElem?
                  intro i
                  by_cases e : 14 = i
                  · subst e
                    have hl : 14 < (((h ++ ini).set 12 (xo 1359893119 (IntKind.u32.wrap n))).set 13 (xo 2600822924 (IntKind.u32.wrap (n / 2 ^ 32)))).length := by rw [List.length_set, List.length_set, HL16.out]; omega
                    rw [List.getElem?_set_self hl, List.getElem?_set_ne (by omega), List.getElem?_set_ne (by omega)]
                    have h14 := HC14.out
                    rw [List.getD_eq_getElem?_getD] at h14
                    rw [List.getElem?_eq_getElem (by rw [HL16.out]; omega)] at h14 ⊢
                    simp only [Option.getD_some] at h14
                    rw [h14]
                  · rw [List.getElem?_set_ne e]
                rw [e1]
                exact HB2.out
              clear HB2 HC14'
              go_wp2_with fail
              go_meet
              exact HB3
            · have e0 : lv = 4294967295 := HLV.out
              subst e0
              have c14 := HC14'.out
              go_upto_region 15 with fail
              refine wp_region_lit ?_
              refine sV (.pointer (some ⟨V, 14, none⟩)) (u2) (by kernel_rfl) (by kernel_rfl) ?_
              simp only [Act.put, List.setIfInBounds_toArray, List.set_cons_succ, List.set_cons_zero]
              refine sP (by kernel_rfl) _ _ (by rfl) ⟨V, 14, none⟩ (by kernel_rfl) (.int .u32 528734635) c14 (by kernel_rfl) ?_
              simp only [Act.put, List.setIfInBounds_toArray, List.set_cons_succ, List.set_cons_zero]
              refine sV (.int .u32 3766232660) (u2) (by kernel_rfl) (by kernel_rfl) ?_
              simp only [Act.put, List.setIfInBounds_toArray, List.set_cons_succ, List.set_cons_zero]
              refine sV (.pointer (some ⟨V, 14, none⟩)) (u2) (by kernel_rfl) (by kernel_rfl) ?_
              simp only [Act.put, List.setIfInBounds_toArray, List.set_cons_succ, List.set_cons_zero]
              refine stepW (by kernel_rfl) (fun K hK => store_u32 (x := .tmp 91) (y := .tmp 90) (by kernel_rfl) V (14) (3766232660) _ (by kernel_rfl) (by kernel_rfl) (HB2.out.head.cell 14) (by rw [w32_get _ 14 (by rw [List.length_set, List.length_set, HL16.out]; omega)]; rfl) (HB2.out.head.frozen 14) (hK _ _ ?_))
              simp only [Act.put]
              have hb3 := bag_set HB2.out 14 (.int .u32 3766232660)
              rw [w32_set, show (3766232660 : Int) = xo 528734635 4294967295 by decide] at hb3
              rw [show (3766232660 : Int) = xo 528734635 4294967295 by decide]
              have HB3 := WirS.hide (show Bag w _ [box T16 V (w32 (BlkM.start h n 4294967295)), box T16 M (w32 (wordsL b)), box T8 R (w32 (List.replicate 8 0)), box T8 H (w32 h)] from hb3)
              clear HB2 HC14' c14 hb3
              generalize World.setCell u2 _ _ = u3 at *
              go_wp2_with fail
              go_meet
              exact HB3
          case rest =>
            clear HB2 HC14' HC14 HC13 HW64
            have HV0 := WirS.hide (BlkM.start_len h n lv hh)
            obtain ⟨v0, hv0⟩ : ∃ v0, BlkM.start h n lv = v0 := ⟨_, rfl⟩
            rw [hv0] at hcut HV0
            have HEV := WirS.hide hv0
            clear hv0
            have HST3 := WirS.hide (show Mid3 w M R H V h b v0 (.int .i64 0) wc from ⟨0, by omega, rfl, hcut.out⟩)
            clear hcut
            go_wp2_with fail
            go_loopw [13, 14, 15, 16] (fun i _ _ _ wr => Mid3 w M R H V h b v0 i wr) (fun i _ _ _ _ => 10 - (intOf i).toNat)
            case atStart => exact HST3.out
            case round =>
              clear HST3
              obtain ⟨r, hr, rfl, hbag⟩ := hrel
              by_cases hlt : r < 10
              · have hlt2 : (r : Int) < 10 := by omega
                have HBG := WirS.hide hbag
                have hrw := rrow_any wr r hlt
                obtain ⟨TR, htr⟩ : ∃ TR, i16 (table.getD r []) = TR := ⟨_, rfl⟩
                have HTL := WirS.hide (show TR.length = 16 by rw [← htr, i16, List.length_map]; exact tab_len r hlt)
                have HTO := WirS.hide (show TR.toArray.all (·.oneCell') = true by rw [← htr]; exact one_i16 _)
                rw [htr] at hrw
                have HRW := WirS.hide hrw
                have HTR := WirS.hide htr
                clear htr hrw
                clear hbag
                go_upto_region 19 with fail
                refine wp_region_lit ?_
                refine sV (.int .i64 (r : Int)) (wr) (by kernel_rfl) (by kernel_rfl) ?_
                simp only [Act.put, List.setIfInBounds_toArray, List.set_cons_succ, List.set_cons_zero]
                refine sC (by kernel_rfl) (by kernel_rfl) HRW.out ?_
                rintro u0 hb
                simp only [Act.put, List.setIfInBounds_toArray, List.set_cons_succ, List.set_cons_zero]
                have HB0 := WirS.hide (HBG.out.more hb)
                clear HBG hb
                refine sV (.pointer (some ⟨u0.heap.size, 0, none⟩)) (u0.alloc (.cells (i16 (List.replicate 16 0)).toArray TS)) (by kernel_rfl) (by kernel_rfl) ?_
                simp only [Act.put, List.setIfInBounds_toArray, List.set_cons_succ, List.set_cons_zero]
                obtain ⟨S, eS⟩ : ∃ A, u0.heap.size = A := ⟨_, rfl⟩
                have hbS := bag_box (T := TS) (cs := i16 (List.replicate 16 0)) (X := S) HB0.out eS.symm (w' := u0.alloc (.cells (i16 (List.replicate 16 0)).toArray TS)) (by rw [← eS]; exact At.new _ _ _) (Below.alloc (Below.refl _ _) (Nat.le_refl _) _)
                rw [eS]
                clear eS HB0
                generalize World.alloc u0 _ = u1 at *
                refine stepStore (by rfl) _ _ _ (by rfl) S TR (by kernel_rfl) (by kernel_rfl) hbS.head 16 (by kernel_rfl) (by rfl) HTL.out HTO.out ?_
                simp only [Act.put]
                have HST4 := WirS.hide (show Mid4 w M R H V S r TR h b (roundsL v0 (wordsL b) r) 0 (.int .i64 0) _ from ⟨0, by omega, rfl, (bag_row hbS TR).swap⟩)
                clear hbS
                generalize World.setRow u1 _ _ = u2 at *
                go_wp2_with fail
                go_loopw [15] (fun i wr => Mid4 w M R H V S r TR h b (roundsL v0 (wordsL b) r) 0 i wr) (fun i _ => 4 - (intOf i).toNat)
                case atStart => exact HST4.out
                case round =>
                  clear HST4
                  obtain ⟨k, hk, rfl, hbag⟩ := hrel
                  by_cases hk4 : k < 4
                  · have hk42 : (k : Int) < 4 := by omega
                    obtain ⟨P, hP⟩ : ∃ P, BlkM.part (roundsL v0 (wordsL b) r) (sched (wordsL b) r) (0 + k) = P := ⟨_, rfl⟩
                    rw [hP] at hbag
                    have hPl : P.length = 16 := by rw [← hP, part_len, roundsL_len]; exact HV0.out
                    have HBG := WirS.hide hbag
                    have HPP := WirS.hide hP
                    have HPL := WirS.hide hPl
                    clear hbag hP hPl
                    obtain ⟨j, hj⟩ : ∃ j : Nat, 2 * k = j := ⟨_, rfl⟩
                    obtain ⟨j2, hj2⟩ : ∃ j : Nat, 2 * k + 1 = j := ⟨_, rfl⟩
                    obtain ⟨bb, hbb⟩ : ∃ j : Nat, k + 4 = j := ⟨_, rfl⟩
                    obtain ⟨cc, hcc⟩ : ∃ j : Nat, k + 8 = j := ⟨_, rfl⟩
                    obtain ⟨dd, hdd⟩ : ∃ j : Nat, k + 12 = j := ⟨_, rfl⟩
                    have hjl : j < 16 := by omega
                    have hj2l : j2 < 16 := by omega
                    have f1 : IntKind.i64.wrap ((k : Int) + 4) = (bb : Int) := by rw [IntWalk.i64_in _ (by omega)]; omega
                    have f2 : IntKind.i64.wrap ((k : Int) + 8) = (cc : Int) := by rw [IntWalk.i64_in _ (by omega)]; omega
                    have f3 : IntKind.i64.wrap ((k : Int) + 12) = (dd : Int) := by rw [IntWalk.i64_in _ (by omega)]; omega
                    have f4 : IntKind.i64.wrap (2 * (k : Int)) = (j : Int) := by rw [IntWalk.i64_in _ (by omega)]; omega
                    have f5 : IntKind.i64.wrap ((j : Int) + 1) = (j2 : Int) := by rw [IntWalk.i64_in _ (by omega)]; omega
                    have HJ := WirS.hide (And.intro hbb (And.intro hcc (And.intro hdd (And.intro hj hj2))))
                    have r1 : k ≠ bb ∧ k ≠ cc ∧ k ≠ dd ∧ bb ≠ cc ∧ bb ≠ dd ∧ cc ≠ dd ∧ bb < 16 ∧ cc < 16 ∧ dd < 16 := by omega
                    clear hj hj2 hbb hcc hdd
                    obtain ⟨t1, ht1⟩ : ∃ t, (table.getD r []).getD j 0 = t := ⟨_, rfl⟩
                    obtain ⟨t2, ht2⟩ : ∃ t, (table.getD r []).getD j2 0 = t := ⟨_, rfl⟩
                    have l1 : t1 < 16 := by rw [← ht1]; exact tab_lt r hlt _ hjl
                    have l2 : t2 < 16 := by rw [← ht2]; exact tab_lt r hlt _ hj2l
                    obtain ⟨x, hx⟩ : ∃ x, (wordsL b).getD t1 0 = x := ⟨_, rfl⟩
                    obtain ⟨y, hy⟩ : ∃ y, (wordsL b).getD t2 0 = y := ⟨_, rfl⟩
                    have HSH : Hid (∀ (U : World) (cs : List Value), Bag w U [box T16 V cs, box TS S TR, box T16 M (w32 (wordsL b)), box T8 R (w32 (List.replicate 8 0)), box T8 H (w32 h)] → (U.cell? ⟨S, j, none⟩ = some (.int .i64 (t1 : Int)) ∧ U.cell? ⟨S, j2, none⟩ = some (.int .i64 (t2 : Int)) ∧ U.cell? ⟨M, t1, none⟩ = some (.int .u32 x) ∧ U.cell? ⟨M, t2, none⟩ = some (.int .u32 y))) := WirS.hide (fun U cs hb => ⟨by rw [hb.drop.head.cell, ← HTR.out, i16_get _ j (by rw [tab_len r hlt]; exact hjl), ht1], by rw [hb.drop.head.cell, ← HTR.out, i16_get _ j2 (by rw [tab_len r hlt]; exact hj2l), ht2], by rw [hb.drop.drop.head.cell, w32_get _ t1 (by rw [wordsL_len]; exact l1), hx], by rw [hb.drop.drop.head.cell, w32_get _ t2 (by rw [wordsL_len]; exact l2), hy]⟩)
                    have hMX : BlkM.part (roundsL v0 (wordsL b) r) (sched (wordsL b) r) (0 + (k + 1)) = mixL P k bb cc dd x y := by
                      have e := part_first (roundsL v0 (wordsL b) r) (sched (wordsL b) r) k hk4
                      have e2 := HPP.out
                      rw [Nat.zero_add] at e2 ⊢
                      rw [e, sched_get _ r hlt _ (by omega), sched_get _ r hlt _ (by omega), e2, HJ.out.1, HJ.out.2.1, HJ.out.2.2.1, HJ.out.2.2.2.2, HJ.out.2.2.2.1, ht1, ht2, hx, hy]
                    obtain ⟨Q, hQ⟩ : ∃ Q, mixL P k bb cc dd x y = Q := ⟨_, rfl⟩
                    have HQL := WirS.hide (show Q.length = 16 by rw [← hQ, mixL_len]; exact HPL.out)
                    have HC := WirS.hide (fun U => rmix_any U k bb cc dd P x y HPL.out (by omega) (by omega) (by omega) (by omega) (by omega) (by omega) (by omega) (by omega) (by omega) (by omega))
                    rw [hQ] at hMX HC
                    have HMX := WirS.hide hMX
                    clear ht1 ht2 hx hy hQ hMX
                    have HBZ : Hid (Bag w wr.drew [box T16 V (w32 P), box TS S TR, box T16 M (w32 (wordsL b)), box T8 R (w32 (List.replicate 8 0)), box T8 H (w32 h)]) := WirS.hide (HBG.out.more (below_drewN (Below.refl _ _) 1))
                    clear HBG HPP
                    go_upto_region 23 with fail
                    refine wp_region_noPanic ?_
                    refine wp_region_held_drew (S := fun w' => w'.cell? ⟨S, j, none⟩ = some (.int .i64 (t1 : Int)) ∧ w'.cell? ⟨S, j2, none⟩ = some (.int .i64 (t2 : Int)) ∧ w'.cell? ⟨M, t1, none⟩ = some (.int .u32 x) ∧ w'.cell? ⟨M, t2, none⟩ = some (.int .u32 y)) (by kernel_rfl) (HSH.out _ _ HBZ.out) (fun hHeld => ?_)
                    generalize World.drew wr = z0 at *
                    refine' wpAnyH_take (i := 1) (oi := _) (v := _) rfl (by kernel_rfl) (by kernel_rfl) (by kernel_rfl) (fun _ _ _ h => h) (Or.inl ⟨by kernel_rfl, ?hy1⟩) (by assumption) ?rest1
                    case hy1 =>
                      intro w hSw
                      try dsimp only at hSw
                      go_simp
                      try with_reducible rfl
                    case rest1 =>
                    try simp only [List.getElem_toArray, List.getElem_cons_succ, List.getElem_cons_zero, Act.put, List.setIfInBounds_toArray, List.set_cons_zero, List.set_cons_succ]
                    refine' wpAnyH_take (i := 2) (oi := _) (v := _) rfl (by kernel_rfl) (by kernel_rfl) (by kernel_rfl) (fun _ _ _ h => h) (Or.inl ⟨by kernel_rfl, ?hy2⟩) (by assumption) ?rest2
                    case hy2 =>
                      intro w hSw
                      try dsimp only at hSw
                      go_simp
                      try with_reducible rfl
                    case rest2 =>
                    try simp only [List.getElem_toArray, List.getElem_cons_succ, List.getElem_cons_zero, Act.put, List.setIfInBounds_toArray, List.set_cons_zero, List.set_cons_succ]
                    refine' wpAnyH_take (i := 3) (oi := _) (v := _) rfl (by kernel_rfl) (by kernel_rfl) (by kernel_rfl) (fun _ _ _ h => h) (Or.inl ⟨by kernel_rfl, ?hy3⟩) (by assumption) ?rest3
                    case hy3 =>
                      intro w hSw
                      try dsimp only at hSw
                      go_simp
                      try with_reducible rfl
                    case rest3 =>
                    try simp only [List.getElem_toArray, List.getElem_cons_succ, List.getElem_cons_zero, Act.put, List.setIfInBounds_toArray, List.set_cons_zero, List.set_cons_succ]
                    refine' wpAnyH_take (i := 4) (oi := _) (v := _) rfl (by kernel_rfl) (by kernel_rfl) (by kernel_rfl) (fun _ _ _ h => h) (Or.inl ⟨by kernel_rfl, ?hy4⟩) (by assumption) ?rest4
                    case hy4 =>
                      intro w hSw
                      try dsimp only at hSw
                      go_simp
                      try with_reducible rfl
                    case rest4 =>
                    try simp only [List.getElem_toArray, List.getElem_cons_succ, List.getElem_cons_zero, Act.put, List.setIfInBounds_toArray, List.set_cons_zero, List.set_cons_succ]
                    refine' wpAnyH_take (i := 5) (oi := _) (v := _) rfl (by kernel_rfl) (by kernel_rfl) (by kernel_rfl) (fun _ _ _ h => h) (Or.inl ⟨by kernel_rfl, ?hy5⟩) (by assumption) ?rest5
                    case hy5 =>
                      intro w hSw
                      try dsimp only at hSw
                      go_simp
                      try with_reducible rfl
                    case rest5 =>
                    try simp only [List.getElem_toArray, List.getElem_cons_succ, List.getElem_cons_zero, Act.put, List.setIfInBounds_toArray, List.set_cons_zero, List.set_cons_succ]
                    refine' wpAnyH_take (i := 6) (oi := _) (v := _) rfl (by kernel_rfl) (by kernel_rfl) (by kernel_rfl) (fun _ _ _ h => h) (Or.inl ⟨by kernel_rfl, ?hy6⟩) (by assumption) ?rest6
                    case hy6 =>
                      intro w hSw
                      try dsimp only at hSw
                      go_simp
                      try with_reducible rfl
                    case rest6 =>
                    try simp only [List.getElem_toArray, List.getElem_cons_succ, List.getElem_cons_zero, Act.put, List.setIfInBounds_toArray, List.set_cons_zero, List.set_cons_succ]
                    refine' wpAnyH_take (i := 7) (oi := _) (v := _) rfl (by kernel_rfl) (by kernel_rfl) (by kernel_rfl) (fun _ _ _ h => h) (Or.inl ⟨by kernel_rfl, ?hy7⟩) (by assumption) ?rest7
                    case hy7 =>
                      intro w hSw
                      try dsimp only at hSw
                      go_simp
                      try with_reducible rfl
                    case rest7 =>
                    try simp only [List.getElem_toArray, List.getElem_cons_succ, List.getElem_cons_zero, Act.put, List.setIfInBounds_toArray, List.set_cons_zero, List.set_cons_succ]
                    refine' wpAnyH_take (i := 8) (oi := _) (v := _) rfl (by kernel_rfl) (by kernel_rfl) (by kernel_rfl) (fun _ _ _ h => h) (Or.inl ⟨by kernel_rfl, ?hy8⟩) (by assumption) ?rest8
                    case hy8 =>
                      intro w hSw
                      try dsimp only at hSw
                      go_simp
                      try with_reducible rfl
                    case rest8 =>
                    try simp only [List.getElem_toArray, List.getElem_cons_succ, List.getElem_cons_zero, Act.put, List.setIfInBounds_toArray, List.set_cons_zero, List.set_cons_succ]
                    refine' wpAnyH_take (i := 9) (oi := _) (v := _) rfl (by kernel_rfl) (by kernel_rfl) (by kernel_rfl) (fun _ _ _ h => h) (Or.inl ⟨by kernel_rfl, ?hy9⟩) (by assumption) ?rest9
                    case hy9 =>
                      intro w hSw
                      try dsimp only at hSw
                      go_simp
                      try with_reducible rfl
                    case rest9 =>
                    try simp only [List.getElem_toArray, List.getElem_cons_succ, List.getElem_cons_zero, Act.put, List.setIfInBounds_toArray, List.set_cons_zero, List.set_cons_succ]
                    refine' wpAnyH_take (i := 10) (oi := _) (v := .pointer (some ⟨S, j, none⟩)) rfl (by kernel_rfl) (by kernel_rfl) (by kernel_rfl) (fun _ _ _ h => h) (Or.inl ⟨by kernel_rfl, ?hy10⟩) (by assumption) ?rest10
                    case hy10 =>
                      intro W _
                      exact (fun W => opS _ _ _ _ S j rfl (by kernel_rfl) (by kernel_rfl) hjl W) W
                    case rest10 =>
                    try simp only [List.getElem_toArray, List.getElem_cons_succ, List.getElem_cons_zero, Act.put, List.setIfInBounds_toArray, List.set_cons_zero, List.set_cons_succ]
                    refine' wpAnyH_take (i := 11) (oi := _) (v := _) rfl (by kernel_rfl) (by kernel_rfl) (by kernel_rfl) (fun _ _ _ h => h) (Or.inl ⟨by kernel_rfl, ?hy11⟩) (by assumption) ?rest11
                    case hy11 =>
                      intro w hSw
                      try dsimp only at hSw
                      go_simp
                      try with_reducible rfl
                    case rest11 =>
                    try simp only [List.getElem_toArray, List.getElem_cons_succ, List.getElem_cons_zero, Act.put, List.setIfInBounds_toArray, List.set_cons_zero, List.set_cons_succ]
                    refine' wpAnyH_take (i := 12) (oi := _) (v := .pointer (some ⟨M, t1, none⟩)) rfl (by kernel_rfl) (by kernel_rfl) (by kernel_rfl) (fun _ _ _ h => h) (Or.inl ⟨by kernel_rfl, ?hy12⟩) (by assumption) ?rest12
                    case hy12 =>
                      intro W _
                      exact (fun W => opM _ _ _ _ M t1 rfl (by kernel_rfl) (by kernel_rfl) l1 W) W
                    case rest12 =>
                    try simp only [List.getElem_toArray, List.getElem_cons_succ, List.getElem_cons_zero, Act.put, List.setIfInBounds_toArray, List.set_cons_zero, List.set_cons_succ]
                    refine' wpAnyH_take (i := 13) (oi := _) (v := _) rfl (by kernel_rfl) (by kernel_rfl) (by kernel_rfl) (fun _ _ _ h => h) (Or.inl ⟨by kernel_rfl, ?hy13⟩) (by assumption) ?rest13
                    case hy13 =>
                      intro w hSw
                      try dsimp only at hSw
                      go_simp
                      try with_reducible rfl
                    case rest13 =>
                    try simp only [List.getElem_toArray, List.getElem_cons_succ, List.getElem_cons_zero, Act.put, List.setIfInBounds_toArray, List.set_cons_zero, List.set_cons_succ]
                    refine' wpAnyH_take (i := 14) (oi := _) (v := _) rfl (by kernel_rfl) (by kernel_rfl) (by kernel_rfl) (fun _ _ _ h => h) (Or.inl ⟨by kernel_rfl, ?hy14⟩) (by assumption) ?rest14
                    case hy14 =>
                      intro w hSw
                      try dsimp only at hSw
                      go_simp
                      try with_reducible rfl
                    case rest14 =>
                    try simp only [List.getElem_toArray, List.getElem_cons_succ, List.getElem_cons_zero, Act.put, List.setIfInBounds_toArray, List.set_cons_zero, List.set_cons_succ]
                    refine' wpAnyH_take (i := 15) (oi := _) (v := _) rfl (by kernel_rfl) (by kernel_rfl) (by kernel_rfl) (fun _ _ _ h => h) (Or.inl ⟨by kernel_rfl, ?hy15⟩) (by assumption) ?rest15
                    case hy15 =>
                      intro w hSw
                      try dsimp only at hSw
                      go_simp
                      try with_reducible rfl
                    case rest15 =>
                    try simp only [List.getElem_toArray, List.getElem_cons_succ, List.getElem_cons_zero, Act.put, List.setIfInBounds_toArray, List.set_cons_zero, List.set_cons_succ]
                    refine' wpAnyH_take (i := 16) (oi := _) (v := _) rfl (by kernel_rfl) (by kernel_rfl) (by kernel_rfl) (fun _ _ _ h => h) (Or.inl ⟨by kernel_rfl, ?hy16⟩) (by assumption) ?rest16
                    case hy16 =>
                      intro w hSw
                      try dsimp only at hSw
                      go_simp
                      try with_reducible rfl
                    case rest16 =>
                    try simp only [List.getElem_toArray, List.getElem_cons_succ, List.getElem_cons_zero, Act.put, List.setIfInBounds_toArray, List.set_cons_zero, List.set_cons_succ]
                    refine' wpAnyH_take (i := 17) (oi := _) (v := .pointer (some ⟨S, j2, none⟩)) rfl (by kernel_rfl) (by kernel_rfl) (by kernel_rfl) (fun _ _ _ h => h) (Or.inl ⟨by kernel_rfl, ?hy17⟩) (by assumption) ?rest17
                    case hy17 =>
                      intro W _
                      exact (fun W => opS _ _ _ _ S j2 rfl (by kernel_rfl) (by kernel_rfl) hj2l W) W
                    case rest17 =>
                    try simp only [List.getElem_toArray, List.getElem_cons_succ, List.getElem_cons_zero, Act.put, List.setIfInBounds_toArray, List.set_cons_zero, List.set_cons_succ]
                    refine' wpAnyH_take (i := 18) (oi := _) (v := _) rfl (by kernel_rfl) (by kernel_rfl) (by kernel_rfl) (fun _ _ _ h => h) (Or.inl ⟨by kernel_rfl, ?hy18⟩) (by assumption) ?rest18
                    case hy18 =>
                      intro w hSw
                      try dsimp only at hSw
                      go_simp
                      try with_reducible rfl
                    case rest18 =>
                    try simp only [List.getElem_toArray, List.getElem_cons_succ, List.getElem_cons_zero, Act.put, List.setIfInBounds_toArray, List.set_cons_zero, List.set_cons_succ]
                    refine' wpAnyH_take (i := 19) (oi := _) (v := .pointer (some ⟨M, t2, none⟩)) rfl (by kernel_rfl) (by kernel_rfl) (by kernel_rfl) (fun _ _ _ h => h) (Or.inl ⟨by kernel_rfl, ?hy19⟩) (by assumption) ?rest19
                    case hy19 =>
                      intro W _
                      exact (fun W => opM _ _ _ _ M t2 rfl (by kernel_rfl) (by kernel_rfl) l2 W) W
                    case rest19 =>
                    try simp only [List.getElem_toArray, List.getElem_cons_succ, List.getElem_cons_zero, Act.put, List.setIfInBounds_toArray, List.set_cons_zero, List.set_cons_succ]
                    refine' wpAnyH_take (i := 20) (oi := _) (v := _) rfl (by kernel_rfl) (by kernel_rfl) (by kernel_rfl) (fun _ _ _ h => h) (Or.inl ⟨by kernel_rfl, ?hy20⟩) (by assumption) ?rest20
                    case hy20 =>
                      intro w hSw
                      try dsimp only at hSw
                      go_simp
                      try with_reducible rfl
                    case rest20 =>
                    try simp only [List.getElem_toArray, List.getElem_cons_succ, List.getElem_cons_zero, Act.put, List.setIfInBounds_toArray, List.set_cons_zero, List.set_cons_succ]
                    refine wpAnyH_ready (rs := [0]) (by kernel_rfl) (by simp) ?_
                    refine AllReadyH.cons rfl (fun K hK => ?_) AllReadyH.nil
                    rw [if_pos (by kernel_rfl)]
                    refine wp_load_row 131 (.tmp 11) (by kernel_rfl) V (by kernel_rfl) T16 (w32 P).toArray (0, 0) _ HBZ.out.head Tryz.underlying131 (by rfl) (by rw [List.size_toArray, w32_len, HPL.out]; kernel_rfl) ?_
                    try simp only [List.getElem_toArray, List.getElem_cons_zero, Act.put, List.setIfInBounds_toArray, List.set_cons_zero, List.set_cons_succ]
                    refine hK.out _ _ (HSH.out _ _ HBZ.out) (fun hHeld => ?_)
                    clear hK K
                    refine wpAnyH_ready (rs := [21]) (by kernel_rfl) (by simp) ?_
                    refine AllReadyH.cons rfl (fun K hK => ?_) AllReadyH.nil
                    rw [if_pos (by kernel_rfl)]
                    refine stepCallH (v := .agg (w32 Q).toArray) (R := fun w' => Below z0.heap.size z0 w') (by kernel_rfl) (HC.out z0) ?_
                    intro z1 hb
                    try simp only [List.getElem_toArray, List.getElem_cons_succ, List.getElem_cons_zero, Act.put, List.setIfInBounds_toArray, List.set_cons_zero, List.set_cons_succ]
                    have HB1 := WirS.hide (HBZ.out.more hb)
                    clear hb
                    refine hK.out _ _ (HSH.out _ _ HB1.out) (fun hHeld => ?_)
                    clear hK K
                    refine wpAnyH_ready (rs := [22]) (by kernel_rfl) (by simp) ?_
                    refine AllReadyH.cons rfl (fun K hK => ?_) AllReadyH.nil
                    rw [if_pos (by kernel_rfl)]
                    refine wp_store_row 131 (.tmp 11) (.tmp 123) (by kernel_rfl) V (w32 Q).toArray (by kernel_rfl) (by kernel_rfl) T16 (w32 P).toArray HB1.out.head (by rw [List.size_toArray, w32_len, HQL.out]; kernel_rfl) (by rw [List.size_toArray, List.size_toArray, w32_len, w32_len, HPL.out, HQL.out]) (oneCells_w32 _) ?_
                    have HB2 := WirS.hide (bag_row HB1.out (w32 Q))
                    refine hK.out _ _ (HSH.out _ _ HB2.out) (fun hHeld => ?_)
                    clear hK K
                    try simp only [Act.put]
                    refine wpAnyH_done (by kernel_rfl) ?_ _
                    refine NoPanic.normal ?_
                    clear hHeld
                    generalize World.setRow z1 _ _ = z2 at *
                    skip
                    go_wp2_with fail
                    go_roundw
                    case rel => exact ⟨k + 1, by omega, by go_num, by rw [HMX.out]; exact HB2.out⟩
                    case measure => simp [intOf]; omega
                  · obtain rfl : k = 4 := by omega
                    rw [show ((4 : Nat) : Int) = 4 from rfl]
                    have HST5 := WirS.hide (show Mid4 w M R H V S r TR h b (roundsL v0 (wordsL b) r) 4 (.int .i64 0) wr from ⟨0, by omega, rfl, hbag⟩)
                    clear hbag
                    go_wp2_with fail
                    go_loopw [16] (fun i wr => Mid4 w M R H V S r TR h b (roundsL v0 (wordsL b) r) 4 i wr) (fun i _ => 4 - (intOf i).toNat)
                    case atStart => exact HST5.out
                    case round =>
                      clear HST5
                      obtain ⟨k, hk, rfl, hbag⟩ := hrel
                      by_cases hk4 : k < 4
                      · have hk42 : (k : Int) < 4 := by omega
                        obtain ⟨P, hP⟩ : ∃ P, BlkM.part (roundsL v0 (wordsL b) r) (sched (wordsL b) r) (4 + k) = P := ⟨_, rfl⟩
                        rw [hP] at hbag
                        have hPl : P.length = 16 := by rw [← hP, part_len, roundsL_len]; exact HV0.out
                        have HBG := WirS.hide hbag
                        have HPP := WirS.hide hP
                        have HPL := WirS.hide hPl
                        clear hbag hP hPl
                        obtain ⟨b1, b2, c1, c2, d1, d2, bb, cc, dd, j0, j, j2, f1, f1a, f1b, f1d, f1c, f2, f2a, f2b, f2d, f2c, f3, f3a, f3b, f3d, f3c, f4, f5, f6, hjl, hj2l, r1, hj⟩ := places2 k hk4
                        have HJ := WirS.hide hj
                        clear hj
                        obtain ⟨t1, ht1⟩ : ∃ t, (table.getD r []).getD j 0 = t := ⟨_, rfl⟩
                        obtain ⟨t2, ht2⟩ : ∃ t, (table.getD r []).getD j2 0 = t := ⟨_, rfl⟩
                        have l1 : t1 < 16 := by rw [← ht1]; exact tab_lt r hlt _ hjl
                        have l2 : t2 < 16 := by rw [← ht2]; exact tab_lt r hlt _ hj2l
                        obtain ⟨x, hx⟩ : ∃ x, (wordsL b).getD t1 0 = x := ⟨_, rfl⟩
                        obtain ⟨y, hy⟩ : ∃ y, (wordsL b).getD t2 0 = y := ⟨_, rfl⟩
                        have HSH : Hid (∀ (U : World) (cs : List Value), Bag w U [box T16 V cs, box TS S TR, box T16 M (w32 (wordsL b)), box T8 R (w32 (List.replicate 8 0)), box T8 H (w32 h)] → (U.cell? ⟨S, j, none⟩ = some (.int .i64 (t1 : Int)) ∧ U.cell? ⟨S, j2, none⟩ = some (.int .i64 (t2 : Int)) ∧ U.cell? ⟨M, t1, none⟩ = some (.int .u32 x) ∧ U.cell? ⟨M, t2, none⟩ = some (.int .u32 y))) := WirS.hide (fun U cs hb => ⟨by rw [hb.drop.head.cell, ← HTR.out, i16_get _ j (by rw [tab_len r hlt]; exact hjl), ht1], by rw [hb.drop.head.cell, ← HTR.out, i16_get _ j2 (by rw [tab_len r hlt]; exact hj2l), ht2], by rw [hb.drop.drop.head.cell, w32_get _ t1 (by rw [wordsL_len]; exact l1), hx], by rw [hb.drop.drop.head.cell, w32_get _ t2 (by rw [wordsL_len]; exact l2), hy]⟩)
                        have hMX : BlkM.part (roundsL v0 (wordsL b) r) (sched (wordsL b) r) (4 + (k + 1)) = mixL P k bb cc dd x y := by
                          have e := part_second (roundsL v0 (wordsL b) r) (sched (wordsL b) r) k hk4
                          have e2 := HPP.out
                          skip
                          rw [e, sched_get _ r hlt _ (by omega), sched_get _ r hlt _ (by omega), e2, HJ.out.1, HJ.out.2.1, HJ.out.2.2.1, HJ.out.2.2.2.2, HJ.out.2.2.2.1, ht1, ht2, hx, hy]
                        obtain ⟨Q, hQ⟩ : ∃ Q, mixL P k bb cc dd x y = Q := ⟨_, rfl⟩
                        have HQL := WirS.hide (show Q.length = 16 by rw [← hQ, mixL_len]; exact HPL.out)
                        have HC := WirS.hide (fun U => rmix_any U k bb cc dd P x y HPL.out (by omega) (by omega) (by omega) (by omega) (by omega) (by omega) (by omega) (by omega) (by omega) (by omega))
                        rw [hQ] at hMX HC
                        have HMX := WirS.hide hMX
                        clear ht1 ht2 hx hy hQ hMX
                        have HBZ : Hid (Bag w wr.drew [box T16 V (w32 P), box TS S TR, box T16 M (w32 (wordsL b)), box T8 R (w32 (List.replicate 8 0)), box T8 H (w32 h)]) := WirS.hide (HBG.out.more (below_drewN (Below.refl _ _) 1))
                        clear HBG HPP
                        go_upto_region 27 with fail
                        refine wp_region_noPanic ?_
                        refine wp_region_held_drew (S := fun w' => w'.cell? ⟨S, j, none⟩ = some (.int .i64 (t1 : Int)) ∧ w'.cell? ⟨S, j2, none⟩ = some (.int .i64 (t2 : Int)) ∧ w'.cell? ⟨M, t1, none⟩ = some (.int .u32 x) ∧ w'.cell? ⟨M, t2, none⟩ = some (.int .u32 y)) (by kernel_rfl) (HSH.out _ _ HBZ.out) (fun hHeld => ?_)
                        generalize World.drew wr = z0 at *
                        refine' wpAnyH_take (i := 1) (oi := _) (v := _) rfl (by kernel_rfl) (by kernel_rfl) (by kernel_rfl) (fun _ _ _ h => h) (Or.inl ⟨by kernel_rfl, ?hy1⟩) (by assumption) ?rest1
                        case hy1 =>
                          intro w hSw
                          try dsimp only at hSw
                          go_simp
                          try with_reducible rfl
                        case rest1 =>
                        try simp only [List.getElem_toArray, List.getElem_cons_succ, List.getElem_cons_zero, Act.put, List.setIfInBounds_toArray, List.set_cons_zero, List.set_cons_succ]
                        refine' wpAnyH_take (i := 2) (oi := _) (v := _) rfl (by kernel_rfl) (by kernel_rfl) (by kernel_rfl) (fun _ _ _ h => h) (Or.inl ⟨by kernel_rfl, ?hy2⟩) (by assumption) ?rest2
                        case hy2 =>
                          intro w hSw
                          try dsimp only at hSw
                          go_simp
                          try with_reducible rfl
                        case rest2 =>
                        try simp only [List.getElem_toArray, List.getElem_cons_succ, List.getElem_cons_zero, Act.put, List.setIfInBounds_toArray, List.set_cons_zero, List.set_cons_succ]
                        refine' wpAnyH_take (i := 3) (oi := _) (v := _) rfl (by kernel_rfl) (by kernel_rfl) (by kernel_rfl) (fun _ _ _ h => h) (Or.inl ⟨by kernel_rfl, ?hy3⟩) (by assumption) ?rest3
                        case hy3 =>
                          intro w hSw
                          try dsimp only at hSw
                          go_simp
                          try with_reducible rfl
                        case rest3 =>
                        try simp only [List.getElem_toArray, List.getElem_cons_succ, List.getElem_cons_zero, Act.put, List.setIfInBounds_toArray, List.set_cons_zero, List.set_cons_succ]
                        refine' wpAnyH_take (i := 4) (oi := _) (v := _) rfl (by kernel_rfl) (by kernel_rfl) (by kernel_rfl) (fun _ _ _ h => h) (Or.inl ⟨by kernel_rfl, ?hy4⟩) (by assumption) ?rest4
                        case hy4 =>
                          intro w hSw
                          try dsimp only at hSw
                          go_simp
                          try with_reducible rfl
                        case rest4 =>
                        try simp only [List.getElem_toArray, List.getElem_cons_succ, List.getElem_cons_zero, Act.put, List.setIfInBounds_toArray, List.set_cons_zero, List.set_cons_succ]
                        refine' wpAnyH_take (i := 5) (oi := _) (v := _) rfl (by kernel_rfl) (by kernel_rfl) (by kernel_rfl) (fun _ _ _ h => h) (Or.inl ⟨by kernel_rfl, ?hy5⟩) (by assumption) ?rest5
                        case hy5 =>
                          intro w hSw
                          try dsimp only at hSw
                          go_simp
                          try with_reducible rfl
                        case rest5 =>
                        try simp only [List.getElem_toArray, List.getElem_cons_succ, List.getElem_cons_zero, Act.put, List.setIfInBounds_toArray, List.set_cons_zero, List.set_cons_succ]
                        refine' wpAnyH_take (i := 6) (oi := _) (v := _) rfl (by kernel_rfl) (by kernel_rfl) (by kernel_rfl) (fun _ _ _ h => h) (Or.inl ⟨by kernel_rfl, ?hy6⟩) (by assumption) ?rest6
                        case hy6 =>
                          intro w hSw
                          try dsimp only at hSw
                          go_simp
                          try with_reducible rfl
                        case rest6 =>
                        try simp only [List.getElem_toArray, List.getElem_cons_succ, List.getElem_cons_zero, Act.put, List.setIfInBounds_toArray, List.set_cons_zero, List.set_cons_succ]
                        refine' wpAnyH_take (i := 7) (oi := _) (v := _) rfl (by kernel_rfl) (by kernel_rfl) (by kernel_rfl) (fun _ _ _ h => h) (Or.inl ⟨by kernel_rfl, ?hy7⟩) (by assumption) ?rest7
                        case hy7 =>
                          intro w hSw
                          try dsimp only at hSw
                          go_simp
                          try with_reducible rfl
                        case rest7 =>
                        try simp only [List.getElem_toArray, List.getElem_cons_succ, List.getElem_cons_zero, Act.put, List.setIfInBounds_toArray, List.set_cons_zero, List.set_cons_succ]
                        refine' wpAnyH_take (i := 8) (oi := _) (v := _) rfl (by kernel_rfl) (by kernel_rfl) (by kernel_rfl) (fun _ _ _ h => h) (Or.inl ⟨by kernel_rfl, ?hy8⟩) (by assumption) ?rest8
                        case hy8 =>
                          intro w hSw
                          try dsimp only at hSw
                          go_simp
                          try with_reducible rfl
                        case rest8 =>
                        try simp only [List.getElem_toArray, List.getElem_cons_succ, List.getElem_cons_zero, Act.put, List.setIfInBounds_toArray, List.set_cons_zero, List.set_cons_succ]
                        refine' wpAnyH_take (i := 9) (oi := _) (v := _) rfl (by kernel_rfl) (by kernel_rfl) (by kernel_rfl) (fun _ _ _ h => h) (Or.inl ⟨by kernel_rfl, ?hy9⟩) (by assumption) ?rest9
                        case hy9 =>
                          intro w hSw
                          try dsimp only at hSw
                          go_simp
                          try with_reducible rfl
                        case rest9 =>
                        try simp only [List.getElem_toArray, List.getElem_cons_succ, List.getElem_cons_zero, Act.put, List.setIfInBounds_toArray, List.set_cons_zero, List.set_cons_succ]
                        refine' wpAnyH_take (i := 10) (oi := _) (v := _) rfl (by kernel_rfl) (by kernel_rfl) (by kernel_rfl) (fun _ _ _ h => h) (Or.inl ⟨by kernel_rfl, ?hy10⟩) (by assumption) ?rest10
                        case hy10 =>
                          intro w hSw
                          try dsimp only at hSw
                          go_simp
                          try with_reducible rfl
                        case rest10 =>
                        try simp only [List.getElem_toArray, List.getElem_cons_succ, List.getElem_cons_zero, Act.put, List.setIfInBounds_toArray, List.set_cons_zero, List.set_cons_succ]
                        refine' wpAnyH_take (i := 11) (oi := _) (v := _) rfl (by kernel_rfl) (by kernel_rfl) (by kernel_rfl) (fun _ _ _ h => h) (Or.inl ⟨by kernel_rfl, ?hy11⟩) (by assumption) ?rest11
                        case hy11 =>
                          intro w hSw
                          try dsimp only at hSw
                          go_simp
                          try with_reducible rfl
                        case rest11 =>
                        try simp only [List.getElem_toArray, List.getElem_cons_succ, List.getElem_cons_zero, Act.put, List.setIfInBounds_toArray, List.set_cons_zero, List.set_cons_succ]
                        refine' wpAnyH_take (i := 12) (oi := _) (v := _) rfl (by kernel_rfl) (by kernel_rfl) (by kernel_rfl) (fun _ _ _ h => h) (Or.inl ⟨by kernel_rfl, ?hy12⟩) (by assumption) ?rest12
                        case hy12 =>
                          intro w hSw
                          try dsimp only at hSw
                          go_simp
                          try with_reducible rfl
                        case rest12 =>
                        try simp only [List.getElem_toArray, List.getElem_cons_succ, List.getElem_cons_zero, Act.put, List.setIfInBounds_toArray, List.set_cons_zero, List.set_cons_succ]
                        refine' wpAnyH_take (i := 13) (oi := _) (v := _) rfl (by kernel_rfl) (by kernel_rfl) (by kernel_rfl) (fun _ _ _ h => h) (Or.inl ⟨by kernel_rfl, ?hy13⟩) (by assumption) ?rest13
                        case hy13 =>
                          intro w hSw
                          try dsimp only at hSw
                          go_simp
                          try with_reducible rfl
                        case rest13 =>
                        try simp only [List.getElem_toArray, List.getElem_cons_succ, List.getElem_cons_zero, Act.put, List.setIfInBounds_toArray, List.set_cons_zero, List.set_cons_succ]
                        refine' wpAnyH_take (i := 14) (oi := _) (v := _) rfl (by kernel_rfl) (by kernel_rfl) (by kernel_rfl) (fun _ _ _ h => h) (Or.inl ⟨by kernel_rfl, ?hy14⟩) (by assumption) ?rest14
                        case hy14 =>
                          intro w hSw
                          try dsimp only at hSw
                          go_simp
                          try with_reducible rfl
                        case rest14 =>
                        try simp only [List.getElem_toArray, List.getElem_cons_succ, List.getElem_cons_zero, Act.put, List.setIfInBounds_toArray, List.set_cons_zero, List.set_cons_succ]
                        refine' wpAnyH_take (i := 15) (oi := _) (v := _) rfl (by kernel_rfl) (by kernel_rfl) (by kernel_rfl) (fun _ _ _ h => h) (Or.inl ⟨by kernel_rfl, ?hy15⟩) (by assumption) ?rest15
                        case hy15 =>
                          intro w hSw
                          try dsimp only at hSw
                          go_simp
                          try with_reducible rfl
                        case rest15 =>
                        try simp only [List.getElem_toArray, List.getElem_cons_succ, List.getElem_cons_zero, Act.put, List.setIfInBounds_toArray, List.set_cons_zero, List.set_cons_succ]
                        refine' wpAnyH_take (i := 16) (oi := _) (v := _) rfl (by kernel_rfl) (by kernel_rfl) (by kernel_rfl) (fun _ _ _ h => h) (Or.inl ⟨by kernel_rfl, ?hy16⟩) (by assumption) ?rest16
                        case hy16 =>
                          intro w hSw
                          try dsimp only at hSw
                          go_simp
                          try with_reducible rfl
                        case rest16 =>
                        try simp only [List.getElem_toArray, List.getElem_cons_succ, List.getElem_cons_zero, Act.put, List.setIfInBounds_toArray, List.set_cons_zero, List.set_cons_succ]
                        refine' wpAnyH_take (i := 17) (oi := _) (v := .pointer (some ⟨S, j, none⟩)) rfl (by kernel_rfl) (by kernel_rfl) (by kernel_rfl) (fun _ _ _ h => h) (Or.inl ⟨by kernel_rfl, ?hy17⟩) (by assumption) ?rest17
                        case hy17 =>
                          intro W _
                          exact (fun W => opS _ _ _ _ S j rfl (by kernel_rfl) (by kernel_rfl) hjl W) W
                        case rest17 =>
                        try simp only [List.getElem_toArray, List.getElem_cons_succ, List.getElem_cons_zero, Act.put, List.setIfInBounds_toArray, List.set_cons_zero, List.set_cons_succ]
                        refine' wpAnyH_take (i := 18) (oi := _) (v := _) rfl (by kernel_rfl) (by kernel_rfl) (by kernel_rfl) (fun _ _ _ h => h) (Or.inl ⟨by kernel_rfl, ?hy18⟩) (by assumption) ?rest18
                        case hy18 =>
                          intro w hSw
                          try dsimp only at hSw
                          go_simp
                          try with_reducible rfl
                        case rest18 =>
                        try simp only [List.getElem_toArray, List.getElem_cons_succ, List.getElem_cons_zero, Act.put, List.setIfInBounds_toArray, List.set_cons_zero, List.set_cons_succ]
                        refine' wpAnyH_take (i := 19) (oi := _) (v := .pointer (some ⟨M, t1, none⟩)) rfl (by kernel_rfl) (by kernel_rfl) (by kernel_rfl) (fun _ _ _ h => h) (Or.inl ⟨by kernel_rfl, ?hy19⟩) (by assumption) ?rest19
                        case hy19 =>
                          intro W _
                          exact (fun W => opM _ _ _ _ M t1 rfl (by kernel_rfl) (by kernel_rfl) l1 W) W
                        case rest19 =>
                        try simp only [List.getElem_toArray, List.getElem_cons_succ, List.getElem_cons_zero, Act.put, List.setIfInBounds_toArray, List.set_cons_zero, List.set_cons_succ]
                        refine' wpAnyH_take (i := 20) (oi := _) (v := _) rfl (by kernel_rfl) (by kernel_rfl) (by kernel_rfl) (fun _ _ _ h => h) (Or.inl ⟨by kernel_rfl, ?hy20⟩) (by assumption) ?rest20
                        case hy20 =>
                          intro w hSw
                          try dsimp only at hSw
                          go_simp
                          try with_reducible rfl
                        case rest20 =>
                        try simp only [List.getElem_toArray, List.getElem_cons_succ, List.getElem_cons_zero, Act.put, List.setIfInBounds_toArray, List.set_cons_zero, List.set_cons_succ]
                        refine' wpAnyH_take (i := 21) (oi := _) (v := _) rfl (by kernel_rfl) (by kernel_rfl) (by kernel_rfl) (fun _ _ _ h => h) (Or.inl ⟨by kernel_rfl, ?hy21⟩) (by assumption) ?rest21
                        case hy21 =>
                          intro w hSw
                          try dsimp only at hSw
                          go_simp
                          try with_reducible rfl
                        case rest21 =>
                        try simp only [List.getElem_toArray, List.getElem_cons_succ, List.getElem_cons_zero, Act.put, List.setIfInBounds_toArray, List.set_cons_zero, List.set_cons_succ]
                        refine' wpAnyH_take (i := 22) (oi := _) (v := _) rfl (by kernel_rfl) (by kernel_rfl) (by kernel_rfl) (fun _ _ _ h => h) (Or.inl ⟨by kernel_rfl, ?hy22⟩) (by assumption) ?rest22
                        case hy22 =>
                          intro w hSw
                          try dsimp only at hSw
                          go_simp
                          try with_reducible rfl
                        case rest22 =>
                        try simp only [List.getElem_toArray, List.getElem_cons_succ, List.getElem_cons_zero, Act.put, List.setIfInBounds_toArray, List.set_cons_zero, List.set_cons_succ]
                        refine' wpAnyH_take (i := 23) (oi := _) (v := _) rfl (by kernel_rfl) (by kernel_rfl) (by kernel_rfl) (fun _ _ _ h => h) (Or.inl ⟨by kernel_rfl, ?hy23⟩) (by assumption) ?rest23
                        case hy23 =>
                          intro w hSw
                          try dsimp only at hSw
                          go_simp
                          try with_reducible rfl
                        case rest23 =>
                        try simp only [List.getElem_toArray, List.getElem_cons_succ, List.getElem_cons_zero, Act.put, List.setIfInBounds_toArray, List.set_cons_zero, List.set_cons_succ]
                        refine' wpAnyH_take (i := 24) (oi := _) (v := .pointer (some ⟨S, j2, none⟩)) rfl (by kernel_rfl) (by kernel_rfl) (by kernel_rfl) (fun _ _ _ h => h) (Or.inl ⟨by kernel_rfl, ?hy24⟩) (by assumption) ?rest24
                        case hy24 =>
                          intro W _
                          exact (fun W => opS _ _ _ _ S j2 rfl (by kernel_rfl) (by kernel_rfl) hj2l W) W
                        case rest24 =>
                        try simp only [List.getElem_toArray, List.getElem_cons_succ, List.getElem_cons_zero, Act.put, List.setIfInBounds_toArray, List.set_cons_zero, List.set_cons_succ]
                        refine' wpAnyH_take (i := 25) (oi := _) (v := _) rfl (by kernel_rfl) (by kernel_rfl) (by kernel_rfl) (fun _ _ _ h => h) (Or.inl ⟨by kernel_rfl, ?hy25⟩) (by assumption) ?rest25
                        case hy25 =>
                          intro w hSw
                          try dsimp only at hSw
                          go_simp
                          try with_reducible rfl
                        case rest25 =>
                        try simp only [List.getElem_toArray, List.getElem_cons_succ, List.getElem_cons_zero, Act.put, List.setIfInBounds_toArray, List.set_cons_zero, List.set_cons_succ]
                        refine' wpAnyH_take (i := 26) (oi := _) (v := .pointer (some ⟨M, t2, none⟩)) rfl (by kernel_rfl) (by kernel_rfl) (by kernel_rfl) (fun _ _ _ h => h) (Or.inl ⟨by kernel_rfl, ?hy26⟩) (by assumption) ?rest26
                        case hy26 =>
                          intro W _
                          exact (fun W => opM _ _ _ _ M t2 rfl (by kernel_rfl) (by kernel_rfl) l2 W) W
                        case rest26 =>
                        try simp only [List.getElem_toArray, List.getElem_cons_succ, List.getElem_cons_zero, Act.put, List.setIfInBounds_toArray, List.set_cons_zero, List.set_cons_succ]
                        refine' wpAnyH_take (i := 27) (oi := _) (v := _) rfl (by kernel_rfl) (by kernel_rfl) (by kernel_rfl) (fun _ _ _ h => h) (Or.inl ⟨by kernel_rfl, ?hy27⟩) (by assumption) ?rest27
                        case hy27 =>
                          intro w hSw
                          try dsimp only at hSw
                          go_simp
                          try with_reducible rfl
                        case rest27 =>
                        try simp only [List.getElem_toArray, List.getElem_cons_succ, List.getElem_cons_zero, Act.put, List.setIfInBounds_toArray, List.set_cons_zero, List.set_cons_succ]
                        refine wpAnyH_ready (rs := [0]) (by kernel_rfl) (by simp) ?_
                        refine AllReadyH.cons rfl (fun K hK => ?_) AllReadyH.nil
                        rw [if_pos (by kernel_rfl)]
                        refine wp_load_row 131 (.tmp 11) (by kernel_rfl) V (by kernel_rfl) T16 (w32 P).toArray (0, 0) _ HBZ.out.head Tryz.underlying131 (by rfl) (by rw [List.size_toArray, w32_len, HPL.out]; kernel_rfl) ?_
                        try simp only [List.getElem_toArray, List.getElem_cons_zero, Act.put, List.setIfInBounds_toArray, List.set_cons_zero, List.set_cons_succ]
                        refine hK.out _ _ (HSH.out _ _ HBZ.out) (fun hHeld => ?_)
                        clear hK K
                        refine wpAnyH_ready (rs := [28]) (by kernel_rfl) (by simp) ?_
                        refine AllReadyH.cons rfl (fun K hK => ?_) AllReadyH.nil
                        rw [if_pos (by kernel_rfl)]
                        refine stepCallH (v := .agg (w32 Q).toArray) (R := fun w' => Below z0.heap.size z0 w') (by kernel_rfl) (HC.out z0) ?_
                        intro z1 hb
                        try simp only [List.getElem_toArray, List.getElem_cons_succ, List.getElem_cons_zero, Act.put, List.setIfInBounds_toArray, List.set_cons_zero, List.set_cons_succ]
                        have HB1 := WirS.hide (HBZ.out.more hb)
                        clear hb
                        refine hK.out _ _ (HSH.out _ _ HB1.out) (fun hHeld => ?_)
                        clear hK K
                        refine wpAnyH_ready (rs := [29]) (by kernel_rfl) (by simp) ?_
                        refine AllReadyH.cons rfl (fun K hK => ?_) AllReadyH.nil
                        rw [if_pos (by kernel_rfl)]
                        refine wp_store_row 131 (.tmp 11) (.tmp 156) (by kernel_rfl) V (w32 Q).toArray (by kernel_rfl) (by kernel_rfl) T16 (w32 P).toArray HB1.out.head (by rw [List.size_toArray, w32_len, HQL.out]; kernel_rfl) (by rw [List.size_toArray, List.size_toArray, w32_len, w32_len, HPL.out, HQL.out]) (oneCells_w32 _) ?_
                        have HB2 := WirS.hide (bag_row HB1.out (w32 Q))
                        refine hK.out _ _ (HSH.out _ _ HB2.out) (fun hHeld => ?_)
                        clear hK K
                        try simp only [Act.put]
                        refine wpAnyH_done (by kernel_rfl) ?_ _
                        refine NoPanic.normal ?_
                        clear hHeld
                        generalize World.setRow z1 _ _ = z2 at *
                        clear f1 f1a f1b f1c f1d f2 f3
                        go_wp2_with fail
                        go_roundw
                        case rel => exact ⟨k + 1, by omega, by go_num, by rw [HMX.out]; exact HB2.out⟩
                        case measure => simp [intOf]; omega
                      · obtain rfl : k = 4 := by omega
                        have HBG := WirS.hide hbag
                        clear hbag
                        go_wp2_with fail
                        go_roundw
                        case rel => exact ⟨r + 1, by omega, by go_num, HBG.out.swap.drop⟩
                        case measure => simp [intOf]; omega
              · obtain rfl : r = 10 := by omega
                rw [show ((10 : Nat) : Int) = 10 from rfl]
                have hv16 : (roundsL v0 (wordsL b) 10).length = 16 := by rw [roundsL_len]; exact HV0.out
                obtain ⟨v, hv⟩ : ∃ v, roundsL v0 (wordsL b) 10 = v := ⟨_, rfl⟩
                rw [hv] at hbag hv16
                have HV := WirS.hide hv
                have HVL := WirS.hide hv16
                have HST6 := WirS.hide (show Mid6 w M R H V h b v (.int .i64 0) wr from ⟨0, by omega, rfl, by rw [hp_zero h v hh]; exact bag_4 hbag⟩)
                clear hbag hv hv16
                go_wp2_with fail
                go_loopw [17] (fun i wr => Mid6 w M R H V h b v i wr) (fun i _ => 8 - (intOf i).toNat)
                case atStart => exact HST6.out
                case round =>
                  clear HST6
                  obtain ⟨k, hk, rfl, hbag⟩ := hrel
                  by_cases hk8 : k < 8
                  · have hk82 : (k : Int) < 8 := by omega
                    have HBG := WirS.hide hbag
                    clear hbag
                    obtain ⟨j, hj⟩ : ∃ j : Nat, k + 8 = j := ⟨_, rfl⟩
                    have f1 : IntKind.i64.wrap ((k : Int) + 8) = (j : Int) := by rw [IntWalk.i64_in _ (by omega)]; omega
                    have hk16 : k < 16 := by omega
                    have hjl : j < 16 := by omega
                    have HJ := WirS.hide hj
                    clear hj
                    obtain ⟨x, hx⟩ : ∃ x, v.getD k 0 = x := ⟨_, rfl⟩
                    obtain ⟨y, hy⟩ : ∃ y, v.getD j 0 = y := ⟨_, rfl⟩
                    obtain ⟨g, hg⟩ : ∃ g, (hp h v k).getD k 0 = g := ⟨_, rfl⟩
                    have HSH : Hid (∀ (U : World) (cs : List Value), Bag w U [box T8 H cs, box T16 V (w32 v), box T16 M (w32 (wordsL b)), box T8 R (w32 (List.replicate 8 0))] → (U.cell? ⟨V, k, none⟩ = some (.int .u32 x) ∧ U.cell? ⟨V, j, none⟩ = some (.int .u32 y))) := WirS.hide (fun U cs hb => ⟨by rw [hb.drop.head.cell, w32_get _ k (by rw [HVL.out]; exact hk16), hx], by rw [hb.drop.head.cell, w32_get _ j (by rw [HVL.out]; exact hjl), hy]⟩)
                    have HST := WirS.hide (show (hp h v k).set k (xo (xo g x) y) = hp h v (k + 1) by rw [← hp_set h v k hk8, hg, hx, HJ.out, hy])
                    have HBZ : Hid (Bag w wr.drew [box T8 H (w32 (hp h v k)), box T16 V (w32 v), box T16 M (w32 (wordsL b)), box T8 R (w32 (List.replicate 8 0))]) := WirS.hide (HBG.out.more (below_drewN (Below.refl _ _) 1))
                    have HG := WirS.hide hg
                    clear HBG hx hy hg
                    go_upto_region 31 with fail
                    refine wp_region_noPanic ?_
                    refine wp_region_held_drew (S := fun w' => w'.cell? ⟨V, k, none⟩ = some (.int .u32 x) ∧ w'.cell? ⟨V, j, none⟩ = some (.int .u32 y)) (by kernel_rfl) (HSH.out _ _ HBZ.out) (fun hHeld => ?_)
                    generalize World.drew wr = z0 at *
                    refine' wpAnyH_take (i := 0) (oi := _) (v := _) rfl (by kernel_rfl) (by kernel_rfl) (by kernel_rfl) (fun _ _ _ h => h) (Or.inl ⟨by kernel_rfl, ?hy0⟩) (by assumption) ?rest0
                    case hy0 =>
                      intro w hSw
                      try dsimp only at hSw
                      go_simp
                      try with_reducible rfl
                    case rest0 =>
                    try simp only [List.getElem_toArray, List.getElem_cons_zero, Act.put, List.setIfInBounds_toArray, List.set_cons_zero, List.set_cons_succ]
                    refine' wpAnyH_take (i := 1) (oi := _) (v := _) rfl (by kernel_rfl) (by kernel_rfl) (by kernel_rfl) (fun _ _ _ h => h) (Or.inl ⟨by kernel_rfl, ?hy1⟩) (by assumption) ?rest1
                    case hy1 =>
                      intro w hSw
                      try dsimp only at hSw
                      go_simp
                      try with_reducible rfl
                    case rest1 =>
                    try simp only [List.getElem_toArray, List.getElem_cons_succ, List.getElem_cons_zero, Act.put, List.setIfInBounds_toArray, List.set_cons_zero, List.set_cons_succ]
                    refine' wpAnyH_take (i := 2) (oi := _) (v := .pointer (some ⟨H, k, none⟩)) rfl (by kernel_rfl) (by kernel_rfl) (by kernel_rfl) (fun _ _ _ h => h) (Or.inl ⟨by kernel_rfl, ?hy2⟩) (by assumption) ?rest2
                    case hy2 =>
                      intro W _
                      exact (fun W => opH _ _ _ _ H k rfl (by kernel_rfl) (by kernel_rfl) hk8 W) W
                    case rest2 =>
                    try simp only [List.getElem_toArray, List.getElem_cons_succ, List.getElem_cons_zero, Act.put, List.setIfInBounds_toArray, List.set_cons_zero, List.set_cons_succ]
                    refine' wpAnyH_take (i := 4) (oi := _) (v := _) rfl (by kernel_rfl) (by kernel_rfl) (by kernel_rfl) (fun _ _ _ h => h) (Or.inl ⟨by kernel_rfl, ?hy4⟩) (by assumption) ?rest4
                    case hy4 =>
                      intro w hSw
                      try dsimp only at hSw
                      go_simp
                      try with_reducible rfl
                    case rest4 =>
                    try simp only [List.getElem_toArray, List.getElem_cons_succ, List.getElem_cons_zero, Act.put, List.setIfInBounds_toArray, List.set_cons_zero, List.set_cons_succ]
                    refine' wpAnyH_take (i := 5) (oi := _) (v := .pointer (some ⟨V, k, none⟩)) rfl (by kernel_rfl) (by kernel_rfl) (by kernel_rfl) (fun _ _ _ h => h) (Or.inl ⟨by kernel_rfl, ?hy5⟩) (by assumption) ?rest5
                    case hy5 =>
                      intro W _
                      exact (fun W => opM _ _ _ _ V k rfl (by kernel_rfl) (by kernel_rfl) hk16 W) W
                    case rest5 =>
                    try simp only [List.getElem_toArray, List.getElem_cons_succ, List.getElem_cons_zero, Act.put, List.setIfInBounds_toArray, List.set_cons_zero, List.set_cons_succ]
                    refine' wpAnyH_take (i := 6) (oi := _) (v := _) rfl (by kernel_rfl) (by kernel_rfl) (by kernel_rfl) (fun _ _ _ h => h) (Or.inl ⟨by kernel_rfl, ?hy6⟩) (by assumption) ?rest6
                    case hy6 =>
                      intro w hSw
                      try dsimp only at hSw
                      go_simp
                      try with_reducible rfl
                    case rest6 =>
                    try simp only [List.getElem_toArray, List.getElem_cons_succ, List.getElem_cons_zero, Act.put, List.setIfInBounds_toArray, List.set_cons_zero, List.set_cons_succ]
                    refine' wpAnyH_take (i := 8) (oi := _) (v := _) rfl (by kernel_rfl) (by kernel_rfl) (by kernel_rfl) (fun _ _ _ h => h) (Or.inl ⟨by kernel_rfl, ?hy8⟩) (by assumption) ?rest8
                    case hy8 =>
                      intro w hSw
                      try dsimp only at hSw
                      go_simp
                      try with_reducible rfl
                    case rest8 =>
                    try simp only [List.getElem_toArray, List.getElem_cons_succ, List.getElem_cons_zero, Act.put, List.setIfInBounds_toArray, List.set_cons_zero, List.set_cons_succ]
                    refine' wpAnyH_take (i := 9) (oi := _) (v := _) rfl (by kernel_rfl) (by kernel_rfl) (by kernel_rfl) (fun _ _ _ h => h) (Or.inl ⟨by kernel_rfl, ?hy9⟩) (by assumption) ?rest9
                    case hy9 =>
                      intro w hSw
                      try dsimp only at hSw
                      go_simp
                      try with_reducible rfl
                    case rest9 =>
                    try simp only [List.getElem_toArray, List.getElem_cons_succ, List.getElem_cons_zero, Act.put, List.setIfInBounds_toArray, List.set_cons_zero, List.set_cons_succ]
                    refine' wpAnyH_take (i := 10) (oi := _) (v := .pointer (some ⟨V, j, none⟩)) rfl (by kernel_rfl) (by kernel_rfl) (by kernel_rfl) (fun _ _ _ h => h) (Or.inl ⟨by kernel_rfl, ?hy10⟩) (by assumption) ?rest10
                    case hy10 =>
                      intro W _
                      exact (fun W => opM _ _ _ _ V j rfl (by kernel_rfl) (by kernel_rfl) hjl W) W
                    case rest10 =>
                    try simp only [List.getElem_toArray, List.getElem_cons_succ, List.getElem_cons_zero, Act.put, List.setIfInBounds_toArray, List.set_cons_zero, List.set_cons_succ]
                    refine' wpAnyH_take (i := 11) (oi := _) (v := _) rfl (by kernel_rfl) (by kernel_rfl) (by kernel_rfl) (fun _ _ _ h => h) (Or.inl ⟨by kernel_rfl, ?hy11⟩) (by assumption) ?rest11
                    case hy11 =>
                      intro w hSw
                      try dsimp only at hSw
                      go_simp
                      try with_reducible rfl
                    case rest11 =>
                    try simp only [List.getElem_toArray, List.getElem_cons_succ, List.getElem_cons_zero, Act.put, List.setIfInBounds_toArray, List.set_cons_zero, List.set_cons_succ]
                    refine wpAnyH_ready (rs := [3]) (by kernel_rfl) (by simp) ?_
                    refine AllReadyH.cons rfl (fun K hK => ?_) AllReadyH.nil
                    rw [if_pos (by kernel_rfl)]
                    refine wp_load_cell 97 (.tmp 163) (by kernel_rfl) ⟨H, k, none⟩ (.int .u32 g) (by kernel_rfl) (by rw [HBZ.out.head.cell, w32_get _ k (by rw [hp_len]; exact hk8), HG.out]) (by kernel_rfl) ?_
                    try simp only [List.getElem_toArray, List.getElem_cons_succ, List.getElem_cons_zero, Act.put, List.setIfInBounds_toArray, List.set_cons_zero, List.set_cons_succ]
                    refine hK.out _ _ (HSH.out _ _ HBZ.out) (fun hHeld => ?_)
                    clear hK K
                    refine' wpAnyH_take (i := 7) (oi := _) (v := .int .u32 (bits .xor .u32 g x)) rfl (by kernel_rfl) (by kernel_rfl) (by kernel_rfl) (fun _ _ _ h => h) (Or.inl ⟨by kernel_rfl, ?hy7⟩) (by assumption) ?rest7
                    case hy7 =>
                      intro W _
                      kernel_rfl
                    case rest7 =>
                    try simp only [List.getElem_toArray, List.getElem_cons_succ, List.getElem_cons_zero, Act.put, List.setIfInBounds_toArray, List.set_cons_zero, List.set_cons_succ]
                    refine' wpAnyH_take (i := 12) (oi := _) (v := .int .u32 (bits .xor .u32 (bits .xor .u32 g x) y)) rfl (by kernel_rfl) (by kernel_rfl) (by kernel_rfl) (fun _ _ _ h => h) (Or.inl ⟨by kernel_rfl, ?hy12⟩) (by assumption) ?rest12
                    case hy12 =>
                      intro W _
                      kernel_rfl
                    case rest12 =>
                    try simp only [List.getElem_toArray, List.getElem_cons_succ, List.getElem_cons_zero, Act.put, List.setIfInBounds_toArray, List.set_cons_zero, List.set_cons_succ]
                    refine' wpAnyH_take (i := 13) (oi := _) (v := .pointer (some ⟨H, k, none⟩)) rfl (by kernel_rfl) (by kernel_rfl) (by kernel_rfl) (fun _ _ _ h => h) (Or.inl ⟨by kernel_rfl, ?hy13⟩) (by assumption) ?rest13
                    case hy13 =>
                      intro W _
                      exact (fun W => opH _ _ _ _ H k rfl (by kernel_rfl) (by kernel_rfl) hk8 W) W
                    case rest13 =>
                    try simp only [List.getElem_toArray, List.getElem_cons_succ, List.getElem_cons_zero, Act.put, List.setIfInBounds_toArray, List.set_cons_zero, List.set_cons_succ]
                    refine wpAnyH_ready (rs := [14]) (by kernel_rfl) (by simp) ?_
                    refine AllReadyH.cons rfl (fun K hK => ?_) AllReadyH.nil
                    rw [if_pos (by kernel_rfl)]
                    refine store_u32 (x := .tmp 174) (y := .tmp 173) (by kernel_rfl) H k (bits .xor .u32 (bits .xor .u32 g x) y) _ (by kernel_rfl) (by kernel_rfl) (HBZ.out.head.cell k) (by rw [w32_get _ k (by rw [hp_len]; exact hk8)]; rfl) (HBZ.out.head.frozen k) ?_
                    have hb2 := bag_set HBZ.out k (.int .u32 (bits .xor .u32 (bits .xor .u32 g x) y))
                    rw [w32_set] at hb2
                    have HB2 := WirS.hide hb2
                    clear hb2
                    refine hK.out _ _ (HSH.out _ _ HB2.out) (fun hHeld => ?_)
                    clear hK K
                    try simp only [Act.put]
                    refine wpAnyH_done (by kernel_rfl) ?_ _
                    refine NoPanic.normal ?_
                    clear hHeld
                    generalize World.setCell z0 _ _ = z2 at *
                    go_wp2_with fail
                    go_roundw
                    case rel => exact ⟨k + 1, by omega, by go_num, by rw [← HST.out]; exact HB2.out⟩
                    case measure => simp [intOf]; omega
                  · obtain rfl : k = 8 := by omega
                    have hC : comp h b n lv = hp h v 8 := by rw [← HV.out, ← HEV.out, hp_all]
                    rw [← hC] at hbag
                    have HBG := WirS.hide hbag
                    have HCL := WirS.hide (show (w32 (comp h b n lv)).length = 8 by rw [w32_len, comp_len])
                    clear hbag hC
                    obtain ⟨cc, ecc⟩ : ∃ cc, comp h b n lv = cc := ⟨_, rfl⟩
                    rw [ecc] at HBG HCL
                    have HCC := WirS.hide ecc
                    clear ecc
                    go_upto_region 32 with fail
                    refine wp_region_lit ?_
                    refine sL (by kernel_rfl) _ _ (by rfl) _ (by kernel_rfl) HBG.out.head _ 8 Tryz.underlying98 rfl (by kernel_rfl) HCL.out ?_
                    simp only [Act.put, List.setIfInBounds_toArray, List.set_cons_succ, List.set_cons_zero]
                    have hbR := HBG.out.drop.drop.drop
                    refine stepStore (by rfl) _ _ _ (by rfl) R (w32 cc) (by kernel_rfl) (by kernel_rfl) hbR.head 8 (by kernel_rfl) (by rfl) HCL.out (oneCells_w32 _) ?_
                    simp only [Act.put]
                    have HBR := WirS.hide (bag_row hbR (w32 cc))
                    clear hbR HBG
                    generalize World.setRow wr _ _ = u3 at *
                    go_wp2_with fail
                    exact bodyPost_ret (retRow HBR.out.head Tryz.results61 _ (by rfl) _ 8 Tryz.underlying98 rfl (by kernel_rfl) HCL.out) rfl ⟨by rw [HCC.out], HBR.out.low⟩
end BlkSd
end Go.Proofs.YtpambhlhkmkagaaGreatDoor
