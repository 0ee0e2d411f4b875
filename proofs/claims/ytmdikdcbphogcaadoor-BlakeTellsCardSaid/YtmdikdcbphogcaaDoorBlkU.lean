/-
  A hash put into a new variable, and read out of it, as the walk meets it.
-/
import Derived.Test.YtmdikdcbphogcaaDoorBlkR
import Derived.Deep.WholeRow
namespace Go.Proofs.YtmdikdcbphogcaaDoor
namespace BlkU
open Go.RowKit
open BlkM BlkA BlkL BlkO BlkP BlkR
/-! ### Steps of operations that are guarded -/
section
variable {P : Program} {ops : Array Oper} {rest : List Oper} {o : Oper} {a : Act} {w w' : World} {Q : Exit → Act → World → Prop}
theorem stepW (hw : Region.wanted o (yielded ops a.tmps) = true) (h : ∀ K : Act → World → Prop, (∀ a w, wpList P ops Q rest a w → K a w) → o.wp P a w K Q) : wpList P ops Q (o :: rest) a w :=
  wpList_step fun K hK => by simp only [hw, if_true]; exact h K hK
theorem sV (v : Value) (w' : World) (hw : Region.wanted o (yielded ops a.tmps) = true) (hrun : (execOp a.eval o).run P w = .ok (.value v) w') (h : wpList P ops Q rest (a.put o.dst v) w') : wpList P ops Q (o :: rest) a w :=
  stepW hw fun _ hK => by
    unfold Oper.wp
    rw [hrun]
    exact hK _ _ h
theorem sC {f : FuncId} {args : Array Value} {v : Value} {R : World → Prop} (hw : Region.wanted o (yielded ops a.tmps) = true) (hrun : (execOp a.eval o).run P w = .ok (.enter f args) w)
    (hc : Calls P f args w fun e w' => e = .returned v ∧ R w') (h : ∀ w', R w' → wpList P ops Q rest (a.put o.dst v) w') : wpList P ops Q (o :: rest) a w :=
  stepW hw fun _ hK => by
    unfold Oper.wp
    rw [hrun, Oper.upon_enter]
    exact hc.mono (by rintro e w' ⟨rfl, hr⟩; exact hK _ _ (h w' hr))
theorem sL (hw : Region.wanted o (yielded ops a.tmps) = true) (ty : TypeId) (x : Operand) (ho : o.op = .load ty x)
    (g : Nat) (hx : a.eval x = .pointer (some ⟨g, 0, none⟩)) {T : TypeId} {cs : List Value} (hg : At w g T cs) (d : TypeDesc) (n : Nat)
    (hu : P.underlying ty = some d) (hd : (match d with | .struct _ | .array _ _ => true | _ => false) = true) (hi : (P.info? ty).map (·.size) = some n) (hn : cs.length = n)
    (h : wpList P ops Q rest (a.put o.dst (.agg cs.toArray)) w) : wpList P ops Q (o :: rest) a w :=
  stepW hw fun _ hK => wp_load_row ty x ho g hx T cs.toArray (0, 0) d hg hu hd (by rw [hi, ← hn]; simp) (hK _ _ h)
/-- One cell is read. -/
theorem sP (hw : Region.wanted o (yielded ops a.tmps) = true) (ty : TypeId) (x : Operand) (ho : o.op = .load ty x) (ad : Addr) (hx : a.eval x = .pointer (some ad)) (v : Value) (hc : w.cell? ad = some v) (hag : (isAgg ty).run P w = .ok false w)
    (h : wpList P ops Q rest (a.put o.dst v) w) : wpList P ops Q (o :: rest) a w :=
  sV v w hw (by
    unfold execOp
    simp only [ho, hx, Instr.loadAt, Instr.sureAddr, loadVar, Sem.run_bind, Sem.run_pure, hag, Bool.false_eq_true, if_false, run_load, hc, Result.andThen]) h
/-- Two values compared. -/
theorem sB (hw : Region.wanted o (yielded ops a.tmps) = true) (op : BinOp) (t t2 : TypeId) (x y : Operand) (ho : o.op = .binOp op t x y t2) (vx vy : Value) (hx : a.eval x = vx) (hy : a.eval y = vy) (v : Value) (hr : (binOp op t vx vy).run P w = .ok v w)
    (hg : (eqGuard op t x y vx vy).run P w = .ok () w) (h : wpList P ops Q rest (a.put o.dst v) w) : wpList P ops Q (o :: rest) a w :=
  sV v w hw (by
    unfold execOp
    simp only [ho, hx, hy, Sem.run_bind, hg, Result.andThen_ok, hr, Sem.run_pure]) h
/-- An operation whose guard is not met is passed over. -/
theorem sS (hw : Region.wanted o (yielded ops a.tmps) = false) (h : wpList P ops Q rest (a.put o.dst undef) w) : wpList P ops Q (o :: rest) a w := by
  unfold wpList
  simp only [hw, Bool.false_eq_true, if_false]
  exact h
end

theorem stF (l : List Int) (hl : l.length = 32) (u : World) : (storeCells ⟨u.heap.size, 0, none⟩ (b8 l)).run Tryd.prog (u.alloc (.cells #[Value.int .u8 0, Value.int .u8 0, Value.int .u8 0, Value.int .u8 0, Value.int .u8 0, Value.int .u8 0, Value.int .u8 0, Value.int .u8 0, Value.int .u8 0, Value.int .u8 0, Value.int .u8 0, Value.int .u8 0, Value.int .u8 0, Value.int .u8 0, Value.int .u8 0, Value.int .u8 0, Value.int .u8 0, Value.int .u8 0, Value.int .u8 0, Value.int .u8 0, Value.int .u8 0, Value.int .u8 0, Value.int .u8 0, Value.int .u8 0, Value.int .u8 0, Value.int .u8 0, Value.int .u8 0, Value.int .u8 0, Value.int .u8 0, Value.int .u8 0, Value.int .u8 0, Value.int .u8 0] 26)) = .ok () (u.alloc (.cells (b8 l).toArray 26)) := by
  have h := run_storeCells_from (P := Tryd.prog) u.heap.size 26 (b8 l) 0 #[Value.int .u8 0, Value.int .u8 0, Value.int .u8 0, Value.int .u8 0, Value.int .u8 0, Value.int .u8 0, Value.int .u8 0, Value.int .u8 0, Value.int .u8 0, Value.int .u8 0, Value.int .u8 0, Value.int .u8 0, Value.int .u8 0, Value.int .u8 0, Value.int .u8 0, Value.int .u8 0, Value.int .u8 0, Value.int .u8 0, Value.int .u8 0, Value.int .u8 0, Value.int .u8 0, Value.int .u8 0, Value.int .u8 0, Value.int .u8 0, Value.int .u8 0, Value.int .u8 0, Value.int .u8 0, Value.int .u8 0, Value.int .u8 0, Value.int .u8 0, Value.int .u8 0, Value.int .u8 0] (u.alloc (.cells #[Value.int .u8 0, Value.int .u8 0, Value.int .u8 0, Value.int .u8 0, Value.int .u8 0, Value.int .u8 0, Value.int .u8 0, Value.int .u8 0, Value.int .u8 0, Value.int .u8 0, Value.int .u8 0, Value.int .u8 0, Value.int .u8 0, Value.int .u8 0, Value.int .u8 0, Value.int .u8 0, Value.int .u8 0, Value.int .u8 0, Value.int .u8 0, Value.int .u8 0, Value.int .u8 0, Value.int .u8 0, Value.int .u8 0, Value.int .u8 0, Value.int .u8 0, Value.int .u8 0, Value.int .u8 0, Value.int .u8 0, Value.int .u8 0, Value.int .u8 0, Value.int .u8 0, Value.int .u8 0] 26)) (At.new u 26 (b8 zH)) (by rw [b8_len, hl]; rfl) (fun v hv => by
    obtain ⟨x, _, rfl⟩ := List.mem_map.1 (show v ∈ l.map (Value.int .u8) from hv)
    rfl)
  rw [List.take_zero, List.nil_append, World.setRow_alloc_new] at h
  exact h
theorem ldF (l : List Int) (hl : l.length = 32) (W : World) (H : Nat) (T : TypeId) (hA : At W H T (b8 l)) : (loadCellsFrom ⟨H, 0, none⟩ 0 32 #[]).run Tryd.prog W = .ok (b8 l).toArray W := by
  have h := run_loadCells_list (P := Tryd.prog) W ⟨H, 0, none⟩ (b8 l) (fun j v hv => by rw [Addr.add_mid, Nat.zero_add, hA.cell]; exact hv)
  rw [b8_len, hl] at h
  exact h
theorem ldN (l : List Int) (hl : l.length = 32) (u : World) : (loadCellsFrom ⟨u.heap.size, 0, none⟩ 0 32 #[]).run Tryd.prog (u.alloc (.cells (b8 l).toArray 26)) = .ok (b8 l).toArray (u.alloc (.cells (b8 l).toArray 26)) :=
  ldF l hl _ _ 26 (At.new u 26 (b8 l))
end BlkU
end Go.Proofs.YtmdikdcbphogcaaDoor
