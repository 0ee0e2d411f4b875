/-
  The document's begin and row.
-/
import Derived.Test.YtfmegeibnjmfpaaDoorBlkB
import Derived.Test.YtfmegeibnjmfpaaDoorWirS
import Derived.Test.YtfmegeibnjmfpaaDoorPdD
import Derived.Deep.MidRow
namespace Go.Proofs.YtfmegeibnjmfpaaDoor
namespace BlkSa
open Go.RowKit
open BlkM WirM WirS

theorem rbegin_any (w : World) : Calls Tryd.prog 44 #[] w fun e w' => e = .returned (.agg (w32 ini).toArray) ∧ Below w.heap.size w w' := by
  obtain ⟨R, hR⟩ : ∃ R, w.heap.size = R := ⟨_, rfl⟩
  have hA := At.new w 41 (w32 (List.replicate 8 0))
  have hb : Below w.heap.size w (w.alloc (.cells (w32 (List.replicate 8 0)).toArray 41)) := Below.alloc (Below.refl _ _) (Nat.le_refl _) _
  go_enter Tryd.func44, Tryd.ntmps44
  go_upto_region 0 with fail
  refine wp_region_lit ?_
  refine sV (.pointer (some ⟨w.heap.size, 0, none⟩)) (w.alloc (.cells (w32 (List.replicate 8 0)).toArray 41)) (by kernel_rfl) (by kernel_rfl) ?_
  simp only [Act.put, List.setIfInBounds_toArray, List.set_cons_zero]
  rw [hR] at hA hb ⊢
  generalize World.alloc w _ = x1 at *
  go_upto_region 1 with fail
  refine wp_region_lit ?_
  refine sV (.agg (w32 ini).toArray) (x1) (by kernel_rfl) (by kernel_rfl) ?_
  simp only [Act.put, List.setIfInBounds_toArray, List.set_cons_succ, List.set_cons_zero]
  refine stepStore (by rfl) _ _ _ (by rfl) R (w32 ini) (by kernel_rfl) (by kernel_rfl) hA 8 (by kernel_rfl) (by rfl) (by rfl) (oneCells_w32 _) ?_
  simp only [Act.put]
  have H2 := WirS.hide (hA.put (w32 ini))
  have B2 := WirS.hide (show Below R w (x1.setRow R (w32 ini).toArray) from Below.setRowOwn hb (Nat.le_refl _) _)
  clear hA hb
  generalize World.setRow x1 R _ = x2 at *
  go_wp2_with fail
  exact bodyPost_ret (retRow H2.out Tryd.results44 _ (by rfl) _ 8 Tryd.underlying41 rfl (by kernel_rfl) (by rfl)) rfl ⟨rfl, by rw [hR]; exact B2.out⟩
/-- A row of the table, as cells. -/
def i16 (l : List Nat) : List Value := l.map fun (n : Nat) => Value.int .i64 (n : Int)
def all : List Nat := (table.getD 0 []) ++ (table.getD 1 []) ++ (table.getD 2 []) ++ (table.getD 3 []) ++ (table.getD 4 []) ++ (table.getD 5 []) ++ (table.getD 6 []) ++ (table.getD 7 []) ++ (table.getD 8 []) ++ (table.getD 9 [])
theorem one_i16 (l : List Nat) : (i16 l).toArray.all (·.oneCell') = true := by simp [i16, Value.oneCell']
theorem all_row (r : Nat) (h : r < 10) (j : Nat) (v : Value) (hj : (i16 (table.getD r []))[j]? = some v) : (i16 all)[16 * r + j]? = some v := by
  have hl : j < 16 := by
    have := (List.getElem?_eq_some_iff.1 hj).1
    have e : ∀ r, r < 10 → (i16 (table.getD r [])).length = 16 := by decide
    rwa [e r h] at this
  have e : ∀ r, r < 10 → ∀ j, j < 16 → all[16 * r + j]? = (table.getD r [])[j]? := by decide
  have he := e r h j hl
  simp only [i16, List.getElem?_map] at hj ⊢
  rw [he]
  exact hj
theorem ixR (T r : Nat) (h : r < 10) (W : World) : (Instr.indexAt 124 (.pointer (some ⟨T, 0, none⟩)) (.int .i64 (r : Int))).run Tryd.prog W = .ok (.pointer (some ⟨T, 0 + r * 16, none⟩)) W := by
  obtain rfl | rfl | rfl | rfl | rfl | rfl | rfl | rfl | rfl | rfl : r = 0 ∨ r = 1 ∨ r = 2 ∨ r = 3 ∨ r = 4 ∨ r = 5 ∨ r = 6 ∨ r = 7 ∨ r = 8 ∨ r = 9 := by omega
  all_goals kernel_rfl
theorem opR (a : Operand → Value) (ob : Oper) (x y : Operand) (T r : Nat) (ho : ob.op = Op.indexAddr 124 x y) (hx : a x = .pointer (some ⟨T, 0, none⟩)) (hy : a y = .int .i64 (r : Int)) (h : r < 10) (W : World) :
    (execOp a ob).run Tryd.prog W = .ok (.value (.pointer (some ⟨T, 0 + r * 16, none⟩))) W := by
  unfold execOp
  rw [ho]
  simp only [hx, hy]
  simp only [Sem.run_bind, ixR T r h W, Result.andThen_ok, Sem.run_pure]
set_option maxRecDepth 10000 in
set_option maxHeartbeats 4000000 in
theorem rrow_any (w : World) (r : Nat) (h : r < 10) : Calls Tryd.prog 68 #[.int .i64 (r : Int)] w fun e w' => e = .returned (.agg (i16 (table.getD r [])).toArray) ∧ Below w.heap.size w w' := by
  obtain ⟨R, hR⟩ : ∃ R, w.heap.size = R := ⟨_, rfl⟩
  have hA := At.new w 103 (i16 (List.replicate 16 0))
  have hb : Below w.heap.size w (w.alloc (.cells (i16 (List.replicate 16 0)).toArray 103)) := Below.alloc (Below.refl _ _) (Nat.le_refl _) _
  go_enter Tryd.func68, Tryd.ntmps68
  go_upto_region 0 with fail
  refine wp_region_lit ?_
  refine sV (.pointer (some ⟨w.heap.size, 0, none⟩)) (w.alloc (.cells (i16 (List.replicate 16 0)).toArray 103)) (by kernel_rfl) (by kernel_rfl) ?_
  simp only [Act.put, List.setIfInBounds_toArray, List.set_cons_succ, List.set_cons_zero]
  rw [hR] at hA hb ⊢
  generalize World.alloc w _ = x1 at *
  go_upto_region 1 with fail
  refine wp_region_lit ?_
  refine sV (.agg (i16 (table.getD 0 [])).toArray) (x1) (by kernel_rfl) (by kernel_rfl) ?_
  simp only [Act.put, List.setIfInBounds_toArray, List.set_cons_succ, List.set_cons_zero]
  refine sV (.agg (i16 (table.getD 1 [])).toArray) (x1) (by kernel_rfl) (by kernel_rfl) ?_
  simp only [Act.put, List.setIfInBounds_toArray, List.set_cons_succ, List.set_cons_zero]
  refine sV (.agg (i16 (table.getD 2 [])).toArray) (x1) (by kernel_rfl) (by kernel_rfl) ?_
  simp only [Act.put, List.setIfInBounds_toArray, List.set_cons_succ, List.set_cons_zero]
  refine sV (.agg (i16 (table.getD 3 [])).toArray) (x1) (by kernel_rfl) (by kernel_rfl) ?_
  simp only [Act.put, List.setIfInBounds_toArray, List.set_cons_succ, List.set_cons_zero]
  refine sV (.agg (i16 (table.getD 4 [])).toArray) (x1) (by kernel_rfl) (by kernel_rfl) ?_
  simp only [Act.put, List.setIfInBounds_toArray, List.set_cons_succ, List.set_cons_zero]
  refine sV (.agg (i16 (table.getD 5 [])).toArray) (x1) (by kernel_rfl) (by kernel_rfl) ?_
  simp only [Act.put, List.setIfInBounds_toArray, List.set_cons_succ, List.set_cons_zero]
  refine sV (.agg (i16 (table.getD 6 [])).toArray) (x1) (by kernel_rfl) (by kernel_rfl) ?_
  simp only [Act.put, List.setIfInBounds_toArray, List.set_cons_succ, List.set_cons_zero]
  refine sV (.agg (i16 (table.getD 7 [])).toArray) (x1) (by kernel_rfl) (by kernel_rfl) ?_
  simp only [Act.put, List.setIfInBounds_toArray, List.set_cons_succ, List.set_cons_zero]
  refine sV (.agg (i16 (table.getD 8 [])).toArray) (x1) (by kernel_rfl) (by kernel_rfl) ?_
  simp only [Act.put, List.setIfInBounds_toArray, List.set_cons_succ, List.set_cons_zero]
  refine sV (.agg (i16 (table.getD 9 [])).toArray) (x1) (by kernel_rfl) (by kernel_rfl) ?_
  simp only [Act.put, List.setIfInBounds_toArray, List.set_cons_succ, List.set_cons_zero]
  refine sV (.agg (i16 all).toArray) (x1) (by kernel_rfl) (by kernel_rfl) ?_
  simp only [Act.put, List.setIfInBounds_toArray, List.set_cons_succ, List.set_cons_zero]
  refine sV (.pointer (some ⟨x1.heap.size, 0, none⟩)) (x1.alloc (.cells (i16 (List.replicate 160 0)).toArray 124)) (by kernel_rfl) (by kernel_rfl) ?_
  simp only [Act.put, List.setIfInBounds_toArray, List.set_cons_succ, List.set_cons_zero]
  obtain ⟨T, hT⟩ : ∃ T, x1.heap.size = T := ⟨_, rfl⟩
  have hRT : R < T := by rw [← hT]; exact hA.lt
  have hA2 := At.new x1 124 (i16 (List.replicate 160 0))
  have hb2 := Below.alloc hb (show R ≤ x1.heap.size by omega) (.cells (i16 (List.replicate 160 0)).toArray 124)
  have hR2 : At (x1.alloc (.cells (i16 (List.replicate 160 0)).toArray 124)) R 103 (i16 (List.replicate 16 0)) := At.fr (X := fun _ => False) hA (Fr.of_below (Below.alloc (Below.refl _ _) (Nat.le_refl _) _)) (fun h => h)
  rw [hT] at hA2 ⊢
  generalize World.alloc x1 _ = x2 at *
  refine stepStore (by rfl) _ _ _ (by rfl) T (i16 all) (by kernel_rfl) (by kernel_rfl) hA2 160 (by kernel_rfl) (by rfl) (by rfl) (one_i16 _) ?_
  simp only [Act.put]
  have hA3 := hA2.put (i16 all)
  have hb3 := Below.setRowOwn hb2 (show R ≤ T by omega) (i16 all).toArray
  have hR3 : At (x2.setRow T (i16 all).toArray) R 103 (i16 (List.replicate 16 0)) := At.fr (X := fun k => k = T) hR2 (WirO.Fr.setRow (Fr.refl _ _) T _ (fun _ => rfl)) (fun e => by omega)
  clear hA hb hA2 hb2 hR2
  generalize World.setRow x2 T _ = x3 at *
  have hrow : x3.rangeAt T (0 + r * 16) (i16 (table.getD r [])) := fun j v hj => by
    rw [hA3.cell, ← all_row r h j v hj]
    congr 1
    omega
  have hRow := WirS.hide hrow
  have H3 := WirS.hide hR3
  have B3 := WirS.hide hb3
  have hlen : (i16 (table.getD r [])).length = 16 := by
    have e : ∀ r, r < 10 → (i16 (table.getD r [])).length = 16 := by decide
    exact e r h
  have HLN := WirS.hide hlen
  clear hA3 hrow hR3 hb3 hlen
  go_upto_region 2 with fail
  refine wp_region_lit ?_
  refine sV (.int .i64 (r : Int)) (x3) (by kernel_rfl) (by kernel_rfl) ?_
  simp only [Act.put, List.setIfInBounds_toArray, List.set_cons_succ, List.set_cons_zero]
  refine sV (.pointer (some ⟨T, 0 + r * 16, none⟩)) x3 (by kernel_rfl) (opR _ _ _ _ T r (by rfl) (by kernel_rfl) (by kernel_rfl) h x3) ?_
  simp only [Act.put, List.setIfInBounds_toArray, List.set_cons_succ, List.set_cons_zero]
  refine wpList_load_mid (by rfl) _ _ (by rfl) T (0 + r * 16) (by kernel_rfl) (i16 (table.getD r [])) _ hRow.out Tryd.underlying103 (by rfl) (by rw [HLN.out]; kernel_rfl) ?_
  simp only [Act.put, List.setIfInBounds_toArray, List.set_cons_succ, List.set_cons_zero]
  refine stepStore (by rfl) _ _ _ (by rfl) R (i16 (table.getD r [])) (by kernel_rfl) (by kernel_rfl) H3.out 16 (by kernel_rfl) (by rfl) HLN.out (one_i16 _) ?_
  simp only [Act.put]
  have H4 := WirS.hide (H3.out.put (i16 (table.getD r [])))
  have B4 := WirS.hide (show Below R w (x3.setRow R (i16 (table.getD r [])).toArray) from Below.setRowOwn B3.out (Nat.le_refl _) _)
  clear H3 B3
  generalize World.setRow x3 R _ = x4 at *
  go_wp2_with fail
  exact bodyPost_ret (retRow H4.out Tryd.results68 _ (by rfl) _ 16 Tryd.underlying103 rfl (by kernel_rfl) HLN.out) rfl ⟨rfl, by rw [hR]; exact B4.out⟩
end BlkSa
end Go.Proofs.YtfmegeibnjmfpaaDoor
