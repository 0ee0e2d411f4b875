/-
  Has, whatever map the table has.
-/
import Derived.Test.YthcemghamdmjmaaSgB
import Derived.Test.YthcemghamdmjmaaPkF
import Derived.Deep.RegionHeld3
import Derived.Deep.MidRow
namespace Go.Proofs.Ythcemghamdmjmaa
namespace SgC
open Go.RowKit
open BlkM WirM WirS SgA SgB

local notation "TS" => 132
/-- A call as a step of a drawn region. -/
theorem stepCallH {P : Program} {o : Oper} {a : Act} {w : World} {K : Act → World → Prop} {Q : Exit → Act → World → Prop} {f : FuncId} {args : Array Value} {v : Value} {R : World → Prop} (hrun : (execOp a.eval o).run P w = .ok (.enter f args) w)
    (hc : Calls P f args w fun e w' => e = .returned v ∧ R w') (h : ∀ w', R w' → K (a.put o.dst v) w') : o.wp P a w K Q := by
  unfold Oper.wp
  rw [hrun, Oper.upon_enter]
  exact hc.mono (by rintro e w' ⟨rfl, hr⟩; exact h w' hr)
/-- Another operation, as a step of a drawn region. -/
theorem stepVal {P : Program} {o : Oper} {a : Act} {w w' : World} {K : Act → World → Prop} {Q : Exit → Act → World → Prop} {v : Value} (hrun : (execOp a.eval o).run P w = .ok (.value v) w') (h : K (a.put o.dst v) w') : o.wp P a w K Q := by
  unfold Oper.wp
  rw [hrun]
  exact h
theorem run_look {P : Program} {a : Operand → Value} {o : Oper} {t : TypeId} {m x : Operand} {vm vx v : Value} {w : World} (ho : o.op = .lookup t m x true) (hm : a m = vm) (hx : a x = vx) (hr : (Instr.lookup t vm vx true).run P w = .ok v w) : (execOp a o).run P w = .ok (.value v) w := by
  unfold execOp
  simp [ho, hm, hx, hr]
theorem range0 {w : World} {X : Nat} {T : TypeId} {cs : List Value} (h : At w X T cs) : w.rangeAt X 0 cs := fun j v hj => by
  rw [Nat.zero_add, h.cell]
  exact hj
theorem range_alloc {w : World} {X : Nat} {cs : List Value} (h : w.rangeAt X 0 cs) (hX : X < w.heap.size) (o : Obj) : (w.alloc o).rangeAt X 0 cs := fun j v hj => ((Below.alloc (Below.refl _ _) (Nat.le_refl _) o).cell (p := ⟨X, _, none⟩) hX).trans (h j v hj)
theorem UG : Try.prog.underlying TS = Try.prog.underlying TS := rfl
local notation "T0" => 212
set_option maxRecDepth 20000 in
set_option maxHeartbeats 8000000 in
theorem has_gen (w : World) (p : Option Addr) (x : Sg) (mv : Value) (r : Bool) (hx : x.ok) (hsig : ∀ U, Below w.heap.size w U → Calls Try.prog 185 #[.pointer p] U fun e w' => e = .returned mv ∧ U = w')
    (hlook : ∀ U, Below w.heap.size w U → (Instr.lookup 135 mv x.val true).run Try.prog U = .ok (.tuple #[.agg #[], .bool r]) U) :
    Calls Try.prog 91 #[.pointer p, x.val] w fun e w' => e = .returned (.bool r) ∧ Below w.heap.size w w' := by
  go_enter Try.func91, Try.ntmps91
  go_upto_region 0 with fail
  refine wp_region_lit ?_
  refine sV (.pointer (some ⟨w.heap.size, 0, none⟩)) (w.alloc (.cells x.cells.toArray TS)) (by kernel_rfl) (by kernel_rfl) ?_
  simp only [Act.put, List.setIfInBounds_toArray, List.set_cons_succ, List.set_cons_zero]
  obtain ⟨B, eB⟩ : ∃ A, w.heap.size = A := ⟨_, rfl⟩
  have hX : At (w.alloc (.cells x.cells.toArray TS)) B TS x.cells := by rw [← eB]; exact At.new _ _ _
  have hBX : Below w.heap.size w (w.alloc (.cells x.cells.toArray TS)) := Below.alloc (Below.refl _ _) (Nat.le_refl _) _
  have hBlt0 := hX.lt
  rw [show (Value.pointer (some ⟨w.heap.size, 0, none⟩)) = .pointer (some ⟨B, 0, none⟩) by rw [eB]]
  generalize World.alloc w _ = z at *
  have HX := WirS.hide hX
  have HBX := WirS.hide hBX
  have hBlt : B < z.heap.size := hBlt0
  clear hX hBX eB hBlt0
  go_upto_region 1 with fail
  refine wp_region_held_drew (S := fun U => Below w.heap.size w U ∧ B < U.heap.size ∧ U.rangeAt B 0 x.cells) (by kernel_rfl) ⟨Below.drew HBX.out, hBlt, range0 HX.out⟩ (fun hHeld => ?_)
  generalize World.drew z = z0 at *
  refine' wpAnyH_take (i := 0) (oi := _) (v := .pointer p) rfl (by kernel_rfl) (by kernel_rfl) (by kernel_rfl) (fun _ _ _ h => h) (Or.inl ⟨by kernel_rfl, ?hy0⟩) (by assumption) ?rest0
  case hy0 =>
    intro W hS
    kernel_rfl
  case rest0 =>
  try simp only [List.getElem_toArray, List.getElem_cons_zero, Act.put, List.setIfInBounds_toArray, List.set_cons_zero, List.set_cons_succ]
  refine' wpAnyH_take (i := 2) (oi := _) (v := .agg (x.cells).toArray) rfl (by kernel_rfl) (by kernel_rfl) (by kernel_rfl) (fun _ _ _ h => h) (yieldsIf_load_mid (by kernel_rfl) TS (.tmp 3) (by kernel_rfl) B 0 (by kernel_rfl) (x.cells) _ (fun _ h => h.2.2) Try.underlying132 (by kernel_rfl) (by rw [Sg.len hx]; kernel_rfl)) (by assumption) ?rest2
  case rest2 =>
  try simp only [List.getElem_toArray, List.getElem_cons_succ, List.getElem_cons_zero, Act.put, List.setIfInBounds_toArray, List.set_cons_zero, List.set_cons_succ]
  refine wpAnyH_ready (rs := [1, 7]) (by kernel_rfl) (by simp) ?_
  refine AllReadyH.cons rfl (fun K hK => ?_) (AllReadyH.cons rfl (fun K hK => ?_) (AllReadyH.nil))
  · rw [if_pos (by kernel_rfl)]
    refine stepCallH (v := mv) (R := fun w' => z0 = w') (by kernel_rfl) (hsig z0 hHeld.1) ?_
    rintro _ rfl
    try simp only [List.getElem_toArray, List.getElem_cons_succ, List.getElem_cons_zero, Act.put, List.setIfInBounds_toArray, List.set_cons_zero, List.set_cons_succ]
    refine hK.out _ _ hHeld (fun hHeld => ?_)
    clear hK K
    refine' wpAnyH_take (i := 3) (oi := _) (v := .tuple #[.agg #[], .bool r]) rfl (by kernel_rfl) (by kernel_rfl) (by kernel_rfl) (fun _ _ _ h => h) (Or.inl ⟨by kernel_rfl, ?hy3⟩) (by assumption) ?rest3
    case hy3 =>
      intro W hS
      exact run_look (t := 135) (m := .tmp 9) (x := .tmp 10) (vm := mv) (vx := x.val) (by kernel_rfl) (by kernel_rfl) (by kernel_rfl) (hlook W hS.1)
    case rest3 =>
    try simp only [List.getElem_toArray, List.getElem_cons_succ, List.getElem_cons_zero, Act.put, List.setIfInBounds_toArray, List.set_cons_zero, List.set_cons_succ]
    refine' wpAnyH_take (i := 4) (oi := _) (v := .tuple #[.agg #[], .bool r]) rfl (by kernel_rfl) (by kernel_rfl) (by kernel_rfl) (fun _ _ _ h => h) (Or.inl ⟨by kernel_rfl, ?hy4⟩) (by assumption) ?rest4
    case hy4 =>
      intro W hS
      kernel_rfl
    case rest4 =>
    try simp only [List.getElem_toArray, List.getElem_cons_succ, List.getElem_cons_zero, Act.put, List.setIfInBounds_toArray, List.set_cons_zero, List.set_cons_succ]
    refine' wpAnyH_take (i := 5) (oi := _) (v := .agg #[]) rfl (by kernel_rfl) (by kernel_rfl) (by kernel_rfl) (fun _ _ _ h => h) (Or.inl ⟨by kernel_rfl, ?hy5⟩) (by assumption) ?rest5
    case hy5 =>
      intro W hS
      kernel_rfl
    case rest5 =>
    try simp only [List.getElem_toArray, List.getElem_cons_succ, List.getElem_cons_zero, Act.put, List.setIfInBounds_toArray, List.set_cons_zero, List.set_cons_succ]
    refine' wpAnyH_take (i := 6) (oi := _) (v := .bool r) rfl (by kernel_rfl) (by kernel_rfl) (by kernel_rfl) (fun _ _ _ h => h) (Or.inl ⟨by kernel_rfl, ?hy6⟩) (by assumption) ?rest6
    case hy6 =>
      intro W hS
      kernel_rfl
    case rest6 =>
    try simp only [List.getElem_toArray, List.getElem_cons_succ, List.getElem_cons_zero, Act.put, List.setIfInBounds_toArray, List.set_cons_zero, List.set_cons_succ]
    refine wpAnyH_ready (rs := [7]) (by kernel_rfl) (by simp) ?_
    refine AllReadyH.cons rfl (fun K hK => ?_) (AllReadyH.nil)
    rw [if_pos (by kernel_rfl)]
    refine stepVal (v := .pointer (some ⟨z0.heap.size, 0, none⟩)) (w' := z0.alloc (.cells #[] T0)) (by kernel_rfl) ?_
    try simp only [List.getElem_toArray, List.getElem_cons_succ, List.getElem_cons_zero, Act.put, List.setIfInBounds_toArray, List.set_cons_zero, List.set_cons_succ]
    obtain ⟨Y, eY⟩ : ∃ Y, z0.heap.size = Y := ⟨_, rfl⟩
    have hY : At (z0.alloc (.cells #[] T0)) Y T0 [] := by rw [← eY]; exact At.new _ _ _
    have hH2 : Below w.heap.size w (z0.alloc (.cells #[] T0)) ∧ B < (z0.alloc (.cells #[] T0)).heap.size ∧ (z0.alloc (.cells #[] T0)).rangeAt B 0 x.cells := ⟨Below.alloc hHeld.1 hHeld.1.size _, by have := hHeld.2.1; simp; omega, range_alloc hHeld.2.2 hHeld.2.1 _⟩
    have hwY : w.heap.size ≤ Y := by rw [← eY]; exact hHeld.1.size
    have hBY : B ≠ Y := by have := hHeld.2.1; omega
    rw [eY]
    clear eY hHeld
    generalize World.alloc z0 _ = z1 at *
    refine hK.out _ _ hH2 (fun hHeld => ?_)
    clear hK K hH2
    refine wpAnyH_ready (rs := [8]) (by kernel_rfl) (by simp) ?_
    refine AllReadyH.cons rfl (fun K hK => ?_) (AllReadyH.nil)
    rw [if_pos (by kernel_rfl)]
    refine wp_store_row T0 (.tmp 5) (.tmp 12) (by kernel_rfl) Y #[] (by kernel_rfl) (by kernel_rfl) T0 #[] hY (by kernel_rfl) rfl (by simp) ?_
    try simp only [List.getElem_toArray, List.getElem_cons_succ, List.getElem_cons_zero, Act.put]
    have hH3 : Below w.heap.size w (z1.setRow Y #[]) ∧ B < (z1.setRow Y #[]).heap.size ∧ (z1.setRow Y #[]).rangeAt B 0 x.cells := ⟨Below.setRowOwn hHeld.1 hwY _, by simpa using hHeld.2.1, fun j v hj => by rw [← hHeld.2.2 j v hj]; exact World.cell?_of_block (setRow_other _ _ _ _ hBY)⟩
    refine hK.out _ _ hH3 (fun hHeld => ?_)
    clear hK K hH3
    refine' wpAnyH_take (i := 9) (oi := _) (v := .bool r) rfl (by kernel_rfl) (by kernel_rfl) (by kernel_rfl) (fun _ _ _ h => h) (Or.inl ⟨by kernel_rfl, ?hy9⟩) (by assumption) ?rest9
    case hy9 =>
      intro W hS
      kernel_rfl
    case rest9 =>
    try simp only [List.getElem_toArray, List.getElem_cons_succ, List.getElem_cons_zero, Act.put, List.setIfInBounds_toArray, List.set_cons_zero, List.set_cons_succ]
    refine wpAnyH_done (by kernel_rfl) ?_ _
    have HB := WirS.hide hHeld.1
    clear hHeld
    go_wp2_with fail
    go_ret
    exact ⟨rfl, HB.out⟩
  · rw [if_pos (by kernel_rfl)]
    refine stepVal (v := .pointer (some ⟨z0.heap.size, 0, none⟩)) (w' := z0.alloc (.cells #[] T0)) (by kernel_rfl) ?_
    try simp only [List.getElem_toArray, List.getElem_cons_succ, List.getElem_cons_zero, Act.put, List.setIfInBounds_toArray, List.set_cons_zero, List.set_cons_succ]
    obtain ⟨Y, eY⟩ : ∃ Y, z0.heap.size = Y := ⟨_, rfl⟩
    have hY : At (z0.alloc (.cells #[] T0)) Y T0 [] := by rw [← eY]; exact At.new _ _ _
    have hH2 : Below w.heap.size w (z0.alloc (.cells #[] T0)) ∧ B < (z0.alloc (.cells #[] T0)).heap.size ∧ (z0.alloc (.cells #[] T0)).rangeAt B 0 x.cells := ⟨Below.alloc hHeld.1 hHeld.1.size _, by have := hHeld.2.1; simp; omega, range_alloc hHeld.2.2 hHeld.2.1 _⟩
    have hwY : w.heap.size ≤ Y := by rw [← eY]; exact hHeld.1.size
    have hBY : B ≠ Y := by have := hHeld.2.1; omega
    rw [eY]
    clear eY hHeld
    generalize World.alloc z0 _ = z1 at *
    refine hK.out _ _ hH2 (fun hHeld => ?_)
    clear hK K hH2
    refine wpAnyH_ready (rs := [1]) (by kernel_rfl) (by simp) ?_
    refine AllReadyH.cons rfl (fun K hK => ?_) (AllReadyH.nil)
    rw [if_pos (by kernel_rfl)]
    refine stepCallH (v := mv) (R := fun w' => z1 = w') (by kernel_rfl) (hsig z1 hHeld.1) ?_
    rintro _ rfl
    try simp only [List.getElem_toArray, List.getElem_cons_succ, List.getElem_cons_zero, Act.put, List.setIfInBounds_toArray, List.set_cons_zero, List.set_cons_succ]
    refine hK.out _ _ hHeld (fun hHeld => ?_)
    clear hK K
    refine' wpAnyH_take (i := 3) (oi := _) (v := .tuple #[.agg #[], .bool r]) rfl (by kernel_rfl) (by kernel_rfl) (by kernel_rfl) (fun _ _ _ h => h) (Or.inl ⟨by kernel_rfl, ?hy3⟩) (by assumption) ?rest3
    case hy3 =>
      intro W hS
      exact run_look (t := 135) (m := .tmp 9) (x := .tmp 10) (vm := mv) (vx := x.val) (by kernel_rfl) (by kernel_rfl) (by kernel_rfl) (hlook W hS.1)
    case rest3 =>
    try simp only [List.getElem_toArray, List.getElem_cons_succ, List.getElem_cons_zero, Act.put, List.setIfInBounds_toArray, List.set_cons_zero, List.set_cons_succ]
    refine' wpAnyH_take (i := 4) (oi := _) (v := .tuple #[.agg #[], .bool r]) rfl (by kernel_rfl) (by kernel_rfl) (by kernel_rfl) (fun _ _ _ h => h) (Or.inl ⟨by kernel_rfl, ?hy4⟩) (by assumption) ?rest4
    case hy4 =>
      intro W hS
      kernel_rfl
    case rest4 =>
    try simp only [List.getElem_toArray, List.getElem_cons_succ, List.getElem_cons_zero, Act.put, List.setIfInBounds_toArray, List.set_cons_zero, List.set_cons_succ]
    refine' wpAnyH_take (i := 5) (oi := _) (v := .agg #[]) rfl (by kernel_rfl) (by kernel_rfl) (by kernel_rfl) (fun _ _ _ h => h) (Or.inl ⟨by kernel_rfl, ?hy5⟩) (by assumption) ?rest5
    case hy5 =>
      intro W hS
      kernel_rfl
    case rest5 =>
    try simp only [List.getElem_toArray, List.getElem_cons_succ, List.getElem_cons_zero, Act.put, List.setIfInBounds_toArray, List.set_cons_zero, List.set_cons_succ]
    refine' wpAnyH_take (i := 6) (oi := _) (v := .bool r) rfl (by kernel_rfl) (by kernel_rfl) (by kernel_rfl) (fun _ _ _ h => h) (Or.inl ⟨by kernel_rfl, ?hy6⟩) (by assumption) ?rest6
    case hy6 =>
      intro W hS
      kernel_rfl
    case rest6 =>
    try simp only [List.getElem_toArray, List.getElem_cons_succ, List.getElem_cons_zero, Act.put, List.setIfInBounds_toArray, List.set_cons_zero, List.set_cons_succ]
    refine wpAnyH_ready (rs := [8]) (by kernel_rfl) (by simp) ?_
    refine AllReadyH.cons rfl (fun K hK => ?_) (AllReadyH.nil)
    rw [if_pos (by kernel_rfl)]
    refine wp_store_row T0 (.tmp 5) (.tmp 12) (by kernel_rfl) Y #[] (by kernel_rfl) (by kernel_rfl) T0 #[] hY (by kernel_rfl) rfl (by simp) ?_
    try simp only [List.getElem_toArray, List.getElem_cons_succ, List.getElem_cons_zero, Act.put]
    have hH3 : Below w.heap.size w (z1.setRow Y #[]) ∧ B < (z1.setRow Y #[]).heap.size ∧ (z1.setRow Y #[]).rangeAt B 0 x.cells := ⟨Below.setRowOwn hHeld.1 hwY _, by simpa using hHeld.2.1, fun j v hj => by rw [← hHeld.2.2 j v hj]; exact World.cell?_of_block (setRow_other _ _ _ _ hBY)⟩
    refine hK.out _ _ hH3 (fun hHeld => ?_)
    clear hK K hH3
    refine' wpAnyH_take (i := 9) (oi := _) (v := .bool r) rfl (by kernel_rfl) (by kernel_rfl) (by kernel_rfl) (fun _ _ _ h => h) (Or.inl ⟨by kernel_rfl, ?hy9⟩) (by assumption) ?rest9
    case hy9 =>
      intro W hS
      kernel_rfl
    case rest9 =>
    try simp only [List.getElem_toArray, List.getElem_cons_succ, List.getElem_cons_zero, Act.put, List.setIfInBounds_toArray, List.set_cons_zero, List.set_cons_succ]
    refine wpAnyH_done (by kernel_rfl) ?_ _
    have HB := WirS.hide hHeld.1
    clear hHeld
    go_wp2_with fail
    go_ret
    exact ⟨rfl, HB.out⟩
theorem has_bad (w : World) (p : Option Addr) (x : Sg) (hx : x.ok) (h : Bad w p) : Calls Try.prog 91 #[.pointer p, x.val] w fun e w' => e = .returned (.bool false) ∧ Below w.heap.size w w' :=
  has_gen w p x (.map none) false hx (fun U hU => sigs_bad U p (h.below hU)) (fun U _ => by
    have h := Go.Maps.look_nil (w := U) (P := Try.prog) (k := 213) true keyedG Try.underlying135 (z := .agg #[]) (by kernel_rfl) (key_of hx)
    simpa using h)
end SgC
end Go.Proofs.Ythcemghamdmjmaa
