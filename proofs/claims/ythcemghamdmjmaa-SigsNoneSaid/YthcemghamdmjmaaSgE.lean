/-
  Add on a table that New made.
-/
import Derived.Test.YthcemghamdmjmaaSgD
namespace Go.Proofs.Ythcemghamdmjmaa
namespace SgE
open Go.RowKit
open BlkM WirM WirS SgA SgB SgC SgD

local notation "TS" => 132
local notation "TG" => 213
local notation "TT" => 137
local notation "TM" => 135
/-- Two values compared, as an operation. -/
theorem run_eq {P : Program} {a : Operand → Value} {o : Oper} {op : BinOp} {t t2 : TypeId} {x y : Operand} {vx vy v : Value} {w : World} (ho : o.op = .binOp op t x y t2) (hx : a x = vx) (hy : a y = vy) (hr : (binOp op t vx vy).run P w = .ok v w) (hg : (eqGuard op t x y vx vy).run P w = .ok () w) : (execOp a o).run P w = .ok (.value v) w := by
  unfold execOp
  simp only [ho, hx, hy, Sem.run_bind, hg, Result.andThen_ok, hr, Sem.run_pure]
theorem stepUpd {P : Program} {o : Oper} {a : Act} {w w' : World} {K : Act → World → Prop} {Q : Exit → Act → World → Prop} {t : TypeId} {m x v : Operand} {vm vx vv : Value} (ho : o.op = .mapUpdate t m x v) (hm : a.eval m = vm) (hx : a.eval x = vx) (hv : a.eval v = vv)
    (hr : (Instr.mapUpdate t vm vx vv).run P w = .ok () w') (h : K (a.put o.dst undef) w') : o.wp P a w K Q := by
  unfold Oper.wp
  simp [execOp, ho, hm, hx, hv, hr, Result.andThen]
  exact h
theorem eqN {a b : Int} (h : a ≠ b) (W : World) : (binOp .eql 3 (.int .i64 a) (.int .i64 b)).run Try.prog W = .ok (.bool false) W := by
  have h2 : (a == b) = false := by simpa using h
  simp [binOp, go_sem, h2]
theorem eqS (a : Int) (W : World) : (binOp .eql 3 (.int .i64 a) (.int .i64 a)).run Try.prog W = .ok (.bool true) W := by
  simp [binOp, go_sem]
theorem rng_below {w w' : World} {X : Nat} {cs : List Value} (h : w.rangeAt X 0 cs) (hb : w'.heap[X]? = w.heap[X]?) : w'.rangeAt X 0 cs := fun j v hj => (World.cell?_of_block hb).trans (h j v hj)
set_option maxRecDepth 20000 in
set_option maxHeartbeats 8000000 in
theorem add_has (w : World) (X b : Nat) (most : Int) (xs : List Sg) (x : Sg) (hx : x.ok) (h : Tab w X b most xs) (hm : x ∈ xs) : Calls Try.prog 87 #[.pointer (some ⟨X, 0, none⟩), x.val] w fun e w' => e = .returned (.int .i64 8) ∧ Below w.heap.size w w' := by
  have HT := WirS.hide (fun U (hU : Below w.heap.size w U) => h.below hU)
  have HXK := WirS.hide hx
  have HXl := WirS.hide h.at'.lt
  have HAP := WirS.hide h.apart
  have HBl := WirS.hide h.map.lt
  clear h hx
  go_enter Try.func87, Try.ntmps87
  go_upto_region 0 with fail
  refine wp_region_lit ?_
  refine sV (.pointer (some ⟨w.heap.size, 0, none⟩)) (w.alloc (.cells x.cells.toArray TS)) (by kernel_rfl) (by kernel_rfl) ?_
  simp only [Act.put, List.setIfInBounds_toArray, List.set_cons_succ, List.set_cons_zero]
  obtain ⟨B, eB⟩ : ∃ A, w.heap.size = A := ⟨_, rfl⟩
  have hX : At (w.alloc (.cells x.cells.toArray TS)) B TS x.cells := by rw [← eB]; exact At.new _ _ _
  have hBX : Below w.heap.size w (w.alloc (.cells x.cells.toArray TS)) := Below.alloc (Below.refl _ _) (Nat.le_refl _) _
  have HwB := WirS.hide (show w.heap.size ≤ B by omega)
  rw [show (Value.pointer (some ⟨w.heap.size, 0, none⟩)) = .pointer (some ⟨B, 0, none⟩) by rw [eB]]
  generalize World.alloc w _ = z at *
  have HX := WirS.hide hX
  have HBX := WirS.hide hBX
  clear hX hBX eB
  go_upto_region 1 with fail
  refine wp_region_lit ?_
  refine sV (.pointer (some ⟨X, 0, none⟩)) (z) (by kernel_rfl) (by kernel_rfl) ?_
  simp only [Act.put, List.setIfInBounds_toArray, List.set_cons_succ, List.set_cons_zero]
  refine sC (R := fun w' => z = w') (by kernel_rfl) (by kernel_rfl) (valid_ok z X b most (HT.out z HBX.out).at') ?_
  rintro _ rfl
  simp only [Act.put, List.setIfInBounds_toArray, List.set_cons_succ, List.set_cons_zero]
  go_upto_region 3 with fail
  refine wp_region_lit ?_
  refine sV (.pointer (some ⟨X, 0, none⟩)) (z) (by kernel_rfl) (by kernel_rfl) ?_
  simp only [Act.put, List.setIfInBounds_toArray, List.set_cons_succ, List.set_cons_zero]
  refine sL (by kernel_rfl) _ _ (by rfl) _ (by kernel_rfl) HX.out _ _ Try.underlying132 rfl (by kernel_rfl) (by rw [Sg.len HXK.out]) ?_
  simp only [Act.put, List.setIfInBounds_toArray, List.set_cons_succ, List.set_cons_zero]
  refine sC (R := fun w' => Below z.heap.size z w') (v := .bool (decide (x ∈ xs))) (by kernel_rfl) (by kernel_rfl) (has_ok z X b most xs x HXK.out (HT.out z HBX.out)) ?_
  rintro z1 hb
  simp only [Act.put, List.setIfInBounds_toArray, List.set_cons_succ, List.set_cons_zero]
  have HX1 := WirS.hide (HX.out.below hb HX.out.lt)
  have HB1 := WirS.hide (HBX.out.trans (hb.mono HBX.out.size))
  clear hb HX HBX
  rw [decide_eq_true hm]
  go_wp2_with fail
  go_ret
  exact ⟨rfl, HB1.out⟩
set_option maxRecDepth 20000 in
set_option maxHeartbeats 8000000 in
theorem add_full (w : World) (X b : Nat) (most : Int) (xs : List Sg) (x : Sg) (hx : x.ok) (h : Tab w X b most xs) (hm : x ∉ xs) (hf : (xs.length : Int) = most) : Calls Try.prog 87 #[.pointer (some ⟨X, 0, none⟩), x.val] w fun e w' => e = .returned (.int .i64 7) ∧ Below w.heap.size w w' := by
  have HT := WirS.hide (fun U (hU : Below w.heap.size w U) => h.below hU)
  have HXK := WirS.hide hx
  have HXl := WirS.hide h.at'.lt
  have HAP := WirS.hide h.apart
  have HBl := WirS.hide h.map.lt
  clear h hx
  go_enter Try.func87, Try.ntmps87
  go_upto_region 0 with fail
  refine wp_region_lit ?_
  refine sV (.pointer (some ⟨w.heap.size, 0, none⟩)) (w.alloc (.cells x.cells.toArray TS)) (by kernel_rfl) (by kernel_rfl) ?_
  simp only [Act.put, List.setIfInBounds_toArray, List.set_cons_succ, List.set_cons_zero]
  obtain ⟨B, eB⟩ : ∃ A, w.heap.size = A := ⟨_, rfl⟩
  have hX : At (w.alloc (.cells x.cells.toArray TS)) B TS x.cells := by rw [← eB]; exact At.new _ _ _
  have hBX : Below w.heap.size w (w.alloc (.cells x.cells.toArray TS)) := Below.alloc (Below.refl _ _) (Nat.le_refl _) _
  have HwB := WirS.hide (show w.heap.size ≤ B by omega)
  rw [show (Value.pointer (some ⟨w.heap.size, 0, none⟩)) = .pointer (some ⟨B, 0, none⟩) by rw [eB]]
  generalize World.alloc w _ = z at *
  have HX := WirS.hide hX
  have HBX := WirS.hide hBX
  clear hX hBX eB
  go_upto_region 1 with fail
  refine wp_region_lit ?_
  refine sV (.pointer (some ⟨X, 0, none⟩)) (z) (by kernel_rfl) (by kernel_rfl) ?_
  simp only [Act.put, List.setIfInBounds_toArray, List.set_cons_succ, List.set_cons_zero]
  refine sC (R := fun w' => z = w') (by kernel_rfl) (by kernel_rfl) (valid_ok z X b most (HT.out z HBX.out).at') ?_
  rintro _ rfl
  simp only [Act.put, List.setIfInBounds_toArray, List.set_cons_succ, List.set_cons_zero]
  go_upto_region 3 with fail
  refine wp_region_lit ?_
  refine sV (.pointer (some ⟨X, 0, none⟩)) (z) (by kernel_rfl) (by kernel_rfl) ?_
  simp only [Act.put, List.setIfInBounds_toArray, List.set_cons_succ, List.set_cons_zero]
  refine sL (by kernel_rfl) _ _ (by rfl) _ (by kernel_rfl) HX.out _ _ Try.underlying132 rfl (by kernel_rfl) (by rw [Sg.len HXK.out]) ?_
  simp only [Act.put, List.setIfInBounds_toArray, List.set_cons_succ, List.set_cons_zero]
  refine sC (R := fun w' => Below z.heap.size z w') (v := .bool (decide (x ∈ xs))) (by kernel_rfl) (by kernel_rfl) (has_ok z X b most xs x HXK.out (HT.out z HBX.out)) ?_
  rintro z1 hb
  simp only [Act.put, List.setIfInBounds_toArray, List.set_cons_succ, List.set_cons_zero]
  have HX1 := WirS.hide (HX.out.below hb HX.out.lt)
  have HB1 := WirS.hide (HBX.out.trans (hb.mono HBX.out.size))
  clear hb HX HBX
  rw [decide_eq_false hm]
  have HF := WirS.hide (fun W => show (binOp .eql 3 (.int .i64 (xs.length : Int)) (.int .i64 most)).run Try.prog W = .ok (.bool true) W from by rw [hf]; exact eqS most W)
  clear hf hm
  have HT2 := WirS.hide (HT.out _ (Below.drew HB1.out))
  go_upto_region 5 with fail
  refine wp_region_noPanic ?_
  refine wp_region_held_drew (S := fun U => Below w.heap.size w U ∧ U.rangeAt B 0 x.cells ∧ U.cell? ⟨X, 1, none⟩ = some (.int .i64 most)) (by kernel_rfl) ⟨Below.drew HB1.out, range0 HX1.out, HT2.out.at'.cell 1⟩ (fun hHeld => ?_)
  generalize World.drew z1 = z2 at *
  refine' wpAnyH_take (i := 0) (oi := _) (v := .pointer (some ⟨X, 0, none⟩)) rfl (by kernel_rfl) (by kernel_rfl) (by kernel_rfl) (fun _ _ _ h => h) (Or.inl ⟨by kernel_rfl, ?hy0⟩) (by assumption) ?rest0
  case hy0 =>
    intro W hS
    kernel_rfl
  case rest0 =>
  try simp only [List.getElem_toArray, List.getElem_cons_zero, Act.put, List.setIfInBounds_toArray, List.set_cons_zero, List.set_cons_succ]
  refine' wpAnyH_take (i := 2) (oi := _) (v := .pointer (some ⟨X, 0, none⟩)) rfl (by kernel_rfl) (by kernel_rfl) (by kernel_rfl) (fun _ _ _ h => h) (Or.inl ⟨by kernel_rfl, ?hy2⟩) (by assumption) ?rest2
  case hy2 =>
    intro W hS
    kernel_rfl
  case rest2 =>
  try simp only [List.getElem_toArray, List.getElem_cons_succ, List.getElem_cons_zero, Act.put, List.setIfInBounds_toArray, List.set_cons_zero, List.set_cons_succ]
  refine' wpAnyH_take (i := 3) (oi := _) (v := .pointer (some ⟨X, 0, none⟩)) rfl (by kernel_rfl) (by kernel_rfl) (by kernel_rfl) (fun _ _ _ h => h) (Or.inl ⟨by kernel_rfl, ?hy3⟩) (by assumption) ?rest3
  case hy3 =>
    intro W hS
    kernel_rfl
  case rest3 =>
  try simp only [List.getElem_toArray, List.getElem_cons_succ, List.getElem_cons_zero, Act.put, List.setIfInBounds_toArray, List.set_cons_zero, List.set_cons_succ]
  refine' wpAnyH_take (i := 4) (oi := _) (v := .pointer (some ⟨X, 1, none⟩)) rfl (by kernel_rfl) (by kernel_rfl) (by kernel_rfl) (fun _ _ _ h => h) (Or.inl ⟨by kernel_rfl, ?hy4⟩) (by assumption) ?rest4
  case hy4 =>
    intro W hS
    kernel_rfl
  case rest4 =>
  try simp only [List.getElem_toArray, List.getElem_cons_succ, List.getElem_cons_zero, Act.put, List.setIfInBounds_toArray, List.set_cons_zero, List.set_cons_succ]
  refine' wpAnyH_take (i := 5) (oi := _) (v := .int .i64 most) rfl (by kernel_rfl) (by kernel_rfl) (by kernel_rfl) (fun _ _ _ h => h) (Or.inl ⟨by kernel_rfl, ?hy5⟩) (by assumption) ?rest5
  case hy5 =>
    intro W hS
    have c := hS.2.2
    clear hS
    try dsimp only at c
    go_simp
    try with_reducible rfl
  case rest5 =>
  try simp only [List.getElem_toArray, List.getElem_cons_succ, List.getElem_cons_zero, Act.put, List.setIfInBounds_toArray, List.set_cons_zero, List.set_cons_succ]
  refine wpAnyH_ready (rs := [1]) (by kernel_rfl) (by simp) ?_
  refine AllReadyH.cons rfl (fun K hK => ?_) (AllReadyH.nil)
  rw [if_pos (by kernel_rfl)]
  refine stepCallH (v := .int .i64 (xs.length : Int)) (R := fun w' => z2 = w') (by kernel_rfl) (len_ok z2 X b most xs HT2.out) ?_
  rintro _ rfl
  try simp only [List.getElem_toArray, List.getElem_cons_succ, List.getElem_cons_zero, Act.put, List.setIfInBounds_toArray, List.set_cons_zero, List.set_cons_succ]
  refine hK.out _ _ hHeld (fun hHeld => ?_)
  clear hK K
  refine' wpAnyH_take (i := 6) (oi := _) (v := .bool true) rfl (by kernel_rfl) (by kernel_rfl) (by kernel_rfl) (fun _ _ _ h => h) (Or.inl ⟨by kernel_rfl, ?hy6⟩) (by assumption) ?rest6
  case hy6 =>
    intro W hS
    exact run_eq (op := .eql) (t := 3) (t2 := 3) (x := .tmp 15) (y := .tmp 19) (vx := .int .i64 (xs.length : Int)) (vy := .int .i64 most) (by kernel_rfl) (by kernel_rfl) (by kernel_rfl) (HF.out W) (by kernel_rfl)
  case rest6 =>
  try simp only [List.getElem_toArray, List.getElem_cons_succ, List.getElem_cons_zero, Act.put, List.setIfInBounds_toArray, List.set_cons_zero, List.set_cons_succ]
  refine' wpAnyH_take (i := 7) (oi := _) (v := .bool true) rfl (by kernel_rfl) (by kernel_rfl) (by kernel_rfl) (fun _ _ _ h => h) (Or.inl ⟨by kernel_rfl, ?hy7⟩) (by assumption) ?rest7
  case hy7 =>
    intro W hS
    kernel_rfl
  case rest7 =>
  try simp only [List.getElem_toArray, List.getElem_cons_succ, List.getElem_cons_zero, Act.put, List.setIfInBounds_toArray, List.set_cons_zero, List.set_cons_succ]
  refine wpAnyH_done (by kernel_rfl) ?_ _
  refine NoPanic.normal ?_
  have HB2 := WirS.hide hHeld.1
  clear hHeld
  go_wp2_with fail
  go_ret
  exact ⟨rfl, HB2.out⟩
set_option maxRecDepth 20000 in
set_option maxHeartbeats 8000000 in
theorem add_in (w : World) (X b : Nat) (most : Int) (xs : List Sg) (x : Sg) (hx : x.ok) (h : Tab w X b most xs) (hm : x ∉ xs) (hf : (xs.length : Int) ≠ most) (hl : xs.length < 1000000) : Calls Try.prog 87 #[.pointer (some ⟨X, 0, none⟩), x.val] w fun e w' => e = .returned (.int .i64 0) ∧ Tab w' X b most (xs ++ [x]) ∧ Fr (fun k => k = b) w w' := by
  have HT := WirS.hide (fun U (hU : Below w.heap.size w U) => h.below hU)
  have HXK := WirS.hide hx
  have HXl := WirS.hide h.at'.lt
  have HAP := WirS.hide h.apart
  have HBl := WirS.hide h.map.lt
  clear h hx
  go_enter Try.func87, Try.ntmps87
  go_upto_region 0 with fail
  refine wp_region_lit ?_
  refine sV (.pointer (some ⟨w.heap.size, 0, none⟩)) (w.alloc (.cells x.cells.toArray TS)) (by kernel_rfl) (by kernel_rfl) ?_
  simp only [Act.put, List.setIfInBounds_toArray, List.set_cons_succ, List.set_cons_zero]
  obtain ⟨B, eB⟩ : ∃ A, w.heap.size = A := ⟨_, rfl⟩
  have hX : At (w.alloc (.cells x.cells.toArray TS)) B TS x.cells := by rw [← eB]; exact At.new _ _ _
  have hBX : Below w.heap.size w (w.alloc (.cells x.cells.toArray TS)) := Below.alloc (Below.refl _ _) (Nat.le_refl _) _
  have HwB := WirS.hide (show w.heap.size ≤ B by omega)
  rw [show (Value.pointer (some ⟨w.heap.size, 0, none⟩)) = .pointer (some ⟨B, 0, none⟩) by rw [eB]]
  generalize World.alloc w _ = z at *
  have HX := WirS.hide hX
  have HBX := WirS.hide hBX
  clear hX hBX eB
  go_upto_region 1 with fail
  refine wp_region_lit ?_
  refine sV (.pointer (some ⟨X, 0, none⟩)) (z) (by kernel_rfl) (by kernel_rfl) ?_
  simp only [Act.put, List.setIfInBounds_toArray, List.set_cons_succ, List.set_cons_zero]
  refine sC (R := fun w' => z = w') (by kernel_rfl) (by kernel_rfl) (valid_ok z X b most (HT.out z HBX.out).at') ?_
  rintro _ rfl
  simp only [Act.put, List.setIfInBounds_toArray, List.set_cons_succ, List.set_cons_zero]
  go_upto_region 3 with fail
  refine wp_region_lit ?_
  refine sV (.pointer (some ⟨X, 0, none⟩)) (z) (by kernel_rfl) (by kernel_rfl) ?_
  simp only [Act.put, List.setIfInBounds_toArray, List.set_cons_succ, List.set_cons_zero]
  refine sL (by kernel_rfl) _ _ (by rfl) _ (by kernel_rfl) HX.out _ _ Try.underlying132 rfl (by kernel_rfl) (by rw [Sg.len HXK.out]) ?_
  simp only [Act.put, List.setIfInBounds_toArray, List.set_cons_succ, List.set_cons_zero]
  refine sC (R := fun w' => Below z.heap.size z w') (v := .bool (decide (x ∈ xs))) (by kernel_rfl) (by kernel_rfl) (has_ok z X b most xs x HXK.out (HT.out z HBX.out)) ?_
  rintro z1 hb
  simp only [Act.put, List.setIfInBounds_toArray, List.set_cons_succ, List.set_cons_zero]
  have HX1 := WirS.hide (HX.out.below hb HX.out.lt)
  have HB1 := WirS.hide (HBX.out.trans (hb.mono HBX.out.size))
  clear hb HX HBX
  rw [decide_eq_false hm]
  have HM := WirS.hide hm
  have HLN := WirS.hide (show xs.length < maxLen by unfold maxLen; omega)
  have HF := WirS.hide (fun W => eqN (a := (xs.length : Int)) (b := most) hf W)
  clear hf hm hl
  have HT2 := WirS.hide (HT.out _ (Below.drew HB1.out))
  go_upto_region 5 with fail
  refine wp_region_noPanic ?_
  refine wp_region_held_drew (S := fun U => Below w.heap.size w U ∧ U.rangeAt B 0 x.cells ∧ U.cell? ⟨X, 1, none⟩ = some (.int .i64 most)) (by kernel_rfl) ⟨Below.drew HB1.out, range0 HX1.out, HT2.out.at'.cell 1⟩ (fun hHeld => ?_)
  generalize World.drew z1 = z2 at *
  refine' wpAnyH_take (i := 0) (oi := _) (v := .pointer (some ⟨X, 0, none⟩)) rfl (by kernel_rfl) (by kernel_rfl) (by kernel_rfl) (fun _ _ _ h => h) (Or.inl ⟨by kernel_rfl, ?hy0⟩) (by assumption) ?rest0
  case hy0 =>
    intro W hS
    kernel_rfl
  case rest0 =>
  try simp only [List.getElem_toArray, List.getElem_cons_zero, Act.put, List.setIfInBounds_toArray, List.set_cons_zero, List.set_cons_succ]
  refine' wpAnyH_take (i := 2) (oi := _) (v := .pointer (some ⟨X, 0, none⟩)) rfl (by kernel_rfl) (by kernel_rfl) (by kernel_rfl) (fun _ _ _ h => h) (Or.inl ⟨by kernel_rfl, ?hy2⟩) (by assumption) ?rest2
  case hy2 =>
    intro W hS
    kernel_rfl
  case rest2 =>
  try simp only [List.getElem_toArray, List.getElem_cons_succ, List.getElem_cons_zero, Act.put, List.setIfInBounds_toArray, List.set_cons_zero, List.set_cons_succ]
  refine' wpAnyH_take (i := 3) (oi := _) (v := .pointer (some ⟨X, 0, none⟩)) rfl (by kernel_rfl) (by kernel_rfl) (by kernel_rfl) (fun _ _ _ h => h) (Or.inl ⟨by kernel_rfl, ?hy3⟩) (by assumption) ?rest3
  case hy3 =>
    intro W hS
    kernel_rfl
  case rest3 =>
  try simp only [List.getElem_toArray, List.getElem_cons_succ, List.getElem_cons_zero, Act.put, List.setIfInBounds_toArray, List.set_cons_zero, List.set_cons_succ]
  refine' wpAnyH_take (i := 4) (oi := _) (v := .pointer (some ⟨X, 1, none⟩)) rfl (by kernel_rfl) (by kernel_rfl) (by kernel_rfl) (fun _ _ _ h => h) (Or.inl ⟨by kernel_rfl, ?hy4⟩) (by assumption) ?rest4
  case hy4 =>
    intro W hS
    kernel_rfl
  case rest4 =>
  try simp only [List.getElem_toArray, List.getElem_cons_succ, List.getElem_cons_zero, Act.put, List.setIfInBounds_toArray, List.set_cons_zero, List.set_cons_succ]
  refine' wpAnyH_take (i := 5) (oi := _) (v := .int .i64 most) rfl (by kernel_rfl) (by kernel_rfl) (by kernel_rfl) (fun _ _ _ h => h) (Or.inl ⟨by kernel_rfl, ?hy5⟩) (by assumption) ?rest5
  case hy5 =>
    intro W hS
    have c := hS.2.2
    clear hS
    try dsimp only at c
    go_simp
    try with_reducible rfl
  case rest5 =>
  try simp only [List.getElem_toArray, List.getElem_cons_succ, List.getElem_cons_zero, Act.put, List.setIfInBounds_toArray, List.set_cons_zero, List.set_cons_succ]
  refine wpAnyH_ready (rs := [1]) (by kernel_rfl) (by simp) ?_
  refine AllReadyH.cons rfl (fun K hK => ?_) (AllReadyH.nil)
  rw [if_pos (by kernel_rfl)]
  refine stepCallH (v := .int .i64 (xs.length : Int)) (R := fun w' => z2 = w') (by kernel_rfl) (len_ok z2 X b most xs HT2.out) ?_
  rintro _ rfl
  try simp only [List.getElem_toArray, List.getElem_cons_succ, List.getElem_cons_zero, Act.put, List.setIfInBounds_toArray, List.set_cons_zero, List.set_cons_succ]
  refine hK.out _ _ hHeld (fun hHeld => ?_)
  clear hK K
  refine' wpAnyH_take (i := 6) (oi := _) (v := .bool false) rfl (by kernel_rfl) (by kernel_rfl) (by kernel_rfl) (fun _ _ _ h => h) (Or.inl ⟨by kernel_rfl, ?hy6⟩) (by assumption) ?rest6
  case hy6 =>
    intro W hS
    exact run_eq (op := .eql) (t := 3) (t2 := 3) (x := .tmp 15) (y := .tmp 19) (vx := .int .i64 (xs.length : Int)) (vy := .int .i64 most) (by kernel_rfl) (by kernel_rfl) (by kernel_rfl) (HF.out W) (by kernel_rfl)
  case rest6 =>
  try simp only [List.getElem_toArray, List.getElem_cons_succ, List.getElem_cons_zero, Act.put, List.setIfInBounds_toArray, List.set_cons_zero, List.set_cons_succ]
  refine' wpAnyH_take (i := 7) (oi := _) (v := .bool false) rfl (by kernel_rfl) (by kernel_rfl) (by kernel_rfl) (fun _ _ _ h => h) (Or.inl ⟨by kernel_rfl, ?hy7⟩) (by assumption) ?rest7
  case hy7 =>
    intro W hS
    kernel_rfl
  case rest7 =>
  try simp only [List.getElem_toArray, List.getElem_cons_succ, List.getElem_cons_zero, Act.put, List.setIfInBounds_toArray, List.set_cons_zero, List.set_cons_succ]
  refine wpAnyH_done (by kernel_rfl) ?_ _
  refine NoPanic.normal ?_
  have hT3 := HT.out z2.drew (Below.drew hHeld.1)
  have HR3 := WirS.hide hHeld.2.1
  have HB3 := WirS.hide hHeld.1
  have hBz := HX1.out.lt
  clear hHeld HT2
  go_upto_region 7 with fail
  refine wp_region_noPanic ?_
  refine wp_region_held_drew (S := fun U => U.rangeAt B 0 x.cells ∧ U.cell? ⟨X, 2, none⟩ = some (.map (some b))) (by kernel_rfl) ⟨HR3.out, hT3.at'.cell 2⟩ (fun hHeld => ?_)
  have HT3 := WirS.hide hT3
  have HB4 := WirS.hide (Below.drew HB3.out)
  clear hT3 HR3 HB3
  generalize World.drew z2 = z3 at *
  refine' wpAnyH_take (i := 0) (oi := _) (v := .pointer (some ⟨X, 0, none⟩)) rfl (by kernel_rfl) (by kernel_rfl) (by kernel_rfl) (fun _ _ _ h => h) (Or.inl ⟨by kernel_rfl, ?hy0⟩) (by assumption) ?rest0
  case hy0 =>
    intro W hS
    kernel_rfl
  case rest0 =>
  try simp only [List.getElem_toArray, List.getElem_cons_zero, Act.put, List.setIfInBounds_toArray, List.set_cons_zero, List.set_cons_succ]
  refine' wpAnyH_take (i := 1) (oi := _) (v := .pointer (some ⟨X, 0, none⟩)) rfl (by kernel_rfl) (by kernel_rfl) (by kernel_rfl) (fun _ _ _ h => h) (Or.inl ⟨by kernel_rfl, ?hy1⟩) (by assumption) ?rest1
  case hy1 =>
    intro W hS
    kernel_rfl
  case rest1 =>
  try simp only [List.getElem_toArray, List.getElem_cons_succ, List.getElem_cons_zero, Act.put, List.setIfInBounds_toArray, List.set_cons_zero, List.set_cons_succ]
  refine' wpAnyH_take (i := 2) (oi := _) (v := .pointer (some ⟨X, 2, none⟩)) rfl (by kernel_rfl) (by kernel_rfl) (by kernel_rfl) (fun _ _ _ h => h) (Or.inl ⟨by kernel_rfl, ?hy2⟩) (by assumption) ?rest2
  case hy2 =>
    intro W hS
    kernel_rfl
  case rest2 =>
  try simp only [List.getElem_toArray, List.getElem_cons_succ, List.getElem_cons_zero, Act.put, List.setIfInBounds_toArray, List.set_cons_zero, List.set_cons_succ]
  refine' wpAnyH_take (i := 3) (oi := _) (v := .map (some b)) rfl (by kernel_rfl) (by kernel_rfl) (by kernel_rfl) (fun _ _ _ h => h) (Or.inl ⟨by kernel_rfl, ?hy3⟩) (by assumption) ?rest3
  case hy3 =>
    intro W hS
    have c := hS.2
    clear hS
    try dsimp only at c
    go_simp
    try with_reducible rfl
  case rest3 =>
  try simp only [List.getElem_toArray, List.getElem_cons_succ, List.getElem_cons_zero, Act.put, List.setIfInBounds_toArray, List.set_cons_zero, List.set_cons_succ]
  refine' wpAnyH_take (i := 4) (oi := _) (v := .agg (x.cells).toArray) rfl (by kernel_rfl) (by kernel_rfl) (by kernel_rfl) (fun _ _ _ h => h) (yieldsIf_load_mid (by kernel_rfl) TS (.tmp 3) (by kernel_rfl) B 0 (by kernel_rfl) (x.cells) _ (fun _ h => h.1) Try.underlying132 (by kernel_rfl) (by rw [Sg.len HXK.out]; kernel_rfl)) (by assumption) ?rest4
  case rest4 =>
  try simp only [List.getElem_toArray, List.getElem_cons_succ, List.getElem_cons_zero, Act.put, List.setIfInBounds_toArray, List.set_cons_zero, List.set_cons_succ]
  refine' wpAnyH_take (i := 5) (oi := _) (v := .agg #[]) rfl (by kernel_rfl) (by kernel_rfl) (by kernel_rfl) (fun _ _ _ h => h) (Or.inl ⟨by kernel_rfl, ?hy5⟩) (by assumption) ?rest5
  case hy5 =>
    intro W hS
    kernel_rfl
  case rest5 =>
  try simp only [List.getElem_toArray, List.getElem_cons_succ, List.getElem_cons_zero, Act.put, List.setIfInBounds_toArray, List.set_cons_zero, List.set_cons_succ]
  refine wpAnyH_ready (rs := [6]) (by kernel_rfl) (by simp) ?_
  refine AllReadyH.cons rfl (fun K hK => ?_) (AllReadyH.nil)
  rw [if_pos (by kernel_rfl)]
  obtain ⟨z4, hrun, ho, hturn⟩ := HT3.out.map.store keyedG Try.underlying135 HLN.out (key_of HXK.out) unitElem_mk
  have hfr := Fr.of_grown hturn.grown
  refine stepUpd (t := TM) (m := .tmp 24) (x := .tmp 25) (v := .tmp 26) (by kernel_rfl) (by kernel_rfl) (by kernel_rfl) (by kernel_rfl) hrun ?_
  try simp only [List.getElem_toArray, List.getElem_cons_succ, List.getElem_cons_zero, Act.put]
  have hbB : ¬ (some b = some B) := fun e => by cases e; have h1 := HBl.out; have h2 := HwB.out; omega
  have hbX : ¬ (some b = some X) := fun e => by cases e; exact HAP.out rfl
  have hxB : B < z3.heap.size := World.block_lt_of_cell? z3 ⟨B, 0, none⟩ (hHeld.1 0 _ (List.getElem?_eq_getElem (by rw [Sg.len HXK.out]; decide)))
  have hH : z4.rangeAt B 0 x.cells ∧ z4.cell? ⟨X, 2, none⟩ = some (.map (some b)) := ⟨rng_below hHeld.1 (hfr.block B hxB hbB), (hfr.cell (p := ⟨X, 2, none⟩) HT3.out.at'.lt hbX).trans hHeld.2⟩
  have HT4 := WirS.hide (show Tab z4 X b most (xs ++ [x]) from ⟨At.fr HT3.out.at' hfr hbX, by rw [DD_snoc, List.length_append]; exact ho, List.nodup_append.2 ⟨HT3.out.nd, by simp, fun a ha c hc e => by rw [List.mem_singleton.1 hc] at e; exact HM.out (e ▸ ha)⟩, fun y hy => by
    rcases List.mem_append.1 hy with hy | hy
    · exact HT3.out.ok y hy
    · rw [List.mem_singleton.1 hy]; exact HXK.out⟩)
  have HF4 := WirS.hide (show Fr (fun k => k = b) w z4 from (Fr.of_below HB4.out).trans (hfr.mono (fun i _ e => by cases e; rfl)))
  refine hK.out _ _ hH (fun hHeld => ?_)
  clear hK K hH
  refine wpAnyH_done (by kernel_rfl) ?_ _
  refine NoPanic.normal ?_
  clear hHeld hfr hturn hrun ho hbB hbX hxB hBz
  go_wp2_with fail
  go_ret
  exact ⟨rfl, HT4.out, HF4.out⟩
end SgE
end Go.Proofs.Ythcemghamdmjmaa
