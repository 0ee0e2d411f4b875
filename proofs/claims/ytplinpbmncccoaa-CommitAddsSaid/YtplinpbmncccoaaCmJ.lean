/-
  commit.Add.
-/
import Derived.Test.YtplinpbmncccoaaCmI
import Derived.Test.YtplinpbmncccoaaWirAA
import Derived.Test.YtplinpbmncccoaaWirAB
import Derived.Deep.MidRow
import Derived.Deep.RegionHeld3
namespace Go.Proofs.Ytplinpbmncccoaa
namespace CmJ
open Go.RowKit
open BlkM WirM WirS CmA CmP CmB CmE CmI
open WirX (Thg Bag)
open WirAA (box bag_box bag_set)
open WirAB (sCx)

theorem bag_row {w0 w : World} {l : List Thg} {T : TypeId} {X : Nat} {cs : List Value} (h : Bag w0 w (box T X cs :: l)) (c : List Value) : Bag w0 (w.setRow X c.toArray) (box T X c :: l) :=
  h.act (WirO.Fr.setRow (Fr.refl _ _) X _ (fun _ => rfl)) (h.head.put c) (fun _ hk => .inl hk)
theorem retRow2 {P : Program} {w : World} {g : Nat} {T : TypeId} {cs : List Value} (hg : At w g T cs) {fn : Func} {p u : Tmp} {ty : TypeId} (h : fn.results = #[.cell p ty, .tmp u]) (tmps : Array Value) (hp : tmps.getD p undef = .pointer (some ⟨g, 0, none⟩)) (v : Value) (hv : tmps.getD u undef = v)
    (d : TypeDesc) (n : Nat) (hu : P.underlying ty = some d) (hd : (match d with | .struct _ | .array _ _ => true | _ => false) = true) (hi : (P.info? ty).map (·.size) = some n) (hn : cs.length = n) :
    (results fn tmps).run P w = .ok (.tuple #[.agg cs.toArray, v]) w := by
  rw [results_cell_tmp h, hp, hv]
  simp only [asAddr, Sem.run_pure, Result.andThen]
  rw [run_loadVar_row w g T ty cs.toArray (0, 0) d hg hu hd (by rw [hi, ← hn]; simp)]
/-- A call as a step of a drawn region. -/
theorem stepCallH {P : Program} {o : Oper} {a : Act} {w : World} {K : Act → World → Prop} {Q : Exit → Act → World → Prop} {f : FuncId} {args : Array Value} {v : Value} {R : World → Prop} (hrun : (execOp a.eval o).run P w = .ok (.enter f args) w)
    (hc : Calls P f args w fun e w' => e = .returned v ∧ R w') (h : ∀ w', R w' → K (a.put o.dst v) w') : o.wp P a w K Q := by
  unfold Oper.wp
  rw [hrun, Oper.upon_enter]
  exact hc.mono (by rintro e w' ⟨rfl, hr⟩; exact h w' hr)
theorem wp_load_cell {P : Program} {o : Oper} {a : Act} {w : World} {K : Act → World → Prop} {Q : Exit → Act → World → Prop} (ty : TypeId) (x : Operand) (ho : o.op = .load ty x) (ad : Addr) (v : Value) (hx : a.eval x = .pointer (some ad)) (hc : w.cell? ad = some v) (hag : (isAgg ty).run P w = .ok false w)
    (h : K (a.put o.dst v) w) : o.wp P a w K Q := by
  have hrun : (execOp a.eval o).run P w = .ok (.value v) w := by
    unfold execOp
    simp only [ho, hx, Instr.loadAt, Instr.sureAddr, loadVar, Sem.run_bind, Sem.run_pure, hag, Bool.false_eq_true, if_false, run_load, hc, Result.andThen]
  unfold Oper.wp
  rw [hrun]
  exact h
theorem wp_value {P : Program} {o : Oper} {a : Act} {w w' : World} {K : Act → World → Prop} {Q : Exit → Act → World → Prop} (v : Value) (hrun : (execOp a.eval o).run P w = .ok (.value v) w') (h : K (a.put o.dst v) w') : o.wp P a w K Q := by
  unfold Oper.wp
  rw [hrun]
  exact h
/-- A slice stored into one cell. -/
theorem store_sl {o : Oper} {a : Act} {w : World} {K : Act → World → Prop} {Q : Exit → Act → World → Prop} {x y : Operand} (ho : o.op = .store TL x y) (M k : Nat) (b : Option Addr) (n c : Nat) (c0 : Option Value) (hx : a.eval x = .pointer (some ⟨M, k, none⟩)) (hy : a.eval y = .slice b n c)
    (hc : w.cell? ⟨M, k, none⟩ = c0) (hs : c0.isSome = true) (hf : w.frozen? ⟨M, k, none⟩ = false) (h : K (a.put o.dst undef) (w.setCell ⟨M, k, none⟩ (.slice b n c))) : o.wp Try.prog a w K Q := by
  obtain ⟨c1, rfl⟩ := Option.isSome_iff_exists.1 hs
  unfold Oper.wp execOp
  simp only [ho, hx, hy, Instr.storeAt, Instr.sureAddr, Sem.run_bind, Sem.run_pure, Result.andThen_ok]
  have hst : (storeVar TL ⟨M, k, none⟩ (.slice b n c)).run Try.prog w = .ok () (w.setCell ⟨M, k, none⟩ (.slice b n c)) := by
    have e := run_storeCells_cells (P := Try.prog) M k [.slice b n c] 0 w (fun j hj => by obtain rfl : j = 0 := (by simp at hj; omega); simp [hc]) (fun j hj => by obtain rfl : j = 0 := (by simp at hj; omega); simpa using hf) (fun v hv => by simp at hv; subst hv; rfl)
    have hq : (sizeOf TL).run Try.prog w = .ok 1 w := by kernel_rfl
    simp [storeVar, hq, Value.cells, World.setCells, hc, hf, go_sem] at e ⊢
  rw [hst]
  exact h
abbrev z32 : List Int := List.replicate 32 0
abbrev zcm : List Value := ccl 0 z32 (.slice none 0 0)
/-- What Add says. -/
def addE (ht : Int) (vs : List Vt) (v : Vt) : Int := if chk ht vs ≠ 0 then chk ht vs else if ¬(0 ≤ v.at' ∧ v.at' < 64) then 3 else if (ofV v.at' vs).isSome = true then 8 else 0
/-- A commit told, with an error. -/
def CP (w : World) (cd ht : Int) (h : List Int) (vs : List Vt) (e : Ending) (w' : World) : Prop := ∃ a n c, e = .returned (.tuple #[.agg (ccl ht h (.slice a n c)).toArray, .int .i64 cd]) ∧ OwnT w' (.slice a n c) vs ∧ NewB w (.slice a n c) ∧ Below w.heap.size w w'
theorem cp_none {w w' : World} {cd : Int} {e : Ending} (he : e = .returned (.tuple #[.agg zcm.toArray, .int .i64 cd])) (hb : Below w.heap.size w w') : CP w cd 0 z32 [] e w' := ⟨none, 0, 0, he, OwnT.nil w', fun k hk => by simp [Value.ownBlock] at hk, hb⟩
abbrev UC := Try.underlying95
theorem ccl_set (ht : Int) (h : List Int) (s s' : Value) (hl : h.length = 32) : (ccl ht h s).set 33 s' = ccl ht h s' := by
  show Value.int .i64 ht :: (b8 h ++ [s]).set 32 s' = _
  rw [List.set_append_right _ _ (by rw [b8_len, hl]; exact Nat.le_refl _), b8_len, hl]
  rfl
set_option maxRecDepth 10000 in
set_option maxHeartbeats 8000000 in
theorem add_chk (w : World) (ht : Int) (h : List Int) (a : Option Addr) (n c : Nat) (vs : List Vt) (v : Vt) (hl : h.length = 32) (hv : VtIn w a n c vs) (_hn : n ≤ 1000) (hc : chk ht vs ≠ 0) :
    Calls Try.prog 79 #[.agg (ccl ht h (.slice a n c)).toArray, .agg #[.int .i64 v.at', .int .u64 v.sg]] w (CP w (chk ht vs) 0 z32 []) := by
  have HL := WirS.hide hl
  have HV := WirS.hide hv
  have hbX := bag_box (w0 := w) (T := TC) (cs := ccl ht h (.slice a n c)) (X := w.heap.size) (Bag.nil (Below.refl _ _)) rfl (w' := w.alloc (.cells (ccl ht h (.slice a n c)).toArray TC)) (At.new _ _ _) (Below.alloc (Below.refl _ _) (Nat.le_refl _) _)
  have HCK := WirS.hide (fun U (hU : Below w.heap.size w U) => check_any U ht h a n c vs hl (hv.below hU))
  generalize chk ht vs = cd at *
  have d1 : (cd != 0) = true := by simpa using hc
  clear hl hv hc
  go_enter Try.func79, Try.ntmps79
  go_upto_region 0 with fail
  refine wp_region_lit ?_
  refine sV (.pointer (some ⟨w.heap.size, 0, none⟩)) (w.alloc (.cells (ccl ht h (.slice a n c)).toArray TC)) (by kernel_rfl) (by kernel_rfl) ?_
  simp only [Act.put, List.setIfInBounds_toArray, List.set_cons_succ, List.set_cons_zero]
  obtain ⟨X, eX⟩ : ∃ A, w.heap.size = A := ⟨_, rfl⟩
  rw [eX] at hbX ⊢
  clear eX
  generalize World.alloc w _ = x0 at *
  refine sV (.pointer (some ⟨x0.heap.size, 0, none⟩)) (x0.alloc (.cells v.cells.toArray TV)) (by kernel_rfl) (by kernel_rfl) ?_
  simp only [Act.put, List.setIfInBounds_toArray, List.set_cons_succ, List.set_cons_zero]
  obtain ⟨Y, eY⟩ : ∃ A, x0.heap.size = A := ⟨_, rfl⟩
  have hbY := bag_box (T := TV) (cs := v.cells) (X := Y) hbX eY.symm (w' := x0.alloc (.cells v.cells.toArray TV)) (by rw [← eY]; exact At.new _ _ _) (Below.alloc (Below.refl _ _) (Nat.le_refl _) _)
  rw [eY]
  clear eY hbX
  generalize World.alloc x0 _ = x1 at *
  refine sV (.pointer (some ⟨x1.heap.size, 0, none⟩)) (x1.alloc (.cells zcm.toArray TC)) (by kernel_rfl) (by kernel_rfl) ?_
  simp only [Act.put, List.setIfInBounds_toArray, List.set_cons_succ, List.set_cons_zero]
  obtain ⟨Z, eZ⟩ : ∃ A, x1.heap.size = A := ⟨_, rfl⟩
  have hbZ := bag_box (T := TC) (cs := zcm) (X := Z) hbY eZ.symm (w' := x1.alloc (.cells zcm.toArray TC)) (by rw [← eZ]; exact At.new _ _ _) (Below.alloc (Below.refl _ _) (Nat.le_refl _) _)
  rw [eZ]
  clear eZ hbY
  generalize World.alloc x1 _ = x2 at *
  have H2 := WirS.hide hbZ
  clear hbZ
  go_upto_region 1 with fail
  refine wp_region_lit ?_
  refine sL (by kernel_rfl) _ _ (by rfl) _ (by kernel_rfl) H2.out.drop.drop.head _ _ UC rfl (by kernel_rfl) (by rw [ccl_len _ _ _ HL.out]) ?_
  simp only [Act.put, List.setIfInBounds_toArray, List.set_cons_succ, List.set_cons_zero]
  refine sC (R := fun w' => Below x2.heap.size x2 w') (by kernel_rfl) (by kernel_rfl) (HCK.out x2 H2.out.low) ?_
  rintro x3 hb
  simp only [Act.put, List.setIfInBounds_toArray, List.set_cons_succ, List.set_cons_zero]
  have H3 := WirS.hide (H2.out.more hb)
  clear hb H2
  go_upto_region 3 with fail
  refine wp_region_lit ?_
  refine sV (.agg zcm.toArray) (x3) (by kernel_rfl) (by kernel_rfl) ?_
  simp only [Act.put, List.setIfInBounds_toArray, List.set_cons_succ, List.set_cons_zero]
  refine sV (.int .i64 cd) (x3) (by kernel_rfl) (by kernel_rfl) ?_
  simp only [Act.put, List.setIfInBounds_toArray, List.set_cons_succ, List.set_cons_zero]
  refine stepStore (by rfl) _ _ _ (by rfl) Z zcm (by kernel_rfl) (by kernel_rfl) H3.out.head 34 (by kernel_rfl) (by rfl) (by rfl) (one_ccl _ _ _ _ _) ?_
  simp only [Act.put]
  have HF := WirS.hide (bag_row H3.out zcm)
  clear H3
  generalize World.setRow x3 Z _ = xf at *
  go_wp2_with fail
  refine bodyPost_ret (retRow2 HF.out.head Try.results79 _ (by rfl) (.int .i64 cd) (by rfl) _ 34 UC rfl (by kernel_rfl) (by rfl)) rfl ?_
  exact cp_none rfl HF.out.low
set_option maxRecDepth 10000 in
set_option maxHeartbeats 8000000 in
theorem add_place (w : World) (ht : Int) (h : List Int) (a : Option Addr) (n c : Nat) (vs : List Vt) (v : Vt) (hl : h.length = 32) (hv : VtIn w a n c vs) (_hn : n ≤ 1000) (hc : chk ht vs = 0) (hp : ¬(0 ≤ v.at' ∧ v.at' < 64)) :
    Calls Try.prog 79 #[.agg (ccl ht h (.slice a n c)).toArray, .agg #[.int .i64 v.at', .int .u64 v.sg]] w (CP w 3 0 z32 []) := by
  have HL := WirS.hide hl
  have HV := WirS.hide hv
  have hbX := bag_box (w0 := w) (T := TC) (cs := ccl ht h (.slice a n c)) (X := w.heap.size) (Bag.nil (Below.refl _ _)) rfl (w' := w.alloc (.cells (ccl ht h (.slice a n c)).toArray TC)) (At.new _ _ _) (Below.alloc (Below.refl _ _) (Nat.le_refl _) _)
  have HCK := WirS.hide (fun U (hU : Below w.heap.size w U) => check_any U ht h a n c vs hl (hv.below hU))
  have HPL := WirS.hide (fun U => place_any U v.at')
  rw [decide_eq_false hp] at HPL
  rw [hc] at HCK
  clear hl hv hc hp
  go_enter Try.func79, Try.ntmps79
  go_upto_region 0 with fail
  refine wp_region_lit ?_
  refine sV (.pointer (some ⟨w.heap.size, 0, none⟩)) (w.alloc (.cells (ccl ht h (.slice a n c)).toArray TC)) (by kernel_rfl) (by kernel_rfl) ?_
  simp only [Act.put, List.setIfInBounds_toArray, List.set_cons_succ, List.set_cons_zero]
  obtain ⟨X, eX⟩ : ∃ A, w.heap.size = A := ⟨_, rfl⟩
  rw [eX] at hbX ⊢
  clear eX
  generalize World.alloc w _ = x0 at *
  refine sV (.pointer (some ⟨x0.heap.size, 0, none⟩)) (x0.alloc (.cells v.cells.toArray TV)) (by kernel_rfl) (by kernel_rfl) ?_
  simp only [Act.put, List.setIfInBounds_toArray, List.set_cons_succ, List.set_cons_zero]
  obtain ⟨Y, eY⟩ : ∃ A, x0.heap.size = A := ⟨_, rfl⟩
  have hbY := bag_box (T := TV) (cs := v.cells) (X := Y) hbX eY.symm (w' := x0.alloc (.cells v.cells.toArray TV)) (by rw [← eY]; exact At.new _ _ _) (Below.alloc (Below.refl _ _) (Nat.le_refl _) _)
  rw [eY]
  clear eY hbX
  generalize World.alloc x0 _ = x1 at *
  refine sV (.pointer (some ⟨x1.heap.size, 0, none⟩)) (x1.alloc (.cells zcm.toArray TC)) (by kernel_rfl) (by kernel_rfl) ?_
  simp only [Act.put, List.setIfInBounds_toArray, List.set_cons_succ, List.set_cons_zero]
  obtain ⟨Z, eZ⟩ : ∃ A, x1.heap.size = A := ⟨_, rfl⟩
  have hbZ := bag_box (T := TC) (cs := zcm) (X := Z) hbY eZ.symm (w' := x1.alloc (.cells zcm.toArray TC)) (by rw [← eZ]; exact At.new _ _ _) (Below.alloc (Below.refl _ _) (Nat.le_refl _) _)
  rw [eZ]
  clear eZ hbY
  generalize World.alloc x1 _ = x2 at *
  have H2 := WirS.hide hbZ
  clear hbZ
  go_upto_region 1 with fail
  refine wp_region_lit ?_
  refine sL (by kernel_rfl) _ _ (by rfl) _ (by kernel_rfl) H2.out.drop.drop.head _ _ UC rfl (by kernel_rfl) (by rw [ccl_len _ _ _ HL.out]) ?_
  simp only [Act.put, List.setIfInBounds_toArray, List.set_cons_succ, List.set_cons_zero]
  refine sC (R := fun w' => Below x2.heap.size x2 w') (by kernel_rfl) (by kernel_rfl) (HCK.out x2 H2.out.low) ?_
  rintro x3 hb
  simp only [Act.put, List.setIfInBounds_toArray, List.set_cons_succ, List.set_cons_zero]
  have H3 := WirS.hide (H2.out.more hb)
  clear hb H2
  go_upto_region 4 with fail
  refine wp_region_lit ?_
  refine sV (.pointer (some ⟨Y, 0, none⟩)) (x3) (by kernel_rfl) (by kernel_rfl) ?_
  simp only [Act.put, List.setIfInBounds_toArray, List.set_cons_succ, List.set_cons_zero]
  refine sP (by kernel_rfl) _ _ (by rfl) ⟨Y, 0, none⟩ (by kernel_rfl) (.int .i64 v.at') (H3.out.drop.head.cell 0) (by kernel_rfl) ?_
  simp only [Act.put, List.setIfInBounds_toArray, List.set_cons_succ, List.set_cons_zero]
  refine sC (R := fun w' => x3 = w') (by kernel_rfl) (by kernel_rfl) (HPL.out x3) ?_
  rintro _ rfl
  simp only [Act.put, List.setIfInBounds_toArray, List.set_cons_succ, List.set_cons_zero]
  go_upto_region 5 with fail
  refine wp_region_lit ?_
  refine sV (.agg zcm.toArray) (x3) (by kernel_rfl) (by kernel_rfl) ?_
  simp only [Act.put, List.setIfInBounds_toArray, List.set_cons_succ, List.set_cons_zero]
  refine stepStore (by rfl) _ _ _ (by rfl) Z zcm (by kernel_rfl) (by kernel_rfl) H3.out.head 34 (by kernel_rfl) (by rfl) (by rfl) (one_ccl _ _ _ _ _) ?_
  simp only [Act.put]
  have HF := WirS.hide (bag_row H3.out zcm)
  clear H3
  generalize World.setRow x3 Z _ = xf at *
  go_wp2_with fail
  refine bodyPost_ret (retRow2 HF.out.head Try.results79 _ (by rfl) (.int .i64 3) (by rfl) _ 34 UC rfl (by kernel_rfl) (by rfl)) rfl ?_
  exact cp_none rfl HF.out.low
set_option maxRecDepth 10000 in
set_option maxHeartbeats 8000000 in
theorem add_has (w : World) (ht : Int) (h : List Int) (a : Option Addr) (n c : Nat) (vs : List Vt) (v : Vt) (hl : h.length = 32) (hv : VtIn w a n c vs) (hn : n ≤ 1000) (hc : chk ht vs = 0) (hp : 0 ≤ v.at' ∧ v.at' < 64) (ho : (ofV v.at' vs).isSome = true) :
    Calls Try.prog 79 #[.agg (ccl ht h (.slice a n c)).toArray, .agg #[.int .i64 v.at', .int .u64 v.sg]] w (CP w 8 0 z32 []) := by
  have hu := ((chk_up ht vs).1 hc).2.2
  have HL := WirS.hide hl
  have HV := WirS.hide hv
  have hbX := bag_box (w0 := w) (T := TC) (cs := ccl ht h (.slice a n c)) (X := w.heap.size) (Bag.nil (Below.refl _ _)) rfl (w' := w.alloc (.cells (ccl ht h (.slice a n c)).toArray TC)) (At.new _ _ _) (Below.alloc (Below.refl _ _) (Nat.le_refl _) _)
  have HCK := WirS.hide (fun U (hU : Below w.heap.size w U) => check_any U ht h a n c vs hl (hv.below hU))
  have HPL := WirS.hide (fun U => place_any U v.at')
  have HFD := WirS.hide (fun U (hU : Below w.heap.size w U) => find_any U a n c vs v.at' (hv.below hU) hu (by omega))
  rw [decide_eq_true hp] at HPL
  rw [hc] at HCK
  rw [ho] at HFD
  generalize (cut v.at' vs : Nat) = q at *
  clear hl hv hc hp ho hu
  go_enter Try.func79, Try.ntmps79
  go_upto_region 0 with fail
  refine wp_region_lit ?_
  refine sV (.pointer (some ⟨w.heap.size, 0, none⟩)) (w.alloc (.cells (ccl ht h (.slice a n c)).toArray TC)) (by kernel_rfl) (by kernel_rfl) ?_
  simp only [Act.put, List.setIfInBounds_toArray, List.set_cons_succ, List.set_cons_zero]
  obtain ⟨X, eX⟩ : ∃ A, w.heap.size = A := ⟨_, rfl⟩
  rw [eX] at hbX ⊢
  clear eX
  generalize World.alloc w _ = x0 at *
  refine sV (.pointer (some ⟨x0.heap.size, 0, none⟩)) (x0.alloc (.cells v.cells.toArray TV)) (by kernel_rfl) (by kernel_rfl) ?_
  simp only [Act.put, List.setIfInBounds_toArray, List.set_cons_succ, List.set_cons_zero]
  obtain ⟨Y, eY⟩ : ∃ A, x0.heap.size = A := ⟨_, rfl⟩
  have hbY := bag_box (T := TV) (cs := v.cells) (X := Y) hbX eY.symm (w' := x0.alloc (.cells v.cells.toArray TV)) (by rw [← eY]; exact At.new _ _ _) (Below.alloc (Below.refl _ _) (Nat.le_refl _) _)
  rw [eY]
  clear eY hbX
  generalize World.alloc x0 _ = x1 at *
  refine sV (.pointer (some ⟨x1.heap.size, 0, none⟩)) (x1.alloc (.cells zcm.toArray TC)) (by kernel_rfl) (by kernel_rfl) ?_
  simp only [Act.put, List.setIfInBounds_toArray, List.set_cons_succ, List.set_cons_zero]
  obtain ⟨Z, eZ⟩ : ∃ A, x1.heap.size = A := ⟨_, rfl⟩
  have hbZ := bag_box (T := TC) (cs := zcm) (X := Z) hbY eZ.symm (w' := x1.alloc (.cells zcm.toArray TC)) (by rw [← eZ]; exact At.new _ _ _) (Below.alloc (Below.refl _ _) (Nat.le_refl _) _)
  rw [eZ]
  clear eZ hbY
  generalize World.alloc x1 _ = x2 at *
  have H2 := WirS.hide hbZ
  clear hbZ
  go_upto_region 1 with fail
  refine wp_region_lit ?_
  refine sL (by kernel_rfl) _ _ (by rfl) _ (by kernel_rfl) H2.out.drop.drop.head _ _ UC rfl (by kernel_rfl) (by rw [ccl_len _ _ _ HL.out]) ?_
  simp only [Act.put, List.setIfInBounds_toArray, List.set_cons_succ, List.set_cons_zero]
  refine sC (R := fun w' => Below x2.heap.size x2 w') (by kernel_rfl) (by kernel_rfl) (HCK.out x2 H2.out.low) ?_
  rintro x3 hb
  simp only [Act.put, List.setIfInBounds_toArray, List.set_cons_succ, List.set_cons_zero]
  have H3 := WirS.hide (H2.out.more hb)
  clear hb H2
  go_upto_region 4 with fail
  refine wp_region_lit ?_
  refine sV (.pointer (some ⟨Y, 0, none⟩)) (x3) (by kernel_rfl) (by kernel_rfl) ?_
  simp only [Act.put, List.setIfInBounds_toArray, List.set_cons_succ, List.set_cons_zero]
  refine sP (by kernel_rfl) _ _ (by rfl) ⟨Y, 0, none⟩ (by kernel_rfl) (.int .i64 v.at') (H3.out.drop.head.cell 0) (by kernel_rfl) ?_
  simp only [Act.put, List.setIfInBounds_toArray, List.set_cons_succ, List.set_cons_zero]
  refine sC (R := fun w' => x3 = w') (by kernel_rfl) (by kernel_rfl) (HPL.out x3) ?_
  rintro _ rfl
  simp only [Act.put, List.setIfInBounds_toArray, List.set_cons_succ, List.set_cons_zero]
  go_upto_region 6 with fail
  refine wp_region_lit ?_
  refine sV (.pointer (some ⟨X, 33, none⟩)) (x3) (by kernel_rfl) (by kernel_rfl) ?_
  simp only [Act.put, List.setIfInBounds_toArray, List.set_cons_succ, List.set_cons_zero]
  refine sP (by kernel_rfl) _ _ (by rfl) ⟨X, 33, none⟩ (by kernel_rfl) (.slice a n c) ((H3.out.drop.drop.head.cell 33).trans (ccl_33 _ _ _ HL.out)) (by kernel_rfl) ?_
  simp only [Act.put, List.setIfInBounds_toArray, List.set_cons_succ, List.set_cons_zero]
  refine sV (.pointer (some ⟨Y, 0, none⟩)) (x3) (by kernel_rfl) (by kernel_rfl) ?_
  simp only [Act.put, List.setIfInBounds_toArray, List.set_cons_succ, List.set_cons_zero]
  refine sP (by kernel_rfl) _ _ (by rfl) ⟨Y, 0, none⟩ (by kernel_rfl) (.int .i64 v.at') (H3.out.drop.head.cell 0) (by kernel_rfl) ?_
  simp only [Act.put, List.setIfInBounds_toArray, List.set_cons_succ, List.set_cons_zero]
  refine sC (R := fun w' => Below x3.heap.size x3 w') (by kernel_rfl) (by kernel_rfl) (HFD.out x3 H3.out.low) ?_
  rintro x4 hb
  simp only [Act.put, List.setIfInBounds_toArray, List.set_cons_succ, List.set_cons_zero]
  have H4 := WirS.hide (H3.out.more hb)
  clear hb H3
  refine sV (.tuple #[.int .i64 (q : Int), .bool true]) (x4) (by kernel_rfl) (by kernel_rfl) ?_
  simp only [Act.put, List.setIfInBounds_toArray, List.set_cons_succ, List.set_cons_zero]
  refine sV (.int .i64 (q : Int)) (x4) (by kernel_rfl) (by kernel_rfl) ?_
  simp only [Act.put, List.setIfInBounds_toArray, List.set_cons_succ, List.set_cons_zero]
  refine sV (.bool true) (x4) (by kernel_rfl) (by kernel_rfl) ?_
  simp only [Act.put, List.setIfInBounds_toArray, List.set_cons_succ, List.set_cons_zero]
  go_upto_region 8 with fail
  refine wp_region_lit ?_
  refine sV (.agg zcm.toArray) (x4) (by kernel_rfl) (by kernel_rfl) ?_
  simp only [Act.put, List.setIfInBounds_toArray, List.set_cons_succ, List.set_cons_zero]
  refine stepStore (by rfl) _ _ _ (by rfl) Z zcm (by kernel_rfl) (by kernel_rfl) H4.out.head 34 (by kernel_rfl) (by rfl) (by rfl) (one_ccl _ _ _ _ _) ?_
  simp only [Act.put]
  have HF := WirS.hide (bag_row H4.out zcm)
  clear H4
  generalize World.setRow x4 Z _ = xf at *
  go_wp2_with fail
  refine bodyPost_ret (retRow2 HF.out.head Try.results79 _ (by rfl) (.int .i64 8) (by rfl) _ 34 UC rfl (by kernel_rfl) (by rfl)) rfl ?_
  exact cp_none rfl HF.out.low
/-- A slice of votes. -/
def ownt (v : Value) (vs : List Vt) : Thg where
  ok w := OwnT w v vs
  foot k := v.ownBlock = some k
  stable h hf hX := h.fr hf hX
  inside h k hk := h.lt k hk
theorem bag_ownt {w0 w w' : World} {l : List Thg} {v : Value} {vs : List Vt} (h : Bag w0 w l) (ho : OwnT w' v vs) (hn : NewB w v) (hb : Below w.heap.size w w') : Bag w0 w' (ownt v vs :: l) := h.new hb ho hn
/-- A call that answers one of several values, as a step of a drawn region. -/
theorem stepCallX {P : Program} {o : Oper} {a : Act} {w : World} {K : Act → World → Prop} {Q : Exit → Act → World → Prop} {f : FuncId} {args : Array Value} {R : Ending → World → Prop} (hc : Calls P f args w R) (hrun : (execOp a.eval o).run P w = .ok (.enter f args) w)
    (h : ∀ e w', R e w' → ∃ v, e = .returned v ∧ K (a.put o.dst v) w') : o.wp P a w K Q := by
  unfold Oper.wp
  rw [hrun, Oper.upon_enter]
  exact hc.mono (fun e w' hr => by obtain ⟨v, rfl, hk⟩ := h e w' hr; exact hk)
theorem perm5 {α : Type} (o z y x v : α) : [o, z, y, x, v].Perm [o, v, x, z, y] := by
  refine List.Perm.cons o ?_
  exact (List.perm_append_comm (l₁ := [z, y]) (l₂ := [x, v])).trans ((List.Perm.swap v x [z, y]))
set_option maxRecDepth 10000 in
set_option maxHeartbeats 8000000 in
theorem add_ok (w : World) (ht : Int) (h : List Int) (a : Option Addr) (n c : Nat) (vs : List Vt) (v : Vt) (hl : h.length = 32) (hv : VtIn w a n c vs) (hn : n ≤ 1000) (hvo : v.ok) (hc : chk ht vs = 0) (hp : 0 ≤ v.at' ∧ v.at' < 64) (ho : (ofV v.at' vs).isSome = false) :
    Calls Try.prog 79 #[.agg (ccl ht h (.slice a n c)).toArray, .agg #[.int .i64 v.at', .int .u64 v.sg]] w (CP w 0 ht h (insV vs v)) := by
  have hu := ((chk_up ht vs).1 hc).2.2
  have HL := WirS.hide hl
  have HV := WirS.hide hv
  have hbX := bag_box (w0 := w) (T := TC) (cs := ccl ht h (.slice a n c)) (X := w.heap.size) (Bag.nil (Below.refl _ _)) rfl (w' := w.alloc (.cells (ccl ht h (.slice a n c)).toArray TC)) (At.new _ _ _) (Below.alloc (Below.refl _ _) (Nat.le_refl _) _)
  have HCK := WirS.hide (fun U (hU : Below w.heap.size w U) => check_any U ht h a n c vs hl (hv.below hU))
  have HPL := WirS.hide (fun U => place_any U v.at')
  have HFD := WirS.hide (fun U (hU : Below w.heap.size w U) => find_any U a n c vs v.at' (hv.below hU) hu (by omega))
  rw [decide_eq_true hp] at HPL
  rw [hc] at HCK
  rw [ho] at HFD
  have HCL := WirS.hide (fun U (hU : Below w.heap.size w U) => clone_any U a n c vs (hv.below hU) hn)
  have hqn : cut v.at' vs ≤ n := by have := cut_le v.at' vs; rw [hv.len] at this; exact this
  have HIN := WirS.hide (fun (U : World) (ca : Option Addr) (cc V : Nat) (h1 : OwnT U (.slice ca n cc) vs) (h2 : At U V TV v.cells) (h3 : (Value.slice ca n cc).ownBlock ≠ some V) => insert_any U ca n cc (cut v.at' vs) V vs v h1 h2 hvo h3 hqn hn)
  rw [show ins vs (cut v.at' vs) v = insV vs v from rfl] at HIN
  generalize (cut v.at' vs : Nat) = q at *
  clear hl hv hc hp ho hu hvo hqn
  go_enter Try.func79, Try.ntmps79
  go_upto_region 0 with fail
  refine wp_region_lit ?_
  refine sV (.pointer (some ⟨w.heap.size, 0, none⟩)) (w.alloc (.cells (ccl ht h (.slice a n c)).toArray TC)) (by kernel_rfl) (by kernel_rfl) ?_
  simp only [Act.put, List.setIfInBounds_toArray, List.set_cons_succ, List.set_cons_zero]
  obtain ⟨X, eX⟩ : ∃ A, w.heap.size = A := ⟨_, rfl⟩
  rw [eX] at hbX ⊢
  clear eX
  generalize World.alloc w _ = x0 at *
  refine sV (.pointer (some ⟨x0.heap.size, 0, none⟩)) (x0.alloc (.cells v.cells.toArray TV)) (by kernel_rfl) (by kernel_rfl) ?_
  simp only [Act.put, List.setIfInBounds_toArray, List.set_cons_succ, List.set_cons_zero]
  obtain ⟨Y, eY⟩ : ∃ A, x0.heap.size = A := ⟨_, rfl⟩
  have hbY := bag_box (T := TV) (cs := v.cells) (X := Y) hbX eY.symm (w' := x0.alloc (.cells v.cells.toArray TV)) (by rw [← eY]; exact At.new _ _ _) (Below.alloc (Below.refl _ _) (Nat.le_refl _) _)
  rw [eY]
  clear eY hbX
  generalize World.alloc x0 _ = x1 at *
  refine sV (.pointer (some ⟨x1.heap.size, 0, none⟩)) (x1.alloc (.cells zcm.toArray TC)) (by kernel_rfl) (by kernel_rfl) ?_
  simp only [Act.put, List.setIfInBounds_toArray, List.set_cons_succ, List.set_cons_zero]
  obtain ⟨Z, eZ⟩ : ∃ A, x1.heap.size = A := ⟨_, rfl⟩
  have hbZ := bag_box (T := TC) (cs := zcm) (X := Z) hbY eZ.symm (w' := x1.alloc (.cells zcm.toArray TC)) (by rw [← eZ]; exact At.new _ _ _) (Below.alloc (Below.refl _ _) (Nat.le_refl _) _)
  rw [eZ]
  clear eZ hbY
  generalize World.alloc x1 _ = x2 at *
  have H2 := WirS.hide hbZ
  clear hbZ
  go_upto_region 1 with fail
  refine wp_region_lit ?_
  refine sL (by kernel_rfl) _ _ (by rfl) _ (by kernel_rfl) H2.out.drop.drop.head _ _ UC rfl (by kernel_rfl) (by rw [ccl_len _ _ _ HL.out]) ?_
  simp only [Act.put, List.setIfInBounds_toArray, List.set_cons_succ, List.set_cons_zero]
  refine sC (R := fun w' => Below x2.heap.size x2 w') (by kernel_rfl) (by kernel_rfl) (HCK.out x2 H2.out.low) ?_
  rintro x3 hb
  simp only [Act.put, List.setIfInBounds_toArray, List.set_cons_succ, List.set_cons_zero]
  have H3 := WirS.hide (H2.out.more hb)
  clear hb H2
  go_upto_region 4 with fail
  refine wp_region_lit ?_
  refine sV (.pointer (some ⟨Y, 0, none⟩)) (x3) (by kernel_rfl) (by kernel_rfl) ?_
  simp only [Act.put, List.setIfInBounds_toArray, List.set_cons_succ, List.set_cons_zero]
  refine sP (by kernel_rfl) _ _ (by rfl) ⟨Y, 0, none⟩ (by kernel_rfl) (.int .i64 v.at') (H3.out.drop.head.cell 0) (by kernel_rfl) ?_
  simp only [Act.put, List.setIfInBounds_toArray, List.set_cons_succ, List.set_cons_zero]
  refine sC (R := fun w' => x3 = w') (by kernel_rfl) (by kernel_rfl) (HPL.out x3) ?_
  rintro _ rfl
  simp only [Act.put, List.setIfInBounds_toArray, List.set_cons_succ, List.set_cons_zero]
  go_upto_region 6 with fail
  refine wp_region_lit ?_
  refine sV (.pointer (some ⟨X, 33, none⟩)) (x3) (by kernel_rfl) (by kernel_rfl) ?_
  simp only [Act.put, List.setIfInBounds_toArray, List.set_cons_succ, List.set_cons_zero]
  refine sP (by kernel_rfl) _ _ (by rfl) ⟨X, 33, none⟩ (by kernel_rfl) (.slice a n c) ((H3.out.drop.drop.head.cell 33).trans (ccl_33 _ _ _ HL.out)) (by kernel_rfl) ?_
  simp only [Act.put, List.setIfInBounds_toArray, List.set_cons_succ, List.set_cons_zero]
  refine sV (.pointer (some ⟨Y, 0, none⟩)) (x3) (by kernel_rfl) (by kernel_rfl) ?_
  simp only [Act.put, List.setIfInBounds_toArray, List.set_cons_succ, List.set_cons_zero]
  refine sP (by kernel_rfl) _ _ (by rfl) ⟨Y, 0, none⟩ (by kernel_rfl) (.int .i64 v.at') (H3.out.drop.head.cell 0) (by kernel_rfl) ?_
  simp only [Act.put, List.setIfInBounds_toArray, List.set_cons_succ, List.set_cons_zero]
  refine sC (R := fun w' => Below x3.heap.size x3 w') (by kernel_rfl) (by kernel_rfl) (HFD.out x3 H3.out.low) ?_
  rintro x4 hb
  simp only [Act.put, List.setIfInBounds_toArray, List.set_cons_succ, List.set_cons_zero]
  have H4 := WirS.hide (H3.out.more hb)
  clear hb H3
  refine sV (.tuple #[.int .i64 (q : Int), .bool false]) (x4) (by kernel_rfl) (by kernel_rfl) ?_
  simp only [Act.put, List.setIfInBounds_toArray, List.set_cons_succ, List.set_cons_zero]
  refine sV (.int .i64 (q : Int)) (x4) (by kernel_rfl) (by kernel_rfl) ?_
  simp only [Act.put, List.setIfInBounds_toArray, List.set_cons_succ, List.set_cons_zero]
  refine sV (.bool false) (x4) (by kernel_rfl) (by kernel_rfl) ?_
  simp only [Act.put, List.setIfInBounds_toArray, List.set_cons_succ, List.set_cons_zero]
  have HSY := WirS.hide (fun (U : World) (hb : At U Y TV v.cells) => (show U.rangeAt Y 0 v.cells from fun j u hj => by rw [Nat.zero_add, hb.cell]; exact hj))
  have HZ : Hid (Bag w x4.drew [box TC Z zcm, box TV Y v.cells, box TC X (ccl ht h (.slice a n c))]) := WirS.hide (H4.out.more (below_drewN (Below.refl _ _) 1))
  clear H4
  go_upto_region 9 with fail
  refine wp_region_noPanic ?_
  refine wp_region_held_drew (S := fun w' => w'.rangeAt Y 0 v.cells) (by kernel_rfl) (HSY.out _ (HZ.out.all (box TV Y v.cells) (by simp)).1) (fun hHeld => ?_)
  generalize World.drew x4 = z0 at *
  refine' wpAnyH_take (i := 0) (oi := _) (v := .pointer (some ⟨X, 33, none⟩)) rfl (by kernel_rfl) (by kernel_rfl) (by kernel_rfl) (fun _ _ _ h => h) (Or.inl ⟨by kernel_rfl, ?hy0⟩) (by assumption) ?rest0
  case hy0 =>
    intro W _
    kernel_rfl
  case rest0 =>
  try simp only [List.getElem_toArray, List.getElem_cons_zero, Act.put, List.setIfInBounds_toArray, List.set_cons_zero, List.set_cons_succ]
  refine' wpAnyH_take (i := 3) (oi := _) (v := .int .i64 (q : Int)) rfl (by kernel_rfl) (by kernel_rfl) (by kernel_rfl) (fun _ _ _ h => h) (Or.inl ⟨by kernel_rfl, ?hy3⟩) (by assumption) ?rest3
  case hy3 =>
    intro W _
    kernel_rfl
  case rest3 =>
  try simp only [List.getElem_toArray, List.getElem_cons_succ, List.getElem_cons_zero, Act.put, List.setIfInBounds_toArray, List.set_cons_zero, List.set_cons_succ]
  refine' wpAnyH_take (i := 4) (oi := _) (v := .agg (v.cells).toArray) rfl (by kernel_rfl) (by kernel_rfl) (by kernel_rfl) (fun _ _ _ h => h) (yieldsIf_load_mid (by kernel_rfl) TV (.tmp 3) (by kernel_rfl) Y 0 (by kernel_rfl) (v.cells) _ (fun _ h => h) Try.underlying113 (by kernel_rfl) ((by rfl))) (by assumption) ?rest4
  case rest4 =>
  try simp only [List.getElem_toArray, List.getElem_cons_succ, List.getElem_cons_zero, Act.put, List.setIfInBounds_toArray, List.set_cons_zero, List.set_cons_succ]
  refine wpAnyH_ready (rs := [1, 5]) (by kernel_rfl) (by simp) ?_
  refine AllReadyH.cons rfl (fun K hK => ?_) (AllReadyH.cons rfl (fun K hK => ?_) AllReadyH.nil)
  · rw [if_pos (by kernel_rfl)]
    refine wp_load_cell TL (.tmp 30) (by kernel_rfl) ⟨X, 33, none⟩ (.slice a n c) (by kernel_rfl) (((show At _ X TC (ccl ht h (.slice a n c)) from (HZ.out.all (box TC X (ccl ht h (.slice a n c))) (by simp)).1).cell 33).trans (ccl_33 _ _ _ HL.out)) (by kernel_rfl) ?_
    try simp only [List.getElem_toArray, List.getElem_cons_succ, List.getElem_cons_zero, Act.put, List.setIfInBounds_toArray, List.set_cons_zero, List.set_cons_succ]
    refine hK.out _ _ (HSY.out _ (HZ.out.all (box TV Y v.cells) (by simp)).1) (fun hHeld => ?_)
    clear hK K
    refine wpAnyH_ready (rs := [2, 5]) (by kernel_rfl) (by simp) ?_
    refine AllReadyH.cons rfl (fun K hK => ?_) (AllReadyH.cons rfl (fun K hK => ?_) AllReadyH.nil)
    · rw [if_pos (by kernel_rfl)]
      refine stepCallX (HCL.out z0 HZ.out.low) (by kernel_rfl) ?_
      rintro e u1 ⟨ca, cc, rfl, ho, hnb, hb⟩
      refine ⟨_, rfl, ?_⟩
      try simp only [List.getElem_toArray, List.getElem_cons_succ, List.getElem_cons_zero, Act.put, List.setIfInBounds_toArray, List.set_cons_zero, List.set_cons_succ]
      have HC1 := WirS.hide (bag_ownt HZ.out ho hnb hb)
      clear ho hnb hb HZ
      refine hK.out _ _ (HSY.out _ (HC1.out.all (box TV Y v.cells) (by simp)).1) (fun hHeld => ?_)
      clear hK K
      refine wpAnyH_ready (rs := [5]) (by kernel_rfl) (by simp) ?_
      refine AllReadyH.cons rfl (fun K hK => ?_) AllReadyH.nil
      rw [if_pos (by kernel_rfl)]
      refine wp_value (w' := u1.alloc (.cells v.cells.toArray TV)) (.slice (some ⟨u1.heap.size, 0, none⟩) 1 1) (by kernel_rfl) ?_
      try simp only [List.getElem_toArray, List.getElem_cons_succ, List.getElem_cons_zero, Act.put, List.setIfInBounds_toArray, List.set_cons_zero, List.set_cons_succ]
      obtain ⟨V, eV⟩ : ∃ A, u1.heap.size = A := ⟨_, rfl⟩
      have hbV := (bag_box (T := TV) (cs := v.cells) (X := V) HC1.out eV.symm (w' := u1.alloc (.cells v.cells.toArray TV)) (by rw [← eV]; exact At.new _ _ _) (Below.alloc (Below.refl _ _) (Nat.le_refl _) _)).last
      rw [eV]
      clear eV
      generalize World.alloc u1 _ = u2 at *
      have HC2 := WirS.hide hbV
      clear hbV HC1
      refine hK.out _ _ (HSY.out _ (HC2.out.all (box TV Y v.cells) (by simp)).1) (fun hHeld => ?_)
      clear hK K
      refine wpAnyH_ready (rs := [6]) (by kernel_rfl) (by simp) ?_
      refine AllReadyH.cons rfl (fun K hK => ?_) AllReadyH.nil
      rw [if_pos (by kernel_rfl)]
      have HB6 := WirS.hide (show Bag w u2 [ownt (.slice ca n cc) vs, box TV V v.cells, box TC X (ccl ht h (.slice a n c)), box TC Z zcm, box TV Y v.cells] from (HC2.out.perm (show [ownt (.slice ca n cc) vs, box TC Z zcm, box TV Y v.cells, box TC X (ccl ht h (.slice a n c)), box TV V v.cells].Perm [ownt (.slice ca n cc) vs, box TV V v.cells, box TC X (ccl ht h (.slice a n c)), box TC Z zcm, box TV Y v.cells] from perm5 _ _ _ _ _)))
      clear HC2
      refine stepCallX (HIN.out u2 ca cc V HB6.out.head HB6.out.drop.head (fun e => (List.pairwise_cons.1 HB6.out.apart).1 (box TV V v.cells) (by simp) V e rfl)) (by kernel_rfl) ?_
      rintro e u9 ⟨ia, im, ic, rfl, hio, hif, hin⟩
      refine ⟨_, rfl, ?_⟩
      try simp only [List.getElem_toArray, List.getElem_cons_succ, List.getElem_cons_zero, Act.put, List.setIfInBounds_toArray, List.set_cons_zero, List.set_cons_succ]
      have HB7 := WirS.hide (HB6.out.act (o' := ownt (.slice ia im ic) (insV vs v)) hif hio hin)
      clear hio hif hin HB6
      refine hK.out _ _ (HSY.out _ (HB7.out.all (box TV Y v.cells) (by simp)).1) (fun hHeld => ?_)
      clear hK K
      refine' wpAnyH_take (i := 7) (oi := _) (v := .pointer (some ⟨X, 33, none⟩)) rfl (by kernel_rfl) (by kernel_rfl) (by kernel_rfl) (fun _ _ _ h => h) (Or.inl ⟨by kernel_rfl, ?hy7⟩) (by assumption) ?rest7
      case hy7 =>
        intro W _
        kernel_rfl
      case rest7 =>
      try simp only [List.getElem_toArray, List.getElem_cons_succ, List.getElem_cons_zero, Act.put, List.setIfInBounds_toArray, List.set_cons_zero, List.set_cons_succ]
      refine wpAnyH_ready (rs := [8]) (by kernel_rfl) (by simp) ?_
      refine AllReadyH.cons rfl (fun K hK => ?_) AllReadyH.nil
      rw [if_pos (by kernel_rfl)]
      have HB8 := WirS.hide (HB7.out.perm (show [ownt (.slice ia im ic) (insV vs v), box TV V v.cells, box TC X (ccl ht h (.slice a n c)), box TC Z zcm, box TV Y v.cells].Perm [box TC X (ccl ht h (.slice a n c)), ownt (.slice ia im ic) (insV vs v), box TV V v.cells, box TC Z zcm, box TV Y v.cells] from List.perm_append_comm (l₁ := [ownt (.slice ia im ic) (insV vs v), box TV V v.cells]) (l₂ := [box TC X (ccl ht h (.slice a n c))]) |>.append_right _))
      clear HB7
      refine store_sl (x := .tmp 37) (y := .tmp 36) (by kernel_rfl) X 33 ia im ic _ (by kernel_rfl) (by kernel_rfl) (HB8.out.head.cell 33) (by rw [ccl_33 _ _ _ HL.out]; rfl) (HB8.out.head.frozen 33) ?_
      have hb9 := bag_set HB8.out 33 (.slice ia im ic)
      rw [ccl_set _ _ _ _ HL.out] at hb9
      have HB9 := WirS.hide hb9
      clear hb9 HB8
      refine hK.out _ _ (HSY.out _ (HB9.out.all (box TV Y v.cells) (by simp)).1) (fun hHeld => ?_)
      clear hK K
      try simp only [Act.put]
      refine wpAnyH_done (by kernel_rfl) ?_ _
      refine NoPanic.normal ?_
      clear hHeld
      generalize World.setCell u9 _ _ = y1 at *
      go_upto_region 10 with fail
      refine wp_region_lit ?_
      refine sL (by kernel_rfl) _ _ (by rfl) _ (by kernel_rfl) HB9.out.head _ _ UC rfl (by kernel_rfl) (by rw [ccl_len _ _ _ HL.out]) ?_
      simp only [Act.put, List.setIfInBounds_toArray]
      have HBZ := WirS.hide (HB9.out.perm (show [box TC X (ccl ht h (.slice ia im ic)), ownt (.slice ia im ic) (insV vs v), box TV V v.cells, box TC Z zcm, box TV Y v.cells].Perm [box TC Z zcm, box TC X (ccl ht h (.slice ia im ic)), ownt (.slice ia im ic) (insV vs v), box TV V v.cells, box TV Y v.cells] from List.perm_append_comm (l₁ := [box TC X (ccl ht h (.slice ia im ic)), ownt (.slice ia im ic) (insV vs v), box TV V v.cells]) (l₂ := [box TC Z zcm]) |>.append_right _))
      clear HB9
      refine stepStore (by rfl) _ _ _ (by rfl) Z (ccl ht h (.slice ia im ic)) (by kernel_rfl) (by kernel_rfl) HBZ.out.head 34 (by kernel_rfl) (by rfl) (ccl_len _ _ _ HL.out) (one_ccl _ _ _ _ _) ?_
      simp only [Act.put]
      have HF := WirS.hide (bag_row HBZ.out (ccl ht h (.slice ia im ic)))
      clear HBZ
      generalize World.setRow y1 Z _ = xf at *
      go_wp2_with fail
      refine bodyPost_ret (retRow2 HF.out.head Try.results79 _ (by rfl) (.int .i64 0) (by rfl) _ 34 UC rfl (by kernel_rfl) (ccl_len _ _ _ HL.out)) rfl ?_
      exact ⟨ia, im, ic, rfl, HF.out.drop.drop.head, fun k hk => (HF.out.all (ownt (.slice ia im ic) (insV vs v)) (by simp)).2 k hk, HF.out.low⟩
    · rw [if_pos (by kernel_rfl)]
      refine wp_value (w' := z0.alloc (.cells v.cells.toArray TV)) (.slice (some ⟨z0.heap.size, 0, none⟩) 1 1) (by kernel_rfl) ?_
      try simp only [List.getElem_toArray, List.getElem_cons_succ, List.getElem_cons_zero, Act.put, List.setIfInBounds_toArray, List.set_cons_zero, List.set_cons_succ]
      obtain ⟨V, eV⟩ : ∃ A, z0.heap.size = A := ⟨_, rfl⟩
      have hbV := (bag_box (T := TV) (cs := v.cells) (X := V) HZ.out eV.symm (w' := z0.alloc (.cells v.cells.toArray TV)) (by rw [← eV]; exact At.new _ _ _) (Below.alloc (Below.refl _ _) (Nat.le_refl _) _)).last
      rw [eV]
      clear eV
      generalize World.alloc z0 _ = u1 at *
      have HC1 := WirS.hide hbV
      clear hbV HZ
      refine hK.out _ _ (HSY.out _ (HC1.out.all (box TV Y v.cells) (by simp)).1) (fun hHeld => ?_)
      clear hK K
      refine wpAnyH_ready (rs := [2]) (by kernel_rfl) (by simp) ?_
      refine AllReadyH.cons rfl (fun K hK => ?_) AllReadyH.nil
      rw [if_pos (by kernel_rfl)]
      refine stepCallX (HCL.out u1 HC1.out.low) (by kernel_rfl) ?_
      rintro e u2 ⟨ca, cc, rfl, ho, hnb, hb⟩
      refine ⟨_, rfl, ?_⟩
      try simp only [List.getElem_toArray, List.getElem_cons_succ, List.getElem_cons_zero, Act.put, List.setIfInBounds_toArray, List.set_cons_zero, List.set_cons_succ]
      have HC2 := WirS.hide (bag_ownt HC1.out ho hnb hb)
      clear ho hnb hb HC1
      refine hK.out _ _ (HSY.out _ (HC2.out.all (box TV Y v.cells) (by simp)).1) (fun hHeld => ?_)
      clear hK K
      refine wpAnyH_ready (rs := [6]) (by kernel_rfl) (by simp) ?_
      refine AllReadyH.cons rfl (fun K hK => ?_) AllReadyH.nil
      rw [if_pos (by kernel_rfl)]
      have HB6 := WirS.hide (show Bag w u2 [ownt (.slice ca n cc) vs, box TV V v.cells, box TC X (ccl ht h (.slice a n c)), box TC Z zcm, box TV Y v.cells] from (HC2.out.perm (show [ownt (.slice ca n cc) vs, box TC Z zcm, box TV Y v.cells, box TC X (ccl ht h (.slice a n c)), box TV V v.cells].Perm [ownt (.slice ca n cc) vs, box TV V v.cells, box TC X (ccl ht h (.slice a n c)), box TC Z zcm, box TV Y v.cells] from perm5 _ _ _ _ _)))
      clear HC2
      refine stepCallX (HIN.out u2 ca cc V HB6.out.head HB6.out.drop.head (fun e => (List.pairwise_cons.1 HB6.out.apart).1 (box TV V v.cells) (by simp) V e rfl)) (by kernel_rfl) ?_
      rintro e u9 ⟨ia, im, ic, rfl, hio, hif, hin⟩
      refine ⟨_, rfl, ?_⟩
      try simp only [List.getElem_toArray, List.getElem_cons_succ, List.getElem_cons_zero, Act.put, List.setIfInBounds_toArray, List.set_cons_zero, List.set_cons_succ]
      have HB7 := WirS.hide (HB6.out.act (o' := ownt (.slice ia im ic) (insV vs v)) hif hio hin)
      clear hio hif hin HB6
      refine hK.out _ _ (HSY.out _ (HB7.out.all (box TV Y v.cells) (by simp)).1) (fun hHeld => ?_)
      clear hK K
      refine' wpAnyH_take (i := 7) (oi := _) (v := .pointer (some ⟨X, 33, none⟩)) rfl (by kernel_rfl) (by kernel_rfl) (by kernel_rfl) (fun _ _ _ h => h) (Or.inl ⟨by kernel_rfl, ?hy7⟩) (by assumption) ?rest7
      case hy7 =>
        intro W _
        kernel_rfl
      case rest7 =>
      try simp only [List.getElem_toArray, List.getElem_cons_succ, List.getElem_cons_zero, Act.put, List.setIfInBounds_toArray, List.set_cons_zero, List.set_cons_succ]
      refine wpAnyH_ready (rs := [8]) (by kernel_rfl) (by simp) ?_
      refine AllReadyH.cons rfl (fun K hK => ?_) AllReadyH.nil
      rw [if_pos (by kernel_rfl)]
      have HB8 := WirS.hide (HB7.out.perm (show [ownt (.slice ia im ic) (insV vs v), box TV V v.cells, box TC X (ccl ht h (.slice a n c)), box TC Z zcm, box TV Y v.cells].Perm [box TC X (ccl ht h (.slice a n c)), ownt (.slice ia im ic) (insV vs v), box TV V v.cells, box TC Z zcm, box TV Y v.cells] from List.perm_append_comm (l₁ := [ownt (.slice ia im ic) (insV vs v), box TV V v.cells]) (l₂ := [box TC X (ccl ht h (.slice a n c))]) |>.append_right _))
      clear HB7
      refine store_sl (x := .tmp 37) (y := .tmp 36) (by kernel_rfl) X 33 ia im ic _ (by kernel_rfl) (by kernel_rfl) (HB8.out.head.cell 33) (by rw [ccl_33 _ _ _ HL.out]; rfl) (HB8.out.head.frozen 33) ?_
      have hb9 := bag_set HB8.out 33 (.slice ia im ic)
      rw [ccl_set _ _ _ _ HL.out] at hb9
      have HB9 := WirS.hide hb9
      clear hb9 HB8
      refine hK.out _ _ (HSY.out _ (HB9.out.all (box TV Y v.cells) (by simp)).1) (fun hHeld => ?_)
      clear hK K
      try simp only [Act.put]
      refine wpAnyH_done (by kernel_rfl) ?_ _
      refine NoPanic.normal ?_
      clear hHeld
      generalize World.setCell u9 _ _ = y1 at *
      go_upto_region 10 with fail
      refine wp_region_lit ?_
      refine sL (by kernel_rfl) _ _ (by rfl) _ (by kernel_rfl) HB9.out.head _ _ UC rfl (by kernel_rfl) (by rw [ccl_len _ _ _ HL.out]) ?_
      simp only [Act.put, List.setIfInBounds_toArray]
      have HBZ := WirS.hide (HB9.out.perm (show [box TC X (ccl ht h (.slice ia im ic)), ownt (.slice ia im ic) (insV vs v), box TV V v.cells, box TC Z zcm, box TV Y v.cells].Perm [box TC Z zcm, box TC X (ccl ht h (.slice ia im ic)), ownt (.slice ia im ic) (insV vs v), box TV V v.cells, box TV Y v.cells] from List.perm_append_comm (l₁ := [box TC X (ccl ht h (.slice ia im ic)), ownt (.slice ia im ic) (insV vs v), box TV V v.cells]) (l₂ := [box TC Z zcm]) |>.append_right _))
      clear HB9
      refine stepStore (by rfl) _ _ _ (by rfl) Z (ccl ht h (.slice ia im ic)) (by kernel_rfl) (by kernel_rfl) HBZ.out.head 34 (by kernel_rfl) (by rfl) (ccl_len _ _ _ HL.out) (one_ccl _ _ _ _ _) ?_
      simp only [Act.put]
      have HF := WirS.hide (bag_row HBZ.out (ccl ht h (.slice ia im ic)))
      clear HBZ
      generalize World.setRow y1 Z _ = xf at *
      go_wp2_with fail
      refine bodyPost_ret (retRow2 HF.out.head Try.results79 _ (by rfl) (.int .i64 0) (by rfl) _ 34 UC rfl (by kernel_rfl) (ccl_len _ _ _ HL.out)) rfl ?_
      exact ⟨ia, im, ic, rfl, HF.out.drop.drop.head, fun k hk => (HF.out.all (ownt (.slice ia im ic) (insV vs v)) (by simp)).2 k hk, HF.out.low⟩
  · rw [if_pos (by kernel_rfl)]
    refine wp_value (w' := z0.alloc (.cells v.cells.toArray TV)) (.slice (some ⟨z0.heap.size, 0, none⟩) 1 1) (by kernel_rfl) ?_
    try simp only [List.getElem_toArray, List.getElem_cons_succ, List.getElem_cons_zero, Act.put, List.setIfInBounds_toArray, List.set_cons_zero, List.set_cons_succ]
    obtain ⟨V, eV⟩ : ∃ A, z0.heap.size = A := ⟨_, rfl⟩
    have hbV := (bag_box (T := TV) (cs := v.cells) (X := V) HZ.out eV.symm (w' := z0.alloc (.cells v.cells.toArray TV)) (by rw [← eV]; exact At.new _ _ _) (Below.alloc (Below.refl _ _) (Nat.le_refl _) _)).last
    rw [eV]
    clear eV
    generalize World.alloc z0 _ = u1 at *
    have HC1 := WirS.hide hbV
    clear hbV HZ
    refine hK.out _ _ (HSY.out _ (HC1.out.all (box TV Y v.cells) (by simp)).1) (fun hHeld => ?_)
    clear hK K
    refine wpAnyH_ready (rs := [1]) (by kernel_rfl) (by simp) ?_
    refine AllReadyH.cons rfl (fun K hK => ?_) AllReadyH.nil
    rw [if_pos (by kernel_rfl)]
    refine wp_load_cell TL (.tmp 30) (by kernel_rfl) ⟨X, 33, none⟩ (.slice a n c) (by kernel_rfl) (((show At _ X TC (ccl ht h (.slice a n c)) from (HC1.out.all (box TC X (ccl ht h (.slice a n c))) (by simp)).1).cell 33).trans (ccl_33 _ _ _ HL.out)) (by kernel_rfl) ?_
    try simp only [List.getElem_toArray, List.getElem_cons_succ, List.getElem_cons_zero, Act.put, List.setIfInBounds_toArray, List.set_cons_zero, List.set_cons_succ]
    refine hK.out _ _ (HSY.out _ (HC1.out.all (box TV Y v.cells) (by simp)).1) (fun hHeld => ?_)
    clear hK K
    refine wpAnyH_ready (rs := [2]) (by kernel_rfl) (by simp) ?_
    refine AllReadyH.cons rfl (fun K hK => ?_) AllReadyH.nil
    rw [if_pos (by kernel_rfl)]
    refine stepCallX (HCL.out u1 HC1.out.low) (by kernel_rfl) ?_
    rintro e u2 ⟨ca, cc, rfl, ho, hnb, hb⟩
    refine ⟨_, rfl, ?_⟩
    try simp only [List.getElem_toArray, List.getElem_cons_succ, List.getElem_cons_zero, Act.put, List.setIfInBounds_toArray, List.set_cons_zero, List.set_cons_succ]
    have HC2 := WirS.hide (bag_ownt HC1.out ho hnb hb)
    clear ho hnb hb HC1
    refine hK.out _ _ (HSY.out _ (HC2.out.all (box TV Y v.cells) (by simp)).1) (fun hHeld => ?_)
    clear hK K
    refine wpAnyH_ready (rs := [6]) (by kernel_rfl) (by simp) ?_
    refine AllReadyH.cons rfl (fun K hK => ?_) AllReadyH.nil
    rw [if_pos (by kernel_rfl)]
    have HB6 := WirS.hide (show Bag w u2 [ownt (.slice ca n cc) vs, box TV V v.cells, box TC X (ccl ht h (.slice a n c)), box TC Z zcm, box TV Y v.cells] from (HC2.out.perm (show [ownt (.slice ca n cc) vs, box TC Z zcm, box TV Y v.cells, box TC X (ccl ht h (.slice a n c)), box TV V v.cells].Perm [ownt (.slice ca n cc) vs, box TV V v.cells, box TC X (ccl ht h (.slice a n c)), box TC Z zcm, box TV Y v.cells] from perm5 _ _ _ _ _)))
    clear HC2
    refine stepCallX (HIN.out u2 ca cc V HB6.out.head HB6.out.drop.head (fun e => (List.pairwise_cons.1 HB6.out.apart).1 (box TV V v.cells) (by simp) V e rfl)) (by kernel_rfl) ?_
    rintro e u9 ⟨ia, im, ic, rfl, hio, hif, hin⟩
    refine ⟨_, rfl, ?_⟩
    try simp only [List.getElem_toArray, List.getElem_cons_succ, List.getElem_cons_zero, Act.put, List.setIfInBounds_toArray, List.set_cons_zero, List.set_cons_succ]
    have HB7 := WirS.hide (HB6.out.act (o' := ownt (.slice ia im ic) (insV vs v)) hif hio hin)
    clear hio hif hin HB6
    refine hK.out _ _ (HSY.out _ (HB7.out.all (box TV Y v.cells) (by simp)).1) (fun hHeld => ?_)
    clear hK K
    refine' wpAnyH_take (i := 7) (oi := _) (v := .pointer (some ⟨X, 33, none⟩)) rfl (by kernel_rfl) (by kernel_rfl) (by kernel_rfl) (fun _ _ _ h => h) (Or.inl ⟨by kernel_rfl, ?hy7⟩) (by assumption) ?rest7
    case hy7 =>
      intro W _
      kernel_rfl
    case rest7 =>
    try simp only [List.getElem_toArray, List.getElem_cons_succ, List.getElem_cons_zero, Act.put, List.setIfInBounds_toArray, List.set_cons_zero, List.set_cons_succ]
    refine wpAnyH_ready (rs := [8]) (by kernel_rfl) (by simp) ?_
    refine AllReadyH.cons rfl (fun K hK => ?_) AllReadyH.nil
    rw [if_pos (by kernel_rfl)]
    have HB8 := WirS.hide (HB7.out.perm (show [ownt (.slice ia im ic) (insV vs v), box TV V v.cells, box TC X (ccl ht h (.slice a n c)), box TC Z zcm, box TV Y v.cells].Perm [box TC X (ccl ht h (.slice a n c)), ownt (.slice ia im ic) (insV vs v), box TV V v.cells, box TC Z zcm, box TV Y v.cells] from List.perm_append_comm (l₁ := [ownt (.slice ia im ic) (insV vs v), box TV V v.cells]) (l₂ := [box TC X (ccl ht h (.slice a n c))]) |>.append_right _))
    clear HB7
    refine store_sl (x := .tmp 37) (y := .tmp 36) (by kernel_rfl) X 33 ia im ic _ (by kernel_rfl) (by kernel_rfl) (HB8.out.head.cell 33) (by rw [ccl_33 _ _ _ HL.out]; rfl) (HB8.out.head.frozen 33) ?_
    have hb9 := bag_set HB8.out 33 (.slice ia im ic)
    rw [ccl_set _ _ _ _ HL.out] at hb9
    have HB9 := WirS.hide hb9
    clear hb9 HB8
    refine hK.out _ _ (HSY.out _ (HB9.out.all (box TV Y v.cells) (by simp)).1) (fun hHeld => ?_)
    clear hK K
    try simp only [Act.put]
    refine wpAnyH_done (by kernel_rfl) ?_ _
    refine NoPanic.normal ?_
    clear hHeld
    generalize World.setCell u9 _ _ = y1 at *
    go_upto_region 10 with fail
    refine wp_region_lit ?_
    refine sL (by kernel_rfl) _ _ (by rfl) _ (by kernel_rfl) HB9.out.head _ _ UC rfl (by kernel_rfl) (by rw [ccl_len _ _ _ HL.out]) ?_
    simp only [Act.put, List.setIfInBounds_toArray]
    have HBZ := WirS.hide (HB9.out.perm (show [box TC X (ccl ht h (.slice ia im ic)), ownt (.slice ia im ic) (insV vs v), box TV V v.cells, box TC Z zcm, box TV Y v.cells].Perm [box TC Z zcm, box TC X (ccl ht h (.slice ia im ic)), ownt (.slice ia im ic) (insV vs v), box TV V v.cells, box TV Y v.cells] from List.perm_append_comm (l₁ := [box TC X (ccl ht h (.slice ia im ic)), ownt (.slice ia im ic) (insV vs v), box TV V v.cells]) (l₂ := [box TC Z zcm]) |>.append_right _))
    clear HB9
    refine stepStore (by rfl) _ _ _ (by rfl) Z (ccl ht h (.slice ia im ic)) (by kernel_rfl) (by kernel_rfl) HBZ.out.head 34 (by kernel_rfl) (by rfl) (ccl_len _ _ _ HL.out) (one_ccl _ _ _ _ _) ?_
    simp only [Act.put]
    have HF := WirS.hide (bag_row HBZ.out (ccl ht h (.slice ia im ic)))
    clear HBZ
    generalize World.setRow y1 Z _ = xf at *
    go_wp2_with fail
    refine bodyPost_ret (retRow2 HF.out.head Try.results79 _ (by rfl) (.int .i64 0) (by rfl) _ 34 UC rfl (by kernel_rfl) (ccl_len _ _ _ HL.out)) rfl ?_
    exact ⟨ia, im, ic, rfl, HF.out.drop.drop.head, fun k hk => (HF.out.all (ownt (.slice ia im ic) (insV vs v)) (by simp)).2 k hk, HF.out.low⟩
theorem add_any (w : World) (ht : Int) (h : List Int) (a : Option Addr) (n c : Nat) (vs : List Vt) (v : Vt) (hl : h.length = 32) (hv : VtIn w a n c vs) (hn : n ≤ 1000) (hvo : v.ok) :
    Calls Try.prog 79 #[.agg (ccl ht h (.slice a n c)).toArray, .agg #[.int .i64 v.at', .int .u64 v.sg]] w (CP w (addE ht vs v) (if addE ht vs v = 0 then ht else 0) (if addE ht vs v = 0 then h else z32) (if addE ht vs v = 0 then insV vs v else [])) := by
  unfold addE
  by_cases h1 : chk ht vs = 0
  · rw [if_neg (by simpa using h1)]
    by_cases h2 : 0 ≤ v.at' ∧ v.at' < 64
    · rw [if_neg (by simpa using h2)]
      cases h3 : (ofV v.at' vs).isSome with
      | true => exact add_has w ht h a n c vs v hl hv hn h1 h2 h3
      | false => exact add_ok w ht h a n c vs v hl hv hn hvo h1 h2 h3
    · rw [if_pos h2]
      exact add_place w ht h a n c vs v hl hv hn h1 h2
  · rw [if_pos h1, if_neg h1, if_neg h1, if_neg h1]
    exact add_chk w ht h a n c vs v hl hv hn h1
end CmJ
end Go.Proofs.Ytplinpbmncccoaa
