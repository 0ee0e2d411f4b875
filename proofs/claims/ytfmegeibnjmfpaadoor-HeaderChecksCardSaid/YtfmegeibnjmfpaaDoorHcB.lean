/-
  HeaderChecks walked.
-/
import Derived.Test.YtfmegeibnjmfpaaDoorHcA
import Derived.Test.YtfmegeibnjmfpaaDoorPdS
import Derived.Test.YtfmegeibnjmfpaaDoorPdU
import Derived.Test.YtfmegeibnjmfpaaDoorPdF
import Derived.Test.YtfmegeibnjmfpaaDoorPdL
import Derived.Deep.MidRow
import Derived.Deep.RegionHeld3
namespace Go.Proofs.YtfmegeibnjmfpaaDoor
namespace HcB
open Go.RowKit
open BlkM WirM WirS HdA HdB HdC HdE
open WirE (NewB)
open WirX (Thg Bag own bag_own)
open WirAA (box bag_box)
open WirAB (sCx)
open WirRT (rng)
open WrwA (NO)
open BlkG (Glob)
open BlkP (eqH)
open BlkR (alH)
open HdR (HIn)
open HhA (bag_row xh xh_len)
open HcA

/-- A call as a step of a drawn region. -/
theorem stepCallH {P : Program} {o : Oper} {a : Act} {w : World} {K : Act → World → Prop} {Q : Exit → Act → World → Prop} {f : FuncId} {args : Array Value} {v : Value} {R : World → Prop} (hrun : (execOp a.eval o).run P w = .ok (.enter f args) w)
    (hc : Calls P f args w fun e w' => e = .returned v ∧ R w') (h : ∀ w', R w' → K (a.put o.dst v) w') : o.wp P a w K Q := by
  unfold Oper.wp
  rw [hrun, Oper.upon_enter]
  exact hc.mono (by rintro e w' ⟨rfl, hr⟩; exact h w' hr)
/-- Two values compared, as an operation. -/
theorem run_eq {P : Program} {a : Operand → Value} {o : Oper} {op : BinOp} {t t2 : TypeId} {x y : Operand} {vx vy v : Value} {w : World} (ho : o.op = .binOp op t x y t2) (hx : a x = vx) (hy : a y = vy) (hr : (binOp op t vx vy).run P w = .ok v w) (hg : (eqGuard op t x y vx vy).run P w = .ok () w) : (execOp a o).run P w = .ok (.value v) w := by
  unfold execOp
  simp only [ho, hx, hy, Sem.run_bind, hg, Result.andThen_ok, hr, Sem.run_pure]
theorem rangeAt0 {w : World} {X : Nat} {T : TypeId} {cs : List Value} (h : At w X T cs) : w.rangeAt X 0 cs := fun j v hj => by
  rw [Nat.zero_add, h.cell]
  exact hj
theorem eqI (a : Int) (W : World) : (binOp .eql 30 (.int .i64 a) (.int .i64 a)).run Tryd.prog W = .ok (.bool true) W := by
  simp [binOp, go_sem]
theorem eqB (b : Bool) (W : World) : (binOp .eql 4 (.bool b) (.bool b)).run Tryd.prog W = .ok (.bool true) W := by
  cases b <;> kernel_rfl
set_option maxRecDepth 20000 in
set_option maxHeartbeats 16000000 in
theorem checks_any (w : World) (t : Hd) (it : HIn t) (hg : Glob w) :
    Calls Tryd.prog 9 #[.agg t.cells.toArray] w fun e w' => e = .returned (.bool true) ∧ Below w.heap.size w w' := by
  have HLen := WirS.hide t.len
  have hw0 := hg.1
  have HAW := WirS.hide (fun U => HdK.awake_any U)
  have HGL := WirS.hide (fun U (hU : Below w.heap.size w U) => hg.below hU hw0)
  have HNM := WirS.hide (show t.cells[0]? = some (.string t.ch) from rfl)
  obtain ⟨A, eA⟩ : ∃ A, w.heap.size = A := ⟨_, rfl⟩
  have hb0 := bag_box (w0 := w) (T := 58) (cs := t.cells) (X := A) (Bag.nil (Below.refl _ _)) eA.symm (w' := w.alloc (.cells t.cells.toArray 58)) (by rw [← eA]; exact At.new _ _ _) (Below.alloc (Below.refl _ _) (Nat.le_refl _) _)
  have H0 := WirS.hide hb0
  by_cases h60 : t.ch.size ≤ 60
  · have HEN := WirS.hide (fun U => enc_any U t h60)
    have HPE := WirS.hide (fun U => penc_any U t h60)
    have HHP := WirS.hide (fun U (hU : Glob U) => HhA.hash_any U t h60 it.hs hU)
    have HHR := WirS.hide (fun U => hash_any U t h60 it.hs)
    have HCP := WirS.hide (fun U => check_any U t (by omega))
    have HCR := WirS.hide (fun U => HdL.rcheck_any U t (by omega))
    have HNP := WirS.hide (fun U => name_any U t.ch (by omega))
    have HNR := WirS.hide (fun U => HdL.rname_any U t.ch (by omega))
    have HFR := WirS.hide (fm_rng it.hs)
    have HFL := WirS.hide (fm_len t)
    have HXL := WirS.hide (xh_len t)
    have g60 : ¬ (60 : Int) < (t.ch.size : Int) := by omega
    generalize hchk t = cd at *
    generalize fm t = f at *
    generalize xh t = x at *
    generalize nameB t.ch = nb at *
    obtain ⟨nm, hnm⟩ : ∃ nm, t.ch = nm := ⟨_, rfl⟩
    rw [hnm] at HNM HNP HNR g60
    clear hnm it hg hw0 hb0 h60
    go_enter Tryd.func9, Tryd.ntmps9
    go_upto_region 0 with fail
    refine wp_region_lit ?_
    refine sV (.pointer (some ⟨w.heap.size, 0, none⟩)) (w.alloc (.cells t.cells.toArray 58)) (by kernel_rfl) (by kernel_rfl) ?_
    simp only [Act.put, List.setIfInBounds_toArray, List.set_cons_succ, List.set_cons_zero]
    rw [eA]
    clear eA
    generalize World.alloc w _ = x0 at *
    have k0 : x0.cell? ⟨A, 0, none⟩ = some (.string nm) := (H0.out.head.cell 0).trans HNM.out
    go_upto_region 3 with fail
    clear k0
    refine wp_region_lit ?_
    refine sL (by kernel_rfl) _ _ (by rfl) _ (by kernel_rfl) (H0.out.all (box 58 A t.cells) (by simp)).1 _ _ Tryd.underlying58 rfl (by kernel_rfl) (by rw [HLen.out]) ?_
    simp only [Act.put, List.setIfInBounds_toArray, List.set_cons_succ, List.set_cons_zero]
    refine sCx (by kernel_rfl) (by kernel_rfl) (HPE.out x0) ?_
    rintro e nc ⟨ca, cn, cc, rfl, hv, hn, hb⟩
    refine ⟨_, rfl, ?_⟩
    simp only [Act.put, List.setIfInBounds_toArray, List.set_cons_succ, List.set_cons_zero]
    have H1 := WirS.hide (bag_own H0.out hv hn hb)
    clear hb H0 hv hn
    go_upto_region 4 with fail
    refine wp_region_lit ?_
    refine sL (by kernel_rfl) _ _ (by rfl) _ (by kernel_rfl) (H1.out.all (box 58 A t.cells) (by simp)).1 _ _ Tryd.underlying58 rfl (by kernel_rfl) (by rw [HLen.out]) ?_
    simp only [Act.put, List.setIfInBounds_toArray, List.set_cons_succ, List.set_cons_zero]
    refine sCx (by kernel_rfl) (by kernel_rfl) (HEN.out nc) ?_
    rintro e nd ⟨da, dn, dc, rfl, hv, hn, hb⟩
    refine ⟨_, rfl, ?_⟩
    simp only [Act.put, List.setIfInBounds_toArray, List.set_cons_succ, List.set_cons_zero]
    have H2 := WirS.hide (bag_own H1.out hv hn hb)
    clear hb H1 hv hn
    go_upto_region 5 with fail
    refine wp_region_lit ?_
    refine sL (by kernel_rfl) _ _ (by rfl) _ (by kernel_rfl) (H2.out.all (box 58 A t.cells) (by simp)).1 _ _ Tryd.underlying58 rfl (by kernel_rfl) (by rw [HLen.out]) ?_
    simp only [Act.put, List.setIfInBounds_toArray, List.set_cons_succ, List.set_cons_zero]
    refine sC (R := fun w' => Below nd.heap.size nd w') (by kernel_rfl) (by kernel_rfl) (HHP.out nd (HGL.out nd H2.out.low)) ?_
    rintro qRX hb
    simp only [Act.put, List.setIfInBounds_toArray, List.set_cons_succ, List.set_cons_zero]
    have HQ := WirS.hide (H2.out.more hb)
    clear hb H2
    refine sV (.tuple #[.agg (b8 x).toArray, .int .i64 cd]) (qRX) (by kernel_rfl) (by kernel_rfl) ?_
    simp only [Act.put, List.setIfInBounds_toArray, List.set_cons_succ, List.set_cons_zero]
    refine sV (.agg (b8 x).toArray) (qRX) (by kernel_rfl) (by kernel_rfl) ?_
    simp only [Act.put, List.setIfInBounds_toArray, List.set_cons_succ, List.set_cons_zero]
    refine sV (.int .i64 cd) (qRX) (by kernel_rfl) (by kernel_rfl) ?_
    simp only [Act.put, List.setIfInBounds_toArray, List.set_cons_succ, List.set_cons_zero]
    refine sV (.pointer (some ⟨qRX.heap.size, 0, none⟩)) (qRX.alloc (.cells (b8 (List.replicate 32 0)).toArray 26)) (by kernel_rfl) (alH _ _ (by rfl) qRX) ?_
    simp only [Act.put, List.setIfInBounds_toArray, List.set_cons_succ, List.set_cons_zero]
    obtain ⟨RX, eR⟩ : ∃ A, qRX.heap.size = A := ⟨_, rfl⟩
    have hb1 := bag_box (T := 26) (cs := b8 (List.replicate 32 0)) (X := RX) HQ.out eR.symm (w' := qRX.alloc (.cells (b8 (List.replicate 32 0)).toArray 26)) (by rw [← eR]; exact At.new _ _ _) (Below.alloc (Below.refl _ _) (Nat.le_refl _) _)
    rw [eR]
    clear eR HQ
    generalize World.alloc qRX _ = pRX at *
    refine stepStore (by rfl) _ _ _ (by rfl) RX (b8 x) (by kernel_rfl) (by kernel_rfl) hb1.head 32 (by kernel_rfl) (by rw [b8_len]; rfl) (by rw [b8_len]; exact HXL.out) (oneCells_b8 _) ?_
    simp only [Act.put]
    have H3 := WirS.hide (bag_row hb1 (b8 x))
    clear hb1
    generalize World.setRow pRX RX _ = z1 at *
    go_upto_region 6 with fail
    refine wp_region_lit ?_
    refine sL (by kernel_rfl) _ _ (by rfl) _ (by kernel_rfl) (H3.out.all (box 58 A t.cells) (by simp)).1 _ _ Tryd.underlying58 rfl (by kernel_rfl) (by rw [HLen.out]) ?_
    simp only [Act.put, List.setIfInBounds_toArray, List.set_cons_succ, List.set_cons_zero]
    refine sC (R := fun w' => Below z1.heap.size z1 w') (by kernel_rfl) (by kernel_rfl) (HHR.out z1) ?_
    rintro qRY hb
    simp only [Act.put, List.setIfInBounds_toArray, List.set_cons_succ, List.set_cons_zero]
    have HQ := WirS.hide (H3.out.more hb)
    clear hb H3
    refine sV (.tuple #[.agg (b8 x).toArray, .int .i64 cd]) (qRY) (by kernel_rfl) (by kernel_rfl) ?_
    simp only [Act.put, List.setIfInBounds_toArray, List.set_cons_succ, List.set_cons_zero]
    refine sV (.agg (b8 x).toArray) (qRY) (by kernel_rfl) (by kernel_rfl) ?_
    simp only [Act.put, List.setIfInBounds_toArray, List.set_cons_succ, List.set_cons_zero]
    refine sV (.int .i64 cd) (qRY) (by kernel_rfl) (by kernel_rfl) ?_
    simp only [Act.put, List.setIfInBounds_toArray, List.set_cons_succ, List.set_cons_zero]
    refine sV (.pointer (some ⟨qRY.heap.size, 0, none⟩)) (qRY.alloc (.cells (b8 (List.replicate 32 0)).toArray 26)) (by kernel_rfl) (alH _ _ (by rfl) qRY) ?_
    simp only [Act.put, List.setIfInBounds_toArray, List.set_cons_succ, List.set_cons_zero]
    obtain ⟨RY, eR⟩ : ∃ A, qRY.heap.size = A := ⟨_, rfl⟩
    have hb1 := bag_box (T := 26) (cs := b8 (List.replicate 32 0)) (X := RY) HQ.out eR.symm (w' := qRY.alloc (.cells (b8 (List.replicate 32 0)).toArray 26)) (by rw [← eR]; exact At.new _ _ _) (Below.alloc (Below.refl _ _) (Nat.le_refl _) _)
    rw [eR]
    clear eR HQ
    generalize World.alloc qRY _ = pRY at *
    refine stepStore (by rfl) _ _ _ (by rfl) RY (b8 x) (by kernel_rfl) (by kernel_rfl) hb1.head 32 (by kernel_rfl) (by rw [b8_len]; rfl) (by rw [b8_len]; exact HXL.out) (oneCells_b8 _) ?_
    simp only [Act.put]
    have H4 := WirS.hide (bag_row hb1 (b8 x))
    clear hb1
    generalize World.setRow pRY RY _ = z2 at *
    have HSH : Hid (∀ U, Bag w U [box 26 RY (b8 x), box 26 RX (b8 x), own (.slice da dn dc) f, own (.slice ca cn cc) f, box 58 A t.cells] → (U.rangeAt A 0 t.cells ∧ U.rangeAt RX 0 (b8 x) ∧ U.rangeAt RY 0 (b8 x) ∧ U.cell? ⟨A, 0, none⟩ = some (.string nm))) := WirS.hide (fun U hb => ⟨rangeAt0 (show At U A 58 t.cells from (hb.all (box 58 A t.cells) (by simp)).1), rangeAt0 (show At U RX 26 (b8 x) from (hb.all (box 26 RX (b8 x)) (by simp)).1), rangeAt0 (show At U RY 26 (b8 x) from (hb.all (box 26 RY (b8 x)) (by simp)).1), ((show At U A 58 t.cells from (hb.all (box 58 A t.cells) (by simp)).1).cell 0).trans HNM.out⟩)
    have HSB := WirS.hide (fun U (h1 : BIn U (.slice ca cn cc) f) (h2 : BIn U (.slice da dn dc) f) => (WirU.same_any U ca da cn cc dn dc f f h1 h2 HFR.out HFR.out))
    have HXX := WirS.hide (fun W => show (binOp .eql 26 (.agg (b8 x).toArray) (.agg (b8 x).toArray)).run Tryd.prog W = .ok (.bool true) W from by rw [eqH x x HXL.out HXL.out W]; simp)
    have H5 : Hid (Bag w z2.drew [box 26 RY (b8 x), box 26 RX (b8 x), own (.slice da dn dc) f, own (.slice ca cn cc) f, box 58 A t.cells]) := WirS.hide (H4.out.more (below_drewN (Below.refl _ _) 1))
    clear H4
    go_upto_region 7 with fail
    refine wp_region_noPanic ?_
    refine wp_region_held_drew (S := fun w' => w'.rangeAt A 0 t.cells ∧ w'.rangeAt RX 0 (b8 x) ∧ w'.rangeAt RY 0 (b8 x) ∧ w'.cell? ⟨A, 0, none⟩ = some (.string nm)) (by kernel_rfl) (HSH.out _ H5.out) (fun hHeld => ?_)
    generalize World.drew z2 = y0 at *
    refine' wpAnyH_take (i := 0) (oi := _) (v := .slice ca cn cc) rfl (by kernel_rfl) (by kernel_rfl) (by kernel_rfl) (fun _ _ _ h => h) (Or.inl ⟨by kernel_rfl, ?hy0⟩) (by assumption) ?rest0
    case hy0 =>
      intro W _
      kernel_rfl
    case rest0 =>
    try simp only [List.getElem_toArray, List.getElem_cons_zero, Act.put, List.setIfInBounds_toArray, List.set_cons_zero, List.set_cons_succ]
    refine' wpAnyH_take (i := 1) (oi := _) (v := .slice da dn dc) rfl (by kernel_rfl) (by kernel_rfl) (by kernel_rfl) (fun _ _ _ h => h) (Or.inl ⟨by kernel_rfl, ?hy1⟩) (by assumption) ?rest1
    case hy1 =>
      intro W _
      kernel_rfl
    case rest1 =>
    try simp only [List.getElem_toArray, List.getElem_cons_succ, List.getElem_cons_zero, Act.put, List.setIfInBounds_toArray, List.set_cons_zero, List.set_cons_succ]
    refine wpAnyH_ready (rs := [2]) (by kernel_rfl) (by simp) ?_
    refine AllReadyH.cons rfl (fun K hK => ?_) AllReadyH.nil
    rw [if_pos (by kernel_rfl)]
    refine stepCallH (v := .bool true) (R := fun w' => y0 = w') (by kernel_rfl) ((HSB.out y0 (WirM.Own.bin (H5.out.all (own (.slice ca cn cc) f) (by simp)).1) (WirM.Own.bin (H5.out.all (own (.slice da dn dc) f) (by simp)).1)).mono (by rintro e w' ⟨rfl, h⟩; exact ⟨by simp, h⟩)) ?_
    rintro _ rfl
    try simp only [List.getElem_toArray, List.getElem_cons_succ, List.getElem_cons_zero, Act.put, List.setIfInBounds_toArray, List.set_cons_zero, List.set_cons_succ]
  
    refine hK.out _ _ (HSH.out _ H5.out) (fun hHeld => ?_)
    clear hK K
    refine' wpAnyH_take (i := 3) (oi := _) (v := .bool true) rfl (by kernel_rfl) (by kernel_rfl) (by kernel_rfl) (fun _ _ _ h => h) (Or.inl ⟨by kernel_rfl, ?hy3⟩) (by assumption) ?rest3
    case hy3 =>
      intro W _
      kernel_rfl
    case rest3 =>
    try simp only [List.getElem_toArray, List.getElem_cons_succ, List.getElem_cons_zero, Act.put, List.setIfInBounds_toArray, List.set_cons_zero, List.set_cons_succ]
    refine' wpAnyH_take (i := 4) (oi := _) (v := .int .i64 cd) rfl (by kernel_rfl) (by kernel_rfl) (by kernel_rfl) (fun _ _ _ h => h) (Or.inl ⟨by kernel_rfl, ?hy4⟩) (by assumption) ?rest4
    case hy4 =>
      intro W _
      kernel_rfl
    case rest4 =>
    try simp only [List.getElem_toArray, List.getElem_cons_succ, List.getElem_cons_zero, Act.put, List.setIfInBounds_toArray, List.set_cons_zero, List.set_cons_succ]
    refine' wpAnyH_take (i := 5) (oi := _) (v := .int .i64 cd) rfl (by kernel_rfl) (by kernel_rfl) (by kernel_rfl) (fun _ _ _ h => h) (Or.inl ⟨by kernel_rfl, ?hy5⟩) (by assumption) ?rest5
    case hy5 =>
      intro W _
      kernel_rfl
    case rest5 =>
    try simp only [List.getElem_toArray, List.getElem_cons_succ, List.getElem_cons_zero, Act.put, List.setIfInBounds_toArray, List.set_cons_zero, List.set_cons_succ]
    refine' wpAnyH_take (i := 6) (oi := _) (v := .bool true) rfl (by kernel_rfl) (by kernel_rfl) (by kernel_rfl) (fun _ _ _ h => h) (Or.inl ⟨by kernel_rfl, ?hy6⟩) (by assumption) ?rest6
    case hy6 =>
      intro W _
      exact run_eq (op := .eql) (t := 30) (t2 := 30) (x := .tmp 41) (y := .tmp 42) (vx := .int .i64 cd) (vy := .int .i64 cd) (by kernel_rfl) (by kernel_rfl) (by kernel_rfl) (eqI cd W) (by kernel_rfl)
    case rest6 =>
    try simp only [List.getElem_toArray, List.getElem_cons_succ, List.getElem_cons_zero, Act.put, List.setIfInBounds_toArray, List.set_cons_zero, List.set_cons_succ]
    refine' wpAnyH_take (i := 7) (oi := _) (v := .bool true) rfl (by kernel_rfl) (by kernel_rfl) (by kernel_rfl) (fun _ _ _ h => h) (Or.inl ⟨by kernel_rfl, ?hy7⟩) (by assumption) ?rest7
    case hy7 =>
      intro W _
      kernel_rfl
    case rest7 =>
    try simp only [List.getElem_toArray, List.getElem_cons_succ, List.getElem_cons_zero, Act.put, List.setIfInBounds_toArray, List.set_cons_zero, List.set_cons_succ]
    refine' wpAnyH_take (i := 8) (oi := _) (v := .bool true) rfl (by kernel_rfl) (by kernel_rfl) (by kernel_rfl) (fun _ _ _ h => h) (Or.inl ⟨by kernel_rfl, ?hy8⟩) (by assumption) ?rest8
    case hy8 =>
      intro W _
      kernel_rfl
    case rest8 =>
    try simp only [List.getElem_toArray, List.getElem_cons_succ, List.getElem_cons_zero, Act.put, List.setIfInBounds_toArray, List.set_cons_zero, List.set_cons_succ]
    refine' wpAnyH_take (i := 9) (oi := _) (v := .agg (b8 x).toArray) rfl (by kernel_rfl) (by kernel_rfl) (by kernel_rfl) (fun _ _ _ h => h) (yieldsIf_load_mid (by kernel_rfl) 26 (.tmp 7) (by kernel_rfl) RX 0 (by kernel_rfl) (b8 x) _ (fun _ h => h.2.1) Tryd.underlying26 (by kernel_rfl) ((by rw [b8_len, HXL.out]; kernel_rfl))) (by assumption) ?rest9
    case rest9 =>
    try simp only [List.getElem_toArray, List.getElem_cons_succ, List.getElem_cons_zero, Act.put, List.setIfInBounds_toArray, List.set_cons_zero, List.set_cons_succ]
    refine' wpAnyH_take (i := 10) (oi := _) (v := .agg (b8 x).toArray) rfl (by kernel_rfl) (by kernel_rfl) (by kernel_rfl) (fun _ _ _ h => h) (yieldsIf_load_mid (by kernel_rfl) 26 (.tmp 9) (by kernel_rfl) RY 0 (by kernel_rfl) (b8 x) _ (fun _ h => h.2.2.1) Tryd.underlying26 (by kernel_rfl) ((by rw [b8_len, HXL.out]; kernel_rfl))) (by assumption) ?rest10
    case rest10 =>
    try simp only [List.getElem_toArray, List.getElem_cons_succ, List.getElem_cons_zero, Act.put, List.setIfInBounds_toArray, List.set_cons_zero, List.set_cons_succ]
    refine' wpAnyH_take (i := 11) (oi := _) (v := .bool true) rfl (by kernel_rfl) (by kernel_rfl) (by kernel_rfl) (fun _ _ _ h => h) (Or.inl ⟨by kernel_rfl, ?hy11⟩) (by assumption) ?rest11
    case hy11 =>
      intro W _
      exact run_eq (op := .eql) (t := 26) (t2 := 26) (x := .tmp 46) (y := .tmp 47) (vx := .agg (b8 x).toArray) (vy := .agg (b8 x).toArray) (by kernel_rfl) (by kernel_rfl) (by kernel_rfl) (HXX.out W) (by kernel_rfl)
    case rest11 =>
    try simp only [List.getElem_toArray, List.getElem_cons_succ, List.getElem_cons_zero, Act.put, List.setIfInBounds_toArray, List.set_cons_zero, List.set_cons_succ]
    refine' wpAnyH_take (i := 12) (oi := _) (v := .bool true) rfl (by kernel_rfl) (by kernel_rfl) (by kernel_rfl) (fun _ _ _ h => h) (Or.inl ⟨by kernel_rfl, ?hy12⟩) (by assumption) ?rest12
    case hy12 =>
      intro W _
      kernel_rfl
    case rest12 =>
    try simp only [List.getElem_toArray, List.getElem_cons_succ, List.getElem_cons_zero, Act.put, List.setIfInBounds_toArray, List.set_cons_zero, List.set_cons_succ]
    refine' wpAnyH_take (i := 13) (oi := _) (v := .bool true) rfl (by kernel_rfl) (by kernel_rfl) (by kernel_rfl) (fun _ _ _ h => h) (Or.inl ⟨by kernel_rfl, ?hy13⟩) (by assumption) ?rest13
    case hy13 =>
      intro W _
      kernel_rfl
    case rest13 =>
    try simp only [List.getElem_toArray, List.getElem_cons_succ, List.getElem_cons_zero, Act.put, List.setIfInBounds_toArray, List.set_cons_zero, List.set_cons_succ]
    refine' wpAnyH_take (i := 14) (oi := _) (v := .int .i64 cd) rfl (by kernel_rfl) (by kernel_rfl) (by kernel_rfl) (fun _ _ _ h => h) (Or.inl ⟨by kernel_rfl, ?hy14⟩) (by assumption) ?rest14
    case hy14 =>
      intro W _
      kernel_rfl
    case rest14 =>
    try simp only [List.getElem_toArray, List.getElem_cons_succ, List.getElem_cons_zero, Act.put, List.setIfInBounds_toArray, List.set_cons_zero, List.set_cons_succ]
    refine' wpAnyH_take (i := 15) (oi := _) (v := .int .i64 cd) rfl (by kernel_rfl) (by kernel_rfl) (by kernel_rfl) (fun _ _ _ h => h) (Or.inl ⟨by kernel_rfl, ?hy15⟩) (by assumption) ?rest15
    case hy15 =>
      intro W _
      kernel_rfl
    case rest15 =>
    try simp only [List.getElem_toArray, List.getElem_cons_succ, List.getElem_cons_zero, Act.put, List.setIfInBounds_toArray, List.set_cons_zero, List.set_cons_succ]
    refine' wpAnyH_take (i := 16) (oi := _) (v := .bool true) rfl (by kernel_rfl) (by kernel_rfl) (by kernel_rfl) (fun _ _ _ h => h) (Or.inl ⟨by kernel_rfl, ?hy16⟩) (by assumption) ?rest16
    case hy16 =>
      intro W _
      exact run_eq (op := .eql) (t := 30) (t2 := 30) (x := .tmp 51) (y := .tmp 52) (vx := .int .i64 cd) (vy := .int .i64 cd) (by kernel_rfl) (by kernel_rfl) (by kernel_rfl) (eqI cd W) (by kernel_rfl)
    case rest16 =>
    try simp only [List.getElem_toArray, List.getElem_cons_succ, List.getElem_cons_zero, Act.put, List.setIfInBounds_toArray, List.set_cons_zero, List.set_cons_succ]
    refine' wpAnyH_take (i := 17) (oi := _) (v := .bool true) rfl (by kernel_rfl) (by kernel_rfl) (by kernel_rfl) (fun _ _ _ h => h) (Or.inl ⟨by kernel_rfl, ?hy17⟩) (by assumption) ?rest17
    case hy17 =>
      intro W _
      kernel_rfl
    case rest17 =>
    try simp only [List.getElem_toArray, List.getElem_cons_succ, List.getElem_cons_zero, Act.put, List.setIfInBounds_toArray, List.set_cons_zero, List.set_cons_succ]
    refine' wpAnyH_take (i := 18) (oi := _) (v := .bool true) rfl (by kernel_rfl) (by kernel_rfl) (by kernel_rfl) (fun _ _ _ h => h) (Or.inl ⟨by kernel_rfl, ?hy18⟩) (by assumption) ?rest18
    case hy18 =>
      intro W _
      kernel_rfl
    case rest18 =>
    try simp only [List.getElem_toArray, List.getElem_cons_succ, List.getElem_cons_zero, Act.put, List.setIfInBounds_toArray, List.set_cons_zero, List.set_cons_succ]
    refine' wpAnyH_take (i := 19) (oi := _) (v := .agg (t.cells).toArray) rfl (by kernel_rfl) (by kernel_rfl) (by kernel_rfl) (fun _ _ _ h => h) (yieldsIf_load_mid (by kernel_rfl) 58 (.tmp 1) (by kernel_rfl) A 0 (by kernel_rfl) (t.cells) _ (fun _ h => h.1) Tryd.underlying58 (by kernel_rfl) ((by rw [HLen.out]; kernel_rfl))) (by assumption) ?rest19
    case rest19 =>
    try simp only [List.getElem_toArray, List.getElem_cons_succ, List.getElem_cons_zero, Act.put, List.setIfInBounds_toArray, List.set_cons_zero, List.set_cons_succ]
    refine' wpAnyH_take (i := 21) (oi := _) (v := .agg (t.cells).toArray) rfl (by kernel_rfl) (by kernel_rfl) (by kernel_rfl) (fun _ _ _ h => h) (yieldsIf_load_mid (by kernel_rfl) 58 (.tmp 1) (by kernel_rfl) A 0 (by kernel_rfl) (t.cells) _ (fun _ h => h.1) Tryd.underlying58 (by kernel_rfl) ((by rw [HLen.out]; kernel_rfl))) (by assumption) ?rest21
    case rest21 =>
    try simp only [List.getElem_toArray, List.getElem_cons_succ, List.getElem_cons_zero, Act.put, List.setIfInBounds_toArray, List.set_cons_zero, List.set_cons_succ]
    refine wpAnyH_ready (rs := [20]) (by kernel_rfl) (by simp) ?_
    refine AllReadyH.cons rfl (fun K hK => ?_) AllReadyH.nil
    rw [if_pos (by kernel_rfl)]
    refine stepCallH (v := .int .i64 cd) (R := fun w' => Below y0.heap.size y0 w') (by kernel_rfl) (HCP.out y0) ?_
    intro y1 hb
    try simp only [List.getElem_toArray, List.getElem_cons_succ, List.getElem_cons_zero, Act.put, List.setIfInBounds_toArray, List.set_cons_zero, List.set_cons_succ]
    have H6 := WirS.hide (H5.out.more hb)
    clear hb H5
    refine hK.out _ _ (HSH.out _ H6.out) (fun hHeld => ?_)
    clear hK K
    refine wpAnyH_ready (rs := [22]) (by kernel_rfl) (by simp) ?_
    refine AllReadyH.cons rfl (fun K hK => ?_) AllReadyH.nil
    rw [if_pos (by kernel_rfl)]
    refine stepCallH (v := .int .i64 cd) (R := fun w' => Below y1.heap.size y1 w') (by kernel_rfl) (HCR.out y1) ?_
    intro y2 hb
    try simp only [List.getElem_toArray, List.getElem_cons_succ, List.getElem_cons_zero, Act.put, List.setIfInBounds_toArray, List.set_cons_zero, List.set_cons_succ]
    have H7 := WirS.hide (H6.out.more hb)
    clear hb H6
    refine hK.out _ _ (HSH.out _ H7.out) (fun hHeld => ?_)
    clear hK K
    refine' wpAnyH_take (i := 23) (oi := _) (v := .bool true) rfl (by kernel_rfl) (by kernel_rfl) (by kernel_rfl) (fun _ _ _ h => h) (Or.inl ⟨by kernel_rfl, ?hy23⟩) (by assumption) ?rest23
    case hy23 =>
      intro W _
      exact run_eq (op := .eql) (t := 30) (t2 := 30) (x := .tmp 57) (y := .tmp 59) (vx := .int .i64 cd) (vy := .int .i64 cd) (by kernel_rfl) (by kernel_rfl) (by kernel_rfl) (eqI cd W) (by kernel_rfl)
    case rest23 =>
    try simp only [List.getElem_toArray, List.getElem_cons_succ, List.getElem_cons_zero, Act.put, List.setIfInBounds_toArray, List.set_cons_zero, List.set_cons_succ]
    refine' wpAnyH_take (i := 24) (oi := _) (v := .bool true) rfl (by kernel_rfl) (by kernel_rfl) (by kernel_rfl) (fun _ _ _ h => h) (Or.inl ⟨by kernel_rfl, ?hy24⟩) (by assumption) ?rest24
    case hy24 =>
      intro W _
      kernel_rfl
    case rest24 =>
    try simp only [List.getElem_toArray, List.getElem_cons_succ, List.getElem_cons_zero, Act.put, List.setIfInBounds_toArray, List.set_cons_zero, List.set_cons_succ]
    refine' wpAnyH_take (i := 25) (oi := _) (v := .bool true) rfl (by kernel_rfl) (by kernel_rfl) (by kernel_rfl) (fun _ _ _ h => h) (Or.inl ⟨by kernel_rfl, ?hy25⟩) (by assumption) ?rest25
    case hy25 =>
      intro W _
      kernel_rfl
    case rest25 =>
    try simp only [List.getElem_toArray, List.getElem_cons_succ, List.getElem_cons_zero, Act.put, List.setIfInBounds_toArray, List.set_cons_zero, List.set_cons_succ]
    refine' wpAnyH_take (i := 26) (oi := _) (v := .pointer (some ⟨A, 0, none⟩)) rfl (by kernel_rfl) (by kernel_rfl) (by kernel_rfl) (fun _ _ _ h => h) (Or.inl ⟨by kernel_rfl, ?hy26⟩) (by assumption) ?rest26
    case hy26 =>
      intro W _
      kernel_rfl
    case rest26 =>
    try simp only [List.getElem_toArray, List.getElem_cons_succ, List.getElem_cons_zero, Act.put, List.setIfInBounds_toArray, List.set_cons_zero, List.set_cons_succ]
    refine' wpAnyH_take (i := 27) (oi := _) (v := _) rfl (by kernel_rfl) (by kernel_rfl) (by kernel_rfl) (fun _ _ _ h => h) (Or.inl ⟨by kernel_rfl, ?hy27⟩) (by assumption) ?rest27
    case hy27 =>
      intro w hSw
      try dsimp only at hSw
      go_simp
      try with_reducible rfl
    case rest27 =>
    try simp only [List.getElem_toArray, List.getElem_cons_succ, List.getElem_cons_zero, Act.put, List.setIfInBounds_toArray, List.set_cons_zero, List.set_cons_succ]
    refine' wpAnyH_take (i := 29) (oi := _) (v := .pointer (some ⟨A, 0, none⟩)) rfl (by kernel_rfl) (by kernel_rfl) (by kernel_rfl) (fun _ _ _ h => h) (Or.inl ⟨by kernel_rfl, ?hy29⟩) (by assumption) ?rest29
    case hy29 =>
      intro W _
      kernel_rfl
    case rest29 =>
    try simp only [List.getElem_toArray, List.getElem_cons_succ, List.getElem_cons_zero, Act.put, List.setIfInBounds_toArray, List.set_cons_zero, List.set_cons_succ]
    refine' wpAnyH_take (i := 30) (oi := _) (v := _) rfl (by kernel_rfl) (by kernel_rfl) (by kernel_rfl) (fun _ _ _ h => h) (Or.inl ⟨by kernel_rfl, ?hy30⟩) (by assumption) ?rest30
    case hy30 =>
      intro w hSw
      try dsimp only at hSw
      go_simp
      try with_reducible rfl
    case rest30 =>
    try simp only [List.getElem_toArray, List.getElem_cons_succ, List.getElem_cons_zero, Act.put, List.setIfInBounds_toArray, List.set_cons_zero, List.set_cons_succ]
    refine wpAnyH_ready (rs := [28]) (by kernel_rfl) (by simp) ?_
    refine AllReadyH.cons rfl (fun K hK => ?_) AllReadyH.nil
    rw [if_pos (by kernel_rfl)]
    refine stepCallH (v := .bool nb) (R := fun w' => Below y2.heap.size y2 w') (by kernel_rfl) (HNP.out y2) ?_
    intro y3 hb
    try simp only [List.getElem_toArray, List.getElem_cons_succ, List.getElem_cons_zero, Act.put, List.setIfInBounds_toArray, List.set_cons_zero, List.set_cons_succ]
    have H8 := WirS.hide (H7.out.more hb)
    clear hb H7
    refine hK.out _ _ (HSH.out _ H8.out) (fun hHeld => ?_)
    clear hK K
    refine wpAnyH_ready (rs := [31]) (by kernel_rfl) (by simp) ?_
    refine AllReadyH.cons rfl (fun K hK => ?_) AllReadyH.nil
    rw [if_pos (by kernel_rfl)]
    refine stepCallH (v := .bool nb) (R := fun w' => y3 = w') (by kernel_rfl) (HNR.out y3) ?_
    rintro _ rfl
    try simp only [List.getElem_toArray, List.getElem_cons_succ, List.getElem_cons_zero, Act.put, List.setIfInBounds_toArray, List.set_cons_zero, List.set_cons_succ]
  
    refine hK.out _ _ (HSH.out _ H8.out) (fun hHeld => ?_)
    clear hK K
    refine' wpAnyH_take (i := 32) (oi := _) (v := .bool true) rfl (by kernel_rfl) (by kernel_rfl) (by kernel_rfl) (fun _ _ _ h => h) (Or.inl ⟨by kernel_rfl, ?hy32⟩) (by assumption) ?rest32
    case hy32 =>
      intro W _
      exact run_eq (op := .eql) (t := 4) (t2 := 4) (x := .tmp 65) (y := .tmp 68) (vx := .bool nb) (vy := .bool nb) (by kernel_rfl) (by kernel_rfl) (by kernel_rfl) (eqB nb W) (by kernel_rfl)
    case rest32 =>
    try simp only [List.getElem_toArray, List.getElem_cons_succ, List.getElem_cons_zero, Act.put, List.setIfInBounds_toArray, List.set_cons_zero, List.set_cons_succ]
    refine' wpAnyH_take (i := 33) (oi := _) (v := .bool true) rfl (by kernel_rfl) (by kernel_rfl) (by kernel_rfl) (fun _ _ _ h => h) (Or.inl ⟨by kernel_rfl, ?hy33⟩) (by assumption) ?rest33
    case hy33 =>
      intro W _
      kernel_rfl
    case rest33 =>
    try simp only [List.getElem_toArray, List.getElem_cons_succ, List.getElem_cons_zero, Act.put, List.setIfInBounds_toArray, List.set_cons_zero, List.set_cons_succ]
    refine' wpAnyH_take (i := 34) (oi := _) (v := .bool true) rfl (by kernel_rfl) (by kernel_rfl) (by kernel_rfl) (fun _ _ _ h => h) (Or.inl ⟨by kernel_rfl, ?hy34⟩) (by assumption) ?rest34
    case hy34 =>
      intro W _
      kernel_rfl
    case rest34 =>
    try simp only [List.getElem_toArray, List.getElem_cons_succ, List.getElem_cons_zero, Act.put, List.setIfInBounds_toArray, List.set_cons_zero, List.set_cons_succ]
    refine wpAnyH_done (by kernel_rfl) ?_ _
    refine NoPanic.normal ?_
    have H9 := WirS.hide (show Bag w y3 [own (.slice ca cn cc) f, box 58 A t.cells] from ⟨H8.out.low, fun o ho => H8.out.all o (by simp at ho; rcases ho with rfl | rfl <;> simp), (by have h := H8.out.drop.drop.drop.apart; exact h)⟩)
    have HOV := WirS.hide (KitB.over_any y3 ca cn cc f H9.out.head (by have h := WirM.Own.bin H9.out.head; obtain ⟨_, _, e, _⟩ := h; cases e; have := HFL.out; omega))
    go_wp2_with (first
      | (go_at_call 29; refine (HOV.out).mono ?_; rintro e v1 ⟨rfl, ⟨ys, hyl, ho⟩, hf⟩; have HB1 := WirS.hide (H9.out.act (o' := own (.slice ca cn cc) ys) hf ho (fun _ hk => .inl hk)); clear hyl ho hf)
      | (go_at_call 30; refine (HAW.out _).mono ?_; rintro e v2 ⟨rfl, hb⟩; have HB2 := WirS.hide (HB1.out.low.trans (hb.mono HB1.out.low.size)); clear hb))
    go_ret
    exact ⟨rfl, HB2.out⟩
  · have g60 : (60 : Int) < (t.ch.size : Int) := by omega
    have hw := H0.out.low
    have HW := WirS.hide hw
    have k0 : (w.alloc (.cells t.cells.toArray 58)).cell? ⟨A, 0, none⟩ = some (.string t.ch) := (hb0.head.cell 0).trans HNM.out
    rw [← eA] at k0
    clear it hg hw0 hb0 h60 hw eA
    obtain ⟨W0, e0⟩ : ∃ X, X = w.alloc (.cells t.cells.toArray 58) := ⟨_, rfl⟩
    rw [← e0] at k0 HW
    have E0 := WirS.hide e0
    clear e0
    go_enter Tryd.func9, Tryd.ntmps9
    go_upto_region 1 with fail
    rw [show w.alloc (.cells t.cells.toArray 58) = W0 from E0.out.symm]
    generalize t.ch = nm at *
    go_wp2_with ((go_at_call 30; refine (HAW.out _).mono ?_; rintro e v2 ⟨rfl, hb⟩; have HB2 := WirS.hide (HW.out.trans (hb.mono HW.out.size)); clear hb))
    go_ret
    exact ⟨rfl, HB2.out⟩
end HcB
end Go.Proofs.YtfmegeibnjmfpaaDoor
