/-
  CmX, CmXB, CmXC, CmY, in one text.
-/
import Derived.Test.YtplinpbmncccoaaPkCa
import Derived.Test.YtplinpbmncccoaaCmL
namespace Go.Proofs.Ytplinpbmncccoaa
namespace CmX
open Go.RowKit
open BlkM WirM WirS CmA CmP CmB CmE CmI CmJ CmT CmV
open WirX (Thg Bag)
open WirAA (box bag_box bag_set)
open WirAB (sCx)

set_option maxRecDepth 10000 in
set_option maxHeartbeats 8000000 in
theorem radd_chk (w : World) (ht : Int) (h : List Int) (a : Option Addr) (n c : Nat) (vs : List Vt) (v : Vt) (hl : h.length = 32) (hv : VtIn w a n c vs) (hc : chk ht vs ≠ 0) :
    Calls Try.prog 80 #[.agg (ccl ht h (.slice a n c)).toArray, .agg #[.int .i64 v.at', .int .u64 v.sg]] w (CP w (chk ht vs) 0 z32 []) := by
  have HL := WirS.hide hl
  have HV := WirS.hide hv
  have hbX := bag_box (w0 := w) (T := TC) (cs := ccl ht h (.slice a n c)) (X := w.heap.size) (Bag.nil (Below.refl _ _)) rfl (w' := w.alloc (.cells (ccl ht h (.slice a n c)).toArray TC)) (At.new _ _ _) (Below.alloc (Below.refl _ _) (Nat.le_refl _) _)
  have HCK := WirS.hide (fun U (hU : Below w.heap.size w U) => rcheck_any U ht h a n c vs hl (hv.below hU))
  have HOF := WirS.hide (fun U (hU : Below w.heap.size w U) => rof_any U ht h a n c vs v.at' hl (hv.below hU))
  generalize ofS v.at' vs = os at *
  generalize (ofV v.at' vs).isSome = ob at *
  generalize chk ht vs = cd at *
  have d1 : (cd != 0) = true := by simpa using hc
  clear hl hv hc
  go_enter Try.func80, Try.ntmps80
  go_upto_region 0 with fail
  refine wp_region_lit ?_
  refine sV (.pointer (some ⟨w.heap.size, 0, none⟩)) (w.alloc (.cells (ccl ht h (.slice a n c)).toArray TC)) (by kernel_rfl) (by kernel_rfl) ?_
  simp only [Act.put, List.setIfInBounds_toArray, List.set_cons_succ, List.set_cons_zero]
  obtain ⟨X, eX⟩ : ∃ A, w.heap.size = A := ⟨_, rfl⟩
  rw [eX] at hbX ⊢
  clear eX
  generalize World.alloc w _ = x0 at *
  refine sV (.pointer (some ⟨x0.heap.size, 0, none⟩)) (x0.alloc (.cells v.cells.toArray TV)) (by kernel_rfl) (by kernel_rfl) ?_
  simp only [Act.put, List.setIfInBounds_toArray, List.set_cons_succ, List.set_cons_zero]
  obtain ⟨Y, eY⟩ : ∃ A, x0.heap.size = A := ⟨_, rfl⟩
  have hbY := bag_box (T := TV) (cs := v.cells) (X := Y) hbX eY.symm (w' := x0.alloc (.cells v.cells.toArray TV)) (by rw [← eY]; exact At.new _ _ _) (Below.alloc (Below.refl _ _) (Nat.le_refl _) _)
  rw [eY]
  clear eY hbX
  generalize World.alloc x0 _ = x1 at *
  refine sV (.pointer (some ⟨x1.heap.size, 0, none⟩)) (x1.alloc (.cells zcm.toArray TC)) (by kernel_rfl) (by kernel_rfl) ?_
  simp only [Act.put, List.setIfInBounds_toArray, List.set_cons_succ, List.set_cons_zero]
  obtain ⟨Z, eZ⟩ : ∃ A, x1.heap.size = A := ⟨_, rfl⟩
  have hbZ := bag_box (T := TC) (cs := zcm) (X := Z) hbY eZ.symm (w' := x1.alloc (.cells zcm.toArray TC)) (by rw [← eZ]; exact At.new _ _ _) (Below.alloc (Below.refl _ _) (Nat.le_refl _) _)
  rw [eZ]
  clear eZ hbY
  generalize World.alloc x1 _ = x2 at *
  have H2 := WirS.hide hbZ
  clear hbZ
  go_upto_region 1 with fail
  refine wp_region_lit ?_
  refine sL (by kernel_rfl) _ _ (by rfl) _ (by kernel_rfl) H2.out.drop.drop.head _ _ UC rfl (by kernel_rfl) (by rw [ccl_len _ _ _ HL.out]) ?_
  simp only [Act.put, List.setIfInBounds_toArray, List.set_cons_succ, List.set_cons_zero]
  refine sC (R := fun w' => Below x2.heap.size x2 w') (by kernel_rfl) (by kernel_rfl) (HCK.out x2 H2.out.low) ?_
  rintro x3 hb
  simp only [Act.put, List.setIfInBounds_toArray, List.set_cons_succ, List.set_cons_zero]
  have H3 := WirS.hide (H2.out.more hb)
  clear hb H2
  go_upto_region 2 with fail
  refine wp_region_lit ?_
  refine sL (by kernel_rfl) _ _ (by rfl) _ (by kernel_rfl) H3.out.drop.drop.head _ _ UC rfl (by kernel_rfl) (by rw [ccl_len _ _ _ HL.out]) ?_
  simp only [Act.put, List.setIfInBounds_toArray, List.set_cons_succ, List.set_cons_zero]
  refine sV (.pointer (some ⟨Y, 0, none⟩)) (x3) (by kernel_rfl) (by kernel_rfl) ?_
  simp only [Act.put, List.setIfInBounds_toArray, List.set_cons_succ, List.set_cons_zero]
  refine sP (by kernel_rfl) _ _ (by rfl) ⟨Y, 0, none⟩ (by kernel_rfl) (.int .i64 v.at') (H3.out.drop.head.cell 0) (by kernel_rfl) ?_
  simp only [Act.put, List.setIfInBounds_toArray, List.set_cons_succ, List.set_cons_zero]
  refine sC (R := fun w' => Below x3.heap.size x3 w') (by kernel_rfl) (by kernel_rfl) (HOF.out x3 H3.out.low) ?_
  rintro x4 hb
  simp only [Act.put, List.setIfInBounds_toArray, List.set_cons_succ, List.set_cons_zero]
  have H4 := WirS.hide (H3.out.more hb)
  clear hb H3
  refine sV (.tuple #[.int .u64 os, .bool ob]) (x4) (by kernel_rfl) (by kernel_rfl) ?_
  simp only [Act.put, List.setIfInBounds_toArray, List.set_cons_succ, List.set_cons_zero]
  refine sV (.int .u64 os) (x4) (by kernel_rfl) (by kernel_rfl) ?_
  simp only [Act.put, List.setIfInBounds_toArray, List.set_cons_succ, List.set_cons_zero]
  refine sV (.bool ob) (x4) (by kernel_rfl) (by kernel_rfl) ?_
  simp only [Act.put, List.setIfInBounds_toArray, List.set_cons_succ, List.set_cons_zero]
  go_upto_region 4 with fail
  refine wp_region_lit ?_
  refine sV (.agg zcm.toArray) (x4) (by kernel_rfl) (by kernel_rfl) ?_
  simp only [Act.put, List.setIfInBounds_toArray, List.set_cons_succ, List.set_cons_zero]
  refine sV (.int .i64 cd) (x4) (by kernel_rfl) (by kernel_rfl) ?_
  simp only [Act.put, List.setIfInBounds_toArray, List.set_cons_succ, List.set_cons_zero]
  refine stepStore (by rfl) _ _ _ (by rfl) Z zcm (by kernel_rfl) (by kernel_rfl) H4.out.head 34 (by kernel_rfl) (by rfl) (by rfl) (one_ccl _ _ _ _ _) ?_
  simp only [Act.put]
  have HF := WirS.hide (bag_row H4.out zcm)
  clear H4
  generalize World.setRow x4 Z _ = xf at *
  go_wp2_with fail
  refine bodyPost_ret (retRow2 HF.out.head Try.results80 _ (by rfl) (.int .i64 cd) (by rfl) _ 34 UC rfl (by kernel_rfl) (by rfl)) rfl ?_
  exact cp_none rfl HF.out.low
set_option maxRecDepth 10000 in
set_option maxHeartbeats 8000000 in
theorem radd_low (w : World) (ht : Int) (h : List Int) (a : Option Addr) (n c : Nat) (vs : List Vt) (v : Vt) (hl : h.length = 32) (hv : VtIn w a n c vs) (hc : chk ht vs = 0) (hp : v.at' < 0) :
    Calls Try.prog 80 #[.agg (ccl ht h (.slice a n c)).toArray, .agg #[.int .i64 v.at', .int .u64 v.sg]] w (CP w 3 0 z32 []) := by
  have HL := WirS.hide hl
  have HV := WirS.hide hv
  have hbX := bag_box (w0 := w) (T := TC) (cs := ccl ht h (.slice a n c)) (X := w.heap.size) (Bag.nil (Below.refl _ _)) rfl (w' := w.alloc (.cells (ccl ht h (.slice a n c)).toArray TC)) (At.new _ _ _) (Below.alloc (Below.refl _ _) (Nat.le_refl _) _)
  have HCK := WirS.hide (fun U (hU : Below w.heap.size w U) => rcheck_any U ht h a n c vs hl (hv.below hU))
  have HOF := WirS.hide (fun U (hU : Below w.heap.size w U) => rof_any U ht h a n c vs v.at' hl (hv.below hU))
  generalize ofS v.at' vs = os at *
  generalize (ofV v.at' vs).isSome = ob at *
  rw [hc] at HCK
  have d2 : decide (v.at' < 0) = true := by simpa using hp
  clear hl hv hc hp
  go_enter Try.func80, Try.ntmps80
  go_upto_region 0 with fail
  refine wp_region_lit ?_
  refine sV (.pointer (some ⟨w.heap.size, 0, none⟩)) (w.alloc (.cells (ccl ht h (.slice a n c)).toArray TC)) (by kernel_rfl) (by kernel_rfl) ?_
  simp only [Act.put, List.setIfInBounds_toArray, List.set_cons_succ, List.set_cons_zero]
  obtain ⟨X, eX⟩ : ∃ A, w.heap.size = A := ⟨_, rfl⟩
  rw [eX] at hbX ⊢
  clear eX
  generalize World.alloc w _ = x0 at *
  refine sV (.pointer (some ⟨x0.heap.size, 0, none⟩)) (x0.alloc (.cells v.cells.toArray TV)) (by kernel_rfl) (by kernel_rfl) ?_
  simp only [Act.put, List.setIfInBounds_toArray, List.set_cons_succ, List.set_cons_zero]
  obtain ⟨Y, eY⟩ : ∃ A, x0.heap.size = A := ⟨_, rfl⟩
  have hbY := bag_box (T := TV) (cs := v.cells) (X := Y) hbX eY.symm (w' := x0.alloc (.cells v.cells.toArray TV)) (by rw [← eY]; exact At.new _ _ _) (Below.alloc (Below.refl _ _) (Nat.le_refl _) _)
  rw [eY]
  clear eY hbX
  generalize World.alloc x0 _ = x1 at *
  refine sV (.pointer (some ⟨x1.heap.size, 0, none⟩)) (x1.alloc (.cells zcm.toArray TC)) (by kernel_rfl) (by kernel_rfl) ?_
  simp only [Act.put, List.setIfInBounds_toArray, List.set_cons_succ, List.set_cons_zero]
  obtain ⟨Z, eZ⟩ : ∃ A, x1.heap.size = A := ⟨_, rfl⟩
  have hbZ := bag_box (T := TC) (cs := zcm) (X := Z) hbY eZ.symm (w' := x1.alloc (.cells zcm.toArray TC)) (by rw [← eZ]; exact At.new _ _ _) (Below.alloc (Below.refl _ _) (Nat.le_refl _) _)
  rw [eZ]
  clear eZ hbY
  generalize World.alloc x1 _ = x2 at *
  have H2 := WirS.hide hbZ
  clear hbZ
  go_upto_region 1 with fail
  refine wp_region_lit ?_
  refine sL (by kernel_rfl) _ _ (by rfl) _ (by kernel_rfl) H2.out.drop.drop.head _ _ UC rfl (by kernel_rfl) (by rw [ccl_len _ _ _ HL.out]) ?_
  simp only [Act.put, List.setIfInBounds_toArray, List.set_cons_succ, List.set_cons_zero]
  refine sC (R := fun w' => Below x2.heap.size x2 w') (by kernel_rfl) (by kernel_rfl) (HCK.out x2 H2.out.low) ?_
  rintro x3 hb
  simp only [Act.put, List.setIfInBounds_toArray, List.set_cons_succ, List.set_cons_zero]
  have H3 := WirS.hide (H2.out.more hb)
  clear hb H2
  go_upto_region 2 with fail
  refine wp_region_lit ?_
  refine sL (by kernel_rfl) _ _ (by rfl) _ (by kernel_rfl) H3.out.drop.drop.head _ _ UC rfl (by kernel_rfl) (by rw [ccl_len _ _ _ HL.out]) ?_
  simp only [Act.put, List.setIfInBounds_toArray, List.set_cons_succ, List.set_cons_zero]
  refine sV (.pointer (some ⟨Y, 0, none⟩)) (x3) (by kernel_rfl) (by kernel_rfl) ?_
  simp only [Act.put, List.setIfInBounds_toArray, List.set_cons_succ, List.set_cons_zero]
  refine sP (by kernel_rfl) _ _ (by rfl) ⟨Y, 0, none⟩ (by kernel_rfl) (.int .i64 v.at') (H3.out.drop.head.cell 0) (by kernel_rfl) ?_
  simp only [Act.put, List.setIfInBounds_toArray, List.set_cons_succ, List.set_cons_zero]
  refine sC (R := fun w' => Below x3.heap.size x3 w') (by kernel_rfl) (by kernel_rfl) (HOF.out x3 H3.out.low) ?_
  rintro x4 hb
  simp only [Act.put, List.setIfInBounds_toArray, List.set_cons_succ, List.set_cons_zero]
  have H4 := WirS.hide (H3.out.more hb)
  clear hb H3
  refine sV (.tuple #[.int .u64 os, .bool ob]) (x4) (by kernel_rfl) (by kernel_rfl) ?_
  simp only [Act.put, List.setIfInBounds_toArray, List.set_cons_succ, List.set_cons_zero]
  refine sV (.int .u64 os) (x4) (by kernel_rfl) (by kernel_rfl) ?_
  simp only [Act.put, List.setIfInBounds_toArray, List.set_cons_succ, List.set_cons_zero]
  refine sV (.bool ob) (x4) (by kernel_rfl) (by kernel_rfl) ?_
  simp only [Act.put, List.setIfInBounds_toArray, List.set_cons_succ, List.set_cons_zero]
  have y0 : x4.cell? ⟨Y, 0, none⟩ = some (.int .i64 v.at') := H4.out.drop.head.cell 0
  go_upto_region 6 with fail
  refine wp_region_lit ?_
  refine sV (.agg zcm.toArray) (x4) (by kernel_rfl) (by kernel_rfl) ?_
  simp only [Act.put, List.setIfInBounds_toArray, List.set_cons_succ, List.set_cons_zero]
  refine stepStore (by rfl) _ _ _ (by rfl) Z zcm (by kernel_rfl) (by kernel_rfl) H4.out.head 34 (by kernel_rfl) (by rfl) (by rfl) (one_ccl _ _ _ _ _) ?_
  simp only [Act.put]
  have HF := WirS.hide (bag_row H4.out zcm)
  clear H4
  generalize World.setRow x4 Z _ = xf at *
  go_wp2_with fail
  refine bodyPost_ret (retRow2 HF.out.head Try.results80 _ (by rfl) (.int .i64 3) (by rfl) _ 34 UC rfl (by kernel_rfl) (by rfl)) rfl ?_
  exact cp_none rfl HF.out.low
set_option maxRecDepth 10000 in
set_option maxHeartbeats 8000000 in
theorem radd_high (w : World) (ht : Int) (h : List Int) (a : Option Addr) (n c : Nat) (vs : List Vt) (v : Vt) (hl : h.length = 32) (hv : VtIn w a n c vs) (hc : chk ht vs = 0) (hp : 64 ≤ v.at') :
    Calls Try.prog 80 #[.agg (ccl ht h (.slice a n c)).toArray, .agg #[.int .i64 v.at', .int .u64 v.sg]] w (CP w 3 0 z32 []) := by
  have HL := WirS.hide hl
  have HV := WirS.hide hv
  have hbX := bag_box (w0 := w) (T := TC) (cs := ccl ht h (.slice a n c)) (X := w.heap.size) (Bag.nil (Below.refl _ _)) rfl (w' := w.alloc (.cells (ccl ht h (.slice a n c)).toArray TC)) (At.new _ _ _) (Below.alloc (Below.refl _ _) (Nat.le_refl _) _)
  have HCK := WirS.hide (fun U (hU : Below w.heap.size w U) => rcheck_any U ht h a n c vs hl (hv.below hU))
  have HOF := WirS.hide (fun U (hU : Below w.heap.size w U) => rof_any U ht h a n c vs v.at' hl (hv.below hU))
  generalize ofS v.at' vs = os at *
  generalize (ofV v.at' vs).isSome = ob at *
  rw [hc] at HCK
  have d2 : decide (v.at' < 0) = false := by simp; omega
  have d3 : decide ((64 : Int) ≤ v.at') = true := by simpa using hp
  clear hl hv hc hp
  go_enter Try.func80, Try.ntmps80
  go_upto_region 0 with fail
  refine wp_region_lit ?_
  refine sV (.pointer (some ⟨w.heap.size, 0, none⟩)) (w.alloc (.cells (ccl ht h (.slice a n c)).toArray TC)) (by kernel_rfl) (by kernel_rfl) ?_
  simp only [Act.put, List.setIfInBounds_toArray, List.set_cons_succ, List.set_cons_zero]
  obtain ⟨X, eX⟩ : ∃ A, w.heap.size = A := ⟨_, rfl⟩
  rw [eX] at hbX ⊢
  clear eX
  generalize World.alloc w _ = x0 at *
  refine sV (.pointer (some ⟨x0.heap.size, 0, none⟩)) (x0.alloc (.cells v.cells.toArray TV)) (by kernel_rfl) (by kernel_rfl) ?_
  simp only [Act.put, List.setIfInBounds_toArray, List.set_cons_succ, List.set_cons_zero]
  obtain ⟨Y, eY⟩ : ∃ A, x0.heap.size = A := ⟨_, rfl⟩
  have hbY := bag_box (T := TV) (cs := v.cells) (X := Y) hbX eY.symm (w' := x0.alloc (.cells v.cells.toArray TV)) (by rw [← eY]; exact At.new _ _ _) (Below.alloc (Below.refl _ _) (Nat.le_refl _) _)
  rw [eY]
  clear eY hbX
  generalize World.alloc x0 _ = x1 at *
  refine sV (.pointer (some ⟨x1.heap.size, 0, none⟩)) (x1.alloc (.cells zcm.toArray TC)) (by kernel_rfl) (by kernel_rfl) ?_
  simp only [Act.put, List.setIfInBounds_toArray, List.set_cons_succ, List.set_cons_zero]
  obtain ⟨Z, eZ⟩ : ∃ A, x1.heap.size = A := ⟨_, rfl⟩
  have hbZ := bag_box (T := TC) (cs := zcm) (X := Z) hbY eZ.symm (w' := x1.alloc (.cells zcm.toArray TC)) (by rw [← eZ]; exact At.new _ _ _) (Below.alloc (Below.refl _ _) (Nat.le_refl _) _)
  rw [eZ]
  clear eZ hbY
  generalize World.alloc x1 _ = x2 at *
  have H2 := WirS.hide hbZ
  clear hbZ
  go_upto_region 1 with fail
  refine wp_region_lit ?_
  refine sL (by kernel_rfl) _ _ (by rfl) _ (by kernel_rfl) H2.out.drop.drop.head _ _ UC rfl (by kernel_rfl) (by rw [ccl_len _ _ _ HL.out]) ?_
  simp only [Act.put, List.setIfInBounds_toArray, List.set_cons_succ, List.set_cons_zero]
  refine sC (R := fun w' => Below x2.heap.size x2 w') (by kernel_rfl) (by kernel_rfl) (HCK.out x2 H2.out.low) ?_
  rintro x3 hb
  simp only [Act.put, List.setIfInBounds_toArray, List.set_cons_succ, List.set_cons_zero]
  have H3 := WirS.hide (H2.out.more hb)
  clear hb H2
  go_upto_region 2 with fail
  refine wp_region_lit ?_
  refine sL (by kernel_rfl) _ _ (by rfl) _ (by kernel_rfl) H3.out.drop.drop.head _ _ UC rfl (by kernel_rfl) (by rw [ccl_len _ _ _ HL.out]) ?_
  simp only [Act.put, List.setIfInBounds_toArray, List.set_cons_succ, List.set_cons_zero]
  refine sV (.pointer (some ⟨Y, 0, none⟩)) (x3) (by kernel_rfl) (by kernel_rfl) ?_
  simp only [Act.put, List.setIfInBounds_toArray, List.set_cons_succ, List.set_cons_zero]
  refine sP (by kernel_rfl) _ _ (by rfl) ⟨Y, 0, none⟩ (by kernel_rfl) (.int .i64 v.at') (H3.out.drop.head.cell 0) (by kernel_rfl) ?_
  simp only [Act.put, List.setIfInBounds_toArray, List.set_cons_succ, List.set_cons_zero]
  refine sC (R := fun w' => Below x3.heap.size x3 w') (by kernel_rfl) (by kernel_rfl) (HOF.out x3 H3.out.low) ?_
  rintro x4 hb
  simp only [Act.put, List.setIfInBounds_toArray, List.set_cons_succ, List.set_cons_zero]
  have H4 := WirS.hide (H3.out.more hb)
  clear hb H3
  refine sV (.tuple #[.int .u64 os, .bool ob]) (x4) (by kernel_rfl) (by kernel_rfl) ?_
  simp only [Act.put, List.setIfInBounds_toArray, List.set_cons_succ, List.set_cons_zero]
  refine sV (.int .u64 os) (x4) (by kernel_rfl) (by kernel_rfl) ?_
  simp only [Act.put, List.setIfInBounds_toArray, List.set_cons_succ, List.set_cons_zero]
  refine sV (.bool ob) (x4) (by kernel_rfl) (by kernel_rfl) ?_
  simp only [Act.put, List.setIfInBounds_toArray, List.set_cons_succ, List.set_cons_zero]
  have y0 : x4.cell? ⟨Y, 0, none⟩ = some (.int .i64 v.at') := H4.out.drop.head.cell 0
  go_upto_region 6 with fail
  refine wp_region_lit ?_
  refine sV (.agg zcm.toArray) (x4) (by kernel_rfl) (by kernel_rfl) ?_
  simp only [Act.put, List.setIfInBounds_toArray, List.set_cons_succ, List.set_cons_zero]
  refine stepStore (by rfl) _ _ _ (by rfl) Z zcm (by kernel_rfl) (by kernel_rfl) H4.out.head 34 (by kernel_rfl) (by rfl) (by rfl) (one_ccl _ _ _ _ _) ?_
  simp only [Act.put]
  have HF := WirS.hide (bag_row H4.out zcm)
  clear H4
  generalize World.setRow x4 Z _ = xf at *
  go_wp2_with fail
  refine bodyPost_ret (retRow2 HF.out.head Try.results80 _ (by rfl) (.int .i64 3) (by rfl) _ 34 UC rfl (by kernel_rfl) (by rfl)) rfl ?_
  exact cp_none rfl HF.out.low
set_option maxRecDepth 10000 in
set_option maxHeartbeats 8000000 in
theorem radd_has (w : World) (ht : Int) (h : List Int) (a : Option Addr) (n c : Nat) (vs : List Vt) (v : Vt) (hl : h.length = 32) (hv : VtIn w a n c vs) (hc : chk ht vs = 0) (hp : 0 ≤ v.at' ∧ v.at' < 64) (ho : (ofV v.at' vs).isSome = true) :
    Calls Try.prog 80 #[.agg (ccl ht h (.slice a n c)).toArray, .agg #[.int .i64 v.at', .int .u64 v.sg]] w (CP w 8 0 z32 []) := by
  have HL := WirS.hide hl
  have HV := WirS.hide hv
  have hbX := bag_box (w0 := w) (T := TC) (cs := ccl ht h (.slice a n c)) (X := w.heap.size) (Bag.nil (Below.refl _ _)) rfl (w' := w.alloc (.cells (ccl ht h (.slice a n c)).toArray TC)) (At.new _ _ _) (Below.alloc (Below.refl _ _) (Nat.le_refl _) _)
  have HCK := WirS.hide (fun U (hU : Below w.heap.size w U) => rcheck_any U ht h a n c vs hl (hv.below hU))
  have HOF := WirS.hide (fun U (hU : Below w.heap.size w U) => rof_any U ht h a n c vs v.at' hl (hv.below hU))
  rw [ho] at HOF
  generalize ofS v.at' vs = os at *
  rw [hc] at HCK
  have d2 : decide (v.at' < 0) = false := by simp; omega
  have d3 : decide ((64 : Int) ≤ v.at') = false := by simp; omega
  clear hl hv hc hp ho
  go_enter Try.func80, Try.ntmps80
  go_upto_region 0 with fail
  refine wp_region_lit ?_
  refine sV (.pointer (some ⟨w.heap.size, 0, none⟩)) (w.alloc (.cells (ccl ht h (.slice a n c)).toArray TC)) (by kernel_rfl) (by kernel_rfl) ?_
  simp only [Act.put, List.setIfInBounds_toArray, List.set_cons_succ, List.set_cons_zero]
  obtain ⟨X, eX⟩ : ∃ A, w.heap.size = A := ⟨_, rfl⟩
  rw [eX] at hbX ⊢
  clear eX
  generalize World.alloc w _ = x0 at *
  refine sV (.pointer (some ⟨x0.heap.size, 0, none⟩)) (x0.alloc (.cells v.cells.toArray TV)) (by kernel_rfl) (by kernel_rfl) ?_
  simp only [Act.put, List.setIfInBounds_toArray, List.set_cons_succ, List.set_cons_zero]
  obtain ⟨Y, eY⟩ : ∃ A, x0.heap.size = A := ⟨_, rfl⟩
  have hbY := bag_box (T := TV) (cs := v.cells) (X := Y) hbX eY.symm (w' := x0.alloc (.cells v.cells.toArray TV)) (by rw [← eY]; exact At.new _ _ _) (Below.alloc (Below.refl _ _) (Nat.le_refl _) _)
  rw [eY]
  clear eY hbX
  generalize World.alloc x0 _ = x1 at *
  refine sV (.pointer (some ⟨x1.heap.size, 0, none⟩)) (x1.alloc (.cells zcm.toArray TC)) (by kernel_rfl) (by kernel_rfl) ?_
  simp only [Act.put, List.setIfInBounds_toArray, List.set_cons_succ, List.set_cons_zero]
  obtain ⟨Z, eZ⟩ : ∃ A, x1.heap.size = A := ⟨_, rfl⟩
  have hbZ := bag_box (T := TC) (cs := zcm) (X := Z) hbY eZ.symm (w' := x1.alloc (.cells zcm.toArray TC)) (by rw [← eZ]; exact At.new _ _ _) (Below.alloc (Below.refl _ _) (Nat.le_refl _) _)
  rw [eZ]
  clear eZ hbY
  generalize World.alloc x1 _ = x2 at *
  have H2 := WirS.hide hbZ
  clear hbZ
  go_upto_region 1 with fail
  refine wp_region_lit ?_
  refine sL (by kernel_rfl) _ _ (by rfl) _ (by kernel_rfl) H2.out.drop.drop.head _ _ UC rfl (by kernel_rfl) (by rw [ccl_len _ _ _ HL.out]) ?_
  simp only [Act.put, List.setIfInBounds_toArray, List.set_cons_succ, List.set_cons_zero]
  refine sC (R := fun w' => Below x2.heap.size x2 w') (by kernel_rfl) (by kernel_rfl) (HCK.out x2 H2.out.low) ?_
  rintro x3 hb
  simp only [Act.put, List.setIfInBounds_toArray, List.set_cons_succ, List.set_cons_zero]
  have H3 := WirS.hide (H2.out.more hb)
  clear hb H2
  go_upto_region 2 with fail
  refine wp_region_lit ?_
  refine sL (by kernel_rfl) _ _ (by rfl) _ (by kernel_rfl) H3.out.drop.drop.head _ _ UC rfl (by kernel_rfl) (by rw [ccl_len _ _ _ HL.out]) ?_
  simp only [Act.put, List.setIfInBounds_toArray, List.set_cons_succ, List.set_cons_zero]
  refine sV (.pointer (some ⟨Y, 0, none⟩)) (x3) (by kernel_rfl) (by kernel_rfl) ?_
  simp only [Act.put, List.setIfInBounds_toArray, List.set_cons_succ, List.set_cons_zero]
  refine sP (by kernel_rfl) _ _ (by rfl) ⟨Y, 0, none⟩ (by kernel_rfl) (.int .i64 v.at') (H3.out.drop.head.cell 0) (by kernel_rfl) ?_
  simp only [Act.put, List.setIfInBounds_toArray, List.set_cons_succ, List.set_cons_zero]
  refine sC (R := fun w' => Below x3.heap.size x3 w') (by kernel_rfl) (by kernel_rfl) (HOF.out x3 H3.out.low) ?_
  rintro x4 hb
  simp only [Act.put, List.setIfInBounds_toArray, List.set_cons_succ, List.set_cons_zero]
  have H4 := WirS.hide (H3.out.more hb)
  clear hb H3
  refine sV (.tuple #[.int .u64 os, .bool true]) (x4) (by kernel_rfl) (by kernel_rfl) ?_
  simp only [Act.put, List.setIfInBounds_toArray, List.set_cons_succ, List.set_cons_zero]
  refine sV (.int .u64 os) (x4) (by kernel_rfl) (by kernel_rfl) ?_
  simp only [Act.put, List.setIfInBounds_toArray, List.set_cons_succ, List.set_cons_zero]
  refine sV (.bool true) (x4) (by kernel_rfl) (by kernel_rfl) ?_
  simp only [Act.put, List.setIfInBounds_toArray, List.set_cons_succ, List.set_cons_zero]
  have y0 : x4.cell? ⟨Y, 0, none⟩ = some (.int .i64 v.at') := H4.out.drop.head.cell 0
  go_upto_region 8 with fail
  refine wp_region_lit ?_
  refine sV (.agg zcm.toArray) (x4) (by kernel_rfl) (by kernel_rfl) ?_
  simp only [Act.put, List.setIfInBounds_toArray, List.set_cons_succ, List.set_cons_zero]
  refine stepStore (by rfl) _ _ _ (by rfl) Z zcm (by kernel_rfl) (by kernel_rfl) H4.out.head 34 (by kernel_rfl) (by rfl) (by rfl) (one_ccl _ _ _ _ _) ?_
  simp only [Act.put]
  have HF := WirS.hide (bag_row H4.out zcm)
  clear H4
  generalize World.setRow x4 Z _ = xf at *
  go_wp2_with fail
  refine bodyPost_ret (retRow2 HF.out.head Try.results80 _ (by rfl) (.int .i64 8) (by rfl) _ 34 UC rfl (by kernel_rfl) (by rfl)) rfl ?_
  exact cp_none rfl HF.out.low
end CmX
end Go.Proofs.Ytplinpbmncccoaa

namespace Go.Proofs.Ytplinpbmncccoaa
namespace CmXB
open Go.RowKit
open BlkM WirM WirS CmA CmP CmB CmE CmI CmJ CmT CmV CmX
open CmL (build_ccl)
open WirX (Thg Bag)
open WirAA (box bag_box bag_set)
open WirAB (sCx)

theorem range_from {w : World} {X o : Nat} {T : TypeId} {cs ds : List Value} (h : At w X T cs) (hd : ∀ j v, ds[j]? = some v → cs[o + j]? = some v) : w.rangeAt X o ds := fun j v hj => by
  rw [h.cell]
  exact hd j v hj
theorem ccl_mid (ht : Int) (h : List Int) (s : Value) (j : Nat) (v : Value) (hj : (b8 h)[j]? = some v) : (ccl ht h s)[1 + j]? = some v := by
  rw [Nat.add_comm]
  show (b8 h ++ [s])[j]? = some v
  rw [List.getElem?_append_left (List.getElem?_eq_some_iff.1 hj).1]
  exact hj
set_option maxRecDepth 10000 in
set_option maxHeartbeats 8000000 in
theorem radd_ok (w : World) (ht : Int) (h : List Int) (a : Option Addr) (n c : Nat) (vs : List Vt) (v : Vt) (hl : h.length = 32) (hv : VtIn w a n c vs) (hn : n ≤ 1000) (hvo : v.ok) (hc : chk ht vs = 0) (hp : 0 ≤ v.at' ∧ v.at' < 64) (ho : (ofV v.at' vs).isSome = false) :
    Calls Try.prog 80 #[.agg (ccl ht h (.slice a n c)).toArray, .agg #[.int .i64 v.at', .int .u64 v.sg]] w (CP w 0 ht h (insV vs v)) := by
  have HL := WirS.hide hl
  have HV := WirS.hide hv
  have hbX := bag_box (w0 := w) (T := TC) (cs := ccl ht h (.slice a n c)) (X := w.heap.size) (Bag.nil (Below.refl _ _)) rfl (w' := w.alloc (.cells (ccl ht h (.slice a n c)).toArray TC)) (At.new _ _ _) (Below.alloc (Below.refl _ _) (Nat.le_refl _) _)
  have HCK := WirS.hide (fun U (hU : Below w.heap.size w U) => rcheck_any U ht h a n c vs hl (hv.below hU))
  have HOF := WirS.hide (fun U (hU : Below w.heap.size w U) => rof_any U ht h a n c vs v.at' hl (hv.below hU))
  have HLD := WirS.hide (fun U (hU : Below w.heap.size w U) => laid_any U a n c vs v (hv.below hU) hvo hn)
  rw [lay_ins v vs (fun x hx => (ofV_none v.at' vs).1 (by simpa using ho) x hx)] at HLD
  rw [ho] at HOF
  generalize ofS v.at' vs = os at *
  rw [hc] at HCK
  have d2 : decide (v.at' < 0) = false := by simp; omega
  have d3 : decide ((64 : Int) ≤ v.at') = false := by simp; omega
  clear hl hv hc hp ho
  go_enter Try.func80, Try.ntmps80
  go_upto_region 0 with fail
  refine wp_region_lit ?_
  refine sV (.pointer (some ⟨w.heap.size, 0, none⟩)) (w.alloc (.cells (ccl ht h (.slice a n c)).toArray TC)) (by kernel_rfl) (by kernel_rfl) ?_
  simp only [Act.put, List.setIfInBounds_toArray, List.set_cons_succ, List.set_cons_zero]
  obtain ⟨X, eX⟩ : ∃ A, w.heap.size = A := ⟨_, rfl⟩
  rw [eX] at hbX ⊢
  clear eX
  generalize World.alloc w _ = x0 at *
  refine sV (.pointer (some ⟨x0.heap.size, 0, none⟩)) (x0.alloc (.cells v.cells.toArray TV)) (by kernel_rfl) (by kernel_rfl) ?_
  simp only [Act.put, List.setIfInBounds_toArray, List.set_cons_succ, List.set_cons_zero]
  obtain ⟨Y, eY⟩ : ∃ A, x0.heap.size = A := ⟨_, rfl⟩
  have hbY := bag_box (T := TV) (cs := v.cells) (X := Y) hbX eY.symm (w' := x0.alloc (.cells v.cells.toArray TV)) (by rw [← eY]; exact At.new _ _ _) (Below.alloc (Below.refl _ _) (Nat.le_refl _) _)
  rw [eY]
  clear eY hbX
  generalize World.alloc x0 _ = x1 at *
  refine sV (.pointer (some ⟨x1.heap.size, 0, none⟩)) (x1.alloc (.cells zcm.toArray TC)) (by kernel_rfl) (by kernel_rfl) ?_
  simp only [Act.put, List.setIfInBounds_toArray, List.set_cons_succ, List.set_cons_zero]
  obtain ⟨Z, eZ⟩ : ∃ A, x1.heap.size = A := ⟨_, rfl⟩
  have hbZ := bag_box (T := TC) (cs := zcm) (X := Z) hbY eZ.symm (w' := x1.alloc (.cells zcm.toArray TC)) (by rw [← eZ]; exact At.new _ _ _) (Below.alloc (Below.refl _ _) (Nat.le_refl _) _)
  rw [eZ]
  clear eZ hbY
  generalize World.alloc x1 _ = x2 at *
  have H2 := WirS.hide hbZ
  clear hbZ
  go_upto_region 1 with fail
  refine wp_region_lit ?_
  refine sL (by kernel_rfl) _ _ (by rfl) _ (by kernel_rfl) H2.out.drop.drop.head _ _ UC rfl (by kernel_rfl) (by rw [ccl_len _ _ _ HL.out]) ?_
  simp only [Act.put, List.setIfInBounds_toArray, List.set_cons_succ, List.set_cons_zero]
  refine sC (R := fun w' => Below x2.heap.size x2 w') (by kernel_rfl) (by kernel_rfl) (HCK.out x2 H2.out.low) ?_
  rintro x3 hb
  simp only [Act.put, List.setIfInBounds_toArray, List.set_cons_succ, List.set_cons_zero]
  have H3 := WirS.hide (H2.out.more hb)
  clear hb H2
  go_upto_region 2 with fail
  refine wp_region_lit ?_
  refine sL (by kernel_rfl) _ _ (by rfl) _ (by kernel_rfl) H3.out.drop.drop.head _ _ UC rfl (by kernel_rfl) (by rw [ccl_len _ _ _ HL.out]) ?_
  simp only [Act.put, List.setIfInBounds_toArray, List.set_cons_succ, List.set_cons_zero]
  refine sV (.pointer (some ⟨Y, 0, none⟩)) (x3) (by kernel_rfl) (by kernel_rfl) ?_
  simp only [Act.put, List.setIfInBounds_toArray, List.set_cons_succ, List.set_cons_zero]
  refine sP (by kernel_rfl) _ _ (by rfl) ⟨Y, 0, none⟩ (by kernel_rfl) (.int .i64 v.at') (H3.out.drop.head.cell 0) (by kernel_rfl) ?_
  simp only [Act.put, List.setIfInBounds_toArray, List.set_cons_succ, List.set_cons_zero]
  refine sC (R := fun w' => Below x3.heap.size x3 w') (by kernel_rfl) (by kernel_rfl) (HOF.out x3 H3.out.low) ?_
  rintro x4 hb
  simp only [Act.put, List.setIfInBounds_toArray, List.set_cons_succ, List.set_cons_zero]
  have H4 := WirS.hide (H3.out.more hb)
  clear hb H3
  refine sV (.tuple #[.int .u64 os, .bool false]) (x4) (by kernel_rfl) (by kernel_rfl) ?_
  simp only [Act.put, List.setIfInBounds_toArray, List.set_cons_succ, List.set_cons_zero]
  refine sV (.int .u64 os) (x4) (by kernel_rfl) (by kernel_rfl) ?_
  simp only [Act.put, List.setIfInBounds_toArray, List.set_cons_succ, List.set_cons_zero]
  refine sV (.bool false) (x4) (by kernel_rfl) (by kernel_rfl) ?_
  simp only [Act.put, List.setIfInBounds_toArray, List.set_cons_succ, List.set_cons_zero]
  have y0 : x4.cell? ⟨Y, 0, none⟩ = some (.int .i64 v.at') := H4.out.drop.head.cell 0
  have HSH := WirS.hide (fun (U : World) (hX : At U X TC (ccl ht h (.slice a n c))) (hY : At U Y TV v.cells) => (show U.cell? ⟨X, 0, none⟩ = some (.int .i64 ht) ∧ U.cell? ⟨X, 33, none⟩ = some (.slice a n c) ∧ U.rangeAt X 1 (b8 h) ∧ U.rangeAt Y 0 v.cells from ⟨(hX.cell 0).trans (ccl_0 _ _ _), (hX.cell 33).trans (ccl_33 _ _ _ HL.out), range_from hX (ccl_mid _ _ _), range_from hY (fun j u hj => by rw [Nat.zero_add]; exact hj)⟩))
  go_upto_region 9 with fail
  clear y0
  have HZ : Hid (Bag w x4.drew [box TC Z zcm, box TV Y v.cells, box TC X (ccl ht h (.slice a n c))]) := WirS.hide (H4.out.more (below_drewN (Below.refl _ _) 1))
  clear H4
  refine wp_region_noPanic ?_
  refine wp_region_held_drew (S := (fun U => U.cell? ⟨X, 0, none⟩ = some (.int .i64 ht) ∧ U.cell? ⟨X, 33, none⟩ = some (.slice a n c) ∧ U.rangeAt X 1 (b8 h) ∧ U.rangeAt Y 0 v.cells)) (by kernel_rfl) (HSH.out _ (HZ.out.all (box TC X (ccl ht h (.slice a n c))) (by simp)).1 (HZ.out.all (box TV Y v.cells) (by simp)).1) (fun hHeld => ?_)
  generalize World.drew x4 = z0 at *
  refine' wpAnyH_take (i := 0) (oi := _) (v := .pointer (some ⟨X, 0, none⟩)) rfl (by kernel_rfl) (by kernel_rfl) (by kernel_rfl) (fun _ _ _ h => h) (Or.inl ⟨by kernel_rfl, ?hy0⟩) (by assumption) ?rest0
  case hy0 =>
    intro W _
    kernel_rfl
  case rest0 =>
  try simp only [List.getElem_toArray, List.getElem_cons_zero, Act.put, List.setIfInBounds_toArray, List.set_cons_zero, List.set_cons_succ]
  refine' wpAnyH_take (i := 1) (oi := _) (v := _) rfl (by kernel_rfl) (by kernel_rfl) (by kernel_rfl) (fun _ _ _ h => h) (Or.inl ⟨by kernel_rfl, ?hy1⟩) (by assumption) ?rest1
  case hy1 =>
    intro w hSw
    try dsimp only at hSw
    go_simp
    try with_reducible rfl
  case rest1 =>
  try simp only [List.getElem_toArray, List.getElem_cons_succ, List.getElem_cons_zero, Act.put, List.setIfInBounds_toArray, List.set_cons_zero, List.set_cons_succ]
  refine' wpAnyH_take (i := 2) (oi := _) (v := .pointer (some ⟨X, 1, none⟩)) rfl (by kernel_rfl) (by kernel_rfl) (by kernel_rfl) (fun _ _ _ h => h) (Or.inl ⟨by kernel_rfl, ?hy2⟩) (by assumption) ?rest2
  case hy2 =>
    intro W _
    kernel_rfl
  case rest2 =>
  try simp only [List.getElem_toArray, List.getElem_cons_succ, List.getElem_cons_zero, Act.put, List.setIfInBounds_toArray, List.set_cons_zero, List.set_cons_succ]
  refine' wpAnyH_take (i := 3) (oi := _) (v := .agg (b8 h).toArray) rfl (by kernel_rfl) (by kernel_rfl) (by kernel_rfl) (fun _ _ _ h => h) (yieldsIf_load_mid (by kernel_rfl) 34 (.tmp 38) (by kernel_rfl) X 1 (by kernel_rfl) (b8 h) _ (fun _ h => h.2.2.1) Try.underlying34 (by kernel_rfl) ((by rw [b8_len, HL.out]; kernel_rfl))) (by assumption) ?rest3
  case rest3 =>
  try simp only [List.getElem_toArray, List.getElem_cons_succ, List.getElem_cons_zero, Act.put, List.setIfInBounds_toArray, List.set_cons_zero, List.set_cons_succ]
  refine' wpAnyH_take (i := 4) (oi := _) (v := .pointer (some ⟨X, 33, none⟩)) rfl (by kernel_rfl) (by kernel_rfl) (by kernel_rfl) (fun _ _ _ h => h) (Or.inl ⟨by kernel_rfl, ?hy4⟩) (by assumption) ?rest4
  case hy4 =>
    intro W _
    kernel_rfl
  case rest4 =>
  try simp only [List.getElem_toArray, List.getElem_cons_succ, List.getElem_cons_zero, Act.put, List.setIfInBounds_toArray, List.set_cons_zero, List.set_cons_succ]
  refine' wpAnyH_take (i := 5) (oi := _) (v := _) rfl (by kernel_rfl) (by kernel_rfl) (by kernel_rfl) (fun _ _ _ h => h) (Or.inl ⟨by kernel_rfl, ?hy5⟩) (by assumption) ?rest5
  case hy5 =>
    intro w hSw
    try dsimp only at hSw
    go_simp
    try with_reducible rfl
  case rest5 =>
  try simp only [List.getElem_toArray, List.getElem_cons_succ, List.getElem_cons_zero, Act.put, List.setIfInBounds_toArray, List.set_cons_zero, List.set_cons_succ]
  refine' wpAnyH_take (i := 6) (oi := _) (v := .agg (v.cells).toArray) rfl (by kernel_rfl) (by kernel_rfl) (by kernel_rfl) (fun _ _ _ h => h) (yieldsIf_load_mid (by kernel_rfl) TV (.tmp 3) (by kernel_rfl) Y 0 (by kernel_rfl) (v.cells) _ (fun _ h => h.2.2.2) Try.underlying113 (by kernel_rfl) ((by rfl))) (by assumption) ?rest6
  case rest6 =>
  try simp only [List.getElem_toArray, List.getElem_cons_succ, List.getElem_cons_zero, Act.put, List.setIfInBounds_toArray, List.set_cons_zero, List.set_cons_succ]
  refine wpAnyH_ready (rs := [7]) (by kernel_rfl) (by simp) ?_
  refine AllReadyH.cons rfl (fun K hK => ?_) AllReadyH.nil
  rw [if_pos (by kernel_rfl)]
  refine stepCallX (HLD.out z0 HZ.out.low) (by kernel_rfl) ?_
  rintro e u1 ⟨ia, im, ic, rfl, ho, hnb, hb⟩
  refine ⟨_, rfl, ?_⟩
  try simp only [List.getElem_toArray, List.getElem_cons_succ, List.getElem_cons_zero, Act.put, List.setIfInBounds_toArray, List.set_cons_zero, List.set_cons_succ]
  have HC1 := WirS.hide (bag_ownt HZ.out ho hnb hb)
  clear ho hnb hb HZ
  refine hK.out _ _ (HSH.out _ (HC1.out.all (box TC X (ccl ht h (.slice a n c))) (by simp)).1 (HC1.out.all (box TV Y v.cells) (by simp)).1) (fun hHeld => ?_)
  clear hK K
  refine' wpAnyH_take (i := 8) (oi := _) (v := .agg (ccl ht h (.slice ia im ic)).toArray) rfl (by kernel_rfl) (by kernel_rfl) (by kernel_rfl) (fun _ _ _ h => h) (Or.inl ⟨by kernel_rfl, ?hy8⟩) (by assumption) ?rest8
  case hy8 =>
    intro W _
    exact build_ccl (x := .tmp 37) (y := .tmp 39) (z := .tmp 43) ht h ia im ic HL.out (by kernel_rfl) (by kernel_rfl) (by kernel_rfl) (by kernel_rfl) W
  case rest8 =>
  try simp only [List.getElem_toArray, List.getElem_cons_succ, List.getElem_cons_zero, Act.put, List.setIfInBounds_toArray, List.set_cons_zero, List.set_cons_succ]
  have HC2 := WirS.hide (HC1.out.perm (show [ownt (.slice ia im ic) (insV vs v), box TC Z zcm, box TV Y v.cells, box TC X (ccl ht h (.slice a n c))].Perm [box TC Z zcm, ownt (.slice ia im ic) (insV vs v), box TV Y v.cells, box TC X (ccl ht h (.slice a n c))] from .swap _ _ _))
  clear HC1
  refine wpAnyH_ready (rs := [9]) (by kernel_rfl) (by simp) ?_
  refine AllReadyH.cons rfl (fun K hK => ?_) AllReadyH.nil
  rw [if_pos (by kernel_rfl)]
  refine wp_store_row TC (.tmp 4) (.tmp 44) (by kernel_rfl) Z (ccl ht h (.slice ia im ic)).toArray (by kernel_rfl) (by kernel_rfl) TC zcm.toArray HC2.out.head (by rw [List.size_toArray, ccl_len _ _ _ HL.out]; kernel_rfl) (by rw [List.size_toArray, List.size_toArray, ccl_len _ _ _ HL.out]; rfl) (one_ccl _ _ _ _ _) ?_
  have HF := WirS.hide (bag_row HC2.out (ccl ht h (.slice ia im ic)))
  clear HC2
  refine hK.out _ _ (HSH.out _ (HF.out.all (box TC X (ccl ht h (.slice a n c))) (by simp)).1 (HF.out.all (box TV Y v.cells) (by simp)).1) (fun hHeld => ?_)
  clear hK K
  try simp only [Act.put]
  generalize World.setRow u1 Z _ = xf at *
  refine' wpAnyH_take (i := 10) (oi := _) (v := .int .i64 0) rfl (by kernel_rfl) (by kernel_rfl) (by kernel_rfl) (fun _ _ _ h => h) (Or.inl ⟨by kernel_rfl, ?hy10⟩) (by assumption) ?rest10
  case hy10 =>
    intro W _
    kernel_rfl
  case rest10 =>
  try simp only [List.getElem_toArray, List.getElem_cons_succ, List.getElem_cons_zero, Act.put, List.setIfInBounds_toArray, List.set_cons_zero, List.set_cons_succ]
  refine wpAnyH_done (by kernel_rfl) ?_ _
  refine NoPanic.normal ?_
  clear hHeld
  go_wp2_with fail
  refine bodyPost_ret (retRow2 HF.out.head Try.results80 _ (by rfl) (.int .i64 0) (by rfl) _ 34 UC rfl (by kernel_rfl) (ccl_len _ _ _ HL.out)) rfl ?_
  exact ⟨ia, im, ic, rfl, HF.out.drop.head, fun k hk => (HF.out.all (ownt (.slice ia im ic) (insV vs v)) (by simp)).2 k hk, HF.out.low⟩
theorem radd_any (w : World) (ht : Int) (h : List Int) (a : Option Addr) (n c : Nat) (vs : List Vt) (v : Vt) (hl : h.length = 32) (hv : VtIn w a n c vs) (hn : n ≤ 1000) (hvo : v.ok) :
    Calls Try.prog 80 #[.agg (ccl ht h (.slice a n c)).toArray, .agg #[.int .i64 v.at', .int .u64 v.sg]] w (CP w (addE ht vs v) (if addE ht vs v = 0 then ht else 0) (if addE ht vs v = 0 then h else z32) (if addE ht vs v = 0 then insV vs v else [])) := by
  unfold addE
  by_cases h1 : chk ht vs = 0
  · rw [if_neg (by simpa using h1)]
    by_cases h2 : 0 ≤ v.at' ∧ v.at' < 64
    · rw [if_neg (by simpa using h2)]
      cases h3 : (ofV v.at' vs).isSome with
      | true => exact radd_has w ht h a n c vs v hl hv h1 h2 h3
      | false => exact radd_ok w ht h a n c vs v hl hv hn hvo h1 h2 h3
    · rw [if_pos h2]
      by_cases h4 : v.at' < 0
      · exact radd_low w ht h a n c vs v hl hv h1 h4
      · exact radd_high w ht h a n c vs v hl hv h1 (by omega)
  · rw [if_pos h1, if_neg h1, if_neg h1, if_neg h1]
    exact radd_chk w ht h a n c vs v hl hv h1
end CmXB
end Go.Proofs.Ytplinpbmncccoaa

namespace Go.Proofs.Ytplinpbmncccoaa
namespace CmXC
open Go.RowKit
open BlkM WirM WirS CmA CmP CmB CmE CmI CmJ CmT CmV CmXB
open CmL (build_ccl neHg range_hash neI0 wpList_load_mid')
open WirX (Thg Bag)
open WirAA (box bag_box bag_set)
open WirAB (sCx)

set_option maxRecDepth 20000 in
set_option maxHeartbeats 16000000 in
theorem rjoin_a (w : World) (ht hu : Int) (h k : List Int) (a b : Option Addr) (n c m d : Nat) (vs us : List Vt) (hl : h.length = 32) (kl : k.length = 32) (hv : VtIn w a n c vs) (hw : VtIn w b m d us) (hc : chk ht vs ≠ 0) : Calls Try.prog 82 #[.agg (ccl ht h (.slice a n c)).toArray, .agg (ccl hu k (.slice b m d)).toArray] w (CP w (chk ht vs) 0 z32 []) := by
  have HL := WirS.hide hl
  have HK := WirS.hide kl
  have HC1 := WirS.hide (fun U (hU : Below w.heap.size w U) => rcheck_any U ht h a n c vs hl (hv.below hU))
  have HC2 := WirS.hide (fun U (hU : Below w.heap.size w U) => rcheck_any U hu k b m d us kl (hw.below hU))
  generalize chk ht vs = cd at *
  generalize chk hu us = ce at *
  have d1 : (cd != 0) = true := by simpa using hc
  clear hl kl hv hw hc
  go_enter Try.func82, Try.ntmps82
  go_upto_region 0 with fail
  refine wp_region_lit ?_
  refine sV (.pointer (some ⟨w.heap.size, 0, none⟩)) (w.alloc (.cells (ccl ht h (.slice a n c)).toArray TC)) (by kernel_rfl) (by kernel_rfl) ?_
  simp only [Act.put, List.setIfInBounds_toArray, List.set_cons_succ, List.set_cons_zero]
  have hbX := bag_box (w0 := w) (T := TC) (cs := (ccl ht h (.slice a n c))) (X := w.heap.size) (Bag.nil (Below.refl _ _)) rfl (w' := w.alloc (.cells (ccl ht h (.slice a n c)).toArray TC)) (At.new _ _ _) (Below.alloc (Below.refl _ _) (Nat.le_refl _) _)
  obtain ⟨X, eX⟩ : ∃ A, w.heap.size = A := ⟨_, rfl⟩
  rw [eX] at hbX ⊢
  clear eX
  generalize World.alloc w _ = x0 at *
  refine sV (.pointer (some ⟨x0.heap.size, 0, none⟩)) (x0.alloc (.cells (ccl hu k (.slice b m d)).toArray TC)) (by kernel_rfl) (by kernel_rfl) ?_
  simp only [Act.put, List.setIfInBounds_toArray, List.set_cons_succ, List.set_cons_zero]
  obtain ⟨Y, eY⟩ : ∃ A, x0.heap.size = A := ⟨_, rfl⟩
  have hbY := bag_box (T := TC) (cs := (ccl hu k (.slice b m d))) (X := Y) hbX eY.symm (w' := x0.alloc (.cells (ccl hu k (.slice b m d)).toArray TC)) (by rw [← eY]; exact At.new _ _ _) (Below.alloc (Below.refl _ _) (Nat.le_refl _) _)
  rw [eY]
  clear eY
  generalize World.alloc x0 _ = x1 at *
  refine sV (.pointer (some ⟨x1.heap.size, 0, none⟩)) (x1.alloc (.cells zcm.toArray TC)) (by kernel_rfl) (by kernel_rfl) ?_
  simp only [Act.put, List.setIfInBounds_toArray, List.set_cons_succ, List.set_cons_zero]
  obtain ⟨Z, eZ⟩ : ∃ A, x1.heap.size = A := ⟨_, rfl⟩
  have hbZ := bag_box (T := TC) (cs := zcm) (X := Z) hbY eZ.symm (w' := x1.alloc (.cells zcm.toArray TC)) (by rw [← eZ]; exact At.new _ _ _) (Below.alloc (Below.refl _ _) (Nat.le_refl _) _)
  rw [eZ]
  clear eZ
  generalize World.alloc x1 _ = x2 at *
  have H2 := WirS.hide hbZ
  clear hbZ hbY hbX
  have HSH := WirS.hide (fun (U : World) (hX : At U X TC (ccl ht h (.slice a n c))) (hY : At U Y TC (ccl hu k (.slice b m d))) => (show U.rangeAt X 0 (ccl ht h (.slice a n c)) ∧ U.rangeAt Y 0 (ccl hu k (.slice b m d)) from ⟨range_from hX (fun j u hj => by rw [Nat.zero_add]; exact hj), range_from hY (fun j u hj => by rw [Nat.zero_add]; exact hj)⟩))
  go_upto_region 1 with fail
  have HZ : Hid (Bag w x2.drew [box TC Z zcm, box TC Y (ccl hu k (.slice b m d)), box TC X (ccl ht h (.slice a n c))]) := WirS.hide (H2.out.more (below_drewN (Below.refl _ _) 1))
  clear H2
  refine wp_region_noPanic ?_
  refine wp_region_held_drew (S := (fun U => U.rangeAt X 0 (ccl ht h (.slice a n c)) ∧ U.rangeAt Y 0 (ccl hu k (.slice b m d)))) (by kernel_rfl) (HSH.out _ (HZ.out.all (box TC X (ccl ht h (.slice a n c))) (by simp)).1 (HZ.out.all (box TC Y (ccl hu k (.slice b m d))) (by simp)).1) (fun hHeld => ?_)
  generalize World.drew x2 = z0 at *
  refine' wpAnyH_take (i := 0) (oi := _) (v := .agg ((ccl ht h (.slice a n c))).toArray) rfl (by kernel_rfl) (by kernel_rfl) (by kernel_rfl) (fun _ _ _ h => h) (yieldsIf_load_mid (by kernel_rfl) TC (.tmp 2) (by kernel_rfl) X 0 (by kernel_rfl) ((ccl ht h (.slice a n c))) _ (fun _ h => h.1) UC (by kernel_rfl) ((by rw [ccl_len _ _ _ HL.out]; kernel_rfl))) (by assumption) ?rest0
  case rest0 =>
  try simp only [List.getElem_toArray, List.getElem_cons_zero, Act.put, List.setIfInBounds_toArray, List.set_cons_zero, List.set_cons_succ]
  refine' wpAnyH_take (i := 2) (oi := _) (v := .agg ((ccl hu k (.slice b m d))).toArray) rfl (by kernel_rfl) (by kernel_rfl) (by kernel_rfl) (fun _ _ _ h => h) (yieldsIf_load_mid (by kernel_rfl) TC (.tmp 3) (by kernel_rfl) Y 0 (by kernel_rfl) ((ccl hu k (.slice b m d))) _ (fun _ h => h.2) UC (by kernel_rfl) ((by rw [ccl_len _ _ _ HK.out]; kernel_rfl))) (by assumption) ?rest2
  case rest2 =>
  try simp only [List.getElem_toArray, List.getElem_cons_succ, List.getElem_cons_zero, Act.put, List.setIfInBounds_toArray, List.set_cons_zero, List.set_cons_succ]
  refine wpAnyH_ready (rs := [1]) (by kernel_rfl) (by simp) ?_
  refine AllReadyH.cons rfl (fun K hK => ?_) AllReadyH.nil
  rw [if_pos (by kernel_rfl)]
  refine stepCallH (v := .int .i64 cd) (R := fun w' => Below z0.heap.size z0 w') (by kernel_rfl) (HC1.out z0 HZ.out.low) ?_
  rintro u1 hb
  try simp only [List.getElem_toArray, List.getElem_cons_succ, List.getElem_cons_zero, Act.put, List.setIfInBounds_toArray, List.set_cons_zero, List.set_cons_succ]
  have HY1 := WirS.hide (HZ.out.more hb)
  clear hb HZ
  refine hK.out _ _ (HSH.out _ (HY1.out.all (box TC X (ccl ht h (.slice a n c))) (by simp)).1 (HY1.out.all (box TC Y (ccl hu k (.slice b m d))) (by simp)).1) (fun hHeld => ?_)
  clear hK K
  refine wpAnyH_ready (rs := [3]) (by kernel_rfl) (by simp) ?_
  refine AllReadyH.cons rfl (fun K hK => ?_) AllReadyH.nil
  rw [if_pos (by kernel_rfl)]
  refine stepCallH (v := .int .i64 ce) (R := fun w' => Below u1.heap.size u1 w') (by kernel_rfl) (HC2.out u1 HY1.out.low) ?_
  rintro x5 hb
  try simp only [List.getElem_toArray, List.getElem_cons_succ, List.getElem_cons_zero, Act.put, List.setIfInBounds_toArray, List.set_cons_zero, List.set_cons_succ]
  have H5 := WirS.hide (HY1.out.more hb)
  clear hb HY1
  refine hK.out _ _ (HSH.out _ (H5.out.all (box TC X (ccl ht h (.slice a n c))) (by simp)).1 (H5.out.all (box TC Y (ccl hu k (.slice b m d))) (by simp)).1) (fun hHeld => ?_)
  clear hK K
  refine' wpAnyH_take (i := 4) (oi := _) (v := .int .i64 cd) rfl (by kernel_rfl) (by kernel_rfl) (by kernel_rfl) (fun _ _ _ h => h) (Or.inl ⟨by kernel_rfl, ?hy4⟩) (by assumption) ?rest4
  case hy4 =>
    intro W _
    kernel_rfl
  case rest4 =>
  try simp only [List.getElem_toArray, List.getElem_cons_succ, List.getElem_cons_zero, Act.put, List.setIfInBounds_toArray, List.set_cons_zero, List.set_cons_succ]
  refine' wpAnyH_take (i := 5) (oi := _) (v := .int .i64 ce) rfl (by kernel_rfl) (by kernel_rfl) (by kernel_rfl) (fun _ _ _ h => h) (Or.inl ⟨by kernel_rfl, ?hy5⟩) (by assumption) ?rest5
  case hy5 =>
    intro W _
    kernel_rfl
  case rest5 =>
  try simp only [List.getElem_toArray, List.getElem_cons_succ, List.getElem_cons_zero, Act.put, List.setIfInBounds_toArray, List.set_cons_zero, List.set_cons_succ]
  refine wpAnyH_done (by kernel_rfl) ?_ _
  refine NoPanic.normal ?_
  clear hHeld
  go_upto_region 3 with fail
  refine wp_region_lit ?_
  refine sV (.agg zcm.toArray) (x5) (by kernel_rfl) (by kernel_rfl) ?_
  simp only [Act.put, List.setIfInBounds_toArray, List.set_cons_succ, List.set_cons_zero]
  refine sV (.int .i64 cd) (x5) (by kernel_rfl) (by kernel_rfl) ?_
  simp only [Act.put, List.setIfInBounds_toArray, List.set_cons_succ, List.set_cons_zero]
  refine stepStore (by rfl) _ _ _ (by rfl) Z zcm (by kernel_rfl) (by kernel_rfl) H5.out.head 34 (by kernel_rfl) (by rfl) (by rfl) (one_ccl _ _ _ _ _) ?_
  simp only [Act.put]
  have HF := WirS.hide (bag_row H5.out zcm)
  clear H5
  generalize World.setRow x5 Z _ = xf at *
  go_wp2_with fail
  refine bodyPost_ret (retRow2 HF.out.head Try.results82 _ (by rfl) (.int .i64 cd) (by rfl) _ 34 UC rfl (by kernel_rfl) (by rfl)) rfl ?_
  exact cp_none rfl HF.out.low
set_option maxRecDepth 20000 in
set_option maxHeartbeats 16000000 in
theorem rjoin_b (w : World) (ht hu : Int) (h k : List Int) (a b : Option Addr) (n c m d : Nat) (vs us : List Vt) (hl : h.length = 32) (kl : k.length = 32) (hv : VtIn w a n c vs) (hw : VtIn w b m d us) (hc : chk ht vs = 0) (hc2 : chk hu us ≠ 0) : Calls Try.prog 82 #[.agg (ccl ht h (.slice a n c)).toArray, .agg (ccl hu k (.slice b m d)).toArray] w (CP w (chk hu us) 0 z32 []) := by
  have HL := WirS.hide hl
  have HK := WirS.hide kl
  have HC1 := WirS.hide (fun U (hU : Below w.heap.size w U) => rcheck_any U ht h a n c vs hl (hv.below hU))
  have HC2 := WirS.hide (fun U (hU : Below w.heap.size w U) => rcheck_any U hu k b m d us kl (hw.below hU))
  rw [hc] at HC1
  generalize chk hu us = ce at *
  have d1 : (ce != 0) = true := by simpa using hc2
  clear hl kl hv hw hc hc2
  go_enter Try.func82, Try.ntmps82
  go_upto_region 0 with fail
  refine wp_region_lit ?_
  refine sV (.pointer (some ⟨w.heap.size, 0, none⟩)) (w.alloc (.cells (ccl ht h (.slice a n c)).toArray TC)) (by kernel_rfl) (by kernel_rfl) ?_
  simp only [Act.put, List.setIfInBounds_toArray, List.set_cons_succ, List.set_cons_zero]
  have hbX := bag_box (w0 := w) (T := TC) (cs := (ccl ht h (.slice a n c))) (X := w.heap.size) (Bag.nil (Below.refl _ _)) rfl (w' := w.alloc (.cells (ccl ht h (.slice a n c)).toArray TC)) (At.new _ _ _) (Below.alloc (Below.refl _ _) (Nat.le_refl _) _)
  obtain ⟨X, eX⟩ : ∃ A, w.heap.size = A := ⟨_, rfl⟩
  rw [eX] at hbX ⊢
  clear eX
  generalize World.alloc w _ = x0 at *
  refine sV (.pointer (some ⟨x0.heap.size, 0, none⟩)) (x0.alloc (.cells (ccl hu k (.slice b m d)).toArray TC)) (by kernel_rfl) (by kernel_rfl) ?_
  simp only [Act.put, List.setIfInBounds_toArray, List.set_cons_succ, List.set_cons_zero]
  obtain ⟨Y, eY⟩ : ∃ A, x0.heap.size = A := ⟨_, rfl⟩
  have hbY := bag_box (T := TC) (cs := (ccl hu k (.slice b m d))) (X := Y) hbX eY.symm (w' := x0.alloc (.cells (ccl hu k (.slice b m d)).toArray TC)) (by rw [← eY]; exact At.new _ _ _) (Below.alloc (Below.refl _ _) (Nat.le_refl _) _)
  rw [eY]
  clear eY
  generalize World.alloc x0 _ = x1 at *
  refine sV (.pointer (some ⟨x1.heap.size, 0, none⟩)) (x1.alloc (.cells zcm.toArray TC)) (by kernel_rfl) (by kernel_rfl) ?_
  simp only [Act.put, List.setIfInBounds_toArray, List.set_cons_succ, List.set_cons_zero]
  obtain ⟨Z, eZ⟩ : ∃ A, x1.heap.size = A := ⟨_, rfl⟩
  have hbZ := bag_box (T := TC) (cs := zcm) (X := Z) hbY eZ.symm (w' := x1.alloc (.cells zcm.toArray TC)) (by rw [← eZ]; exact At.new _ _ _) (Below.alloc (Below.refl _ _) (Nat.le_refl _) _)
  rw [eZ]
  clear eZ
  generalize World.alloc x1 _ = x2 at *
  have H2 := WirS.hide hbZ
  clear hbZ hbY hbX
  have HSH := WirS.hide (fun (U : World) (hX : At U X TC (ccl ht h (.slice a n c))) (hY : At U Y TC (ccl hu k (.slice b m d))) => (show U.rangeAt X 0 (ccl ht h (.slice a n c)) ∧ U.rangeAt Y 0 (ccl hu k (.slice b m d)) from ⟨range_from hX (fun j u hj => by rw [Nat.zero_add]; exact hj), range_from hY (fun j u hj => by rw [Nat.zero_add]; exact hj)⟩))
  go_upto_region 1 with fail
  have HZ : Hid (Bag w x2.drew [box TC Z zcm, box TC Y (ccl hu k (.slice b m d)), box TC X (ccl ht h (.slice a n c))]) := WirS.hide (H2.out.more (below_drewN (Below.refl _ _) 1))
  clear H2
  refine wp_region_noPanic ?_
  refine wp_region_held_drew (S := (fun U => U.rangeAt X 0 (ccl ht h (.slice a n c)) ∧ U.rangeAt Y 0 (ccl hu k (.slice b m d)))) (by kernel_rfl) (HSH.out _ (HZ.out.all (box TC X (ccl ht h (.slice a n c))) (by simp)).1 (HZ.out.all (box TC Y (ccl hu k (.slice b m d))) (by simp)).1) (fun hHeld => ?_)
  generalize World.drew x2 = z0 at *
  refine' wpAnyH_take (i := 0) (oi := _) (v := .agg ((ccl ht h (.slice a n c))).toArray) rfl (by kernel_rfl) (by kernel_rfl) (by kernel_rfl) (fun _ _ _ h => h) (yieldsIf_load_mid (by kernel_rfl) TC (.tmp 2) (by kernel_rfl) X 0 (by kernel_rfl) ((ccl ht h (.slice a n c))) _ (fun _ h => h.1) UC (by kernel_rfl) ((by rw [ccl_len _ _ _ HL.out]; kernel_rfl))) (by assumption) ?rest0
  case rest0 =>
  try simp only [List.getElem_toArray, List.getElem_cons_zero, Act.put, List.setIfInBounds_toArray, List.set_cons_zero, List.set_cons_succ]
  refine' wpAnyH_take (i := 2) (oi := _) (v := .agg ((ccl hu k (.slice b m d))).toArray) rfl (by kernel_rfl) (by kernel_rfl) (by kernel_rfl) (fun _ _ _ h => h) (yieldsIf_load_mid (by kernel_rfl) TC (.tmp 3) (by kernel_rfl) Y 0 (by kernel_rfl) ((ccl hu k (.slice b m d))) _ (fun _ h => h.2) UC (by kernel_rfl) ((by rw [ccl_len _ _ _ HK.out]; kernel_rfl))) (by assumption) ?rest2
  case rest2 =>
  try simp only [List.getElem_toArray, List.getElem_cons_succ, List.getElem_cons_zero, Act.put, List.setIfInBounds_toArray, List.set_cons_zero, List.set_cons_succ]
  refine wpAnyH_ready (rs := [1]) (by kernel_rfl) (by simp) ?_
  refine AllReadyH.cons rfl (fun K hK => ?_) AllReadyH.nil
  rw [if_pos (by kernel_rfl)]
  refine stepCallH (v := .int .i64 0) (R := fun w' => Below z0.heap.size z0 w') (by kernel_rfl) (HC1.out z0 HZ.out.low) ?_
  rintro u1 hb
  try simp only [List.getElem_toArray, List.getElem_cons_succ, List.getElem_cons_zero, Act.put, List.setIfInBounds_toArray, List.set_cons_zero, List.set_cons_succ]
  have HY1 := WirS.hide (HZ.out.more hb)
  clear hb HZ
  refine hK.out _ _ (HSH.out _ (HY1.out.all (box TC X (ccl ht h (.slice a n c))) (by simp)).1 (HY1.out.all (box TC Y (ccl hu k (.slice b m d))) (by simp)).1) (fun hHeld => ?_)
  clear hK K
  refine wpAnyH_ready (rs := [3]) (by kernel_rfl) (by simp) ?_
  refine AllReadyH.cons rfl (fun K hK => ?_) AllReadyH.nil
  rw [if_pos (by kernel_rfl)]
  refine stepCallH (v := .int .i64 ce) (R := fun w' => Below u1.heap.size u1 w') (by kernel_rfl) (HC2.out u1 HY1.out.low) ?_
  rintro x5 hb
  try simp only [List.getElem_toArray, List.getElem_cons_succ, List.getElem_cons_zero, Act.put, List.setIfInBounds_toArray, List.set_cons_zero, List.set_cons_succ]
  have H5 := WirS.hide (HY1.out.more hb)
  clear hb HY1
  refine hK.out _ _ (HSH.out _ (H5.out.all (box TC X (ccl ht h (.slice a n c))) (by simp)).1 (H5.out.all (box TC Y (ccl hu k (.slice b m d))) (by simp)).1) (fun hHeld => ?_)
  clear hK K
  refine' wpAnyH_take (i := 4) (oi := _) (v := .int .i64 0) rfl (by kernel_rfl) (by kernel_rfl) (by kernel_rfl) (fun _ _ _ h => h) (Or.inl ⟨by kernel_rfl, ?hy4⟩) (by assumption) ?rest4
  case hy4 =>
    intro W _
    kernel_rfl
  case rest4 =>
  try simp only [List.getElem_toArray, List.getElem_cons_succ, List.getElem_cons_zero, Act.put, List.setIfInBounds_toArray, List.set_cons_zero, List.set_cons_succ]
  refine' wpAnyH_take (i := 5) (oi := _) (v := .int .i64 ce) rfl (by kernel_rfl) (by kernel_rfl) (by kernel_rfl) (fun _ _ _ h => h) (Or.inl ⟨by kernel_rfl, ?hy5⟩) (by assumption) ?rest5
  case hy5 =>
    intro W _
    kernel_rfl
  case rest5 =>
  try simp only [List.getElem_toArray, List.getElem_cons_succ, List.getElem_cons_zero, Act.put, List.setIfInBounds_toArray, List.set_cons_zero, List.set_cons_succ]
  refine wpAnyH_done (by kernel_rfl) ?_ _
  refine NoPanic.normal ?_
  clear hHeld
  go_upto_region 5 with fail
  refine wp_region_lit ?_
  refine sV (.agg zcm.toArray) (x5) (by kernel_rfl) (by kernel_rfl) ?_
  simp only [Act.put, List.setIfInBounds_toArray, List.set_cons_succ, List.set_cons_zero]
  refine sV (.int .i64 ce) (x5) (by kernel_rfl) (by kernel_rfl) ?_
  simp only [Act.put, List.setIfInBounds_toArray, List.set_cons_succ, List.set_cons_zero]
  refine stepStore (by rfl) _ _ _ (by rfl) Z zcm (by kernel_rfl) (by kernel_rfl) H5.out.head 34 (by kernel_rfl) (by rfl) (by rfl) (one_ccl _ _ _ _ _) ?_
  simp only [Act.put]
  have HF := WirS.hide (bag_row H5.out zcm)
  clear H5
  generalize World.setRow x5 Z _ = xf at *
  go_wp2_with fail
  refine bodyPost_ret (retRow2 HF.out.head Try.results82 _ (by rfl) (.int .i64 ce) (by rfl) _ 34 UC rfl (by kernel_rfl) (by rfl)) rfl ?_
  exact cp_none rfl HF.out.low
set_option maxRecDepth 20000 in
set_option maxHeartbeats 16000000 in
theorem rjoin_c (w : World) (ht hu : Int) (h k : List Int) (a b : Option Addr) (n c m d : Nat) (vs us : List Vt) (hl : h.length = 32) (kl : k.length = 32) (hv : VtIn w a n c vs) (hw : VtIn w b m d us) (hc : chk ht vs = 0) (hc2 : chk hu us = 0) (hne : ht ≠ hu) : Calls Try.prog 82 #[.agg (ccl ht h (.slice a n c)).toArray, .agg (ccl hu k (.slice b m d)).toArray] w (CP w 9 0 z32 []) := by
  have HL := WirS.hide hl
  have HK := WirS.hide kl
  have HC1 := WirS.hide (fun U (hU : Below w.heap.size w U) => rcheck_any U ht h a n c vs hl (hv.below hU))
  have HC2 := WirS.hide (fun U (hU : Below w.heap.size w U) => rcheck_any U hu k b m d us kl (hw.below hU))
  rw [hc] at HC1
  rw [hc2] at HC2
  have d1 : (ht != hu) = true := by simpa using hne
  clear hl kl hv hw hc hc2 hne
  go_enter Try.func82, Try.ntmps82
  go_upto_region 0 with fail
  refine wp_region_lit ?_
  refine sV (.pointer (some ⟨w.heap.size, 0, none⟩)) (w.alloc (.cells (ccl ht h (.slice a n c)).toArray TC)) (by kernel_rfl) (by kernel_rfl) ?_
  simp only [Act.put, List.setIfInBounds_toArray, List.set_cons_succ, List.set_cons_zero]
  have hbX := bag_box (w0 := w) (T := TC) (cs := (ccl ht h (.slice a n c))) (X := w.heap.size) (Bag.nil (Below.refl _ _)) rfl (w' := w.alloc (.cells (ccl ht h (.slice a n c)).toArray TC)) (At.new _ _ _) (Below.alloc (Below.refl _ _) (Nat.le_refl _) _)
  obtain ⟨X, eX⟩ : ∃ A, w.heap.size = A := ⟨_, rfl⟩
  rw [eX] at hbX ⊢
  clear eX
  generalize World.alloc w _ = x0 at *
  refine sV (.pointer (some ⟨x0.heap.size, 0, none⟩)) (x0.alloc (.cells (ccl hu k (.slice b m d)).toArray TC)) (by kernel_rfl) (by kernel_rfl) ?_
  simp only [Act.put, List.setIfInBounds_toArray, List.set_cons_succ, List.set_cons_zero]
  obtain ⟨Y, eY⟩ : ∃ A, x0.heap.size = A := ⟨_, rfl⟩
  have hbY := bag_box (T := TC) (cs := (ccl hu k (.slice b m d))) (X := Y) hbX eY.symm (w' := x0.alloc (.cells (ccl hu k (.slice b m d)).toArray TC)) (by rw [← eY]; exact At.new _ _ _) (Below.alloc (Below.refl _ _) (Nat.le_refl _) _)
  rw [eY]
  clear eY
  generalize World.alloc x0 _ = x1 at *
  refine sV (.pointer (some ⟨x1.heap.size, 0, none⟩)) (x1.alloc (.cells zcm.toArray TC)) (by kernel_rfl) (by kernel_rfl) ?_
  simp only [Act.put, List.setIfInBounds_toArray, List.set_cons_succ, List.set_cons_zero]
  obtain ⟨Z, eZ⟩ : ∃ A, x1.heap.size = A := ⟨_, rfl⟩
  have hbZ := bag_box (T := TC) (cs := zcm) (X := Z) hbY eZ.symm (w' := x1.alloc (.cells zcm.toArray TC)) (by rw [← eZ]; exact At.new _ _ _) (Below.alloc (Below.refl _ _) (Nat.le_refl _) _)
  rw [eZ]
  clear eZ
  generalize World.alloc x1 _ = x2 at *
  have H2 := WirS.hide hbZ
  clear hbZ hbY hbX
  have HSH := WirS.hide (fun (U : World) (hX : At U X TC (ccl ht h (.slice a n c))) (hY : At U Y TC (ccl hu k (.slice b m d))) => (show U.rangeAt X 0 (ccl ht h (.slice a n c)) ∧ U.rangeAt Y 0 (ccl hu k (.slice b m d)) from ⟨range_from hX (fun j u hj => by rw [Nat.zero_add]; exact hj), range_from hY (fun j u hj => by rw [Nat.zero_add]; exact hj)⟩))
  go_upto_region 1 with fail
  have HZ : Hid (Bag w x2.drew [box TC Z zcm, box TC Y (ccl hu k (.slice b m d)), box TC X (ccl ht h (.slice a n c))]) := WirS.hide (H2.out.more (below_drewN (Below.refl _ _) 1))
  clear H2
  refine wp_region_noPanic ?_
  refine wp_region_held_drew (S := (fun U => U.rangeAt X 0 (ccl ht h (.slice a n c)) ∧ U.rangeAt Y 0 (ccl hu k (.slice b m d)))) (by kernel_rfl) (HSH.out _ (HZ.out.all (box TC X (ccl ht h (.slice a n c))) (by simp)).1 (HZ.out.all (box TC Y (ccl hu k (.slice b m d))) (by simp)).1) (fun hHeld => ?_)
  generalize World.drew x2 = z0 at *
  refine' wpAnyH_take (i := 0) (oi := _) (v := .agg ((ccl ht h (.slice a n c))).toArray) rfl (by kernel_rfl) (by kernel_rfl) (by kernel_rfl) (fun _ _ _ h => h) (yieldsIf_load_mid (by kernel_rfl) TC (.tmp 2) (by kernel_rfl) X 0 (by kernel_rfl) ((ccl ht h (.slice a n c))) _ (fun _ h => h.1) UC (by kernel_rfl) ((by rw [ccl_len _ _ _ HL.out]; kernel_rfl))) (by assumption) ?rest0
  case rest0 =>
  try simp only [List.getElem_toArray, List.getElem_cons_zero, Act.put, List.setIfInBounds_toArray, List.set_cons_zero, List.set_cons_succ]
  refine' wpAnyH_take (i := 2) (oi := _) (v := .agg ((ccl hu k (.slice b m d))).toArray) rfl (by kernel_rfl) (by kernel_rfl) (by kernel_rfl) (fun _ _ _ h => h) (yieldsIf_load_mid (by kernel_rfl) TC (.tmp 3) (by kernel_rfl) Y 0 (by kernel_rfl) ((ccl hu k (.slice b m d))) _ (fun _ h => h.2) UC (by kernel_rfl) ((by rw [ccl_len _ _ _ HK.out]; kernel_rfl))) (by assumption) ?rest2
  case rest2 =>
  try simp only [List.getElem_toArray, List.getElem_cons_succ, List.getElem_cons_zero, Act.put, List.setIfInBounds_toArray, List.set_cons_zero, List.set_cons_succ]
  refine wpAnyH_ready (rs := [1]) (by kernel_rfl) (by simp) ?_
  refine AllReadyH.cons rfl (fun K hK => ?_) AllReadyH.nil
  rw [if_pos (by kernel_rfl)]
  refine stepCallH (v := .int .i64 0) (R := fun w' => Below z0.heap.size z0 w') (by kernel_rfl) (HC1.out z0 HZ.out.low) ?_
  rintro u1 hb
  try simp only [List.getElem_toArray, List.getElem_cons_succ, List.getElem_cons_zero, Act.put, List.setIfInBounds_toArray, List.set_cons_zero, List.set_cons_succ]
  have HY1 := WirS.hide (HZ.out.more hb)
  clear hb HZ
  refine hK.out _ _ (HSH.out _ (HY1.out.all (box TC X (ccl ht h (.slice a n c))) (by simp)).1 (HY1.out.all (box TC Y (ccl hu k (.slice b m d))) (by simp)).1) (fun hHeld => ?_)
  clear hK K
  refine wpAnyH_ready (rs := [3]) (by kernel_rfl) (by simp) ?_
  refine AllReadyH.cons rfl (fun K hK => ?_) AllReadyH.nil
  rw [if_pos (by kernel_rfl)]
  refine stepCallH (v := .int .i64 0) (R := fun w' => Below u1.heap.size u1 w') (by kernel_rfl) (HC2.out u1 HY1.out.low) ?_
  rintro x5 hb
  try simp only [List.getElem_toArray, List.getElem_cons_succ, List.getElem_cons_zero, Act.put, List.setIfInBounds_toArray, List.set_cons_zero, List.set_cons_succ]
  have H5 := WirS.hide (HY1.out.more hb)
  clear hb HY1
  refine hK.out _ _ (HSH.out _ (H5.out.all (box TC X (ccl ht h (.slice a n c))) (by simp)).1 (H5.out.all (box TC Y (ccl hu k (.slice b m d))) (by simp)).1) (fun hHeld => ?_)
  clear hK K
  refine' wpAnyH_take (i := 4) (oi := _) (v := .int .i64 0) rfl (by kernel_rfl) (by kernel_rfl) (by kernel_rfl) (fun _ _ _ h => h) (Or.inl ⟨by kernel_rfl, ?hy4⟩) (by assumption) ?rest4
  case hy4 =>
    intro W _
    kernel_rfl
  case rest4 =>
  try simp only [List.getElem_toArray, List.getElem_cons_succ, List.getElem_cons_zero, Act.put, List.setIfInBounds_toArray, List.set_cons_zero, List.set_cons_succ]
  refine' wpAnyH_take (i := 5) (oi := _) (v := .int .i64 0) rfl (by kernel_rfl) (by kernel_rfl) (by kernel_rfl) (fun _ _ _ h => h) (Or.inl ⟨by kernel_rfl, ?hy5⟩) (by assumption) ?rest5
  case hy5 =>
    intro W _
    kernel_rfl
  case rest5 =>
  try simp only [List.getElem_toArray, List.getElem_cons_succ, List.getElem_cons_zero, Act.put, List.setIfInBounds_toArray, List.set_cons_zero, List.set_cons_succ]
  refine wpAnyH_done (by kernel_rfl) ?_ _
  refine NoPanic.normal ?_
  clear hHeld
  have k0X : x5.cell? ⟨X, 0, none⟩ = some (.int .i64 ht) := H5.out.drop.drop.head.cell 0
  have k0Y : x5.cell? ⟨Y, 0, none⟩ = some (.int .i64 hu) := H5.out.drop.head.cell 0
  go_upto_region 7 with fail
  refine wp_region_lit ?_
  refine sV (.agg zcm.toArray) (x5) (by kernel_rfl) (by kernel_rfl) ?_
  simp only [Act.put, List.setIfInBounds_toArray, List.set_cons_succ, List.set_cons_zero]
  refine stepStore (by rfl) _ _ _ (by rfl) Z zcm (by kernel_rfl) (by kernel_rfl) H5.out.head 34 (by kernel_rfl) (by rfl) (by rfl) (one_ccl _ _ _ _ _) ?_
  simp only [Act.put]
  have HF := WirS.hide (bag_row H5.out zcm)
  clear H5
  generalize World.setRow x5 Z _ = xf at *
  go_wp2_with fail
  refine bodyPost_ret (retRow2 HF.out.head Try.results82 _ (by rfl) (.int .i64 9) (by rfl) _ 34 UC rfl (by kernel_rfl) (by rfl)) rfl ?_
  exact cp_none rfl HF.out.low
set_option maxRecDepth 20000 in
set_option maxHeartbeats 16000000 in
theorem rjoin_d (w : World) (ht hu : Int) (h k : List Int) (a b : Option Addr) (n c m d : Nat) (vs us : List Vt) (hl : h.length = 32) (kl : k.length = 32) (hv : VtIn w a n c vs) (hw : VtIn w b m d us) (hc : chk ht vs = 0) (hc2 : chk hu us = 0) (he : ht = hu) (hne : h ≠ k) : Calls Try.prog 82 #[.agg (ccl ht h (.slice a n c)).toArray, .agg (ccl hu k (.slice b m d)).toArray] w (CP w 9 0 z32 []) := by
  subst he
  have HL := WirS.hide hl
  have HK := WirS.hide kl
  have HC1 := WirS.hide (fun U (hU : Below w.heap.size w U) => rcheck_any U ht h a n c vs hl (hv.below hU))
  have HC2 := WirS.hide (fun U (hU : Below w.heap.size w U) => rcheck_any U ht k b m d us kl (hw.below hU))
  have HNE := WirS.hide (fun W => show (binOp .neq 34 (.agg (b8 h).toArray) (.agg (b8 k).toArray)).run Try.prog W = .ok (.bool true) W from by rw [neHg h k hl kl W]; simp [hne])
  rw [hc] at HC1
  rw [hc2] at HC2
  clear hl kl hv hw hc hc2 hne
  go_enter Try.func82, Try.ntmps82
  go_upto_region 0 with fail
  refine wp_region_lit ?_
  refine sV (.pointer (some ⟨w.heap.size, 0, none⟩)) (w.alloc (.cells (ccl ht h (.slice a n c)).toArray TC)) (by kernel_rfl) (by kernel_rfl) ?_
  simp only [Act.put, List.setIfInBounds_toArray, List.set_cons_succ, List.set_cons_zero]
  have hbX := bag_box (w0 := w) (T := TC) (cs := (ccl ht h (.slice a n c))) (X := w.heap.size) (Bag.nil (Below.refl _ _)) rfl (w' := w.alloc (.cells (ccl ht h (.slice a n c)).toArray TC)) (At.new _ _ _) (Below.alloc (Below.refl _ _) (Nat.le_refl _) _)
  obtain ⟨X, eX⟩ : ∃ A, w.heap.size = A := ⟨_, rfl⟩
  rw [eX] at hbX ⊢
  clear eX
  generalize World.alloc w _ = x0 at *
  refine sV (.pointer (some ⟨x0.heap.size, 0, none⟩)) (x0.alloc (.cells (ccl ht k (.slice b m d)).toArray TC)) (by kernel_rfl) (by kernel_rfl) ?_
  simp only [Act.put, List.setIfInBounds_toArray, List.set_cons_succ, List.set_cons_zero]
  obtain ⟨Y, eY⟩ : ∃ A, x0.heap.size = A := ⟨_, rfl⟩
  have hbY := bag_box (T := TC) (cs := (ccl ht k (.slice b m d))) (X := Y) hbX eY.symm (w' := x0.alloc (.cells (ccl ht k (.slice b m d)).toArray TC)) (by rw [← eY]; exact At.new _ _ _) (Below.alloc (Below.refl _ _) (Nat.le_refl _) _)
  rw [eY]
  clear eY
  generalize World.alloc x0 _ = x1 at *
  refine sV (.pointer (some ⟨x1.heap.size, 0, none⟩)) (x1.alloc (.cells zcm.toArray TC)) (by kernel_rfl) (by kernel_rfl) ?_
  simp only [Act.put, List.setIfInBounds_toArray, List.set_cons_succ, List.set_cons_zero]
  obtain ⟨Z, eZ⟩ : ∃ A, x1.heap.size = A := ⟨_, rfl⟩
  have hbZ := bag_box (T := TC) (cs := zcm) (X := Z) hbY eZ.symm (w' := x1.alloc (.cells zcm.toArray TC)) (by rw [← eZ]; exact At.new _ _ _) (Below.alloc (Below.refl _ _) (Nat.le_refl _) _)
  rw [eZ]
  clear eZ
  generalize World.alloc x1 _ = x2 at *
  have H2 := WirS.hide hbZ
  clear hbZ hbY hbX
  have HSH := WirS.hide (fun (U : World) (hX : At U X TC (ccl ht h (.slice a n c))) (hY : At U Y TC (ccl ht k (.slice b m d))) => (show U.rangeAt X 0 (ccl ht h (.slice a n c)) ∧ U.rangeAt Y 0 (ccl ht k (.slice b m d)) from ⟨range_from hX (fun j u hj => by rw [Nat.zero_add]; exact hj), range_from hY (fun j u hj => by rw [Nat.zero_add]; exact hj)⟩))
  go_upto_region 1 with fail
  have HZ : Hid (Bag w x2.drew [box TC Z zcm, box TC Y (ccl ht k (.slice b m d)), box TC X (ccl ht h (.slice a n c))]) := WirS.hide (H2.out.more (below_drewN (Below.refl _ _) 1))
  clear H2
  refine wp_region_noPanic ?_
  refine wp_region_held_drew (S := (fun U => U.rangeAt X 0 (ccl ht h (.slice a n c)) ∧ U.rangeAt Y 0 (ccl ht k (.slice b m d)))) (by kernel_rfl) (HSH.out _ (HZ.out.all (box TC X (ccl ht h (.slice a n c))) (by simp)).1 (HZ.out.all (box TC Y (ccl ht k (.slice b m d))) (by simp)).1) (fun hHeld => ?_)
  generalize World.drew x2 = z0 at *
  refine' wpAnyH_take (i := 0) (oi := _) (v := .agg ((ccl ht h (.slice a n c))).toArray) rfl (by kernel_rfl) (by kernel_rfl) (by kernel_rfl) (fun _ _ _ h => h) (yieldsIf_load_mid (by kernel_rfl) TC (.tmp 2) (by kernel_rfl) X 0 (by kernel_rfl) ((ccl ht h (.slice a n c))) _ (fun _ h => h.1) UC (by kernel_rfl) ((by rw [ccl_len _ _ _ HL.out]; kernel_rfl))) (by assumption) ?rest0
  case rest0 =>
  try simp only [List.getElem_toArray, List.getElem_cons_zero, Act.put, List.setIfInBounds_toArray, List.set_cons_zero, List.set_cons_succ]
  refine' wpAnyH_take (i := 2) (oi := _) (v := .agg ((ccl ht k (.slice b m d))).toArray) rfl (by kernel_rfl) (by kernel_rfl) (by kernel_rfl) (fun _ _ _ h => h) (yieldsIf_load_mid (by kernel_rfl) TC (.tmp 3) (by kernel_rfl) Y 0 (by kernel_rfl) ((ccl ht k (.slice b m d))) _ (fun _ h => h.2) UC (by kernel_rfl) ((by rw [ccl_len _ _ _ HK.out]; kernel_rfl))) (by assumption) ?rest2
  case rest2 =>
  try simp only [List.getElem_toArray, List.getElem_cons_succ, List.getElem_cons_zero, Act.put, List.setIfInBounds_toArray, List.set_cons_zero, List.set_cons_succ]
  refine wpAnyH_ready (rs := [1]) (by kernel_rfl) (by simp) ?_
  refine AllReadyH.cons rfl (fun K hK => ?_) AllReadyH.nil
  rw [if_pos (by kernel_rfl)]
  refine stepCallH (v := .int .i64 0) (R := fun w' => Below z0.heap.size z0 w') (by kernel_rfl) (HC1.out z0 HZ.out.low) ?_
  rintro u1 hb
  try simp only [List.getElem_toArray, List.getElem_cons_succ, List.getElem_cons_zero, Act.put, List.setIfInBounds_toArray, List.set_cons_zero, List.set_cons_succ]
  have HY1 := WirS.hide (HZ.out.more hb)
  clear hb HZ
  refine hK.out _ _ (HSH.out _ (HY1.out.all (box TC X (ccl ht h (.slice a n c))) (by simp)).1 (HY1.out.all (box TC Y (ccl ht k (.slice b m d))) (by simp)).1) (fun hHeld => ?_)
  clear hK K
  refine wpAnyH_ready (rs := [3]) (by kernel_rfl) (by simp) ?_
  refine AllReadyH.cons rfl (fun K hK => ?_) AllReadyH.nil
  rw [if_pos (by kernel_rfl)]
  refine stepCallH (v := .int .i64 0) (R := fun w' => Below u1.heap.size u1 w') (by kernel_rfl) (HC2.out u1 HY1.out.low) ?_
  rintro x5 hb
  try simp only [List.getElem_toArray, List.getElem_cons_succ, List.getElem_cons_zero, Act.put, List.setIfInBounds_toArray, List.set_cons_zero, List.set_cons_succ]
  have H5 := WirS.hide (HY1.out.more hb)
  clear hb HY1
  refine hK.out _ _ (HSH.out _ (H5.out.all (box TC X (ccl ht h (.slice a n c))) (by simp)).1 (H5.out.all (box TC Y (ccl ht k (.slice b m d))) (by simp)).1) (fun hHeld => ?_)
  clear hK K
  refine' wpAnyH_take (i := 4) (oi := _) (v := .int .i64 0) rfl (by kernel_rfl) (by kernel_rfl) (by kernel_rfl) (fun _ _ _ h => h) (Or.inl ⟨by kernel_rfl, ?hy4⟩) (by assumption) ?rest4
  case hy4 =>
    intro W _
    kernel_rfl
  case rest4 =>
  try simp only [List.getElem_toArray, List.getElem_cons_succ, List.getElem_cons_zero, Act.put, List.setIfInBounds_toArray, List.set_cons_zero, List.set_cons_succ]
  refine' wpAnyH_take (i := 5) (oi := _) (v := .int .i64 0) rfl (by kernel_rfl) (by kernel_rfl) (by kernel_rfl) (fun _ _ _ h => h) (Or.inl ⟨by kernel_rfl, ?hy5⟩) (by assumption) ?rest5
  case hy5 =>
    intro W _
    kernel_rfl
  case rest5 =>
  try simp only [List.getElem_toArray, List.getElem_cons_succ, List.getElem_cons_zero, Act.put, List.setIfInBounds_toArray, List.set_cons_zero, List.set_cons_succ]
  refine wpAnyH_done (by kernel_rfl) ?_ _
  refine NoPanic.normal ?_
  clear hHeld
  go_upto_region 6 with fail
  refine wp_region_lit ?_
  refine sV (.pointer (some ⟨X, 0, none⟩)) (x5) (by kernel_rfl) (by kernel_rfl) ?_
  simp only [Act.put, List.setIfInBounds_toArray, List.set_cons_succ, List.set_cons_zero]
  refine sP (by kernel_rfl) _ _ (by rfl) ⟨X, 0, none⟩ (by kernel_rfl) (.int .i64 ht) (H5.out.drop.drop.head.cell 0) (by kernel_rfl) ?_
  simp only [Act.put, List.setIfInBounds_toArray, List.set_cons_succ, List.set_cons_zero]
  refine sV (.pointer (some ⟨Y, 0, none⟩)) (x5) (by kernel_rfl) (by kernel_rfl) ?_
  simp only [Act.put, List.setIfInBounds_toArray, List.set_cons_succ, List.set_cons_zero]
  refine sP (by kernel_rfl) _ _ (by rfl) ⟨Y, 0, none⟩ (by kernel_rfl) (.int .i64 ht) (H5.out.drop.head.cell 0) (by kernel_rfl) ?_
  simp only [Act.put, List.setIfInBounds_toArray, List.set_cons_succ, List.set_cons_zero]
  refine sB (by kernel_rfl) .neq _ _ _ _ (by rfl) (.int .i64 ht) (.int .i64 ht) (by kernel_rfl) (by kernel_rfl) (.bool false) (neI0 ht x5) (by kernel_rfl) ?_
  simp only [Act.put, List.setIfInBounds_toArray, List.set_cons_succ, List.set_cons_zero]
  refine sV (.bool false) (x5) (by kernel_rfl) (by kernel_rfl) ?_
  simp only [Act.put, List.setIfInBounds_toArray, List.set_cons_succ, List.set_cons_zero]
  refine sV (.pointer (some ⟨X, 1, none⟩)) (x5) (by kernel_rfl) (by kernel_rfl) ?_
  simp only [Act.put, List.setIfInBounds_toArray, List.set_cons_succ, List.set_cons_zero]
  refine wpList_load_mid' (by kernel_rfl) _ _ (by rfl) X 1 (by kernel_rfl) (b8 h) _ (range_hash H5.out.drop.drop.head) Try.underlying34 (by rfl) (by rw [b8_len, HL.out]; kernel_rfl) ?_
  simp only [Act.put, List.setIfInBounds_toArray, List.set_cons_succ, List.set_cons_zero]
  refine sV (.pointer (some ⟨Y, 1, none⟩)) (x5) (by kernel_rfl) (by kernel_rfl) ?_
  simp only [Act.put, List.setIfInBounds_toArray, List.set_cons_succ, List.set_cons_zero]
  refine wpList_load_mid' (by kernel_rfl) _ _ (by rfl) Y 1 (by kernel_rfl) (b8 k) _ (range_hash H5.out.drop.head) Try.underlying34 (by rfl) (by rw [b8_len, HK.out]; kernel_rfl) ?_
  simp only [Act.put, List.setIfInBounds_toArray, List.set_cons_succ, List.set_cons_zero]
  refine sB (by kernel_rfl) .neq _ _ _ _ (by rfl) (.agg (b8 h).toArray) (.agg (b8 k).toArray) (by kernel_rfl) (by kernel_rfl) (.bool true) (HNE.out x5) (by kernel_rfl) ?_
  simp only [Act.put, List.setIfInBounds_toArray, List.set_cons_succ, List.set_cons_zero]
  refine sV (.bool true) (x5) (by kernel_rfl) (by kernel_rfl) ?_
  simp only [Act.put, List.setIfInBounds_toArray, List.set_cons_succ, List.set_cons_zero]
  go_upto_region 7 with fail
  refine wp_region_lit ?_
  refine sV (.agg zcm.toArray) (x5) (by kernel_rfl) (by kernel_rfl) ?_
  simp only [Act.put, List.setIfInBounds_toArray, List.set_cons_succ, List.set_cons_zero]
  refine stepStore (by rfl) _ _ _ (by rfl) Z zcm (by kernel_rfl) (by kernel_rfl) H5.out.head 34 (by kernel_rfl) (by rfl) (by rfl) (one_ccl _ _ _ _ _) ?_
  simp only [Act.put]
  have HF := WirS.hide (bag_row H5.out zcm)
  clear H5
  generalize World.setRow x5 Z _ = xf at *
  go_wp2_with fail
  refine bodyPost_ret (retRow2 HF.out.head Try.results82 _ (by rfl) (.int .i64 9) (by rfl) _ 34 UC rfl (by kernel_rfl) (by rfl)) rfl ?_
  exact cp_none rfl HF.out.low
end CmXC
end Go.Proofs.Ytplinpbmncccoaa

namespace Go.Proofs.Ytplinpbmncccoaa
namespace CmY
open Go.RowKit
open CmA CmP CmV

def dj (vs : List Vt) : List Vt → List Vt → Option (List Vt)
  | out, [] => some out
  | out, y :: l => match ofV y.at' vs with
    | none => dj vs (lay y out false) l
    | some s => if s = y.sg then dj vs out l else none
theorem of_ins {out : List Vt} {y : Vt} (hu : Up out) (hy : 0 ≤ y.at' ∧ y.at' < 64) (hn : ofV y.at' out = none) {z : Vt} (hz : z.at' ≠ y.at') : ofV z.at' (insV out y) = ofV z.at' out := by
  have hui := up_insV hu hy hn
  have key : ∀ s, ofV z.at' (insV out y) = some s ↔ ofV z.at' out = some s := fun s => by
    rw [ofV_some hui, ofV_some hu, mem_insV]
    exact ⟨fun h => h.resolve_left (fun e => hz (by rw [← e])), .inr⟩
  cases h : ofV z.at' out with
  | some s => exact (key s).2 h
  | none =>
    cases h' : ofV z.at' (insV out y) with
    | none => rfl
    | some s => rw [(key s).1 h'] at h; cases h
theorem dj_mg (vs : List Vt) : ∀ (l out : List Vt), Up out → Up l → (∀ z ∈ l, ofV z.at' out = ofV z.at' vs) → dj vs out l = mg out l
  | [], _, _, _, _ => rfl
  | y :: l, out, ho, hl, h => by
    have hy := h y (by simp)
    have hp := (List.pairwise_cons.1 hl.asc).1
    have hr := hl.rng y (by simp)
    rw [dj, mg, hy]
    cases e : ofV y.at' vs with
    | some s =>
      simp only
      by_cases q : s = y.sg
      · rw [if_pos q, if_pos q]
        exact dj_mg vs l out ho hl.tail (fun z hz => h z (by simp [hz]))
      · rw [if_neg q, if_neg q]
    | none =>
      simp only
      rw [e] at hy
      rw [lay_ins y out (fun x hx => (ofV_none y.at' out).1 hy x hx)]
      exact dj_mg vs l (insV out y) (up_insV ho hr hy) hl.tail (fun z hz => by
        rw [of_ins ho hr hy (by have := hp z hz; omega)]
        exact h z (by simp [hz]))
theorem dj_all {vs us : List Vt} (h : Up vs) (h' : Up us) : dj vs vs us = mg vs us := dj_mg vs us vs h h' (fun _ _ => rfl)
end CmY
end Go.Proofs.Ytplinpbmncccoaa

