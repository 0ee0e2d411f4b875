/-
  The statements' adds, joins, awake.
-/
import Derived.Test.YtplinpbmncccoaaCmN
namespace Go.Proofs.Ytplinpbmncccoaa
namespace CmO
open Go.RowKit
open BlkM WirM WirS CmA CmP CmB CmE CmI CmJ CmK CmL CmN
open WirX (Thg Bag)
open WirAA (box bag_box bag_set)
open WirAB (sCx)

set_option maxRecDepth 10000 in
set_option maxHeartbeats 8000000 in
theorem of_nil (w : World) (ht : Int) : Calls Try.prog 83 #[.int .i64 ht, .slice none 0 0] w (OfP w ht []) := by
  have hbR := bag_box (w0 := w) (T := TC) (cs := zcm) (X := w.heap.size) (Bag.nil (Below.refl _ _)) rfl (w' := w.alloc (.cells zcm.toArray TC)) (At.new _ _ _) (Below.alloc (Below.refl _ _) (Nat.le_refl _) _)
  go_enter Try.func83, Try.ntmps83
  go_upto_region 0 with fail
  refine wp_region_lit ?_
  refine sV (.pointer (some ⟨w.heap.size, 0, none⟩)) (w.alloc (.cells zcm.toArray TC)) (by kernel_rfl) (by kernel_rfl) ?_
  simp only [Act.put, List.setIfInBounds_toArray, List.set_cons_succ, List.set_cons_zero]
  obtain ⟨R, eR⟩ : ∃ A, w.heap.size = A := ⟨_, rfl⟩
  rw [eR] at hbR ⊢
  clear eR
  generalize World.alloc w _ = x0 at *
  go_upto_region 1 with fail
  refine wp_region_lit ?_
  refine sV (.int .i64 ht) (x0) (by kernel_rfl) (by kernel_rfl) ?_
  simp only [Act.put, List.setIfInBounds_toArray, List.set_cons_succ, List.set_cons_zero]
  refine sV (.agg (b8 hh1).toArray) (x0) (by kernel_rfl) (by kernel_rfl) ?_
  simp only [Act.put, List.setIfInBounds_toArray, List.set_cons_succ, List.set_cons_zero]
  refine sV (.agg (ccl ht hh1 (.slice none 0 0)).toArray) (x0) (by kernel_rfl) (by kernel_rfl) ?_
  simp only [Act.put, List.setIfInBounds_toArray, List.set_cons_succ, List.set_cons_zero]
  refine sV (.pointer (some ⟨x0.heap.size, 0, none⟩)) (x0.alloc (.cells zcm.toArray TC)) (by kernel_rfl) (by kernel_rfl) ?_
  simp only [Act.put, List.setIfInBounds_toArray, List.set_cons_succ, List.set_cons_zero]
  obtain ⟨X, eX⟩ : ∃ A, x0.heap.size = A := ⟨_, rfl⟩
  have hbX := bag_box (T := TC) (cs := zcm) (X := X) hbR eX.symm (w' := x0.alloc (.cells zcm.toArray TC)) (by rw [← eX]; exact At.new _ _ _) (Below.alloc (Below.refl _ _) (Nat.le_refl _) _)
  rw [eX]
  clear eX hbR
  generalize World.alloc x0 _ = x1 at *
  refine stepStore (by rfl) _ _ _ (by rfl) X (ccl ht hh1 (.slice none 0 0)) (by kernel_rfl) (by kernel_rfl) hbX.head 34 (by kernel_rfl) (by rfl) (by rfl) (one_ccl _ _ _ _ _) ?_
  simp only [Act.put]
  have HB2 := WirS.hide (bag_row hbX (ccl ht hh1 (.slice none 0 0)))
  clear hbX
  generalize World.setRow x1 X _ = x2 at *
  go_wp2_with fail
  refine wp_loop_rounds 1 ?_
  rw [rounds_succ]
  go_upto_region 6 with fail
  refine wp_region_lit ?_
  refine sL (by kernel_rfl) _ _ (by rfl) _ (by kernel_rfl) HB2.out.head _ _ UC rfl (by kernel_rfl) (by rw [ccl_len _ _ _ rfl]) ?_
  simp only [Act.put, List.setIfInBounds_toArray, List.set_cons_succ, List.set_cons_zero]
  have HS := WirS.hide HB2.out.swap
  clear HB2
  refine stepStore (by rfl) _ _ _ (by rfl) R (ccl ht hh1 (.slice none 0 0)) (by kernel_rfl) (by kernel_rfl) HS.out.head 34 (by kernel_rfl) (by rfl) (ccl_len _ _ _ rfl) (one_ccl _ _ _ _ _) ?_
  simp only [Act.put]
  have HF := WirS.hide (bag_row HS.out (ccl ht hh1 (.slice none 0 0)))
  clear HS
  generalize World.setRow x2 R _ = xf at *
  go_wp2_with fail
  refine bodyPost_ret (retRow HF.out.head Try.results83 _ (by rfl) _ 34 UC rfl (by kernel_rfl) (ccl_len _ _ _ rfl)) rfl ?_
  exact ⟨none, 0, 0, rfl, OwnT.nil _, fun q hq => by simp [Value.ownBlock] at hq, HF.out.low⟩
set_option maxRecDepth 10000 in
set_option maxHeartbeats 8000000 in
theorem adds_any (w : World) (ht ht2 : Int) (h h2 : List Int) (a b : Option Addr) (n c m d : Nat) (us : List Vt) (at0 sg err : Int) (hl : h.length = 32) (hl2 : h2.length = 32) (hw : VtIn w b m d us) (h0 : 0 ≤ sg) (h1 : sg < 18446744073709551616)
    (HA : ∀ U, Below w.heap.size w U → Calls Try.prog 79 #[.agg (ccl ht h (.slice a n c)).toArray, .agg #[.int .i64 at0, .int .u64 sg]] U (CP U err ht2 h2 us)) :
    Calls Try.prog 85 #[.agg (ccl ht h (.slice a n c)).toArray, .int .i64 at0, .int .i64 sg, .agg (ccl ht2 h2 (.slice b m d)).toArray, .int .i64 err] w fun e w' => e = .returned (.bool true) ∧ Below w.heap.size w w' := by
  have HL := WirS.hide hl
  have HL2 := WirS.hide hl2
  have HWT := WirS.hide hw
  have HUS := WirS.hide hw.len
  have HAD := WirS.hide HA
  have HSG := WirS.hide (And.intro h0 h1)
  clear hl hl2 hw HA h0 h1
  go_enter Try.func85, Try.ntmps85
  go_upto_region 0 with fail
  refine wp_region_lit ?_
  refine sV (.pointer (some ⟨w.heap.size, 0, none⟩)) (w.alloc (.cells (ccl ht h (.slice a n c)).toArray TC)) (by kernel_rfl) (by kernel_rfl) ?_
  simp only [Act.put, List.setIfInBounds_toArray, List.set_cons_succ, List.set_cons_zero]
  obtain ⟨X, eX⟩ : ∃ A, w.heap.size = A := ⟨_, rfl⟩
  have hbX := bag_box (w0 := w) (T := TC) (cs := (ccl ht h (.slice a n c))) (X := X) (Bag.nil (Below.refl _ _)) eX.symm (w' := w.alloc (.cells (ccl ht h (.slice a n c)).toArray TC)) (by rw [← eX]; exact At.new _ _ _) (Below.alloc (Below.refl _ _) (Nat.le_refl _) _)
  rw [eX]
  clear eX
  generalize World.alloc w _ = x0 at *
  refine sV (.pointer (some ⟨x0.heap.size, 0, none⟩)) (x0.alloc (.cells (ccl ht2 h2 (.slice b m d)).toArray TC)) (by kernel_rfl) (by kernel_rfl) ?_
  simp only [Act.put, List.setIfInBounds_toArray, List.set_cons_succ, List.set_cons_zero]
  obtain ⟨Y, eY⟩ : ∃ A, x0.heap.size = A := ⟨_, rfl⟩
  have hbY := bag_box (T := TC) (cs := (ccl ht2 h2 (.slice b m d))) (X := Y) hbX eY.symm (w' := x0.alloc (.cells (ccl ht2 h2 (.slice b m d)).toArray TC)) (by rw [← eY]; exact At.new _ _ _) (Below.alloc (Below.refl _ _) (Nat.le_refl _) _)
  rw [eY]
  clear eY hbX
  generalize World.alloc x0 _ = x1 at *
  have H2 := WirS.hide hbY
  clear hbY
  go_upto_region 1 with fail
  refine wp_region_lit ?_
  refine sL (by kernel_rfl) _ _ (by rfl) _ (by kernel_rfl) H2.out.drop.head _ _ UC rfl (by kernel_rfl) (by rw [ccl_len _ _ _ HL.out]) ?_
  simp only [Act.put, List.setIfInBounds_toArray, List.set_cons_succ, List.set_cons_zero]
  refine sV (.int .i64 at0) (x1) (by kernel_rfl) (by kernel_rfl) ?_
  simp only [Act.put, List.setIfInBounds_toArray, List.set_cons_succ, List.set_cons_zero]
  refine sV (.int .i64 sg) (x1) (by kernel_rfl) (by kernel_rfl) ?_
  simp only [Act.put, List.setIfInBounds_toArray, List.set_cons_succ, List.set_cons_zero]
  refine sV (.int .u64 sg) x1 (by kernel_rfl) (conv_u _ _ (.tmp 16) sg HSG.out.1 HSG.out.2 (by kernel_rfl) (by kernel_rfl) x1) ?_
  simp only [Act.put, List.setIfInBounds_toArray, List.set_cons_succ, List.set_cons_zero]
  refine sV (.agg #[.int .i64 at0, .int .u64 sg]) (x1) (by kernel_rfl) (by kernel_rfl) ?_
  simp only [Act.put, List.setIfInBounds_toArray, List.set_cons_succ, List.set_cons_zero]
  refine sCx (by kernel_rfl) (by kernel_rfl) (HAD.out x1 H2.out.low) ?_
  rintro e y0 ⟨ra, rn, rc, rfl, hro, hrn, hb⟩
  refine ⟨_, rfl, ?_⟩
  simp only [Act.put, List.setIfInBounds_toArray, List.set_cons_succ, List.set_cons_zero]
  have H3 := WirS.hide (bag_ownt H2.out hro hrn hb)
  clear hb H2 hro hrn
  refine sV (.tuple #[.agg (ccl ht2 h2 (.slice ra rn rc)).toArray, .int .i64 err]) (y0) (by kernel_rfl) (by kernel_rfl) ?_
  simp only [Act.put, List.setIfInBounds_toArray, List.set_cons_succ, List.set_cons_zero]
  refine sV (.agg (ccl ht2 h2 (.slice ra rn rc)).toArray) (y0) (by kernel_rfl) (by kernel_rfl) ?_
  simp only [Act.put, List.setIfInBounds_toArray, List.set_cons_succ, List.set_cons_zero]
  refine sV (.int .i64 err) (y0) (by kernel_rfl) (by kernel_rfl) ?_
  simp only [Act.put, List.setIfInBounds_toArray, List.set_cons_succ, List.set_cons_zero]
  refine sV (.pointer (some ⟨y0.heap.size, 0, none⟩)) (y0.alloc (.cells zcm.toArray TC)) (by kernel_rfl) (by kernel_rfl) ?_
  simp only [Act.put, List.setIfInBounds_toArray, List.set_cons_succ, List.set_cons_zero]
  obtain ⟨T, eT⟩ : ∃ A, y0.heap.size = A := ⟨_, rfl⟩
  have hbT := bag_box (T := TC) (cs := zcm) (X := T) H3.out eT.symm (w' := y0.alloc (.cells zcm.toArray TC)) (by rw [← eT]; exact At.new _ _ _) (Below.alloc (Below.refl _ _) (Nat.le_refl _) _)
  rw [eT]
  clear eT H3
  generalize World.alloc y0 _ = y1 at *
  refine stepStore (by rfl) _ _ _ (by rfl) T (ccl ht2 h2 (.slice ra rn rc)) (by kernel_rfl) (by kernel_rfl) hbT.head 34 (by kernel_rfl) (by rfl) (ccl_len _ _ _ HL2.out) (one_ccl _ _ _ _ _) ?_
  simp only [Act.put]
  have H4 := WirS.hide (bag_row hbT (ccl ht2 h2 (.slice ra rn rc)))
  clear hbT
  generalize World.setRow y1 T _ = y2 at *
  have hrm : rn = m := by
    have h1 := HUS.out
    obtain ⟨va, vc, e⟩ := H4.out.drop.head.len_of
    cases e
    exact h1
  have HSC := WirS.hide (sc_any y2 ht2 h2 ra b rn rc d us HL2.out H4.out.drop.head.vin (by rw [hrm]; exact HWT.out.below H4.out.low))
  have HRM := WirS.hide hrm
  clear hrm
  go_upto_region 2 with fail
  refine wp_region_lit ?_
  refine sV (.int .i64 err) (y2) (by kernel_rfl) (by kernel_rfl) ?_
  simp only [Act.put, List.setIfInBounds_toArray, List.set_cons_succ, List.set_cons_zero]
  refine sV (.int .i64 err) (y2) (by kernel_rfl) (by kernel_rfl) ?_
  simp only [Act.put, List.setIfInBounds_toArray, List.set_cons_succ, List.set_cons_zero]
  refine sB (by kernel_rfl) .eql _ _ _ _ (by rfl) (.int .i64 err) (.int .i64 err) (by kernel_rfl) (by kernel_rfl) (.bool true) (eqE err y2) (by kernel_rfl) ?_
  simp only [Act.put, List.setIfInBounds_toArray, List.set_cons_succ, List.set_cons_zero]
  refine sV (.bool true) (y2) (by kernel_rfl) (by kernel_rfl) ?_
  simp only [Act.put, List.setIfInBounds_toArray, List.set_cons_succ, List.set_cons_zero]
  refine sL (by kernel_rfl) _ _ (by rfl) _ (by kernel_rfl) H4.out.head _ _ UC rfl (by kernel_rfl) (by rw [ccl_len _ _ _ HL2.out]) ?_
  simp only [Act.put, List.setIfInBounds_toArray, List.set_cons_succ, List.set_cons_zero]
  refine sL (by kernel_rfl) _ _ (by rfl) _ (by kernel_rfl) H4.out.drop.drop.head _ _ UC rfl (by kernel_rfl) (by rw [ccl_len _ _ _ HL2.out]) ?_
  simp only [Act.put, List.setIfInBounds_toArray, List.set_cons_succ, List.set_cons_zero]
  rw [HRM.out] at HSC
  have HRN := WirS.hide HRM.out
  rw [HRN.out]
  refine sC (R := fun w' => Below y2.heap.size y2 w') (by kernel_rfl) (by kernel_rfl) HSC.out ?_
  rintro y3 hb
  simp only [Act.put, List.setIfInBounds_toArray, List.set_cons_succ, List.set_cons_zero]
  have HBF := WirS.hide (H4.out.low.trans (hb.mono H4.out.low.size))
  clear hb H4
  refine sV (.bool true) (y3) (by kernel_rfl) (by kernel_rfl) ?_
  simp only [Act.put, List.setIfInBounds_toArray, List.set_cons_succ, List.set_cons_zero]
  go_wp2_with fail
  go_ret
  exact ⟨rfl, HBF.out⟩
set_option maxRecDepth 10000 in
set_option maxHeartbeats 8000000 in
theorem joins_any (w : World) (ht hu ht2 : Int) (h k h2 : List Int) (a a2 b : Option Addr) (n c n2 c2 m d : Nat) (us : List Vt) (err : Int) (hl : h.length = 32) (kl : k.length = 32) (hl2 : h2.length = 32) (hw : VtIn w b m d us)
    (HA : ∀ U, Below w.heap.size w U → Calls Try.prog 81 #[.agg (ccl ht h (.slice a n c)).toArray, .agg (ccl hu k (.slice a2 n2 c2)).toArray] U (CP U err ht2 h2 us)) :
    Calls Try.prog 86 #[.agg (ccl ht h (.slice a n c)).toArray, .agg (ccl hu k (.slice a2 n2 c2)).toArray, .agg (ccl ht2 h2 (.slice b m d)).toArray, .int .i64 err] w fun e w' => e = .returned (.bool true) ∧ Below w.heap.size w w' := by
  have HL := WirS.hide hl
  have HK := WirS.hide kl
  have HL2 := WirS.hide hl2
  have HWT := WirS.hide hw
  have HUS := WirS.hide hw.len
  have HAD := WirS.hide HA
  clear hl kl hl2 hw HA
  go_enter Try.func86, Try.ntmps86
  go_upto_region 0 with fail
  refine wp_region_lit ?_
  refine sV (.pointer (some ⟨w.heap.size, 0, none⟩)) (w.alloc (.cells (ccl ht h (.slice a n c)).toArray TC)) (by kernel_rfl) (by kernel_rfl) ?_
  simp only [Act.put, List.setIfInBounds_toArray, List.set_cons_succ, List.set_cons_zero]
  obtain ⟨X, eX⟩ : ∃ A, w.heap.size = A := ⟨_, rfl⟩
  have hbX := bag_box (w0 := w) (T := TC) (cs := (ccl ht h (.slice a n c))) (X := X) (Bag.nil (Below.refl _ _)) eX.symm (w' := w.alloc (.cells (ccl ht h (.slice a n c)).toArray TC)) (by rw [← eX]; exact At.new _ _ _) (Below.alloc (Below.refl _ _) (Nat.le_refl _) _)
  rw [eX]
  clear eX
  generalize World.alloc w _ = x0 at *
  refine sV (.pointer (some ⟨x0.heap.size, 0, none⟩)) (x0.alloc (.cells (ccl hu k (.slice a2 n2 c2)).toArray TC)) (by kernel_rfl) (by kernel_rfl) ?_
  simp only [Act.put, List.setIfInBounds_toArray, List.set_cons_succ, List.set_cons_zero]
  obtain ⟨Y, eY⟩ : ∃ A, x0.heap.size = A := ⟨_, rfl⟩
  have hbY := bag_box (T := TC) (cs := (ccl hu k (.slice a2 n2 c2))) (X := Y) hbX eY.symm (w' := x0.alloc (.cells (ccl hu k (.slice a2 n2 c2)).toArray TC)) (by rw [← eY]; exact At.new _ _ _) (Below.alloc (Below.refl _ _) (Nat.le_refl _) _)
  rw [eY]
  clear eY hbX
  generalize World.alloc x0 _ = x1 at *
  refine sV (.pointer (some ⟨x1.heap.size, 0, none⟩)) (x1.alloc (.cells (ccl ht2 h2 (.slice b m d)).toArray TC)) (by kernel_rfl) (by kernel_rfl) ?_
  simp only [Act.put, List.setIfInBounds_toArray, List.set_cons_succ, List.set_cons_zero]
  obtain ⟨Z, eZ⟩ : ∃ A, x1.heap.size = A := ⟨_, rfl⟩
  have hbZ := bag_box (T := TC) (cs := (ccl ht2 h2 (.slice b m d))) (X := Z) hbY eZ.symm (w' := x1.alloc (.cells (ccl ht2 h2 (.slice b m d)).toArray TC)) (by rw [← eZ]; exact At.new _ _ _) (Below.alloc (Below.refl _ _) (Nat.le_refl _) _)
  rw [eZ]
  clear eZ hbY
  generalize World.alloc x1 _ = x2 at *
  have H2 := WirS.hide hbZ
  clear hbZ
  go_upto_region 1 with fail
  refine wp_region_lit ?_
  refine sL (by kernel_rfl) _ _ (by rfl) _ (by kernel_rfl) H2.out.drop.drop.head _ _ UC rfl (by kernel_rfl) (by rw [ccl_len _ _ _ HL.out]) ?_
  simp only [Act.put, List.setIfInBounds_toArray, List.set_cons_succ, List.set_cons_zero]
  refine sL (by kernel_rfl) _ _ (by rfl) _ (by kernel_rfl) H2.out.drop.head _ _ UC rfl (by kernel_rfl) (by rw [ccl_len _ _ _ HK.out]) ?_
  simp only [Act.put, List.setIfInBounds_toArray, List.set_cons_succ, List.set_cons_zero]
  refine sCx (by kernel_rfl) (by kernel_rfl) (HAD.out x2 H2.out.low) ?_
  rintro e y0 ⟨ra, rn, rc, rfl, hro, hrn, hb⟩
  refine ⟨_, rfl, ?_⟩
  simp only [Act.put, List.setIfInBounds_toArray, List.set_cons_succ, List.set_cons_zero]
  have H3 := WirS.hide (bag_ownt H2.out hro hrn hb)
  clear hb H2 hro hrn
  refine sV (.tuple #[.agg (ccl ht2 h2 (.slice ra rn rc)).toArray, .int .i64 err]) (y0) (by kernel_rfl) (by kernel_rfl) ?_
  simp only [Act.put, List.setIfInBounds_toArray, List.set_cons_succ, List.set_cons_zero]
  refine sV (.agg (ccl ht2 h2 (.slice ra rn rc)).toArray) (y0) (by kernel_rfl) (by kernel_rfl) ?_
  simp only [Act.put, List.setIfInBounds_toArray, List.set_cons_succ, List.set_cons_zero]
  refine sV (.int .i64 err) (y0) (by kernel_rfl) (by kernel_rfl) ?_
  simp only [Act.put, List.setIfInBounds_toArray, List.set_cons_succ, List.set_cons_zero]
  refine sV (.pointer (some ⟨y0.heap.size, 0, none⟩)) (y0.alloc (.cells zcm.toArray TC)) (by kernel_rfl) (by kernel_rfl) ?_
  simp only [Act.put, List.setIfInBounds_toArray, List.set_cons_succ, List.set_cons_zero]
  obtain ⟨T, eT⟩ : ∃ A, y0.heap.size = A := ⟨_, rfl⟩
  have hbT := bag_box (T := TC) (cs := zcm) (X := T) H3.out eT.symm (w' := y0.alloc (.cells zcm.toArray TC)) (by rw [← eT]; exact At.new _ _ _) (Below.alloc (Below.refl _ _) (Nat.le_refl _) _)
  rw [eT]
  clear eT H3
  generalize World.alloc y0 _ = y1 at *
  refine stepStore (by rfl) _ _ _ (by rfl) T (ccl ht2 h2 (.slice ra rn rc)) (by kernel_rfl) (by kernel_rfl) hbT.head 34 (by kernel_rfl) (by rfl) (ccl_len _ _ _ HL2.out) (one_ccl _ _ _ _ _) ?_
  simp only [Act.put]
  have H4 := WirS.hide (bag_row hbT (ccl ht2 h2 (.slice ra rn rc)))
  clear hbT
  generalize World.setRow y1 T _ = y2 at *
  have hrm : rn = m := by
    have h1 := HUS.out
    obtain ⟨va, vc, e⟩ := H4.out.drop.head.len_of
    cases e
    exact h1
  have HSC := WirS.hide (sc_any y2 ht2 h2 ra b rn rc d us HL2.out H4.out.drop.head.vin (by rw [hrm]; exact HWT.out.below H4.out.low))
  have HRM := WirS.hide hrm
  clear hrm
  go_upto_region 2 with fail
  refine wp_region_lit ?_
  refine sV (.int .i64 err) (y2) (by kernel_rfl) (by kernel_rfl) ?_
  simp only [Act.put, List.setIfInBounds_toArray, List.set_cons_succ, List.set_cons_zero]
  refine sV (.int .i64 err) (y2) (by kernel_rfl) (by kernel_rfl) ?_
  simp only [Act.put, List.setIfInBounds_toArray, List.set_cons_succ, List.set_cons_zero]
  refine sB (by kernel_rfl) .eql _ _ _ _ (by rfl) (.int .i64 err) (.int .i64 err) (by kernel_rfl) (by kernel_rfl) (.bool true) (eqE err y2) (by kernel_rfl) ?_
  simp only [Act.put, List.setIfInBounds_toArray, List.set_cons_succ, List.set_cons_zero]
  refine sV (.bool true) (y2) (by kernel_rfl) (by kernel_rfl) ?_
  simp only [Act.put, List.setIfInBounds_toArray, List.set_cons_succ, List.set_cons_zero]
  refine sL (by kernel_rfl) _ _ (by rfl) _ (by kernel_rfl) H4.out.head _ _ UC rfl (by kernel_rfl) (by rw [ccl_len _ _ _ HL2.out]) ?_
  simp only [Act.put, List.setIfInBounds_toArray, List.set_cons_succ, List.set_cons_zero]
  refine sL (by kernel_rfl) _ _ (by rfl) _ (by kernel_rfl) H4.out.drop.drop.head _ _ UC rfl (by kernel_rfl) (by rw [ccl_len _ _ _ HL2.out]) ?_
  simp only [Act.put, List.setIfInBounds_toArray, List.set_cons_succ, List.set_cons_zero]
  rw [HRM.out] at HSC
  have HRN := WirS.hide HRM.out
  rw [HRN.out]
  refine sC (R := fun w' => Below y2.heap.size y2 w') (by kernel_rfl) (by kernel_rfl) HSC.out ?_
  rintro y3 hb
  simp only [Act.put, List.setIfInBounds_toArray, List.set_cons_succ, List.set_cons_zero]
  have HBF := WirS.hide (H4.out.low.trans (hb.mono H4.out.low.size))
  clear hb H4
  refine sV (.bool true) (y3) (by kernel_rfl) (by kernel_rfl) ?_
  simp only [Act.put, List.setIfInBounds_toArray, List.set_cons_succ, List.set_cons_zero]
  go_wp2_with fail
  go_ret
  exact ⟨rfl, HBF.out⟩
end CmO
end Go.Proofs.Ytplinpbmncccoaa
