/-
  The statements' awake.
-/
import Derived.Test.YtplinpbmncccoaaCmO
namespace Go.Proofs.Ytplinpbmncccoaa
namespace CmQ
open Go.RowKit
open BlkM WirM WirS CmA CmP CmI CmJ CmL CmO
open CmB (TV TC ccl ofS)
open CmN (nums hh1)
open WirAB (sCx)

set_option maxRecDepth 20000 in
set_option maxHeartbeats 16000000 in
theorem awake_any (w : World) : Calls Try.prog 63 #[] w fun e w' => e = .returned (.bool true) ∧ Below w.heap.size w w' := by
  have HW := WirS.hide (Below.refl w.heap.size w)
  go_enter Try.func63, Try.ntmps63
  go_upto_region 1 with fail
  refine wp_region_lit ?_
  refine sV (.slice (some ⟨w.heap.size, 0, none⟩) 4 4) (w.alloc (.cells (nums ([⟨0, 7⟩, ⟨3, 9⟩] : List Vt)).toArray 3)) (by kernel_rfl) (by kernel_rfl) ?_
  simp only [Act.put, List.setIfInBounds_toArray, List.set_cons_succ, List.set_cons_zero]
  obtain ⟨B1, eB1⟩ : ∃ A, w.heap.size = A := ⟨_, rfl⟩
  have HA1 := WirS.hide (show At (w.alloc (.cells (nums ([⟨0, 7⟩, ⟨3, 9⟩] : List Vt)).toArray 3)) B1 3 _ from by rw [← eB1]; exact At.new _ _ _)
  have hb : Below w.heap.size w (w.alloc (.cells (nums ([⟨0, 7⟩, ⟨3, 9⟩] : List Vt)).toArray 3)) := Below.alloc (Below.refl _ _) (Nat.le_refl _) _
  rw [eB1]
  clear eB1
  generalize World.alloc w _ = u1 at *
  replace HW := WirS.hide (HW.out.trans (hb.mono HW.out.size))
  clear hb
  refine sCx (by kernel_rfl) (by kernel_rfl) (CmN.of_any u1 B1 4 5 ([⟨0, 7⟩, ⟨3, 9⟩] : List Vt) HA1.out (by decide) (by intro x hx; simp at hx; rcases hx with rfl | rfl <;> exact ⟨by decide, by decide⟩)) ?_
  rintro e u2 ⟨a2, n2, c2, rfl, ho, _, hb⟩
  refine ⟨_, rfl, ?_⟩
  simp only [Act.put, List.setIfInBounds_toArray, List.set_cons_succ, List.set_cons_zero]
  have HV2 := WirS.hide ho.vin
  clear ho HA1
  replace HW := WirS.hide (HW.out.trans (hb.mono HW.out.size))
  clear hb
  refine sC (R := fun w' => Below u2.heap.size u2 w') (by kernel_rfl) (by kernel_rfl) (by have C := CmB.of_any u2 5 hh1 a2 n2 c2 ([⟨0, 7⟩, ⟨3, 9⟩] : List Vt) 3 rfl HV2.out; rw [show ofS 3 ([⟨0, 7⟩, ⟨3, 9⟩] : List Vt) = 9 from by kernel_rfl, show (ofV 3 ([⟨0, 7⟩, ⟨3, 9⟩] : List Vt)).isSome = true from by kernel_rfl] at C; exact C) ?_
  rintro u3 hb
  simp only [Act.put, List.setIfInBounds_toArray, List.set_cons_succ, List.set_cons_zero]
  replace HW := WirS.hide (HW.out.trans (hb.mono HW.out.size))
  replace HV2 := WirS.hide (HV2.out.below hb)
  clear hb
  refine sV (.tuple #[.int .u64 9, .bool true]) (u3) (by kernel_rfl) (by kernel_rfl) ?_
  simp only [Act.put, List.setIfInBounds_toArray, List.set_cons_succ, List.set_cons_zero]
  refine sV (.int .u64 9) (u3) (by kernel_rfl) (by kernel_rfl) ?_
  simp only [Act.put, List.setIfInBounds_toArray, List.set_cons_succ, List.set_cons_zero]
  refine sV (.bool true) (u3) (by kernel_rfl) (by kernel_rfl) ?_
  simp only [Act.put, List.setIfInBounds_toArray, List.set_cons_succ, List.set_cons_zero]
  go_upto_region 2 with fail
  refine wp_region_lit ?_
  refine sV (.int .u64 9) (u3) (by kernel_rfl) (by kernel_rfl) ?_
  simp only [Act.put, List.setIfInBounds_toArray, List.set_cons_succ, List.set_cons_zero]
  refine sV (.bool true) (u3) (by kernel_rfl) (by kernel_rfl) ?_
  simp only [Act.put, List.setIfInBounds_toArray, List.set_cons_succ, List.set_cons_zero]
  refine sV (.bool true) (u3) (by kernel_rfl) (by kernel_rfl) ?_
  simp only [Act.put, List.setIfInBounds_toArray, List.set_cons_succ, List.set_cons_zero]
  refine sV (.bool true) (u3) (by kernel_rfl) (by kernel_rfl) ?_
  simp only [Act.put, List.setIfInBounds_toArray, List.set_cons_succ, List.set_cons_zero]
  refine sV (.bool true) (u3) (by kernel_rfl) (by kernel_rfl) ?_
  simp only [Act.put, List.setIfInBounds_toArray, List.set_cons_succ, List.set_cons_zero]
  refine sV (.bool true) (u3) (by kernel_rfl) (by kernel_rfl) ?_
  simp only [Act.put, List.setIfInBounds_toArray, List.set_cons_succ, List.set_cons_zero]
  refine sV (.slice (some ⟨u3.heap.size, 0, none⟩) 2 2) (u3.alloc (.cells (nums ([⟨3, 9⟩] : List Vt)).toArray 3)) (by kernel_rfl) (by kernel_rfl) ?_
  simp only [Act.put, List.setIfInBounds_toArray, List.set_cons_succ, List.set_cons_zero]
  obtain ⟨B4, eB4⟩ : ∃ A, u3.heap.size = A := ⟨_, rfl⟩
  have HA4 := WirS.hide (show At (u3.alloc (.cells (nums ([⟨3, 9⟩] : List Vt)).toArray 3)) B4 3 _ from by rw [← eB4]; exact At.new _ _ _)
  have hb : Below u3.heap.size u3 (u3.alloc (.cells (nums ([⟨3, 9⟩] : List Vt)).toArray 3)) := Below.alloc (Below.refl _ _) (Nat.le_refl _) _
  rw [eB4]
  clear eB4
  generalize World.alloc u3 _ = u4 at *
  replace HW := WirS.hide (HW.out.trans (hb.mono HW.out.size))
  replace HV2 := WirS.hide (HV2.out.below hb)
  clear hb
  refine sCx (by kernel_rfl) (by kernel_rfl) (CmN.of_any u4 B4 2 5 ([⟨3, 9⟩] : List Vt) HA4.out (by decide) (by intro x hx; simp at hx; rcases hx with rfl <;> exact ⟨by decide, by decide⟩)) ?_
  rintro e u5 ⟨a5, n5, c5, rfl, ho, _, hb⟩
  refine ⟨_, rfl, ?_⟩
  simp only [Act.put, List.setIfInBounds_toArray, List.set_cons_succ, List.set_cons_zero]
  have HV5 := WirS.hide ho.vin
  clear ho HA4
  replace HW := WirS.hide (HW.out.trans (hb.mono HW.out.size))
  replace HV2 := WirS.hide (HV2.out.below hb)
  clear hb
  refine sV (.slice (some ⟨u5.heap.size, 0, none⟩) 4 4) (u5.alloc (.cells (nums ([⟨0, 7⟩, ⟨3, 9⟩] : List Vt)).toArray 3)) (by kernel_rfl) (by kernel_rfl) ?_
  simp only [Act.put, List.setIfInBounds_toArray, List.set_cons_succ, List.set_cons_zero]
  obtain ⟨B6, eB6⟩ : ∃ A, u5.heap.size = A := ⟨_, rfl⟩
  have HA6 := WirS.hide (show At (u5.alloc (.cells (nums ([⟨0, 7⟩, ⟨3, 9⟩] : List Vt)).toArray 3)) B6 3 _ from by rw [← eB6]; exact At.new _ _ _)
  have hb : Below u5.heap.size u5 (u5.alloc (.cells (nums ([⟨0, 7⟩, ⟨3, 9⟩] : List Vt)).toArray 3)) := Below.alloc (Below.refl _ _) (Nat.le_refl _) _
  rw [eB6]
  clear eB6
  generalize World.alloc u5 _ = u6 at *
  replace HW := WirS.hide (HW.out.trans (hb.mono HW.out.size))
  replace HV2 := WirS.hide (HV2.out.below hb)
  replace HV5 := WirS.hide (HV5.out.below hb)
  clear hb
  refine sCx (by kernel_rfl) (by kernel_rfl) (CmN.of_any u6 B6 4 5 ([⟨0, 7⟩, ⟨3, 9⟩] : List Vt) HA6.out (by decide) (by intro x hx; simp at hx; rcases hx with rfl | rfl <;> exact ⟨by decide, by decide⟩)) ?_
  rintro e u7 ⟨a7, n7, c7, rfl, ho, _, hb⟩
  refine ⟨_, rfl, ?_⟩
  simp only [Act.put, List.setIfInBounds_toArray, List.set_cons_succ, List.set_cons_zero]
  have HV7 := WirS.hide ho.vin
  clear ho HA6
  replace HW := WirS.hide (HW.out.trans (hb.mono HW.out.size))
  replace HV2 := WirS.hide (HV2.out.below hb)
  replace HV5 := WirS.hide (HV5.out.below hb)
  clear hb
  refine sC (R := fun w' => Below u7.heap.size u7 w') (by kernel_rfl) (by kernel_rfl) (adds_any u7 5 5 hh1 hh1 a5 a7 n5 c5 n7 c7 ([⟨0, 7⟩, ⟨3, 9⟩] : List Vt) 0 7 0 rfl rfl HV7.out (by decide) (by decide) (fun U hU => by have C := CmJ.add_any U 5 hh1 a5 n5 c5 ([⟨3, 9⟩] : List Vt) ⟨0, 7⟩ rfl (HV5.out.below hU) (by have := HV5.out.len; simp at this; omega) ⟨by decide, by decide⟩; rw [show addE 5 ([⟨3, 9⟩] : List Vt) ⟨0, 7⟩ = 0 from by kernel_rfl] at C; exact C)) ?_
  rintro u8 hb
  simp only [Act.put, List.setIfInBounds_toArray, List.set_cons_succ, List.set_cons_zero]
  replace HW := WirS.hide (HW.out.trans (hb.mono HW.out.size))
  replace HV2 := WirS.hide (HV2.out.below hb)
  replace HV5 := WirS.hide (HV5.out.below hb)
  replace HV7 := WirS.hide (HV7.out.below hb)
  clear hb
  refine sV (.bool true) (u8) (by kernel_rfl) (by kernel_rfl) ?_
  simp only [Act.put, List.setIfInBounds_toArray, List.set_cons_succ, List.set_cons_zero]
  refine sV (.bool true) (u8) (by kernel_rfl) (by kernel_rfl) ?_
  simp only [Act.put, List.setIfInBounds_toArray, List.set_cons_succ, List.set_cons_zero]
  refine sCx (by kernel_rfl) (by kernel_rfl) (of_nil u8 0) ?_
  rintro e u9 ⟨a9, n9, c9, rfl, ho, _, hb⟩
  refine ⟨_, rfl, ?_⟩
  simp only [Act.put, List.setIfInBounds_toArray, List.set_cons_succ, List.set_cons_zero]
  have HV9 := WirS.hide ho.vin
  clear ho
  replace HW := WirS.hide (HW.out.trans (hb.mono HW.out.size))
  replace HV2 := WirS.hide (HV2.out.below hb)
  replace HV5 := WirS.hide (HV5.out.below hb)
  replace HV7 := WirS.hide (HV7.out.below hb)
  clear hb
  refine sC (R := fun w' => Below u9.heap.size u9 w') (by kernel_rfl) (by kernel_rfl) (by have C := CmB.check_any u9 0 hh1 a9 n9 c9 ([] : List Vt) rfl HV9.out; rw [show chk 0 ([] : List Vt) = 3 from by kernel_rfl] at C; exact C) ?_
  rintro u10 hb
  simp only [Act.put, List.setIfInBounds_toArray, List.set_cons_succ, List.set_cons_zero]
  replace HW := WirS.hide (HW.out.trans (hb.mono HW.out.size))
  replace HV2 := WirS.hide (HV2.out.below hb)
  replace HV5 := WirS.hide (HV5.out.below hb)
  replace HV7 := WirS.hide (HV7.out.below hb)
  replace HV9 := WirS.hide (HV9.out.below hb)
  clear hb
  refine sV (.bool true) (u10) (by kernel_rfl) (by kernel_rfl) ?_
  simp only [Act.put, List.setIfInBounds_toArray, List.set_cons_succ, List.set_cons_zero]
  refine sV (.bool true) (u10) (by kernel_rfl) (by kernel_rfl) ?_
  simp only [Act.put, List.setIfInBounds_toArray, List.set_cons_succ, List.set_cons_zero]
  refine sV (.bool true) (u10) (by kernel_rfl) (by kernel_rfl) ?_
  simp only [Act.put, List.setIfInBounds_toArray, List.set_cons_succ, List.set_cons_zero]
  refine sV (.slice (some ⟨u10.heap.size, 0, none⟩) 2 2) (u10.alloc (.cells (nums ([⟨0, 7⟩] : List Vt)).toArray 3)) (by kernel_rfl) (by kernel_rfl) ?_
  simp only [Act.put, List.setIfInBounds_toArray, List.set_cons_succ, List.set_cons_zero]
  obtain ⟨B11, eB11⟩ : ∃ A, u10.heap.size = A := ⟨_, rfl⟩
  have HA11 := WirS.hide (show At (u10.alloc (.cells (nums ([⟨0, 7⟩] : List Vt)).toArray 3)) B11 3 _ from by rw [← eB11]; exact At.new _ _ _)
  have hb : Below u10.heap.size u10 (u10.alloc (.cells (nums ([⟨0, 7⟩] : List Vt)).toArray 3)) := Below.alloc (Below.refl _ _) (Nat.le_refl _) _
  rw [eB11]
  clear eB11
  generalize World.alloc u10 _ = u11 at *
  replace HW := WirS.hide (HW.out.trans (hb.mono HW.out.size))
  replace HV2 := WirS.hide (HV2.out.below hb)
  replace HV5 := WirS.hide (HV5.out.below hb)
  replace HV7 := WirS.hide (HV7.out.below hb)
  replace HV9 := WirS.hide (HV9.out.below hb)
  clear hb
  refine sCx (by kernel_rfl) (by kernel_rfl) (CmN.of_any u11 B11 2 5 ([⟨0, 7⟩] : List Vt) HA11.out (by decide) (by intro x hx; simp at hx; rcases hx with rfl <;> exact ⟨by decide, by decide⟩)) ?_
  rintro e u12 ⟨a12, n12, c12, rfl, ho, _, hb⟩
  refine ⟨_, rfl, ?_⟩
  simp only [Act.put, List.setIfInBounds_toArray, List.set_cons_succ, List.set_cons_zero]
  have HV12 := WirS.hide ho.vin
  clear ho HA11
  replace HW := WirS.hide (HW.out.trans (hb.mono HW.out.size))
  replace HV2 := WirS.hide (HV2.out.below hb)
  replace HV5 := WirS.hide (HV5.out.below hb)
  replace HV7 := WirS.hide (HV7.out.below hb)
  replace HV9 := WirS.hide (HV9.out.below hb)
  clear hb
  refine sV (.slice (some ⟨u12.heap.size, 0, none⟩) 4 4) (u12.alloc (.cells (nums ([⟨0, 7⟩, ⟨3, 9⟩] : List Vt)).toArray 3)) (by kernel_rfl) (by kernel_rfl) ?_
  simp only [Act.put, List.setIfInBounds_toArray, List.set_cons_succ, List.set_cons_zero]
  obtain ⟨B13, eB13⟩ : ∃ A, u12.heap.size = A := ⟨_, rfl⟩
  have HA13 := WirS.hide (show At (u12.alloc (.cells (nums ([⟨0, 7⟩, ⟨3, 9⟩] : List Vt)).toArray 3)) B13 3 _ from by rw [← eB13]; exact At.new _ _ _)
  have hb : Below u12.heap.size u12 (u12.alloc (.cells (nums ([⟨0, 7⟩, ⟨3, 9⟩] : List Vt)).toArray 3)) := Below.alloc (Below.refl _ _) (Nat.le_refl _) _
  rw [eB13]
  clear eB13
  generalize World.alloc u12 _ = u13 at *
  replace HW := WirS.hide (HW.out.trans (hb.mono HW.out.size))
  replace HV2 := WirS.hide (HV2.out.below hb)
  replace HV5 := WirS.hide (HV5.out.below hb)
  replace HV7 := WirS.hide (HV7.out.below hb)
  replace HV9 := WirS.hide (HV9.out.below hb)
  replace HV12 := WirS.hide (HV12.out.below hb)
  clear hb
  refine sCx (by kernel_rfl) (by kernel_rfl) (CmN.of_any u13 B13 4 5 ([⟨0, 7⟩, ⟨3, 9⟩] : List Vt) HA13.out (by decide) (by intro x hx; simp at hx; rcases hx with rfl | rfl <;> exact ⟨by decide, by decide⟩)) ?_
  rintro e u14 ⟨a14, n14, c14, rfl, ho, _, hb⟩
  refine ⟨_, rfl, ?_⟩
  simp only [Act.put, List.setIfInBounds_toArray, List.set_cons_succ, List.set_cons_zero]
  have HV14 := WirS.hide ho.vin
  clear ho HA13
  replace HW := WirS.hide (HW.out.trans (hb.mono HW.out.size))
  replace HV2 := WirS.hide (HV2.out.below hb)
  replace HV5 := WirS.hide (HV5.out.below hb)
  replace HV7 := WirS.hide (HV7.out.below hb)
  replace HV9 := WirS.hide (HV9.out.below hb)
  replace HV12 := WirS.hide (HV12.out.below hb)
  clear hb
  refine sV (.slice (some ⟨u14.heap.size, 0, none⟩) 4 4) (u14.alloc (.cells (nums ([⟨0, 7⟩, ⟨3, 9⟩] : List Vt)).toArray 3)) (by kernel_rfl) (by kernel_rfl) ?_
  simp only [Act.put, List.setIfInBounds_toArray, List.set_cons_succ, List.set_cons_zero]
  obtain ⟨B15, eB15⟩ : ∃ A, u14.heap.size = A := ⟨_, rfl⟩
  have HA15 := WirS.hide (show At (u14.alloc (.cells (nums ([⟨0, 7⟩, ⟨3, 9⟩] : List Vt)).toArray 3)) B15 3 _ from by rw [← eB15]; exact At.new _ _ _)
  have hb : Below u14.heap.size u14 (u14.alloc (.cells (nums ([⟨0, 7⟩, ⟨3, 9⟩] : List Vt)).toArray 3)) := Below.alloc (Below.refl _ _) (Nat.le_refl _) _
  rw [eB15]
  clear eB15
  generalize World.alloc u14 _ = u15 at *
  replace HW := WirS.hide (HW.out.trans (hb.mono HW.out.size))
  replace HV2 := WirS.hide (HV2.out.below hb)
  replace HV5 := WirS.hide (HV5.out.below hb)
  replace HV7 := WirS.hide (HV7.out.below hb)
  replace HV9 := WirS.hide (HV9.out.below hb)
  replace HV12 := WirS.hide (HV12.out.below hb)
  replace HV14 := WirS.hide (HV14.out.below hb)
  clear hb
  refine sCx (by kernel_rfl) (by kernel_rfl) (CmN.of_any u15 B15 4 5 ([⟨0, 7⟩, ⟨3, 9⟩] : List Vt) HA15.out (by decide) (by intro x hx; simp at hx; rcases hx with rfl | rfl <;> exact ⟨by decide, by decide⟩)) ?_
  rintro e u16 ⟨a16, n16, c16, rfl, ho, _, hb⟩
  refine ⟨_, rfl, ?_⟩
  simp only [Act.put, List.setIfInBounds_toArray, List.set_cons_succ, List.set_cons_zero]
  have HV16 := WirS.hide ho.vin
  clear ho HA15
  replace HW := WirS.hide (HW.out.trans (hb.mono HW.out.size))
  replace HV2 := WirS.hide (HV2.out.below hb)
  replace HV5 := WirS.hide (HV5.out.below hb)
  replace HV7 := WirS.hide (HV7.out.below hb)
  replace HV9 := WirS.hide (HV9.out.below hb)
  replace HV12 := WirS.hide (HV12.out.below hb)
  replace HV14 := WirS.hide (HV14.out.below hb)
  clear hb
  refine sC (R := fun w' => Below u16.heap.size u16 w') (by kernel_rfl) (by kernel_rfl) (joins_any u16 5 5 5 hh1 hh1 hh1 a12 a14 a16 n12 c12 n14 c14 n16 c16 ([⟨0, 7⟩, ⟨3, 9⟩] : List Vt) 0 rfl rfl rfl HV16.out (fun U hU => by have C := CmL.join_any U 5 5 hh1 hh1 a12 a14 n12 c12 n14 c14 ([⟨0, 7⟩] : List Vt) ([⟨0, 7⟩, ⟨3, 9⟩] : List Vt) rfl rfl (HV12.out.below hU) (HV14.out.below hU) (by have := HV12.out.len; simp at this; omega) (by have := HV14.out.len; simp at this; omega); rw [show joinO 5 hh1 ([⟨0, 7⟩] : List Vt) 5 hh1 ([⟨0, 7⟩, ⟨3, 9⟩] : List Vt) = (0, some ([⟨0, 7⟩, ⟨3, 9⟩] : List Vt)) from by kernel_rfl] at C; exact C)) ?_
  rintro u17 hb
  simp only [Act.put, List.setIfInBounds_toArray, List.set_cons_succ, List.set_cons_zero]
  replace HW := WirS.hide (HW.out.trans (hb.mono HW.out.size))
  replace HV2 := WirS.hide (HV2.out.below hb)
  replace HV5 := WirS.hide (HV5.out.below hb)
  replace HV7 := WirS.hide (HV7.out.below hb)
  replace HV9 := WirS.hide (HV9.out.below hb)
  replace HV12 := WirS.hide (HV12.out.below hb)
  replace HV14 := WirS.hide (HV14.out.below hb)
  replace HV16 := WirS.hide (HV16.out.below hb)
  clear hb
  refine sV (.bool true) (u17) (by kernel_rfl) (by kernel_rfl) ?_
  simp only [Act.put, List.setIfInBounds_toArray, List.set_cons_succ, List.set_cons_zero]
  go_wp2_with fail
  go_ret
  exact ⟨rfl, HW.out⟩
end CmQ
end Go.Proofs.Ytplinpbmncccoaa
