/-
  CommitKnown walked.
-/
import Derived.Test.YtplinpbmncccoaaCmS
namespace Go.Proofs.Ytplinpbmncccoaa
namespace CmR
open Go.RowKit
open BlkM WirM WirS CmA CmP CmI CmJ CmL CmO CmQ
open CmB (TV TC ccl ofS)
open CmN (nums hh1)
open WirAB (sCx)
open ValA (Vd VIn)
open CmS (KIn OwnK TK TKE kcells keyAt whoE whoL who_any sk_any)

def ks3 : List Vd := [⟨97, 0, 0, 0, 1⟩, ⟨98, 0, 0, 0, 1⟩, ⟨99, 0, 0, 0, 1⟩]
theorem keys_any (w : World) : Calls Try.prog 84 #[] w fun e w' => ∃ B, e = .returned (.slice (some ⟨B, 0, none⟩) 3 3) ∧ VIn w' (some ⟨B, 0, none⟩) 3 3 ks3 ∧ Below w.heap.size w w' := by
  have hA := At.new w 170 (ValA.cellsL ks3)
  have hV : VIn (w.alloc (.cells (ValA.cellsL ks3).toArray 170)) (some ⟨w.heap.size, 0, none⟩) 3 3 ks3 := ⟨rfl, Nat.le_refl _, by decide, fun _ => ⟨_, 0, rfl, hA.lt, fun i x hx j v hj => by
    rw [hA.cell, show 0 + i * 5 + j = i * 5 + j by omega]
    exact ValA.cellsL_get ks3 i x hx j v hj⟩, fun x hx => by
    simp only [ks3, List.mem_cons, List.not_mem_nil, or_false] at hx
    rcases hx with rfl | rfl | rfl <;> exact ⟨by decide, by decide, by decide, by decide, by decide⟩⟩
  have HV := WirS.hide hV
  clear hV hA
  go_enter Try.func84, Try.ntmps84
  go_wp2_with fail
  go_ret
  exact ⟨_, rfl, HV.out, Below.alloc (Below.refl _ _) (Nat.le_refl _) _⟩
theorem kin_new (w : World) (ks : List (List Int)) (n : Nat) (hn : ks.length = n) (h4 : ∀ k ∈ ks, k.length = 4) (hs : n ≤ 1000) (B : Nat) (hA : At w B TKE (kcells ks)) : KIn w (some ⟨B, 0, none⟩) n n ks := ⟨hn, Nat.le_refl _, by omega, fun _ => ⟨_, 0, rfl, hA.lt, fun i x hx j v hj => by
    rw [hA.cell, show 0 + i * 4 + j = i * 4 + j by omega]
    exact CmS.kcells_get ks h4 i x hx j v hj⟩, h4⟩
set_option maxRecDepth 20000 in
set_option maxHeartbeats 16000000 in
theorem known_any (w : World) : Calls Try.prog 15 #[] w fun e w' => e = .returned (.bool true) ∧ Below w.heap.size w w' := by
  have HW := WirS.hide (Below.refl w.heap.size w)
  go_enter Try.func15, Try.ntmps15
  go_upto_region 1 with fail
  refine wp_region_lit ?_
  refine sCx (by kernel_rfl) (by kernel_rfl) (of_nil w 5) ?_
  rintro e u1 ⟨a1, n1, c1, rfl, ho, _, hb⟩
  refine ⟨_, rfl, ?_⟩
  simp only [Act.put, List.setIfInBounds_toArray, List.set_cons_succ, List.set_cons_zero]
  have HV1 := WirS.hide ho.vin
  clear ho
  replace HW := WirS.hide (HW.out.trans (hb.mono HW.out.size))
  clear hb
  refine sC (R := fun w' => Below u1.heap.size u1 w') (by kernel_rfl) (by kernel_rfl) (by have C := CmB.of_any u1 5 hh1 a1 n1 c1 ([] : List Vt) 0 rfl HV1.out; rw [show ofS 0 ([] : List Vt) = 0 from by kernel_rfl, show (ofV 0 ([] : List Vt)).isSome = false from by kernel_rfl] at C; exact C) ?_
  rintro u2 hb
  simp only [Act.put, List.setIfInBounds_toArray, List.set_cons_succ, List.set_cons_zero]
  replace HW := WirS.hide (HW.out.trans (hb.mono HW.out.size))
  replace HV1 := WirS.hide (HV1.out.below hb)
  clear hb
  refine sV (.tuple #[.int .u64 0, .bool false]) (u2) (by kernel_rfl) (by kernel_rfl) ?_
  simp only [Act.put, List.setIfInBounds_toArray, List.set_cons_succ, List.set_cons_zero]
  refine sV (.int .u64 0) (u2) (by kernel_rfl) (by kernel_rfl) ?_
  simp only [Act.put, List.setIfInBounds_toArray, List.set_cons_succ, List.set_cons_zero]
  refine sV (.bool false) (u2) (by kernel_rfl) (by kernel_rfl) ?_
  simp only [Act.put, List.setIfInBounds_toArray, List.set_cons_succ, List.set_cons_zero]
  go_upto_region 2 with fail
  refine wp_region_lit ?_
  refine sV (.slice (some ⟨u2.heap.size, 0, none⟩) 4 4) (u2.alloc (.cells (nums ([⟨0, 7⟩, ⟨2, 9⟩] : List Vt)).toArray 3)) (by kernel_rfl) (by kernel_rfl) ?_
  simp only [Act.put, List.setIfInBounds_toArray, List.set_cons_succ, List.set_cons_zero]
  obtain ⟨B3, eB3⟩ : ∃ A, u2.heap.size = A := ⟨_, rfl⟩
  have HA3 := WirS.hide (show At (u2.alloc (.cells (nums ([⟨0, 7⟩, ⟨2, 9⟩] : List Vt)).toArray 3)) B3 3 _ from by rw [← eB3]; exact At.new _ _ _)
  have hb : Below u2.heap.size u2 (u2.alloc (.cells (nums ([⟨0, 7⟩, ⟨2, 9⟩] : List Vt)).toArray 3)) := Below.alloc (Below.refl _ _) (Nat.le_refl _) _
  rw [eB3]
  clear eB3
  generalize World.alloc u2 _ = u3 at *
  replace HW := WirS.hide (HW.out.trans (hb.mono HW.out.size))
  replace HV1 := WirS.hide (HV1.out.below hb)
  clear hb
  refine sCx (by kernel_rfl) (by kernel_rfl) (CmN.of_any u3 B3 4 5 ([⟨0, 7⟩, ⟨2, 9⟩] : List Vt) HA3.out (by decide) (by intro x hx; simp at hx; rcases hx with rfl | rfl <;> exact ⟨by decide, by decide⟩)) ?_
  rintro e u4 ⟨a4, n4, c4, rfl, ho, _, hb⟩
  refine ⟨_, rfl, ?_⟩
  simp only [Act.put, List.setIfInBounds_toArray, List.set_cons_succ, List.set_cons_zero]
  have HV4 := WirS.hide ho.vin
  clear ho HA3
  replace HW := WirS.hide (HW.out.trans (hb.mono HW.out.size))
  replace HV1 := WirS.hide (HV1.out.below hb)
  clear hb
  refine sCx (by kernel_rfl) (by kernel_rfl) (keys_any u4) ?_
  rintro e u5 ⟨K5, rfl, hv, hb⟩
  refine ⟨_, rfl, ?_⟩
  simp only [Act.put, List.setIfInBounds_toArray, List.set_cons_succ, List.set_cons_zero]
  have HK5 := WirS.hide hv
  clear hv
  replace HW := WirS.hide (HW.out.trans (hb.mono HW.out.size))
  replace HV1 := WirS.hide (HV1.out.below hb)
  replace HV4 := WirS.hide (HV4.out.below hb)
  clear hb
  refine sCx (R := CmS.WP u5 0 ([[97, 0, 0, 0], [99, 0, 0, 0]] : List (List Int))) (by kernel_rfl) (by kernel_rfl) (by have C := who_any u5 5 hh1 a4 (some ⟨K5, 0, none⟩) n4 c4 3 3 ([⟨0, 7⟩, ⟨2, 9⟩] : List Vt) ks3 rfl HV4.out HK5.out (by decide); rw [show whoE 5 ([⟨0, 7⟩, ⟨2, 9⟩] : List Vt) 3 = 0 from by kernel_rfl, show whoL 5 ([⟨0, 7⟩, ⟨2, 9⟩] : List Vt) ks3 = ([[97, 0, 0, 0], [99, 0, 0, 0]] : List (List Int)) from by kernel_rfl] at C; exact C) ?_
  rintro e u6 ⟨wa6, wn6, wc6, rfl, ho, _, hb⟩
  refine ⟨_, rfl, ?_⟩
  simp only [Act.put, List.setIfInBounds_toArray, List.set_cons_succ, List.set_cons_zero]
  have HO6 := WirS.hide ho.kin
  clear ho
  replace HW := WirS.hide (HW.out.trans (hb.mono HW.out.size))
  replace HV1 := WirS.hide (HV1.out.below hb)
  replace HV4 := WirS.hide (HV4.out.below hb)
  replace HK5 := WirS.hide (HK5.out.below hb)
  clear hb
  refine sV (.tuple #[.slice wa6 wn6 wc6, .int .i64 0]) (u6) (by kernel_rfl) (by kernel_rfl) ?_
  simp only [Act.put, List.setIfInBounds_toArray, List.set_cons_succ, List.set_cons_zero]
  refine sV (.slice wa6 wn6 wc6) (u6) (by kernel_rfl) (by kernel_rfl) ?_
  simp only [Act.put, List.setIfInBounds_toArray, List.set_cons_succ, List.set_cons_zero]
  refine sV (.int .i64 0) (u6) (by kernel_rfl) (by kernel_rfl) ?_
  simp only [Act.put, List.setIfInBounds_toArray, List.set_cons_succ, List.set_cons_zero]
  go_upto_region 3 with fail
  refine wp_region_lit ?_
  refine sV (.slice (some ⟨u6.heap.size, 0, none⟩) 2 2) (u6.alloc (.cells (nums ([⟨3, 9⟩] : List Vt)).toArray 3)) (by kernel_rfl) (by kernel_rfl) ?_
  simp only [Act.put, List.setIfInBounds_toArray, List.set_cons_succ, List.set_cons_zero]
  obtain ⟨B7, eB7⟩ : ∃ A, u6.heap.size = A := ⟨_, rfl⟩
  have HA7 := WirS.hide (show At (u6.alloc (.cells (nums ([⟨3, 9⟩] : List Vt)).toArray 3)) B7 3 _ from by rw [← eB7]; exact At.new _ _ _)
  have hb : Below u6.heap.size u6 (u6.alloc (.cells (nums ([⟨3, 9⟩] : List Vt)).toArray 3)) := Below.alloc (Below.refl _ _) (Nat.le_refl _) _
  rw [eB7]
  clear eB7
  generalize World.alloc u6 _ = u7 at *
  replace HW := WirS.hide (HW.out.trans (hb.mono HW.out.size))
  replace HV1 := WirS.hide (HV1.out.below hb)
  replace HV4 := WirS.hide (HV4.out.below hb)
  replace HK5 := WirS.hide (HK5.out.below hb)
  replace HO6 := WirS.hide (HO6.out.below hb)
  clear hb
  refine sCx (by kernel_rfl) (by kernel_rfl) (CmN.of_any u7 B7 2 5 ([⟨3, 9⟩] : List Vt) HA7.out (by decide) (by intro x hx; simp at hx; rcases hx with rfl <;> exact ⟨by decide, by decide⟩)) ?_
  rintro e u8 ⟨a8, n8, c8, rfl, ho, _, hb⟩
  refine ⟨_, rfl, ?_⟩
  simp only [Act.put, List.setIfInBounds_toArray, List.set_cons_succ, List.set_cons_zero]
  have HV8 := WirS.hide ho.vin
  clear ho HA7
  replace HW := WirS.hide (HW.out.trans (hb.mono HW.out.size))
  replace HV1 := WirS.hide (HV1.out.below hb)
  replace HV4 := WirS.hide (HV4.out.below hb)
  replace HK5 := WirS.hide (HK5.out.below hb)
  replace HO6 := WirS.hide (HO6.out.below hb)
  clear hb
  refine sCx (by kernel_rfl) (by kernel_rfl) (keys_any u8) ?_
  rintro e u9 ⟨K9, rfl, hv, hb⟩
  refine ⟨_, rfl, ?_⟩
  simp only [Act.put, List.setIfInBounds_toArray, List.set_cons_succ, List.set_cons_zero]
  have HK9 := WirS.hide hv
  clear hv
  replace HW := WirS.hide (HW.out.trans (hb.mono HW.out.size))
  replace HV1 := WirS.hide (HV1.out.below hb)
  replace HV4 := WirS.hide (HV4.out.below hb)
  replace HK5 := WirS.hide (HK5.out.below hb)
  replace HO6 := WirS.hide (HO6.out.below hb)
  replace HV8 := WirS.hide (HV8.out.below hb)
  clear hb
  refine sCx (R := CmS.WP u9 3 ([] : List (List Int))) (by kernel_rfl) (by kernel_rfl) (by have C := who_any u9 5 hh1 a8 (some ⟨K9, 0, none⟩) n8 c8 3 3 ([⟨3, 9⟩] : List Vt) ks3 rfl HV8.out HK9.out (by decide); rw [show whoE 5 ([⟨3, 9⟩] : List Vt) 3 = 3 from by kernel_rfl, show whoL 5 ([⟨3, 9⟩] : List Vt) ks3 = ([] : List (List Int)) from by kernel_rfl] at C; exact C) ?_
  rintro e u10 ⟨wa10, wn10, wc10, rfl, ho, _, hb⟩
  refine ⟨_, rfl, ?_⟩
  simp only [Act.put, List.setIfInBounds_toArray, List.set_cons_succ, List.set_cons_zero]
  have HO10 := WirS.hide ho.kin
  clear ho
  replace HW := WirS.hide (HW.out.trans (hb.mono HW.out.size))
  replace HV1 := WirS.hide (HV1.out.below hb)
  replace HV4 := WirS.hide (HV4.out.below hb)
  replace HK5 := WirS.hide (HK5.out.below hb)
  replace HO6 := WirS.hide (HO6.out.below hb)
  replace HV8 := WirS.hide (HV8.out.below hb)
  replace HK9 := WirS.hide (HK9.out.below hb)
  clear hb
  refine sV (.tuple #[.slice wa10 wn10 wc10, .int .i64 3]) (u10) (by kernel_rfl) (by kernel_rfl) ?_
  simp only [Act.put, List.setIfInBounds_toArray, List.set_cons_succ, List.set_cons_zero]
  refine sV (.slice wa10 wn10 wc10) (u10) (by kernel_rfl) (by kernel_rfl) ?_
  simp only [Act.put, List.setIfInBounds_toArray, List.set_cons_succ, List.set_cons_zero]
  refine sV (.int .i64 3) (u10) (by kernel_rfl) (by kernel_rfl) ?_
  simp only [Act.put, List.setIfInBounds_toArray, List.set_cons_succ, List.set_cons_zero]
  go_upto_region 4 with fail
  refine wp_region_lit ?_
  refine sV (.slice (some ⟨u10.heap.size, 0, none⟩) 4 4) (u10.alloc (.cells (nums ([⟨0, 7⟩, ⟨3, 9⟩] : List Vt)).toArray 3)) (by kernel_rfl) (by kernel_rfl) ?_
  simp only [Act.put, List.setIfInBounds_toArray, List.set_cons_succ, List.set_cons_zero]
  obtain ⟨B11, eB11⟩ : ∃ A, u10.heap.size = A := ⟨_, rfl⟩
  have HA11 := WirS.hide (show At (u10.alloc (.cells (nums ([⟨0, 7⟩, ⟨3, 9⟩] : List Vt)).toArray 3)) B11 3 _ from by rw [← eB11]; exact At.new _ _ _)
  have hb : Below u10.heap.size u10 (u10.alloc (.cells (nums ([⟨0, 7⟩, ⟨3, 9⟩] : List Vt)).toArray 3)) := Below.alloc (Below.refl _ _) (Nat.le_refl _) _
  rw [eB11]
  clear eB11
  generalize World.alloc u10 _ = u11 at *
  replace HW := WirS.hide (HW.out.trans (hb.mono HW.out.size))
  replace HV1 := WirS.hide (HV1.out.below hb)
  replace HV4 := WirS.hide (HV4.out.below hb)
  replace HK5 := WirS.hide (HK5.out.below hb)
  replace HO6 := WirS.hide (HO6.out.below hb)
  replace HV8 := WirS.hide (HV8.out.below hb)
  replace HK9 := WirS.hide (HK9.out.below hb)
  replace HO10 := WirS.hide (HO10.out.below hb)
  clear hb
  refine sCx (by kernel_rfl) (by kernel_rfl) (CmN.of_any u11 B11 4 5 ([⟨0, 7⟩, ⟨3, 9⟩] : List Vt) HA11.out (by decide) (by intro x hx; simp at hx; rcases hx with rfl | rfl <;> exact ⟨by decide, by decide⟩)) ?_
  rintro e u12 ⟨a12, n12, c12, rfl, ho, _, hb⟩
  refine ⟨_, rfl, ?_⟩
  simp only [Act.put, List.setIfInBounds_toArray, List.set_cons_succ, List.set_cons_zero]
  have HV12 := WirS.hide ho.vin
  clear ho HA11
  replace HW := WirS.hide (HW.out.trans (hb.mono HW.out.size))
  replace HV1 := WirS.hide (HV1.out.below hb)
  replace HV4 := WirS.hide (HV4.out.below hb)
  replace HK5 := WirS.hide (HK5.out.below hb)
  replace HO6 := WirS.hide (HO6.out.below hb)
  replace HV8 := WirS.hide (HV8.out.below hb)
  replace HK9 := WirS.hide (HK9.out.below hb)
  replace HO10 := WirS.hide (HO10.out.below hb)
  clear hb
  refine sC (R := fun w' => Below u12.heap.size u12 w') (by kernel_rfl) (by kernel_rfl) (by have C := CmB.check_any u12 5 hh1 a12 n12 c12 ([⟨0, 7⟩, ⟨3, 9⟩] : List Vt) rfl HV12.out; rw [show chk 5 ([⟨0, 7⟩, ⟨3, 9⟩] : List Vt) = 0 from by kernel_rfl] at C; exact C) ?_
  rintro u13 hb
  simp only [Act.put, List.setIfInBounds_toArray, List.set_cons_succ, List.set_cons_zero]
  replace HW := WirS.hide (HW.out.trans (hb.mono HW.out.size))
  replace HV1 := WirS.hide (HV1.out.below hb)
  replace HV4 := WirS.hide (HV4.out.below hb)
  replace HK5 := WirS.hide (HK5.out.below hb)
  replace HO6 := WirS.hide (HO6.out.below hb)
  replace HV8 := WirS.hide (HV8.out.below hb)
  replace HK9 := WirS.hide (HK9.out.below hb)
  replace HO10 := WirS.hide (HO10.out.below hb)
  replace HV12 := WirS.hide (HV12.out.below hb)
  clear hb
  refine sV (.bool true) (u13) (by kernel_rfl) (by kernel_rfl) ?_
  simp only [Act.put, List.setIfInBounds_toArray, List.set_cons_succ, List.set_cons_zero]
  refine sV (.bool true) (u13) (by kernel_rfl) (by kernel_rfl) ?_
  simp only [Act.put, List.setIfInBounds_toArray, List.set_cons_succ, List.set_cons_zero]
  refine sV (.slice (some ⟨u13.heap.size, 0, none⟩) 4 4) (u13.alloc (.cells (nums ([⟨3, 1⟩, ⟨3, 1⟩] : List Vt)).toArray 3)) (by kernel_rfl) (by kernel_rfl) ?_
  simp only [Act.put, List.setIfInBounds_toArray, List.set_cons_succ, List.set_cons_zero]
  obtain ⟨B14, eB14⟩ : ∃ A, u13.heap.size = A := ⟨_, rfl⟩
  have HA14 := WirS.hide (show At (u13.alloc (.cells (nums ([⟨3, 1⟩, ⟨3, 1⟩] : List Vt)).toArray 3)) B14 3 _ from by rw [← eB14]; exact At.new _ _ _)
  have hb : Below u13.heap.size u13 (u13.alloc (.cells (nums ([⟨3, 1⟩, ⟨3, 1⟩] : List Vt)).toArray 3)) := Below.alloc (Below.refl _ _) (Nat.le_refl _) _
  rw [eB14]
  clear eB14
  generalize World.alloc u13 _ = u14 at *
  replace HW := WirS.hide (HW.out.trans (hb.mono HW.out.size))
  replace HV1 := WirS.hide (HV1.out.below hb)
  replace HV4 := WirS.hide (HV4.out.below hb)
  replace HK5 := WirS.hide (HK5.out.below hb)
  replace HO6 := WirS.hide (HO6.out.below hb)
  replace HV8 := WirS.hide (HV8.out.below hb)
  replace HK9 := WirS.hide (HK9.out.below hb)
  replace HO10 := WirS.hide (HO10.out.below hb)
  replace HV12 := WirS.hide (HV12.out.below hb)
  clear hb
  refine sCx (by kernel_rfl) (by kernel_rfl) (CmN.of_any u14 B14 4 5 ([⟨3, 1⟩, ⟨3, 1⟩] : List Vt) HA14.out (by decide) (by intro x hx; simp at hx; rcases hx with rfl | rfl <;> exact ⟨by decide, by decide⟩)) ?_
  rintro e u15 ⟨a15, n15, c15, rfl, ho, _, hb⟩
  refine ⟨_, rfl, ?_⟩
  simp only [Act.put, List.setIfInBounds_toArray, List.set_cons_succ, List.set_cons_zero]
  have HV15 := WirS.hide ho.vin
  clear ho HA14
  replace HW := WirS.hide (HW.out.trans (hb.mono HW.out.size))
  replace HV1 := WirS.hide (HV1.out.below hb)
  replace HV4 := WirS.hide (HV4.out.below hb)
  replace HK5 := WirS.hide (HK5.out.below hb)
  replace HO6 := WirS.hide (HO6.out.below hb)
  replace HV8 := WirS.hide (HV8.out.below hb)
  replace HK9 := WirS.hide (HK9.out.below hb)
  replace HO10 := WirS.hide (HO10.out.below hb)
  replace HV12 := WirS.hide (HV12.out.below hb)
  clear hb
  refine sC (R := fun w' => Below u15.heap.size u15 w') (by kernel_rfl) (by kernel_rfl) (by have C := CmB.check_any u15 5 hh1 a15 n15 c15 ([⟨3, 1⟩, ⟨3, 1⟩] : List Vt) rfl HV15.out; rw [show chk 5 ([⟨3, 1⟩, ⟨3, 1⟩] : List Vt) = 9 from by kernel_rfl] at C; exact C) ?_
  rintro u16 hb
  simp only [Act.put, List.setIfInBounds_toArray, List.set_cons_succ, List.set_cons_zero]
  replace HW := WirS.hide (HW.out.trans (hb.mono HW.out.size))
  replace HV1 := WirS.hide (HV1.out.below hb)
  replace HV4 := WirS.hide (HV4.out.below hb)
  replace HK5 := WirS.hide (HK5.out.below hb)
  replace HO6 := WirS.hide (HO6.out.below hb)
  replace HV8 := WirS.hide (HV8.out.below hb)
  replace HK9 := WirS.hide (HK9.out.below hb)
  replace HO10 := WirS.hide (HO10.out.below hb)
  replace HV12 := WirS.hide (HV12.out.below hb)
  replace HV15 := WirS.hide (HV15.out.below hb)
  clear hb
  refine sV (.bool true) (u16) (by kernel_rfl) (by kernel_rfl) ?_
  simp only [Act.put, List.setIfInBounds_toArray, List.set_cons_succ, List.set_cons_zero]
  refine sV (.bool true) (u16) (by kernel_rfl) (by kernel_rfl) ?_
  simp only [Act.put, List.setIfInBounds_toArray, List.set_cons_succ, List.set_cons_zero]
  refine sV (.bool true) (u16) (by kernel_rfl) (by kernel_rfl) ?_
  simp only [Act.put, List.setIfInBounds_toArray, List.set_cons_succ, List.set_cons_zero]
  refine sV (.slice (some ⟨u16.heap.size, 0, none⟩) 2 2) (u16.alloc (.cells (nums ([⟨64, 1⟩] : List Vt)).toArray 3)) (by kernel_rfl) (by kernel_rfl) ?_
  simp only [Act.put, List.setIfInBounds_toArray, List.set_cons_succ, List.set_cons_zero]
  obtain ⟨B17, eB17⟩ : ∃ A, u16.heap.size = A := ⟨_, rfl⟩
  have HA17 := WirS.hide (show At (u16.alloc (.cells (nums ([⟨64, 1⟩] : List Vt)).toArray 3)) B17 3 _ from by rw [← eB17]; exact At.new _ _ _)
  have hb : Below u16.heap.size u16 (u16.alloc (.cells (nums ([⟨64, 1⟩] : List Vt)).toArray 3)) := Below.alloc (Below.refl _ _) (Nat.le_refl _) _
  rw [eB17]
  clear eB17
  generalize World.alloc u16 _ = u17 at *
  replace HW := WirS.hide (HW.out.trans (hb.mono HW.out.size))
  replace HV1 := WirS.hide (HV1.out.below hb)
  replace HV4 := WirS.hide (HV4.out.below hb)
  replace HK5 := WirS.hide (HK5.out.below hb)
  replace HO6 := WirS.hide (HO6.out.below hb)
  replace HV8 := WirS.hide (HV8.out.below hb)
  replace HK9 := WirS.hide (HK9.out.below hb)
  replace HO10 := WirS.hide (HO10.out.below hb)
  replace HV12 := WirS.hide (HV12.out.below hb)
  replace HV15 := WirS.hide (HV15.out.below hb)
  clear hb
  refine sCx (by kernel_rfl) (by kernel_rfl) (CmN.of_any u17 B17 2 5 ([⟨64, 1⟩] : List Vt) HA17.out (by decide) (by intro x hx; simp at hx; rcases hx with rfl <;> exact ⟨by decide, by decide⟩)) ?_
  rintro e u18 ⟨a18, n18, c18, rfl, ho, _, hb⟩
  refine ⟨_, rfl, ?_⟩
  simp only [Act.put, List.setIfInBounds_toArray, List.set_cons_succ, List.set_cons_zero]
  have HV18 := WirS.hide ho.vin
  clear ho HA17
  replace HW := WirS.hide (HW.out.trans (hb.mono HW.out.size))
  replace HV1 := WirS.hide (HV1.out.below hb)
  replace HV4 := WirS.hide (HV4.out.below hb)
  replace HK5 := WirS.hide (HK5.out.below hb)
  replace HO6 := WirS.hide (HO6.out.below hb)
  replace HV8 := WirS.hide (HV8.out.below hb)
  replace HK9 := WirS.hide (HK9.out.below hb)
  replace HO10 := WirS.hide (HO10.out.below hb)
  replace HV12 := WirS.hide (HV12.out.below hb)
  replace HV15 := WirS.hide (HV15.out.below hb)
  clear hb
  refine sC (R := fun w' => Below u18.heap.size u18 w') (by kernel_rfl) (by kernel_rfl) (by have C := CmB.check_any u18 5 hh1 a18 n18 c18 ([⟨64, 1⟩] : List Vt) rfl HV18.out; rw [show chk 5 ([⟨64, 1⟩] : List Vt) = 3 from by kernel_rfl] at C; exact C) ?_
  rintro u19 hb
  simp only [Act.put, List.setIfInBounds_toArray, List.set_cons_succ, List.set_cons_zero]
  replace HW := WirS.hide (HW.out.trans (hb.mono HW.out.size))
  replace HV1 := WirS.hide (HV1.out.below hb)
  replace HV4 := WirS.hide (HV4.out.below hb)
  replace HK5 := WirS.hide (HK5.out.below hb)
  replace HO6 := WirS.hide (HO6.out.below hb)
  replace HV8 := WirS.hide (HV8.out.below hb)
  replace HK9 := WirS.hide (HK9.out.below hb)
  replace HO10 := WirS.hide (HO10.out.below hb)
  replace HV12 := WirS.hide (HV12.out.below hb)
  replace HV15 := WirS.hide (HV15.out.below hb)
  replace HV18 := WirS.hide (HV18.out.below hb)
  clear hb
  refine sV (.bool true) (u19) (by kernel_rfl) (by kernel_rfl) ?_
  simp only [Act.put, List.setIfInBounds_toArray, List.set_cons_succ, List.set_cons_zero]
  refine sV (.bool true) (u19) (by kernel_rfl) (by kernel_rfl) ?_
  simp only [Act.put, List.setIfInBounds_toArray, List.set_cons_succ, List.set_cons_zero]
  refine sV (.bool true) (u19) (by kernel_rfl) (by kernel_rfl) ?_
  simp only [Act.put, List.setIfInBounds_toArray, List.set_cons_succ, List.set_cons_zero]
  refine sV (.bool false) (u19) (by kernel_rfl) (by kernel_rfl) ?_
  simp only [Act.put, List.setIfInBounds_toArray, List.set_cons_succ, List.set_cons_zero]
  refine sV (.bool true) (u19) (by kernel_rfl) (by kernel_rfl) ?_
  simp only [Act.put, List.setIfInBounds_toArray, List.set_cons_succ, List.set_cons_zero]
  refine sV (.bool true) (u19) (by kernel_rfl) (by kernel_rfl) ?_
  simp only [Act.put, List.setIfInBounds_toArray, List.set_cons_succ, List.set_cons_zero]
  go_upto_region 5 with fail
  refine wp_region_lit ?_
  refine sV (.slice (some ⟨u19.heap.size, 0, none⟩) 2 2) (u19.alloc (.cells (nums ([⟨3, 9⟩] : List Vt)).toArray 3)) (by kernel_rfl) (by kernel_rfl) ?_
  simp only [Act.put, List.setIfInBounds_toArray, List.set_cons_succ, List.set_cons_zero]
  obtain ⟨B20, eB20⟩ : ∃ A, u19.heap.size = A := ⟨_, rfl⟩
  have HA20 := WirS.hide (show At (u19.alloc (.cells (nums ([⟨3, 9⟩] : List Vt)).toArray 3)) B20 3 _ from by rw [← eB20]; exact At.new _ _ _)
  have hb : Below u19.heap.size u19 (u19.alloc (.cells (nums ([⟨3, 9⟩] : List Vt)).toArray 3)) := Below.alloc (Below.refl _ _) (Nat.le_refl _) _
  rw [eB20]
  clear eB20
  generalize World.alloc u19 _ = u20 at *
  replace HW := WirS.hide (HW.out.trans (hb.mono HW.out.size))
  replace HV1 := WirS.hide (HV1.out.below hb)
  replace HV4 := WirS.hide (HV4.out.below hb)
  replace HK5 := WirS.hide (HK5.out.below hb)
  replace HO6 := WirS.hide (HO6.out.below hb)
  replace HV8 := WirS.hide (HV8.out.below hb)
  replace HK9 := WirS.hide (HK9.out.below hb)
  replace HO10 := WirS.hide (HO10.out.below hb)
  replace HV12 := WirS.hide (HV12.out.below hb)
  replace HV15 := WirS.hide (HV15.out.below hb)
  replace HV18 := WirS.hide (HV18.out.below hb)
  clear hb
  refine sCx (by kernel_rfl) (by kernel_rfl) (CmN.of_any u20 B20 2 5 ([⟨3, 9⟩] : List Vt) HA20.out (by decide) (by intro x hx; simp at hx; rcases hx with rfl <;> exact ⟨by decide, by decide⟩)) ?_
  rintro e u21 ⟨a21, n21, c21, rfl, ho, _, hb⟩
  refine ⟨_, rfl, ?_⟩
  simp only [Act.put, List.setIfInBounds_toArray, List.set_cons_succ, List.set_cons_zero]
  have HV21 := WirS.hide ho.vin
  clear ho HA20
  replace HW := WirS.hide (HW.out.trans (hb.mono HW.out.size))
  replace HV1 := WirS.hide (HV1.out.below hb)
  replace HV4 := WirS.hide (HV4.out.below hb)
  replace HK5 := WirS.hide (HK5.out.below hb)
  replace HO6 := WirS.hide (HO6.out.below hb)
  replace HV8 := WirS.hide (HV8.out.below hb)
  replace HK9 := WirS.hide (HK9.out.below hb)
  replace HO10 := WirS.hide (HO10.out.below hb)
  replace HV12 := WirS.hide (HV12.out.below hb)
  replace HV15 := WirS.hide (HV15.out.below hb)
  replace HV18 := WirS.hide (HV18.out.below hb)
  clear hb
  refine sV (.agg zcm.toArray) (u21) (by kernel_rfl) (by kernel_rfl) ?_
  simp only [Act.put, List.setIfInBounds_toArray, List.set_cons_succ, List.set_cons_zero]
  have HV22 := WirS.hide (VtIn.nil u21 none 0 (by decide))
  refine sC (R := fun w' => Below u21.heap.size u21 w') (by kernel_rfl) (by kernel_rfl) (adds_any u21 5 0 hh1 z32 a21 none n21 c21 0 0 ([] : List Vt) 3 9 8 rfl rfl HV22.out (by decide) (by decide) (fun U hU => by have C := CmJ.add_any U 5 hh1 a21 n21 c21 ([⟨3, 9⟩] : List Vt) ⟨3, 9⟩ rfl (HV21.out.below hU) (by have := HV21.out.len; simp at this; omega) ⟨by decide, by decide⟩; rw [show addE 5 ([⟨3, 9⟩] : List Vt) ⟨3, 9⟩ = 8 from by kernel_rfl] at C; exact C)) ?_
  rintro u23 hb
  simp only [Act.put, List.setIfInBounds_toArray, List.set_cons_succ, List.set_cons_zero]
  replace HW := WirS.hide (HW.out.trans (hb.mono HW.out.size))
  replace HV1 := WirS.hide (HV1.out.below hb)
  replace HV4 := WirS.hide (HV4.out.below hb)
  replace HK5 := WirS.hide (HK5.out.below hb)
  replace HO6 := WirS.hide (HO6.out.below hb)
  replace HV8 := WirS.hide (HV8.out.below hb)
  replace HK9 := WirS.hide (HK9.out.below hb)
  replace HO10 := WirS.hide (HO10.out.below hb)
  replace HV12 := WirS.hide (HV12.out.below hb)
  replace HV15 := WirS.hide (HV15.out.below hb)
  replace HV18 := WirS.hide (HV18.out.below hb)
  replace HV21 := WirS.hide (HV21.out.below hb)
  replace HV22 := WirS.hide (HV22.out.below hb)
  clear hb
  refine sV (.bool true) (u23) (by kernel_rfl) (by kernel_rfl) ?_
  simp only [Act.put, List.setIfInBounds_toArray, List.set_cons_succ, List.set_cons_zero]
  refine sCx (by kernel_rfl) (by kernel_rfl) (of_nil u23 5) ?_
  rintro e u24 ⟨a24, n24, c24, rfl, ho, _, hb⟩
  refine ⟨_, rfl, ?_⟩
  simp only [Act.put, List.setIfInBounds_toArray, List.set_cons_succ, List.set_cons_zero]
  have HV24 := WirS.hide ho.vin
  clear ho
  replace HW := WirS.hide (HW.out.trans (hb.mono HW.out.size))
  replace HV1 := WirS.hide (HV1.out.below hb)
  replace HV4 := WirS.hide (HV4.out.below hb)
  replace HK5 := WirS.hide (HK5.out.below hb)
  replace HO6 := WirS.hide (HO6.out.below hb)
  replace HV8 := WirS.hide (HV8.out.below hb)
  replace HK9 := WirS.hide (HK9.out.below hb)
  replace HO10 := WirS.hide (HO10.out.below hb)
  replace HV12 := WirS.hide (HV12.out.below hb)
  replace HV15 := WirS.hide (HV15.out.below hb)
  replace HV18 := WirS.hide (HV18.out.below hb)
  replace HV21 := WirS.hide (HV21.out.below hb)
  replace HV22 := WirS.hide (HV22.out.below hb)
  clear hb
  refine sV (.agg zcm.toArray) (u24) (by kernel_rfl) (by kernel_rfl) ?_
  simp only [Act.put, List.setIfInBounds_toArray, List.set_cons_succ, List.set_cons_zero]
  have HV25 := WirS.hide (VtIn.nil u24 none 0 (by decide))
  refine sC (R := fun w' => Below u24.heap.size u24 w') (by kernel_rfl) (by kernel_rfl) (adds_any u24 5 0 hh1 z32 a24 none n24 c24 0 0 ([] : List Vt) (-1) 1 3 rfl rfl HV25.out (by decide) (by decide) (fun U hU => by have C := CmJ.add_any U 5 hh1 a24 n24 c24 ([] : List Vt) ⟨(-1), 1⟩ rfl (HV24.out.below hU) (by have := HV24.out.len; simp at this; omega) ⟨by decide, by decide⟩; rw [show addE 5 ([] : List Vt) ⟨(-1), 1⟩ = 3 from by kernel_rfl] at C; exact C)) ?_
  rintro u26 hb
  simp only [Act.put, List.setIfInBounds_toArray, List.set_cons_succ, List.set_cons_zero]
  replace HW := WirS.hide (HW.out.trans (hb.mono HW.out.size))
  replace HV1 := WirS.hide (HV1.out.below hb)
  replace HV4 := WirS.hide (HV4.out.below hb)
  replace HK5 := WirS.hide (HK5.out.below hb)
  replace HO6 := WirS.hide (HO6.out.below hb)
  replace HV8 := WirS.hide (HV8.out.below hb)
  replace HK9 := WirS.hide (HK9.out.below hb)
  replace HO10 := WirS.hide (HO10.out.below hb)
  replace HV12 := WirS.hide (HV12.out.below hb)
  replace HV15 := WirS.hide (HV15.out.below hb)
  replace HV18 := WirS.hide (HV18.out.below hb)
  replace HV21 := WirS.hide (HV21.out.below hb)
  replace HV22 := WirS.hide (HV22.out.below hb)
  replace HV24 := WirS.hide (HV24.out.below hb)
  replace HV25 := WirS.hide (HV25.out.below hb)
  clear hb
  refine sV (.bool true) (u26) (by kernel_rfl) (by kernel_rfl) ?_
  simp only [Act.put, List.setIfInBounds_toArray, List.set_cons_succ, List.set_cons_zero]
  refine sV (.bool true) (u26) (by kernel_rfl) (by kernel_rfl) ?_
  simp only [Act.put, List.setIfInBounds_toArray, List.set_cons_succ, List.set_cons_zero]
  refine sV (.int .i64 0) (u26) (by kernel_rfl) (by kernel_rfl) ?_
  simp only [Act.put, List.setIfInBounds_toArray, List.set_cons_succ, List.set_cons_zero]
  refine sV (.bool true) (u26) (by kernel_rfl) (by kernel_rfl) ?_
  simp only [Act.put, List.setIfInBounds_toArray, List.set_cons_succ, List.set_cons_zero]
  refine sV (.bool true) (u26) (by kernel_rfl) (by kernel_rfl) ?_
  simp only [Act.put, List.setIfInBounds_toArray, List.set_cons_succ, List.set_cons_zero]
  refine sV (.bool true) (u26) (by kernel_rfl) (by kernel_rfl) ?_
  simp only [Act.put, List.setIfInBounds_toArray, List.set_cons_succ, List.set_cons_zero]
  have hn2 : wn6 = 2 := by have := HO6.out.len; simpa using this.symm
  subst hn2
  refine sV (.slice wa6 2 wc6) (u26) (by kernel_rfl) (by kernel_rfl) ?_
  simp only [Act.put, List.setIfInBounds_toArray, List.set_cons_succ, List.set_cons_zero]
  refine sV (.agg (b8 [97, 0, 0, 0]).toArray) (u26) (by kernel_rfl) (by kernel_rfl) ?_
  simp only [Act.put, List.setIfInBounds_toArray, List.set_cons_succ, List.set_cons_zero]
  refine sV (.agg (b8 [99, 0, 0, 0]).toArray) (u26) (by kernel_rfl) (by kernel_rfl) ?_
  simp only [Act.put, List.setIfInBounds_toArray, List.set_cons_succ, List.set_cons_zero]
  refine sV (.slice (some ⟨u26.heap.size, 0, none⟩) 2 2) (u26.alloc (.cells (kcells [[97, 0, 0, 0], [99, 0, 0, 0]]).toArray TKE)) (by kernel_rfl) (by kernel_rfl) ?_
  simp only [Act.put, List.setIfInBounds_toArray, List.set_cons_succ, List.set_cons_zero]
  obtain ⟨B27, eB27⟩ : ∃ A, u26.heap.size = A := ⟨_, rfl⟩
  have HA27 := WirS.hide (show At (u26.alloc (.cells (kcells [[97, 0, 0, 0], [99, 0, 0, 0]]).toArray TKE)) B27 TKE _ from by rw [← eB27]; exact At.new _ _ _)
  have hb : Below u26.heap.size u26 (u26.alloc (.cells (kcells [[97, 0, 0, 0], [99, 0, 0, 0]]).toArray TKE)) := Below.alloc (Below.refl _ _) (Nat.le_refl _) _
  rw [eB27]
  clear eB27
  generalize World.alloc u26 _ = u27 at *
  replace HW := WirS.hide (HW.out.trans (hb.mono HW.out.size))
  replace HV1 := WirS.hide (HV1.out.below hb)
  replace HV4 := WirS.hide (HV4.out.below hb)
  replace HK5 := WirS.hide (HK5.out.below hb)
  replace HO6 := WirS.hide (HO6.out.below hb)
  replace HV8 := WirS.hide (HV8.out.below hb)
  replace HK9 := WirS.hide (HK9.out.below hb)
  replace HO10 := WirS.hide (HO10.out.below hb)
  replace HV12 := WirS.hide (HV12.out.below hb)
  replace HV15 := WirS.hide (HV15.out.below hb)
  replace HV18 := WirS.hide (HV18.out.below hb)
  replace HV21 := WirS.hide (HV21.out.below hb)
  replace HV22 := WirS.hide (HV22.out.below hb)
  replace HV24 := WirS.hide (HV24.out.below hb)
  replace HV25 := WirS.hide (HV25.out.below hb)
  clear hb
  refine sC (R := fun w' => Below u27.heap.size u27 w') (by kernel_rfl) (by kernel_rfl) (sk_any u27 wa6 (some ⟨B27, 0, none⟩) 2 wc6 2 [[97, 0, 0, 0], [99, 0, 0, 0]] HO6.out (kin_new u27 [[97, 0, 0, 0], [99, 0, 0, 0]] 2 rfl (by decide) (by decide) B27 HA27.out)) ?_
  rintro u28 hb
  simp only [Act.put, List.setIfInBounds_toArray, List.set_cons_succ, List.set_cons_zero]
  replace HW := WirS.hide (HW.out.trans (hb.mono HW.out.size))
  replace HV1 := WirS.hide (HV1.out.below hb)
  replace HV4 := WirS.hide (HV4.out.below hb)
  replace HK5 := WirS.hide (HK5.out.below hb)
  replace HO6 := WirS.hide (HO6.out.below hb)
  replace HV8 := WirS.hide (HV8.out.below hb)
  replace HK9 := WirS.hide (HK9.out.below hb)
  replace HO10 := WirS.hide (HO10.out.below hb)
  replace HV12 := WirS.hide (HV12.out.below hb)
  replace HV15 := WirS.hide (HV15.out.below hb)
  replace HV18 := WirS.hide (HV18.out.below hb)
  replace HV21 := WirS.hide (HV21.out.below hb)
  replace HV22 := WirS.hide (HV22.out.below hb)
  replace HV24 := WirS.hide (HV24.out.below hb)
  replace HV25 := WirS.hide (HV25.out.below hb)
  clear hb
  refine sV (.bool true) (u28) (by kernel_rfl) (by kernel_rfl) ?_
  simp only [Act.put, List.setIfInBounds_toArray, List.set_cons_succ, List.set_cons_zero]
  refine sV (.bool true) (u28) (by kernel_rfl) (by kernel_rfl) ?_
  simp only [Act.put, List.setIfInBounds_toArray, List.set_cons_succ, List.set_cons_zero]
  refine sV (.int .i64 3) (u28) (by kernel_rfl) (by kernel_rfl) ?_
  simp only [Act.put, List.setIfInBounds_toArray, List.set_cons_succ, List.set_cons_zero]
  refine sV (.bool true) (u28) (by kernel_rfl) (by kernel_rfl) ?_
  simp only [Act.put, List.setIfInBounds_toArray, List.set_cons_succ, List.set_cons_zero]
  refine sV (.bool true) (u28) (by kernel_rfl) (by kernel_rfl) ?_
  simp only [Act.put, List.setIfInBounds_toArray, List.set_cons_succ, List.set_cons_zero]
  go_upto_region 6 with fail
  refine wp_region_lit ?_
  refine sC (R := fun w' => Below u28.heap.size u28 w') (by kernel_rfl) (by kernel_rfl) (awake_any u28) ?_
  rintro u29 hb
  simp only [Act.put, List.setIfInBounds_toArray, List.set_cons_succ, List.set_cons_zero]
  replace HW := WirS.hide (HW.out.trans (hb.mono HW.out.size))
  replace HV1 := WirS.hide (HV1.out.below hb)
  replace HV4 := WirS.hide (HV4.out.below hb)
  replace HK5 := WirS.hide (HK5.out.below hb)
  replace HO6 := WirS.hide (HO6.out.below hb)
  replace HV8 := WirS.hide (HV8.out.below hb)
  replace HK9 := WirS.hide (HK9.out.below hb)
  replace HO10 := WirS.hide (HO10.out.below hb)
  replace HV12 := WirS.hide (HV12.out.below hb)
  replace HV15 := WirS.hide (HV15.out.below hb)
  replace HV18 := WirS.hide (HV18.out.below hb)
  replace HV21 := WirS.hide (HV21.out.below hb)
  replace HV22 := WirS.hide (HV22.out.below hb)
  replace HV24 := WirS.hide (HV24.out.below hb)
  replace HV25 := WirS.hide (HV25.out.below hb)
  clear hb
  refine sV (.bool true) (u29) (by kernel_rfl) (by kernel_rfl) ?_
  simp only [Act.put, List.setIfInBounds_toArray, List.set_cons_succ, List.set_cons_zero]
  refine sV (.bool true) (u29) (by kernel_rfl) (by kernel_rfl) ?_
  simp only [Act.put, List.setIfInBounds_toArray, List.set_cons_succ, List.set_cons_zero]
  refine sV (.bool true) (u29) (by kernel_rfl) (by kernel_rfl) ?_
  simp only [Act.put, List.setIfInBounds_toArray, List.set_cons_succ, List.set_cons_zero]
  refine sV (.bool true) (u29) (by kernel_rfl) (by kernel_rfl) ?_
  simp only [Act.put, List.setIfInBounds_toArray, List.set_cons_succ, List.set_cons_zero]
  refine sV (.bool true) (u29) (by kernel_rfl) (by kernel_rfl) ?_
  simp only [Act.put, List.setIfInBounds_toArray, List.set_cons_succ, List.set_cons_zero]
  refine sV (.bool true) (u29) (by kernel_rfl) (by kernel_rfl) ?_
  simp only [Act.put, List.setIfInBounds_toArray, List.set_cons_succ, List.set_cons_zero]
  refine sV (.bool true) (u29) (by kernel_rfl) (by kernel_rfl) ?_
  simp only [Act.put, List.setIfInBounds_toArray, List.set_cons_succ, List.set_cons_zero]
  refine sV (.slice (some ⟨u29.heap.size, 0, none⟩) 2 2) (u29.alloc (.cells (nums ([⟨0, 7⟩] : List Vt)).toArray 3)) (by kernel_rfl) (by kernel_rfl) ?_
  simp only [Act.put, List.setIfInBounds_toArray, List.set_cons_succ, List.set_cons_zero]
  obtain ⟨B30, eB30⟩ : ∃ A, u29.heap.size = A := ⟨_, rfl⟩
  have HA30 := WirS.hide (show At (u29.alloc (.cells (nums ([⟨0, 7⟩] : List Vt)).toArray 3)) B30 3 _ from by rw [← eB30]; exact At.new _ _ _)
  have hb : Below u29.heap.size u29 (u29.alloc (.cells (nums ([⟨0, 7⟩] : List Vt)).toArray 3)) := Below.alloc (Below.refl _ _) (Nat.le_refl _) _
  rw [eB30]
  clear eB30
  generalize World.alloc u29 _ = u30 at *
  replace HW := WirS.hide (HW.out.trans (hb.mono HW.out.size))
  replace HV1 := WirS.hide (HV1.out.below hb)
  replace HV4 := WirS.hide (HV4.out.below hb)
  replace HK5 := WirS.hide (HK5.out.below hb)
  replace HO6 := WirS.hide (HO6.out.below hb)
  replace HV8 := WirS.hide (HV8.out.below hb)
  replace HK9 := WirS.hide (HK9.out.below hb)
  replace HO10 := WirS.hide (HO10.out.below hb)
  replace HV12 := WirS.hide (HV12.out.below hb)
  replace HV15 := WirS.hide (HV15.out.below hb)
  replace HV18 := WirS.hide (HV18.out.below hb)
  replace HV21 := WirS.hide (HV21.out.below hb)
  replace HV22 := WirS.hide (HV22.out.below hb)
  replace HV24 := WirS.hide (HV24.out.below hb)
  replace HV25 := WirS.hide (HV25.out.below hb)
  clear hb
  refine sCx (by kernel_rfl) (by kernel_rfl) (CmN.of_any u30 B30 2 5 ([⟨0, 7⟩] : List Vt) HA30.out (by decide) (by intro x hx; simp at hx; rcases hx with rfl <;> exact ⟨by decide, by decide⟩)) ?_
  rintro e u31 ⟨a31, n31, c31, rfl, ho, _, hb⟩
  refine ⟨_, rfl, ?_⟩
  simp only [Act.put, List.setIfInBounds_toArray, List.set_cons_succ, List.set_cons_zero]
  have HV31 := WirS.hide ho.vin
  clear ho HA30
  replace HW := WirS.hide (HW.out.trans (hb.mono HW.out.size))
  replace HV1 := WirS.hide (HV1.out.below hb)
  replace HV4 := WirS.hide (HV4.out.below hb)
  replace HK5 := WirS.hide (HK5.out.below hb)
  replace HO6 := WirS.hide (HO6.out.below hb)
  replace HV8 := WirS.hide (HV8.out.below hb)
  replace HK9 := WirS.hide (HK9.out.below hb)
  replace HO10 := WirS.hide (HO10.out.below hb)
  replace HV12 := WirS.hide (HV12.out.below hb)
  replace HV15 := WirS.hide (HV15.out.below hb)
  replace HV18 := WirS.hide (HV18.out.below hb)
  replace HV21 := WirS.hide (HV21.out.below hb)
  replace HV22 := WirS.hide (HV22.out.below hb)
  replace HV24 := WirS.hide (HV24.out.below hb)
  replace HV25 := WirS.hide (HV25.out.below hb)
  clear hb
  refine sV (.slice (some ⟨u31.heap.size, 0, none⟩) 2 2) (u31.alloc (.cells (nums ([⟨0, 8⟩] : List Vt)).toArray 3)) (by kernel_rfl) (by kernel_rfl) ?_
  simp only [Act.put, List.setIfInBounds_toArray, List.set_cons_succ, List.set_cons_zero]
  obtain ⟨B32, eB32⟩ : ∃ A, u31.heap.size = A := ⟨_, rfl⟩
  have HA32 := WirS.hide (show At (u31.alloc (.cells (nums ([⟨0, 8⟩] : List Vt)).toArray 3)) B32 3 _ from by rw [← eB32]; exact At.new _ _ _)
  have hb : Below u31.heap.size u31 (u31.alloc (.cells (nums ([⟨0, 8⟩] : List Vt)).toArray 3)) := Below.alloc (Below.refl _ _) (Nat.le_refl _) _
  rw [eB32]
  clear eB32
  generalize World.alloc u31 _ = u32 at *
  replace HW := WirS.hide (HW.out.trans (hb.mono HW.out.size))
  replace HV1 := WirS.hide (HV1.out.below hb)
  replace HV4 := WirS.hide (HV4.out.below hb)
  replace HK5 := WirS.hide (HK5.out.below hb)
  replace HO6 := WirS.hide (HO6.out.below hb)
  replace HV8 := WirS.hide (HV8.out.below hb)
  replace HK9 := WirS.hide (HK9.out.below hb)
  replace HO10 := WirS.hide (HO10.out.below hb)
  replace HV12 := WirS.hide (HV12.out.below hb)
  replace HV15 := WirS.hide (HV15.out.below hb)
  replace HV18 := WirS.hide (HV18.out.below hb)
  replace HV21 := WirS.hide (HV21.out.below hb)
  replace HV22 := WirS.hide (HV22.out.below hb)
  replace HV24 := WirS.hide (HV24.out.below hb)
  replace HV25 := WirS.hide (HV25.out.below hb)
  replace HV31 := WirS.hide (HV31.out.below hb)
  clear hb
  refine sCx (by kernel_rfl) (by kernel_rfl) (CmN.of_any u32 B32 2 5 ([⟨0, 8⟩] : List Vt) HA32.out (by decide) (by intro x hx; simp at hx; rcases hx with rfl <;> exact ⟨by decide, by decide⟩)) ?_
  rintro e u33 ⟨a33, n33, c33, rfl, ho, _, hb⟩
  refine ⟨_, rfl, ?_⟩
  simp only [Act.put, List.setIfInBounds_toArray, List.set_cons_succ, List.set_cons_zero]
  have HV33 := WirS.hide ho.vin
  clear ho HA32
  replace HW := WirS.hide (HW.out.trans (hb.mono HW.out.size))
  replace HV1 := WirS.hide (HV1.out.below hb)
  replace HV4 := WirS.hide (HV4.out.below hb)
  replace HK5 := WirS.hide (HK5.out.below hb)
  replace HO6 := WirS.hide (HO6.out.below hb)
  replace HV8 := WirS.hide (HV8.out.below hb)
  replace HK9 := WirS.hide (HK9.out.below hb)
  replace HO10 := WirS.hide (HO10.out.below hb)
  replace HV12 := WirS.hide (HV12.out.below hb)
  replace HV15 := WirS.hide (HV15.out.below hb)
  replace HV18 := WirS.hide (HV18.out.below hb)
  replace HV21 := WirS.hide (HV21.out.below hb)
  replace HV22 := WirS.hide (HV22.out.below hb)
  replace HV24 := WirS.hide (HV24.out.below hb)
  replace HV25 := WirS.hide (HV25.out.below hb)
  replace HV31 := WirS.hide (HV31.out.below hb)
  clear hb
  refine sV (.agg zcm.toArray) (u33) (by kernel_rfl) (by kernel_rfl) ?_
  simp only [Act.put, List.setIfInBounds_toArray, List.set_cons_succ, List.set_cons_zero]
  have HV34 := WirS.hide (VtIn.nil u33 none 0 (by decide))
  refine sC (R := fun w' => Below u33.heap.size u33 w') (by kernel_rfl) (by kernel_rfl) (joins_any u33 5 5 0 hh1 hh1 z32 a31 a33 none n31 c31 n33 c33 0 0 ([] : List Vt) 8 rfl rfl rfl HV34.out (fun U hU => by have C := CmL.join_any U 5 5 hh1 hh1 a31 a33 n31 c31 n33 c33 ([⟨0, 7⟩] : List Vt) ([⟨0, 8⟩] : List Vt) rfl rfl (HV31.out.below hU) (HV33.out.below hU) (by have := HV31.out.len; simp at this; omega) (by have := HV33.out.len; simp at this; omega); rw [show joinO 5 hh1 ([⟨0, 7⟩] : List Vt) 5 hh1 ([⟨0, 8⟩] : List Vt) = (8, none) from by kernel_rfl] at C; exact C)) ?_
  rintro u35 hb
  simp only [Act.put, List.setIfInBounds_toArray, List.set_cons_succ, List.set_cons_zero]
  replace HW := WirS.hide (HW.out.trans (hb.mono HW.out.size))
  replace HV1 := WirS.hide (HV1.out.below hb)
  replace HV4 := WirS.hide (HV4.out.below hb)
  replace HK5 := WirS.hide (HK5.out.below hb)
  replace HO6 := WirS.hide (HO6.out.below hb)
  replace HV8 := WirS.hide (HV8.out.below hb)
  replace HK9 := WirS.hide (HK9.out.below hb)
  replace HO10 := WirS.hide (HO10.out.below hb)
  replace HV12 := WirS.hide (HV12.out.below hb)
  replace HV15 := WirS.hide (HV15.out.below hb)
  replace HV18 := WirS.hide (HV18.out.below hb)
  replace HV21 := WirS.hide (HV21.out.below hb)
  replace HV22 := WirS.hide (HV22.out.below hb)
  replace HV24 := WirS.hide (HV24.out.below hb)
  replace HV25 := WirS.hide (HV25.out.below hb)
  replace HV31 := WirS.hide (HV31.out.below hb)
  replace HV33 := WirS.hide (HV33.out.below hb)
  replace HV34 := WirS.hide (HV34.out.below hb)
  clear hb
  refine sV (.bool true) (u35) (by kernel_rfl) (by kernel_rfl) ?_
  simp only [Act.put, List.setIfInBounds_toArray, List.set_cons_succ, List.set_cons_zero]
  refine sV (.bool true) (u35) (by kernel_rfl) (by kernel_rfl) ?_
  simp only [Act.put, List.setIfInBounds_toArray, List.set_cons_succ, List.set_cons_zero]
  refine sCx (by kernel_rfl) (by kernel_rfl) (of_nil u35 5) ?_
  rintro e u36 ⟨a36, n36, c36, rfl, ho, _, hb⟩
  refine ⟨_, rfl, ?_⟩
  simp only [Act.put, List.setIfInBounds_toArray, List.set_cons_succ, List.set_cons_zero]
  have HV36 := WirS.hide ho.vin
  clear ho
  replace HW := WirS.hide (HW.out.trans (hb.mono HW.out.size))
  replace HV1 := WirS.hide (HV1.out.below hb)
  replace HV4 := WirS.hide (HV4.out.below hb)
  replace HK5 := WirS.hide (HK5.out.below hb)
  replace HO6 := WirS.hide (HO6.out.below hb)
  replace HV8 := WirS.hide (HV8.out.below hb)
  replace HK9 := WirS.hide (HK9.out.below hb)
  replace HO10 := WirS.hide (HO10.out.below hb)
  replace HV12 := WirS.hide (HV12.out.below hb)
  replace HV15 := WirS.hide (HV15.out.below hb)
  replace HV18 := WirS.hide (HV18.out.below hb)
  replace HV21 := WirS.hide (HV21.out.below hb)
  replace HV22 := WirS.hide (HV22.out.below hb)
  replace HV24 := WirS.hide (HV24.out.below hb)
  replace HV25 := WirS.hide (HV25.out.below hb)
  replace HV31 := WirS.hide (HV31.out.below hb)
  replace HV33 := WirS.hide (HV33.out.below hb)
  replace HV34 := WirS.hide (HV34.out.below hb)
  clear hb
  refine sCx (by kernel_rfl) (by kernel_rfl) (of_nil u36 6) ?_
  rintro e u37 ⟨a37, n37, c37, rfl, ho, _, hb⟩
  refine ⟨_, rfl, ?_⟩
  simp only [Act.put, List.setIfInBounds_toArray, List.set_cons_succ, List.set_cons_zero]
  have HV37 := WirS.hide ho.vin
  clear ho
  replace HW := WirS.hide (HW.out.trans (hb.mono HW.out.size))
  replace HV1 := WirS.hide (HV1.out.below hb)
  replace HV4 := WirS.hide (HV4.out.below hb)
  replace HK5 := WirS.hide (HK5.out.below hb)
  replace HO6 := WirS.hide (HO6.out.below hb)
  replace HV8 := WirS.hide (HV8.out.below hb)
  replace HK9 := WirS.hide (HK9.out.below hb)
  replace HO10 := WirS.hide (HO10.out.below hb)
  replace HV12 := WirS.hide (HV12.out.below hb)
  replace HV15 := WirS.hide (HV15.out.below hb)
  replace HV18 := WirS.hide (HV18.out.below hb)
  replace HV21 := WirS.hide (HV21.out.below hb)
  replace HV22 := WirS.hide (HV22.out.below hb)
  replace HV24 := WirS.hide (HV24.out.below hb)
  replace HV25 := WirS.hide (HV25.out.below hb)
  replace HV31 := WirS.hide (HV31.out.below hb)
  replace HV33 := WirS.hide (HV33.out.below hb)
  replace HV34 := WirS.hide (HV34.out.below hb)
  replace HV36 := WirS.hide (HV36.out.below hb)
  clear hb
  refine sV (.agg zcm.toArray) (u37) (by kernel_rfl) (by kernel_rfl) ?_
  simp only [Act.put, List.setIfInBounds_toArray, List.set_cons_succ, List.set_cons_zero]
  have HV38 := WirS.hide (VtIn.nil u37 none 0 (by decide))
  refine sC (R := fun w' => Below u37.heap.size u37 w') (by kernel_rfl) (by kernel_rfl) (joins_any u37 5 6 0 hh1 hh1 z32 a36 a37 none n36 c36 n37 c37 0 0 ([] : List Vt) 9 rfl rfl rfl HV38.out (fun U hU => by have C := CmL.join_any U 5 6 hh1 hh1 a36 a37 n36 c36 n37 c37 ([] : List Vt) ([] : List Vt) rfl rfl (HV36.out.below hU) (HV37.out.below hU) (by have := HV36.out.len; simp at this; omega) (by have := HV37.out.len; simp at this; omega); rw [show joinO 5 hh1 ([] : List Vt) 6 hh1 ([] : List Vt) = (9, none) from by kernel_rfl] at C; exact C)) ?_
  rintro u39 hb
  simp only [Act.put, List.setIfInBounds_toArray, List.set_cons_succ, List.set_cons_zero]
  replace HW := WirS.hide (HW.out.trans (hb.mono HW.out.size))
  replace HV1 := WirS.hide (HV1.out.below hb)
  replace HV4 := WirS.hide (HV4.out.below hb)
  replace HK5 := WirS.hide (HK5.out.below hb)
  replace HO6 := WirS.hide (HO6.out.below hb)
  replace HV8 := WirS.hide (HV8.out.below hb)
  replace HK9 := WirS.hide (HK9.out.below hb)
  replace HO10 := WirS.hide (HO10.out.below hb)
  replace HV12 := WirS.hide (HV12.out.below hb)
  replace HV15 := WirS.hide (HV15.out.below hb)
  replace HV18 := WirS.hide (HV18.out.below hb)
  replace HV21 := WirS.hide (HV21.out.below hb)
  replace HV22 := WirS.hide (HV22.out.below hb)
  replace HV24 := WirS.hide (HV24.out.below hb)
  replace HV25 := WirS.hide (HV25.out.below hb)
  replace HV31 := WirS.hide (HV31.out.below hb)
  replace HV33 := WirS.hide (HV33.out.below hb)
  replace HV34 := WirS.hide (HV34.out.below hb)
  replace HV36 := WirS.hide (HV36.out.below hb)
  replace HV37 := WirS.hide (HV37.out.below hb)
  replace HV38 := WirS.hide (HV38.out.below hb)
  clear hb
  refine sV (.bool true) (u39) (by kernel_rfl) (by kernel_rfl) ?_
  simp only [Act.put, List.setIfInBounds_toArray, List.set_cons_succ, List.set_cons_zero]
  go_wp2_with fail
  go_ret
  exact ⟨rfl, HW.out⟩
end CmR
end Go.Proofs.Ytplinpbmncccoaa
