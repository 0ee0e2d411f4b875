/-
  VtH, VtL, in one text.
-/
import Derived.Test.YtpambhlhkmkagaaGreatDoorPvR
import Derived.Test.YtpambhlhkmkagaaGreatDoorPvB
import Derived.Test.YtpambhlhkmkagaaGreatDoorBlkSe
import Derived.Test.YtpambhlhkmkagaaGreatDoorHhA
import Derived.Test.YtpambhlhkmkagaaGreatDoorPvQ
import Derived.Test.YtpambhlhkmkagaaGreatDoorPvO
import Derived.Test.YtpambhlhkmkagaaGreatDoorPvK
import Derived.Test.YtpambhlhkmkagaaGreatDoorPvH
import Derived.Test.YtpambhlhkmkagaaGreatDoorPvC
namespace Go.Proofs.YtpambhlhkmkagaaGreatDoor
namespace VtH
open Go.RowKit
open BlkM WirM WirS ValA ValB ValC ValD ValP
open WirD (numB)
open WirE (NewB)
open WirX (Thg Bag own bag_own)
open WirAA (box bag_box)
open WirAB (sCx)
open WirRT (rng)
open ValJ
open BlkG (Glob)
open BlkR (alH)
open HhA (bag_row)

set_option maxRecDepth 10000 in
set_option maxHeartbeats 4000000 in
theorem hash_bad (w : World) (a : Option Addr) (n c : Nat) (vs : List Vd) (h : VIn w a n c vs) (hc : chk vs ≠ 0) :
    Calls Tryz.prog 12 #[.slice a n c] w fun e w' => e = .returned (.tuple #[.agg (b8 (List.replicate 32 0)).toArray, .int .i64 (chk vs)]) ∧ Below w.heap.size w w' := by
  have HC := WirS.hide (fun U (hU : Below w.heap.size w U) => ValJ.encode_bad U a n c vs (h.below hU) hc)
  generalize chk vs = cd at *
  have hn1 : (cd != 0) = true := by simpa using hc
  clear h hc
  go_enter Tryz.func12, Tryz.ntmps12
  go_upto_region 0 with fail
  refine wp_region_lit ?_
  refine sV (.pointer (some ⟨w.heap.size, 0, none⟩)) (w.alloc (.cells (b8 (List.replicate 32 0)).toArray 39)) (by kernel_rfl) (alH _ _ (by rfl) w) ?_
  simp only [Act.put, List.setIfInBounds_toArray, List.set_cons_succ, List.set_cons_zero]
  have hb1 := bag_box (w0 := w) (T := 39) (cs := (b8 (List.replicate 32 0))) (X := w.heap.size) (Bag.nil (Below.refl _ _)) rfl (w' := w.alloc (.cells (b8 (List.replicate 32 0)).toArray 39)) (At.new _ _ _) (Below.alloc (Below.refl _ _) (Nat.le_refl _) _)
  obtain ⟨R, eR⟩ : ∃ A, w.heap.size = A := ⟨_, rfl⟩
  rw [eR] at hb1 ⊢
  clear eR
  generalize World.alloc w _ = x1 at *
  have H1 := WirS.hide hb1
  clear hb1
  go_upto_region 1 with fail
  refine wp_region_lit ?_
  refine sV (.slice a n c) (x1) (by kernel_rfl) (by kernel_rfl) ?_
  simp only [Act.put, List.setIfInBounds_toArray, List.set_cons_succ, List.set_cons_zero]
  refine sC (R := fun w' => Below x1.heap.size x1 w') (by kernel_rfl) (by kernel_rfl) (HC.out x1 H1.out.low) ?_
  rintro x2 hb
  simp only [Act.put, List.setIfInBounds_toArray, List.set_cons_succ, List.set_cons_zero]
  have H2 := WirS.hide (H1.out.more hb)
  clear hb H1
  go_upto_region 3 with fail
  refine wp_region_lit ?_
  refine sV (.agg (b8 (List.replicate 32 0)).toArray) (x2) (by kernel_rfl) (by kernel_rfl) ?_
  simp only [Act.put, List.setIfInBounds_toArray, List.set_cons_succ, List.set_cons_zero]
  refine sV (.int .i64 cd) (x2) (by kernel_rfl) (by kernel_rfl) ?_
  simp only [Act.put, List.setIfInBounds_toArray, List.set_cons_succ, List.set_cons_zero]
  refine stepStore (by rfl) _ _ _ (by rfl) R (b8 (List.replicate 32 0)) (by kernel_rfl) (by kernel_rfl) H2.out.head 32 (by kernel_rfl) (by rw [b8_len]; rfl) (by rw [b8_len]; rfl) (oneCells_b8 _) ?_
  simp only [Act.put]
  have H3 := WirS.hide (bag_row H2.out (b8 (List.replicate 32 0)))
  clear H2
  generalize World.setRow x2 R _ = x3 at *
  go_wp2_with fail
  exact bodyPost_ret (BlkO.retRow2 H3.out.head Tryz.results12 _ (by rfl) (.int .i64 cd) (by rfl) _ 32 Tryz.underlying39 rfl (by kernel_rfl) (by rw [b8_len]; rfl)) rfl ⟨rfl, H3.out.low⟩
set_option maxRecDepth 10000 in
set_option maxHeartbeats 4000000 in
theorem hash_ok (w : World) (a : Option Addr) (n c : Nat) (vs : List Vd) (h : VIn w a n c vs) (hc : chk vs = 0) (hlen : (enc vs).length ≤ 1000) (hr : rng (enc vs)) (hg : Glob w) :
    Calls Tryz.prog 12 #[.slice a n c] w fun e w' => e = .returned (.tuple #[.agg (b8 (sumL (enc vs))).toArray, .int .i64 0]) ∧ Below w.heap.size w w' := by
  have HC := WirS.hide (fun U (hU : Below w.heap.size w U) => ValJ.encode_ok U a n c vs (h.below hU) hc)
  have HSL : Hid ((sumL (enc vs)).length = 32) := WirS.hide (sumL_len _)
  have hw0 := hg.1
  have HS := WirS.hide (fun (U : World) (va : Option Addr) (vn vc : Nat) (hU : Below w.heap.size w U) (hv : BIn U (.slice va vn vc) (enc vs)) => BlkK.sumP_any U (.slice va vn vc) (enc vs) hv hr (hg.below hU hw0) (by omega))
  generalize enc vs = Z at *
  clear h hc hlen hr hg hw0
  go_enter Tryz.func12, Tryz.ntmps12
  go_upto_region 0 with fail
  refine wp_region_lit ?_
  refine sV (.pointer (some ⟨w.heap.size, 0, none⟩)) (w.alloc (.cells (b8 (List.replicate 32 0)).toArray 39)) (by kernel_rfl) (alH _ _ (by rfl) w) ?_
  simp only [Act.put, List.setIfInBounds_toArray, List.set_cons_succ, List.set_cons_zero]
  have hb1 := bag_box (w0 := w) (T := 39) (cs := (b8 (List.replicate 32 0))) (X := w.heap.size) (Bag.nil (Below.refl _ _)) rfl (w' := w.alloc (.cells (b8 (List.replicate 32 0)).toArray 39)) (At.new _ _ _) (Below.alloc (Below.refl _ _) (Nat.le_refl _) _)
  obtain ⟨R, eR⟩ : ∃ A, w.heap.size = A := ⟨_, rfl⟩
  rw [eR] at hb1 ⊢
  clear eR
  generalize World.alloc w _ = x1 at *
  have H1 := WirS.hide hb1
  clear hb1
  go_upto_region 1 with fail
  refine wp_region_lit ?_
  refine sV (.slice a n c) (x1) (by kernel_rfl) (by kernel_rfl) ?_
  simp only [Act.put, List.setIfInBounds_toArray, List.set_cons_succ, List.set_cons_zero]
  refine sCx (by kernel_rfl) (by kernel_rfl) (HC.out x1 H1.out.low) ?_
  rintro e x2 ⟨va, vn, vc, rfl, hv, hn, hb⟩
  refine ⟨_, rfl, ?_⟩
  simp only [Act.put, List.setIfInBounds_toArray, List.set_cons_succ, List.set_cons_zero]
  have H2 := WirS.hide (bag_own H1.out hv hn hb)
  clear hb H1 hv hn
  go_upto_region 4 with fail
  refine wp_region_lit ?_
  refine sV (.slice va vn vc) (x2) (by kernel_rfl) (by kernel_rfl) ?_
  simp only [Act.put, List.setIfInBounds_toArray, List.set_cons_succ, List.set_cons_zero]
  refine sC (R := fun w' => Below x2.heap.size x2 w') (by kernel_rfl) (by kernel_rfl) (HS.out x2 _ _ _ H2.out.low (WirM.Own.bin H2.out.head)) ?_
  rintro x3 hb
  simp only [Act.put, List.setIfInBounds_toArray, List.set_cons_succ, List.set_cons_zero]
  have H4 := WirS.hide (H2.out.drop.more (hb.mono (Nat.le_refl _)))
  clear hb H2
  refine stepStore (by rfl) _ _ _ (by rfl) R (b8 (sumL Z)) (by kernel_rfl) (by kernel_rfl) H4.out.head 32 (by kernel_rfl) (by rw [b8_len]; rfl) (by rw [b8_len]; exact HSL.out) (oneCells_b8 _) ?_
  simp only [Act.put]
  have H5 := WirS.hide (bag_row H4.out (b8 (sumL Z)))
  clear H4
  generalize World.setRow x3 R _ = x4 at *
  go_wp2_with fail
  exact bodyPost_ret (BlkO.retRow2 H5.out.head Tryz.results12 _ (by rfl) (.int .i64 0) (by rfl) _ 32 Tryz.underlying39 rfl (by kernel_rfl) (by rw [b8_len]; exact HSL.out)) rfl ⟨rfl, H5.out.low⟩
set_option maxRecDepth 10000 in
set_option maxHeartbeats 4000000 in
theorem rhash_bad (w : World) (a : Option Addr) (n c : Nat) (vs : List Vd) (h : VIn w a n c vs) (hc : chk vs ≠ 0) :
    Calls Tryz.prog 13 #[.slice a n c] w fun e w' => e = .returned (.tuple #[.agg (b8 (List.replicate 32 0)).toArray, .int .i64 (chk vs)]) ∧ Below w.heap.size w w' := by
  have HC := WirS.hide (fun U (hU : Below w.heap.size w U) => VtE.rencode_bad U a n c vs (h.below hU) hc)
  generalize chk vs = cd at *
  have hn1 : (cd != 0) = true := by simpa using hc
  clear h hc
  go_enter Tryz.func13, Tryz.ntmps13
  go_upto_region 0 with fail
  refine wp_region_lit ?_
  refine sV (.pointer (some ⟨w.heap.size, 0, none⟩)) (w.alloc (.cells (b8 (List.replicate 32 0)).toArray 39)) (by kernel_rfl) (alH _ _ (by rfl) w) ?_
  simp only [Act.put, List.setIfInBounds_toArray, List.set_cons_succ, List.set_cons_zero]
  have hb1 := bag_box (w0 := w) (T := 39) (cs := (b8 (List.replicate 32 0))) (X := w.heap.size) (Bag.nil (Below.refl _ _)) rfl (w' := w.alloc (.cells (b8 (List.replicate 32 0)).toArray 39)) (At.new _ _ _) (Below.alloc (Below.refl _ _) (Nat.le_refl _) _)
  obtain ⟨R, eR⟩ : ∃ A, w.heap.size = A := ⟨_, rfl⟩
  rw [eR] at hb1 ⊢
  clear eR
  generalize World.alloc w _ = x1 at *
  have H1 := WirS.hide hb1
  clear hb1
  go_upto_region 1 with fail
  refine wp_region_lit ?_
  refine sV (.slice a n c) (x1) (by kernel_rfl) (by kernel_rfl) ?_
  simp only [Act.put, List.setIfInBounds_toArray, List.set_cons_succ, List.set_cons_zero]
  refine sC (R := fun w' => Below x1.heap.size x1 w') (by kernel_rfl) (by kernel_rfl) (HC.out x1 H1.out.low) ?_
  rintro x2 hb
  simp only [Act.put, List.setIfInBounds_toArray, List.set_cons_succ, List.set_cons_zero]
  have H2 := WirS.hide (H1.out.more hb)
  clear hb H1
  go_upto_region 3 with fail
  refine wp_region_lit ?_
  refine sV (.agg (b8 (List.replicate 32 0)).toArray) (x2) (by kernel_rfl) (by kernel_rfl) ?_
  simp only [Act.put, List.setIfInBounds_toArray, List.set_cons_succ, List.set_cons_zero]
  refine sV (.int .i64 cd) (x2) (by kernel_rfl) (by kernel_rfl) ?_
  simp only [Act.put, List.setIfInBounds_toArray, List.set_cons_succ, List.set_cons_zero]
  refine stepStore (by rfl) _ _ _ (by rfl) R (b8 (List.replicate 32 0)) (by kernel_rfl) (by kernel_rfl) H2.out.head 32 (by kernel_rfl) (by rw [b8_len]; rfl) (by rw [b8_len]; rfl) (oneCells_b8 _) ?_
  simp only [Act.put]
  have H3 := WirS.hide (bag_row H2.out (b8 (List.replicate 32 0)))
  clear H2
  generalize World.setRow x2 R _ = x3 at *
  go_wp2_with fail
  exact bodyPost_ret (BlkO.retRow2 H3.out.head Tryz.results13 _ (by rfl) (.int .i64 cd) (by rfl) _ 32 Tryz.underlying39 rfl (by kernel_rfl) (by rw [b8_len]; rfl)) rfl ⟨rfl, H3.out.low⟩
set_option maxRecDepth 10000 in
set_option maxHeartbeats 4000000 in
theorem rhash_ok (w : World) (a : Option Addr) (n c : Nat) (vs : List Vd) (h : VIn w a n c vs) (hc : chk vs = 0) (hlen : (enc vs).length ≤ 1000) (hr : rng (enc vs)) :
    Calls Tryz.prog 13 #[.slice a n c] w fun e w' => e = .returned (.tuple #[.agg (b8 (sumL (enc vs))).toArray, .int .i64 0]) ∧ Below w.heap.size w w' := by
  have HC := WirS.hide (fun U (hU : Below w.heap.size w U) => VtE.rencode_ok U a n c vs (h.below hU) hc)
  have HSL : Hid ((sumL (enc vs)).length = 32) := WirS.hide (sumL_len _)
  have HS := WirS.hide (fun (U : World) (va : Option Addr) (vn vc : Nat) (_hU : Below w.heap.size w U) (hv : BIn U (.slice va vn vc) (enc vs)) => BlkSe.rsum_any U va vn vc (enc vs) hv hr (by obtain ⟨_, _, e, _⟩ := hv; cases e; omega))
  generalize enc vs = Z at *
  clear h hc hlen hr
  go_enter Tryz.func13, Tryz.ntmps13
  go_upto_region 0 with fail
  refine wp_region_lit ?_
  refine sV (.pointer (some ⟨w.heap.size, 0, none⟩)) (w.alloc (.cells (b8 (List.replicate 32 0)).toArray 39)) (by kernel_rfl) (alH _ _ (by rfl) w) ?_
  simp only [Act.put, List.setIfInBounds_toArray, List.set_cons_succ, List.set_cons_zero]
  have hb1 := bag_box (w0 := w) (T := 39) (cs := (b8 (List.replicate 32 0))) (X := w.heap.size) (Bag.nil (Below.refl _ _)) rfl (w' := w.alloc (.cells (b8 (List.replicate 32 0)).toArray 39)) (At.new _ _ _) (Below.alloc (Below.refl _ _) (Nat.le_refl _) _)
  obtain ⟨R, eR⟩ : ∃ A, w.heap.size = A := ⟨_, rfl⟩
  rw [eR] at hb1 ⊢
  clear eR
  generalize World.alloc w _ = x1 at *
  have H1 := WirS.hide hb1
  clear hb1
  go_upto_region 1 with fail
  refine wp_region_lit ?_
  refine sV (.slice a n c) (x1) (by kernel_rfl) (by kernel_rfl) ?_
  simp only [Act.put, List.setIfInBounds_toArray, List.set_cons_succ, List.set_cons_zero]
  refine sCx (by kernel_rfl) (by kernel_rfl) (HC.out x1 H1.out.low) ?_
  rintro e x2 ⟨va, vn, vc, rfl, hv, hn, hb⟩
  refine ⟨_, rfl, ?_⟩
  simp only [Act.put, List.setIfInBounds_toArray, List.set_cons_succ, List.set_cons_zero]
  have H2 := WirS.hide (bag_own H1.out hv hn hb)
  clear hb H1 hv hn
  go_upto_region 4 with fail
  refine wp_region_lit ?_
  refine sV (.slice va vn vc) (x2) (by kernel_rfl) (by kernel_rfl) ?_
  simp only [Act.put, List.setIfInBounds_toArray, List.set_cons_succ, List.set_cons_zero]
  refine sC (R := fun w' => Below x2.heap.size x2 w') (by kernel_rfl) (by kernel_rfl) (HS.out x2 _ _ _ H2.out.low (WirM.Own.bin H2.out.head)) ?_
  rintro x3 hb
  simp only [Act.put, List.setIfInBounds_toArray, List.set_cons_succ, List.set_cons_zero]
  have H4 := WirS.hide (H2.out.drop.more (hb.mono (Nat.le_refl _)))
  clear hb H2
  refine stepStore (by rfl) _ _ _ (by rfl) R (b8 (sumL Z)) (by kernel_rfl) (by kernel_rfl) H4.out.head 32 (by kernel_rfl) (by rw [b8_len]; rfl) (by rw [b8_len]; exact HSL.out) (oneCells_b8 _) ?_
  simp only [Act.put]
  have H5 := WirS.hide (bag_row H4.out (b8 (sumL Z)))
  clear H4
  generalize World.setRow x3 R _ = x4 at *
  go_wp2_with fail
  exact bodyPost_ret (BlkO.retRow2 H5.out.head Tryz.results13 _ (by rfl) (.int .i64 0) (by rfl) _ 32 Tryz.underlying39 rfl (by kernel_rfl) (by rw [b8_len]; exact HSL.out)) rfl ⟨rfl, H5.out.low⟩
/-- What Hash tells first. -/
def xh (vs : List Vd) : List Int := if chk vs = 0 then sumL (enc vs) else List.replicate 32 0
theorem xh_len (vs : List Vd) : (xh vs).length = 32 := by
  unfold xh
  split
  · exact sumL_len _
  · rfl
theorem len_ok {vs : List Vd} (hok : ∀ x ∈ vs, x.ok) (hc : chk vs = 0) : (enc vs).length ≤ 1000 := by
  have := ValBK.enc_len_le hok ((chk_up vs).1 hc).2.1
  omega
theorem hash_any (w : World) (a : Option Addr) (n c : Nat) (vs : List Vd) (h : VIn w a n c vs) (hg : Glob w) :
    Calls Tryz.prog 12 #[.slice a n c] w fun e w' => e = .returned (.tuple #[.agg (b8 (xh vs)).toArray, .int .i64 (chk vs)]) ∧ Below w.heap.size w w' := by
  unfold xh
  by_cases hc : chk vs = 0
  · rw [if_pos hc, hc]
    exact hash_ok w a n c vs h hc (len_ok h.ok hc) (ValBK.enc_rng h.ok hc) hg
  · rw [if_neg hc]
    exact hash_bad w a n c vs h hc
theorem rhash_any (w : World) (a : Option Addr) (n c : Nat) (vs : List Vd) (h : VIn w a n c vs) :
    Calls Tryz.prog 13 #[.slice a n c] w fun e w' => e = .returned (.tuple #[.agg (b8 (xh vs)).toArray, .int .i64 (chk vs)]) ∧ Below w.heap.size w w' := by
  unfold xh
  by_cases hc : chk vs = 0
  · rw [if_pos hc, hc]
    exact rhash_ok w a n c vs h hc (len_ok h.ok hc) (ValBK.enc_rng h.ok hc)
  · rw [if_neg hc]
    exact rhash_bad w a n c vs h hc
/-- What Encode tells: bytes of its own and a code. -/
def EN (w : World) (zs : List Int) (cd : Int) (e : Ending) (w' : World) : Prop := ∃ va vn vc, e = .returned (.tuple #[.slice va vn vc, .int .i64 cd]) ∧ WirM.Own w' 5 (.slice va vn vc) zs ∧ NewB w (.slice va vn vc) ∧ Below w.heap.size w w'
def encZ (vs : List Vd) : List Int := if chk vs = 0 then enc vs else []
theorem enc_all (w : World) (a : Option Addr) (n c : Nat) (vs : List Vd) (hv : VIn w a n c vs) :
    Calls Tryz.prog 10 #[.slice a n c] w (EN w (encZ vs) (chk vs)) := by
  unfold encZ
  by_cases hc : chk vs = 0
  · rw [if_pos hc, hc]
    exact ValJ.encode_ok w a n c vs hv hc
  · rw [if_neg hc]
    exact (ValJ.encode_bad w a n c vs hv hc).mono fun e w' ⟨h1, h2⟩ => ⟨none, 0, 0, h1, WirM.Own.nil w' _, fun k hk => by simp [Value.ownBlock] at hk, h2⟩
theorem renc_all (w : World) (a : Option Addr) (n c : Nat) (vs : List Vd) (hv : VIn w a n c vs) :
    Calls Tryz.prog 11 #[.slice a n c] w (EN w (encZ vs) (chk vs)) := by
  unfold encZ
  by_cases hc : chk vs = 0
  · rw [if_pos hc, hc]
    exact VtE.rencode_ok w a n c vs hv hc
  · rw [if_neg hc]
    exact (VtE.rencode_bad w a n c vs hv hc).mono fun e w' ⟨h1, h2⟩ => ⟨none, 0, 0, h1, WirM.Own.nil w' _, fun k hk => by simp [Value.ownBlock] at hk, h2⟩
theorem encZ_rng {vs : List Vd} (hok : ∀ x ∈ vs, x.ok) : rng (encZ vs) := by
  unfold encZ
  split
  · exact ValBK.enc_rng hok (by assumption)
  · intro x hx; cases hx
theorem encZ_len {vs : List Vd} (hok : ∀ x ∈ vs, x.ok) : (encZ vs).length ≤ 1000 := by
  unfold encZ
  split
  · exact len_ok hok (by assumption)
  · exact Nat.zero_le _
/-- What Total tells. -/
def totZ (vs : List Vd) : Int := if chk vs = 0 then ValI.sumP vs else 0
theorem tot_any (w : World) (a : Option Addr) (n c : Nat) (vs : List Vd) (h : VIn w a n c vs) :
    Calls Tryz.prog 6 #[.slice a n c] w fun e w' => e = .returned (ValI.tell (totZ vs) (chk vs)) ∧ Below w.heap.size w w' := by
  unfold totZ
  by_cases hc : chk vs = 0
  · rw [if_pos hc, hc]
    exact ValI.total_ok w a n c vs h hc
  · rw [if_neg hc]
    exact ValI.total_bad w a n c vs h hc
theorem rtot_any (w : World) (a : Option Addr) (n c : Nat) (vs : List Vd) (h : VIn w a n c vs) :
    Calls Tryz.prog 7 #[.slice a n c] w fun e w' => e = .returned (ValI.tell (totZ vs) (chk vs)) ∧ Below w.heap.size w w' := by
  unfold totZ
  by_cases hc : chk vs = 0
  · rw [if_pos hc, hc]
    exact VtT.rtotal_ok w a n c vs h hc
  · rw [if_neg hc]
    exact VtT.rtotal_bad w a n c vs h hc
end VtH
end Go.Proofs.YtpambhlhkmkagaaGreatDoor

namespace Go.Proofs.YtpambhlhkmkagaaGreatDoor
namespace VtL
open Go.RowKit
open BlkM WirM WirS ValA ValB ValC ValD ValP
open WirE (NewB)
open WirX (Thg Bag own bag_own)
open WirAA (box bag_box)
open WirAB (sCx)
open WirRT (rng)
open ValH (kcl ixK)
open BlkG (Glob)
open BlkR (alH)
open BlkP (eqH)
open HhA (bag_row)
open VtH

def ownv (v : Value) (vs : List Vd) : Thg where
  ok w := OwnV w v vs
  foot k := v.ownBlock = some k
  stable h hf hX := h.fr hf hX
  inside h k hk := h.lt k hk
def gone : Thg where
  ok _ := True
  foot _ := False
  stable _ _ _ := trivial
  inside _ _ h := h.elim
theorem eqI (x : Int) (W : World) : (binOp .eql 3 (.int .i64 x) (.int .i64 x)).run Tryz.prog W = .ok (.bool true) W := by
  simp [binOp, go_sem]
theorem eqB (x : Bool) (W : World) : (binOp .eql 4 (.bool x) (.bool x)).run Tryz.prog W = .ok (.bool true) W := by
  cases x <;> kernel_rfl
theorem eqE (x : Int) (W : World) : (binOp .eql 30 (.int .i64 x) (.int .i64 x)).run Tryz.prog W = .ok (.bool true) W := by
  simp [binOp, go_sem]
theorem wide_eqx (x y : Int) (W : World) : (binOp .eql 29 (.agg #[.int .u64 x, .int .u64 y]) (.agg #[.int .u64 x, .int .u64 y])).run Tryz.prog W = .ok (.bool true) W := ValBK.wide_eqx x y W
theorem eqX (l : List Int) (h : l.length = 32) (W : World) : (binOp .eql 39 (.agg (b8 l).toArray) (.agg (b8 l).toArray)).run Tryz.prog W = .ok (.bool true) W := by
  rw [eqH l l h h W, decide_eq_true rfl]
set_option maxRecDepth 20000 in
set_option maxHeartbeats 16000000 in
theorem tells_a (w : World) (a : Option Addr) (n c : Nat) (vs : List Vd) (kv : Vd) (_hv : VIn w a n c vs) (_hg : Glob w) (hc : 80 < n) : Calls Tryz.prog 3 #[.slice a n c, .agg #[.int .u8 kv.a, .int .u8 kv.b, .int .u8 kv.c, .int .u8 kv.d]] w fun e w' => e = .returned (.bool true) ∧ Below w.heap.size w w' := by
  have HD := WirS.hide (show decide ((80 : Int) < (n : Int)) = true by simp; omega)
  clear _hv _hg hc
  have H1 := WirS.hide (Bag.nil (Below.refl w.heap.size w))
  go_enter Tryz.func3, Tryz.ntmps3
  go_upto_region 0 with fail
  refine wp_region_lit ?_
  refine sV (.pointer (some ⟨w.heap.size, 0, none⟩)) (w.alloc (.cells (kcl kv).toArray 24)) (by kernel_rfl) (by kernel_rfl) ?_
  simp only [Act.put, List.setIfInBounds_toArray, List.set_cons_succ, List.set_cons_zero]
  obtain ⟨K, eK⟩ : ∃ A, w.heap.size = A := ⟨_, rfl⟩
  have hbK := bag_box (T := 24) (cs := (kcl kv)) (X := K) H1.out eK.symm (w' := w.alloc (.cells (kcl kv).toArray 24)) (by rw [← eK]; exact At.new _ _ _) (Below.alloc (Below.refl _ _) (Nat.le_refl _) _)
  rw [eK]
  clear eK
  generalize World.alloc w _ = u2 at *
  have H3 := WirS.hide (hbK)
  clear H1
  clear hbK
  go_upto_region 1 with fail
  refine wp_region_lit ?_
  refine sV (.slice a n c) (u2) (by kernel_rfl) (by kernel_rfl) ?_
  simp only [Act.put, List.setIfInBounds_toArray, List.set_cons_succ, List.set_cons_zero]
  refine sV (.int .i64 (n : Int)) (u2) (by kernel_rfl) (by kernel_rfl) ?_
  simp only [Act.put, List.setIfInBounds_toArray, List.set_cons_succ, List.set_cons_zero]
  refine sV (.bool (decide ((80 : Int) < (n : Int)))) (u2) (by kernel_rfl) (by kernel_rfl) ?_
  simp only [Act.put, List.setIfInBounds_toArray, List.set_cons_succ, List.set_cons_zero]
  rw [HD.out]
  have HAW := WirS.hide (fun U => ValS.awake_any U)
  go_wp2_with (go_at_call 4; refine (HAW.out _).mono ?_; rintro e uz ⟨rfl, hb⟩; have HBZ := WirS.hide (H3.out.more hb); clear hb)
  go_ret
  exact ⟨rfl, HBZ.out.low⟩
set_option maxRecDepth 20000 in
set_option maxHeartbeats 16000000 in
theorem tells_b (w : World) (a : Option Addr) (n c : Nat) (vs : List Vd) (kv : Vd) (hv : VIn w a n c vs) (hg : Glob w) (hc : ¬ 80 < n) : Calls Tryz.prog 3 #[.slice a n c, .agg #[.int .u8 kv.a, .int .u8 kv.b, .int .u8 kv.c, .int .u8 kv.d]] w fun e w' => e = .returned (.bool true) ∧ Below w.heap.size w w' := by
  have HD := WirS.hide (show decide ((80 : Int) < (n : Int)) = false by simp; omega)
  have HCV := WirS.hide (fun U (hU : Below w.heap.size w U) => CmSv.copyv_any U a n c vs (hv.below hU) (by omega))
  have hw0 := hg.1
  have HGL := WirS.hide (fun U (hU : Below w.heap.size w U) => hg.below hU hw0)
  have HV := WirS.hide hv
  have HZL := WirS.hide (encZ_len hv.ok)
  have HZR := WirS.hide (encZ_rng hv.ok)
  have HXL := WirS.hide (xh_len vs)
  have HT1 := WirS.hide (fun (U : World) (xa : Option Addr) (xc : Nat) (hU : VIn U xa n xc vs) => tot_any U xa n xc vs hU)
  have HT2 := WirS.hide (fun (U : World) (hU : Below w.heap.size w U) => rtot_any U a n c vs (hv.below hU))
  have HF1 := WirS.hide (fun (U : World) (xa : Option Addr) (xc : Nat) (hU : VIn U xa n xc vs) => ValH.find_any U xa n xc vs kv hU)
  have HF2 := WirS.hide (fun (U : World) (hU : Below w.heap.size w U) => ValRA.rfind_any U a n c vs kv (hv.below hU))
  have HE1 := WirS.hide (fun (U : World) (xa : Option Addr) (xc : Nat) (hU : VIn U xa n xc vs) => enc_all U xa n xc vs hU)
  have HE2 := WirS.hide (fun (U : World) (hU : Below w.heap.size w U) => renc_all U a n c vs (hv.below hU))
  have HH1 := WirS.hide (fun (U : World) (xa : Option Addr) (xc : Nat) (hU : VIn U xa n xc vs) (hG : Glob U) => hash_any U xa n xc vs hU hG)
  have HH2 := WirS.hide (fun (U : World) (hU : Below w.heap.size w U) => rhash_any U a n c vs (hv.below hU))
  have HC1 := WirS.hide (fun (U : World) (xa : Option Addr) (xc : Nat) (hU : VIn U xa n xc vs) => ValD.check_any U xa n xc vs hU)
  have HC2 := WirS.hide (fun (U : World) (hU : Below w.heap.size w U) => ValRB.rcheck_any U a n c vs (hv.below hU))
  unfold ValI.tell at HT1 HT2
  generalize totZ vs / 18446744073709551616 = TH at *
  generalize totZ vs % 18446744073709551616 = TL at *
  generalize encZ vs = ZZ at *
  generalize xh vs = XX at *
  generalize chk vs = EC at *
  generalize (if 0 ≤ ixK kv.key vs 0 then ixK kv.key vs 0 else 0) = FI at *
  generalize decide (0 ≤ ixK kv.key vs 0) = FB at *
  clear hv hg hw0 hc
  have H4 := WirS.hide (Bag.nil (Below.refl w.heap.size w))
  go_enter Tryz.func3, Tryz.ntmps3
  go_upto_region 0 with fail
  refine wp_region_lit ?_
  refine sV (.pointer (some ⟨w.heap.size, 0, none⟩)) (w.alloc (.cells (kcl kv).toArray 24)) (by kernel_rfl) (by kernel_rfl) ?_
  simp only [Act.put, List.setIfInBounds_toArray, List.set_cons_succ, List.set_cons_zero]
  obtain ⟨K, eK⟩ : ∃ A, w.heap.size = A := ⟨_, rfl⟩
  have hbK := bag_box (T := 24) (cs := (kcl kv)) (X := K) H4.out eK.symm (w' := w.alloc (.cells (kcl kv).toArray 24)) (by rw [← eK]; exact At.new _ _ _) (Below.alloc (Below.refl _ _) (Nat.le_refl _) _)
  rw [eK]
  clear eK
  generalize World.alloc w _ = u5 at *
  have H6 := WirS.hide (hbK)
  clear H4
  clear hbK
  go_upto_region 1 with fail
  refine wp_region_lit ?_
  refine sV (.slice a n c) (u5) (by kernel_rfl) (by kernel_rfl) ?_
  simp only [Act.put, List.setIfInBounds_toArray, List.set_cons_succ, List.set_cons_zero]
  refine sV (.int .i64 (n : Int)) (u5) (by kernel_rfl) (by kernel_rfl) ?_
  simp only [Act.put, List.setIfInBounds_toArray, List.set_cons_succ, List.set_cons_zero]
  refine sV (.bool (decide ((80 : Int) < (n : Int)))) (u5) (by kernel_rfl) (by kernel_rfl) ?_
  simp only [Act.put, List.setIfInBounds_toArray, List.set_cons_succ, List.set_cons_zero]
  rw [HD.out]
  go_upto_region 3 with fail
  refine wp_region_lit ?_
  refine sV (.slice a n c) (u5) (by kernel_rfl) (by kernel_rfl) ?_
  simp only [Act.put, List.setIfInBounds_toArray, List.set_cons_succ, List.set_cons_zero]
  refine sCx (by kernel_rfl) (by kernel_rfl) (HCV.out u5 H6.out.low) ?_
  rintro e u7 ⟨va, vc, rfl, ho, hnb, hb⟩
  refine ⟨_, rfl, ?_⟩
  simp only [Act.put, List.setIfInBounds_toArray, List.set_cons_succ, List.set_cons_zero]
  have H8 := WirS.hide (Bag.new (o := ownv (.slice va n vc) vs) H6.out hb ho hnb)
  clear H6
  clear ho hnb hb
  go_upto_region 4 with fail
  refine wp_region_lit ?_
  refine sV (.slice va n vc) (u7) (by kernel_rfl) (by kernel_rfl) ?_
  simp only [Act.put, List.setIfInBounds_toArray, List.set_cons_succ, List.set_cons_zero]
  refine sC (R := fun w' => Below u7.heap.size u7 w') (v := .tuple #[.agg #[.int .u64 TH, .int .u64 TL], .int .i64 EC]) (by kernel_rfl) (by kernel_rfl) (HT1.out u7 va vc ((show OwnV u7 (.slice va n vc) vs from (H8.out.all (ownv (.slice va n vc) vs) (by simp)).1).vin)) ?_
  rintro u9 hb
  simp only [Act.put, List.setIfInBounds_toArray, List.set_cons_succ, List.set_cons_zero]
  have H10 := WirS.hide (H8.out.more hb)
  clear H8
  clear hb
  refine sV (.tuple #[.agg #[.int .u64 TH, .int .u64 TL], .int .i64 EC]) (u9) (by kernel_rfl) (by kernel_rfl) ?_
  simp only [Act.put, List.setIfInBounds_toArray, List.set_cons_succ, List.set_cons_zero]
  refine sV (.agg #[.int .u64 TH, .int .u64 TL]) (u9) (by kernel_rfl) (by kernel_rfl) ?_
  simp only [Act.put, List.setIfInBounds_toArray, List.set_cons_succ, List.set_cons_zero]
  refine sV (.int .i64 EC) (u9) (by kernel_rfl) (by kernel_rfl) ?_
  simp only [Act.put, List.setIfInBounds_toArray, List.set_cons_succ, List.set_cons_zero]
  refine sV (.pointer (some ⟨u9.heap.size, 0, none⟩)) (u9.alloc (.cells [.int .u64 0, .int .u64 0].toArray 29)) (by kernel_rfl) (by kernel_rfl) ?_
  simp only [Act.put, List.setIfInBounds_toArray, List.set_cons_succ, List.set_cons_zero]
  obtain ⟨P, eP⟩ : ∃ A, u9.heap.size = A := ⟨_, rfl⟩
  have hbP := bag_box (T := 29) (cs := [.int .u64 0, .int .u64 0]) (X := P) H10.out eP.symm (w' := u9.alloc (.cells [.int .u64 0, .int .u64 0].toArray 29)) (by rw [← eP]; exact At.new _ _ _) (Below.alloc (Below.refl _ _) (Nat.le_refl _) _)
  rw [eP]
  clear eP
  generalize World.alloc u9 _ = u11 at *
  have H12 := WirS.hide (hbP)
  clear H10
  clear hbP
  refine stepStore (by rfl) _ _ _ (by rfl) P [.int .u64 TH, .int .u64 TL] (by kernel_rfl) (by kernel_rfl) H12.out.head 2 (by kernel_rfl) (by rfl) (by rfl) (by simp [Value.oneCell']) ?_
  simp only [Act.put]
  have H14 := WirS.hide (bag_row H12.out [.int .u64 TH, .int .u64 TL])
  clear H12
  generalize World.setRow u11 P _ = u13 at *
  go_upto_region 5 with fail
  refine wp_region_lit ?_
  refine sV (.slice a n c) (u13) (by kernel_rfl) (by kernel_rfl) ?_
  simp only [Act.put, List.setIfInBounds_toArray, List.set_cons_succ, List.set_cons_zero]
  refine sC (R := fun w' => Below u13.heap.size u13 w') (v := .tuple #[.agg #[.int .u64 TH, .int .u64 TL], .int .i64 EC]) (by kernel_rfl) (by kernel_rfl) (HT2.out u13 H14.out.low) ?_
  rintro u15 hb
  simp only [Act.put, List.setIfInBounds_toArray, List.set_cons_succ, List.set_cons_zero]
  have H16 := WirS.hide (H14.out.more hb)
  clear H14
  clear hb
  refine sV (.tuple #[.agg #[.int .u64 TH, .int .u64 TL], .int .i64 EC]) (u15) (by kernel_rfl) (by kernel_rfl) ?_
  simp only [Act.put, List.setIfInBounds_toArray, List.set_cons_succ, List.set_cons_zero]
  refine sV (.agg #[.int .u64 TH, .int .u64 TL]) (u15) (by kernel_rfl) (by kernel_rfl) ?_
  simp only [Act.put, List.setIfInBounds_toArray, List.set_cons_succ, List.set_cons_zero]
  refine sV (.int .i64 EC) (u15) (by kernel_rfl) (by kernel_rfl) ?_
  simp only [Act.put, List.setIfInBounds_toArray, List.set_cons_succ, List.set_cons_zero]
  refine sV (.pointer (some ⟨u15.heap.size, 0, none⟩)) (u15.alloc (.cells [.int .u64 0, .int .u64 0].toArray 29)) (by kernel_rfl) (by kernel_rfl) ?_
  simp only [Act.put, List.setIfInBounds_toArray, List.set_cons_succ, List.set_cons_zero]
  obtain ⟨Q, eQ⟩ : ∃ A, u15.heap.size = A := ⟨_, rfl⟩
  have hbQ := bag_box (T := 29) (cs := [.int .u64 0, .int .u64 0]) (X := Q) H16.out eQ.symm (w' := u15.alloc (.cells [.int .u64 0, .int .u64 0].toArray 29)) (by rw [← eQ]; exact At.new _ _ _) (Below.alloc (Below.refl _ _) (Nat.le_refl _) _)
  rw [eQ]
  clear eQ
  generalize World.alloc u15 _ = u17 at *
  have H18 := WirS.hide (hbQ)
  clear H16
  clear hbQ
  refine stepStore (by rfl) _ _ _ (by rfl) Q [.int .u64 TH, .int .u64 TL] (by kernel_rfl) (by kernel_rfl) H18.out.head 2 (by kernel_rfl) (by rfl) (by rfl) (by simp [Value.oneCell']) ?_
  simp only [Act.put]
  have H20 := WirS.hide (bag_row H18.out [.int .u64 TH, .int .u64 TL])
  clear H18
  generalize World.setRow u17 Q _ = u19 at *
  go_upto_region 6 with fail
  refine wp_region_lit ?_
  refine sV (.slice va n vc) (u19) (by kernel_rfl) (by kernel_rfl) ?_
  simp only [Act.put, List.setIfInBounds_toArray, List.set_cons_succ, List.set_cons_zero]
  refine sL (by kernel_rfl) _ _ (by rfl) _ (by kernel_rfl) (H20.out.all (box 24 K (kcl kv)) (by simp)).1 _ _ Tryz.underlying24 rfl (by kernel_rfl) (by rfl) ?_
  simp only [Act.put, List.setIfInBounds_toArray, List.set_cons_succ, List.set_cons_zero]
  refine sC (R := fun w' => Below u19.heap.size u19 w') (v := .tuple #[.int .i64 FI, .bool FB]) (by kernel_rfl) (by kernel_rfl) (HF1.out u19 va vc ((show OwnV u19 (.slice va n vc) vs from (H20.out.all (ownv (.slice va n vc) vs) (by simp)).1).vin)) ?_
  rintro u21 hb
  simp only [Act.put, List.setIfInBounds_toArray, List.set_cons_succ, List.set_cons_zero]
  have H22 := WirS.hide (H20.out.more hb)
  clear H20
  clear hb
  refine sV (.tuple #[.int .i64 FI, .bool FB]) (u21) (by kernel_rfl) (by kernel_rfl) ?_
  simp only [Act.put, List.setIfInBounds_toArray, List.set_cons_succ, List.set_cons_zero]
  refine sV (.int .i64 FI) (u21) (by kernel_rfl) (by kernel_rfl) ?_
  simp only [Act.put, List.setIfInBounds_toArray, List.set_cons_succ, List.set_cons_zero]
  refine sV (.bool FB) (u21) (by kernel_rfl) (by kernel_rfl) ?_
  simp only [Act.put, List.setIfInBounds_toArray, List.set_cons_succ, List.set_cons_zero]
  go_upto_region 7 with fail
  refine wp_region_lit ?_
  refine sV (.slice a n c) (u21) (by kernel_rfl) (by kernel_rfl) ?_
  simp only [Act.put, List.setIfInBounds_toArray, List.set_cons_succ, List.set_cons_zero]
  refine sL (by kernel_rfl) _ _ (by rfl) _ (by kernel_rfl) (H22.out.all (box 24 K (kcl kv)) (by simp)).1 _ _ Tryz.underlying24 rfl (by kernel_rfl) (by rfl) ?_
  simp only [Act.put, List.setIfInBounds_toArray, List.set_cons_succ, List.set_cons_zero]
  refine sC (R := fun w' => Below u21.heap.size u21 w') (v := .tuple #[.int .i64 FI, .bool FB]) (by kernel_rfl) (by kernel_rfl) (HF2.out u21 H22.out.low) ?_
  rintro u23 hb
  simp only [Act.put, List.setIfInBounds_toArray, List.set_cons_succ, List.set_cons_zero]
  have H24 := WirS.hide (H22.out.more hb)
  clear H22
  clear hb
  refine sV (.tuple #[.int .i64 FI, .bool FB]) (u23) (by kernel_rfl) (by kernel_rfl) ?_
  simp only [Act.put, List.setIfInBounds_toArray, List.set_cons_succ, List.set_cons_zero]
  refine sV (.int .i64 FI) (u23) (by kernel_rfl) (by kernel_rfl) ?_
  simp only [Act.put, List.setIfInBounds_toArray, List.set_cons_succ, List.set_cons_zero]
  refine sV (.bool FB) (u23) (by kernel_rfl) (by kernel_rfl) ?_
  simp only [Act.put, List.setIfInBounds_toArray, List.set_cons_succ, List.set_cons_zero]
  go_upto_region 8 with fail
  refine wp_region_lit ?_
  refine sV (.slice va n vc) (u23) (by kernel_rfl) (by kernel_rfl) ?_
  simp only [Act.put, List.setIfInBounds_toArray, List.set_cons_succ, List.set_cons_zero]
  refine sCx (by kernel_rfl) (by kernel_rfl) (HE1.out u23 va vc ((show OwnV u23 (.slice va n vc) vs from (H24.out.all (ownv (.slice va n vc) vs) (by simp)).1).vin)) ?_
  rintro e u25 ⟨ba, bn, bc, rfl, ho, hnb, hb⟩
  refine ⟨_, rfl, ?_⟩
  simp only [Act.put, List.setIfInBounds_toArray, List.set_cons_succ, List.set_cons_zero]
  have H26 := WirS.hide (bag_own H24.out ho hnb hb)
  clear H24
  clear ho hnb hb
  refine sV (.tuple #[.slice ba bn bc, .int .i64 EC]) (u25) (by kernel_rfl) (by kernel_rfl) ?_
  simp only [Act.put, List.setIfInBounds_toArray, List.set_cons_succ, List.set_cons_zero]
  refine sV (.slice ba bn bc) (u25) (by kernel_rfl) (by kernel_rfl) ?_
  simp only [Act.put, List.setIfInBounds_toArray, List.set_cons_succ, List.set_cons_zero]
  refine sV (.int .i64 EC) (u25) (by kernel_rfl) (by kernel_rfl) ?_
  simp only [Act.put, List.setIfInBounds_toArray, List.set_cons_succ, List.set_cons_zero]
  go_upto_region 9 with fail
  refine wp_region_lit ?_
  refine sV (.slice a n c) (u25) (by kernel_rfl) (by kernel_rfl) ?_
  simp only [Act.put, List.setIfInBounds_toArray, List.set_cons_succ, List.set_cons_zero]
  refine sCx (by kernel_rfl) (by kernel_rfl) (HE2.out u25 H26.out.low) ?_
  rintro e u27 ⟨ea, en, ec, rfl, ho, hnb, hb⟩
  refine ⟨_, rfl, ?_⟩
  simp only [Act.put, List.setIfInBounds_toArray, List.set_cons_succ, List.set_cons_zero]
  have H28 := WirS.hide (bag_own H26.out ho hnb hb)
  clear H26
  clear ho hnb hb
  refine sV (.tuple #[.slice ea en ec, .int .i64 EC]) (u27) (by kernel_rfl) (by kernel_rfl) ?_
  simp only [Act.put, List.setIfInBounds_toArray, List.set_cons_succ, List.set_cons_zero]
  refine sV (.slice ea en ec) (u27) (by kernel_rfl) (by kernel_rfl) ?_
  simp only [Act.put, List.setIfInBounds_toArray, List.set_cons_succ, List.set_cons_zero]
  refine sV (.int .i64 EC) (u27) (by kernel_rfl) (by kernel_rfl) ?_
  simp only [Act.put, List.setIfInBounds_toArray, List.set_cons_succ, List.set_cons_zero]
  go_upto_region 10 with fail
  refine wp_region_lit ?_
  refine sV (.slice va n vc) (u27) (by kernel_rfl) (by kernel_rfl) ?_
  simp only [Act.put, List.setIfInBounds_toArray, List.set_cons_succ, List.set_cons_zero]
  refine sC (R := fun w' => Below u27.heap.size u27 w') (v := .tuple #[.agg (b8 XX).toArray, .int .i64 EC]) (by kernel_rfl) (by kernel_rfl) (HH1.out u27 va vc ((show OwnV u27 (.slice va n vc) vs from (H28.out.all (ownv (.slice va n vc) vs) (by simp)).1).vin) (HGL.out u27 H28.out.low)) ?_
  rintro u29 hb
  simp only [Act.put, List.setIfInBounds_toArray, List.set_cons_succ, List.set_cons_zero]
  have H30 := WirS.hide (H28.out.more hb)
  clear H28
  clear hb
  refine sV (.tuple #[.agg (b8 XX).toArray, .int .i64 EC]) (u29) (by kernel_rfl) (by kernel_rfl) ?_
  simp only [Act.put, List.setIfInBounds_toArray, List.set_cons_succ, List.set_cons_zero]
  refine sV (.agg (b8 XX).toArray) (u29) (by kernel_rfl) (by kernel_rfl) ?_
  simp only [Act.put, List.setIfInBounds_toArray, List.set_cons_succ, List.set_cons_zero]
  refine sV (.int .i64 EC) (u29) (by kernel_rfl) (by kernel_rfl) ?_
  simp only [Act.put, List.setIfInBounds_toArray, List.set_cons_succ, List.set_cons_zero]
  refine sV (.pointer (some ⟨u29.heap.size, 0, none⟩)) (u29.alloc (.cells (b8 (List.replicate 32 0)).toArray 39)) (by kernel_rfl) (alH _ _ (by rfl) u29) ?_
  simp only [Act.put, List.setIfInBounds_toArray, List.set_cons_succ, List.set_cons_zero]
  obtain ⟨RX, eRX⟩ : ∃ A, u29.heap.size = A := ⟨_, rfl⟩
  have hbRX := bag_box (T := 39) (cs := (b8 (List.replicate 32 0))) (X := RX) H30.out eRX.symm (w' := u29.alloc (.cells (b8 (List.replicate 32 0)).toArray 39)) (by rw [← eRX]; exact At.new _ _ _) (Below.alloc (Below.refl _ _) (Nat.le_refl _) _)
  rw [eRX]
  clear eRX
  generalize World.alloc u29 _ = u31 at *
  have H32 := WirS.hide (hbRX)
  clear H30
  clear hbRX
  refine stepStore (by rfl) _ _ _ (by rfl) RX (b8 XX) (by kernel_rfl) (by kernel_rfl) H32.out.head 32 (by kernel_rfl) (by rw [b8_len]; rfl) (by rw [b8_len]; exact HXL.out) (oneCells_b8 _) ?_
  simp only [Act.put]
  have H34 := WirS.hide (bag_row H32.out (b8 XX))
  clear H32
  generalize World.setRow u31 RX _ = u33 at *
  go_upto_region 11 with fail
  refine wp_region_lit ?_
  refine sV (.slice a n c) (u33) (by kernel_rfl) (by kernel_rfl) ?_
  simp only [Act.put, List.setIfInBounds_toArray, List.set_cons_succ, List.set_cons_zero]
  refine sC (R := fun w' => Below u33.heap.size u33 w') (v := .tuple #[.agg (b8 XX).toArray, .int .i64 EC]) (by kernel_rfl) (by kernel_rfl) (HH2.out u33 H34.out.low) ?_
  rintro u35 hb
  simp only [Act.put, List.setIfInBounds_toArray, List.set_cons_succ, List.set_cons_zero]
  have H36 := WirS.hide (H34.out.more hb)
  clear H34
  clear hb
  refine sV (.tuple #[.agg (b8 XX).toArray, .int .i64 EC]) (u35) (by kernel_rfl) (by kernel_rfl) ?_
  simp only [Act.put, List.setIfInBounds_toArray, List.set_cons_succ, List.set_cons_zero]
  refine sV (.agg (b8 XX).toArray) (u35) (by kernel_rfl) (by kernel_rfl) ?_
  simp only [Act.put, List.setIfInBounds_toArray, List.set_cons_succ, List.set_cons_zero]
  refine sV (.int .i64 EC) (u35) (by kernel_rfl) (by kernel_rfl) ?_
  simp only [Act.put, List.setIfInBounds_toArray, List.set_cons_succ, List.set_cons_zero]
  refine sV (.pointer (some ⟨u35.heap.size, 0, none⟩)) (u35.alloc (.cells (b8 (List.replicate 32 0)).toArray 39)) (by kernel_rfl) (alH _ _ (by rfl) u35) ?_
  simp only [Act.put, List.setIfInBounds_toArray, List.set_cons_succ, List.set_cons_zero]
  obtain ⟨RY, eRY⟩ : ∃ A, u35.heap.size = A := ⟨_, rfl⟩
  have hbRY := bag_box (T := 39) (cs := (b8 (List.replicate 32 0))) (X := RY) H36.out eRY.symm (w' := u35.alloc (.cells (b8 (List.replicate 32 0)).toArray 39)) (by rw [← eRY]; exact At.new _ _ _) (Below.alloc (Below.refl _ _) (Nat.le_refl _) _)
  rw [eRY]
  clear eRY
  generalize World.alloc u35 _ = u37 at *
  have H38 := WirS.hide (hbRY)
  clear H36
  clear hbRY
  refine stepStore (by rfl) _ _ _ (by rfl) RY (b8 XX) (by kernel_rfl) (by kernel_rfl) H38.out.head 32 (by kernel_rfl) (by rw [b8_len]; rfl) (by rw [b8_len]; exact HXL.out) (oneCells_b8 _) ?_
  simp only [Act.put]
  have H40 := WirS.hide (bag_row H38.out (b8 XX))
  clear H38
  generalize World.setRow u37 RY _ = u39 at *
  have hbn : ZZ.length = bn := by obtain ⟨_, _, e, _⟩ := (show WirM.Own u39 5 (.slice ba bn bc) ZZ from (H40.out.all (own (.slice ba bn bc) ZZ) (by simp)).1).bin; cases e; rfl
  have HBN := WirS.hide hbn
  clear hbn
  go_upto_region 12 with fail
  refine wp_region_lit ?_
  refine sL (by kernel_rfl) _ _ (by rfl) _ (by kernel_rfl) (H40.out.all (box 29 P [.int .u64 TH, .int .u64 TL]) (by simp)).1 _ _ Tryz.underlying29 rfl (by kernel_rfl) (by rfl) ?_
  simp only [Act.put, List.setIfInBounds_toArray, List.set_cons_succ, List.set_cons_zero]
  refine sL (by kernel_rfl) _ _ (by rfl) _ (by kernel_rfl) (H40.out.all (box 29 Q [.int .u64 TH, .int .u64 TL]) (by simp)).1 _ _ Tryz.underlying29 rfl (by kernel_rfl) (by rfl) ?_
  simp only [Act.put, List.setIfInBounds_toArray, List.set_cons_succ, List.set_cons_zero]
  refine sB (by kernel_rfl) .eql _ _ _ _ (by rfl) (.agg #[.int .u64 TH, .int .u64 TL]) (.agg #[.int .u64 TH, .int .u64 TL]) (by kernel_rfl) (by kernel_rfl) (.bool true) (wide_eqx TH TL u39) (by kernel_rfl) ?_
  simp only [Act.put, List.setIfInBounds_toArray, List.set_cons_succ, List.set_cons_zero]
  refine sV (.bool true) (u39) (by kernel_rfl) (by kernel_rfl) ?_
  simp only [Act.put, List.setIfInBounds_toArray, List.set_cons_succ, List.set_cons_zero]
  refine sV (.int .i64 EC) (u39) (by kernel_rfl) (by kernel_rfl) ?_
  simp only [Act.put, List.setIfInBounds_toArray, List.set_cons_succ, List.set_cons_zero]
  refine sV (.int .i64 EC) (u39) (by kernel_rfl) (by kernel_rfl) ?_
  simp only [Act.put, List.setIfInBounds_toArray, List.set_cons_succ, List.set_cons_zero]
  refine sB (by kernel_rfl) .eql _ _ _ _ (by rfl) (.int .i64 EC) (.int .i64 EC) (by kernel_rfl) (by kernel_rfl) (.bool true) (eqE EC u39) (by kernel_rfl) ?_
  simp only [Act.put, List.setIfInBounds_toArray, List.set_cons_succ, List.set_cons_zero]
  refine sV (.bool true) (u39) (by kernel_rfl) (by kernel_rfl) ?_
  simp only [Act.put, List.setIfInBounds_toArray, List.set_cons_succ, List.set_cons_zero]
  refine sV (.bool true) (u39) (by kernel_rfl) (by kernel_rfl) ?_
  simp only [Act.put, List.setIfInBounds_toArray, List.set_cons_succ, List.set_cons_zero]
  refine sV (.int .i64 FI) (u39) (by kernel_rfl) (by kernel_rfl) ?_
  simp only [Act.put, List.setIfInBounds_toArray, List.set_cons_succ, List.set_cons_zero]
  refine sV (.int .i64 FI) (u39) (by kernel_rfl) (by kernel_rfl) ?_
  simp only [Act.put, List.setIfInBounds_toArray, List.set_cons_succ, List.set_cons_zero]
  refine sB (by kernel_rfl) .eql _ _ _ _ (by rfl) (.int .i64 FI) (.int .i64 FI) (by kernel_rfl) (by kernel_rfl) (.bool true) (eqI FI u39) (by kernel_rfl) ?_
  simp only [Act.put, List.setIfInBounds_toArray, List.set_cons_succ, List.set_cons_zero]
  refine sV (.bool true) (u39) (by kernel_rfl) (by kernel_rfl) ?_
  simp only [Act.put, List.setIfInBounds_toArray, List.set_cons_succ, List.set_cons_zero]
  refine sV (.bool true) (u39) (by kernel_rfl) (by kernel_rfl) ?_
  simp only [Act.put, List.setIfInBounds_toArray, List.set_cons_succ, List.set_cons_zero]
  refine sV (.bool FB) (u39) (by kernel_rfl) (by kernel_rfl) ?_
  simp only [Act.put, List.setIfInBounds_toArray, List.set_cons_succ, List.set_cons_zero]
  refine sV (.bool FB) (u39) (by kernel_rfl) (by kernel_rfl) ?_
  simp only [Act.put, List.setIfInBounds_toArray, List.set_cons_succ, List.set_cons_zero]
  refine sB (by kernel_rfl) .eql _ _ _ _ (by rfl) (.bool FB) (.bool FB) (by kernel_rfl) (by kernel_rfl) (.bool true) (eqB FB u39) (by kernel_rfl) ?_
  simp only [Act.put, List.setIfInBounds_toArray, List.set_cons_succ, List.set_cons_zero]
  refine sV (.bool true) (u39) (by kernel_rfl) (by kernel_rfl) ?_
  simp only [Act.put, List.setIfInBounds_toArray, List.set_cons_succ, List.set_cons_zero]
  refine sV (.bool true) (u39) (by kernel_rfl) (by kernel_rfl) ?_
  simp only [Act.put, List.setIfInBounds_toArray, List.set_cons_succ, List.set_cons_zero]
  refine sV (.slice ba bn bc) (u39) (by kernel_rfl) (by kernel_rfl) ?_
  simp only [Act.put, List.setIfInBounds_toArray, List.set_cons_succ, List.set_cons_zero]
  refine sV (.slice ea en ec) (u39) (by kernel_rfl) (by kernel_rfl) ?_
  simp only [Act.put, List.setIfInBounds_toArray, List.set_cons_succ, List.set_cons_zero]
  refine sC (R := fun w' => u39 = w') (v := .bool true) (by kernel_rfl) (by kernel_rfl) ((show Calls Tryz.prog 14 #[.slice ba bn bc, .slice ea en ec] u39 (fun e w' => e = .returned (.bool true) ∧ u39 = w') from by
      have C := WirU.same_any u39 ba ea bn bc en ec ZZ ZZ ((show WirM.Own u39 5 (.slice ba bn bc) ZZ from (H40.out.all (own (.slice ba bn bc) ZZ) (by simp)).1).bin) ((show WirM.Own u39 5 (.slice ea en ec) ZZ from (H40.out.all (own (.slice ea en ec) ZZ) (by simp)).1).bin) HZR.out HZR.out
      rw [decide_eq_true rfl] at C
      exact C)) ?_
  rintro _ rfl
  simp only [Act.put, List.setIfInBounds_toArray, List.set_cons_succ, List.set_cons_zero]
  refine sV (.bool true) (u39) (by kernel_rfl) (by kernel_rfl) ?_
  simp only [Act.put, List.setIfInBounds_toArray, List.set_cons_succ, List.set_cons_zero]
  refine sV (.bool true) (u39) (by kernel_rfl) (by kernel_rfl) ?_
  simp only [Act.put, List.setIfInBounds_toArray, List.set_cons_succ, List.set_cons_zero]
  refine sV (.int .i64 EC) (u39) (by kernel_rfl) (by kernel_rfl) ?_
  simp only [Act.put, List.setIfInBounds_toArray, List.set_cons_succ, List.set_cons_zero]
  refine sV (.int .i64 EC) (u39) (by kernel_rfl) (by kernel_rfl) ?_
  simp only [Act.put, List.setIfInBounds_toArray, List.set_cons_succ, List.set_cons_zero]
  refine sB (by kernel_rfl) .eql _ _ _ _ (by rfl) (.int .i64 EC) (.int .i64 EC) (by kernel_rfl) (by kernel_rfl) (.bool true) (eqE EC u39) (by kernel_rfl) ?_
  simp only [Act.put, List.setIfInBounds_toArray, List.set_cons_succ, List.set_cons_zero]
  refine sV (.bool true) (u39) (by kernel_rfl) (by kernel_rfl) ?_
  simp only [Act.put, List.setIfInBounds_toArray, List.set_cons_succ, List.set_cons_zero]
  refine sV (.bool true) (u39) (by kernel_rfl) (by kernel_rfl) ?_
  simp only [Act.put, List.setIfInBounds_toArray, List.set_cons_succ, List.set_cons_zero]
  refine sL (by kernel_rfl) _ _ (by rfl) _ (by kernel_rfl) (H40.out.all (box 39 RX (b8 XX)) (by simp)).1 _ _ Tryz.underlying39 rfl (by kernel_rfl) (by rw [b8_len, HXL.out]) ?_
  simp only [Act.put, List.setIfInBounds_toArray, List.set_cons_succ, List.set_cons_zero]
  refine sL (by kernel_rfl) _ _ (by rfl) _ (by kernel_rfl) (H40.out.all (box 39 RY (b8 XX)) (by simp)).1 _ _ Tryz.underlying39 rfl (by kernel_rfl) (by rw [b8_len, HXL.out]) ?_
  simp only [Act.put, List.setIfInBounds_toArray, List.set_cons_succ, List.set_cons_zero]
  refine sB (by kernel_rfl) .eql _ _ _ _ (by rfl) (.agg (b8 XX).toArray) (.agg (b8 XX).toArray) (by kernel_rfl) (by kernel_rfl) (.bool true) (eqX XX HXL.out u39) (by kernel_rfl) ?_
  simp only [Act.put, List.setIfInBounds_toArray, List.set_cons_succ, List.set_cons_zero]
  refine sV (.bool true) (u39) (by kernel_rfl) (by kernel_rfl) ?_
  simp only [Act.put, List.setIfInBounds_toArray, List.set_cons_succ, List.set_cons_zero]
  refine sV (.bool true) (u39) (by kernel_rfl) (by kernel_rfl) ?_
  simp only [Act.put, List.setIfInBounds_toArray, List.set_cons_succ, List.set_cons_zero]
  refine sV (.int .i64 EC) (u39) (by kernel_rfl) (by kernel_rfl) ?_
  simp only [Act.put, List.setIfInBounds_toArray, List.set_cons_succ, List.set_cons_zero]
  refine sV (.int .i64 EC) (u39) (by kernel_rfl) (by kernel_rfl) ?_
  simp only [Act.put, List.setIfInBounds_toArray, List.set_cons_succ, List.set_cons_zero]
  refine sB (by kernel_rfl) .eql _ _ _ _ (by rfl) (.int .i64 EC) (.int .i64 EC) (by kernel_rfl) (by kernel_rfl) (.bool true) (eqE EC u39) (by kernel_rfl) ?_
  simp only [Act.put, List.setIfInBounds_toArray, List.set_cons_succ, List.set_cons_zero]
  refine sV (.bool true) (u39) (by kernel_rfl) (by kernel_rfl) ?_
  simp only [Act.put, List.setIfInBounds_toArray, List.set_cons_succ, List.set_cons_zero]
  refine sV (.bool true) (u39) (by kernel_rfl) (by kernel_rfl) ?_
  simp only [Act.put, List.setIfInBounds_toArray, List.set_cons_succ, List.set_cons_zero]
  refine sV (.slice va n vc) (u39) (by kernel_rfl) (by kernel_rfl) ?_
  simp only [Act.put, List.setIfInBounds_toArray, List.set_cons_succ, List.set_cons_zero]
  refine sC (R := fun w' => Below u39.heap.size u39 w') (v := .int .i64 EC) (by kernel_rfl) (by kernel_rfl) (HC1.out u39 va vc ((show OwnV u39 (.slice va n vc) vs from (H40.out.all (ownv (.slice va n vc) vs) (by simp)).1).vin)) ?_
  rintro u41 hb
  simp only [Act.put, List.setIfInBounds_toArray, List.set_cons_succ, List.set_cons_zero]
  have H42 := WirS.hide (H40.out.more hb)
  clear H40
  clear hb
  refine sV (.slice a n c) (u41) (by kernel_rfl) (by kernel_rfl) ?_
  simp only [Act.put, List.setIfInBounds_toArray, List.set_cons_succ, List.set_cons_zero]
  refine sC (R := fun w' => Below u41.heap.size u41 w') (v := .int .i64 EC) (by kernel_rfl) (by kernel_rfl) (HC2.out u41 H42.out.low) ?_
  rintro u43 hb
  simp only [Act.put, List.setIfInBounds_toArray, List.set_cons_succ, List.set_cons_zero]
  have H44 := WirS.hide (H42.out.more hb)
  clear H42
  clear hb
  refine sB (by kernel_rfl) .eql _ _ _ _ (by rfl) (.int .i64 EC) (.int .i64 EC) (by kernel_rfl) (by kernel_rfl) (.bool true) (eqE EC u43) (by kernel_rfl) ?_
  simp only [Act.put, List.setIfInBounds_toArray, List.set_cons_succ, List.set_cons_zero]
  refine sV (.bool true) (u43) (by kernel_rfl) (by kernel_rfl) ?_
  simp only [Act.put, List.setIfInBounds_toArray, List.set_cons_succ, List.set_cons_zero]
  go_upto_region 13 with fail
  refine wp_region_lit ?_
  refine sV (.slice ba bn bc) (u43) (by kernel_rfl) (by kernel_rfl) ?_
  simp only [Act.put, List.setIfInBounds_toArray, List.set_cons_succ, List.set_cons_zero]
  have H45 := WirS.hide (H44.out.perm (show [box 39 RY (b8 XX), box 39 RX (b8 XX), own (.slice ea en ec) ZZ, own (.slice ba bn bc) ZZ, box 29 Q [.int .u64 TH, .int .u64 TL], box 29 P [.int .u64 TH, .int .u64 TL], ownv (.slice va n vc) vs, box 24 K (kcl kv)].Perm [own (.slice ba bn bc) ZZ, box 39 RY (b8 XX), box 39 RX (b8 XX), own (.slice ea en ec) ZZ, box 29 Q [.int .u64 TH, .int .u64 TL], box 29 P [.int .u64 TH, .int .u64 TL], ownv (.slice va n vc) vs, box 24 K (kcl kv)] from ((List.perm_middle (l₁ := [box 39 RY (b8 XX), box 39 RX (b8 XX), own (.slice ea en ec) ZZ])).trans (.cons _ ((List.perm_middle (l₁ := [])).trans (.cons _ ((List.perm_middle (l₁ := [])).trans (.cons _ ((List.perm_middle (l₁ := [])).trans (.cons _ ((List.perm_middle (l₁ := [])).trans (.cons _ ((List.perm_middle (l₁ := [])).trans (.cons _ ((List.perm_middle (l₁ := [])).trans (.cons _ ((List.perm_middle (l₁ := [])).trans (.cons _ (.refl _)))))))))))))))))))
  clear H44
  refine sC (R := fun w' => Fr (fun k => (Value.slice ba bn bc).ownBlock = some k) u43 w') (v := .tuple #[]) (by kernel_rfl) (by kernel_rfl) ((KitB.over_any u43 ba bn bc ZZ H45.out.head (by have h1 := HBN.out; have h2 := HZL.out; omega)).mono fun e w' ⟨h1, h2, h3⟩ => ⟨h1, h3⟩) ?_
  rintro u46 hf
  simp only [Act.put, List.setIfInBounds_toArray, List.set_cons_succ, List.set_cons_zero]
  have H47 := WirS.hide ((H45.out.act (o' := gone) hf trivial (fun _ h => h.elim)).drop)
  clear H45
  clear hf
  go_upto_region 14 with fail
  refine wp_region_lit ?_
  refine sV (.bool true) (u46) (by kernel_rfl) (by kernel_rfl) ?_
  simp only [Act.put, List.setIfInBounds_toArray, List.set_cons_succ, List.set_cons_zero]
  refine sV (.bool true) (u46) (by kernel_rfl) (by kernel_rfl) ?_
  simp only [Act.put, List.setIfInBounds_toArray, List.set_cons_succ, List.set_cons_zero]
  refine sV (.slice va n vc) (u46) (by kernel_rfl) (by kernel_rfl) ?_
  simp only [Act.put, List.setIfInBounds_toArray, List.set_cons_succ, List.set_cons_zero]
  refine sV (.slice a n c) (u46) (by kernel_rfl) (by kernel_rfl) ?_
  simp only [Act.put, List.setIfInBounds_toArray, List.set_cons_succ, List.set_cons_zero]
  refine sC (R := fun w' => Below u46.heap.size u46 w') (v := .bool true) (by kernel_rfl) (by kernel_rfl) (CmSv.same_any u46 va a n vc c vs ((show OwnV u46 (.slice va n vc) vs from (H47.out.all (ownv (.slice va n vc) vs) (by simp)).1).vin) (HV.out.below H47.out.low)) ?_
  rintro u48 hb
  simp only [Act.put, List.setIfInBounds_toArray, List.set_cons_succ, List.set_cons_zero]
  have H49 := WirS.hide (H47.out.more hb)
  clear H47
  clear hb
  refine sV (.bool true) (u48) (by kernel_rfl) (by kernel_rfl) ?_
  simp only [Act.put, List.setIfInBounds_toArray, List.set_cons_succ, List.set_cons_zero]
  refine sV (.bool true) (u48) (by kernel_rfl) (by kernel_rfl) ?_
  simp only [Act.put, List.setIfInBounds_toArray, List.set_cons_succ, List.set_cons_zero]
  refine sC (R := fun w' => Below u48.heap.size u48 w') (v := .bool true) (by kernel_rfl) (by kernel_rfl) (ValS.awake_any u48) ?_
  rintro u50 hb
  simp only [Act.put, List.setIfInBounds_toArray, List.set_cons_succ, List.set_cons_zero]
  have H51 := WirS.hide (H49.out.more hb)
  clear H49
  clear hb
  refine sV (.bool true) (u50) (by kernel_rfl) (by kernel_rfl) ?_
  simp only [Act.put, List.setIfInBounds_toArray, List.set_cons_succ, List.set_cons_zero]
  go_wp2_with fail
  go_ret
  exact ⟨rfl, H51.out.low⟩
theorem tells_row (w : World) (a : Option Addr) (n c : Nat) (vs : List Vd) (kv : Vd) (hv : VIn w a n c vs) (_ : kv.ok) (hg : Glob w) : Calls Tryz.prog 3 #[.slice a n c, .agg #[.int .u8 kv.a, .int .u8 kv.b, .int .u8 kv.c, .int .u8 kv.d]] w fun e w' => e = .returned (.bool true) ∧ Below w.heap.size w w' := by
  by_cases h1 : 80 < n
  · exact tells_a w a n c vs kv hv hg h1
  · exact tells_b w a n c vs kv hv hg h1
end VtL
end Go.Proofs.YtpambhlhkmkagaaGreatDoor

