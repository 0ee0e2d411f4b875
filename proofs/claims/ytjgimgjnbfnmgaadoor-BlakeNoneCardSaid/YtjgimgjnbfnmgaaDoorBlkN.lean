/-
  BlakeNone walked: a state that is nil, or that nobody made, takes nothing.
-/
import Derived.Test.YtjgimgjnbfnmgaaDoorBlkU
namespace Go.Proofs.YtjgimgjnbfnmgaaDoor
namespace BlkN
open Go.RowKit
open BlkM BlkA BlkG BlkI BlkJ BlkK BlkL BlkO BlkP BlkQ BlkR BlkU
def nil75 : List Value := .pointer none :: BlkG.z0
theorem idxN (Z : Nat) (a : Operand → Value) (o : Oper) (x y : Operand) (ho : o.op = Op.indexAddr 47 x y) (hx : a x = .slice (some ⟨Z + 1, 0, none⟩) 2 2) (W : World) : ∀ k : Nat, k < 2 → a y = .int .i64 (k : Int) →
    (execOp a o).run Tryd.prog W = .ok (.value (.pointer (some ⟨Z + 1, k, none⟩))) W
  | 0, _, hy => by
    unfold execOp
    rw [ho]
    simp only [hx, hy]
    kernel_rfl
  | 1, _, hy => by
    unfold execOp
    rw [ho]
    simp only [hx, hy]
    kernel_rfl
  | n + 2, h, _ => absurd h (by omega)
/-- Where the loop stands. -/
def MidN (W : World) (i : Value) (U : World) : Prop := ∃ k : Nat, k ≤ 2 ∧ i = .int .i64 (k : Int) ∧ Below W.heap.size W U
set_option maxRecDepth 10000 in
set_option maxHeartbeats 2000000 in
theorem none_any (w : World) (a : Option Addr) (len cap : Nat) (zs : List Int) (_h : BIn w (.slice a len cap) zs ∧ rng zs) (hg : Glob w) : Calls Tryd.prog 5 #[.slice a len cap] w fun e w' => e = .returned (.bool true) ∧ Below w.heap.size w w' := by
  have HG := hide hg
  by_cases h200 : len ≤ 200
  · have t0 : ¬ (200 : Int) < (len : Int) := by omega
    obtain ⟨Z, eZ⟩ : ∃ Z, Z = w.heap.size := ⟨_, rfl⟩
    obtain ⟨W1, eW1⟩ : ∃ X, X = w.alloc (.cells nil75.toArray 46) := ⟨_, rfl⟩
    obtain ⟨W, eW⟩ : ∃ X, X = W1.alloc (.cells #[.pointer none, .pointer (some ⟨Z, 0, none⟩)] 36) := ⟨_, rfl⟩
    have hs1 : W1.heap.size = Z + 1 := by rw [eW1, eZ]; simp
    have hAz : At W Z 46 nil75 := by rw [eW, eW1, eZ]; exact (At.new w _ _).alloc _
    have hAl : At W (Z + 1) 36 [.pointer none, .pointer (some ⟨Z, 0, none⟩)] := by rw [eW, ← hs1]; exact At.new W1 _ _
    have hB0 : Below w.heap.size w W := by rw [eW, eW1]; exact Below.alloc (Below.alloc (Below.refl _ _) (Nat.le_refl _) _) (by simp) _
    have hZ : Z < W.heap.size := hAz.lt
    have hA2 : Z + 1 < W.heap.size := hAl.lt
    have hne := fun Y => neqH zH zH (by rfl) (by rfl) Y
    rw [decide_eq_true (rfl : zH = zH)] at hne
    have E1 := hide eW1
    have E2 := hide eW
    have EZ := hide eZ
    have HS1 := hide hs1
    have HAZ := hide hAz
    have HAL := hide hAl
    have HB0 := hide hB0
    have HW0 := hide HG.out.1
    clear eW1 eW eZ hs1 hAz hAl hB0 h200 hg
    go_enter Tryd.func5, Tryd.ntmps5
    go_upto_region 3 with fail
    refine wp_region_lit ?_
    refine stepVal (v := .agg nil75.toArray) (w' := w) (by rfl) (by kernel_rfl) ?_
    refine stepVal (v := .pointer (some ⟨Z, 0, none⟩)) (w' := W1) (by rfl) (by rw [E1.out, EZ.out]; kernel_rfl) ?_
    refine stepVal (v := .slice (some ⟨Z + 1, 0, none⟩) 2 2) (w' := W) (by rfl) (by rw [E2.out, ← HS1.out]; kernel_rfl) ?_
    go_wp2_with fail
    go_loopw [4] (fun i wr => MidN W i wr) (fun i _ => 2 - (intOf i).toNat)
    case atStart => exact ⟨0, by omega, rfl, Below.refl _ _⟩
    case round =>
      obtain ⟨k, hk, rfl, hB⟩ := hrel
      by_cases hlt : k < 2
      · obtain ⟨p, hp, hp2, hps⟩ : ∃ p : Option Addr, (∀ U, Below W.heap.size W U → U.cell? ⟨Z + 1, k, none⟩ = some (.pointer p)) ∧ (∀ U, Below W.heap.size W U → NoSt U p) ∧ (∀ S, p = some ⟨S, 0, none⟩ → S < W.heap.size) := by
          have hc := fun U (hU : Below W.heap.size W U) => (HAL.out.below hU hA2).cell k
          match k, hlt with
          | 0, _ => exact ⟨none, hc, fun U _ => .inl rfl, fun S h => by cases h⟩
          | 1, _ => exact ⟨some ⟨Z, 0, none⟩, hc, fun U hU => .inr ⟨Z, rfl, (HAZ.out.below hU hZ).cell 0⟩, fun S h => by cases h; exact hZ⟩
        have hk2 : (k : Int) < 2 := by omega
        have HPA := hide hp
        have hp0 := hp wr hB
        clear hp
        have NS := hide hp2
        have PS := hide hps
        have HB := hide hB
        have hsz := hB.size
        clear hp2 hps
        have K0 := hide (ssum_none wr p (NS.out wr hB) (fun S h => Nat.lt_of_lt_of_le (PS.out S h) hsz))
        clear hB
        go_upto_region 7 with fail
        refine wp_region_lit ?_
        refine sV (.slice (some ⟨Z + 1, 0, none⟩) 2 2) wr (by kernel_rfl) (by kernel_rfl) ?_
        simp only [Act.put, List.setIfInBounds_toArray, List.set_cons_succ, List.set_cons_zero]
        refine sV (.int .i64 (k : Int)) wr (by kernel_rfl) (by kernel_rfl) ?_
        simp only [Act.put, List.setIfInBounds_toArray, List.set_cons_succ, List.set_cons_zero]
        refine sV (.pointer (some ⟨Z + 1, k, none⟩)) wr (by kernel_rfl) (idxN Z _ _ _ _ (by rfl) (by kernel_rfl) _ k hlt (by kernel_rfl)) ?_
        simp only [Act.put, List.setIfInBounds_toArray, List.set_cons_succ, List.set_cons_zero]
        refine sP (by kernel_rfl) _ _ (by rfl) ⟨Z + 1, k, none⟩ (by kernel_rfl) (.pointer p) hp0 (by kernel_rfl) ?_
        simp only [Act.put, List.setIfInBounds_toArray, List.set_cons_succ, List.set_cons_zero]
        refine sC (by kernel_rfl) (by kernel_rfl) K0.out ?_
        intro u1 hu1
        simp only [Act.put, List.setIfInBounds_toArray, List.set_cons_succ, List.set_cons_zero]
        refine sV (.tuple #[.agg (b8 zH).toArray, .int .i64 1]) u1 (by kernel_rfl) (by kernel_rfl) ?_
        simp only [Act.put, List.setIfInBounds_toArray, List.set_cons_succ, List.set_cons_zero]
        refine sV (.agg (b8 zH).toArray) u1 (by kernel_rfl) (by kernel_rfl) ?_
        simp only [Act.put, List.setIfInBounds_toArray, List.set_cons_succ, List.set_cons_zero]
        refine sV (.int .i64 1) u1 (by kernel_rfl) (by kernel_rfl) ?_
        simp only [Act.put, List.setIfInBounds_toArray, List.set_cons_succ, List.set_cons_zero]
        refine stepVal (v := .pointer (some ⟨u1.heap.size, 0, none⟩)) (w' := u1.alloc (.cells (b8 zH).toArray 26)) (by rfl) (alH _ _ rfl u1) ?_
        refine stepStore (by rfl) _ _ _ (by rfl) _ (b8 zH) (by kernel_rfl) (by kernel_rfl) (At.new u1 26 (b8 zH)) 32 (by kernel_rfl) (by rw [b8_len]; rfl) (by rw [b8_len]; rfl) (oneCells_b8 _) ?_
        obtain ⟨H, eH⟩ : ∃ H, H = u1.heap.size := ⟨_, rfl⟩
        obtain ⟨U, eU⟩ : ∃ X, X = (u1.alloc (.cells (b8 zH).toArray 26)).setRow u1.heap.size (b8 zH).toArray := ⟨_, rfl⟩
        have hAU : At U H 26 (b8 zH) := by rw [eU, eH]; exact (At.new u1 26 (b8 zH)).put _
        have hBU : Below W.heap.size W U := by
          rw [eU]
          have h5 := HB.out.trans (Below.mono hu1 hsz)
          exact Below.setRowOwn (h5.alloc h5.size _) h5.size _
        rw [← eU, ← eH]
        have hp1 := HPA.out U hBU
        have HAU := hide hAU
        have HBU := hide hBU
        clear eU eH hu1 hAU hBU K0
        go_upto_region 8 with fail
        refine wp_region_lit ?_
        refine sV (.slice (some ⟨Z + 1, 0, none⟩) 2 2) U (by kernel_rfl) (by kernel_rfl) ?_
        simp only [Act.put, List.setIfInBounds_toArray, List.set_cons_succ, List.set_cons_zero]
        refine sV (.int .i64 (k : Int)) U (by kernel_rfl) (by kernel_rfl) ?_
        simp only [Act.put, List.setIfInBounds_toArray, List.set_cons_succ, List.set_cons_zero]
        refine sV (.pointer (some ⟨Z + 1, k, none⟩)) U (by kernel_rfl) (idxN Z _ _ _ _ (by rfl) (by kernel_rfl) _ k hlt (by kernel_rfl)) ?_
        simp only [Act.put, List.setIfInBounds_toArray, List.set_cons_succ, List.set_cons_zero]
        refine sP (by kernel_rfl) _ _ (by rfl) ⟨Z + 1, k, none⟩ (by kernel_rfl) (.pointer p) hp1 (by kernel_rfl) ?_
        simp only [Act.put, List.setIfInBounds_toArray, List.set_cons_succ, List.set_cons_zero]
        refine sV (.slice a len cap) U (by kernel_rfl) (by kernel_rfl) ?_
        simp only [Act.put, List.setIfInBounds_toArray, List.set_cons_succ, List.set_cons_zero]
        refine sC (v := .int .i64 1) (R := fun w' => U = w') (by kernel_rfl) (by kernel_rfl) (swrite_none U p (NS.out U HBU.out) a len cap) ?_
        rintro _ rfl
        simp only [Act.put, List.setIfInBounds_toArray, List.set_cons_succ, List.set_cons_zero]
        refine sV (.bool false) U (by kernel_rfl) (by kernel_rfl) ?_
        simp only [Act.put, List.setIfInBounds_toArray, List.set_cons_succ, List.set_cons_zero]
        refine sV (.bool false) U (by kernel_rfl) (by kernel_rfl) ?_
        simp only [Act.put, List.setIfInBounds_toArray, List.set_cons_succ, List.set_cons_zero]
        refine sV (.slice (some ⟨Z + 1, 0, none⟩) 2 2) U (by kernel_rfl) (by kernel_rfl) ?_
        simp only [Act.put, List.setIfInBounds_toArray, List.set_cons_succ, List.set_cons_zero]
        refine sV (.int .i64 (k : Int)) U (by kernel_rfl) (by kernel_rfl) ?_
        simp only [Act.put, List.setIfInBounds_toArray, List.set_cons_succ, List.set_cons_zero]
        refine sV (.pointer (some ⟨Z + 1, k, none⟩)) U (by kernel_rfl) (idxN Z _ _ _ _ (by rfl) (by kernel_rfl) _ k hlt (by kernel_rfl)) ?_
        simp only [Act.put, List.setIfInBounds_toArray, List.set_cons_succ, List.set_cons_zero]
        refine sP (by kernel_rfl) _ _ (by rfl) ⟨Z + 1, k, none⟩ (by kernel_rfl) (.pointer p) hp1 (by kernel_rfl) ?_
        simp only [Act.put, List.setIfInBounds_toArray, List.set_cons_succ, List.set_cons_zero]
        refine sC (v := .int .i64 0) (R := fun w' => U = w') (by kernel_rfl) (by kernel_rfl) (slen_none U p (NS.out U HBU.out)) ?_
        rintro _ rfl
        simp only [Act.put, List.setIfInBounds_toArray, List.set_cons_succ, List.set_cons_zero]
        refine sV (.bool false) U (by kernel_rfl) (by kernel_rfl) ?_
        simp only [Act.put, List.setIfInBounds_toArray, List.set_cons_succ, List.set_cons_zero]
        refine sV (.bool false) U (by kernel_rfl) (by kernel_rfl) ?_
        simp only [Act.put, List.setIfInBounds_toArray, List.set_cons_succ, List.set_cons_zero]
        refine sV (.bool false) U (by kernel_rfl) (by kernel_rfl) ?_
        simp only [Act.put, List.setIfInBounds_toArray, List.set_cons_succ, List.set_cons_zero]
        refine sL (by kernel_rfl) _ _ (by rfl) _ (by kernel_rfl) HAU.out _ 32 Tryd.underlying26 rfl (by kernel_rfl) (by rw [b8_len]; rfl) ?_
        simp only [Act.put, List.setIfInBounds_toArray, List.set_cons_succ, List.set_cons_zero]
        refine sV (.agg (b8 zH).toArray) U (by kernel_rfl) (by kernel_rfl) ?_
        simp only [Act.put, List.setIfInBounds_toArray, List.set_cons_succ, List.set_cons_zero]
        refine sB (by kernel_rfl) .neq 26 _ _ _ (by rfl) (.agg (b8 zH).toArray) (.agg (b8 zH).toArray) (by kernel_rfl) (by kernel_rfl) (.bool false) (hne U) (by kernel_rfl) ?_
        simp only [Act.put, List.setIfInBounds_toArray, List.set_cons_succ, List.set_cons_zero]
        refine sV (.bool false) U (by kernel_rfl) (by kernel_rfl) ?_
        simp only [Act.put, List.setIfInBounds_toArray, List.set_cons_succ, List.set_cons_zero]
        refine sV (.bool false) U (by kernel_rfl) (by kernel_rfl) ?_
        simp only [Act.put, List.setIfInBounds_toArray, List.set_cons_succ, List.set_cons_zero]
        refine sV (.int .i64 1) U (by kernel_rfl) (by kernel_rfl) ?_
        simp only [Act.put, List.setIfInBounds_toArray, List.set_cons_succ, List.set_cons_zero]
        refine sV (.bool false) U (by kernel_rfl) (by kernel_rfl) ?_
        simp only [Act.put, List.setIfInBounds_toArray, List.set_cons_succ, List.set_cons_zero]
        refine sV (.bool false) U (by kernel_rfl) (by kernel_rfl) ?_
        simp only [Act.put, List.setIfInBounds_toArray, List.set_cons_succ, List.set_cons_zero]
        go_wp2_with fail
        go_roundw
        case rel => exact ⟨k + 1, by omega, by go_num, HBU.out⟩
        case measure => simp [intOf]; omega
      · obtain rfl : k = 2 := by omega
        have HB := hide hB
        have HBW := hide (HB0.out.trans (hB.mono HB0.out.size))
        clear hB
        go_wp2_with ((go_at_call 9; refine (awake_any _ (HG.out.below HBW.out HW0.out)).mono ?_; rintro e w1 ⟨rfl, hb⟩))
        go_ret
        exact ⟨rfl, HBW.out.trans (hb.mono HBW.out.size)⟩
  · have t0 : (200 : Int) < (len : Int) := by omega
    go_enter Tryd.func5, Tryd.ntmps5
    go_wp2_with ((go_at_call 9; refine (awake_any _ HG.out).mono ?_; rintro e w1 ⟨rfl, hb⟩))
    go_ret
    exact ⟨rfl, hb⟩
end BlkN
end Go.Proofs.YtjgimgjnbfnmgaaDoor
