/-
  HdD, in one text.
-/
import Derived.Test.YthhnojnpjbklpaaPkQ
import Derived.Test.YthhnojnpjbklpaaPkM
import Derived.Test.YthhnojnpjbklpaaPkL
import Derived.Test.YthhnojnpjbklpaaPkC
import Derived.Deep.RegionHeld3
import Derived.Test.YthhnojnpjbklpaaPkS
import Derived.Test.YthhnojnpjbklpaaPkR
import Derived.Test.YthhnojnpjbklpaaPkO
namespace Go.Proofs.Ythhnojnpjbklpaa
namespace HdD
open Go.RowKit
open BlkM WirM WirS HdA HdB HdC HdE HdF HdG HdP HdQ
open WirD (numB)
open WirE (tb NewB)
open WirX (Thg Bag own bag_own)
open WirAA (box bag_box)
open WirAB (turn3 sCx)
open WirRT (rng)
open HdK
open ValSF (Lent lent_any kept_any)
open ValSP (lentT)

theorem rdec_eq {U : World} {b : Option Addr} {n c : Nat} {bs : List Int} {D : (Int × Int) × Hd} (h : hdec bs = D) (hb : BIn U (.slice b n c) bs) (hr : rng bs) (hn : n ≤ 1099511627776) :
    Calls Try.prog 62 #[.slice b n c] U fun e w' => e = .returned (.tuple #[.agg D.2.cells.toArray, .agg #[.int .i64 D.1.1, .int .i64 D.1.2]]) ∧ Below U.heap.size U w' := by
  have := HdM.rdecode_any U b n c bs hb hr hn
  rw [h] at this
  exact this
set_option maxRecDepth 20000 in
set_option maxHeartbeats 8000000 in
theorem decodes_row (w : World) (b : Option Addr) (n c : Nat) (bs : List Int) (h : BIn w (.slice b n c) bs ∧ rng bs) :
    Calls Try.prog 12 #[.slice b n c] w fun e w' => e = .returned (.bool true) ∧ Below w.heap.size w w' := by
  obtain ⟨hb, hr⟩ := h
  by_cases hn : 300 < n
  · have g1 : (300 : Int) < (n : Int) := by omega
    clear hb hr
    go_enter Try.func12, Try.ntmps12
    go_wp2_with (go_at_call 60; refine (awake_any _).mono ?_; rintro e u ⟨rfl, hb⟩; have HB := WirS.hide hb; clear hb)
    go_ret
    exact ⟨rfl, HB.out⟩
  have g1 : ¬ (300 : Int) < (n : Int) := by omega
  have HB := WirS.hide hb
  have HR := WirS.hide hr
  have HN := WirS.hide (show n ≤ 300 by omega)
  obtain ⟨fe, fa, T, hD⟩ : ∃ fe fa T, hdec bs = ((fe, fa), T) := ⟨_, _, _, rfl⟩
  have HD := WirS.hide hD
  clear hb hr hn hD
  go_enter Try.func12, Try.ntmps12
  go_upto_region 4 with (go_at_call 20; refine (lent_any _ b n c bs HB.out (by have := HN.out; omega)).mono ?_; rintro e u1 ⟨g, cL, rfl, hl, hg, hb⟩; have H1 := WirS.hide ((Bag.nil (Below.refl w.heap.size w)).new (o := lentT g n cL bs) hb hl (fun k hk => by subst hk; exact hg)); clear hl hg hb)
  refine wp_region_lit ?_
  refine sV (.slice (some ⟨g, 0, none⟩) n cL) (u1) (by kernel_rfl) (by kernel_rfl) ?_
  simp only [Act.put, List.setIfInBounds_toArray, List.set_cons_succ, List.set_cons_zero]
  refine sC (R := fun w' => Below u1.heap.size u1 w') (v := .tuple #[.agg (T).cells.toArray, .agg #[.int .i64 fe, .int .i64 fa]]) (by kernel_rfl) (by kernel_rfl) (dec_eq HD.out H1.out.head.head HR.out (by have := HN.out; omega)) ?_
  rintro q2 hb
  simp only [Act.put, List.setIfInBounds_toArray, List.set_cons_succ, List.set_cons_zero]
  have HB2 := WirS.hide (H1.out.more hb)
  clear hb
  refine sV (.tuple #[.agg (T).cells.toArray, .agg #[.int .i64 fe, .int .i64 fa]]) (q2) (by kernel_rfl) (by kernel_rfl) ?_
  simp only [Act.put, List.setIfInBounds_toArray, List.set_cons_succ, List.set_cons_zero]
  refine sV (.agg (T).cells.toArray) (q2) (by kernel_rfl) (by kernel_rfl) ?_
  simp only [Act.put, List.setIfInBounds_toArray, List.set_cons_succ, List.set_cons_zero]
  refine sV (.agg #[.int .i64 fe, .int .i64 fa]) (q2) (by kernel_rfl) (by kernel_rfl) ?_
  simp only [Act.put, List.setIfInBounds_toArray, List.set_cons_succ, List.set_cons_zero]
  refine sV (.pointer (some ⟨q2.heap.size, 0, none⟩)) (q2.alloc (.cells hd0.cells.toArray 94)) (by kernel_rfl) (al_hd _ _ (by rfl) q2) ?_
  simp only [Act.put, List.setIfInBounds_toArray, List.set_cons_succ, List.set_cons_zero]
  obtain ⟨A2, eA⟩ : ∃ A, q2.heap.size = A := ⟨_, rfl⟩
  have hbA := bag_box (T := HT) (cs := hd0.cells) (X := A2) HB2.out eA.symm (w' := q2.alloc (.cells hd0.cells.toArray 94)) (by rw [← eA]; exact At.new _ _ _) (Below.alloc (Below.refl _ _) (Nat.le_refl _) _)
  rw [eA]
  clear eA
  generalize World.alloc q2 _ = x2 at *
  refine sV (.pointer (some ⟨x2.heap.size, 0, none⟩)) (x2.alloc (.cells (f2 0 0).toArray 55)) (by kernel_rfl) (by kernel_rfl) ?_
  simp only [Act.put, List.setIfInBounds_toArray, List.set_cons_succ, List.set_cons_zero]
  obtain ⟨F2, eF⟩ : ∃ A, x2.heap.size = A := ⟨_, rfl⟩
  have hbF := bag_box (T := FT) (cs := f2 0 0) (X := F2) hbA eF.symm (w' := x2.alloc (.cells (f2 0 0).toArray 55)) (by rw [← eF]; exact At.new _ _ _) (Below.alloc (Below.refl _ _) (Nat.le_refl _) _)
  rw [eF]
  clear eF hbA HB2
  generalize World.alloc x2 _ = z2 at *
  refine stepStore (by rfl) _ _ _ (by rfl) A2 (T).cells (by kernel_rfl) (by kernel_rfl) hbF.swap.head 131 (by kernel_rfl) hd0.len (T).len (one_cells _) ?_
  simp only [Act.put]
  have hbG := (bag_row hbF.swap (T).cells).swap
  refine stepStore (by rfl) _ _ _ (by rfl) F2 (f2 fe fa) (by kernel_rfl) (by kernel_rfl) hbG.head 2 (by kernel_rfl) rfl rfl (by kernel_rfl) ?_
  simp only [Act.put]
  have H2 := WirS.hide (bag_row hbG (f2 fe fa))
  clear hbF hbG
  generalize World.setRow z2 A2 _ = t2 at *
  generalize World.setRow t2 F2 _ = y2 at *
  go_upto_region 5 with fail
  refine wp_region_lit ?_
  refine sV (.slice b n c) (y2) (by kernel_rfl) (by kernel_rfl) ?_
  simp only [Act.put, List.setIfInBounds_toArray, List.set_cons_succ, List.set_cons_zero]
  refine sC (R := fun w' => Below y2.heap.size y2 w') (v := .tuple #[.agg (T).cells.toArray, .agg #[.int .i64 fe, .int .i64 fa]]) (by kernel_rfl) (by kernel_rfl) (rdec_eq HD.out (HB.out.below H2.out.low) HR.out (by have := HN.out; omega)) ?_
  rintro q3 hb
  simp only [Act.put, List.setIfInBounds_toArray, List.set_cons_succ, List.set_cons_zero]
  have HB3 := WirS.hide (H2.out.more hb)
  clear hb
  refine sV (.tuple #[.agg (T).cells.toArray, .agg #[.int .i64 fe, .int .i64 fa]]) (q3) (by kernel_rfl) (by kernel_rfl) ?_
  simp only [Act.put, List.setIfInBounds_toArray, List.set_cons_succ, List.set_cons_zero]
  refine sV (.agg (T).cells.toArray) (q3) (by kernel_rfl) (by kernel_rfl) ?_
  simp only [Act.put, List.setIfInBounds_toArray, List.set_cons_succ, List.set_cons_zero]
  refine sV (.agg #[.int .i64 fe, .int .i64 fa]) (q3) (by kernel_rfl) (by kernel_rfl) ?_
  simp only [Act.put, List.setIfInBounds_toArray, List.set_cons_succ, List.set_cons_zero]
  refine sV (.pointer (some ⟨q3.heap.size, 0, none⟩)) (q3.alloc (.cells hd0.cells.toArray 94)) (by kernel_rfl) (al_hd _ _ (by rfl) q3) ?_
  simp only [Act.put, List.setIfInBounds_toArray, List.set_cons_succ, List.set_cons_zero]
  obtain ⟨A3, eA⟩ : ∃ A, q3.heap.size = A := ⟨_, rfl⟩
  have hbA := bag_box (T := HT) (cs := hd0.cells) (X := A3) HB3.out eA.symm (w' := q3.alloc (.cells hd0.cells.toArray 94)) (by rw [← eA]; exact At.new _ _ _) (Below.alloc (Below.refl _ _) (Nat.le_refl _) _)
  rw [eA]
  clear eA
  generalize World.alloc q3 _ = x3 at *
  refine sV (.pointer (some ⟨x3.heap.size, 0, none⟩)) (x3.alloc (.cells (f2 0 0).toArray 55)) (by kernel_rfl) (by kernel_rfl) ?_
  simp only [Act.put, List.setIfInBounds_toArray, List.set_cons_succ, List.set_cons_zero]
  obtain ⟨F3, eF⟩ : ∃ A, x3.heap.size = A := ⟨_, rfl⟩
  have hbF := bag_box (T := FT) (cs := f2 0 0) (X := F3) hbA eF.symm (w' := x3.alloc (.cells (f2 0 0).toArray 55)) (by rw [← eF]; exact At.new _ _ _) (Below.alloc (Below.refl _ _) (Nat.le_refl _) _)
  rw [eF]
  clear eF hbA HB3
  generalize World.alloc x3 _ = z3 at *
  refine stepStore (by rfl) _ _ _ (by rfl) A3 (T).cells (by kernel_rfl) (by kernel_rfl) hbF.swap.head 131 (by kernel_rfl) hd0.len (T).len (one_cells _) ?_
  simp only [Act.put]
  have hbG := (bag_row hbF.swap (T).cells).swap
  refine stepStore (by rfl) _ _ _ (by rfl) F3 (f2 fe fa) (by kernel_rfl) (by kernel_rfl) hbG.head 2 (by kernel_rfl) rfl rfl (by kernel_rfl) ?_
  simp only [Act.put]
  have H3 := WirS.hide (bag_row hbG (f2 fe fa))
  clear hbF hbG
  generalize World.setRow z3 A3 _ = t3 at *
  generalize World.setRow t3 F3 _ = y3 at *
  have d0 : y3.cell? ⟨F2, 0, none⟩ = some (.int .i64 fe) := H3.out.drop.drop.head.cell 0
  have d1 : y3.cell? ⟨F2, 1, none⟩ = some (.int .i64 fa) := H3.out.drop.drop.head.cell 1
  have e0 : y3.cell? ⟨F3, 0, none⟩ = some (.int .i64 fe) := H3.out.head.cell 0
  have e1 : y3.cell? ⟨F3, 1, none⟩ = some (.int .i64 fa) := H3.out.head.cell 1
  have hf := fun W => WirX.fault_eq fe fa fe fa W
  simp only [beq_self_eq_true, Bool.and_self] at hf
  have HK := WirS.hide (kept_any y3 g n cL bs b c H3.out.drop.drop.drop.drop.head (HB.out.below H3.out.low) (by have := HN.out; omega))
  go_upto_region 6 with fail
  refine wp_region_lit ?_
  refine sL (by kernel_rfl) _ _ (by rfl) _ (by kernel_rfl) H3.out.drop.drop.drop.head _ _ Try.underlying94 rfl (by kernel_rfl) T.len ?_
  simp only [Act.put, List.setIfInBounds_toArray, List.set_cons_succ, List.set_cons_zero]
  refine sL (by kernel_rfl) _ _ (by rfl) _ (by kernel_rfl) H3.out.swap.head _ _ Try.underlying94 rfl (by kernel_rfl) T.len ?_
  simp only [Act.put, List.setIfInBounds_toArray, List.set_cons_succ, List.set_cons_zero]
  refine sB (by kernel_rfl) .eql 94 _ _ _ (by rfl) (.agg T.cells.toArray) (.agg T.cells.toArray) (by kernel_rfl) (by kernel_rfl) (.bool true) (heq_self T y3) (by kernel_rfl) ?_
  simp only [Act.put, List.setIfInBounds_toArray, List.set_cons_succ, List.set_cons_zero]
  go_wp2_with (first
    | (go_at_call 23; refine (HK.out).mono ?_; rintro e u8 ⟨rfl, hb⟩; have H8 := WirS.hide (H3.out.low.trans (hb.mono H3.out.low.size)); clear hb)
    | (go_at_call 60; refine (awake_any _).mono ?_; rintro e u9 ⟨rfl, hb⟩; have H9 := WirS.hide (H8.out.trans (hb.mono H8.out.size)); clear hb))
  go_ret
  exact ⟨rfl, H9.out⟩
end HdD
end Go.Proofs.Ythhnojnpjbklpaa

