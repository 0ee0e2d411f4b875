/-
  BlakeSums walked.
-/
import Derived.Test.YtfmegeibnjmfpaaDoorBlkSe
import Derived.Test.YtfmegeibnjmfpaaDoorBlkR
import Derived.Test.YtfmegeibnjmfpaaDoorPdN
namespace Go.Proofs.YtfmegeibnjmfpaaDoor
namespace BlkSf
open Go.RowKit
open BlkM WirM WirS
open BlkG (Glob)
open BlkP (eqH)
open BlkR (awake_any)
open ValSF (Lent lent_any kept_any)

set_option maxRecDepth 10000 in
set_option maxHeartbeats 4000000 in
theorem sums_any (w : World) (a : Option Addr) (n c : Nat) (b : List Int) (hb : BIn w (.slice a n c) b) (hr : ∀ x ∈ b, 0 ≤ x ∧ x < 256) (hg : Glob w) :
    Calls Tryd.prog 3 #[.slice a n c] w fun e w' => e = .returned (.bool true) ∧ Below w.heap.size w w' := by
  have hnl : n = b.length := by obtain ⟨_, _, e, _⟩ := hb; cases e; rfl
  have hw0 := hg.1
  by_cases h1 : n ≤ 1000
  · have g1 : ¬ (1000 : Int) < (n : Int) := by omega
    have HL := WirS.hide (lent_any w a n c b hb (by omega))
    have HGL := WirS.hide (fun U (hU : Below w.heap.size w U) => hg.below hU hw0)
    have HBI := WirS.hide (fun U (hU : Below w.heap.size w U) => hb.below hU)
    have HRG := WirS.hide hr
    have HN := WirS.hide hnl
    obtain ⟨X, hX⟩ : ∃ X, sumL b = X := ⟨_, rfl⟩
    have HXL := WirS.hide (show X.length = 32 by rw [← hX]; exact sumL_len b)
    have HS := WirS.hide (fun U v (hv : BIn U v b) (hgu : Glob U) => hX ▸ BlkK.sumP_any U v b hv hr hgu (by omega))
    have HRS := WirS.hide (fun U (hv : BIn U (.slice a n c) b) => hX ▸ BlkSe.rsum_any U a n c b hv hr (by omega))
    have hyy := fun W => show (binOp .eql 26 (.agg (b8 X).toArray) (.agg (b8 X).toArray)).run Tryd.prog W = .ok (.bool true) W by rw [eqH X X HXL.out HXL.out W, decide_eq_true (rfl : X = X)]
    clear hb hr hg hnl hw0 hX
    go_enter Tryd.func3, Tryd.ntmps3
    go_upto_region 4 with ((go_at_call 12; refine (HL.out).mono ?_; rintro e u1 ⟨g, c2, rfl, hl, hg, hb⟩; have HLT := WirS.hide hl; have HB1 := WirS.hide hb; clear hl hb hg))
    refine wp_region_lit ?_
    refine sV (.slice (some ⟨g, 0, none⟩) n c2) (u1) (by kernel_rfl) (by kernel_rfl) ?_
    simp only [Act.put, List.setIfInBounds_toArray, List.set_cons_succ, List.set_cons_zero]
    refine sC (by kernel_rfl) (by kernel_rfl) (HS.out u1 _ HLT.out.head (HGL.out u1 HB1.out)) ?_
    rintro u2 hb2
    simp only [Act.put, List.setIfInBounds_toArray, List.set_cons_succ, List.set_cons_zero]
    have HB2 := WirS.hide (HB1.out.trans (hb2.mono HB1.out.size))
    have HLT2 := WirS.hide (HLT.out.below hb2)
    clear hb2
    refine sV (.slice a n c) (u2) (by kernel_rfl) (by kernel_rfl) ?_
    simp only [Act.put, List.setIfInBounds_toArray, List.set_cons_succ, List.set_cons_zero]
    refine sC (by kernel_rfl) (by kernel_rfl) (HRS.out u2 (HBI.out u2 HB2.out)) ?_
    rintro u3 hb3
    simp only [Act.put, List.setIfInBounds_toArray, List.set_cons_succ, List.set_cons_zero]
    have HB3 := WirS.hide (HB2.out.trans (hb3.mono HB2.out.size))
    have HLT3 := WirS.hide (HLT2.out.below hb3)
    clear hb3
    refine sB (by kernel_rfl) .eql _ _ _ _ (by rfl) (.agg (b8 X).toArray) (.agg (b8 X).toArray) (by kernel_rfl) (by kernel_rfl) (.bool true) (hyy u3) (by kernel_rfl) ?_
    simp only [Act.put, List.setIfInBounds_toArray, List.set_cons_succ, List.set_cons_zero]
    refine sV (.bool true) (u3) (by kernel_rfl) (by kernel_rfl) ?_
    simp only [Act.put, List.setIfInBounds_toArray, List.set_cons_succ, List.set_cons_zero]
    refine sV (.slice (some ⟨g, 0, none⟩) n c2) (u3) (by kernel_rfl) (by kernel_rfl) ?_
    simp only [Act.put, List.setIfInBounds_toArray, List.set_cons_succ, List.set_cons_zero]
    refine sV (.slice a n c) (u3) (by kernel_rfl) (by kernel_rfl) ?_
    simp only [Act.put, List.setIfInBounds_toArray, List.set_cons_succ, List.set_cons_zero]
    refine sC (by kernel_rfl) (by kernel_rfl) (kept_any u3 g n c2 b a c HLT3.out (HBI.out u3 HB3.out) (by omega)) ?_
    rintro u4 hb4
    simp only [Act.put, List.setIfInBounds_toArray, List.set_cons_succ, List.set_cons_zero]
    have HB4 := WirS.hide (HB3.out.trans (hb4.mono HB3.out.size))
    clear hb4
    refine sV (.bool true) (u4) (by kernel_rfl) (by kernel_rfl) ?_
    simp only [Act.put, List.setIfInBounds_toArray, List.set_cons_succ, List.set_cons_zero]
    refine sV (.bool true) (u4) (by kernel_rfl) (by kernel_rfl) ?_
    simp only [Act.put, List.setIfInBounds_toArray, List.set_cons_succ, List.set_cons_zero]
    refine sC (by kernel_rfl) (by kernel_rfl) (awake_any u4 (HGL.out u4 HB4.out)) ?_
    rintro u5 hb5
    simp only [Act.put, List.setIfInBounds_toArray, List.set_cons_succ, List.set_cons_zero]
    have HB5 := WirS.hide (HB4.out.trans (hb5.mono HB4.out.size))
    clear hb5
    refine sV (.bool true) (u5) (by kernel_rfl) (by kernel_rfl) ?_
    simp only [Act.put, List.setIfInBounds_toArray, List.set_cons_succ, List.set_cons_zero]
    go_wp2_with fail
    go_ret
    exact ⟨rfl, HB5.out⟩
  · have g1 : (1000 : Int) < (n : Int) := by omega
    have K0 := WirS.hide (awake_any w hg)
    clear hb hr hg hnl
    go_enter Tryd.func3, Tryd.ntmps3
    go_wp2_with ((go_at_call 11; refine (K0.out).mono ?_; rintro e w1 ⟨rfl, hb1⟩; have HB1 := WirS.hide hb1; clear hb1))
    go_ret
    exact ⟨rfl, HB1.out⟩
theorem sums_row (w : World) (a : Option Addr) (n c : Nat) (b : List Int) (h : BlkK.BIn w (.slice a n c) b ∧ BlkI.rng b) (hg : Glob w) :
    Calls Tryd.prog 3 #[.slice a n c] w fun e w' => e = .returned (.bool true) ∧ Below w.heap.size w w' := sums_any w a n c b h.1 h.2 hg
end BlkSf
end Go.Proofs.YtfmegeibnjmfpaaDoor
