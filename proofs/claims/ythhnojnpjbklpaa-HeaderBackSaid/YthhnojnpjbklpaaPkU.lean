/-
  HdO, HdR, HdW, in one text.
-/
import Derived.Test.YthhnojnpjbklpaaPkQ
import Derived.Test.YthhnojnpjbklpaaPkM
import Derived.Test.YthhnojnpjbklpaaPkL
import Derived.Test.YthhnojnpjbklpaaPkC
import Derived.Deep.RegionHeld3
import Derived.Test.YthhnojnpjbklpaaPkS
import Derived.Test.YthhnojnpjbklpaaPkF
import Derived.Test.YthhnojnpjbklpaaPkG
namespace Go.Proofs.Ythhnojnpjbklpaa
namespace HdO
open Go.RowKit
open BlkM WirM WirS HdA HdB HdC HdE HdF HdG HdP HdQ
open WirD (numB)
open WirE (tb NewB)
open WirX (Thg Bag own bag_own)
open WirAA (box bag_box)
open WirAB (turn3 sCx)
open WirRT (rng)
open HdK HdN ValK
set_option maxRecDepth 20000 in
set_option maxHeartbeats 8000000 in
theorem one_row (w : World) (b : Option Addr) (n c : Nat) (bs : List Int) (h : BIn w (.slice b n c) bs ∧ rng bs) :
    Calls Try.prog 15 #[.slice b n c] w fun e w' => e = .returned (.bool true) ∧ Below w.heap.size w w' := by
  obtain ⟨hb, hr⟩ := h
  have HKN := WirS.hide (known_any w)
  have hbl : bs.length = n := by obtain ⟨_, _, e, _⟩ := hb; cases e; rfl
  by_cases hn : 300 < n
  · have g1 : (300 : Int) < (n : Int) := by omega
    clear hb hr hbl
    go_enter Try.func15, Try.ntmps15
    go_wp2_with (go_at_call 13; refine (HKN.out).mono ?_; rintro e u ⟨rfl, hb⟩; have HB := WirS.hide hb; clear hb)
    go_ret
    exact ⟨rfl, HB.out⟩
  have g1 : ¬ (300 : Int) < (n : Int) := by omega
  have HB := WirS.hide hb
  have HR := WirS.hide hr
  have HN := WirS.hide (show n ≤ 300 by omega)
  obtain ⟨fe, fa, T, hD⟩ : ∃ fe fa T, hdec bs = ((fe, fa), T) := ⟨_, _, _, rfl⟩
  have HD := WirS.hide hD
  have HF := WirS.hide (fun hfe : fe ≠ 0 => show T = hd0 ∧ 0 ≤ fa ∧ fa ≤ (n : Int) by
    have := dec_fault HR.out (by rw [HD.out]; exact hfe)
    rwa [HD.out, hbl] at this)
  have HE := WirS.hide (fun hfe : fe = 0 => show fa = 0 ∧ HOk T ∧ hform T = bs by
    have h0 : (hdec bs).1 = (0, 0) := by
      by_cases h1 : (endS bs (sH bs 4)).1 = 0
      · have := HD.out
        unfold hdec at this ⊢
        rw [if_neg (by simpa using h1)] at this ⊢
        split at this
        · rename_i h2
          exfalso
          have h3 := congrArg (fun x : (Int × Int) × Hd => x.1.1) this
          simp only at h3
          exact h2 (by rw [h3, hfe])
        · rename_i h2
          rw [if_neg h2]
      · exfalso
        have := HD.out
        unfold hdec at this
        rw [if_pos (by simpa using h1)] at this
        have h3 := congrArg (fun x : (Int × Int) × Hd => x.1.1) this
        simp only at h3
        exact h1 (by rw [h3, hfe])
    have := enc_dec HR.out h0
    rw [HD.out] at this h0
    simp only [Prod.mk.injEq] at h0
    exact ⟨h0.2, this.1, this.2.1⟩)
  clear hb hr hn hD hbl
  go_enter Try.func15, Try.ntmps15
  go_upto_region 4 with (go_at_call 13; refine (HKN.out).mono ?_; rintro e u1 ⟨rfl, hb⟩; have H1 := WirS.hide (Bag.nil hb); clear hb)
  refine wp_region_lit ?_
  refine sV (.slice b n c) (u1) (by kernel_rfl) (by kernel_rfl) ?_
  simp only [Act.put, List.setIfInBounds_toArray, List.set_cons_succ, List.set_cons_zero]
  refine sC (R := fun w' => Below u1.heap.size u1 w') (v := .tuple #[.agg (T).cells.toArray, .agg #[.int .i64 fe, .int .i64 fa]]) (by kernel_rfl) (by kernel_rfl) (dec_eq HD.out (HB.out.below H1.out.low) HR.out (by have := HN.out; omega)) ?_
  rintro q2 hb
  simp only [Act.put, List.setIfInBounds_toArray, List.set_cons_succ, List.set_cons_zero]
  have HB2 := WirS.hide (H1.out.more hb)
  clear hb
  refine sV (.tuple #[.agg (T).cells.toArray, .agg #[.int .i64 fe, .int .i64 fa]]) (q2) (by kernel_rfl) (by kernel_rfl) ?_
  simp only [Act.put, List.setIfInBounds_toArray, List.set_cons_succ, List.set_cons_zero]
  refine sV (.agg (T).cells.toArray) (q2) (by kernel_rfl) (by kernel_rfl) ?_
  simp only [Act.put, List.setIfInBounds_toArray, List.set_cons_succ, List.set_cons_zero]
  refine sV (.agg #[.int .i64 fe, .int .i64 fa]) (q2) (by kernel_rfl) (by kernel_rfl) ?_
  simp only [Act.put, List.setIfInBounds_toArray, List.set_cons_succ, List.set_cons_zero]
  refine sV (.pointer (some ⟨q2.heap.size, 0, none⟩)) (q2.alloc (.cells hd0.cells.toArray 94)) (by kernel_rfl) (al_hd _ _ (by rfl) q2) ?_
  simp only [Act.put, List.setIfInBounds_toArray, List.set_cons_succ, List.set_cons_zero]
  obtain ⟨A2, eA⟩ : ∃ A, q2.heap.size = A := ⟨_, rfl⟩
  have hbA := bag_box (T := HT) (cs := hd0.cells) (X := A2) HB2.out eA.symm (w' := q2.alloc (.cells hd0.cells.toArray 94)) (by rw [← eA]; exact At.new _ _ _) (Below.alloc (Below.refl _ _) (Nat.le_refl _) _)
  rw [eA]
  clear eA
  generalize World.alloc q2 _ = x2 at *
  refine sV (.pointer (some ⟨x2.heap.size, 0, none⟩)) (x2.alloc (.cells (f2 0 0).toArray 55)) (by kernel_rfl) (by kernel_rfl) ?_
  simp only [Act.put, List.setIfInBounds_toArray, List.set_cons_succ, List.set_cons_zero]
  obtain ⟨F2, eF⟩ : ∃ A, x2.heap.size = A := ⟨_, rfl⟩
  have hbF := bag_box (T := FT) (cs := f2 0 0) (X := F2) hbA eF.symm (w' := x2.alloc (.cells (f2 0 0).toArray 55)) (by rw [← eF]; exact At.new _ _ _) (Below.alloc (Below.refl _ _) (Nat.le_refl _) _)
  rw [eF]
  clear eF hbA HB2
  generalize World.alloc x2 _ = z2 at *
  refine stepStore (by rfl) _ _ _ (by rfl) A2 (T).cells (by kernel_rfl) (by kernel_rfl) hbF.swap.head 131 (by kernel_rfl) hd0.len (T).len (one_cells _) ?_
  simp only [Act.put]
  have hbG := (bag_row hbF.swap (T).cells).swap
  refine stepStore (by rfl) _ _ _ (by rfl) F2 (f2 fe fa) (by kernel_rfl) (by kernel_rfl) hbG.head 2 (by kernel_rfl) rfl rfl (by kernel_rfl) ?_
  simp only [Act.put]
  have H2 := WirS.hide (bag_row hbG (f2 fe fa))
  clear hbF hbG
  generalize World.setRow z2 A2 _ = t2 at *
  generalize World.setRow t2 F2 _ = y2 at *
  have d0 : y2.cell? ⟨F2, 0, none⟩ = some (.int .i64 fe) := H2.out.head.cell 0
  have d1 : y2.cell? ⟨F2, 1, none⟩ = some (.int .i64 fa) := H2.out.head.cell 1
  by_cases hfe : fe = 0
  · obtain ⟨rfl, hok, hfm⟩ := HE.out hfe
    have n1 : (fe != 0) = false := by simp [hfe]
    have HBF := WirS.hide hfm
    have HC := WirS.hide (encode_ok y2 T hok)
    clear hfe hok hfm HE HF
    go_upto_region 7 with fail
    refine wp_region_lit ?_
    refine sL (by kernel_rfl) _ _ (by rfl) _ (by kernel_rfl) H2.out.swap.head _ _ Try.underlying94 rfl (by kernel_rfl) T.len ?_
    simp only [Act.put, List.setIfInBounds_toArray, List.set_cons_succ, List.set_cons_zero]
    refine sCx (by kernel_rfl) (by kernel_rfl) HC.out ?_
    rintro e u3 ⟨va, vn, vc, rfl, ho, hnw, hb⟩
    refine ⟨_, rfl, ?_⟩
    simp only [Act.put, List.setIfInBounds_toArray, List.set_cons_succ, List.set_cons_zero]
    have hbin := ho.bin
    rw [HBF.out] at hbin
    have H3 := WirS.hide (H2.out.low.trans (hb.mono H2.out.low.size))
    have HS := WirS.hide (WirU.same_any u3 b va n c vn vc bs bs (HB.out.below H3.out) hbin HR.out HR.out)
    simp only [decide_true] at HS
    clear ho hnw hb hbin d0 d1
    go_wp2_with (go_at_call 27; refine (HS.out).mono ?_; rintro e _ ⟨rfl, rfl⟩)
    go_ret
    exact ⟨rfl, H3.out⟩
  · obtain ⟨rfl, h0, h1⟩ := HF.out hfe
    have n1 : (fe != 0) = true := by simpa using hfe
    clear hfe HE HF
    go_upto_region 6 with fail
    refine wp_region_lit ?_
    refine sV (.bool true) (y2) (by kernel_rfl) (by kernel_rfl) ?_
    simp only [Act.put, List.setIfInBounds_toArray, List.set_cons_succ, List.set_cons_zero]
    refine sV (.bool true) (y2) (by kernel_rfl) (by kernel_rfl) ?_
    simp only [Act.put, List.setIfInBounds_toArray, List.set_cons_succ, List.set_cons_zero]
    refine sV (.pointer (some ⟨F2, 1, none⟩)) (y2) (by kernel_rfl) (by kernel_rfl) ?_
    simp only [Act.put, List.setIfInBounds_toArray, List.set_cons_succ, List.set_cons_zero]
    refine sP (by kernel_rfl) _ _ (by rfl) ⟨F2, 1, none⟩ (by kernel_rfl) (.int .i64 fa) d1 (by kernel_rfl) ?_
    simp only [Act.put, List.setIfInBounds_toArray, List.set_cons_succ, List.set_cons_zero]
    refine sB (by kernel_rfl) .geq 3 _ _ _ (by rfl) (.int .i64 fa) (.int .i64 0) (by kernel_rfl) (by kernel_rfl) (.bool true) (by go_simp) (by kernel_rfl) ?_
    simp only [Act.put, List.setIfInBounds_toArray, List.set_cons_succ, List.set_cons_zero]
    refine sV (.bool true) (y2) (by kernel_rfl) (by kernel_rfl) ?_
    simp only [Act.put, List.setIfInBounds_toArray, List.set_cons_succ, List.set_cons_zero]
    refine sV (.bool true) (y2) (by kernel_rfl) (by kernel_rfl) ?_
    simp only [Act.put, List.setIfInBounds_toArray, List.set_cons_succ, List.set_cons_zero]
    refine sV (.pointer (some ⟨F2, 1, none⟩)) (y2) (by kernel_rfl) (by kernel_rfl) ?_
    simp only [Act.put, List.setIfInBounds_toArray, List.set_cons_succ, List.set_cons_zero]
    refine sP (by kernel_rfl) _ _ (by rfl) ⟨F2, 1, none⟩ (by kernel_rfl) (.int .i64 fa) d1 (by kernel_rfl) ?_
    simp only [Act.put, List.setIfInBounds_toArray, List.set_cons_succ, List.set_cons_zero]
    refine sV (.slice b n c) (y2) (by kernel_rfl) (by kernel_rfl) ?_
    simp only [Act.put, List.setIfInBounds_toArray, List.set_cons_succ, List.set_cons_zero]
    refine sV (.int .i64 (n : Int)) (y2) (by kernel_rfl) (by kernel_rfl) ?_
    simp only [Act.put, List.setIfInBounds_toArray, List.set_cons_succ, List.set_cons_zero]
    refine sB (by kernel_rfl) .leq 3 _ _ _ (by rfl) (.int .i64 fa) (.int .i64 (n : Int)) (by kernel_rfl) (by kernel_rfl) (.bool true) (by go_simp) (by kernel_rfl) ?_
    simp only [Act.put, List.setIfInBounds_toArray, List.set_cons_succ, List.set_cons_zero]
    refine sV (.bool true) (y2) (by kernel_rfl) (by kernel_rfl) ?_
    simp only [Act.put, List.setIfInBounds_toArray, List.set_cons_succ, List.set_cons_zero]
    refine sV (.bool true) (y2) (by kernel_rfl) (by kernel_rfl) ?_
    simp only [Act.put, List.setIfInBounds_toArray, List.set_cons_succ, List.set_cons_zero]
    refine sL (by kernel_rfl) _ _ (by rfl) _ (by kernel_rfl) H2.out.swap.head _ _ Try.underlying94 rfl (by kernel_rfl) hd0.len ?_
    simp only [Act.put, List.setIfInBounds_toArray, List.set_cons_succ, List.set_cons_zero]
    refine sV (.agg hd0.cells.toArray) (y2) (by kernel_rfl) (by kernel_rfl) ?_
    simp only [Act.put, List.setIfInBounds_toArray, List.set_cons_succ, List.set_cons_zero]
    refine sB (by kernel_rfl) .eql 94 _ _ _ (by rfl) (.agg hd0.cells.toArray) (.agg hd0.cells.toArray) (by kernel_rfl) (by kernel_rfl) (.bool true) (heq_self hd0 y2) (by kernel_rfl) ?_
    simp only [Act.put, List.setIfInBounds_toArray, List.set_cons_succ, List.set_cons_zero]
    go_wp2_with fail
    go_ret
    exact ⟨rfl, H2.out.low⟩
end HdO
end Go.Proofs.Ythhnojnpjbklpaa

namespace Go.Proofs.Ythhnojnpjbklpaa
namespace HdR
open Go.RowKit
open BlkM WirM WirS HdA HdB HdC HdE HdF HdG HdP HdQ
open WirD (numB)
open WirE (tb NewB)
open WirX (Thg Bag own bag_own)
open WirAA (box bag_box)
open WirAB (turn3 sCx)
open WirRT (rng)
open HdK HdN
open ValBK (slB sSh)
open WirH (sa bin_sub)

/-- A header, as it comes in. -/
structure HIn (t : Hd) : Prop where
  ch : t.ch.size ≤ 9223372036854775807
  hs : rng t.hs
theorem keep2 {w0 w : World} {o1 o2 o3 o4 o5 : Thg} {l : List Thg} (h : Bag w0 w (o1 :: o2 :: o3 :: o4 :: o5 :: l)) : Bag w0 w [o5, o1] := by
  have h1 : Bag w0 w (o1 :: o5 :: l) := h.swap.drop.swap.drop.swap.drop
  have hp := List.pairwise_cons.1 h1.swap.apart
  exact ⟨h1.low, fun o ho => h1.swap.all o (by simp at ho; rcases ho with rfl | rfl <;> simp), List.pairwise_cons.2 ⟨fun y hy => by simp at hy; rw [hy]; exact hp.1 o1 (by simp), List.pairwise_cons.2 ⟨fun y hy => by simp at hy, List.Pairwise.nil⟩⟩⟩
set_option maxRecDepth 20000 in
set_option maxHeartbeats 16000000 in
theorem back_row (w : World) (t : Hd) (q x : Int) (h : HIn t) (_ : -9223372036854775808 ≤ q) (_ : q ≤ 9223372036854775807) (hx0 : 0 ≤ x) (hx1 : x < 256) :
    Calls Try.prog 14 #[.agg t.cells.toArray, .int .i64 q, .int .u8 x] w fun e w' => e = .returned (.bool true) ∧ Below w.heap.size w w' := by
  obtain ⟨X, eX⟩ : ∃ X, w.heap.size = X := ⟨_, rfl⟩
  obtain ⟨W0, e0⟩ : ∃ Y, Y = w.alloc (.cells t.cells.toArray 94) := ⟨_, rfl⟩
  have H0 : Hid (Bag w W0 [box HT X t.cells]) := WirS.hide (bag_box (Bag.nil (Below.refl _ _)) eX.symm (by rw [e0, ← eX]; exact box_at _ _) (by rw [e0]; exact box_below _ _))
  have HKN := WirS.hide (known_any W0)
  have E0 := WirS.hide e0
  have HX := WirS.hide (And.intro hx0 hx1)
  clear e0 hx0 hx1
  have HH := WirS.hide h
  by_cases hlong : 60 < t.ch.size
  · have g1 : (60 : Int) < (t.ch.size : Int) := by omega
    clear hlong h
    go_enter Try.func14, Try.ntmps14
    go_upto_region 1 with fail
    rw [show w.alloc (.cells t.cells.toArray 94) = W0 from E0.out.symm]
    clear E0 eX
    go_upto_region 2 with (go_at_call 13; refine (HKN.out).mono ?_; rintro e u ⟨rfl, hb⟩; have HB := WirS.hide (H0.out.more hb); clear hb)
    have c0 : u.cell? ⟨X, 0, none⟩ = some (.string t.ch) := (HB.out.head.cell 0).trans rfl
    go_wp2_with fail
    go_ret
    exact ⟨rfl, HB.out.low⟩
  have g1 : ¬ (60 : Int) < (t.ch.size : Int) := by omega
  by_cases hc : hchk t = 0
  · have hok := ok_of hc
    have HOK := WirS.hide hok
    have HCK := WirS.hide (fun U => check_any U t h.ch)
    rw [hc] at HCK
    have HE := WirS.hide (fun U => encode_ok U t hok)
    have HRG := WirS.hide (form_rng hok h.hs)
    have HLE := WirS.hide (hform_len hok)
    have hpos : 0 < (hform t).length := by
      have := t.lh
      simp only [hform, List.length_append]
      omega
    have HPOS := WirS.hide hpos
    have HT1 := WirS.hide (show hdec (hform t) = ((0, 0), t) by have := dec_whole hok []; rwa [List.append_nil, if_pos rfl] at this)
    obtain ⟨m, hm⟩ : ∃ m, (hform t).length = m := ⟨_, rfl⟩
    have HM := WirS.hide hm
    have HT2 := WirS.hide (show hdec (hform t ++ [x]) = ((4, (m : Int)), hd0) by have := dec_whole hok [x]; rwa [if_neg (by simp), hm] at this)
    have HT3 := WirS.hide (fun cut (h : cut < m) => dec_cut hok (show cut < (hform t).length by rw [hm]; exact h))
    clear hlong hc hok hpos hm h
    go_enter Try.func14, Try.ntmps14
    go_upto_region 1 with fail
    rw [show w.alloc (.cells t.cells.toArray 94) = W0 from E0.out.symm]
    clear E0 eX
    go_upto_region 2 with (go_at_call 13; refine (HKN.out).mono ?_; rintro e u ⟨rfl, hb⟩; have H1 := WirS.hide (H0.out.more hb); clear hb H0)
    have c0 : u.cell? ⟨X, 0, none⟩ = some (.string t.ch) := (H1.out.head.cell 0).trans rfl
    go_upto_region 4 with fail
    clear c0
    refine wp_region_lit ?_
    refine sL (by kernel_rfl) _ _ (by rfl) _ (by kernel_rfl) H1.out.head _ _ Try.underlying94 rfl (by kernel_rfl) t.len ?_
    simp only [Act.put, List.setIfInBounds_toArray, List.set_cons_succ, List.set_cons_zero]
    refine sCx (by kernel_rfl) (by kernel_rfl) (HE.out u) ?_
    rintro e u2 ⟨va, vn, vc, rfl, ho, hnw, hb⟩
    refine ⟨_, rfl, ?_⟩
    simp only [Act.put, List.setIfInBounds_toArray, List.set_cons_succ, List.set_cons_zero]
    obtain ⟨rfl, hvc⟩ : vn = m ∧ m ≤ vc := by
      obtain ⟨_, _, e, hc, _⟩ := ho.bin
      rw [HM.out] at hc
      cases e
      exact ⟨HM.out, hc⟩
    have HVC := WirS.hide hvc
    have H2 := WirS.hide (bag_own H1.out ho hnw hb)
    clear ho hnw hb H1 hvc HE
    go_upto_region 5 with fail
    refine wp_region_lit ?_
    refine sV (.int .i64 0) (u2) (by kernel_rfl) (by kernel_rfl) ?_
    simp only [Act.put, List.setIfInBounds_toArray, List.set_cons_succ, List.set_cons_zero]
    refine sL (by kernel_rfl) _ _ (by rfl) _ (by kernel_rfl) H2.out.swap.head _ _ Try.underlying94 rfl (by kernel_rfl) t.len ?_
    simp only [Act.put, List.setIfInBounds_toArray, List.set_cons_succ, List.set_cons_zero]
    refine sC (R := fun w' => Below u2.heap.size u2 w') (v := .int .i64 0) (by kernel_rfl) (by kernel_rfl) (HCK.out u2) ?_
    rintro u3 hb
    simp only [Act.put, List.setIfInBounds_toArray, List.set_cons_succ, List.set_cons_zero]
    have H3 := WirS.hide (H2.out.more hb)
    clear hb H2 HCK
    go_upto_region 9 with fail
    refine wp_region_lit ?_
    refine sV (.slice va vn vc) (u3) (by kernel_rfl) (by kernel_rfl) ?_
    simp only [Act.put, List.setIfInBounds_toArray, List.set_cons_succ, List.set_cons_zero]
    refine sC (R := fun w' => Below u3.heap.size u3 w') (v := .tuple #[.agg (t).cells.toArray, .agg #[.int .i64 0, .int .i64 0]]) (by kernel_rfl) (by kernel_rfl) (dec_eq HT1.out (H3.out.head : WirM.Own _ _ _ _).bin HRG.out (by have h1 := HLE.out; have h2 := HM.out; omega)) ?_
    rintro q4 hb
    simp only [Act.put, List.setIfInBounds_toArray, List.set_cons_succ, List.set_cons_zero]
    have HB4 := WirS.hide (H3.out.more hb)
    clear hb
    refine sV (.tuple #[.agg (t).cells.toArray, .agg #[.int .i64 0, .int .i64 0]]) (q4) (by kernel_rfl) (by kernel_rfl) ?_
    simp only [Act.put, List.setIfInBounds_toArray, List.set_cons_succ, List.set_cons_zero]
    refine sV (.agg (t).cells.toArray) (q4) (by kernel_rfl) (by kernel_rfl) ?_
    simp only [Act.put, List.setIfInBounds_toArray, List.set_cons_succ, List.set_cons_zero]
    refine sV (.agg #[.int .i64 0, .int .i64 0]) (q4) (by kernel_rfl) (by kernel_rfl) ?_
    simp only [Act.put, List.setIfInBounds_toArray, List.set_cons_succ, List.set_cons_zero]
    refine sV (.pointer (some ⟨q4.heap.size, 0, none⟩)) (q4.alloc (.cells hd0.cells.toArray 94)) (by kernel_rfl) (al_hd _ _ (by rfl) q4) ?_
    simp only [Act.put, List.setIfInBounds_toArray, List.set_cons_succ, List.set_cons_zero]
    obtain ⟨A4, eA⟩ : ∃ A, q4.heap.size = A := ⟨_, rfl⟩
    have hbA := bag_box (T := HT) (cs := hd0.cells) (X := A4) HB4.out eA.symm (w' := q4.alloc (.cells hd0.cells.toArray 94)) (by rw [← eA]; exact At.new _ _ _) (Below.alloc (Below.refl _ _) (Nat.le_refl _) _)
    rw [eA]
    clear eA
    generalize World.alloc q4 _ = x4 at *
    refine sV (.pointer (some ⟨x4.heap.size, 0, none⟩)) (x4.alloc (.cells (f2 0 0).toArray 55)) (by kernel_rfl) (by kernel_rfl) ?_
    simp only [Act.put, List.setIfInBounds_toArray, List.set_cons_succ, List.set_cons_zero]
    obtain ⟨F4, eF⟩ : ∃ A, x4.heap.size = A := ⟨_, rfl⟩
    have hbF := bag_box (T := FT) (cs := f2 0 0) (X := F4) hbA eF.symm (w' := x4.alloc (.cells (f2 0 0).toArray 55)) (by rw [← eF]; exact At.new _ _ _) (Below.alloc (Below.refl _ _) (Nat.le_refl _) _)
    rw [eF]
    clear eF hbA HB4
    generalize World.alloc x4 _ = z4 at *
    refine stepStore (by rfl) _ _ _ (by rfl) A4 (t).cells (by kernel_rfl) (by kernel_rfl) hbF.swap.head 131 (by kernel_rfl) hd0.len (t).len (one_cells _) ?_
    simp only [Act.put]
    have hbG := (bag_row hbF.swap (t).cells).swap
    refine stepStore (by rfl) _ _ _ (by rfl) F4 (f2 0 0) (by kernel_rfl) (by kernel_rfl) hbG.head 2 (by kernel_rfl) rfl rfl (by kernel_rfl) ?_
    simp only [Act.put]
    have H4 := WirS.hide (bag_row hbG (f2 0 0))
    clear hbF hbG
    generalize World.setRow z4 A4 _ = t4 at *
    generalize World.setRow t4 F4 _ = y4 at *
    go_upto_region 10 with fail
    refine wp_region_lit ?_
    refine sL (by kernel_rfl) _ _ (by rfl) _ (by kernel_rfl) H4.out.head _ _ Try.underlying55 rfl (by kernel_rfl) rfl ?_
    simp only [Act.put, List.setIfInBounds_toArray, List.set_cons_succ, List.set_cons_zero]
    refine sV (.agg (f2 0 0).toArray) (y4) (by kernel_rfl) (by kernel_rfl) ?_
    simp only [Act.put, List.setIfInBounds_toArray, List.set_cons_succ, List.set_cons_zero]
    refine sB (by kernel_rfl) .neq 55 _ _ _ (by rfl) (.agg #[.int .i64 0, .int .i64 0]) (.agg #[.int .i64 0, .int .i64 0]) (by kernel_rfl) (by kernel_rfl) (.bool false) (WirBG.fault_neq 0 0 0 0 y4) (by kernel_rfl) ?_
    simp only [Act.put, List.setIfInBounds_toArray, List.set_cons_succ, List.set_cons_zero]
    refine sV (.bool false) (y4) (by kernel_rfl) (by kernel_rfl) ?_
    simp only [Act.put, List.setIfInBounds_toArray, List.set_cons_succ, List.set_cons_zero]
    refine sL (by kernel_rfl) _ _ (by rfl) _ (by kernel_rfl) H4.out.swap.head _ _ Try.underlying94 rfl (by kernel_rfl) t.len ?_
    simp only [Act.put, List.setIfInBounds_toArray, List.set_cons_succ, List.set_cons_zero]
    refine sL (by kernel_rfl) _ _ (by rfl) _ (by kernel_rfl) H4.out.drop.drop.drop.head _ _ Try.underlying94 rfl (by kernel_rfl) t.len ?_
    simp only [Act.put, List.setIfInBounds_toArray, List.set_cons_succ, List.set_cons_zero]
    refine sB (by kernel_rfl) .neq 94 _ _ _ (by rfl) (.agg t.cells.toArray) (.agg t.cells.toArray) (by kernel_rfl) (by kernel_rfl) (.bool false) (by rw [hneq, same_self]; rfl) (by kernel_rfl) ?_
    simp only [Act.put, List.setIfInBounds_toArray, List.set_cons_succ, List.set_cons_zero]
    have nz : ((vn : Int) == 0) = false := by have h1 := HPOS.out; have h2 := HM.out; simp; omega
    go_upto_region 12 with fail
    clear nz
    have hp := KitB.pick_range q (vn : Int) (by have h1 := HPOS.out; have h2 := HM.out; omega)
    have HPK := WirS.hide (KitB.pick_any y4 q (vn : Int) (by have h1 := HPOS.out; have h2 := HM.out; omega) (by have h1 := HLE.out; have h2 := HM.out; omega))
    generalize KitB.pick q (vn : Int) = g at HPK hp
    obtain ⟨cut, rfl⟩ := Int.eq_ofNat_of_zero_le hp.1
    have hcut : cut < vn := by omega
    obtain ⟨qa, hT3⟩ := HT3.out cut hcut
    have hbc : BIn y4 (.slice (sa va vc 0) cut (vc - 0)) ((hform t).take cut) := by
      have hown := (H4.out.drop.drop.head : WirM.Own _ _ _ _).bin
      have h := bin_sub (at' := 0) (n := cut) (bs := hform t) (by rw [HM.out]; exact hown) (by rw [HM.out]; omega)
      rwa [List.drop_zero] at h
    have HDC := WirS.hide (dec_eq hT3 hbc (fun x hx => HRG.out x (List.mem_of_mem_take hx)) (by have h1 := HLE.out; have h2 := HM.out; omega))
    have HCUT := WirS.hide hcut
    clear hp hT3 hbc hcut
    refine wp_region_lit ?_
    refine sV (.slice va vn vc) (y4) (by kernel_rfl) (by kernel_rfl) ?_
    simp only [Act.put, List.setIfInBounds_toArray, List.set_cons_succ, List.set_cons_zero]
    refine sV (.int .i64 q) (y4) (by kernel_rfl) (by kernel_rfl) ?_
    simp only [Act.put, List.setIfInBounds_toArray, List.set_cons_succ, List.set_cons_zero]
    refine sV (.slice va vn vc) (y4) (by kernel_rfl) (by kernel_rfl) ?_
    simp only [Act.put, List.setIfInBounds_toArray, List.set_cons_succ, List.set_cons_zero]
    refine sV (.int .i64 (vn : Int)) (y4) (by kernel_rfl) (by kernel_rfl) ?_
    simp only [Act.put, List.setIfInBounds_toArray, List.set_cons_succ, List.set_cons_zero]
    refine sC (R := fun w' => y4 = w') (v := .int .i64 (cut : Int)) (by kernel_rfl) (by kernel_rfl) HPK.out ?_
    rintro _ rfl
    simp only [Act.put, List.setIfInBounds_toArray, List.set_cons_succ, List.set_cons_zero]
    refine sSh (by kernel_rfl) _ _ _ (by rfl) (.slice va vn vc) (.int .i64 (cut : Int)) (.slice (sa va vc 0) cut (vc - 0)) (by kernel_rfl) (by kernel_rfl) (slB va vn vc cut (by have h1 := HVC.out; have h2 := HCUT.out; omega) y4) ?_
    simp only [Act.put, List.setIfInBounds_toArray, List.set_cons_succ, List.set_cons_zero]
    refine sC (R := fun w' => Below y4.heap.size y4 w') (v := .tuple #[.agg (hd0).cells.toArray, .agg #[.int .i64 6, .int .i64 qa]]) (by kernel_rfl) (by kernel_rfl) HDC.out ?_
    rintro q5 hb
    simp only [Act.put, List.setIfInBounds_toArray, List.set_cons_succ, List.set_cons_zero]
    have HB5 := WirS.hide (H4.out.more hb)
    clear hb
    refine sV (.tuple #[.agg (hd0).cells.toArray, .agg #[.int .i64 6, .int .i64 qa]]) (q5) (by kernel_rfl) (by kernel_rfl) ?_
    simp only [Act.put, List.setIfInBounds_toArray, List.set_cons_succ, List.set_cons_zero]
    refine sV (.agg (hd0).cells.toArray) (q5) (by kernel_rfl) (by kernel_rfl) ?_
    simp only [Act.put, List.setIfInBounds_toArray, List.set_cons_succ, List.set_cons_zero]
    refine sV (.agg #[.int .i64 6, .int .i64 qa]) (q5) (by kernel_rfl) (by kernel_rfl) ?_
    simp only [Act.put, List.setIfInBounds_toArray, List.set_cons_succ, List.set_cons_zero]
    refine sV (.pointer (some ⟨q5.heap.size, 0, none⟩)) (q5.alloc (.cells hd0.cells.toArray 94)) (by kernel_rfl) (al_hd _ _ (by rfl) q5) ?_
    simp only [Act.put, List.setIfInBounds_toArray, List.set_cons_succ, List.set_cons_zero]
    obtain ⟨A5, eA⟩ : ∃ A, q5.heap.size = A := ⟨_, rfl⟩
    have hbA := bag_box (T := HT) (cs := hd0.cells) (X := A5) HB5.out eA.symm (w' := q5.alloc (.cells hd0.cells.toArray 94)) (by rw [← eA]; exact At.new _ _ _) (Below.alloc (Below.refl _ _) (Nat.le_refl _) _)
    rw [eA]
    clear eA
    generalize World.alloc q5 _ = x5 at *
    refine sV (.pointer (some ⟨x5.heap.size, 0, none⟩)) (x5.alloc (.cells (f2 0 0).toArray 55)) (by kernel_rfl) (by kernel_rfl) ?_
    simp only [Act.put, List.setIfInBounds_toArray, List.set_cons_succ, List.set_cons_zero]
    obtain ⟨F5, eF⟩ : ∃ A, x5.heap.size = A := ⟨_, rfl⟩
    have hbF := bag_box (T := FT) (cs := f2 0 0) (X := F5) hbA eF.symm (w' := x5.alloc (.cells (f2 0 0).toArray 55)) (by rw [← eF]; exact At.new _ _ _) (Below.alloc (Below.refl _ _) (Nat.le_refl _) _)
    rw [eF]
    clear eF hbA HB5
    generalize World.alloc x5 _ = z5 at *
    refine stepStore (by rfl) _ _ _ (by rfl) A5 (hd0).cells (by kernel_rfl) (by kernel_rfl) hbF.swap.head 131 (by kernel_rfl) hd0.len (hd0).len (one_cells _) ?_
    simp only [Act.put]
    have hbG := (bag_row hbF.swap (hd0).cells).swap
    refine stepStore (by rfl) _ _ _ (by rfl) F5 (f2 6 qa) (by kernel_rfl) (by kernel_rfl) hbG.head 2 (by kernel_rfl) rfl rfl (by kernel_rfl) ?_
    simp only [Act.put]
    have H5 := WirS.hide (bag_row hbG (f2 6 qa))
    clear hbF hbG
    generalize World.setRow z5 A5 _ = t5 at *
    generalize World.setRow t5 F5 _ = y5 at *
    clear HPK HDC
    have H5' : Hid (Bag w y5 [own (.slice va vn vc) (hform t), box FT F5 (f2 6 qa)]) := WirS.hide (keep2 H5.out)
    clear H5
    go_upto_region 13 with fail
    have HC := WirS.hide (KitC.copy_any y5 va vn vc (hform t) (H5'.out.head : WirM.Own _ _ _ _).bin (by have h1 := HLE.out; have h2 := HM.out; omega))
    refine wp_region_lit ?_
    refine sV (.slice va vn vc) (y5) (by kernel_rfl) (by kernel_rfl) ?_
    simp only [Act.put, List.setIfInBounds_toArray, List.set_cons_succ, List.set_cons_zero]
    refine sCx (by kernel_rfl) (by kernel_rfl) HC.out ?_
    rintro e n9 ⟨ca, cn, cc, rfl, ho, hnw, hb⟩
    refine ⟨_, rfl, ?_⟩
    simp only [Act.put, List.setIfInBounds_toArray, List.set_cons_succ, List.set_cons_zero]
    obtain rfl : cn = vn := by
      obtain ⟨_, _, e, hc, _⟩ := ho.bin
      cases e
      exact HM.out
    refine sV (.int .u8 x) (n9) (by kernel_rfl) (by kernel_rfl) ?_
    simp only [Act.put, List.setIfInBounds_toArray, List.set_cons_succ, List.set_cons_zero]
    refine sV (.slice (some ⟨n9.heap.size, 0, none⟩) 1 1) (n9.alloc (.cells (b8 [x]).toArray 5)) (by kernel_rfl) (by kernel_rfl) ?_
    simp only [Act.put, List.setIfInBounds_toArray, List.set_cons_succ, List.set_cons_zero]
    have hal : Below n9.heap.size n9 (n9.alloc (.cells (b8 [x]).toArray 5)) := Below.alloc (Below.refl _ _) (Nat.le_refl _) _
    obtain ⟨i0, hi, hz0, hz1, hz2⟩ := info_parts (show (Try.prog.info? 5).map (fun i => (i.zero, i.size, i.bytes)) = some (some (.int .u8 0), 1, 1) by kernel_rfl)
    obtain ⟨v1, q1, r1, o1, f1, nn1⟩ := app_any (P := Try.prog) (n9.alloc (.cells (b8 [x]).toArray 5)) 32 32 32 5 i0 _ Try.underlying32 hi hz0 hz1 hz2 rfl (.slice ca cn cc) (.slice (some ⟨n9.heap.size, 0, none⟩) 1 1) (hform t) [x] (ho.fr (X := fun _ => False) (Fr.of_below hal) (fun _ _ h => h)) ((BIn.new n9 5 [x] 1 1 (0, 0) (by simp) (Nat.le_refl _)).src Try.underlying32) (by have h1 := HLE.out; simp; omega)
    have hB1 : Below y5.heap.size y5 q1 := (hb.trans (hal.mono hb.size)).trans (f1.below (B := y5.heap.size) (by have := hb.size; simp; omega) (fun k hk hx => by have := hnw k hx; omega))
    have H6 := WirS.hide (H5'.out.more hB1)
    obtain ⟨xa, xc, rfl⟩ : ∃ xa xc, v1 = .slice xa (cn + 1) xc := by
      obtain ⟨xa, xc, e, _⟩ := o1.bin
      rw [List.length_append, HM.out] at e
      exact ⟨xa, xc, e⟩
    have HDM := WirS.hide (dec_eq HT2.out o1.bin (fun y hy => by
      rcases List.mem_append.1 hy with hy | hy
      · exact HRG.out y hy
      · simp at hy; rw [hy]; exact HX.out) (by have h1 := HLE.out; have h2 := HM.out; omega))
    refine sA (by kernel_rfl) 32 32 _ _ (by rfl) (.slice ca cn cc) (.slice (some ⟨n9.heap.size, 0, none⟩) 1 1) (by kernel_rfl) (by kernel_rfl) (.slice xa (cn + 1) xc) (q1) r1 ?_
    simp only [Act.put, List.setIfInBounds_toArray, List.set_cons_succ, List.set_cons_zero]
    clear ho hnw hb hal o1 f1 nn1 r1 hB1 hi hz0 hz1 hz2 HC H5'
    refine sC (R := fun w' => Below q1.heap.size q1 w') (v := .tuple #[.agg (hd0).cells.toArray, .agg #[.int .i64 4, .int .i64 (cn : Int)]]) (by kernel_rfl) (by kernel_rfl) HDM.out ?_
    rintro q7 hb
    simp only [Act.put, List.setIfInBounds_toArray, List.set_cons_succ, List.set_cons_zero]
    have HB7 := WirS.hide (H6.out.more hb)
    clear hb
    refine sV (.tuple #[.agg (hd0).cells.toArray, .agg #[.int .i64 4, .int .i64 (cn : Int)]]) (q7) (by kernel_rfl) (by kernel_rfl) ?_
    simp only [Act.put, List.setIfInBounds_toArray, List.set_cons_succ, List.set_cons_zero]
    refine sV (.agg (hd0).cells.toArray) (q7) (by kernel_rfl) (by kernel_rfl) ?_
    simp only [Act.put, List.setIfInBounds_toArray, List.set_cons_succ, List.set_cons_zero]
    refine sV (.agg #[.int .i64 4, .int .i64 (cn : Int)]) (q7) (by kernel_rfl) (by kernel_rfl) ?_
    simp only [Act.put, List.setIfInBounds_toArray, List.set_cons_succ, List.set_cons_zero]
    refine sV (.pointer (some ⟨q7.heap.size, 0, none⟩)) (q7.alloc (.cells hd0.cells.toArray 94)) (by kernel_rfl) (al_hd _ _ (by rfl) q7) ?_
    simp only [Act.put, List.setIfInBounds_toArray, List.set_cons_succ, List.set_cons_zero]
    obtain ⟨A7, eA⟩ : ∃ A, q7.heap.size = A := ⟨_, rfl⟩
    have hbA := bag_box (T := HT) (cs := hd0.cells) (X := A7) HB7.out eA.symm (w' := q7.alloc (.cells hd0.cells.toArray 94)) (by rw [← eA]; exact At.new _ _ _) (Below.alloc (Below.refl _ _) (Nat.le_refl _) _)
    rw [eA]
    clear eA
    generalize World.alloc q7 _ = x7 at *
    refine sV (.pointer (some ⟨x7.heap.size, 0, none⟩)) (x7.alloc (.cells (f2 0 0).toArray 55)) (by kernel_rfl) (by kernel_rfl) ?_
    simp only [Act.put, List.setIfInBounds_toArray, List.set_cons_succ, List.set_cons_zero]
    obtain ⟨F7, eF⟩ : ∃ A, x7.heap.size = A := ⟨_, rfl⟩
    have hbF := bag_box (T := FT) (cs := f2 0 0) (X := F7) hbA eF.symm (w' := x7.alloc (.cells (f2 0 0).toArray 55)) (by rw [← eF]; exact At.new _ _ _) (Below.alloc (Below.refl _ _) (Nat.le_refl _) _)
    rw [eF]
    clear eF hbA HB7
    generalize World.alloc x7 _ = z7 at *
    refine stepStore (by rfl) _ _ _ (by rfl) A7 (hd0).cells (by kernel_rfl) (by kernel_rfl) hbF.swap.head 131 (by kernel_rfl) hd0.len (hd0).len (one_cells _) ?_
    simp only [Act.put]
    have hbG := (bag_row hbF.swap (hd0).cells).swap
    refine stepStore (by rfl) _ _ _ (by rfl) F7 (f2 4 (cn : Int)) (by kernel_rfl) (by kernel_rfl) hbG.head 2 (by kernel_rfl) rfl rfl (by kernel_rfl) ?_
    simp only [Act.put]
    have H7 := WirS.hide (bag_row hbG (f2 4 (cn : Int)))
    clear hbF hbG
    generalize World.setRow z7 A7 _ = t7 at *
    generalize World.setRow t7 F7 _ = y7 at *
    have d0 : y7.cell? ⟨F5, 0, none⟩ = some (.int .i64 6) := H7.out.drop.drop.drop.head.cell 0
    have d2 : y7.cell? ⟨F7, 0, none⟩ = some (.int .i64 4) := H7.out.head.cell 0
    have d3 : y7.cell? ⟨F7, 1, none⟩ = some (.int .i64 (cn : Int)) := H7.out.head.cell 1
    have hf := fun W => WirX.fault_eq 4 (cn : Int) 4 (cn : Int) W
    simp only [beq_self_eq_true, Bool.and_self] at hf
    clear HDM
    go_wp2_with fail
    go_ret
    exact ⟨rfl, H7.out.low⟩
  · have HCK := WirS.hide (fun U => check_any U t h.ch)
    have HE := WirS.hide (fun U => encode_bad U t h.ch hc)
    obtain ⟨cd, hcd⟩ : ∃ cd, hchk t = cd := ⟨_, rfl⟩
    rw [hcd] at HCK HE hc
    have n1 : (cd != 0) = true := by simpa using hc
    have n2 : (cd != cd) = false := by simp
    clear hlong hc hcd h
    go_enter Try.func14, Try.ntmps14
    go_upto_region 1 with fail
    rw [show w.alloc (.cells t.cells.toArray 94) = W0 from E0.out.symm]
    clear E0 eX
    go_upto_region 2 with (go_at_call 13; refine (HKN.out).mono ?_; rintro e u ⟨rfl, hb⟩; have H1 := WirS.hide (H0.out.more hb); clear hb H0)
    have c0 : u.cell? ⟨X, 0, none⟩ = some (.string t.ch) := (H1.out.head.cell 0).trans rfl
    go_upto_region 4 with fail
    clear c0
    refine wp_region_lit ?_
    refine sL (by kernel_rfl) _ _ (by rfl) _ (by kernel_rfl) H1.out.head _ _ Try.underlying94 rfl (by kernel_rfl) t.len ?_
    simp only [Act.put, List.setIfInBounds_toArray, List.set_cons_succ, List.set_cons_zero]
    refine sC (R := fun w' => Below u.heap.size u w') (by kernel_rfl) (by kernel_rfl) (HE.out u) ?_
    rintro u2 hb
    simp only [Act.put, List.setIfInBounds_toArray, List.set_cons_succ, List.set_cons_zero]
    have H2 := WirS.hide (H1.out.more hb)
    clear hb H1
    go_upto_region 5 with fail
    refine wp_region_lit ?_
    refine sV (.int .i64 cd) (u2) (by kernel_rfl) (by kernel_rfl) ?_
    simp only [Act.put, List.setIfInBounds_toArray, List.set_cons_succ, List.set_cons_zero]
    refine sL (by kernel_rfl) _ _ (by rfl) _ (by kernel_rfl) H2.out.head _ _ Try.underlying94 rfl (by kernel_rfl) t.len ?_
    simp only [Act.put, List.setIfInBounds_toArray, List.set_cons_succ, List.set_cons_zero]
    refine sC (R := fun w' => Below u2.heap.size u2 w') (v := .int .i64 cd) (by kernel_rfl) (by kernel_rfl) (HCK.out u2) ?_
    rintro u3 hb
    simp only [Act.put, List.setIfInBounds_toArray, List.set_cons_succ, List.set_cons_zero]
    have H3 := WirS.hide (H2.out.more hb)
    clear hb H2 HCK
    go_wp2_with fail
    go_ret
    exact ⟨rfl, H3.out.low⟩
end HdR
end Go.Proofs.Ythhnojnpjbklpaa

namespace Go.Proofs.Ythhnojnpjbklpaa
namespace HdW
open Go.RowKit Go.WideShapes Go.ChangeShapes Go.ChangeAt
open BlkM WirM WirS HdB HdR
open WirRT (rng)

section
variable {H : Type} {enc : TypeId × Value → H} {W : World}

theorem h_cells {fuel : Nat} {cs : List Value} {x : DataW H × List MemPlace} (h : DataW.trod enc Try.prog W 0 (fun _ => true) true fuel 94 cs = some x) :
    ∃ t : Hd, cs = t.cells ∧ HIn t := by
  have cS : Try.prog.cellsOf 9 = 1 := by kernel_rfl
  have cI : Try.prog.cellsOf 3 = 1 := by kernel_rfl
  have cH : Try.prog.cellsOf 34 = 32 := by kernel_rfl
  have cT : Try.prog.cellsOf 94 = 131 := by kernel_rfl
  obtain ⟨xs, n, _, _, hl, hlen, hf⟩ := DataW.trod_struct Try.underlying94 h
  rw [cT] at hl
  have e0 := hf 0 _ rfl
  have e1 := hf 1 _ rfl
  have e2 := hf 2 _ rfl
  have e3 := hf 3 _ rfl
  have e4 := hf 4 _ rfl
  have e5 := hf 5 _ rfl
  have e6 := hf 6 _ rfl
  clear hf
  match xs, hlen with
  | [y0, y1, y2, y3, y4, y5, y6], _ =>
  obtain ⟨s, p0, _, w0⟩ := DataW.trod_string Try.underlying9 e0
  obtain ⟨n1, p1, _, w1⟩ := DataW.trod_int Try.underlying3 e1
  obtain ⟨n2, p2, _, w2⟩ := DataW.trod_int Try.underlying3 e2
  obtain ⟨l3, p3, h3, r3⟩ := WirO1.row8 (k := 32) Try.underlying34 cH e3
  obtain ⟨l4, p4, h4, r4⟩ := WirO1.row8 (k := 32) Try.underlying34 cH e4
  obtain ⟨l5, p5, h5, r5⟩ := WirO1.row8 (k := 32) Try.underlying34 cH e5
  obtain ⟨l6, p6, h6, r6⟩ := WirO1.row8 (k := 32) Try.underlying34 cH e6
  have p0 : (cs.drop 0).take (Try.prog.cellsOf 9) = _ := p0
  have p1 : (cs.drop 1).take (Try.prog.cellsOf 3) = _ := p1
  have p2 : (cs.drop 2).take (Try.prog.cellsOf 3) = _ := p2
  have p3 : (cs.drop 3).take (Try.prog.cellsOf 34) = _ := p3
  have p4 : (cs.drop 35).take (Try.prog.cellsOf 34) = _ := p4
  have p5 : (cs.drop 67).take (Try.prog.cellsOf 34) = _ := p5
  have p6 : (cs.drop 99).take (Try.prog.cellsOf 34) = _ := p6
  rw [cS] at p0
  rw [cI] at p1 p2
  rw [cH] at p3 p4 p5 p6
  have q0 := WirO1.part 0 1 1 p0 rfl
  have q1 := WirO1.part 1 1 2 p1 rfl
  have q2 := WirO1.part 2 1 3 p2 rfl
  have q3 := WirO1.part 3 32 35 p3 rfl
  have q4 := WirO1.part 35 32 67 p4 rfl
  have q5 := WirO1.part 67 32 99 p5 rfl
  have q6 := WirO1.part 99 32 131 p6 rfl
  have q7 : cs.drop 131 = [] := List.drop_eq_nil_of_le (by omega)
  rw [q1, q2, q3, q4, q5, q6, q7, List.drop_zero] at q0
  refine ⟨⟨s, n1, n2, l3 ++ (l4 ++ (l5 ++ l6)), by simp [h3, h4, h5, h6]⟩, ?_, ⟨by unfold maxLen at w0; show s.size ≤ _; omega, ?_⟩⟩
  · rw [q0]
    simp [Hd.cells, b8]
  · intro x hx
    simp only [List.mem_append] at hx
    rcases hx with hx | hx | hx | hx
    · exact r3 x hx
    · exact r4 x hx
    · exact r5 x hx
    · exact r6 x hx
set_option maxRecDepth 100000 in
theorem v_open {base : Nat} {v : Value} {d : DataW H} {p : List MemPlace} (hv : Value.okWide Try.prog W .any base 94 v) (h : DataW.Trod enc Try.prog W 0 (fun _ => true) true 94 v d p) :
    ∃ t : Hd, v = .agg t.cells.toArray ∧ HIn t := by
  obtain ⟨cs, rfl, _⟩ := okWide_struct Try.underlying94 hv
  obtain ⟨fuel, hf⟩ := h
  obtain ⟨t, e, hw⟩ := h_cells hf
  have e' : cs.toList = t.cells := e
  refine ⟨t, ?_, hw⟩
  rw [← e']
end
end HdW
end Go.Proofs.Ythhnojnpjbklpaa

