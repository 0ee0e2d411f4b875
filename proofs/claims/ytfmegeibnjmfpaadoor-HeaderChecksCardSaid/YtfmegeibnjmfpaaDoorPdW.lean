/-
  HhA, HhB, in one text.
-/
import Derived.Test.YtfmegeibnjmfpaaDoorPdP
import Derived.Test.YtfmegeibnjmfpaaDoorPdQ
import Derived.Test.YtfmegeibnjmfpaaDoorPdS
import Derived.Test.YtfmegeibnjmfpaaDoorPdL
import Derived.Test.YtfmegeibnjmfpaaDoorPdV
import Derived.Test.YtfmegeibnjmfpaaDoorBlkK
import Derived.Test.YtfmegeibnjmfpaaDoorBlkO
import Derived.Test.YtfmegeibnjmfpaaDoorBlkP
import Derived.Test.YtfmegeibnjmfpaaDoorBlkR
import Derived.Test.YtfmegeibnjmfpaaDoorPdU
import Derived.Test.YtfmegeibnjmfpaaDoorPdF
import Derived.Deep.MidRow
import Derived.Deep.RegionHeld3
namespace Go.Proofs.YtfmegeibnjmfpaaDoor
namespace HhA
open Go.RowKit
open BlkM WirM WirS HdA HdB HdC HdE
open WirE (NewB)
open WirX (Thg Bag own bag_own)
open WirAA (box bag_box)
open WirAB (sCx)
open WirRT (rng)
open WrwA (NO cat no_one)
open BlkG (Glob)
open BlkP (eqH)
open BlkR (alH)

/-- What a header's hash is of; what Hash tells first. -/
def hin (t : Hd) : List Int := 72 :: hform t
def xh (t : Hd) : List Int := if hchk t = 0 then sumL (hin t) else List.replicate 32 0
theorem bag_row {w0 w : World} {l : List Thg} {T : TypeId} {X : Nat} {cs : List Value} (h : Bag w0 w (box T X cs :: l)) (c : List Value) : Bag w0 (w.setRow X c.toArray) (box T X c :: l) :=
  h.act (WirO.Fr.setRow (Fr.refl _ _) X _ (fun _ => rfl)) (At.put h.head c) (fun _ hk => .inl hk)
set_option maxRecDepth 10000 in
set_option maxHeartbeats 4000000 in
theorem hash_bad (w : World) (t : Hd) (hs : t.ch.size ≤ 9223372036854775807) (hc : hchk t ≠ 0) :
    Calls Tryd.prog 33 #[.agg t.cells.toArray] w fun e w' => e = .returned (.tuple #[.agg (b8 (List.replicate 32 0)).toArray, .int .i64 (hchk t)]) ∧ Below w.heap.size w w' := by
  have HC := WirS.hide (fun U => encode_bad U t hs hc)
  have HLen := WirS.hide t.len
  generalize hchk t = cd at *
  have hn1 : (cd != 0) = true := by simpa using hc
  clear hs hc
  have hb0 := bag_box (w0 := w) (T := 58) (cs := t.cells) (X := w.heap.size) (Bag.nil (Below.refl _ _)) rfl (w' := w.alloc (.cells t.cells.toArray 58)) (At.new _ _ _) (Below.alloc (Below.refl _ _) (Nat.le_refl _) _)
  go_enter Tryd.func33, Tryd.ntmps33
  go_upto_region 0 with fail
  refine wp_region_lit ?_
  refine sV (.pointer (some ⟨w.heap.size, 0, none⟩)) (w.alloc (.cells t.cells.toArray 58)) (by kernel_rfl) (by kernel_rfl) ?_
  simp only [Act.put, List.setIfInBounds_toArray, List.set_cons_succ, List.set_cons_zero]
  obtain ⟨A, eA⟩ : ∃ A, w.heap.size = A := ⟨_, rfl⟩
  rw [eA] at hb0 ⊢
  clear eA
  generalize World.alloc w _ = x0 at *
  refine sV (.pointer (some ⟨x0.heap.size, 0, none⟩)) (x0.alloc (.cells (b8 (List.replicate 32 0)).toArray 26)) (by kernel_rfl) (alH _ _ (by rfl) x0) ?_
  simp only [Act.put, List.setIfInBounds_toArray, List.set_cons_succ, List.set_cons_zero]
  obtain ⟨R, eR⟩ : ∃ A, x0.heap.size = A := ⟨_, rfl⟩
  have hb1 := bag_box (T := 26) (cs := b8 (List.replicate 32 0)) (X := R) hb0 eR.symm (w' := x0.alloc (.cells (b8 (List.replicate 32 0)).toArray 26)) (by rw [← eR]; exact At.new _ _ _) (Below.alloc (Below.refl _ _) (Nat.le_refl _) _)
  rw [eR]
  clear eR hb0
  generalize World.alloc x0 _ = x1 at *
  have H1 := WirS.hide hb1
  clear hb1
  go_upto_region 1 with fail
  refine wp_region_lit ?_
  refine sL (by kernel_rfl) _ _ (by rfl) _ (by kernel_rfl) H1.out.swap.head _ _ Tryd.underlying58 rfl (by kernel_rfl) (by rw [HLen.out]) ?_
  simp only [Act.put, List.setIfInBounds_toArray, List.set_cons_succ, List.set_cons_zero]
  refine sC (R := fun w' => Below x1.heap.size x1 w') (by kernel_rfl) (by kernel_rfl) (HC.out x1) ?_
  rintro x2 hb
  simp only [Act.put, List.setIfInBounds_toArray, List.set_cons_succ, List.set_cons_zero]
  have H2 := WirS.hide (H1.out.more hb)
  clear hb H1
  go_upto_region 3 with fail
  refine wp_region_lit ?_
  refine sV (.agg (b8 (List.replicate 32 0)).toArray) (x2) (by kernel_rfl) (by kernel_rfl) ?_
  simp only [Act.put, List.setIfInBounds_toArray, List.set_cons_succ, List.set_cons_zero]
  refine sV (.int .i64 cd) (x2) (by kernel_rfl) (by kernel_rfl) ?_
  simp only [Act.put, List.setIfInBounds_toArray, List.set_cons_succ, List.set_cons_zero]
  refine stepStore (by rfl) _ _ _ (by rfl) R (b8 (List.replicate 32 0)) (by kernel_rfl) (by kernel_rfl) H2.out.head 32 (by kernel_rfl) (by rw [b8_len]; rfl) (by rw [b8_len]; rfl) (oneCells_b8 _) ?_
  simp only [Act.put]
  have H3 := WirS.hide (bag_row H2.out (b8 (List.replicate 32 0)))
  clear H2
  generalize World.setRow x2 R _ = x3 at *
  go_wp2_with fail
  exact bodyPost_ret (BlkO.retRow2 H3.out.head Tryd.results33 _ (by rfl) (.int .i64 cd) (by rfl) _ 32 Tryd.underlying26 rfl (by kernel_rfl) (by rw [b8_len]; rfl)) rfl ⟨rfl, H3.out.low⟩
set_option maxRecDepth 10000 in
set_option maxHeartbeats 4000000 in
theorem hash_ok (w : World) (t : Hd) (ho : HOk t) (hlen : (hform t).length ≤ 1000) (hr : rng (hin t)) (hg : Glob w) :
    Calls Tryd.prog 33 #[.agg t.cells.toArray] w fun e w' => e = .returned (.tuple #[.agg (b8 (sumL (hin t))).toArray, .int .i64 0]) ∧ Below w.heap.size w w' := by
  have HC := WirS.hide (fun U => encode_ok U t ho)
  have HLen := WirS.hide t.len
  have hw0 := hg.1
  have HSL : Hid ((sumL (hin t)).length = 32) := WirS.hide (sumL_len _)
  have HS := WirS.hide (fun (U : World) (v : Value) (hU : Below w.heap.size w U) (hv : BIn U v (hin t)) => BlkK.sumP_any U v (hin t) hv hr (hg.below hU hw0) (by simp [hin]; omega))
  have HK := WirS.hide (fun (U U' : World) (d s : Value) (h : NO w U d [72]) (h2 : BIn U s (hform t)) => cat h h2 (by simp; omega))
  have HI := WirS.hide (show [72] ++ hform t = hin t from rfl)
  clear ho hlen hr hg hw0
  have hb0 := bag_box (w0 := w) (T := 58) (cs := t.cells) (X := w.heap.size) (Bag.nil (Below.refl _ _)) rfl (w' := w.alloc (.cells t.cells.toArray 58)) (At.new _ _ _) (Below.alloc (Below.refl _ _) (Nat.le_refl _) _)
  go_enter Tryd.func33, Tryd.ntmps33
  go_upto_region 0 with fail
  refine wp_region_lit ?_
  refine sV (.pointer (some ⟨w.heap.size, 0, none⟩)) (w.alloc (.cells t.cells.toArray 58)) (by kernel_rfl) (by kernel_rfl) ?_
  simp only [Act.put, List.setIfInBounds_toArray, List.set_cons_succ, List.set_cons_zero]
  obtain ⟨A, eA⟩ : ∃ A, w.heap.size = A := ⟨_, rfl⟩
  rw [eA] at hb0 ⊢
  clear eA
  generalize World.alloc w _ = x0 at *
  refine sV (.pointer (some ⟨x0.heap.size, 0, none⟩)) (x0.alloc (.cells (b8 (List.replicate 32 0)).toArray 26)) (by kernel_rfl) (alH _ _ (by rfl) x0) ?_
  simp only [Act.put, List.setIfInBounds_toArray, List.set_cons_succ, List.set_cons_zero]
  obtain ⟨R, eR⟩ : ∃ A, x0.heap.size = A := ⟨_, rfl⟩
  have hb1 := bag_box (T := 26) (cs := b8 (List.replicate 32 0)) (X := R) hb0 eR.symm (w' := x0.alloc (.cells (b8 (List.replicate 32 0)).toArray 26)) (by rw [← eR]; exact At.new _ _ _) (Below.alloc (Below.refl _ _) (Nat.le_refl _) _)
  rw [eR]
  clear eR hb0
  generalize World.alloc x0 _ = x1 at *
  have H1 := WirS.hide hb1
  clear hb1
  go_upto_region 1 with fail
  refine wp_region_lit ?_
  refine sL (by kernel_rfl) _ _ (by rfl) _ (by kernel_rfl) H1.out.swap.head _ _ Tryd.underlying58 rfl (by kernel_rfl) (by rw [HLen.out]) ?_
  simp only [Act.put, List.setIfInBounds_toArray, List.set_cons_succ, List.set_cons_zero]
  refine sCx (by kernel_rfl) (by kernel_rfl) (HC.out x1) ?_
  rintro e x2 ⟨va, vn, vc, rfl, hv, hn, hb⟩
  refine ⟨_, rfl, ?_⟩
  simp only [Act.put, List.setIfInBounds_toArray, List.set_cons_succ, List.set_cons_zero]
  have H2 := WirS.hide (bag_own H1.out hv hn hb)
  clear hb H1 hv hn
  go_upto_region 4 with fail
  refine wp_region_lit ?_
  have h72 := no_one w x2 72 H2.out.low
  obtain ⟨a1, m1, c1, U1, hm1, r1, no1, hfr⟩ := HK.out _ x2 _ (.slice va vn vc) h72 ((WirM.Own.bin H2.out.head).below (Below.alloc (Below.refl _ _) (Nat.le_refl _) _))
  rw [HI.out] at no1
  have H3 : Hid (Bag w U1 [box 26 R (b8 (List.replicate 32 0)), box 58 A t.cells]) := by
    have hbx : Below x2.heap.size x2 (x2.alloc (.cells #[.int .u8 72] 5)) := Below.alloc (Below.refl _ _) (Nat.le_refl _) _
    exact WirS.hide (H2.out.drop.more (hbx.trans (hfr.below hbx.size (fun k hk hx => by cases hx; exact absurd hk (Nat.lt_irrefl _)))))
  clear hfr
  refine sV (.slice (some ⟨x2.heap.size, 0, none⟩) 1 1) (x2.alloc (.cells #[.int .u8 72] 5)) (by kernel_rfl) (by kernel_rfl) ?_
  simp only [Act.put, List.setIfInBounds_toArray, List.set_cons_succ, List.set_cons_zero]
  refine sV (.slice va vn vc) (x2.alloc (.cells #[.int .u8 72] 5)) (by kernel_rfl) (by kernel_rfl) ?_
  simp only [Act.put, List.setIfInBounds_toArray, List.set_cons_succ, List.set_cons_zero]
  refine sA (by kernel_rfl) 22 22 _ _ (by rfl) (.slice (some ⟨x2.heap.size, 0, none⟩) 1 1) (.slice va vn vc) (by kernel_rfl) (by kernel_rfl) (.slice a1 m1 c1) (U1) r1 ?_
  simp only [Act.put, List.setIfInBounds_toArray, List.set_cons_succ, List.set_cons_zero]
  refine sC (R := fun w' => Below U1.heap.size U1 w') (by kernel_rfl) (by kernel_rfl) (HS.out U1 _ no1.2.2 (WirM.Own.bin no1.1)) ?_
  rintro x3 hb
  simp only [Act.put, List.setIfInBounds_toArray, List.set_cons_succ, List.set_cons_zero]
  have H4 := WirS.hide (H3.out.more hb)
  clear hb H3 r1 no1 h72 hm1 H2
  refine stepStore (by rfl) _ _ _ (by rfl) R (b8 (sumL (hin t))) (by kernel_rfl) (by kernel_rfl) H4.out.head 32 (by kernel_rfl) (by rw [b8_len]; rfl) (by rw [b8_len]; exact HSL.out) (oneCells_b8 _) ?_
  simp only [Act.put]
  have H5 := WirS.hide (bag_row H4.out (b8 (sumL (hin t))))
  clear H4
  generalize World.setRow x3 R _ = x4 at *
  go_wp2_with fail
  exact bodyPost_ret (BlkO.retRow2 H5.out.head Tryd.results33 _ (by rfl) (.int .i64 0) (by rfl) _ 32 Tryd.underlying26 rfl (by kernel_rfl) (by rw [b8_len]; exact HSL.out)) rfl ⟨rfl, H5.out.low⟩
theorem form_len {t : Hd} (h : HOk t) : (hform t).length ≤ 187 := by
  have h1 := hpre_len h
  have h2 := t.lh
  simp only [hform, List.length_append]
  omega
theorem hash_any (w : World) (t : Hd) (hs : t.ch.size ≤ 60) (hr : rng t.hs) (hg : Glob w) :
    Calls Tryd.prog 33 #[.agg t.cells.toArray] w fun e w' => e = .returned (.tuple #[.agg (b8 (xh t)).toArray, .int .i64 (hchk t)]) ∧ Below w.heap.size w w' := by
  unfold xh
  by_cases h : hchk t = 0
  · rw [if_pos h, h]
    have ho := ok_of h
    have hl := form_len ho
    exact hash_ok w t ho (by omega) (fun x hx => by
      rcases List.mem_cons.1 hx with rfl | hx
      · decide
      · exact HdK.form_rng ho hr x hx) hg
  · rw [if_neg h]
    exact hash_bad w t (by omega) h
theorem xh_len (t : Hd) : (xh t).length = 32 := by
  unfold xh
  split
  · exact sumL_len _
  · rfl
theorem ba_eq {a b : ByteArray} (h : (a == b) = true) : a = b := by
  obtain ⟨x⟩ := a
  obtain ⟨y⟩ := b
  exact congrArg ByteArray.mk (eq_of_beq (show (x == y) = true from h))
theorem hs_parts (t : Hd) : t.hs = t.part 0 ++ (t.part 1 ++ (t.part 2 ++ t.part 3)) := by
  have e4 : t.hs.take (32 * (3 + 1)) = t.hs := List.take_of_length_le (by rw [t.lh]; decide)
  have e3 : t.hs.take (32 * 3) ++ t.part 3 = t.hs.take (32 * (3 + 1)) := take_part t 3
  have e2 : t.hs.take (32 * 2) ++ t.part 2 = t.hs.take (32 * 3) := take_part t 2
  have e1 : t.hs.take (32 * 1) ++ t.part 1 = t.hs.take (32 * 2) := take_part t 1
  have e0 : t.hs.take (32 * 0) ++ t.part 0 = t.hs.take (32 * 1) := take_part t 0
  rw [e4, ← e2, ← e1, ← e0] at e3
  simp only [Nat.mul_zero, List.take_zero, List.nil_append, List.append_assoc] at e3
  exact e3.symm
theorem same_eq {t u : Hd} (h : HdQ.same t u = true) : t = u := by
  simp only [HdQ.same, Bool.and_eq_true, decide_eq_true_eq] at h
  obtain ⟨h1, h2, h3, p0, p1, p2, p3⟩ := h
  have e : t.hs = u.hs := by rw [hs_parts t, hs_parts u, p0, p1, p2, p3]
  have e1 := ba_eq h1
  have e2 : t.ht = u.ht := by simpa using h2
  have e3 : t.tm = u.tm := by simpa using h3
  cases t
  cases u
  simp only at e e1 e2 e3
  subst e e1 e2 e3
  rfl
theorem form_inj {t u : Hd} (ht : HOk t) (hu : HOk u) (h : hform t = hform u) : t = u := by
  have h1 := HdP.dec_whole ht []
  have h2 := HdP.dec_whole hu []
  rw [if_pos rfl, List.append_nil] at h1 h2
  rw [h] at h1
  rw [h1] at h2
  injection h2
end HhA
end Go.Proofs.YtfmegeibnjmfpaaDoor

namespace Go.Proofs.YtfmegeibnjmfpaaDoor
namespace HhB
open Go.RowKit
open BlkM WirM WirS HdA HdB HdC HdE
open WirE (NewB)
open WirX (Thg Bag own bag_own)
open WirAA (box bag_box)
open WirAB (sCx)
open WirRT (rng)
open WrwA (NO cat no_one)
open BlkG (Glob)
open BlkP (eqH)
open BlkR (alH)
open BlkP (neqH)
open HdR (HIn)
open HhA

/-- A call as a step of a drawn region. -/
theorem stepCallH {P : Program} {o : Oper} {a : Act} {w : World} {K : Act → World → Prop} {Q : Exit → Act → World → Prop} {f : FuncId} {args : Array Value} {v : Value} {R : World → Prop} (hrun : (execOp a.eval o).run P w = .ok (.enter f args) w)
    (hc : Calls P f args w fun e w' => e = .returned v ∧ R w') (h : ∀ w', R w' → K (a.put o.dst v) w') : o.wp P a w K Q := by
  unfold Oper.wp
  rw [hrun, Oper.upon_enter]
  exact hc.mono (by rintro e w' ⟨rfl, hr⟩; exact h w' hr)
/-- Two values compared, as an operation. -/
theorem run_eq {P : Program} {a : Operand → Value} {o : Oper} {op : BinOp} {t t2 : TypeId} {x y : Operand} {vx vy v : Value} {w : World} (ho : o.op = .binOp op t x y t2) (hx : a x = vx) (hy : a y = vy) (hr : (binOp op t vx vy).run P w = .ok v w) (hg : (eqGuard op t x y vx vy).run P w = .ok () w) : (execOp a o).run P w = .ok (.value v) w := by
  unfold execOp
  simp only [ho, hx, hy, Sem.run_bind, hg, Result.andThen_ok, hr, Sem.run_pure]
theorem neI (a : Int) (W : World) : (binOp .neq 30 (.int .i64 a) (.int .i64 a)).run Tryd.prog W = .ok (.bool false) W := by
  simp [binOp, go_sem]
theorem eqI0 {a : Int} (h : a ≠ 0) (W : World) : (binOp .eql 30 (.int .i64 a) (.int .i64 0)).run Tryd.prog W = .ok (.bool false) W := by
  simp [binOp, go_sem, h]
theorem rangeAt0 {w : World} {X : Nat} {T : TypeId} {cs : List Value} (h : At w X T cs) : w.rangeAt X 0 cs := fun j v hj => by
  rw [Nat.zero_add, h.cell]
  exact hj
theorem held {w U : World} {l : List Thg} {A B RX RY : Nat} {a b : Hd} {xa xb : List Int} (h : Bag w U l) (h1 : box 58 A a.cells ∈ l) (h2 : box 58 B b.cells ∈ l) (h3 : box 26 RX (b8 xa) ∈ l) (h4 : box 26 RY (b8 xb) ∈ l) :
    U.rangeAt A 0 a.cells ∧ U.rangeAt B 0 b.cells ∧ U.rangeAt RX 0 (b8 xa) ∧ U.rangeAt RY 0 (b8 xb) :=
  ⟨rangeAt0 (show At U A 58 a.cells from (h.all _ h1).1), rangeAt0 (show At U B 58 b.cells from (h.all _ h2).1), rangeAt0 (show At U RX 26 (b8 xa) from (h.all _ h3).1), rangeAt0 (show At U RY 26 (b8 xb) from (h.all _ h4).1)⟩
theorem nb_b (s : Bool) (W : World) : (binOp .neq 4 (.bool s) (.bool s)).run Tryd.prog W = .ok (.bool false) W := by cases s <;> kernel_rfl
theorem zz_eq (W : World) : (binOp .eql 26 (.agg (b8 (List.replicate 32 0)).toArray) (.agg (b8 (List.replicate 32 0)).toArray)).run Tryd.prog W = .ok (.bool true) W := by
  rw [eqH _ _ rfl rfl W, decide_eq_true rfl]
set_option maxRecDepth 20000 in
set_option maxHeartbeats 16000000 in
theorem hashes_row (w : World) (a b : Hd) (ia : HIn a) (ib : HIn b) (hg : Glob w) :
    Calls Tryd.prog 10 #[.agg a.cells.toArray, .agg b.cells.toArray] w fun e w' => e = .returned (.bool true) ∧ Below w.heap.size w w' := by
  have HKN := WirS.hide (fun U => HdN.known_any U)
  have HLa := WirS.hide a.len
  have HLb := WirS.hide b.len
  have hw0 := hg.1
  have HIa := WirS.hide ia
  have HIb := WirS.hide ib
  have HGL := WirS.hide (fun U (hU : Below w.heap.size w U) => hg.below hU hw0)
  have HCa := WirS.hide (fun U => check_any U a ia.ch)
  have HCb := WirS.hide (fun U => check_any U b ib.ch)
  have hba := bag_box (w0 := w) (T := 58) (cs := a.cells) (X := w.heap.size) (Bag.nil (Below.refl _ _)) rfl (w' := w.alloc (.cells a.cells.toArray 58)) (At.new _ _ _) (Below.alloc (Below.refl _ _) (Nat.le_refl _) _)
  clear ia ib hg hw0
  go_enter Tryd.func10, Tryd.ntmps10
  go_upto_region 0 with fail
  refine wp_region_lit ?_
  refine sV (.pointer (some ⟨w.heap.size, 0, none⟩)) (w.alloc (.cells a.cells.toArray 58)) (by kernel_rfl) (by kernel_rfl) ?_
  simp only [Act.put, List.setIfInBounds_toArray, List.set_cons_succ, List.set_cons_zero]
  obtain ⟨A, eA⟩ : ∃ A, w.heap.size = A := ⟨_, rfl⟩
  rw [eA] at hba ⊢
  clear eA
  generalize World.alloc w _ = x0 at *
  refine sV (.pointer (some ⟨x0.heap.size, 0, none⟩)) (x0.alloc (.cells b.cells.toArray 58)) (by kernel_rfl) (by kernel_rfl) ?_
  simp only [Act.put, List.setIfInBounds_toArray, List.set_cons_succ, List.set_cons_zero]
  obtain ⟨B, eB⟩ : ∃ A, x0.heap.size = A := ⟨_, rfl⟩
  have hbb := bag_box (T := 58) (cs := b.cells) (X := B) hba eB.symm (w' := x0.alloc (.cells b.cells.toArray 58)) (by rw [← eB]; exact At.new _ _ _) (Below.alloc (Below.refl _ _) (Nat.le_refl _) _)
  rw [eB]
  clear eB hba
  generalize World.alloc x0 _ = x1 at *
  have H1 := WirS.hide hbb
  clear hbb
  go_upto_region 2 with (go_at_call 40; refine (HKN.out _).mono ?_; rintro e x2 ⟨rfl, hb⟩; have H2 := WirS.hide (H1.out.more hb); clear hb H1)
  have ca0 : x2.cell? ⟨A, 0, none⟩ = some (.string a.ch) := by rw [(H2.out.all (box 58 A a.cells) (by simp)).1.cell]; rfl
  have cb0 : x2.cell? ⟨B, 0, none⟩ = some (.string b.ch) := by rw [(H2.out.all (box 58 B b.cells) (by simp)).1.cell]; rfl
  by_cases h60 : 60 < a.ch.size
  · have g1 : decide ((60 : Int) < (a.ch.size : Int)) = true := decide_eq_true (by omega)
    clear HLa HLb
    go_wp2_with fail
    go_ret
    exact ⟨rfl, H2.out.low⟩
  have g1 : decide ((60 : Int) < (a.ch.size : Int)) = false := decide_eq_false (by omega)
  by_cases h61 : 60 < b.ch.size
  · have g2 : decide ((60 : Int) < (b.ch.size : Int)) = true := decide_eq_true (by omega)
    clear HLa HLb
    go_wp2_with fail
    go_ret
    exact ⟨rfl, H2.out.low⟩
  have g2 : decide ((60 : Int) < (b.ch.size : Int)) = false := decide_eq_false (by omega)
  have HHa := WirS.hide (fun U (hU : Below w.heap.size w U) => hash_any U a (by omega) HIa.out.hs (HGL.out U hU))
  have HHb := WirS.hide (fun U (hU : Below w.heap.size w U) => hash_any U b (by omega) HIb.out.hs (HGL.out U hU))
  obtain ⟨xa, hxa⟩ : ∃ x, xh a = x := ⟨_, rfl⟩
  obtain ⟨xb, hxb⟩ : ∃ x, xh b = x := ⟨_, rfl⟩
  have HLXRX : Hid (xa.length = 32) := WirS.hide (by rw [← hxa]; exact xh_len a)
  have HLXRY : Hid (xb.length = 32) := WirS.hide (by rw [← hxb]; exact xh_len b)
  have HXA := WirS.hide hxa
  have HXB := WirS.hide hxb
  obtain ⟨ca, hca'⟩ : ∃ c, hchk a = c := ⟨_, rfl⟩
  obtain ⟨cb, hcb'⟩ : ∃ c, hchk b = c := ⟨_, rfl⟩
  have HEA := WirS.hide hca'
  have HEB := WirS.hide hcb'
  rw [hxa, hca'] at HHa
  rw [hxb, hcb'] at HHb
  rw [hca'] at HCa
  rw [hcb'] at HCb
  clear hxa hxb hca' hcb'
  go_upto_region 4 with fail
  clear ca0 cb0
  refine wp_region_lit ?_
  refine sL (by kernel_rfl) _ _ (by rfl) _ (by kernel_rfl) (H2.out.all (box 58 A a.cells) (by simp)).1 _ _ Tryd.underlying58 rfl (by kernel_rfl) (by rw [HLa.out]) ?_
  simp only [Act.put, List.setIfInBounds_toArray, List.set_cons_succ, List.set_cons_zero]
  refine sC (R := fun w' => Below x2.heap.size x2 w') (by kernel_rfl) (by kernel_rfl) (HHa.out x2 H2.out.low) ?_
  rintro qRX hb
  simp only [Act.put, List.setIfInBounds_toArray, List.set_cons_succ, List.set_cons_zero]
  have HQ := WirS.hide (H2.out.more hb)
  clear hb H2
  refine sV (.tuple #[.agg (b8 xa).toArray, .int .i64 ca]) (qRX) (by kernel_rfl) (by kernel_rfl) ?_
  simp only [Act.put, List.setIfInBounds_toArray, List.set_cons_succ, List.set_cons_zero]
  refine sV (.agg (b8 xa).toArray) (qRX) (by kernel_rfl) (by kernel_rfl) ?_
  simp only [Act.put, List.setIfInBounds_toArray, List.set_cons_succ, List.set_cons_zero]
  refine sV (.int .i64 ca) (qRX) (by kernel_rfl) (by kernel_rfl) ?_
  simp only [Act.put, List.setIfInBounds_toArray, List.set_cons_succ, List.set_cons_zero]
  refine sV (.pointer (some ⟨qRX.heap.size, 0, none⟩)) (qRX.alloc (.cells (b8 (List.replicate 32 0)).toArray 26)) (by kernel_rfl) (alH _ _ (by rfl) qRX) ?_
  simp only [Act.put, List.setIfInBounds_toArray, List.set_cons_succ, List.set_cons_zero]
  obtain ⟨RX, eR⟩ : ∃ A, qRX.heap.size = A := ⟨_, rfl⟩
  have hb1 := bag_box (T := 26) (cs := b8 (List.replicate 32 0)) (X := RX) HQ.out eR.symm (w' := qRX.alloc (.cells (b8 (List.replicate 32 0)).toArray 26)) (by rw [← eR]; exact At.new _ _ _) (Below.alloc (Below.refl _ _) (Nat.le_refl _) _)
  rw [eR]
  clear eR HQ
  generalize World.alloc qRX _ = pRX at *
  refine stepStore (by rfl) _ _ _ (by rfl) RX (b8 xa) (by kernel_rfl) (by kernel_rfl) hb1.head 32 (by kernel_rfl) (by rw [b8_len]; rfl) (by rw [b8_len]; exact HLXRX.out) (oneCells_b8 _) ?_
  simp only [Act.put]
  have H3 := WirS.hide (bag_row hb1 (b8 xa))
  clear hb1
  generalize World.setRow pRX RX _ = y1 at *
  go_upto_region 5 with fail
  refine wp_region_lit ?_
  refine sL (by kernel_rfl) _ _ (by rfl) _ (by kernel_rfl) (H3.out.all (box 58 B b.cells) (by simp)).1 _ _ Tryd.underlying58 rfl (by kernel_rfl) (by rw [HLb.out]) ?_
  simp only [Act.put, List.setIfInBounds_toArray, List.set_cons_succ, List.set_cons_zero]
  refine sC (R := fun w' => Below y1.heap.size y1 w') (by kernel_rfl) (by kernel_rfl) (HHb.out y1 H3.out.low) ?_
  rintro qRY hb
  simp only [Act.put, List.setIfInBounds_toArray, List.set_cons_succ, List.set_cons_zero]
  have HQ := WirS.hide (H3.out.more hb)
  clear hb H3
  refine sV (.tuple #[.agg (b8 xb).toArray, .int .i64 cb]) (qRY) (by kernel_rfl) (by kernel_rfl) ?_
  simp only [Act.put, List.setIfInBounds_toArray, List.set_cons_succ, List.set_cons_zero]
  refine sV (.agg (b8 xb).toArray) (qRY) (by kernel_rfl) (by kernel_rfl) ?_
  simp only [Act.put, List.setIfInBounds_toArray, List.set_cons_succ, List.set_cons_zero]
  refine sV (.int .i64 cb) (qRY) (by kernel_rfl) (by kernel_rfl) ?_
  simp only [Act.put, List.setIfInBounds_toArray, List.set_cons_succ, List.set_cons_zero]
  refine sV (.pointer (some ⟨qRY.heap.size, 0, none⟩)) (qRY.alloc (.cells (b8 (List.replicate 32 0)).toArray 26)) (by kernel_rfl) (alH _ _ (by rfl) qRY) ?_
  simp only [Act.put, List.setIfInBounds_toArray, List.set_cons_succ, List.set_cons_zero]
  obtain ⟨RY, eR⟩ : ∃ A, qRY.heap.size = A := ⟨_, rfl⟩
  have hb1 := bag_box (T := 26) (cs := b8 (List.replicate 32 0)) (X := RY) HQ.out eR.symm (w' := qRY.alloc (.cells (b8 (List.replicate 32 0)).toArray 26)) (by rw [← eR]; exact At.new _ _ _) (Below.alloc (Below.refl _ _) (Nat.le_refl _) _)
  rw [eR]
  clear eR HQ
  generalize World.alloc qRY _ = pRY at *
  refine stepStore (by rfl) _ _ _ (by rfl) RY (b8 xb) (by kernel_rfl) (by kernel_rfl) hb1.head 32 (by kernel_rfl) (by rw [b8_len]; rfl) (by rw [b8_len]; exact HLXRY.out) (oneCells_b8 _) ?_
  simp only [Act.put]
  have H4 := WirS.hide (bag_row hb1 (b8 xb))
  clear hb1
  generalize World.setRow pRY RY _ = y2 at *
  go_upto_region 6 with fail
  refine wp_region_lit ?_
  refine sV (.int .i64 ca) (y2) (by kernel_rfl) (by kernel_rfl) ?_
  simp only [Act.put, List.setIfInBounds_toArray, List.set_cons_succ, List.set_cons_zero]
  refine sL (by kernel_rfl) _ _ (by rfl) _ (by kernel_rfl) (H4.out.all (box 58 A a.cells) (by simp)).1 _ _ Tryd.underlying58 rfl (by kernel_rfl) (by rw [HLa.out]) ?_
  simp only [Act.put, List.setIfInBounds_toArray, List.set_cons_succ, List.set_cons_zero]
  refine sC (R := fun w' => Below y2.heap.size y2 w') (by kernel_rfl) (by kernel_rfl) (HCa.out y2) ?_
  rintro v1 hb
  simp only [Act.put, List.setIfInBounds_toArray, List.set_cons_succ, List.set_cons_zero]
  have HV1 := WirS.hide (H4.out.more hb)
  clear hb H4
  refine sB (by kernel_rfl) .neq 30 _ _ _ (by rfl) (.int .i64 ca) (.int .i64 ca) (by kernel_rfl) (by kernel_rfl) (.bool false) (neI ca _) (by kernel_rfl) ?_
  simp only [Act.put, List.setIfInBounds_toArray, List.set_cons_succ, List.set_cons_zero]
  refine sV (.bool false) (v1) (by kernel_rfl) (by kernel_rfl) ?_
  simp only [Act.put, List.setIfInBounds_toArray, List.set_cons_succ, List.set_cons_zero]
  refine sV (.int .i64 cb) (v1) (by kernel_rfl) (by kernel_rfl) ?_
  simp only [Act.put, List.setIfInBounds_toArray, List.set_cons_succ, List.set_cons_zero]
  refine sL (by kernel_rfl) _ _ (by rfl) _ (by kernel_rfl) (HV1.out.all (box 58 B b.cells) (by simp)).1 _ _ Tryd.underlying58 rfl (by kernel_rfl) (by rw [HLb.out]) ?_
  simp only [Act.put, List.setIfInBounds_toArray, List.set_cons_succ, List.set_cons_zero]
  refine sC (R := fun w' => Below v1.heap.size v1 w') (by kernel_rfl) (by kernel_rfl) (HCb.out v1) ?_
  rintro v2 hb
  simp only [Act.put, List.setIfInBounds_toArray, List.set_cons_succ, List.set_cons_zero]
  have HV2 := WirS.hide (HV1.out.more hb)
  clear hb HV1
  refine sB (by kernel_rfl) .neq 30 _ _ _ (by rfl) (.int .i64 cb) (.int .i64 cb) (by kernel_rfl) (by kernel_rfl) (.bool false) (neI cb _) (by kernel_rfl) ?_
  simp only [Act.put, List.setIfInBounds_toArray, List.set_cons_succ, List.set_cons_zero]
  have hxz : ∀ t : Hd, hchk t ≠ 0 → xh t = List.replicate 32 0 := fun t h => by unfold xh; rw [if_neg h]
  by_cases hca : ca = 0
  · subst hca
    by_cases hcb : cb = 0
    · subst hcb
      have oka : HOk a := ok_of HEA.out
      have okb : HOk b := ok_of HEB.out
      have hla := form_len oka
      have hlb := form_len okb
      have hxa : xa = sumL (hin a) := by rw [← HXA.out]; unfold xh; rw [if_pos HEA.out]
      have hxb : xb = sumL (hin b) := by rw [← HXB.out]; unfold xh; rw [if_pos HEB.out]
      have hra : rng (hform a) := HdK.form_rng oka HIa.out.hs
      have hrb : rng (hform b) := HdK.form_rng okb HIb.out.hs
      have hin_rng : ∀ t : Hd, rng (hform t) → rng (hin t) := fun t h x hx => by
        rcases List.mem_cons.1 hx with rfl | hx
        · decide
        · exact h x hx
      have HSa : Hid (∀ U v, Below w.heap.size w U → BIn U v (hin a) → Calls Tryd.prog 13 #[v] U (fun e w' => e = .returned (.agg (b8 xa).toArray) ∧ Below U.heap.size U w')) := WirS.hide (fun U v hU hv => by rw [hxa]; exact BlkK.sumP_any U v (hin a) hv (hin_rng a hra) (HGL.out U hU) (by simp [hin]; omega))
      have HSb : Hid (∀ U v, Below w.heap.size w U → BIn U v (hin b) → Calls Tryd.prog 13 #[v] U (fun e w' => e = .returned (.agg (b8 xb).toArray) ∧ Below U.heap.size U w')) := WirS.hide (fun U v hU hv => by rw [hxb]; exact BlkK.sumP_any U v (hin b) hv (hin_rng b hrb) (HGL.out U hU) (by simp [hin]; omega))
      have hdec : decide (hform a = hform b) = HdQ.same a b := by
        by_cases h : hform a = hform b
        · rw [decide_eq_true h, form_inj oka okb h, HdQ.same_self]
        · rw [decide_eq_false h]
          cases hq : HdQ.same a b with
          | false => rfl
          | true => exact absurd (congrArg hform (same_eq hq)) h
      obtain ⟨s, hs⟩ : ∃ s, HdQ.same a b = s := ⟨_, rfl⟩
      have HXY : Hid (s = true → xa = xb) := WirS.hide (fun h => by rw [← HXA.out, ← HXB.out, same_eq (hs.trans h)])
      have HQE := WirS.hide (fun W => show (binOp .eql 58 (.agg a.cells.toArray) (.agg b.cells.toArray)).run Tryd.prog W = .ok (.bool s) W from by rw [HdQ.heq, hs])
      have HQN := WirS.hide (fun W => show (binOp .neq 58 (.agg a.cells.toArray) (.agg b.cells.toArray)).run Tryd.prog W = .ok (.bool (!s)) W from by rw [HdQ.hneq, hs])
      have HSB : Hid (∀ U c1 c2 c3 d1 d2 d3, BIn U (.slice c1 c2 c3) (hform a) → BIn U (.slice d1 d2 d3) (hform b) → Calls Tryd.prog 35 #[.slice c1 c2 c3, .slice d1 d2 d3] U (fun e w' => e = .returned (.bool s) ∧ Below U.heap.size U w')) := WirS.hide (fun U c1 c2 c3 d1 d2 d3 h1 h2 => (WirU.same_any U c1 d1 c2 c3 d2 d3 _ _ h1 h2 hra hrb).mono fun e w' ⟨h3, h4⟩ => ⟨by rw [h3, hdec, hs], by subst h4; exact Below.refl _ _⟩)
      have HEa := WirS.hide (fun U => encode_ok U a oka)
      have HEb := WirS.hide (fun U => encode_ok U b okb)
      have HNX := WirS.hide (fun W => show (binOp .neq 26 (.agg (b8 xa).toArray) (.agg (b8 xa).toArray)).run Tryd.prog W = .ok (.bool false) W from by rw [neqH xa xa HLXRX.out HLXRX.out W]; simp)
      have HNY := WirS.hide (fun W => show (binOp .neq 26 (.agg (b8 xb).toArray) (.agg (b8 xb).toArray)).run Tryd.prog W = .ok (.bool false) W from by rw [neqH xb xb HLXRY.out HLXRY.out W]; simp)
      have HEX := WirS.hide (fun W => show (binOp .eql 26 (.agg (b8 xa).toArray) (.agg (b8 xa).toArray)).run Tryd.prog W = .ok (.bool true) W from by rw [eqH xa xa HLXRX.out HLXRX.out W]; simp)
      have HLA := WirS.hide hla
      have HLB := WirS.hide hlb
      clear hxz oka okb hla hlb hxa hxb hra hrb hin_rng hdec hs HKN
      go_upto_region 10 with fail
      refine wp_region_lit ?_
      refine sL (by kernel_rfl) _ _ (by rfl) _ (by kernel_rfl) (HV2.out.all (box 58 A a.cells) (by simp)).1 _ _ Tryd.underlying58 rfl (by kernel_rfl) (by rw [HLa.out]) ?_
      simp only [Act.put, List.setIfInBounds_toArray, List.set_cons_succ, List.set_cons_zero]
      refine sCx (by kernel_rfl) (by kernel_rfl) (HEa.out v2) ?_
      rintro e nc ⟨ca, cn, cc, rfl, hv, hn, hb⟩
      refine ⟨_, rfl, ?_⟩
      simp only [Act.put, List.setIfInBounds_toArray, List.set_cons_succ, List.set_cons_zero]
      have H5 := WirS.hide (bag_own HV2.out hv hn hb)
      clear hb HV2 hv hn
      go_upto_region 11 with fail
      refine wp_region_lit ?_
      refine sL (by kernel_rfl) _ _ (by rfl) _ (by kernel_rfl) (H5.out.all (box 58 B b.cells) (by simp)).1 _ _ Tryd.underlying58 rfl (by kernel_rfl) (by rw [HLb.out]) ?_
      simp only [Act.put, List.setIfInBounds_toArray, List.set_cons_succ, List.set_cons_zero]
      refine sCx (by kernel_rfl) (by kernel_rfl) (HEb.out nc) ?_
      rintro e nd ⟨da, dn, dc, rfl, hv, hn, hb⟩
      refine ⟨_, rfl, ?_⟩
      simp only [Act.put, List.setIfInBounds_toArray, List.set_cons_succ, List.set_cons_zero]
      have H6 := WirS.hide (bag_own H5.out hv hn hb)
      clear hb H5 hv hn
      go_upto_region 12 with fail
      refine wp_region_lit ?_
      obtain ⟨p1, p2, p3, U1, hm1, r1, no1, _⟩ := cat (no_one nd nd 72 (Below.refl _ _)) ((WirM.Own.bin (H6.out.all (own (.slice ca cn cc) (hform a)) (by simp)).1).below (Below.alloc (Below.refl _ _) (Nat.le_refl _) _)) (by have := HLA.out; simp; omega)
      have H7 : Hid (Bag w U1 (own (.slice p1 p2 p3) (hin a) :: _)) := WirS.hide (bag_own H6.out no1.1 no1.2.1 no1.2.2)
      clear H6 no1 hm1
      refine sV (.slice (some ⟨nd.heap.size, 0, none⟩) 1 1) (nd.alloc (.cells #[.int .u8 72] 5)) (by kernel_rfl) (by kernel_rfl) ?_
      simp only [Act.put, List.setIfInBounds_toArray, List.set_cons_succ, List.set_cons_zero]
      refine sV (.slice ca cn cc) (nd.alloc (.cells #[.int .u8 72] 5)) (by kernel_rfl) (by kernel_rfl) ?_
      simp only [Act.put, List.setIfInBounds_toArray, List.set_cons_succ, List.set_cons_zero]
      refine sA (by kernel_rfl) 22 22 _ _ (by rfl) (.slice (some ⟨nd.heap.size, 0, none⟩) 1 1) (.slice ca cn cc) (by kernel_rfl) (by kernel_rfl) (.slice p1 p2 p3) (U1) r1 ?_
      simp only [Act.put, List.setIfInBounds_toArray, List.set_cons_succ, List.set_cons_zero]
      obtain ⟨q1, q2, q3, U2, hm2, r2, no2, _⟩ := cat (no_one U1 U1 72 (Below.refl _ _)) ((WirM.Own.bin (H7.out.all (own (.slice da dn dc) (hform b)) (by simp)).1).below (Below.alloc (Below.refl _ _) (Nat.le_refl _) _)) (by have := HLB.out; simp; omega)
      have H8 : Hid (Bag w U2 (own (.slice q1 q2 q3) (hin b) :: _)) := WirS.hide (bag_own H7.out no2.1 no2.2.1 no2.2.2)
      clear H7 no2 hm2
      refine sV (.slice (some ⟨U1.heap.size, 0, none⟩) 1 1) (U1.alloc (.cells #[.int .u8 72] 5)) (by kernel_rfl) (by kernel_rfl) ?_
      simp only [Act.put, List.setIfInBounds_toArray, List.set_cons_succ, List.set_cons_zero]
      refine sV (.slice da dn dc) (U1.alloc (.cells #[.int .u8 72] 5)) (by kernel_rfl) (by kernel_rfl) ?_
      simp only [Act.put, List.setIfInBounds_toArray, List.set_cons_succ, List.set_cons_zero]
      refine sA (by kernel_rfl) 22 22 _ _ (by rfl) (.slice (some ⟨U1.heap.size, 0, none⟩) 1 1) (.slice da dn dc) (by kernel_rfl) (by kernel_rfl) (.slice q1 q2 q3) (U2) r2 ?_
      simp only [Act.put, List.setIfInBounds_toArray, List.set_cons_succ, List.set_cons_zero]
      clear r1 r2
      go_upto_region 13 with fail
      have G0 : Hid (Bag w U2.drew [own (.slice q1 q2 q3) (hin b), own (.slice p1 p2 p3) (hin a), own (.slice da dn dc) (hform b), own (.slice ca cn cc) (hform a), box 26 RY (b8 xb), box 26 RX (b8 xa), box 58 B b.cells, box 58 A a.cells]) := WirS.hide (H8.out.more (below_drewN (Below.refl _ _) 1))
      clear H8
      refine wp_region_noPanic ?_
      refine wp_region_held_drew (S := fun w' => w'.rangeAt A 0 a.cells ∧ w'.rangeAt B 0 b.cells ∧ w'.rangeAt RX 0 (b8 xa) ∧ w'.rangeAt RY 0 (b8 xb)) (by kernel_rfl) (held G0.out (by simp) (by simp) (by simp) (by simp)) (fun hHeld => ?_)
      generalize World.drew U2 = z0 at *
      refine' wpAnyH_take (i := 0) (oi := _) (v := .agg ((b8 xa)).toArray) rfl (by kernel_rfl) (by kernel_rfl) (by kernel_rfl) (fun _ _ _ h => h) (yieldsIf_load_mid (by kernel_rfl) 26 (.tmp 6) (by kernel_rfl) RX 0 (by kernel_rfl) ((b8 xa)) _ (fun _ h => h.2.2.1) Tryd.underlying26 (by kernel_rfl) (by rw [b8_len, HLXRX.out]; kernel_rfl)) (by assumption) ?rest0
      case rest0 =>
      try simp only [List.getElem_toArray, List.getElem_cons_zero, Act.put, List.setIfInBounds_toArray, List.set_cons_zero, List.set_cons_succ]
      refine' wpAnyH_take (i := 1) (oi := _) (v := _) rfl (by kernel_rfl) (by kernel_rfl) (by kernel_rfl) (fun _ _ _ h => h) (Or.inl ⟨by kernel_rfl, ?hy1⟩) (by assumption) ?rest1
      case hy1 =>
        intro w hSw
        try dsimp only at hSw
        go_simp
        try with_reducible rfl
      case rest1 =>
      try simp only [List.getElem_toArray, List.getElem_cons_succ, List.getElem_cons_zero, Act.put, List.setIfInBounds_toArray, List.set_cons_zero, List.set_cons_succ]
      refine wpAnyH_ready (rs := [2]) (by kernel_rfl) (by simp) ?_
      refine AllReadyH.cons rfl (fun K hK => ?_) AllReadyH.nil
      rw [if_pos (by kernel_rfl)]
      refine stepCallH (v := .agg (b8 xa).toArray) (R := fun w' => Bag w w' [own (.slice q1 q2 q3) (hin b), own (.slice p1 p2 p3) (hin a), own (.slice da dn dc) (hform b), own (.slice ca cn cc) (hform a), box 26 RY (b8 xb), box 26 RX (b8 xa), box 58 B b.cells, box 58 A a.cells]) (by kernel_rfl) ((HSa.out z0 _ G0.out.low (WirM.Own.bin (G0.out.all (own (.slice p1 p2 p3) (hin a)) (by simp)).1)).mono fun e w' ⟨h1, h2⟩ => ⟨h1, G0.out.more h2⟩) ?_
      rintro z1 hb
      try simp only [List.getElem_toArray, List.getElem_cons_succ, List.getElem_cons_zero, Act.put, List.setIfInBounds_toArray, List.set_cons_zero, List.set_cons_succ]
      have G1 := WirS.hide hb
      clear hb G0
      refine hK.out _ _ (held G1.out (by simp) (by simp) (by simp) (by simp)) (fun hHeld => ?_)
      clear hK K
      refine' wpAnyH_take (i := 3) (oi := _) (v := .bool false) rfl (by kernel_rfl) (by kernel_rfl) (by kernel_rfl) (fun _ _ _ h => h) (Or.inl ⟨by kernel_rfl, ?hy3⟩) (by assumption) ?rest3
      case hy3 =>
        intro W _
        exact run_eq (op := .neq) (t := 26) (t2 := 26) (x := .tmp 89) (y := .tmp 91) (vx := .agg (b8 xa).toArray) (vy := .agg (b8 xa).toArray) (by kernel_rfl) (by kernel_rfl) (by kernel_rfl) (HNX.out W) (by kernel_rfl)
      case rest3 =>
      try simp only [List.getElem_toArray, List.getElem_cons_succ, List.getElem_cons_zero, Act.put, List.setIfInBounds_toArray, List.set_cons_zero, List.set_cons_succ]
      refine' wpAnyH_take (i := 4) (oi := _) (v := _) rfl (by kernel_rfl) (by kernel_rfl) (by kernel_rfl) (fun _ _ _ h => h) (Or.inl ⟨by kernel_rfl, ?hy4⟩) (by assumption) ?rest4
      case hy4 =>
        intro w hSw
        try dsimp only at hSw
        go_simp
        try with_reducible rfl
      case rest4 =>
      try simp only [List.getElem_toArray, List.getElem_cons_succ, List.getElem_cons_zero, Act.put, List.setIfInBounds_toArray, List.set_cons_zero, List.set_cons_succ]
      refine' wpAnyH_take (i := 5) (oi := _) (v := .agg ((b8 xb)).toArray) rfl (by kernel_rfl) (by kernel_rfl) (by kernel_rfl) (fun _ _ _ h => h) (yieldsIf_load_mid (by kernel_rfl) 26 (.tmp 8) (by kernel_rfl) RY 0 (by kernel_rfl) ((b8 xb)) _ (fun _ h => h.2.2.2) Tryd.underlying26 (by kernel_rfl) (by rw [b8_len, HLXRY.out]; kernel_rfl)) (by assumption) ?rest5
      case rest5 =>
      try simp only [List.getElem_toArray, List.getElem_cons_succ, List.getElem_cons_zero, Act.put, List.setIfInBounds_toArray, List.set_cons_zero, List.set_cons_succ]
      refine' wpAnyH_take (i := 6) (oi := _) (v := _) rfl (by kernel_rfl) (by kernel_rfl) (by kernel_rfl) (fun _ _ _ h => h) (Or.inl ⟨by kernel_rfl, ?hy6⟩) (by assumption) ?rest6
      case hy6 =>
        intro w hSw
        try dsimp only at hSw
        go_simp
        try with_reducible rfl
      case rest6 =>
      try simp only [List.getElem_toArray, List.getElem_cons_succ, List.getElem_cons_zero, Act.put, List.setIfInBounds_toArray, List.set_cons_zero, List.set_cons_succ]
      refine wpAnyH_ready (rs := [7]) (by kernel_rfl) (by simp) ?_
      refine AllReadyH.cons rfl (fun K hK => ?_) AllReadyH.nil
      rw [if_pos (by kernel_rfl)]
      refine stepCallH (v := .agg (b8 xb).toArray) (R := fun w' => Bag w w' [own (.slice q1 q2 q3) (hin b), own (.slice p1 p2 p3) (hin a), own (.slice da dn dc) (hform b), own (.slice ca cn cc) (hform a), box 26 RY (b8 xb), box 26 RX (b8 xa), box 58 B b.cells, box 58 A a.cells]) (by kernel_rfl) ((HSb.out z1 _ G1.out.low (WirM.Own.bin (G1.out.all (own (.slice q1 q2 q3) (hin b)) (by simp)).1)).mono fun e w' ⟨h1, h2⟩ => ⟨h1, G1.out.more h2⟩) ?_
      rintro z2 hb
      try simp only [List.getElem_toArray, List.getElem_cons_succ, List.getElem_cons_zero, Act.put, List.setIfInBounds_toArray, List.set_cons_zero, List.set_cons_succ]
      have G2 := WirS.hide hb
      clear hb G1
      refine hK.out _ _ (held G2.out (by simp) (by simp) (by simp) (by simp)) (fun hHeld => ?_)
      clear hK K
      refine' wpAnyH_take (i := 8) (oi := _) (v := .bool false) rfl (by kernel_rfl) (by kernel_rfl) (by kernel_rfl) (fun _ _ _ h => h) (Or.inl ⟨by kernel_rfl, ?hy8⟩) (by assumption) ?rest8
      case hy8 =>
        intro W _
        exact run_eq (op := .neq) (t := 26) (t2 := 26) (x := .tmp 94) (y := .tmp 96) (vx := .agg (b8 xb).toArray) (vy := .agg (b8 xb).toArray) (by kernel_rfl) (by kernel_rfl) (by kernel_rfl) (HNY.out W) (by kernel_rfl)
      case rest8 =>
      try simp only [List.getElem_toArray, List.getElem_cons_succ, List.getElem_cons_zero, Act.put, List.setIfInBounds_toArray, List.set_cons_zero, List.set_cons_succ]
      refine' wpAnyH_take (i := 9) (oi := _) (v := _) rfl (by kernel_rfl) (by kernel_rfl) (by kernel_rfl) (fun _ _ _ h => h) (Or.inl ⟨by kernel_rfl, ?hy9⟩) (by assumption) ?rest9
      case hy9 =>
        intro w hSw
        try dsimp only at hSw
        go_simp
        try with_reducible rfl
      case rest9 =>
      try simp only [List.getElem_toArray, List.getElem_cons_succ, List.getElem_cons_zero, Act.put, List.setIfInBounds_toArray, List.set_cons_zero, List.set_cons_succ]
      refine' wpAnyH_take (i := 10) (oi := _) (v := _) rfl (by kernel_rfl) (by kernel_rfl) (by kernel_rfl) (fun _ _ _ h => h) (Or.inl ⟨by kernel_rfl, ?hy10⟩) (by assumption) ?rest10
      case hy10 =>
        intro w hSw
        try dsimp only at hSw
        go_simp
        try with_reducible rfl
      case rest10 =>
      try simp only [List.getElem_toArray, List.getElem_cons_succ, List.getElem_cons_zero, Act.put, List.setIfInBounds_toArray, List.set_cons_zero, List.set_cons_succ]
      refine' wpAnyH_take (i := 11) (oi := _) (v := _) rfl (by kernel_rfl) (by kernel_rfl) (by kernel_rfl) (fun _ _ _ h => h) (Or.inl ⟨by kernel_rfl, ?hy11⟩) (by assumption) ?rest11
      case hy11 =>
        intro w hSw
        try dsimp only at hSw
        go_simp
        try with_reducible rfl
      case rest11 =>
      try simp only [List.getElem_toArray, List.getElem_cons_succ, List.getElem_cons_zero, Act.put, List.setIfInBounds_toArray, List.set_cons_zero, List.set_cons_succ]
      refine' wpAnyH_take (i := 12) (oi := _) (v := _) rfl (by kernel_rfl) (by kernel_rfl) (by kernel_rfl) (fun _ _ _ h => h) (Or.inl ⟨by kernel_rfl, ?hy12⟩) (by assumption) ?rest12
      case hy12 =>
        intro w hSw
        try dsimp only at hSw
        go_simp
        try with_reducible rfl
      case rest12 =>
      try simp only [List.getElem_toArray, List.getElem_cons_succ, List.getElem_cons_zero, Act.put, List.setIfInBounds_toArray, List.set_cons_zero, List.set_cons_succ]
      refine' wpAnyH_take (i := 14) (oi := _) (v := .agg (a.cells).toArray) rfl (by kernel_rfl) (by kernel_rfl) (by kernel_rfl) (fun _ _ _ h => h) (yieldsIf_load_mid (by kernel_rfl) 58 (.tmp 2) (by kernel_rfl) A 0 (by kernel_rfl) (a.cells) _ (fun _ h => h.1) Tryd.underlying58 (by kernel_rfl) (by rw [HLa.out]; kernel_rfl)) (by assumption) ?rest14
      case rest14 =>
      try simp only [List.getElem_toArray, List.getElem_cons_succ, List.getElem_cons_zero, Act.put, List.setIfInBounds_toArray, List.set_cons_zero, List.set_cons_succ]
      refine' wpAnyH_take (i := 15) (oi := _) (v := .agg (b.cells).toArray) rfl (by kernel_rfl) (by kernel_rfl) (by kernel_rfl) (fun _ _ _ h => h) (yieldsIf_load_mid (by kernel_rfl) 58 (.tmp 3) (by kernel_rfl) B 0 (by kernel_rfl) (b.cells) _ (fun _ h => h.2.1) Tryd.underlying58 (by kernel_rfl) (by rw [HLb.out]; kernel_rfl)) (by assumption) ?rest15
      case rest15 =>
      try simp only [List.getElem_toArray, List.getElem_cons_succ, List.getElem_cons_zero, Act.put, List.setIfInBounds_toArray, List.set_cons_zero, List.set_cons_succ]
      refine' wpAnyH_take (i := 16) (oi := _) (v := .bool s) rfl (by kernel_rfl) (by kernel_rfl) (by kernel_rfl) (fun _ _ _ h => h) (Or.inl ⟨by kernel_rfl, ?hy16⟩) (by assumption) ?rest16
      case hy16 =>
        intro W _
        exact run_eq (op := .eql) (t := 58) (t2 := 58) (x := .tmp 103) (y := .tmp 104) (vx := .agg a.cells.toArray) (vy := .agg b.cells.toArray) (by kernel_rfl) (by kernel_rfl) (by kernel_rfl) (HQE.out W) (by kernel_rfl)
      case rest16 =>
      try simp only [List.getElem_toArray, List.getElem_cons_succ, List.getElem_cons_zero, Act.put, List.setIfInBounds_toArray, List.set_cons_zero, List.set_cons_succ]
      refine wpAnyH_ready (rs := [13]) (by kernel_rfl) (by simp) ?_
      refine AllReadyH.cons rfl (fun K hK => ?_) AllReadyH.nil
      rw [if_pos (by kernel_rfl)]
      refine stepCallH (v := .bool s) (R := fun w' => Bag w w' [own (.slice q1 q2 q3) (hin b), own (.slice p1 p2 p3) (hin a), own (.slice da dn dc) (hform b), own (.slice ca cn cc) (hform a), box 26 RY (b8 xb), box 26 RX (b8 xa), box 58 B b.cells, box 58 A a.cells]) (by kernel_rfl) ((HSB.out z2 _ _ _ _ _ _ (WirM.Own.bin (G2.out.all (own (.slice ca cn cc) (hform a)) (by simp)).1) (WirM.Own.bin (G2.out.all (own (.slice da dn dc) (hform b)) (by simp)).1)).mono fun e w' ⟨h1, h2⟩ => ⟨h1, G2.out.more h2⟩) ?_
      rintro z3 hb
      try simp only [List.getElem_toArray, List.getElem_cons_succ, List.getElem_cons_zero, Act.put, List.setIfInBounds_toArray, List.set_cons_zero, List.set_cons_succ]
      have G3 := WirS.hide hb
      clear hb G2
      refine hK.out _ _ (held G3.out (by simp) (by simp) (by simp) (by simp)) (fun hHeld => ?_)
      clear hK K
      refine' wpAnyH_take (i := 17) (oi := _) (v := .bool false) rfl (by kernel_rfl) (by kernel_rfl) (by kernel_rfl) (fun _ _ _ h => h) (Or.inl ⟨by kernel_rfl, ?hy17⟩) (by assumption) ?rest17
      case hy17 =>
        intro W _
        exact run_eq (op := .neq) (t := 4) (t2 := 4) (x := .tmp 102) (y := .tmp 105) (vx := .bool s) (vy := .bool s) (by kernel_rfl) (by kernel_rfl) (by kernel_rfl) (nb_b s W) (by kernel_rfl)
      case rest17 =>
      try simp only [List.getElem_toArray, List.getElem_cons_succ, List.getElem_cons_zero, Act.put, List.setIfInBounds_toArray, List.set_cons_zero, List.set_cons_succ]
      refine' wpAnyH_take (i := 18) (oi := _) (v := _) rfl (by kernel_rfl) (by kernel_rfl) (by kernel_rfl) (fun _ _ _ h => h) (Or.inl ⟨by kernel_rfl, ?hy18⟩) (by assumption) ?rest18
      case hy18 =>
        intro w hSw
        try dsimp only at hSw
        go_simp
        try with_reducible rfl
      case rest18 =>
      try simp only [List.getElem_toArray, List.getElem_cons_succ, List.getElem_cons_zero, Act.put, List.setIfInBounds_toArray, List.set_cons_zero, List.set_cons_succ]
      refine wpAnyH_done (by kernel_rfl) ?_ _
      refine NoPanic.normal ?_
      clear hHeld
      go_upto_region 15 with fail
      refine wp_region_lit ?_
      cases s with
      | true =>
        obtain rfl := HXY.out rfl
        refine sV (.bool true) (z3) (by kernel_rfl) (by kernel_rfl) ?_
        simp only [Act.put, List.setIfInBounds_toArray, List.set_cons_succ, List.set_cons_zero]
        refine sV (.bool true) (z3) (by kernel_rfl) (by kernel_rfl) ?_
        simp only [Act.put, List.setIfInBounds_toArray, List.set_cons_succ, List.set_cons_zero]
        refine sL (by kernel_rfl) _ _ (by rfl) _ (by kernel_rfl) (G3.out.all (box 58 A a.cells) (by simp)).1 _ _ Tryd.underlying58 rfl (by kernel_rfl) (by rw [HLa.out]) ?_
        simp only [Act.put, List.setIfInBounds_toArray, List.set_cons_succ, List.set_cons_zero]
        refine sL (by kernel_rfl) _ _ (by rfl) _ (by kernel_rfl) (G3.out.all (box 58 B b.cells) (by simp)).1 _ _ Tryd.underlying58 rfl (by kernel_rfl) (by rw [HLb.out]) ?_
        simp only [Act.put, List.setIfInBounds_toArray, List.set_cons_succ, List.set_cons_zero]
        refine sB (by kernel_rfl) .neq 58 _ _ _ (by rfl) (.agg a.cells.toArray) (.agg b.cells.toArray) (by kernel_rfl) (by kernel_rfl) (.bool false) (HQN.out _) (by kernel_rfl) ?_
        simp only [Act.put, List.setIfInBounds_toArray, List.set_cons_succ, List.set_cons_zero]
        refine sV (.bool false) (z3) (by kernel_rfl) (by kernel_rfl) ?_
        simp only [Act.put, List.setIfInBounds_toArray, List.set_cons_succ, List.set_cons_zero]
        refine sL (by kernel_rfl) _ _ (by rfl) _ (by kernel_rfl) (G3.out.all (box 26 RX (b8 xa)) (by simp)).1 _ 32 Tryd.underlying26 rfl (by kernel_rfl) (by rw [b8_len]; exact HLXRX.out) ?_
        simp only [Act.put, List.setIfInBounds_toArray, List.set_cons_succ, List.set_cons_zero]
        refine sL (by kernel_rfl) _ _ (by rfl) _ (by kernel_rfl) (G3.out.all (box 26 RY (b8 xa)) (by simp)).1 _ 32 Tryd.underlying26 rfl (by kernel_rfl) (by rw [b8_len]; exact HLXRY.out) ?_
        simp only [Act.put, List.setIfInBounds_toArray, List.set_cons_succ, List.set_cons_zero]
        refine sB (by kernel_rfl) .eql 26 _ _ _ (by rfl) (.agg (b8 xa).toArray) (.agg (b8 xa).toArray) (by kernel_rfl) (by kernel_rfl) (.bool true) (HEX.out _) (by kernel_rfl) ?_
        simp only [Act.put, List.setIfInBounds_toArray, List.set_cons_succ, List.set_cons_zero]
        refine sV (.bool true) (z3) (by kernel_rfl) (by kernel_rfl) ?_
        simp only [Act.put, List.setIfInBounds_toArray, List.set_cons_succ, List.set_cons_zero]
        refine sV (.bool true) (z3) (by kernel_rfl) (by kernel_rfl) ?_
        simp only [Act.put, List.setIfInBounds_toArray, List.set_cons_succ, List.set_cons_zero]
        refine sV (.bool true) (z3) (by kernel_rfl) (by kernel_rfl) ?_
        simp only [Act.put, List.setIfInBounds_toArray, List.set_cons_succ, List.set_cons_zero]
        refine sL (by kernel_rfl) _ _ (by rfl) _ (by kernel_rfl) (G3.out.all (box 58 A a.cells) (by simp)).1 _ _ Tryd.underlying58 rfl (by kernel_rfl) (by rw [HLa.out]) ?_
        simp only [Act.put, List.setIfInBounds_toArray, List.set_cons_succ, List.set_cons_zero]
        refine sL (by kernel_rfl) _ _ (by rfl) _ (by kernel_rfl) (G3.out.all (box 58 B b.cells) (by simp)).1 _ _ Tryd.underlying58 rfl (by kernel_rfl) (by rw [HLb.out]) ?_
        simp only [Act.put, List.setIfInBounds_toArray, List.set_cons_succ, List.set_cons_zero]
        refine sB (by kernel_rfl) .eql 58 _ _ _ (by rfl) (.agg a.cells.toArray) (.agg b.cells.toArray) (by kernel_rfl) (by kernel_rfl) (.bool true) (HQE.out _) (by kernel_rfl) ?_
        simp only [Act.put, List.setIfInBounds_toArray, List.set_cons_succ, List.set_cons_zero]
        refine sV (.bool true) (z3) (by kernel_rfl) (by kernel_rfl) ?_
        simp only [Act.put, List.setIfInBounds_toArray, List.set_cons_succ, List.set_cons_zero]
        with_reducible refine sS (by kernel_rfl) ?_
        simp only [Act.put, List.setIfInBounds_toArray, List.set_cons_succ, List.set_cons_zero]
        with_reducible refine sS (by kernel_rfl) ?_
        simp only [Act.put, List.setIfInBounds_toArray, List.set_cons_succ, List.set_cons_zero]
        with_reducible refine sS (by kernel_rfl) ?_
        simp only [Act.put, List.setIfInBounds_toArray, List.set_cons_succ, List.set_cons_zero]
        refine sV (.bool true) (z3) (by kernel_rfl) (by kernel_rfl) ?_
        simp only [Act.put, List.setIfInBounds_toArray, List.set_cons_succ, List.set_cons_zero]
        refine sV (.bool true) (z3) (by kernel_rfl) (by kernel_rfl) ?_
        simp only [Act.put, List.setIfInBounds_toArray, List.set_cons_succ, List.set_cons_zero]
        with_reducible refine sS (by kernel_rfl) ?_
        simp only [Act.put, List.setIfInBounds_toArray, List.set_cons_succ, List.set_cons_zero]
        with_reducible refine sS (by kernel_rfl) ?_
        simp only [Act.put, List.setIfInBounds_toArray, List.set_cons_succ, List.set_cons_zero]
        with_reducible refine sS (by kernel_rfl) ?_
        simp only [Act.put, List.setIfInBounds_toArray, List.set_cons_succ, List.set_cons_zero]
        with_reducible refine sS (by kernel_rfl) ?_
        simp only [Act.put, List.setIfInBounds_toArray, List.set_cons_succ, List.set_cons_zero]
        with_reducible refine sS (by kernel_rfl) ?_
        simp only [Act.put, List.setIfInBounds_toArray, List.set_cons_succ, List.set_cons_zero]
        refine sV (.bool true) (z3) (by kernel_rfl) (by kernel_rfl) ?_
        simp only [Act.put, List.setIfInBounds_toArray, List.set_cons_succ, List.set_cons_zero]
        refine sV (.bool true) (z3) (by kernel_rfl) (by kernel_rfl) ?_
        simp only [Act.put, List.setIfInBounds_toArray, List.set_cons_succ, List.set_cons_zero]
        go_wp2_with fail
        go_ret
        exact ⟨rfl, G3.out.low⟩
      | false =>
        by_cases hxy : xa = xb
        · subst hxy
          refine sV (.bool true) (z3) (by kernel_rfl) (by kernel_rfl) ?_
          simp only [Act.put, List.setIfInBounds_toArray, List.set_cons_succ, List.set_cons_zero]
          refine sV (.bool true) (z3) (by kernel_rfl) (by kernel_rfl) ?_
          simp only [Act.put, List.setIfInBounds_toArray, List.set_cons_succ, List.set_cons_zero]
          refine sL (by kernel_rfl) _ _ (by rfl) _ (by kernel_rfl) (G3.out.all (box 58 A a.cells) (by simp)).1 _ _ Tryd.underlying58 rfl (by kernel_rfl) (by rw [HLa.out]) ?_
          simp only [Act.put, List.setIfInBounds_toArray, List.set_cons_succ, List.set_cons_zero]
          refine sL (by kernel_rfl) _ _ (by rfl) _ (by kernel_rfl) (G3.out.all (box 58 B b.cells) (by simp)).1 _ _ Tryd.underlying58 rfl (by kernel_rfl) (by rw [HLb.out]) ?_
          simp only [Act.put, List.setIfInBounds_toArray, List.set_cons_succ, List.set_cons_zero]
          refine sB (by kernel_rfl) .neq 58 _ _ _ (by rfl) (.agg a.cells.toArray) (.agg b.cells.toArray) (by kernel_rfl) (by kernel_rfl) (.bool true) (HQN.out _) (by kernel_rfl) ?_
          simp only [Act.put, List.setIfInBounds_toArray, List.set_cons_succ, List.set_cons_zero]
          refine sV (.bool true) (z3) (by kernel_rfl) (by kernel_rfl) ?_
          simp only [Act.put, List.setIfInBounds_toArray, List.set_cons_succ, List.set_cons_zero]
          with_reducible refine sS (by kernel_rfl) ?_
          simp only [Act.put, List.setIfInBounds_toArray, List.set_cons_succ, List.set_cons_zero]
          with_reducible refine sS (by kernel_rfl) ?_
          simp only [Act.put, List.setIfInBounds_toArray, List.set_cons_succ, List.set_cons_zero]
          with_reducible refine sS (by kernel_rfl) ?_
          simp only [Act.put, List.setIfInBounds_toArray, List.set_cons_succ, List.set_cons_zero]
          refine sV (.bool true) (z3) (by kernel_rfl) (by kernel_rfl) ?_
          simp only [Act.put, List.setIfInBounds_toArray, List.set_cons_succ, List.set_cons_zero]
          refine sV (.bool true) (z3) (by kernel_rfl) (by kernel_rfl) ?_
          simp only [Act.put, List.setIfInBounds_toArray, List.set_cons_succ, List.set_cons_zero]
          refine sV (.bool true) (z3) (by kernel_rfl) (by kernel_rfl) ?_
          simp only [Act.put, List.setIfInBounds_toArray, List.set_cons_succ, List.set_cons_zero]
          refine sL (by kernel_rfl) _ _ (by rfl) _ (by kernel_rfl) (G3.out.all (box 58 A a.cells) (by simp)).1 _ _ Tryd.underlying58 rfl (by kernel_rfl) (by rw [HLa.out]) ?_
          simp only [Act.put, List.setIfInBounds_toArray, List.set_cons_succ, List.set_cons_zero]
          refine sL (by kernel_rfl) _ _ (by rfl) _ (by kernel_rfl) (G3.out.all (box 58 B b.cells) (by simp)).1 _ _ Tryd.underlying58 rfl (by kernel_rfl) (by rw [HLb.out]) ?_
          simp only [Act.put, List.setIfInBounds_toArray, List.set_cons_succ, List.set_cons_zero]
          refine sB (by kernel_rfl) .eql 58 _ _ _ (by rfl) (.agg a.cells.toArray) (.agg b.cells.toArray) (by kernel_rfl) (by kernel_rfl) (.bool false) (HQE.out _) (by kernel_rfl) ?_
          simp only [Act.put, List.setIfInBounds_toArray, List.set_cons_succ, List.set_cons_zero]
          refine sV (.bool false) (z3) (by kernel_rfl) (by kernel_rfl) ?_
          simp only [Act.put, List.setIfInBounds_toArray, List.set_cons_succ, List.set_cons_zero]
          refine sL (by kernel_rfl) _ _ (by rfl) _ (by kernel_rfl) (G3.out.all (box 26 RX (b8 xa)) (by simp)).1 _ 32 Tryd.underlying26 rfl (by kernel_rfl) (by rw [b8_len]; exact HLXRX.out) ?_
          simp only [Act.put, List.setIfInBounds_toArray, List.set_cons_succ, List.set_cons_zero]
          refine sL (by kernel_rfl) _ _ (by rfl) _ (by kernel_rfl) (G3.out.all (box 26 RY (b8 xa)) (by simp)).1 _ 32 Tryd.underlying26 rfl (by kernel_rfl) (by rw [b8_len]; exact HLXRY.out) ?_
          simp only [Act.put, List.setIfInBounds_toArray, List.set_cons_succ, List.set_cons_zero]
          refine sB (by kernel_rfl) .neq 26 _ _ _ (by rfl) (.agg (b8 xa).toArray) (.agg (b8 xa).toArray) (by kernel_rfl) (by kernel_rfl) (.bool false) (HNX.out _) (by kernel_rfl) ?_
          simp only [Act.put, List.setIfInBounds_toArray, List.set_cons_succ, List.set_cons_zero]
          refine sV (.bool false) (z3) (by kernel_rfl) (by kernel_rfl) ?_
          simp only [Act.put, List.setIfInBounds_toArray, List.set_cons_succ, List.set_cons_zero]
          refine sV (.bool false) (z3) (by kernel_rfl) (by kernel_rfl) ?_
          simp only [Act.put, List.setIfInBounds_toArray, List.set_cons_succ, List.set_cons_zero]
          refine sV (.slice p1 p2 p3) (z3) (by kernel_rfl) (by kernel_rfl) ?_
          simp only [Act.put, List.setIfInBounds_toArray, List.set_cons_succ, List.set_cons_zero]
          refine sC (R := fun w' => Below z3.heap.size z3 w') (by kernel_rfl) (by kernel_rfl) (HSa.out z3 _ G3.out.low (WirM.Own.bin (G3.out.all (own (.slice p1 p2 p3) (hin a)) (by simp)).1)) ?_
          rintro z4 hb
          simp only [Act.put, List.setIfInBounds_toArray, List.set_cons_succ, List.set_cons_zero]
          have G4 := WirS.hide (G3.out.more hb)
          clear hb G3
          refine sV (.slice q1 q2 q3) (z4) (by kernel_rfl) (by kernel_rfl) ?_
          simp only [Act.put, List.setIfInBounds_toArray, List.set_cons_succ, List.set_cons_zero]
          refine sC (R := fun w' => Below z4.heap.size z4 w') (by kernel_rfl) (by kernel_rfl) (HSb.out z4 _ G4.out.low (WirM.Own.bin (G4.out.all (own (.slice q1 q2 q3) (hin b)) (by simp)).1)) ?_
          rintro z5 hb
          simp only [Act.put, List.setIfInBounds_toArray, List.set_cons_succ, List.set_cons_zero]
          have G5 := WirS.hide (G4.out.more hb)
          clear hb G4
          refine sB (by kernel_rfl) .eql 26 _ _ _ (by rfl) (.agg (b8 xa).toArray) (.agg (b8 xa).toArray) (by kernel_rfl) (by kernel_rfl) (.bool true) (HEX.out _) (by kernel_rfl) ?_
          simp only [Act.put, List.setIfInBounds_toArray, List.set_cons_succ, List.set_cons_zero]
          refine sV (.bool true) (z5) (by kernel_rfl) (by kernel_rfl) ?_
          simp only [Act.put, List.setIfInBounds_toArray, List.set_cons_succ, List.set_cons_zero]
          refine sV (.bool true) (z5) (by kernel_rfl) (by kernel_rfl) ?_
          simp only [Act.put, List.setIfInBounds_toArray, List.set_cons_succ, List.set_cons_zero]
          go_wp2_with fail
          go_ret
          exact ⟨rfl, G5.out.low⟩
        · have hnxy := fun W => show (binOp .neq 26 (.agg (b8 xa).toArray) (.agg (b8 xb).toArray)).run Tryd.prog W = .ok (.bool true) W from by rw [neqH xa xb HLXRX.out HLXRY.out W]; simp [hxy]
          refine sV (.bool true) (z3) (by kernel_rfl) (by kernel_rfl) ?_
          simp only [Act.put, List.setIfInBounds_toArray, List.set_cons_succ, List.set_cons_zero]
          refine sV (.bool true) (z3) (by kernel_rfl) (by kernel_rfl) ?_
          simp only [Act.put, List.setIfInBounds_toArray, List.set_cons_succ, List.set_cons_zero]
          refine sL (by kernel_rfl) _ _ (by rfl) _ (by kernel_rfl) (G3.out.all (box 58 A a.cells) (by simp)).1 _ _ Tryd.underlying58 rfl (by kernel_rfl) (by rw [HLa.out]) ?_
          simp only [Act.put, List.setIfInBounds_toArray, List.set_cons_succ, List.set_cons_zero]
          refine sL (by kernel_rfl) _ _ (by rfl) _ (by kernel_rfl) (G3.out.all (box 58 B b.cells) (by simp)).1 _ _ Tryd.underlying58 rfl (by kernel_rfl) (by rw [HLb.out]) ?_
          simp only [Act.put, List.setIfInBounds_toArray, List.set_cons_succ, List.set_cons_zero]
          refine sB (by kernel_rfl) .neq 58 _ _ _ (by rfl) (.agg a.cells.toArray) (.agg b.cells.toArray) (by kernel_rfl) (by kernel_rfl) (.bool true) (HQN.out _) (by kernel_rfl) ?_
          simp only [Act.put, List.setIfInBounds_toArray, List.set_cons_succ, List.set_cons_zero]
          refine sV (.bool true) (z3) (by kernel_rfl) (by kernel_rfl) ?_
          simp only [Act.put, List.setIfInBounds_toArray, List.set_cons_succ, List.set_cons_zero]
          with_reducible refine sS (by kernel_rfl) ?_
          simp only [Act.put, List.setIfInBounds_toArray, List.set_cons_succ, List.set_cons_zero]
          with_reducible refine sS (by kernel_rfl) ?_
          simp only [Act.put, List.setIfInBounds_toArray, List.set_cons_succ, List.set_cons_zero]
          with_reducible refine sS (by kernel_rfl) ?_
          simp only [Act.put, List.setIfInBounds_toArray, List.set_cons_succ, List.set_cons_zero]
          refine sV (.bool true) (z3) (by kernel_rfl) (by kernel_rfl) ?_
          simp only [Act.put, List.setIfInBounds_toArray, List.set_cons_succ, List.set_cons_zero]
          refine sV (.bool true) (z3) (by kernel_rfl) (by kernel_rfl) ?_
          simp only [Act.put, List.setIfInBounds_toArray, List.set_cons_succ, List.set_cons_zero]
          refine sV (.bool true) (z3) (by kernel_rfl) (by kernel_rfl) ?_
          simp only [Act.put, List.setIfInBounds_toArray, List.set_cons_succ, List.set_cons_zero]
          refine sL (by kernel_rfl) _ _ (by rfl) _ (by kernel_rfl) (G3.out.all (box 58 A a.cells) (by simp)).1 _ _ Tryd.underlying58 rfl (by kernel_rfl) (by rw [HLa.out]) ?_
          simp only [Act.put, List.setIfInBounds_toArray, List.set_cons_succ, List.set_cons_zero]
          refine sL (by kernel_rfl) _ _ (by rfl) _ (by kernel_rfl) (G3.out.all (box 58 B b.cells) (by simp)).1 _ _ Tryd.underlying58 rfl (by kernel_rfl) (by rw [HLb.out]) ?_
          simp only [Act.put, List.setIfInBounds_toArray, List.set_cons_succ, List.set_cons_zero]
          refine sB (by kernel_rfl) .eql 58 _ _ _ (by rfl) (.agg a.cells.toArray) (.agg b.cells.toArray) (by kernel_rfl) (by kernel_rfl) (.bool false) (HQE.out _) (by kernel_rfl) ?_
          simp only [Act.put, List.setIfInBounds_toArray, List.set_cons_succ, List.set_cons_zero]
          refine sV (.bool false) (z3) (by kernel_rfl) (by kernel_rfl) ?_
          simp only [Act.put, List.setIfInBounds_toArray, List.set_cons_succ, List.set_cons_zero]
          refine sL (by kernel_rfl) _ _ (by rfl) _ (by kernel_rfl) (G3.out.all (box 26 RX (b8 xa)) (by simp)).1 _ 32 Tryd.underlying26 rfl (by kernel_rfl) (by rw [b8_len]; exact HLXRX.out) ?_
          simp only [Act.put, List.setIfInBounds_toArray, List.set_cons_succ, List.set_cons_zero]
          refine sL (by kernel_rfl) _ _ (by rfl) _ (by kernel_rfl) (G3.out.all (box 26 RY (b8 xb)) (by simp)).1 _ 32 Tryd.underlying26 rfl (by kernel_rfl) (by rw [b8_len]; exact HLXRY.out) ?_
          simp only [Act.put, List.setIfInBounds_toArray, List.set_cons_succ, List.set_cons_zero]
          refine sB (by kernel_rfl) .neq 26 _ _ _ (by rfl) (.agg (b8 xa).toArray) (.agg (b8 xb).toArray) (by kernel_rfl) (by kernel_rfl) (.bool true) (hnxy _) (by kernel_rfl) ?_
          simp only [Act.put, List.setIfInBounds_toArray, List.set_cons_succ, List.set_cons_zero]
          refine sV (.bool true) (z3) (by kernel_rfl) (by kernel_rfl) ?_
          simp only [Act.put, List.setIfInBounds_toArray, List.set_cons_succ, List.set_cons_zero]
          refine sV (.bool true) (z3) (by kernel_rfl) (by kernel_rfl) ?_
          simp only [Act.put, List.setIfInBounds_toArray, List.set_cons_succ, List.set_cons_zero]
          with_reducible refine sS (by kernel_rfl) ?_
          simp only [Act.put, List.setIfInBounds_toArray, List.set_cons_succ, List.set_cons_zero]
          with_reducible refine sS (by kernel_rfl) ?_
          simp only [Act.put, List.setIfInBounds_toArray, List.set_cons_succ, List.set_cons_zero]
          with_reducible refine sS (by kernel_rfl) ?_
          simp only [Act.put, List.setIfInBounds_toArray, List.set_cons_succ, List.set_cons_zero]
          with_reducible refine sS (by kernel_rfl) ?_
          simp only [Act.put, List.setIfInBounds_toArray, List.set_cons_succ, List.set_cons_zero]
          with_reducible refine sS (by kernel_rfl) ?_
          simp only [Act.put, List.setIfInBounds_toArray, List.set_cons_succ, List.set_cons_zero]
          refine sV (.bool true) (z3) (by kernel_rfl) (by kernel_rfl) ?_
          simp only [Act.put, List.setIfInBounds_toArray, List.set_cons_succ, List.set_cons_zero]
          refine sV (.bool true) (z3) (by kernel_rfl) (by kernel_rfl) ?_
          simp only [Act.put, List.setIfInBounds_toArray, List.set_cons_succ, List.set_cons_zero]
          go_wp2_with fail
          go_ret
          exact ⟨rfl, G3.out.low⟩
    · have e1 : (cb != 0) = true := by simpa using hcb
      have hz : xb = List.replicate 32 0 := by rw [← HXB.out]; exact hxz b (by rw [HEB.out]; exact hcb)
      subst hz
      go_upto_region 9 with fail
      refine wp_region_lit ?_
      refine sV (.bool true) (v2) (by kernel_rfl) (by kernel_rfl) ?_
      simp only [Act.put, List.setIfInBounds_toArray, List.set_cons_succ, List.set_cons_zero]
      refine sV (.bool true) (v2) (by kernel_rfl) (by kernel_rfl) ?_
      simp only [Act.put, List.setIfInBounds_toArray, List.set_cons_succ, List.set_cons_zero]
      refine sV (.int .i64 0) (v2) (by kernel_rfl) (by kernel_rfl) ?_
      simp only [Act.put, List.setIfInBounds_toArray, List.set_cons_succ, List.set_cons_zero]
      refine sV (.bool true) (v2) (by kernel_rfl) (by kernel_rfl) ?_
      simp only [Act.put, List.setIfInBounds_toArray, List.set_cons_succ, List.set_cons_zero]
      refine sV (.bool true) (v2) (by kernel_rfl) (by kernel_rfl) ?_
      simp only [Act.put, List.setIfInBounds_toArray, List.set_cons_succ, List.set_cons_zero]
      with_reducible refine sS (by kernel_rfl) ?_
      simp only [Act.put, List.setIfInBounds_toArray, List.set_cons_succ, List.set_cons_zero]
      with_reducible refine sS (by kernel_rfl) ?_
      simp only [Act.put, List.setIfInBounds_toArray, List.set_cons_succ, List.set_cons_zero]
      with_reducible refine sS (by kernel_rfl) ?_
      simp only [Act.put, List.setIfInBounds_toArray, List.set_cons_succ, List.set_cons_zero]
      refine sV (.bool true) (v2) (by kernel_rfl) (by kernel_rfl) ?_
      simp only [Act.put, List.setIfInBounds_toArray, List.set_cons_succ, List.set_cons_zero]
      refine sV (.bool true) (v2) (by kernel_rfl) (by kernel_rfl) ?_
      simp only [Act.put, List.setIfInBounds_toArray, List.set_cons_succ, List.set_cons_zero]
      refine sV (.bool true) (v2) (by kernel_rfl) (by kernel_rfl) ?_
      simp only [Act.put, List.setIfInBounds_toArray, List.set_cons_succ, List.set_cons_zero]
      refine sV (.int .i64 cb) (v2) (by kernel_rfl) (by kernel_rfl) ?_
      simp only [Act.put, List.setIfInBounds_toArray, List.set_cons_succ, List.set_cons_zero]
      refine sB (by kernel_rfl) .eql 30 _ _ _ (by rfl) (.int .i64 cb) (.int .i64 0) (by kernel_rfl) (by kernel_rfl) (.bool false) (eqI0 hcb _) (by kernel_rfl) ?_
      simp only [Act.put, List.setIfInBounds_toArray, List.set_cons_succ, List.set_cons_zero]
      refine sV (.bool false) (v2) (by kernel_rfl) (by kernel_rfl) ?_
      simp only [Act.put, List.setIfInBounds_toArray, List.set_cons_succ, List.set_cons_zero]
      refine sL (by kernel_rfl) _ _ (by rfl) _ (by kernel_rfl) (HV2.out.all (box 26 RY (b8 (List.replicate 32 0))) (by simp)).1 _ 32 Tryd.underlying26 rfl (by kernel_rfl) (by simp [b8_len]) ?_
      simp only [Act.put, List.setIfInBounds_toArray, List.set_cons_succ, List.set_cons_zero]
      refine sV (.agg (b8 (List.replicate 32 0)).toArray) (v2) (by kernel_rfl) (by kernel_rfl) ?_
      simp only [Act.put, List.setIfInBounds_toArray, List.set_cons_succ, List.set_cons_zero]
      refine sB (by kernel_rfl) .eql 26 _ _ _ (by rfl) (.agg (b8 (List.replicate 32 0)).toArray) (.agg (b8 (List.replicate 32 0)).toArray) (by kernel_rfl) (by kernel_rfl) (.bool true) (zz_eq _) (by kernel_rfl) ?_
      simp only [Act.put, List.setIfInBounds_toArray, List.set_cons_succ, List.set_cons_zero]
      refine sV (.bool true) (v2) (by kernel_rfl) (by kernel_rfl) ?_
      simp only [Act.put, List.setIfInBounds_toArray, List.set_cons_succ, List.set_cons_zero]
      refine sV (.bool true) (v2) (by kernel_rfl) (by kernel_rfl) ?_
      simp only [Act.put, List.setIfInBounds_toArray, List.set_cons_succ, List.set_cons_zero]
      go_wp2_with fail
      go_ret
      exact ⟨rfl, HV2.out.low⟩
  · have e0 : (ca != 0) = true := by simpa using hca
    have hz : xa = List.replicate 32 0 := by rw [← HXA.out]; exact hxz a (by rw [HEA.out]; exact hca)
    subst hz
    by_cases hcb : cb = 0
    · subst hcb
      go_upto_region 9 with fail
      refine wp_region_lit ?_
      refine sV (.bool true) (v2) (by kernel_rfl) (by kernel_rfl) ?_
      simp only [Act.put, List.setIfInBounds_toArray, List.set_cons_succ, List.set_cons_zero]
      refine sV (.bool true) (v2) (by kernel_rfl) (by kernel_rfl) ?_
      simp only [Act.put, List.setIfInBounds_toArray, List.set_cons_succ, List.set_cons_zero]
      refine sV (.int .i64 ca) (v2) (by kernel_rfl) (by kernel_rfl) ?_
      simp only [Act.put, List.setIfInBounds_toArray, List.set_cons_succ, List.set_cons_zero]
      refine sB (by kernel_rfl) .eql 30 _ _ _ (by rfl) (.int .i64 ca) (.int .i64 0) (by kernel_rfl) (by kernel_rfl) (.bool false) (eqI0 hca _) (by kernel_rfl) ?_
      simp only [Act.put, List.setIfInBounds_toArray, List.set_cons_succ, List.set_cons_zero]
      refine sV (.bool false) (v2) (by kernel_rfl) (by kernel_rfl) ?_
      simp only [Act.put, List.setIfInBounds_toArray, List.set_cons_succ, List.set_cons_zero]
      refine sL (by kernel_rfl) _ _ (by rfl) _ (by kernel_rfl) (HV2.out.all (box 26 RX (b8 (List.replicate 32 0))) (by simp)).1 _ 32 Tryd.underlying26 rfl (by kernel_rfl) (by simp [b8_len]) ?_
      simp only [Act.put, List.setIfInBounds_toArray, List.set_cons_succ, List.set_cons_zero]
      refine sV (.agg (b8 (List.replicate 32 0)).toArray) (v2) (by kernel_rfl) (by kernel_rfl) ?_
      simp only [Act.put, List.setIfInBounds_toArray, List.set_cons_succ, List.set_cons_zero]
      refine sB (by kernel_rfl) .eql 26 _ _ _ (by rfl) (.agg (b8 (List.replicate 32 0)).toArray) (.agg (b8 (List.replicate 32 0)).toArray) (by kernel_rfl) (by kernel_rfl) (.bool true) (zz_eq _) (by kernel_rfl) ?_
      simp only [Act.put, List.setIfInBounds_toArray, List.set_cons_succ, List.set_cons_zero]
      refine sV (.bool true) (v2) (by kernel_rfl) (by kernel_rfl) ?_
      simp only [Act.put, List.setIfInBounds_toArray, List.set_cons_succ, List.set_cons_zero]
      refine sV (.bool true) (v2) (by kernel_rfl) (by kernel_rfl) ?_
      simp only [Act.put, List.setIfInBounds_toArray, List.set_cons_succ, List.set_cons_zero]
      refine sV (.bool true) (v2) (by kernel_rfl) (by kernel_rfl) ?_
      simp only [Act.put, List.setIfInBounds_toArray, List.set_cons_succ, List.set_cons_zero]
      refine sV (.int .i64 0) (v2) (by kernel_rfl) (by kernel_rfl) ?_
      simp only [Act.put, List.setIfInBounds_toArray, List.set_cons_succ, List.set_cons_zero]
      refine sV (.bool true) (v2) (by kernel_rfl) (by kernel_rfl) ?_
      simp only [Act.put, List.setIfInBounds_toArray, List.set_cons_succ, List.set_cons_zero]
      refine sV (.bool true) (v2) (by kernel_rfl) (by kernel_rfl) ?_
      simp only [Act.put, List.setIfInBounds_toArray, List.set_cons_succ, List.set_cons_zero]
      with_reducible refine sS (by kernel_rfl) ?_
      simp only [Act.put, List.setIfInBounds_toArray, List.set_cons_succ, List.set_cons_zero]
      with_reducible refine sS (by kernel_rfl) ?_
      simp only [Act.put, List.setIfInBounds_toArray, List.set_cons_succ, List.set_cons_zero]
      with_reducible refine sS (by kernel_rfl) ?_
      simp only [Act.put, List.setIfInBounds_toArray, List.set_cons_succ, List.set_cons_zero]
      refine sV (.bool true) (v2) (by kernel_rfl) (by kernel_rfl) ?_
      simp only [Act.put, List.setIfInBounds_toArray, List.set_cons_succ, List.set_cons_zero]
      refine sV (.bool true) (v2) (by kernel_rfl) (by kernel_rfl) ?_
      simp only [Act.put, List.setIfInBounds_toArray, List.set_cons_succ, List.set_cons_zero]
      go_wp2_with fail
      go_ret
      exact ⟨rfl, HV2.out.low⟩
    · have hz : xb = List.replicate 32 0 := by rw [← HXB.out]; exact hxz b (by rw [HEB.out]; exact hcb)
      subst hz
      go_upto_region 9 with fail
      refine wp_region_lit ?_
      refine sV (.bool true) (v2) (by kernel_rfl) (by kernel_rfl) ?_
      simp only [Act.put, List.setIfInBounds_toArray, List.set_cons_succ, List.set_cons_zero]
      refine sV (.bool true) (v2) (by kernel_rfl) (by kernel_rfl) ?_
      simp only [Act.put, List.setIfInBounds_toArray, List.set_cons_succ, List.set_cons_zero]
      refine sV (.int .i64 ca) (v2) (by kernel_rfl) (by kernel_rfl) ?_
      simp only [Act.put, List.setIfInBounds_toArray, List.set_cons_succ, List.set_cons_zero]
      refine sB (by kernel_rfl) .eql 30 _ _ _ (by rfl) (.int .i64 ca) (.int .i64 0) (by kernel_rfl) (by kernel_rfl) (.bool false) (eqI0 hca _) (by kernel_rfl) ?_
      simp only [Act.put, List.setIfInBounds_toArray, List.set_cons_succ, List.set_cons_zero]
      refine sV (.bool false) (v2) (by kernel_rfl) (by kernel_rfl) ?_
      simp only [Act.put, List.setIfInBounds_toArray, List.set_cons_succ, List.set_cons_zero]
      refine sL (by kernel_rfl) _ _ (by rfl) _ (by kernel_rfl) (HV2.out.all (box 26 RX (b8 (List.replicate 32 0))) (by simp)).1 _ 32 Tryd.underlying26 rfl (by kernel_rfl) (by simp [b8_len]) ?_
      simp only [Act.put, List.setIfInBounds_toArray, List.set_cons_succ, List.set_cons_zero]
      refine sV (.agg (b8 (List.replicate 32 0)).toArray) (v2) (by kernel_rfl) (by kernel_rfl) ?_
      simp only [Act.put, List.setIfInBounds_toArray, List.set_cons_succ, List.set_cons_zero]
      refine sB (by kernel_rfl) .eql 26 _ _ _ (by rfl) (.agg (b8 (List.replicate 32 0)).toArray) (.agg (b8 (List.replicate 32 0)).toArray) (by kernel_rfl) (by kernel_rfl) (.bool true) (zz_eq _) (by kernel_rfl) ?_
      simp only [Act.put, List.setIfInBounds_toArray, List.set_cons_succ, List.set_cons_zero]
      refine sV (.bool true) (v2) (by kernel_rfl) (by kernel_rfl) ?_
      simp only [Act.put, List.setIfInBounds_toArray, List.set_cons_succ, List.set_cons_zero]
      refine sV (.bool true) (v2) (by kernel_rfl) (by kernel_rfl) ?_
      simp only [Act.put, List.setIfInBounds_toArray, List.set_cons_succ, List.set_cons_zero]
      refine sV (.bool true) (v2) (by kernel_rfl) (by kernel_rfl) ?_
      simp only [Act.put, List.setIfInBounds_toArray, List.set_cons_succ, List.set_cons_zero]
      refine sV (.int .i64 cb) (v2) (by kernel_rfl) (by kernel_rfl) ?_
      simp only [Act.put, List.setIfInBounds_toArray, List.set_cons_succ, List.set_cons_zero]
      refine sB (by kernel_rfl) .eql 30 _ _ _ (by rfl) (.int .i64 cb) (.int .i64 0) (by kernel_rfl) (by kernel_rfl) (.bool false) (eqI0 hcb _) (by kernel_rfl) ?_
      simp only [Act.put, List.setIfInBounds_toArray, List.set_cons_succ, List.set_cons_zero]
      refine sV (.bool false) (v2) (by kernel_rfl) (by kernel_rfl) ?_
      simp only [Act.put, List.setIfInBounds_toArray, List.set_cons_succ, List.set_cons_zero]
      refine sL (by kernel_rfl) _ _ (by rfl) _ (by kernel_rfl) (HV2.out.all (box 26 RY (b8 (List.replicate 32 0))) (by simp)).1 _ 32 Tryd.underlying26 rfl (by kernel_rfl) (by simp [b8_len]) ?_
      simp only [Act.put, List.setIfInBounds_toArray, List.set_cons_succ, List.set_cons_zero]
      refine sV (.agg (b8 (List.replicate 32 0)).toArray) (v2) (by kernel_rfl) (by kernel_rfl) ?_
      simp only [Act.put, List.setIfInBounds_toArray, List.set_cons_succ, List.set_cons_zero]
      refine sB (by kernel_rfl) .eql 26 _ _ _ (by rfl) (.agg (b8 (List.replicate 32 0)).toArray) (.agg (b8 (List.replicate 32 0)).toArray) (by kernel_rfl) (by kernel_rfl) (.bool true) (zz_eq _) (by kernel_rfl) ?_
      simp only [Act.put, List.setIfInBounds_toArray, List.set_cons_succ, List.set_cons_zero]
      refine sV (.bool true) (v2) (by kernel_rfl) (by kernel_rfl) ?_
      simp only [Act.put, List.setIfInBounds_toArray, List.set_cons_succ, List.set_cons_zero]
      refine sV (.bool true) (v2) (by kernel_rfl) (by kernel_rfl) ?_
      simp only [Act.put, List.setIfInBounds_toArray, List.set_cons_succ, List.set_cons_zero]
      go_wp2_with fail
      go_ret
      exact ⟨rfl, HV2.out.low⟩
end HhB
end Go.Proofs.YtfmegeibnjmfpaaDoor

