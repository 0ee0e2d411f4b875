/-
  CommitBack walked.
-/
import Derived.Test.YthcemghamdmjmaaCgF
import Derived.Test.YthcemghamdmjmaaCgB
import Derived.Test.YthcemghamdmjmaaCgE
import Derived.Test.YthcemghamdmjmaaPkM
import Derived.Test.YthcemghamdmjmaaPkF
import Derived.Test.YthcemghamdmjmaaPkL
import Derived.Test.YthcemghamdmjmaaPkC
namespace Go.Proofs.Ythcemghamdmjmaa
namespace CmBK
open Go.RowKit
open BlkM WirM WirS CmA CmP CmB CmJ CmL CmF CmH CmM
open WirE (NewB)
open WirX (Thg Bag own bag_own)
open WirAA (box bag_box)
open WirAB (sCx)
open WirRT (rng)
open WirH (sa bin_sub)
open ValBK (slB sSh)

theorem dg_rng (n : Int) : ∀ k, rng (WirRT.dg n k)
  | 0 => fun x h => by cases h
  | k + 1 => fun x h => by
    rcases List.mem_cons.1 h with rfl | h
    · omega
    · exact dg_rng n k x h
theorem numB_rng (n : Int) (h1 : n < 18446744073709551616) : rng (WirD.numB n) := fun x h => by
  rw [WirBC.numB_dg n h1] at h
  rcases List.mem_cons.1 h with rfl | h
  · have := WirD.nb_le n h1
    omega
  · exact dg_rng _ _ x h
theorem wordB_rng (n : Int) : rng (WirF.wordB n) := by rw [WirRT.wordB_dg]; exact dg_rng n 8
theorem fault_neq (e a' f b' : Int) (W : World) : (binOp .neq 55 (.agg #[.int .i64 e, .int .i64 a']) (.agg #[.int .i64 f, .int .i64 b'])).run Try.prog W = .ok (.bool (!(e == f && a' == b'))) W := by
  have p0 : ∀ (x y : Int) (V : World), (part 26 #[.int .i64 x, .int .i64 y] 0).run Try.prog V = .ok (.int .i64 x) V := fun x y V => by kernel_rfl
  have p1 : ∀ (x y : Int) (V : World), (part 3 #[.int .i64 x, .int .i64 y] 1).run Try.prog V = .ok (.int .i64 y) V := fun x y V => by kernel_rfl
  have k1 : ∀ d : Nat, (Op.equalIn (d + 2) 55 (.agg #[.int .i64 e, .int .i64 a']) (.agg #[.int .i64 f, .int .i64 b'])).run Try.prog W = .ok (e == f && a' == b') W := fun d => by
    simp [Op.equalIn, run_underlying Try.underlying55, run_underlying Try.underlying26, run_underlying Try.underlying3, p0, p1]
    by_cases h1 : e = f <;> by_cases h2 : a' = b' <;> simp [h1, h2]
  simp only [binOp]
  simp [Op.equal, Op.maxDepth, k1 9998]
theorem form_rng {ht : Int} {h : List Int} {vs : List Vt} (hh : rng h) (hc : chk ht vs = 0) : rng (cform ht h vs) := by
  obtain ⟨h1, h2, h3⟩ := (chk_up ht vs).1 hc
  intro x hx
  unfold cform chead at hx
  simp only [List.mem_append] at hx
  rcases hx with ((hx | hx) | hx) | hx
  · exact numB_rng _ (by omega) x hx
  · exact hh x hx
  · exact numB_rng _ (by omega) x hx
  · unfold citems at hx
    obtain ⟨v, hv, hx⟩ := List.mem_flatMap.1 hx
    unfold citem at hx
    have := h3.rng v hv
    rcases List.mem_append.1 hx with hx | hx
    · exact numB_rng _ (by omega) x hx
    · exact wordB_rng _ x hx
theorem form_len {ht : Int} {h : List Int} {vs : List Vt} (hl : h.length = 32) (hc : chk ht vs = 0) (hok : ∀ x ∈ vs, x.ok) : (cform ht h vs).length ≤ 2000 := by
  obtain ⟨h1, h2, h3⟩ := (chk_up ht vs).1 hc
  have a := chead_len ht h vs.length hl (by omega) (by omega)
  have b := citems_len vs hok
  unfold cform
  rw [List.length_append]
  omega
/-- What Decode tells, in letters. -/
def DP (w : World) (ht : Int) (h : List Int) (vs : List Vt) (x y : Int) (e : Ending) (w' : World) : Prop :=
  ∃ va vn vc, e = .returned (.tuple #[.agg (ccl ht h (.slice va vn vc)).toArray, .agg #[.int .i64 x, .int .i64 y]]) ∧ OwnT w' (.slice va vn vc) vs ∧ NewB w (.slice va vn vc) ∧ Below w.heap.size w w'
theorem dec_at {w : World} {b : Option Addr} {n c : Nat} {bs : List Int} {ht : Int} {h : List Int} {vs : List Vt} {x y : Int} (h1 : dht bs = ht) (h2 : dhh bs = h) (h3 : dvs bs = vs) (h4 : cE bs = (x, y)) (hb : BIn w (.slice b n c) bs) (hr : rng bs) (hn : n ≤ 1099511627776) :
    Calls Try.prog 75 #[.slice b n c] w (DP w ht h vs x y) := by
  have C := decode_any w b n c bs hb hr hn
  unfold CDP at C
  rw [h1, h2, h3, h4] at C
  exact C
theorem d_ok {bs : List Int} (h : (cE bs).1 = 0) : dht bs = cht bs ∧ dhh bs = chh bs ∧ dvs bs = cvs bs := by
  unfold dht dhh dvs
  rw [if_pos h, if_pos h, if_pos h]
  exact ⟨rfl, rfl, rfl⟩
theorem d_no {bs : List Int} (h : (cE bs).1 ≠ 0) : dht bs = 0 ∧ dhh bs = z32 ∧ dvs bs = [] := by
  unfold dht dhh dvs
  rw [if_neg h, if_neg h, if_neg h]
  exact ⟨rfl, rfl, rfl⟩
theorem chk_none : chk 0 [] = 3 := rfl
set_option maxRecDepth 20000 in
set_option maxHeartbeats 16000000 in
theorem back_a (w : World) (ht : Int) (h : List Int) (a : Option Addr) (n c : Nat) (vs : List Vt) (q : Int) (b : Option Addr) (bn bc : Nat) (bs : List Int) (hl : h.length = 32) (_hv : VtIn w a n c vs) (_hh : rng h) (_hb : BIn w (.slice b bn bc) bs) (_hr : rng bs) (hc : 70 < n) : Calls Try.prog 14 #[.agg (ccl ht h (.slice a n c)).toArray, .int .i64 q, .slice b bn bc] w fun e w' => e = .returned (.bool true) ∧ Below w.heap.size w w' := by
  have HL := WirS.hide hl
  have HLA := WirS.hide (fun U => CmD.long_any U ht h a n c hl)
  rw [decide_eq_true hc] at HLA
  clear hl _hv _hh _hb _hr hc
  have H1 := WirS.hide (Bag.nil (Below.refl w.heap.size w))
  go_enter Try.func14, Try.ntmps14
  go_upto_region 0 with fail
  refine wp_region_lit ?_
  refine sV (.pointer (some ⟨w.heap.size, 0, none⟩)) (w.alloc (.cells (ccl ht h (.slice a n c)).toArray TC)) (by kernel_rfl) (by kernel_rfl) ?_
  simp only [Act.put, List.setIfInBounds_toArray, List.set_cons_succ, List.set_cons_zero]
  obtain ⟨X, eX⟩ : ∃ A, w.heap.size = A := ⟨_, rfl⟩
  have hbX := bag_box (T := TC) (cs := (ccl ht h (.slice a n c))) (X := X) H1.out eX.symm (w' := w.alloc (.cells (ccl ht h (.slice a n c)).toArray TC)) (by rw [← eX]; exact At.new _ _ _) (Below.alloc (Below.refl _ _) (Nat.le_refl _) _)
  rw [eX]
  clear eX
  generalize World.alloc w _ = u2 at *
  have H3 := WirS.hide (hbX)
  clear H1
  clear hbX
  go_upto_region 1 with fail
  refine wp_region_lit ?_
  refine sC (R := fun w' => Below u2.heap.size u2 w') (v := .bool true) (by kernel_rfl) (by kernel_rfl) (CmR.known_any u2) ?_
  rintro u4 hb
  simp only [Act.put, List.setIfInBounds_toArray, List.set_cons_succ, List.set_cons_zero]
  have H5 := WirS.hide (H3.out.more hb)
  clear H3
  clear hb
  go_upto_region 2 with fail
  refine wp_region_lit ?_
  refine sL (by kernel_rfl) _ _ (by rfl) _ (by kernel_rfl) (H5.out.all (box TC X (ccl ht h (.slice a n c))) (by simp)).1 _ _ UC rfl (by kernel_rfl) (by rw [ccl_len _ _ _ HL.out]) ?_
  simp only [Act.put, List.setIfInBounds_toArray, List.set_cons_succ, List.set_cons_zero]
  refine sC (R := fun w' => Below u4.heap.size u4 w') (v := .bool true) (by kernel_rfl) (by kernel_rfl) (HLA.out u4) ?_
  rintro u6 hb
  simp only [Act.put, List.setIfInBounds_toArray, List.set_cons_succ, List.set_cons_zero]
  have H7 := WirS.hide (H5.out.more hb)
  clear H5
  clear hb
  refine sV (.bool true) (u6) (by kernel_rfl) (by kernel_rfl) ?_
  simp only [Act.put, List.setIfInBounds_toArray, List.set_cons_succ, List.set_cons_zero]
  with_reducible refine sS (by kernel_rfl) ?_
  simp only [Act.put, List.setIfInBounds_toArray, List.set_cons_succ, List.set_cons_zero]
  with_reducible refine sS (by kernel_rfl) ?_
  simp only [Act.put, List.setIfInBounds_toArray, List.set_cons_succ, List.set_cons_zero]
  with_reducible refine sS (by kernel_rfl) ?_
  simp only [Act.put, List.setIfInBounds_toArray, List.set_cons_succ, List.set_cons_zero]
  refine sV (.bool true) (u6) (by kernel_rfl) (by kernel_rfl) ?_
  simp only [Act.put, List.setIfInBounds_toArray, List.set_cons_succ, List.set_cons_zero]
  go_wp2_with fail
  go_ret
  exact ⟨rfl, H7.out.low⟩
set_option maxRecDepth 20000 in
set_option maxHeartbeats 16000000 in
theorem back_b (w : World) (ht : Int) (h : List Int) (a : Option Addr) (n c : Nat) (vs : List Vt) (q : Int) (b : Option Addr) (bn bc : Nat) (bs : List Int) (hl : h.length = 32) (_hv : VtIn w a n c vs) (_hh : rng h) (_hb : BIn w (.slice b bn bc) bs) (_hr : rng bs) (hc : ¬ 70 < n) (hm : 1000 < bn) : Calls Try.prog 14 #[.agg (ccl ht h (.slice a n c)).toArray, .int .i64 q, .slice b bn bc] w fun e w' => e = .returned (.bool true) ∧ Below w.heap.size w w' := by
  have HL := WirS.hide hl
  have HLA := WirS.hide (fun U => CmD.long_any U ht h a n c hl)
  rw [decide_eq_false hc] at HLA
  have hdb : decide ((1000 : Int) < (bn : Int)) = true := by simp; omega
  have HDB := WirS.hide hdb
  clear hl _hv _hh _hb _hr hc hm hdb
  have H8 := WirS.hide (Bag.nil (Below.refl w.heap.size w))
  go_enter Try.func14, Try.ntmps14
  go_upto_region 0 with fail
  refine wp_region_lit ?_
  refine sV (.pointer (some ⟨w.heap.size, 0, none⟩)) (w.alloc (.cells (ccl ht h (.slice a n c)).toArray TC)) (by kernel_rfl) (by kernel_rfl) ?_
  simp only [Act.put, List.setIfInBounds_toArray, List.set_cons_succ, List.set_cons_zero]
  obtain ⟨X, eX⟩ : ∃ A, w.heap.size = A := ⟨_, rfl⟩
  have hbX := bag_box (T := TC) (cs := (ccl ht h (.slice a n c))) (X := X) H8.out eX.symm (w' := w.alloc (.cells (ccl ht h (.slice a n c)).toArray TC)) (by rw [← eX]; exact At.new _ _ _) (Below.alloc (Below.refl _ _) (Nat.le_refl _) _)
  rw [eX]
  clear eX
  generalize World.alloc w _ = u9 at *
  have H10 := WirS.hide (hbX)
  clear H8
  clear hbX
  go_upto_region 1 with fail
  refine wp_region_lit ?_
  refine sC (R := fun w' => Below u9.heap.size u9 w') (v := .bool true) (by kernel_rfl) (by kernel_rfl) (CmR.known_any u9) ?_
  rintro u11 hb
  simp only [Act.put, List.setIfInBounds_toArray, List.set_cons_succ, List.set_cons_zero]
  have H12 := WirS.hide (H10.out.more hb)
  clear H10
  clear hb
  go_upto_region 2 with fail
  refine wp_region_lit ?_
  refine sL (by kernel_rfl) _ _ (by rfl) _ (by kernel_rfl) (H12.out.all (box TC X (ccl ht h (.slice a n c))) (by simp)).1 _ _ UC rfl (by kernel_rfl) (by rw [ccl_len _ _ _ HL.out]) ?_
  simp only [Act.put, List.setIfInBounds_toArray, List.set_cons_succ, List.set_cons_zero]
  refine sC (R := fun w' => Below u11.heap.size u11 w') (v := .bool false) (by kernel_rfl) (by kernel_rfl) (HLA.out u11) ?_
  rintro u13 hb
  simp only [Act.put, List.setIfInBounds_toArray, List.set_cons_succ, List.set_cons_zero]
  have H14 := WirS.hide (H12.out.more hb)
  clear H12
  clear hb
  refine sV (.bool false) (u13) (by kernel_rfl) (by kernel_rfl) ?_
  simp only [Act.put, List.setIfInBounds_toArray, List.set_cons_succ, List.set_cons_zero]
  refine sV (.slice b bn bc) (u13) (by kernel_rfl) (by kernel_rfl) ?_
  simp only [Act.put, List.setIfInBounds_toArray, List.set_cons_succ, List.set_cons_zero]
  refine sV (.int .i64 (bn : Int)) (u13) (by kernel_rfl) (by kernel_rfl) ?_
  simp only [Act.put, List.setIfInBounds_toArray, List.set_cons_succ, List.set_cons_zero]
  refine sV (.bool (decide ((1000 : Int) < (bn : Int)))) (u13) (by kernel_rfl) (by kernel_rfl) ?_
  simp only [Act.put, List.setIfInBounds_toArray, List.set_cons_succ, List.set_cons_zero]
  rw [HDB.out]
  refine sV (.bool true) (u13) (by kernel_rfl) (by kernel_rfl) ?_
  simp only [Act.put, List.setIfInBounds_toArray, List.set_cons_succ, List.set_cons_zero]
  go_wp2_with fail
  go_ret
  exact ⟨rfl, H14.out.low⟩
set_option maxRecDepth 20000 in
set_option maxHeartbeats 16000000 in
theorem back_c (w : World) (ht : Int) (h : List Int) (a : Option Addr) (n c : Nat) (vs : List Vt) (q : Int) (b : Option Addr) (bn bc : Nat) (bs : List Int) (hl : h.length = 32) (hv : VtIn w a n c vs) (_hh : rng h) (hb : BIn w (.slice b bn bc) bs) (hr : rng bs) (hc : ¬ 70 < n) (hm0 : ¬ 1000 < bn) (hf : (cE bs).1 ≠ 0) (hk : chk ht vs ≠ 0) : Calls Try.prog 14 #[.agg (ccl ht h (.slice a n c)).toArray, .int .i64 q, .slice b bn bc] w fun e w' => e = .returned (.bool true) ∧ Below w.heap.size w w' := by
  have HVL := WirS.hide hv.len
  have HL := WirS.hide hl
  have HV := WirS.hide hv
  have HLA := WirS.hide (fun U => CmD.long_any U ht h a n c hl)
  rw [decide_eq_false hc] at HLA
  have hdb : decide ((1000 : Int) < (bn : Int)) = false := by simp; omega
  have HDB := WirS.hide hdb
  have HBI := WirS.hide hb
  have HRB := WirS.hide hr
  have HBN := WirS.hide (show bn ≤ 1000 by omega)
  have HCK := WirS.hide (fun U (hU : Below w.heap.size w U) => check_any U ht h a n c vs hl (hv.below hU))
  obtain ⟨e1, e2, e3⟩ := d_no hf
  have hat := cE_at hr
  have hlb : bn = bs.length := by obtain ⟨_, _, e, _⟩ := hb; cases e; rfl
  obtain ⟨E1, hE1⟩ : ∃ x, (cE bs).1 = x := ⟨_, rfl⟩
  obtain ⟨E2, hE2⟩ : ∃ x, (cE bs).2 = x := ⟨_, rfl⟩
  have he4 : cE bs = (E1, E2) := by rw [← hE1, ← hE2]
  rw [hE1] at hf
  rw [hE2] at hat
  have HD0 := WirS.hide (fun (U : World) (hU : Below w.heap.size w U) => dec_at (w := U) e1 e2 e3 he4 (hb.below hU) hr (by omega))
  have HQ1 := WirS.hide (fun W => show (binOp .eql 55 (.agg #[.int .i64 E1, .int .i64 E2]) (.agg #[.int .i64 0, .int .i64 0])).run Try.prog W = .ok (.bool false) W from by rw [WirX.fault_eq]; simp [hf])
  have HQ2 := WirS.hide (fun W => show (binOp .neq 55 (.agg #[.int .i64 E1, .int .i64 E2]) (.agg #[.int .i64 0, .int .i64 0])).run Try.prog W = .ok (.bool true) W from by rw [fault_neq]; simp [hf])
  have HA1 := WirS.hide (show decide (E2 < 0) = false by simp; omega)
  have HA2 := WirS.hide (show decide ((bn : Int) < E2) = false by simp; omega)
  clear e1 e2 e3 hat hlb hE1 hE2 he4
  generalize chk ht vs = cd at *
  have hk1 : (cd != 0) = true := by simpa using hk
  have hk0 : (cd == 0) = false := by simpa using hk
  clear hl hv _hh hb hr hc hm0 hf hk hdb
  have H15 := WirS.hide (Bag.nil (Below.refl w.heap.size w))
  go_enter Try.func14, Try.ntmps14
  go_upto_region 0 with fail
  refine wp_region_lit ?_
  refine sV (.pointer (some ⟨w.heap.size, 0, none⟩)) (w.alloc (.cells (ccl ht h (.slice a n c)).toArray TC)) (by kernel_rfl) (by kernel_rfl) ?_
  simp only [Act.put, List.setIfInBounds_toArray, List.set_cons_succ, List.set_cons_zero]
  obtain ⟨X, eX⟩ : ∃ A, w.heap.size = A := ⟨_, rfl⟩
  have hbX := bag_box (T := TC) (cs := (ccl ht h (.slice a n c))) (X := X) H15.out eX.symm (w' := w.alloc (.cells (ccl ht h (.slice a n c)).toArray TC)) (by rw [← eX]; exact At.new _ _ _) (Below.alloc (Below.refl _ _) (Nat.le_refl _) _)
  rw [eX]
  clear eX
  generalize World.alloc w _ = u16 at *
  have H17 := WirS.hide (hbX)
  clear H15
  clear hbX
  go_upto_region 1 with fail
  refine wp_region_lit ?_
  refine sC (R := fun w' => Below u16.heap.size u16 w') (v := .bool true) (by kernel_rfl) (by kernel_rfl) (CmR.known_any u16) ?_
  rintro u18 hb
  simp only [Act.put, List.setIfInBounds_toArray, List.set_cons_succ, List.set_cons_zero]
  have H19 := WirS.hide (H17.out.more hb)
  clear H17
  clear hb
  go_upto_region 2 with fail
  refine wp_region_lit ?_
  refine sL (by kernel_rfl) _ _ (by rfl) _ (by kernel_rfl) (H19.out.all (box TC X (ccl ht h (.slice a n c))) (by simp)).1 _ _ UC rfl (by kernel_rfl) (by rw [ccl_len _ _ _ HL.out]) ?_
  simp only [Act.put, List.setIfInBounds_toArray, List.set_cons_succ, List.set_cons_zero]
  refine sC (R := fun w' => Below u18.heap.size u18 w') (v := .bool false) (by kernel_rfl) (by kernel_rfl) (HLA.out u18) ?_
  rintro u20 hb
  simp only [Act.put, List.setIfInBounds_toArray, List.set_cons_succ, List.set_cons_zero]
  have H21 := WirS.hide (H19.out.more hb)
  clear H19
  clear hb
  refine sV (.bool false) (u20) (by kernel_rfl) (by kernel_rfl) ?_
  simp only [Act.put, List.setIfInBounds_toArray, List.set_cons_succ, List.set_cons_zero]
  refine sV (.slice b bn bc) (u20) (by kernel_rfl) (by kernel_rfl) ?_
  simp only [Act.put, List.setIfInBounds_toArray, List.set_cons_succ, List.set_cons_zero]
  refine sV (.int .i64 (bn : Int)) (u20) (by kernel_rfl) (by kernel_rfl) ?_
  simp only [Act.put, List.setIfInBounds_toArray, List.set_cons_succ, List.set_cons_zero]
  refine sV (.bool (decide ((1000 : Int) < (bn : Int)))) (u20) (by kernel_rfl) (by kernel_rfl) ?_
  simp only [Act.put, List.setIfInBounds_toArray, List.set_cons_succ, List.set_cons_zero]
  rw [HDB.out]
  refine sV (.bool false) (u20) (by kernel_rfl) (by kernel_rfl) ?_
  simp only [Act.put, List.setIfInBounds_toArray, List.set_cons_succ, List.set_cons_zero]
  go_upto_region 4 with fail
  refine wp_region_lit ?_
  refine sV (.slice b bn bc) (u20) (by kernel_rfl) (by kernel_rfl) ?_
  simp only [Act.put, List.setIfInBounds_toArray, List.set_cons_succ, List.set_cons_zero]
  refine sCx (by kernel_rfl) (by kernel_rfl) (HD0.out u20 H21.out.low) ?_
  rintro e u22 ⟨ma, mn, mc, rfl, ho, hnb, hb⟩
  refine ⟨_, rfl, ?_⟩
  simp only [Act.put, List.setIfInBounds_toArray, List.set_cons_succ, List.set_cons_zero]
  have H23 := WirS.hide (bag_ownt H21.out ho hnb hb)
  clear H21
  clear ho hnb hb
  refine sV (.tuple #[.agg (ccl 0 z32 (.slice ma mn mc)).toArray, .agg #[.int .i64 E1, .int .i64 E2]]) (u22) (by kernel_rfl) (by kernel_rfl) ?_
  simp only [Act.put, List.setIfInBounds_toArray, List.set_cons_succ, List.set_cons_zero]
  refine sV (.agg (ccl 0 z32 (.slice ma mn mc)).toArray) (u22) (by kernel_rfl) (by kernel_rfl) ?_
  simp only [Act.put, List.setIfInBounds_toArray, List.set_cons_succ, List.set_cons_zero]
  refine sV (.agg #[.int .i64 E1, .int .i64 E2]) (u22) (by kernel_rfl) (by kernel_rfl) ?_
  simp only [Act.put, List.setIfInBounds_toArray, List.set_cons_succ, List.set_cons_zero]
  refine sV (.pointer (some ⟨u22.heap.size, 0, none⟩)) (u22.alloc (.cells zcm.toArray TC)) (by kernel_rfl) (by kernel_rfl) ?_
  simp only [Act.put, List.setIfInBounds_toArray, List.set_cons_succ, List.set_cons_zero]
  obtain ⟨L24, eL24⟩ : ∃ A, u22.heap.size = A := ⟨_, rfl⟩
  have hbL24 := bag_box (T := TC) (cs := zcm) (X := L24) H23.out eL24.symm (w' := u22.alloc (.cells zcm.toArray TC)) (by rw [← eL24]; exact At.new _ _ _) (Below.alloc (Below.refl _ _) (Nat.le_refl _) _)
  rw [eL24]
  clear eL24
  generalize World.alloc u22 _ = u25 at *
  have H26 := WirS.hide (hbL24)
  clear H23
  clear hbL24
  refine sV (.pointer (some ⟨u25.heap.size, 0, none⟩)) (u25.alloc (.cells (f2 0 0).toArray FT)) (by kernel_rfl) (by kernel_rfl) ?_
  simp only [Act.put, List.setIfInBounds_toArray, List.set_cons_succ, List.set_cons_zero]
  obtain ⟨L27, eL27⟩ : ∃ A, u25.heap.size = A := ⟨_, rfl⟩
  have hbL27 := bag_box (T := FT) (cs := (f2 0 0)) (X := L27) H26.out eL27.symm (w' := u25.alloc (.cells (f2 0 0).toArray FT)) (by rw [← eL27]; exact At.new _ _ _) (Below.alloc (Below.refl _ _) (Nat.le_refl _) _)
  rw [eL27]
  clear eL27
  generalize World.alloc u25 _ = u28 at *
  have H29 := WirS.hide (hbL27)
  clear H26
  clear hbL27
  have H30 := WirS.hide (H29.out.perm (show [box FT L27 (f2 0 0), box TC L24 zcm, ownt (.slice ma mn mc) [], box TC X (ccl ht h (.slice a n c))].Perm [box TC L24 zcm, box FT L27 (f2 0 0), ownt (.slice ma mn mc) [], box TC X (ccl ht h (.slice a n c))] from ((List.perm_middle (l₁ := [box FT L27 (f2 0 0)])).trans (.cons _ ((List.perm_middle (l₁ := [])).trans (.cons _ ((List.perm_middle (l₁ := [])).trans (.cons _ ((List.perm_middle (l₁ := [])).trans (.cons _ (.refl _)))))))))))
  clear H29
  refine stepStore (by rfl) _ _ _ (by rfl) L24 (ccl 0 z32 (.slice ma mn mc)) (by kernel_rfl) (by kernel_rfl) H30.out.head 34 (by kernel_rfl) (by rfl) (ccl_len _ _ _ rfl) (one_ccl _ _ _ _ _) ?_
  simp only [Act.put]
  have H32 := WirS.hide (bag_row H30.out (ccl 0 z32 (.slice ma mn mc)))
  clear H30
  generalize World.setRow u28 L24 _ = u31 at *
  have H33 := WirS.hide (H32.out.perm (show [box TC L24 (ccl 0 z32 (.slice ma mn mc)), box FT L27 (f2 0 0), ownt (.slice ma mn mc) [], box TC X (ccl ht h (.slice a n c))].Perm [box FT L27 (f2 0 0), box TC L24 (ccl 0 z32 (.slice ma mn mc)), ownt (.slice ma mn mc) [], box TC X (ccl ht h (.slice a n c))] from ((List.perm_middle (l₁ := [box TC L24 (ccl 0 z32 (.slice ma mn mc))])).trans (.cons _ ((List.perm_middle (l₁ := [])).trans (.cons _ ((List.perm_middle (l₁ := [])).trans (.cons _ ((List.perm_middle (l₁ := [])).trans (.cons _ (.refl _)))))))))))
  clear H32
  refine stepStore (by rfl) _ _ _ (by rfl) L27 (f2 E1 E2) (by kernel_rfl) (by kernel_rfl) H33.out.head 2 (by kernel_rfl) (by rfl) (by rfl) (by kernel_rfl) ?_
  simp only [Act.put]
  have H35 := WirS.hide (bag_row H33.out (f2 E1 E2))
  clear H33
  generalize World.setRow u31 L27 _ = u34 at *
  go_upto_region 5 with fail
  refine wp_region_lit ?_
  refine sL (by kernel_rfl) _ _ (by rfl) _ (by kernel_rfl) (H35.out.all (box TC L24 (ccl 0 z32 (.slice ma mn mc))) (by simp)).1 _ _ UC rfl (by kernel_rfl) (by rw [ccl_len _ _ _ rfl]) ?_
  simp only [Act.put, List.setIfInBounds_toArray, List.set_cons_succ, List.set_cons_zero]
  have hmn : mn = 0 := by obtain ⟨xa, xc, e⟩ := (show OwnT u34 (.slice ma mn mc) [] from (H35.out.all (ownt (.slice ma mn mc) []) (by simp)).1).len_of; cases e; rfl
  refine sC (R := fun w' => Below u34.heap.size u34 w') (v := .tuple #[.slice none 0 0, .int .i64 3]) (by kernel_rfl) (by kernel_rfl) ((by have C := encode_bad u34 0 z32 ma mn mc [] rfl ((show OwnT u34 (.slice ma mn mc) [] from (H35.out.all (ownt (.slice ma mn mc) []) (by simp)).1).vin) (by decide); rw [chk_none] at C; exact C)) ?_
  rintro u37 hb
  simp only [Act.put, List.setIfInBounds_toArray, List.set_cons_succ, List.set_cons_zero]
  have H38 := WirS.hide (H35.out.more hb)
  clear H35
  clear hb
  refine sV (.tuple #[.slice none 0 0, .int .i64 3]) (u37) (by kernel_rfl) (by kernel_rfl) ?_
  simp only [Act.put, List.setIfInBounds_toArray, List.set_cons_succ, List.set_cons_zero]
  refine sV (.slice none 0 0) (u37) (by kernel_rfl) (by kernel_rfl) ?_
  simp only [Act.put, List.setIfInBounds_toArray, List.set_cons_succ, List.set_cons_zero]
  refine sV (.int .i64 3) (u37) (by kernel_rfl) (by kernel_rfl) ?_
  simp only [Act.put, List.setIfInBounds_toArray, List.set_cons_succ, List.set_cons_zero]
  go_upto_region 6 with fail
  refine wp_region_lit ?_
  refine sL (by kernel_rfl) _ _ (by rfl) _ (by kernel_rfl) (H38.out.all (box FT L27 (f2 E1 E2)) (by simp)).1 _ _ Try.underlying55 rfl (by kernel_rfl) rfl ?_
  simp only [Act.put, List.setIfInBounds_toArray, List.set_cons_succ, List.set_cons_zero]
  refine sV (.agg (f2 0 0).toArray) (u37) (by kernel_rfl) (by kernel_rfl) ?_
  simp only [Act.put, List.setIfInBounds_toArray, List.set_cons_succ, List.set_cons_zero]
  refine sB (by kernel_rfl) .eql 55 _ _ _ (by rfl) (.agg #[.int .i64 E1, .int .i64 E2]) (.agg #[.int .i64 0, .int .i64 0]) (by kernel_rfl) (by kernel_rfl) (.bool false) (HQ1.out u37) (by kernel_rfl) ?_
  simp only [Act.put, List.setIfInBounds_toArray, List.set_cons_succ, List.set_cons_zero]
  refine sV (.bool false) (u37) (by kernel_rfl) (by kernel_rfl) ?_
  simp only [Act.put, List.setIfInBounds_toArray, List.set_cons_succ, List.set_cons_zero]
  with_reducible refine sS (by kernel_rfl) ?_
  simp only [Act.put, List.setIfInBounds_toArray, List.set_cons_succ, List.set_cons_zero]
  with_reducible refine sS (by kernel_rfl) ?_
  simp only [Act.put, List.setIfInBounds_toArray, List.set_cons_succ, List.set_cons_zero]
  with_reducible refine sS (by kernel_rfl) ?_
  simp only [Act.put, List.setIfInBounds_toArray, List.set_cons_succ, List.set_cons_zero]
  with_reducible refine sS (by kernel_rfl) ?_
  simp only [Act.put, List.setIfInBounds_toArray, List.set_cons_succ, List.set_cons_zero]
  with_reducible refine sS (by kernel_rfl) ?_
  simp only [Act.put, List.setIfInBounds_toArray, List.set_cons_succ, List.set_cons_zero]
  with_reducible refine sS (by kernel_rfl) ?_
  simp only [Act.put, List.setIfInBounds_toArray, List.set_cons_succ, List.set_cons_zero]
  with_reducible refine sS (by kernel_rfl) ?_
  simp only [Act.put, List.setIfInBounds_toArray, List.set_cons_succ, List.set_cons_zero]
  with_reducible refine sS (by kernel_rfl) ?_
  simp only [Act.put, List.setIfInBounds_toArray, List.set_cons_succ, List.set_cons_zero]
  refine sV (.bool false) (u37) (by kernel_rfl) (by kernel_rfl) ?_
  simp only [Act.put, List.setIfInBounds_toArray, List.set_cons_succ, List.set_cons_zero]
  refine sV (.bool false) (u37) (by kernel_rfl) (by kernel_rfl) ?_
  simp only [Act.put, List.setIfInBounds_toArray, List.set_cons_succ, List.set_cons_zero]
  refine sL (by kernel_rfl) _ _ (by rfl) _ (by kernel_rfl) (H38.out.all (box FT L27 (f2 E1 E2)) (by simp)).1 _ _ Try.underlying55 rfl (by kernel_rfl) rfl ?_
  simp only [Act.put, List.setIfInBounds_toArray, List.set_cons_succ, List.set_cons_zero]
  refine sV (.agg (f2 0 0).toArray) (u37) (by kernel_rfl) (by kernel_rfl) ?_
  simp only [Act.put, List.setIfInBounds_toArray, List.set_cons_succ, List.set_cons_zero]
  refine sB (by kernel_rfl) .neq 55 _ _ _ (by rfl) (.agg #[.int .i64 E1, .int .i64 E2]) (.agg #[.int .i64 0, .int .i64 0]) (by kernel_rfl) (by kernel_rfl) (.bool true) (HQ2.out u37) (by kernel_rfl) ?_
  simp only [Act.put, List.setIfInBounds_toArray, List.set_cons_succ, List.set_cons_zero]
  refine sV (.bool true) (u37) (by kernel_rfl) (by kernel_rfl) ?_
  simp only [Act.put, List.setIfInBounds_toArray, List.set_cons_succ, List.set_cons_zero]
  refine sL (by kernel_rfl) _ _ (by rfl) _ (by kernel_rfl) (H38.out.all (box TC L24 (ccl 0 z32 (.slice ma mn mc))) (by simp)).1 _ _ UC rfl (by kernel_rfl) (by rw [ccl_len _ _ _ rfl]) ?_
  simp only [Act.put, List.setIfInBounds_toArray, List.set_cons_succ, List.set_cons_zero]
  refine sV (.agg zcm.toArray) (u37) (by kernel_rfl) (by kernel_rfl) ?_
  simp only [Act.put, List.setIfInBounds_toArray, List.set_cons_succ, List.set_cons_zero]
  subst hmn
  refine sC (R := fun w' => Below u37.heap.size u37 w') (v := .bool true) (by kernel_rfl) (by kernel_rfl) (CmN.sc_any u37 0 z32 ma none 0 mc 0 [] rfl ((show OwnT u37 (.slice ma 0 mc) [] from (H38.out.all (ownt (.slice ma 0 mc) []) (by simp)).1).vin) (VtIn.nil _ none 0 (by decide))) ?_
  rintro u39 hb
  simp only [Act.put, List.setIfInBounds_toArray, List.set_cons_succ, List.set_cons_zero]
  have H40 := WirS.hide (H38.out.more hb)
  clear H38
  clear hb
  refine sV (.bool false) (u39) (by kernel_rfl) (by kernel_rfl) ?_
  simp only [Act.put, List.setIfInBounds_toArray, List.set_cons_succ, List.set_cons_zero]
  refine sV (.bool false) (u39) (by kernel_rfl) (by kernel_rfl) ?_
  simp only [Act.put, List.setIfInBounds_toArray, List.set_cons_succ, List.set_cons_zero]
  refine sV (.pointer (some ⟨L27, 1, none⟩)) (u39) (by kernel_rfl) (by kernel_rfl) ?_
  simp only [Act.put, List.setIfInBounds_toArray, List.set_cons_succ, List.set_cons_zero]
  refine sP (by kernel_rfl) _ _ (by rfl) ⟨L27, 1, none⟩ (by kernel_rfl) (.int .i64 E2) ((show At u39 L27 FT (f2 E1 E2) from (H40.out.all (box FT L27 (f2 E1 E2)) (by simp)).1).cell 1) (by kernel_rfl) ?_
  simp only [Act.put, List.setIfInBounds_toArray, List.set_cons_succ, List.set_cons_zero]
  refine sV (.bool (decide (E2 < 0))) (u39) (by kernel_rfl) (by kernel_rfl) ?_
  simp only [Act.put, List.setIfInBounds_toArray, List.set_cons_succ, List.set_cons_zero]
  rw [HA1.out]
  refine sV (.bool false) (u39) (by kernel_rfl) (by kernel_rfl) ?_
  simp only [Act.put, List.setIfInBounds_toArray, List.set_cons_succ, List.set_cons_zero]
  refine sV (.bool false) (u39) (by kernel_rfl) (by kernel_rfl) ?_
  simp only [Act.put, List.setIfInBounds_toArray, List.set_cons_succ, List.set_cons_zero]
  refine sV (.pointer (some ⟨L27, 1, none⟩)) (u39) (by kernel_rfl) (by kernel_rfl) ?_
  simp only [Act.put, List.setIfInBounds_toArray, List.set_cons_succ, List.set_cons_zero]
  refine sP (by kernel_rfl) _ _ (by rfl) ⟨L27, 1, none⟩ (by kernel_rfl) (.int .i64 E2) ((show At u39 L27 FT (f2 E1 E2) from (H40.out.all (box FT L27 (f2 E1 E2)) (by simp)).1).cell 1) (by kernel_rfl) ?_
  simp only [Act.put, List.setIfInBounds_toArray, List.set_cons_succ, List.set_cons_zero]
  refine sV (.slice b bn bc) (u39) (by kernel_rfl) (by kernel_rfl) ?_
  simp only [Act.put, List.setIfInBounds_toArray, List.set_cons_succ, List.set_cons_zero]
  refine sV (.int .i64 (bn : Int)) (u39) (by kernel_rfl) (by kernel_rfl) ?_
  simp only [Act.put, List.setIfInBounds_toArray, List.set_cons_succ, List.set_cons_zero]
  refine sV (.bool (decide ((bn : Int) < E2))) (u39) (by kernel_rfl) (by kernel_rfl) ?_
  simp only [Act.put, List.setIfInBounds_toArray, List.set_cons_succ, List.set_cons_zero]
  rw [HA2.out]
  refine sV (.bool false) (u39) (by kernel_rfl) (by kernel_rfl) ?_
  simp only [Act.put, List.setIfInBounds_toArray, List.set_cons_succ, List.set_cons_zero]
  refine sV (.bool false) (u39) (by kernel_rfl) (by kernel_rfl) ?_
  simp only [Act.put, List.setIfInBounds_toArray, List.set_cons_succ, List.set_cons_zero]
  refine sV (.bool false) (u39) (by kernel_rfl) (by kernel_rfl) ?_
  simp only [Act.put, List.setIfInBounds_toArray, List.set_cons_succ, List.set_cons_zero]
  go_upto_region 8 with fail
  refine wp_region_lit ?_
  refine sL (by kernel_rfl) _ _ (by rfl) _ (by kernel_rfl) (H40.out.all (box TC X (ccl ht h (.slice a n c))) (by simp)).1 _ _ UC rfl (by kernel_rfl) (by rw [ccl_len _ _ _ HL.out]) ?_
  simp only [Act.put, List.setIfInBounds_toArray, List.set_cons_succ, List.set_cons_zero]
  refine sC (R := fun w' => Below u39.heap.size u39 w') (v := .int .i64 cd) (by kernel_rfl) (by kernel_rfl) (HCK.out u39 H40.out.low) ?_
  rintro u41 hb
  simp only [Act.put, List.setIfInBounds_toArray, List.set_cons_succ, List.set_cons_zero]
  have H42 := WirS.hide (H40.out.more hb)
  clear H40
  clear hb
  go_wp2_with fail
  go_ret
  exact ⟨rfl, H42.out.low⟩
set_option maxRecDepth 20000 in
set_option maxHeartbeats 16000000 in
theorem back_d (w : World) (ht : Int) (h : List Int) (a : Option Addr) (n c : Nat) (vs : List Vt) (q : Int) (b : Option Addr) (bn bc : Nat) (bs : List Int) (hl : h.length = 32) (hv : VtIn w a n c vs) (_hh : rng h) (hb : BIn w (.slice b bn bc) bs) (hr : rng bs) (hc : ¬ 70 < n) (hm0 : ¬ 1000 < bn) (hf : (cE bs).1 = 0) (hk : chk ht vs ≠ 0) : Calls Try.prog 14 #[.agg (ccl ht h (.slice a n c)).toArray, .int .i64 q, .slice b bn bc] w fun e w' => e = .returned (.bool true) ∧ Below w.heap.size w w' := by
  have HVL := WirS.hide hv.len
  have HL := WirS.hide hl
  have HV := WirS.hide hv
  have HLA := WirS.hide (fun U => CmD.long_any U ht h a n c hl)
  rw [decide_eq_false hc] at HLA
  have hdb : decide ((1000 : Int) < (bn : Int)) = false := by simp; omega
  have HDB := WirS.hide hdb
  have HBI := WirS.hide hb
  have HRB := WirS.hide hr
  have HBN := WirS.hide (show bn ≤ 1000 by omega)
  have HCK := WirS.hide (fun U (hU : Below w.heap.size w U) => check_any U ht h a n c vs hl (hv.below hU))
  obtain ⟨e1, e2, e3⟩ := d_ok hf
  obtain ⟨hcz, hform⟩ := enc_dec hr hf
  have he4 := (cE_zero hf).2.2.2
  have hdok := itC_ok hr (q3 bs) (cnum bs).toNat
  change ∀ x ∈ cvs bs, x.ok at hdok
  have hdl : (chh bs).length = 32 := rH_len _ _
  obtain ⟨dt, hdt⟩ : ∃ x, cht bs = x := ⟨_, rfl⟩
  obtain ⟨dh, hdh⟩ : ∃ x, chh bs = x := ⟨_, rfl⟩
  obtain ⟨dv, hdv⟩ : ∃ x, cvs bs = x := ⟨_, rfl⟩
  rw [hdt, hdv] at hcz
  rw [hdt, hdh, hdv] at hform
  rw [hdt] at e1
  rw [hdh] at e2 hdl
  rw [hdv] at e3 hdok
  have HD0 := WirS.hide (fun (U : World) (hU : Below w.heap.size w U) => dec_at (w := U) e1 e2 e3 he4 (hb.below hU) hr (by omega))
  have HDL := WirS.hide hdl
  have HEN := WirS.hide (fun (U : World) (ma : Option Addr) (mn mc : Nat) (hU : VtIn U ma mn mc dv) => encode_ok U dt dh ma mn mc dv hdl hU hcz)
  rw [hform] at HEN
  clear e1 e2 e3 hcz hform he4 hdok hdl hdt hdh hdv
  generalize chk ht vs = cd at *
  have hk1 : (cd != 0) = true := by simpa using hk
  have hk0 : (cd == 0) = false := by simpa using hk
  clear hl hv _hh hb hr hc hm0 hf hk hdb
  have H43 := WirS.hide (Bag.nil (Below.refl w.heap.size w))
  go_enter Try.func14, Try.ntmps14
  go_upto_region 0 with fail
  refine wp_region_lit ?_
  refine sV (.pointer (some ⟨w.heap.size, 0, none⟩)) (w.alloc (.cells (ccl ht h (.slice a n c)).toArray TC)) (by kernel_rfl) (by kernel_rfl) ?_
  simp only [Act.put, List.setIfInBounds_toArray, List.set_cons_succ, List.set_cons_zero]
  obtain ⟨X, eX⟩ : ∃ A, w.heap.size = A := ⟨_, rfl⟩
  have hbX := bag_box (T := TC) (cs := (ccl ht h (.slice a n c))) (X := X) H43.out eX.symm (w' := w.alloc (.cells (ccl ht h (.slice a n c)).toArray TC)) (by rw [← eX]; exact At.new _ _ _) (Below.alloc (Below.refl _ _) (Nat.le_refl _) _)
  rw [eX]
  clear eX
  generalize World.alloc w _ = u44 at *
  have H45 := WirS.hide (hbX)
  clear H43
  clear hbX
  go_upto_region 1 with fail
  refine wp_region_lit ?_
  refine sC (R := fun w' => Below u44.heap.size u44 w') (v := .bool true) (by kernel_rfl) (by kernel_rfl) (CmR.known_any u44) ?_
  rintro u46 hb
  simp only [Act.put, List.setIfInBounds_toArray, List.set_cons_succ, List.set_cons_zero]
  have H47 := WirS.hide (H45.out.more hb)
  clear H45
  clear hb
  go_upto_region 2 with fail
  refine wp_region_lit ?_
  refine sL (by kernel_rfl) _ _ (by rfl) _ (by kernel_rfl) (H47.out.all (box TC X (ccl ht h (.slice a n c))) (by simp)).1 _ _ UC rfl (by kernel_rfl) (by rw [ccl_len _ _ _ HL.out]) ?_
  simp only [Act.put, List.setIfInBounds_toArray, List.set_cons_succ, List.set_cons_zero]
  refine sC (R := fun w' => Below u46.heap.size u46 w') (v := .bool false) (by kernel_rfl) (by kernel_rfl) (HLA.out u46) ?_
  rintro u48 hb
  simp only [Act.put, List.setIfInBounds_toArray, List.set_cons_succ, List.set_cons_zero]
  have H49 := WirS.hide (H47.out.more hb)
  clear H47
  clear hb
  refine sV (.bool false) (u48) (by kernel_rfl) (by kernel_rfl) ?_
  simp only [Act.put, List.setIfInBounds_toArray, List.set_cons_succ, List.set_cons_zero]
  refine sV (.slice b bn bc) (u48) (by kernel_rfl) (by kernel_rfl) ?_
  simp only [Act.put, List.setIfInBounds_toArray, List.set_cons_succ, List.set_cons_zero]
  refine sV (.int .i64 (bn : Int)) (u48) (by kernel_rfl) (by kernel_rfl) ?_
  simp only [Act.put, List.setIfInBounds_toArray, List.set_cons_succ, List.set_cons_zero]
  refine sV (.bool (decide ((1000 : Int) < (bn : Int)))) (u48) (by kernel_rfl) (by kernel_rfl) ?_
  simp only [Act.put, List.setIfInBounds_toArray, List.set_cons_succ, List.set_cons_zero]
  rw [HDB.out]
  refine sV (.bool false) (u48) (by kernel_rfl) (by kernel_rfl) ?_
  simp only [Act.put, List.setIfInBounds_toArray, List.set_cons_succ, List.set_cons_zero]
  go_upto_region 4 with fail
  refine wp_region_lit ?_
  refine sV (.slice b bn bc) (u48) (by kernel_rfl) (by kernel_rfl) ?_
  simp only [Act.put, List.setIfInBounds_toArray, List.set_cons_succ, List.set_cons_zero]
  refine sCx (by kernel_rfl) (by kernel_rfl) (HD0.out u48 H49.out.low) ?_
  rintro e u50 ⟨ma, mn, mc, rfl, ho, hnb, hb⟩
  refine ⟨_, rfl, ?_⟩
  simp only [Act.put, List.setIfInBounds_toArray, List.set_cons_succ, List.set_cons_zero]
  have H51 := WirS.hide (bag_ownt H49.out ho hnb hb)
  clear H49
  clear ho hnb hb
  refine sV (.tuple #[.agg (ccl dt dh (.slice ma mn mc)).toArray, .agg #[.int .i64 0, .int .i64 0]]) (u50) (by kernel_rfl) (by kernel_rfl) ?_
  simp only [Act.put, List.setIfInBounds_toArray, List.set_cons_succ, List.set_cons_zero]
  refine sV (.agg (ccl dt dh (.slice ma mn mc)).toArray) (u50) (by kernel_rfl) (by kernel_rfl) ?_
  simp only [Act.put, List.setIfInBounds_toArray, List.set_cons_succ, List.set_cons_zero]
  refine sV (.agg #[.int .i64 0, .int .i64 0]) (u50) (by kernel_rfl) (by kernel_rfl) ?_
  simp only [Act.put, List.setIfInBounds_toArray, List.set_cons_succ, List.set_cons_zero]
  refine sV (.pointer (some ⟨u50.heap.size, 0, none⟩)) (u50.alloc (.cells zcm.toArray TC)) (by kernel_rfl) (by kernel_rfl) ?_
  simp only [Act.put, List.setIfInBounds_toArray, List.set_cons_succ, List.set_cons_zero]
  obtain ⟨L52, eL52⟩ : ∃ A, u50.heap.size = A := ⟨_, rfl⟩
  have hbL52 := bag_box (T := TC) (cs := zcm) (X := L52) H51.out eL52.symm (w' := u50.alloc (.cells zcm.toArray TC)) (by rw [← eL52]; exact At.new _ _ _) (Below.alloc (Below.refl _ _) (Nat.le_refl _) _)
  rw [eL52]
  clear eL52
  generalize World.alloc u50 _ = u53 at *
  have H54 := WirS.hide (hbL52)
  clear H51
  clear hbL52
  refine sV (.pointer (some ⟨u53.heap.size, 0, none⟩)) (u53.alloc (.cells (f2 0 0).toArray FT)) (by kernel_rfl) (by kernel_rfl) ?_
  simp only [Act.put, List.setIfInBounds_toArray, List.set_cons_succ, List.set_cons_zero]
  obtain ⟨L55, eL55⟩ : ∃ A, u53.heap.size = A := ⟨_, rfl⟩
  have hbL55 := bag_box (T := FT) (cs := (f2 0 0)) (X := L55) H54.out eL55.symm (w' := u53.alloc (.cells (f2 0 0).toArray FT)) (by rw [← eL55]; exact At.new _ _ _) (Below.alloc (Below.refl _ _) (Nat.le_refl _) _)
  rw [eL55]
  clear eL55
  generalize World.alloc u53 _ = u56 at *
  have H57 := WirS.hide (hbL55)
  clear H54
  clear hbL55
  have H58 := WirS.hide (H57.out.perm (show [box FT L55 (f2 0 0), box TC L52 zcm, ownt (.slice ma mn mc) dv, box TC X (ccl ht h (.slice a n c))].Perm [box TC L52 zcm, box FT L55 (f2 0 0), ownt (.slice ma mn mc) dv, box TC X (ccl ht h (.slice a n c))] from ((List.perm_middle (l₁ := [box FT L55 (f2 0 0)])).trans (.cons _ ((List.perm_middle (l₁ := [])).trans (.cons _ ((List.perm_middle (l₁ := [])).trans (.cons _ ((List.perm_middle (l₁ := [])).trans (.cons _ (.refl _)))))))))))
  clear H57
  refine stepStore (by rfl) _ _ _ (by rfl) L52 (ccl dt dh (.slice ma mn mc)) (by kernel_rfl) (by kernel_rfl) H58.out.head 34 (by kernel_rfl) (by rfl) (ccl_len _ _ _ HDL.out) (one_ccl _ _ _ _ _) ?_
  simp only [Act.put]
  have H60 := WirS.hide (bag_row H58.out (ccl dt dh (.slice ma mn mc)))
  clear H58
  generalize World.setRow u56 L52 _ = u59 at *
  have H61 := WirS.hide (H60.out.perm (show [box TC L52 (ccl dt dh (.slice ma mn mc)), box FT L55 (f2 0 0), ownt (.slice ma mn mc) dv, box TC X (ccl ht h (.slice a n c))].Perm [box FT L55 (f2 0 0), box TC L52 (ccl dt dh (.slice ma mn mc)), ownt (.slice ma mn mc) dv, box TC X (ccl ht h (.slice a n c))] from ((List.perm_middle (l₁ := [box TC L52 (ccl dt dh (.slice ma mn mc))])).trans (.cons _ ((List.perm_middle (l₁ := [])).trans (.cons _ ((List.perm_middle (l₁ := [])).trans (.cons _ ((List.perm_middle (l₁ := [])).trans (.cons _ (.refl _)))))))))))
  clear H60
  refine stepStore (by rfl) _ _ _ (by rfl) L55 (f2 0 0) (by kernel_rfl) (by kernel_rfl) H61.out.head 2 (by kernel_rfl) (by rfl) (by rfl) (by kernel_rfl) ?_
  simp only [Act.put]
  have H63 := WirS.hide (bag_row H61.out (f2 0 0))
  clear H61
  generalize World.setRow u59 L55 _ = u62 at *
  go_upto_region 5 with fail
  refine wp_region_lit ?_
  refine sL (by kernel_rfl) _ _ (by rfl) _ (by kernel_rfl) (H63.out.all (box TC L52 (ccl dt dh (.slice ma mn mc))) (by simp)).1 _ _ UC rfl (by kernel_rfl) (by rw [ccl_len _ _ _ HDL.out]) ?_
  simp only [Act.put, List.setIfInBounds_toArray, List.set_cons_succ, List.set_cons_zero]
  refine sCx (by kernel_rfl) (by kernel_rfl) (HEN.out u62 ma mn mc ((show OwnT u62 (.slice ma mn mc) dv from (H63.out.all (ownt (.slice ma mn mc) dv) (by simp)).1).vin)) ?_
  rintro e u64 ⟨ea, en, ec, rfl, ho, hnb, hb⟩
  refine ⟨_, rfl, ?_⟩
  simp only [Act.put, List.setIfInBounds_toArray, List.set_cons_succ, List.set_cons_zero]
  have H65 := WirS.hide (bag_own H63.out ho hnb hb)
  clear H63
  clear ho hnb hb
  refine sV (.tuple #[.slice ea en ec, .int .i64 0]) (u64) (by kernel_rfl) (by kernel_rfl) ?_
  simp only [Act.put, List.setIfInBounds_toArray, List.set_cons_succ, List.set_cons_zero]
  refine sV (.slice ea en ec) (u64) (by kernel_rfl) (by kernel_rfl) ?_
  simp only [Act.put, List.setIfInBounds_toArray, List.set_cons_succ, List.set_cons_zero]
  refine sV (.int .i64 0) (u64) (by kernel_rfl) (by kernel_rfl) ?_
  simp only [Act.put, List.setIfInBounds_toArray, List.set_cons_succ, List.set_cons_zero]
  go_upto_region 6 with fail
  refine wp_region_lit ?_
  refine sL (by kernel_rfl) _ _ (by rfl) _ (by kernel_rfl) (H65.out.all (box FT L55 (f2 0 0)) (by simp)).1 _ _ Try.underlying55 rfl (by kernel_rfl) rfl ?_
  simp only [Act.put, List.setIfInBounds_toArray, List.set_cons_succ, List.set_cons_zero]
  refine sV (.agg (f2 0 0).toArray) (u64) (by kernel_rfl) (by kernel_rfl) ?_
  simp only [Act.put, List.setIfInBounds_toArray, List.set_cons_succ, List.set_cons_zero]
  refine sB (by kernel_rfl) .eql 55 _ _ _ (by rfl) (.agg #[.int .i64 0, .int .i64 0]) (.agg #[.int .i64 0, .int .i64 0]) (by kernel_rfl) (by kernel_rfl) (.bool true) (WirX.fault_eq 0 0 0 0 u64) (by kernel_rfl) ?_
  simp only [Act.put, List.setIfInBounds_toArray, List.set_cons_succ, List.set_cons_zero]
  refine sV (.bool true) (u64) (by kernel_rfl) (by kernel_rfl) ?_
  simp only [Act.put, List.setIfInBounds_toArray, List.set_cons_succ, List.set_cons_zero]
  refine sV (.int .i64 0) (u64) (by kernel_rfl) (by kernel_rfl) ?_
  simp only [Act.put, List.setIfInBounds_toArray, List.set_cons_succ, List.set_cons_zero]
  refine sV (.bool false) (u64) (by kernel_rfl) (by kernel_rfl) ?_
  simp only [Act.put, List.setIfInBounds_toArray, List.set_cons_succ, List.set_cons_zero]
  refine sV (.bool false) (u64) (by kernel_rfl) (by kernel_rfl) ?_
  simp only [Act.put, List.setIfInBounds_toArray, List.set_cons_succ, List.set_cons_zero]
  refine sV (.slice ea en ec) (u64) (by kernel_rfl) (by kernel_rfl) ?_
  simp only [Act.put, List.setIfInBounds_toArray, List.set_cons_succ, List.set_cons_zero]
  refine sV (.slice b bn bc) (u64) (by kernel_rfl) (by kernel_rfl) ?_
  simp only [Act.put, List.setIfInBounds_toArray, List.set_cons_succ, List.set_cons_zero]
  have HSB := WirS.hide (WirU.same_any u64 ea b en ec bn bc bs bs ((show WirM.Own u64 5 (.slice ea en ec) bs from (H65.out.all (own (.slice ea en ec) bs) (by simp)).1).bin) (HBI.out.below H65.out.low) HRB.out HRB.out)
  rw [decide_eq_true rfl] at HSB
  refine sC (R := fun w' => u64 = w') (v := .bool true) (by kernel_rfl) (by kernel_rfl) (HSB.out) ?_
  rintro _ rfl
  simp only [Act.put, List.setIfInBounds_toArray, List.set_cons_succ, List.set_cons_zero]
  clear HSB
  refine sV (.bool false) (u64) (by kernel_rfl) (by kernel_rfl) ?_
  simp only [Act.put, List.setIfInBounds_toArray, List.set_cons_succ, List.set_cons_zero]
  refine sV (.bool false) (u64) (by kernel_rfl) (by kernel_rfl) ?_
  simp only [Act.put, List.setIfInBounds_toArray, List.set_cons_succ, List.set_cons_zero]
  refine sV (.bool false) (u64) (by kernel_rfl) (by kernel_rfl) ?_
  simp only [Act.put, List.setIfInBounds_toArray, List.set_cons_succ, List.set_cons_zero]
  refine sV (.bool false) (u64) (by kernel_rfl) (by kernel_rfl) ?_
  simp only [Act.put, List.setIfInBounds_toArray, List.set_cons_succ, List.set_cons_zero]
  refine sL (by kernel_rfl) _ _ (by rfl) _ (by kernel_rfl) (H65.out.all (box FT L55 (f2 0 0)) (by simp)).1 _ _ Try.underlying55 rfl (by kernel_rfl) rfl ?_
  simp only [Act.put, List.setIfInBounds_toArray, List.set_cons_succ, List.set_cons_zero]
  refine sV (.agg (f2 0 0).toArray) (u64) (by kernel_rfl) (by kernel_rfl) ?_
  simp only [Act.put, List.setIfInBounds_toArray, List.set_cons_succ, List.set_cons_zero]
  refine sB (by kernel_rfl) .neq 55 _ _ _ (by rfl) (.agg #[.int .i64 0, .int .i64 0]) (.agg #[.int .i64 0, .int .i64 0]) (by kernel_rfl) (by kernel_rfl) (.bool false) (fault_neq 0 0 0 0 u64) (by kernel_rfl) ?_
  simp only [Act.put, List.setIfInBounds_toArray, List.set_cons_succ, List.set_cons_zero]
  refine sV (.bool false) (u64) (by kernel_rfl) (by kernel_rfl) ?_
  simp only [Act.put, List.setIfInBounds_toArray, List.set_cons_succ, List.set_cons_zero]
  with_reducible refine sS (by kernel_rfl) ?_
  simp only [Act.put, List.setIfInBounds_toArray, List.set_cons_succ, List.set_cons_zero]
  with_reducible refine sS (by kernel_rfl) ?_
  simp only [Act.put, List.setIfInBounds_toArray, List.set_cons_succ, List.set_cons_zero]
  with_reducible refine sS (by kernel_rfl) ?_
  simp only [Act.put, List.setIfInBounds_toArray, List.set_cons_succ, List.set_cons_zero]
  with_reducible refine sS (by kernel_rfl) ?_
  simp only [Act.put, List.setIfInBounds_toArray, List.set_cons_succ, List.set_cons_zero]
  with_reducible refine sS (by kernel_rfl) ?_
  simp only [Act.put, List.setIfInBounds_toArray, List.set_cons_succ, List.set_cons_zero]
  with_reducible refine sS (by kernel_rfl) ?_
  simp only [Act.put, List.setIfInBounds_toArray, List.set_cons_succ, List.set_cons_zero]
  with_reducible refine sS (by kernel_rfl) ?_
  simp only [Act.put, List.setIfInBounds_toArray, List.set_cons_succ, List.set_cons_zero]
  with_reducible refine sS (by kernel_rfl) ?_
  simp only [Act.put, List.setIfInBounds_toArray, List.set_cons_succ, List.set_cons_zero]
  with_reducible refine sS (by kernel_rfl) ?_
  simp only [Act.put, List.setIfInBounds_toArray, List.set_cons_succ, List.set_cons_zero]
  with_reducible refine sS (by kernel_rfl) ?_
  simp only [Act.put, List.setIfInBounds_toArray, List.set_cons_succ, List.set_cons_zero]
  with_reducible refine sS (by kernel_rfl) ?_
  simp only [Act.put, List.setIfInBounds_toArray, List.set_cons_succ, List.set_cons_zero]
  with_reducible refine sS (by kernel_rfl) ?_
  simp only [Act.put, List.setIfInBounds_toArray, List.set_cons_succ, List.set_cons_zero]
  with_reducible refine sS (by kernel_rfl) ?_
  simp only [Act.put, List.setIfInBounds_toArray, List.set_cons_succ, List.set_cons_zero]
  with_reducible refine sS (by kernel_rfl) ?_
  simp only [Act.put, List.setIfInBounds_toArray, List.set_cons_succ, List.set_cons_zero]
  with_reducible refine sS (by kernel_rfl) ?_
  simp only [Act.put, List.setIfInBounds_toArray, List.set_cons_succ, List.set_cons_zero]
  with_reducible refine sS (by kernel_rfl) ?_
  simp only [Act.put, List.setIfInBounds_toArray, List.set_cons_succ, List.set_cons_zero]
  refine sV (.bool false) (u64) (by kernel_rfl) (by kernel_rfl) ?_
  simp only [Act.put, List.setIfInBounds_toArray, List.set_cons_succ, List.set_cons_zero]
  refine sV (.bool false) (u64) (by kernel_rfl) (by kernel_rfl) ?_
  simp only [Act.put, List.setIfInBounds_toArray, List.set_cons_succ, List.set_cons_zero]
  go_upto_region 8 with fail
  refine wp_region_lit ?_
  refine sL (by kernel_rfl) _ _ (by rfl) _ (by kernel_rfl) (H65.out.all (box TC X (ccl ht h (.slice a n c))) (by simp)).1 _ _ UC rfl (by kernel_rfl) (by rw [ccl_len _ _ _ HL.out]) ?_
  simp only [Act.put, List.setIfInBounds_toArray, List.set_cons_succ, List.set_cons_zero]
  refine sC (R := fun w' => Below u64.heap.size u64 w') (v := .int .i64 cd) (by kernel_rfl) (by kernel_rfl) (HCK.out u64 H65.out.low) ?_
  rintro u66 hb
  simp only [Act.put, List.setIfInBounds_toArray, List.set_cons_succ, List.set_cons_zero]
  have H67 := WirS.hide (H65.out.more hb)
  clear H65
  clear hb
  go_wp2_with fail
  go_ret
  exact ⟨rfl, H67.out.low⟩
set_option maxRecDepth 20000 in
set_option maxHeartbeats 16000000 in
theorem back_e (w : World) (ht : Int) (h : List Int) (a : Option Addr) (n c : Nat) (vs : List Vt) (q : Int) (b : Option Addr) (bn bc : Nat) (bs : List Int) (hl : h.length = 32) (hv : VtIn w a n c vs) (hh : rng h) (hb : BIn w (.slice b bn bc) bs) (hr : rng bs) (hc : ¬ 70 < n) (hm0 : ¬ 1000 < bn) (hf : (cE bs).1 ≠ 0) (hk : chk ht vs = 0) : Calls Try.prog 14 #[.agg (ccl ht h (.slice a n c)).toArray, .int .i64 q, .slice b bn bc] w fun e w' => e = .returned (.bool true) ∧ Below w.heap.size w w' := by
  have HVL := WirS.hide hv.len
  have HL := WirS.hide hl
  have HV := WirS.hide hv
  have HLA := WirS.hide (fun U => CmD.long_any U ht h a n c hl)
  rw [decide_eq_false hc] at HLA
  have hdb : decide ((1000 : Int) < (bn : Int)) = false := by simp; omega
  have HDB := WirS.hide hdb
  have HBI := WirS.hide hb
  have HRB := WirS.hide hr
  have HBN := WirS.hide (show bn ≤ 1000 by omega)
  have HCK := WirS.hide (fun U (hU : Below w.heap.size w U) => check_any U ht h a n c vs hl (hv.below hU))
  obtain ⟨e1, e2, e3⟩ := d_no hf
  have hat := cE_at hr
  have hlb : bn = bs.length := by obtain ⟨_, _, e, _⟩ := hb; cases e; rfl
  obtain ⟨E1, hE1⟩ : ∃ x, (cE bs).1 = x := ⟨_, rfl⟩
  obtain ⟨E2, hE2⟩ : ∃ x, (cE bs).2 = x := ⟨_, rfl⟩
  have he4 : cE bs = (E1, E2) := by rw [← hE1, ← hE2]
  rw [hE1] at hf
  rw [hE2] at hat
  have HD0 := WirS.hide (fun (U : World) (hU : Below w.heap.size w U) => dec_at (w := U) e1 e2 e3 he4 (hb.below hU) hr (by omega))
  have HQ1 := WirS.hide (fun W => show (binOp .eql 55 (.agg #[.int .i64 E1, .int .i64 E2]) (.agg #[.int .i64 0, .int .i64 0])).run Try.prog W = .ok (.bool false) W from by rw [WirX.fault_eq]; simp [hf])
  have HQ2 := WirS.hide (fun W => show (binOp .neq 55 (.agg #[.int .i64 E1, .int .i64 E2]) (.agg #[.int .i64 0, .int .i64 0])).run Try.prog W = .ok (.bool true) W from by rw [fault_neq]; simp [hf])
  have HA1 := WirS.hide (show decide (E2 < 0) = false by simp; omega)
  have HA2 := WirS.hide (show decide ((bn : Int) < E2) = false by simp; omega)
  clear e1 e2 e3 hat hlb hE1 hE2 he4
  rw [hk] at HCK
  have hok := hv.ok
  have HHL := WirS.hide (form_len hl hk hok)
  have HRG := WirS.hide (form_rng hh hk)
  have HE2 := WirS.hide (fun (U : World) (hU : Below w.heap.size w U) => encode_ok U ht h a n c vs hl (hv.below hU) hk)
  obtain ⟨w1, w2, w3, w4⟩ := dec_whole hl hk hok
  have hw0 : (cE (cform ht h vs)).1 = 0 := by rw [w1]
  obtain ⟨y1, y2, y3⟩ := d_ok hw0
  have HT1 := WirS.hide (fun (U : World) (da : Option Addr) (dn dc : Nat) (hU : BIn U (.slice da dn dc) (cform ht h vs)) (hn : dn ≤ 1099511627776) => dec_at (w := U) (y1.trans w2) (y2.trans w3) (y3.trans w4) w1 hU (form_rng hh hk) hn)
  have hpos : 0 < (cform ht h vs).length := by unfold cform chead; simp only [List.length_append, hl]; omega
  have hT3 := fun (cut : Nat) (hcut : cut < (cform ht h vs).length) => dec_cut hl hk hok hcut
  have hT2 := dec_more hl hk hok 0
  obtain ⟨Z, hZ⟩ : ∃ z, cform ht h vs = z := ⟨_, rfl⟩
  rw [hZ] at HHL HRG HE2 HT1 hpos hT3 hT2
  obtain ⟨m, hm⟩ : ∃ m, Z.length = m := ⟨_, rfl⟩
  rw [hm] at HHL hpos hT3 hT2
  have HM := WirS.hide hm
  have HPOS := WirS.hide hpos
  have h20 : (cE (Z ++ [0])).1 ≠ 0 := by rw [hT2]; show ¬ (4 : Int) = 0; decide
  obtain ⟨z1, z2, z3⟩ := d_no h20
  have HT2 := WirS.hide (fun (U : World) (da : Option Addr) (dn dc : Nat) (hU : BIn U (.slice da dn dc) (Z ++ [0])) (hn : dn ≤ 1099511627776) => dec_at (w := U) z1 z2 z3 hT2 hU (fun y hy => by rcases List.mem_append.1 hy with hy | hy; exact HRG.out y hy; simp at hy; omega) hn)
  have HT3 := WirS.hide (fun (cut : Nat) (hcut : cut < m) => show ∃ qa, ∀ (U : World) (da : Option Addr) (dn dc : Nat) (_ : BIn U (.slice da dn dc) (Z.take cut)) (_ : dn ≤ 1099511627776), Calls Try.prog 75 #[.slice da dn dc] U (DP U 0 z32 [] 6 qa) from by
    have e6 := hT3 cut hcut
    obtain ⟨g1, g2, g3⟩ := d_no (bs := Z.take cut) (by rw [e6]; decide)
    exact ⟨(cE (Z.take cut)).2, fun U da dn dc hU hn => dec_at g1 g2 g3 (by rw [← e6]) hU (fun y hy => HRG.out y (List.mem_of_mem_take hy)) hn⟩)
  clear hok w1 w2 w3 w4 hw0 y1 y2 y3 hpos hT3 hT2 hZ hm h20 z1 z2 z3
  clear hl hv hh hb hr hc hm0 hf hk hdb
  have H68 := WirS.hide (Bag.nil (Below.refl w.heap.size w))
  go_enter Try.func14, Try.ntmps14
  go_upto_region 0 with fail
  refine wp_region_lit ?_
  refine sV (.pointer (some ⟨w.heap.size, 0, none⟩)) (w.alloc (.cells (ccl ht h (.slice a n c)).toArray TC)) (by kernel_rfl) (by kernel_rfl) ?_
  simp only [Act.put, List.setIfInBounds_toArray, List.set_cons_succ, List.set_cons_zero]
  obtain ⟨X, eX⟩ : ∃ A, w.heap.size = A := ⟨_, rfl⟩
  have hbX := bag_box (T := TC) (cs := (ccl ht h (.slice a n c))) (X := X) H68.out eX.symm (w' := w.alloc (.cells (ccl ht h (.slice a n c)).toArray TC)) (by rw [← eX]; exact At.new _ _ _) (Below.alloc (Below.refl _ _) (Nat.le_refl _) _)
  rw [eX]
  clear eX
  generalize World.alloc w _ = u69 at *
  have H70 := WirS.hide (hbX)
  clear H68
  clear hbX
  go_upto_region 1 with fail
  refine wp_region_lit ?_
  refine sC (R := fun w' => Below u69.heap.size u69 w') (v := .bool true) (by kernel_rfl) (by kernel_rfl) (CmR.known_any u69) ?_
  rintro u71 hb
  simp only [Act.put, List.setIfInBounds_toArray, List.set_cons_succ, List.set_cons_zero]
  have H72 := WirS.hide (H70.out.more hb)
  clear H70
  clear hb
  go_upto_region 2 with fail
  refine wp_region_lit ?_
  refine sL (by kernel_rfl) _ _ (by rfl) _ (by kernel_rfl) (H72.out.all (box TC X (ccl ht h (.slice a n c))) (by simp)).1 _ _ UC rfl (by kernel_rfl) (by rw [ccl_len _ _ _ HL.out]) ?_
  simp only [Act.put, List.setIfInBounds_toArray, List.set_cons_succ, List.set_cons_zero]
  refine sC (R := fun w' => Below u71.heap.size u71 w') (v := .bool false) (by kernel_rfl) (by kernel_rfl) (HLA.out u71) ?_
  rintro u73 hb
  simp only [Act.put, List.setIfInBounds_toArray, List.set_cons_succ, List.set_cons_zero]
  have H74 := WirS.hide (H72.out.more hb)
  clear H72
  clear hb
  refine sV (.bool false) (u73) (by kernel_rfl) (by kernel_rfl) ?_
  simp only [Act.put, List.setIfInBounds_toArray, List.set_cons_succ, List.set_cons_zero]
  refine sV (.slice b bn bc) (u73) (by kernel_rfl) (by kernel_rfl) ?_
  simp only [Act.put, List.setIfInBounds_toArray, List.set_cons_succ, List.set_cons_zero]
  refine sV (.int .i64 (bn : Int)) (u73) (by kernel_rfl) (by kernel_rfl) ?_
  simp only [Act.put, List.setIfInBounds_toArray, List.set_cons_succ, List.set_cons_zero]
  refine sV (.bool (decide ((1000 : Int) < (bn : Int)))) (u73) (by kernel_rfl) (by kernel_rfl) ?_
  simp only [Act.put, List.setIfInBounds_toArray, List.set_cons_succ, List.set_cons_zero]
  rw [HDB.out]
  refine sV (.bool false) (u73) (by kernel_rfl) (by kernel_rfl) ?_
  simp only [Act.put, List.setIfInBounds_toArray, List.set_cons_succ, List.set_cons_zero]
  go_upto_region 4 with fail
  refine wp_region_lit ?_
  refine sV (.slice b bn bc) (u73) (by kernel_rfl) (by kernel_rfl) ?_
  simp only [Act.put, List.setIfInBounds_toArray, List.set_cons_succ, List.set_cons_zero]
  refine sCx (by kernel_rfl) (by kernel_rfl) (HD0.out u73 H74.out.low) ?_
  rintro e u75 ⟨ma, mn, mc, rfl, ho, hnb, hb⟩
  refine ⟨_, rfl, ?_⟩
  simp only [Act.put, List.setIfInBounds_toArray, List.set_cons_succ, List.set_cons_zero]
  have H76 := WirS.hide (bag_ownt H74.out ho hnb hb)
  clear H74
  clear ho hnb hb
  refine sV (.tuple #[.agg (ccl 0 z32 (.slice ma mn mc)).toArray, .agg #[.int .i64 E1, .int .i64 E2]]) (u75) (by kernel_rfl) (by kernel_rfl) ?_
  simp only [Act.put, List.setIfInBounds_toArray, List.set_cons_succ, List.set_cons_zero]
  refine sV (.agg (ccl 0 z32 (.slice ma mn mc)).toArray) (u75) (by kernel_rfl) (by kernel_rfl) ?_
  simp only [Act.put, List.setIfInBounds_toArray, List.set_cons_succ, List.set_cons_zero]
  refine sV (.agg #[.int .i64 E1, .int .i64 E2]) (u75) (by kernel_rfl) (by kernel_rfl) ?_
  simp only [Act.put, List.setIfInBounds_toArray, List.set_cons_succ, List.set_cons_zero]
  refine sV (.pointer (some ⟨u75.heap.size, 0, none⟩)) (u75.alloc (.cells zcm.toArray TC)) (by kernel_rfl) (by kernel_rfl) ?_
  simp only [Act.put, List.setIfInBounds_toArray, List.set_cons_succ, List.set_cons_zero]
  obtain ⟨L77, eL77⟩ : ∃ A, u75.heap.size = A := ⟨_, rfl⟩
  have hbL77 := bag_box (T := TC) (cs := zcm) (X := L77) H76.out eL77.symm (w' := u75.alloc (.cells zcm.toArray TC)) (by rw [← eL77]; exact At.new _ _ _) (Below.alloc (Below.refl _ _) (Nat.le_refl _) _)
  rw [eL77]
  clear eL77
  generalize World.alloc u75 _ = u78 at *
  have H79 := WirS.hide (hbL77)
  clear H76
  clear hbL77
  refine sV (.pointer (some ⟨u78.heap.size, 0, none⟩)) (u78.alloc (.cells (f2 0 0).toArray FT)) (by kernel_rfl) (by kernel_rfl) ?_
  simp only [Act.put, List.setIfInBounds_toArray, List.set_cons_succ, List.set_cons_zero]
  obtain ⟨L80, eL80⟩ : ∃ A, u78.heap.size = A := ⟨_, rfl⟩
  have hbL80 := bag_box (T := FT) (cs := (f2 0 0)) (X := L80) H79.out eL80.symm (w' := u78.alloc (.cells (f2 0 0).toArray FT)) (by rw [← eL80]; exact At.new _ _ _) (Below.alloc (Below.refl _ _) (Nat.le_refl _) _)
  rw [eL80]
  clear eL80
  generalize World.alloc u78 _ = u81 at *
  have H82 := WirS.hide (hbL80)
  clear H79
  clear hbL80
  have H83 := WirS.hide (H82.out.perm (show [box FT L80 (f2 0 0), box TC L77 zcm, ownt (.slice ma mn mc) [], box TC X (ccl ht h (.slice a n c))].Perm [box TC L77 zcm, box FT L80 (f2 0 0), ownt (.slice ma mn mc) [], box TC X (ccl ht h (.slice a n c))] from ((List.perm_middle (l₁ := [box FT L80 (f2 0 0)])).trans (.cons _ ((List.perm_middle (l₁ := [])).trans (.cons _ ((List.perm_middle (l₁ := [])).trans (.cons _ ((List.perm_middle (l₁ := [])).trans (.cons _ (.refl _)))))))))))
  clear H82
  refine stepStore (by rfl) _ _ _ (by rfl) L77 (ccl 0 z32 (.slice ma mn mc)) (by kernel_rfl) (by kernel_rfl) H83.out.head 34 (by kernel_rfl) (by rfl) (ccl_len _ _ _ rfl) (one_ccl _ _ _ _ _) ?_
  simp only [Act.put]
  have H85 := WirS.hide (bag_row H83.out (ccl 0 z32 (.slice ma mn mc)))
  clear H83
  generalize World.setRow u81 L77 _ = u84 at *
  have H86 := WirS.hide (H85.out.perm (show [box TC L77 (ccl 0 z32 (.slice ma mn mc)), box FT L80 (f2 0 0), ownt (.slice ma mn mc) [], box TC X (ccl ht h (.slice a n c))].Perm [box FT L80 (f2 0 0), box TC L77 (ccl 0 z32 (.slice ma mn mc)), ownt (.slice ma mn mc) [], box TC X (ccl ht h (.slice a n c))] from ((List.perm_middle (l₁ := [box TC L77 (ccl 0 z32 (.slice ma mn mc))])).trans (.cons _ ((List.perm_middle (l₁ := [])).trans (.cons _ ((List.perm_middle (l₁ := [])).trans (.cons _ ((List.perm_middle (l₁ := [])).trans (.cons _ (.refl _)))))))))))
  clear H85
  refine stepStore (by rfl) _ _ _ (by rfl) L80 (f2 E1 E2) (by kernel_rfl) (by kernel_rfl) H86.out.head 2 (by kernel_rfl) (by rfl) (by rfl) (by kernel_rfl) ?_
  simp only [Act.put]
  have H88 := WirS.hide (bag_row H86.out (f2 E1 E2))
  clear H86
  generalize World.setRow u84 L80 _ = u87 at *
  go_upto_region 5 with fail
  refine wp_region_lit ?_
  refine sL (by kernel_rfl) _ _ (by rfl) _ (by kernel_rfl) (H88.out.all (box TC L77 (ccl 0 z32 (.slice ma mn mc))) (by simp)).1 _ _ UC rfl (by kernel_rfl) (by rw [ccl_len _ _ _ rfl]) ?_
  simp only [Act.put, List.setIfInBounds_toArray, List.set_cons_succ, List.set_cons_zero]
  have hmn : mn = 0 := by obtain ⟨xa, xc, e⟩ := (show OwnT u87 (.slice ma mn mc) [] from (H88.out.all (ownt (.slice ma mn mc) []) (by simp)).1).len_of; cases e; rfl
  refine sC (R := fun w' => Below u87.heap.size u87 w') (v := .tuple #[.slice none 0 0, .int .i64 3]) (by kernel_rfl) (by kernel_rfl) ((by have C := encode_bad u87 0 z32 ma mn mc [] rfl ((show OwnT u87 (.slice ma mn mc) [] from (H88.out.all (ownt (.slice ma mn mc) []) (by simp)).1).vin) (by decide); rw [chk_none] at C; exact C)) ?_
  rintro u90 hb
  simp only [Act.put, List.setIfInBounds_toArray, List.set_cons_succ, List.set_cons_zero]
  have H91 := WirS.hide (H88.out.more hb)
  clear H88
  clear hb
  refine sV (.tuple #[.slice none 0 0, .int .i64 3]) (u90) (by kernel_rfl) (by kernel_rfl) ?_
  simp only [Act.put, List.setIfInBounds_toArray, List.set_cons_succ, List.set_cons_zero]
  refine sV (.slice none 0 0) (u90) (by kernel_rfl) (by kernel_rfl) ?_
  simp only [Act.put, List.setIfInBounds_toArray, List.set_cons_succ, List.set_cons_zero]
  refine sV (.int .i64 3) (u90) (by kernel_rfl) (by kernel_rfl) ?_
  simp only [Act.put, List.setIfInBounds_toArray, List.set_cons_succ, List.set_cons_zero]
  go_upto_region 6 with fail
  refine wp_region_lit ?_
  refine sL (by kernel_rfl) _ _ (by rfl) _ (by kernel_rfl) (H91.out.all (box FT L80 (f2 E1 E2)) (by simp)).1 _ _ Try.underlying55 rfl (by kernel_rfl) rfl ?_
  simp only [Act.put, List.setIfInBounds_toArray, List.set_cons_succ, List.set_cons_zero]
  refine sV (.agg (f2 0 0).toArray) (u90) (by kernel_rfl) (by kernel_rfl) ?_
  simp only [Act.put, List.setIfInBounds_toArray, List.set_cons_succ, List.set_cons_zero]
  refine sB (by kernel_rfl) .eql 55 _ _ _ (by rfl) (.agg #[.int .i64 E1, .int .i64 E2]) (.agg #[.int .i64 0, .int .i64 0]) (by kernel_rfl) (by kernel_rfl) (.bool false) (HQ1.out u90) (by kernel_rfl) ?_
  simp only [Act.put, List.setIfInBounds_toArray, List.set_cons_succ, List.set_cons_zero]
  refine sV (.bool false) (u90) (by kernel_rfl) (by kernel_rfl) ?_
  simp only [Act.put, List.setIfInBounds_toArray, List.set_cons_succ, List.set_cons_zero]
  with_reducible refine sS (by kernel_rfl) ?_
  simp only [Act.put, List.setIfInBounds_toArray, List.set_cons_succ, List.set_cons_zero]
  with_reducible refine sS (by kernel_rfl) ?_
  simp only [Act.put, List.setIfInBounds_toArray, List.set_cons_succ, List.set_cons_zero]
  with_reducible refine sS (by kernel_rfl) ?_
  simp only [Act.put, List.setIfInBounds_toArray, List.set_cons_succ, List.set_cons_zero]
  with_reducible refine sS (by kernel_rfl) ?_
  simp only [Act.put, List.setIfInBounds_toArray, List.set_cons_succ, List.set_cons_zero]
  with_reducible refine sS (by kernel_rfl) ?_
  simp only [Act.put, List.setIfInBounds_toArray, List.set_cons_succ, List.set_cons_zero]
  with_reducible refine sS (by kernel_rfl) ?_
  simp only [Act.put, List.setIfInBounds_toArray, List.set_cons_succ, List.set_cons_zero]
  with_reducible refine sS (by kernel_rfl) ?_
  simp only [Act.put, List.setIfInBounds_toArray, List.set_cons_succ, List.set_cons_zero]
  with_reducible refine sS (by kernel_rfl) ?_
  simp only [Act.put, List.setIfInBounds_toArray, List.set_cons_succ, List.set_cons_zero]
  refine sV (.bool false) (u90) (by kernel_rfl) (by kernel_rfl) ?_
  simp only [Act.put, List.setIfInBounds_toArray, List.set_cons_succ, List.set_cons_zero]
  refine sV (.bool false) (u90) (by kernel_rfl) (by kernel_rfl) ?_
  simp only [Act.put, List.setIfInBounds_toArray, List.set_cons_succ, List.set_cons_zero]
  refine sL (by kernel_rfl) _ _ (by rfl) _ (by kernel_rfl) (H91.out.all (box FT L80 (f2 E1 E2)) (by simp)).1 _ _ Try.underlying55 rfl (by kernel_rfl) rfl ?_
  simp only [Act.put, List.setIfInBounds_toArray, List.set_cons_succ, List.set_cons_zero]
  refine sV (.agg (f2 0 0).toArray) (u90) (by kernel_rfl) (by kernel_rfl) ?_
  simp only [Act.put, List.setIfInBounds_toArray, List.set_cons_succ, List.set_cons_zero]
  refine sB (by kernel_rfl) .neq 55 _ _ _ (by rfl) (.agg #[.int .i64 E1, .int .i64 E2]) (.agg #[.int .i64 0, .int .i64 0]) (by kernel_rfl) (by kernel_rfl) (.bool true) (HQ2.out u90) (by kernel_rfl) ?_
  simp only [Act.put, List.setIfInBounds_toArray, List.set_cons_succ, List.set_cons_zero]
  refine sV (.bool true) (u90) (by kernel_rfl) (by kernel_rfl) ?_
  simp only [Act.put, List.setIfInBounds_toArray, List.set_cons_succ, List.set_cons_zero]
  refine sL (by kernel_rfl) _ _ (by rfl) _ (by kernel_rfl) (H91.out.all (box TC L77 (ccl 0 z32 (.slice ma mn mc))) (by simp)).1 _ _ UC rfl (by kernel_rfl) (by rw [ccl_len _ _ _ rfl]) ?_
  simp only [Act.put, List.setIfInBounds_toArray, List.set_cons_succ, List.set_cons_zero]
  refine sV (.agg zcm.toArray) (u90) (by kernel_rfl) (by kernel_rfl) ?_
  simp only [Act.put, List.setIfInBounds_toArray, List.set_cons_succ, List.set_cons_zero]
  subst hmn
  refine sC (R := fun w' => Below u90.heap.size u90 w') (v := .bool true) (by kernel_rfl) (by kernel_rfl) (CmN.sc_any u90 0 z32 ma none 0 mc 0 [] rfl ((show OwnT u90 (.slice ma 0 mc) [] from (H91.out.all (ownt (.slice ma 0 mc) []) (by simp)).1).vin) (VtIn.nil _ none 0 (by decide))) ?_
  rintro u92 hb
  simp only [Act.put, List.setIfInBounds_toArray, List.set_cons_succ, List.set_cons_zero]
  have H93 := WirS.hide (H91.out.more hb)
  clear H91
  clear hb
  refine sV (.bool false) (u92) (by kernel_rfl) (by kernel_rfl) ?_
  simp only [Act.put, List.setIfInBounds_toArray, List.set_cons_succ, List.set_cons_zero]
  refine sV (.bool false) (u92) (by kernel_rfl) (by kernel_rfl) ?_
  simp only [Act.put, List.setIfInBounds_toArray, List.set_cons_succ, List.set_cons_zero]
  refine sV (.pointer (some ⟨L80, 1, none⟩)) (u92) (by kernel_rfl) (by kernel_rfl) ?_
  simp only [Act.put, List.setIfInBounds_toArray, List.set_cons_succ, List.set_cons_zero]
  refine sP (by kernel_rfl) _ _ (by rfl) ⟨L80, 1, none⟩ (by kernel_rfl) (.int .i64 E2) ((show At u92 L80 FT (f2 E1 E2) from (H93.out.all (box FT L80 (f2 E1 E2)) (by simp)).1).cell 1) (by kernel_rfl) ?_
  simp only [Act.put, List.setIfInBounds_toArray, List.set_cons_succ, List.set_cons_zero]
  refine sV (.bool (decide (E2 < 0))) (u92) (by kernel_rfl) (by kernel_rfl) ?_
  simp only [Act.put, List.setIfInBounds_toArray, List.set_cons_succ, List.set_cons_zero]
  rw [HA1.out]
  refine sV (.bool false) (u92) (by kernel_rfl) (by kernel_rfl) ?_
  simp only [Act.put, List.setIfInBounds_toArray, List.set_cons_succ, List.set_cons_zero]
  refine sV (.bool false) (u92) (by kernel_rfl) (by kernel_rfl) ?_
  simp only [Act.put, List.setIfInBounds_toArray, List.set_cons_succ, List.set_cons_zero]
  refine sV (.pointer (some ⟨L80, 1, none⟩)) (u92) (by kernel_rfl) (by kernel_rfl) ?_
  simp only [Act.put, List.setIfInBounds_toArray, List.set_cons_succ, List.set_cons_zero]
  refine sP (by kernel_rfl) _ _ (by rfl) ⟨L80, 1, none⟩ (by kernel_rfl) (.int .i64 E2) ((show At u92 L80 FT (f2 E1 E2) from (H93.out.all (box FT L80 (f2 E1 E2)) (by simp)).1).cell 1) (by kernel_rfl) ?_
  simp only [Act.put, List.setIfInBounds_toArray, List.set_cons_succ, List.set_cons_zero]
  refine sV (.slice b bn bc) (u92) (by kernel_rfl) (by kernel_rfl) ?_
  simp only [Act.put, List.setIfInBounds_toArray, List.set_cons_succ, List.set_cons_zero]
  refine sV (.int .i64 (bn : Int)) (u92) (by kernel_rfl) (by kernel_rfl) ?_
  simp only [Act.put, List.setIfInBounds_toArray, List.set_cons_succ, List.set_cons_zero]
  refine sV (.bool (decide ((bn : Int) < E2))) (u92) (by kernel_rfl) (by kernel_rfl) ?_
  simp only [Act.put, List.setIfInBounds_toArray, List.set_cons_succ, List.set_cons_zero]
  rw [HA2.out]
  refine sV (.bool false) (u92) (by kernel_rfl) (by kernel_rfl) ?_
  simp only [Act.put, List.setIfInBounds_toArray, List.set_cons_succ, List.set_cons_zero]
  refine sV (.bool false) (u92) (by kernel_rfl) (by kernel_rfl) ?_
  simp only [Act.put, List.setIfInBounds_toArray, List.set_cons_succ, List.set_cons_zero]
  refine sV (.bool false) (u92) (by kernel_rfl) (by kernel_rfl) ?_
  simp only [Act.put, List.setIfInBounds_toArray, List.set_cons_succ, List.set_cons_zero]
  go_upto_region 8 with fail
  refine wp_region_lit ?_
  refine sL (by kernel_rfl) _ _ (by rfl) _ (by kernel_rfl) (H93.out.all (box TC X (ccl ht h (.slice a n c))) (by simp)).1 _ _ UC rfl (by kernel_rfl) (by rw [ccl_len _ _ _ HL.out]) ?_
  simp only [Act.put, List.setIfInBounds_toArray, List.set_cons_succ, List.set_cons_zero]
  refine sC (R := fun w' => Below u92.heap.size u92 w') (v := .int .i64 0) (by kernel_rfl) (by kernel_rfl) (HCK.out u92 H93.out.low) ?_
  rintro u94 hb
  simp only [Act.put, List.setIfInBounds_toArray, List.set_cons_succ, List.set_cons_zero]
  have H95 := WirS.hide (H93.out.more hb)
  clear H93
  clear hb
  go_upto_region 10 with fail
  refine wp_region_lit ?_
  refine sL (by kernel_rfl) _ _ (by rfl) _ (by kernel_rfl) (H95.out.all (box TC X (ccl ht h (.slice a n c))) (by simp)).1 _ _ UC rfl (by kernel_rfl) (by rw [ccl_len _ _ _ HL.out]) ?_
  simp only [Act.put, List.setIfInBounds_toArray, List.set_cons_succ, List.set_cons_zero]
  refine sCx (by kernel_rfl) (by kernel_rfl) (HE2.out u94 H95.out.low) ?_
  rintro e u96 ⟨da, dn, dc, rfl, ho, hnb, hb⟩
  refine ⟨_, rfl, ?_⟩
  simp only [Act.put, List.setIfInBounds_toArray, List.set_cons_succ, List.set_cons_zero]
  obtain ⟨rfl, hdc⟩ : dn = m ∧ m ≤ dc := by
    obtain ⟨_, _, e, hc, _⟩ := ho.bin
    rw [HM.out] at hc
    cases e
    exact ⟨HM.out, hc⟩
  have HDC := WirS.hide hdc
  clear hdc
  have H97 := WirS.hide (bag_own H95.out ho hnb hb)
  clear H95
  clear ho hnb hb
  refine sV (.tuple #[.slice da dn dc, .int .i64 0]) (u96) (by kernel_rfl) (by kernel_rfl) ?_
  simp only [Act.put, List.setIfInBounds_toArray, List.set_cons_succ, List.set_cons_zero]
  refine sV (.slice da dn dc) (u96) (by kernel_rfl) (by kernel_rfl) ?_
  simp only [Act.put, List.setIfInBounds_toArray, List.set_cons_succ, List.set_cons_zero]
  refine sV (.int .i64 0) (u96) (by kernel_rfl) (by kernel_rfl) ?_
  simp only [Act.put, List.setIfInBounds_toArray, List.set_cons_succ, List.set_cons_zero]
  go_upto_region 11 with fail
  refine wp_region_lit ?_
  refine sV (.slice da dn dc) (u96) (by kernel_rfl) (by kernel_rfl) ?_
  simp only [Act.put, List.setIfInBounds_toArray, List.set_cons_succ, List.set_cons_zero]
  refine sCx (by kernel_rfl) (by kernel_rfl) (HT1.out u96 da dn dc ((show WirM.Own u96 5 (.slice da dn dc) Z from (H97.out.all (own (.slice da dn dc) Z) (by simp)).1).bin) (by have h1 := HHL.out; omega)) ?_
  rintro e u98 ⟨pa, pn, pc, rfl, ho, hnb, hb⟩
  refine ⟨_, rfl, ?_⟩
  simp only [Act.put, List.setIfInBounds_toArray, List.set_cons_succ, List.set_cons_zero]
  have H99 := WirS.hide (bag_ownt H97.out ho hnb hb)
  clear H97
  clear ho hnb hb
  refine sV (.tuple #[.agg (ccl ht h (.slice pa pn pc)).toArray, .agg #[.int .i64 0, .int .i64 0]]) (u98) (by kernel_rfl) (by kernel_rfl) ?_
  simp only [Act.put, List.setIfInBounds_toArray, List.set_cons_succ, List.set_cons_zero]
  refine sV (.agg (ccl ht h (.slice pa pn pc)).toArray) (u98) (by kernel_rfl) (by kernel_rfl) ?_
  simp only [Act.put, List.setIfInBounds_toArray, List.set_cons_succ, List.set_cons_zero]
  refine sV (.agg #[.int .i64 0, .int .i64 0]) (u98) (by kernel_rfl) (by kernel_rfl) ?_
  simp only [Act.put, List.setIfInBounds_toArray, List.set_cons_succ, List.set_cons_zero]
  refine sV (.pointer (some ⟨u98.heap.size, 0, none⟩)) (u98.alloc (.cells zcm.toArray TC)) (by kernel_rfl) (by kernel_rfl) ?_
  simp only [Act.put, List.setIfInBounds_toArray, List.set_cons_succ, List.set_cons_zero]
  obtain ⟨L100, eL100⟩ : ∃ A, u98.heap.size = A := ⟨_, rfl⟩
  have hbL100 := bag_box (T := TC) (cs := zcm) (X := L100) H99.out eL100.symm (w' := u98.alloc (.cells zcm.toArray TC)) (by rw [← eL100]; exact At.new _ _ _) (Below.alloc (Below.refl _ _) (Nat.le_refl _) _)
  rw [eL100]
  clear eL100
  generalize World.alloc u98 _ = u101 at *
  have H102 := WirS.hide (hbL100)
  clear H99
  clear hbL100
  refine sV (.pointer (some ⟨u101.heap.size, 0, none⟩)) (u101.alloc (.cells (f2 0 0).toArray FT)) (by kernel_rfl) (by kernel_rfl) ?_
  simp only [Act.put, List.setIfInBounds_toArray, List.set_cons_succ, List.set_cons_zero]
  obtain ⟨L103, eL103⟩ : ∃ A, u101.heap.size = A := ⟨_, rfl⟩
  have hbL103 := bag_box (T := FT) (cs := (f2 0 0)) (X := L103) H102.out eL103.symm (w' := u101.alloc (.cells (f2 0 0).toArray FT)) (by rw [← eL103]; exact At.new _ _ _) (Below.alloc (Below.refl _ _) (Nat.le_refl _) _)
  rw [eL103]
  clear eL103
  generalize World.alloc u101 _ = u104 at *
  have H105 := WirS.hide (hbL103)
  clear H102
  clear hbL103
  have H106 := WirS.hide (H105.out.perm (show [box FT L103 (f2 0 0), box TC L100 zcm, ownt (.slice pa pn pc) vs, own (.slice da dn dc) Z, box FT L80 (f2 E1 E2), box TC L77 (ccl 0 z32 (.slice ma 0 mc)), ownt (.slice ma 0 mc) [], box TC X (ccl ht h (.slice a n c))].Perm [box TC L100 zcm, box FT L103 (f2 0 0), ownt (.slice pa pn pc) vs, own (.slice da dn dc) Z, box FT L80 (f2 E1 E2), box TC L77 (ccl 0 z32 (.slice ma 0 mc)), ownt (.slice ma 0 mc) [], box TC X (ccl ht h (.slice a n c))] from ((List.perm_middle (l₁ := [box FT L103 (f2 0 0)])).trans (.cons _ ((List.perm_middle (l₁ := [])).trans (.cons _ ((List.perm_middle (l₁ := [])).trans (.cons _ ((List.perm_middle (l₁ := [])).trans (.cons _ ((List.perm_middle (l₁ := [])).trans (.cons _ ((List.perm_middle (l₁ := [])).trans (.cons _ ((List.perm_middle (l₁ := [])).trans (.cons _ ((List.perm_middle (l₁ := [])).trans (.cons _ (.refl _)))))))))))))))))))
  clear H105
  refine stepStore (by rfl) _ _ _ (by rfl) L100 (ccl ht h (.slice pa pn pc)) (by kernel_rfl) (by kernel_rfl) H106.out.head 34 (by kernel_rfl) (by rfl) (ccl_len _ _ _ HL.out) (one_ccl _ _ _ _ _) ?_
  simp only [Act.put]
  have H108 := WirS.hide (bag_row H106.out (ccl ht h (.slice pa pn pc)))
  clear H106
  generalize World.setRow u104 L100 _ = u107 at *
  have H109 := WirS.hide (H108.out.perm (show [box TC L100 (ccl ht h (.slice pa pn pc)), box FT L103 (f2 0 0), ownt (.slice pa pn pc) vs, own (.slice da dn dc) Z, box FT L80 (f2 E1 E2), box TC L77 (ccl 0 z32 (.slice ma 0 mc)), ownt (.slice ma 0 mc) [], box TC X (ccl ht h (.slice a n c))].Perm [box FT L103 (f2 0 0), box TC L100 (ccl ht h (.slice pa pn pc)), ownt (.slice pa pn pc) vs, own (.slice da dn dc) Z, box FT L80 (f2 E1 E2), box TC L77 (ccl 0 z32 (.slice ma 0 mc)), ownt (.slice ma 0 mc) [], box TC X (ccl ht h (.slice a n c))] from ((List.perm_middle (l₁ := [box TC L100 (ccl ht h (.slice pa pn pc))])).trans (.cons _ ((List.perm_middle (l₁ := [])).trans (.cons _ ((List.perm_middle (l₁ := [])).trans (.cons _ ((List.perm_middle (l₁ := [])).trans (.cons _ ((List.perm_middle (l₁ := [])).trans (.cons _ ((List.perm_middle (l₁ := [])).trans (.cons _ ((List.perm_middle (l₁ := [])).trans (.cons _ ((List.perm_middle (l₁ := [])).trans (.cons _ (.refl _)))))))))))))))))))
  clear H108
  refine stepStore (by rfl) _ _ _ (by rfl) L103 (f2 0 0) (by kernel_rfl) (by kernel_rfl) H109.out.head 2 (by kernel_rfl) (by rfl) (by rfl) (by kernel_rfl) ?_
  simp only [Act.put]
  have H111 := WirS.hide (bag_row H109.out (f2 0 0))
  clear H109
  generalize World.setRow u107 L103 _ = u110 at *
  have hp := KitB.pick_range q (dn : Int) (by have h1 := HPOS.out; omega)
  have HPK := WirS.hide (KitB.pick_any u110 q (dn : Int) (by have h1 := HPOS.out; omega) (by have h1 := HHL.out; omega))
  generalize KitB.pick q (dn : Int) = g at HPK hp
  obtain ⟨cut, rfl⟩ := Int.eq_ofNat_of_zero_le hp.1
  have hcut : cut < dn := by omega
  obtain ⟨qa, hT3⟩ := HT3.out cut hcut
  have hbc : BIn u110 (.slice (sa da dc 0) cut (dc - 0)) (Z.take cut) := by
    have hown := ((show WirM.Own u110 5 (.slice da dn dc) Z from (H111.out.all (own (.slice da dn dc) Z) (by simp)).1).bin)
    have h := bin_sub (at' := 0) (n := cut) (bs := Z) (by rw [HM.out]; exact hown) (by rw [HM.out]; omega)
    rwa [List.drop_zero] at h
  have HDQ := WirS.hide (hT3 u110 _ _ _ hbc (by have h1 := HHL.out; omega))
  have HCUT := WirS.hide hcut
  clear hp hT3 hbc hcut
  go_upto_region 12 with fail
  refine wp_region_lit ?_
  refine sV (.slice da dn dc) (u110) (by kernel_rfl) (by kernel_rfl) ?_
  simp only [Act.put, List.setIfInBounds_toArray, List.set_cons_succ, List.set_cons_zero]
  refine sV (.int .i64 q) (u110) (by kernel_rfl) (by kernel_rfl) ?_
  simp only [Act.put, List.setIfInBounds_toArray, List.set_cons_succ, List.set_cons_zero]
  refine sV (.slice da dn dc) (u110) (by kernel_rfl) (by kernel_rfl) ?_
  simp only [Act.put, List.setIfInBounds_toArray, List.set_cons_succ, List.set_cons_zero]
  refine sV (.int .i64 (dn : Int)) (u110) (by kernel_rfl) (by kernel_rfl) ?_
  simp only [Act.put, List.setIfInBounds_toArray, List.set_cons_succ, List.set_cons_zero]
  refine sC (R := fun w' => u110 = w') (v := .int .i64 (cut : Int)) (by kernel_rfl) (by kernel_rfl) (HPK.out) ?_
  rintro _ rfl
  simp only [Act.put, List.setIfInBounds_toArray, List.set_cons_succ, List.set_cons_zero]
  refine sSh (by kernel_rfl) _ _ _ (by rfl) (.slice da dn dc) (.int .i64 (cut : Int)) (.slice (sa da dc 0) cut (dc - 0)) (by kernel_rfl) (by kernel_rfl) (slB da dn dc cut (by have h1 := HDC.out; have h2 := HCUT.out; omega) u110) ?_
  simp only [Act.put, List.setIfInBounds_toArray, List.set_cons_succ, List.set_cons_zero]
  refine sCx (by kernel_rfl) (by kernel_rfl) (HDQ.out) ?_
  rintro e u112 ⟨sa, sn, sc, rfl, ho, hnb, hb⟩
  refine ⟨_, rfl, ?_⟩
  simp only [Act.put, List.setIfInBounds_toArray, List.set_cons_succ, List.set_cons_zero]
  have H113 := WirS.hide (bag_ownt H111.out ho hnb hb)
  clear H111
  clear ho hnb hb
  refine sV (.tuple #[.agg (ccl 0 z32 (.slice sa sn sc)).toArray, .agg #[.int .i64 6, .int .i64 qa]]) (u112) (by kernel_rfl) (by kernel_rfl) ?_
  simp only [Act.put, List.setIfInBounds_toArray, List.set_cons_succ, List.set_cons_zero]
  refine sV (.agg (ccl 0 z32 (.slice sa sn sc)).toArray) (u112) (by kernel_rfl) (by kernel_rfl) ?_
  simp only [Act.put, List.setIfInBounds_toArray, List.set_cons_succ, List.set_cons_zero]
  refine sV (.agg #[.int .i64 6, .int .i64 qa]) (u112) (by kernel_rfl) (by kernel_rfl) ?_
  simp only [Act.put, List.setIfInBounds_toArray, List.set_cons_succ, List.set_cons_zero]
  refine sV (.pointer (some ⟨u112.heap.size, 0, none⟩)) (u112.alloc (.cells zcm.toArray TC)) (by kernel_rfl) (by kernel_rfl) ?_
  simp only [Act.put, List.setIfInBounds_toArray, List.set_cons_succ, List.set_cons_zero]
  obtain ⟨L114, eL114⟩ : ∃ A, u112.heap.size = A := ⟨_, rfl⟩
  have hbL114 := bag_box (T := TC) (cs := zcm) (X := L114) H113.out eL114.symm (w' := u112.alloc (.cells zcm.toArray TC)) (by rw [← eL114]; exact At.new _ _ _) (Below.alloc (Below.refl _ _) (Nat.le_refl _) _)
  rw [eL114]
  clear eL114
  generalize World.alloc u112 _ = u115 at *
  have H116 := WirS.hide (hbL114)
  clear H113
  clear hbL114
  refine sV (.pointer (some ⟨u115.heap.size, 0, none⟩)) (u115.alloc (.cells (f2 0 0).toArray FT)) (by kernel_rfl) (by kernel_rfl) ?_
  simp only [Act.put, List.setIfInBounds_toArray, List.set_cons_succ, List.set_cons_zero]
  obtain ⟨L117, eL117⟩ : ∃ A, u115.heap.size = A := ⟨_, rfl⟩
  have hbL117 := bag_box (T := FT) (cs := (f2 0 0)) (X := L117) H116.out eL117.symm (w' := u115.alloc (.cells (f2 0 0).toArray FT)) (by rw [← eL117]; exact At.new _ _ _) (Below.alloc (Below.refl _ _) (Nat.le_refl _) _)
  rw [eL117]
  clear eL117
  generalize World.alloc u115 _ = u118 at *
  have H119 := WirS.hide (hbL117)
  clear H116
  clear hbL117
  have H120 := WirS.hide (H119.out.perm (show [box FT L117 (f2 0 0), box TC L114 zcm, ownt (.slice sa sn sc) [], box FT L103 (f2 0 0), box TC L100 (ccl ht h (.slice pa pn pc)), ownt (.slice pa pn pc) vs, own (.slice da dn dc) Z, box FT L80 (f2 E1 E2), box TC L77 (ccl 0 z32 (.slice ma 0 mc)), ownt (.slice ma 0 mc) [], box TC X (ccl ht h (.slice a n c))].Perm [box TC L114 zcm, box FT L117 (f2 0 0), ownt (.slice sa sn sc) [], box FT L103 (f2 0 0), box TC L100 (ccl ht h (.slice pa pn pc)), ownt (.slice pa pn pc) vs, own (.slice da dn dc) Z, box FT L80 (f2 E1 E2), box TC L77 (ccl 0 z32 (.slice ma 0 mc)), ownt (.slice ma 0 mc) [], box TC X (ccl ht h (.slice a n c))] from ((List.perm_middle (l₁ := [box FT L117 (f2 0 0)])).trans (.cons _ ((List.perm_middle (l₁ := [])).trans (.cons _ ((List.perm_middle (l₁ := [])).trans (.cons _ ((List.perm_middle (l₁ := [])).trans (.cons _ ((List.perm_middle (l₁ := [])).trans (.cons _ ((List.perm_middle (l₁ := [])).trans (.cons _ ((List.perm_middle (l₁ := [])).trans (.cons _ ((List.perm_middle (l₁ := [])).trans (.cons _ ((List.perm_middle (l₁ := [])).trans (.cons _ ((List.perm_middle (l₁ := [])).trans (.cons _ ((List.perm_middle (l₁ := [])).trans (.cons _ (.refl _)))))))))))))))))))))))))
  clear H119
  refine stepStore (by rfl) _ _ _ (by rfl) L114 (ccl 0 z32 (.slice sa sn sc)) (by kernel_rfl) (by kernel_rfl) H120.out.head 34 (by kernel_rfl) (by rfl) (ccl_len _ _ _ rfl) (one_ccl _ _ _ _ _) ?_
  simp only [Act.put]
  have H122 := WirS.hide (bag_row H120.out (ccl 0 z32 (.slice sa sn sc)))
  clear H120
  generalize World.setRow u118 L114 _ = u121 at *
  have H123 := WirS.hide (H122.out.perm (show [box TC L114 (ccl 0 z32 (.slice sa sn sc)), box FT L117 (f2 0 0), ownt (.slice sa sn sc) [], box FT L103 (f2 0 0), box TC L100 (ccl ht h (.slice pa pn pc)), ownt (.slice pa pn pc) vs, own (.slice da dn dc) Z, box FT L80 (f2 E1 E2), box TC L77 (ccl 0 z32 (.slice ma 0 mc)), ownt (.slice ma 0 mc) [], box TC X (ccl ht h (.slice a n c))].Perm [box FT L117 (f2 0 0), box TC L114 (ccl 0 z32 (.slice sa sn sc)), ownt (.slice sa sn sc) [], box FT L103 (f2 0 0), box TC L100 (ccl ht h (.slice pa pn pc)), ownt (.slice pa pn pc) vs, own (.slice da dn dc) Z, box FT L80 (f2 E1 E2), box TC L77 (ccl 0 z32 (.slice ma 0 mc)), ownt (.slice ma 0 mc) [], box TC X (ccl ht h (.slice a n c))] from ((List.perm_middle (l₁ := [box TC L114 (ccl 0 z32 (.slice sa sn sc))])).trans (.cons _ ((List.perm_middle (l₁ := [])).trans (.cons _ ((List.perm_middle (l₁ := [])).trans (.cons _ ((List.perm_middle (l₁ := [])).trans (.cons _ ((List.perm_middle (l₁ := [])).trans (.cons _ ((List.perm_middle (l₁ := [])).trans (.cons _ ((List.perm_middle (l₁ := [])).trans (.cons _ ((List.perm_middle (l₁ := [])).trans (.cons _ ((List.perm_middle (l₁ := [])).trans (.cons _ ((List.perm_middle (l₁ := [])).trans (.cons _ ((List.perm_middle (l₁ := [])).trans (.cons _ (.refl _)))))))))))))))))))))))))
  clear H122
  refine stepStore (by rfl) _ _ _ (by rfl) L117 (f2 6 qa) (by kernel_rfl) (by kernel_rfl) H123.out.head 2 (by kernel_rfl) (by rfl) (by rfl) (by kernel_rfl) ?_
  simp only [Act.put]
  have H125 := WirS.hide (bag_row H123.out (f2 6 qa))
  clear H123
  generalize World.setRow u121 L117 _ = u124 at *
  go_upto_region 13 with fail
  refine wp_region_lit ?_
  have HC := WirS.hide (KitC.copy_any u124 da dn dc Z ((show WirM.Own u124 5 (.slice da dn dc) Z from (H125.out.all (own (.slice da dn dc) Z) (by simp)).1).bin) (by have h1 := HHL.out; omega))
  refine sV (.slice da dn dc) (u124) (by kernel_rfl) (by kernel_rfl) ?_
  simp only [Act.put, List.setIfInBounds_toArray, List.set_cons_succ, List.set_cons_zero]
  refine sCx (by kernel_rfl) (by kernel_rfl) HC.out ?_
  rintro e u126 ⟨ca, cn, cc, rfl, ho, hnw, hb⟩
  refine ⟨_, rfl, ?_⟩
  simp only [Act.put, List.setIfInBounds_toArray, List.set_cons_succ, List.set_cons_zero]
  obtain rfl : cn = dn := by
    obtain ⟨_, _, e, hc, _⟩ := ho.bin
    cases e
    exact HM.out
  refine sV (.slice (some ⟨u126.heap.size, 0, none⟩) 1 1) (u126.alloc (.cells (b8 [0]).toArray 5)) (by kernel_rfl) (by kernel_rfl) ?_
  simp only [Act.put, List.setIfInBounds_toArray, List.set_cons_succ, List.set_cons_zero]
  have hal : Below u126.heap.size u126 (u126.alloc (.cells (b8 [0]).toArray 5)) := Below.alloc (Below.refl _ _) (Nat.le_refl _) _
  obtain ⟨i0, hi, hz0, hz1, hz2⟩ := info_parts (show (Try.prog.info? 5).map (fun i => (i.zero, i.size, i.bytes)) = some (some (.int .u8 0), 1, 1) by kernel_rfl)
  obtain ⟨v1, q1, r1, o1, f1, nn1⟩ := app_any (P := Try.prog) (u126.alloc (.cells (b8 [0]).toArray 5)) 32 32 32 5 i0 _ Try.underlying32 hi hz0 hz1 hz2 rfl (.slice ca cn cc) (.slice (some ⟨u126.heap.size, 0, none⟩) 1 1) Z [0] (ho.fr (X := fun _ => False) (Fr.of_below hal) (fun _ _ h => h)) ((BIn.new u126 5 [0] 1 1 (0, 0) (by simp) (Nat.le_refl _)).src Try.underlying32) (by have h1 := HHL.out; have h2 := HM.out; simp; omega)
  have hB1 : Below u124.heap.size u124 q1 := (hb.trans (hal.mono hb.size)).trans (f1.below (B := u124.heap.size) (by have := hb.size; simp; omega) (fun k hk hx => by have := hnw k hx; omega))
  have H127 := WirS.hide (H125.out.more hB1)
  clear H125
  obtain ⟨xa, xc, rfl⟩ : ∃ xa xc, v1 = .slice xa (cn + 1) xc := by
    obtain ⟨xa, xc, e, _⟩ := o1.bin
    rw [List.length_append, HM.out] at e
    exact ⟨xa, xc, e⟩
  have HDR := WirS.hide (HT2.out q1 xa (cn + 1) xc o1.bin (by have h1 := HHL.out; omega))
  refine sA (by kernel_rfl) 32 32 _ _ (by rfl) (.slice ca cn cc) (.slice (some ⟨u126.heap.size, 0, none⟩) 1 1) (by kernel_rfl) (by kernel_rfl) (.slice xa (cn + 1) xc) (q1) r1 ?_
  simp only [Act.put, List.setIfInBounds_toArray, List.set_cons_succ, List.set_cons_zero]
  clear ho hnw hb hal o1 f1 nn1 r1 hB1 hi hz0 hz1 hz2 HC
  refine sCx (by kernel_rfl) (by kernel_rfl) (HDR.out) ?_
  rintro e u128 ⟨ra, rn, rc, rfl, ho, hnb, hb⟩
  refine ⟨_, rfl, ?_⟩
  simp only [Act.put, List.setIfInBounds_toArray, List.set_cons_succ, List.set_cons_zero]
  have H129 := WirS.hide (bag_ownt H127.out ho hnb hb)
  clear H127
  clear ho hnb hb
  refine sV (.tuple #[.agg (ccl 0 z32 (.slice ra rn rc)).toArray, .agg #[.int .i64 4, .int .i64 (cn : Int)]]) (u128) (by kernel_rfl) (by kernel_rfl) ?_
  simp only [Act.put, List.setIfInBounds_toArray, List.set_cons_succ, List.set_cons_zero]
  refine sV (.agg (ccl 0 z32 (.slice ra rn rc)).toArray) (u128) (by kernel_rfl) (by kernel_rfl) ?_
  simp only [Act.put, List.setIfInBounds_toArray, List.set_cons_succ, List.set_cons_zero]
  refine sV (.agg #[.int .i64 4, .int .i64 (cn : Int)]) (u128) (by kernel_rfl) (by kernel_rfl) ?_
  simp only [Act.put, List.setIfInBounds_toArray, List.set_cons_succ, List.set_cons_zero]
  refine sV (.pointer (some ⟨u128.heap.size, 0, none⟩)) (u128.alloc (.cells zcm.toArray TC)) (by kernel_rfl) (by kernel_rfl) ?_
  simp only [Act.put, List.setIfInBounds_toArray, List.set_cons_succ, List.set_cons_zero]
  obtain ⟨L130, eL130⟩ : ∃ A, u128.heap.size = A := ⟨_, rfl⟩
  have hbL130 := bag_box (T := TC) (cs := zcm) (X := L130) H129.out eL130.symm (w' := u128.alloc (.cells zcm.toArray TC)) (by rw [← eL130]; exact At.new _ _ _) (Below.alloc (Below.refl _ _) (Nat.le_refl _) _)
  rw [eL130]
  clear eL130
  generalize World.alloc u128 _ = u131 at *
  have H132 := WirS.hide (hbL130)
  clear H129
  clear hbL130
  refine sV (.pointer (some ⟨u131.heap.size, 0, none⟩)) (u131.alloc (.cells (f2 0 0).toArray FT)) (by kernel_rfl) (by kernel_rfl) ?_
  simp only [Act.put, List.setIfInBounds_toArray, List.set_cons_succ, List.set_cons_zero]
  obtain ⟨L133, eL133⟩ : ∃ A, u131.heap.size = A := ⟨_, rfl⟩
  have hbL133 := bag_box (T := FT) (cs := (f2 0 0)) (X := L133) H132.out eL133.symm (w' := u131.alloc (.cells (f2 0 0).toArray FT)) (by rw [← eL133]; exact At.new _ _ _) (Below.alloc (Below.refl _ _) (Nat.le_refl _) _)
  rw [eL133]
  clear eL133
  generalize World.alloc u131 _ = u134 at *
  have H135 := WirS.hide (hbL133)
  clear H132
  clear hbL133
  have H136 := WirS.hide (H135.out.perm (show [box FT L133 (f2 0 0), box TC L130 zcm, ownt (.slice ra rn rc) [], box FT L117 (f2 6 qa), box TC L114 (ccl 0 z32 (.slice sa sn sc)), ownt (.slice sa sn sc) [], box FT L103 (f2 0 0), box TC L100 (ccl ht h (.slice pa pn pc)), ownt (.slice pa pn pc) vs, own (.slice da cn dc) Z, box FT L80 (f2 E1 E2), box TC L77 (ccl 0 z32 (.slice ma 0 mc)), ownt (.slice ma 0 mc) [], box TC X (ccl ht h (.slice a n c))].Perm [box TC L130 zcm, box FT L133 (f2 0 0), ownt (.slice ra rn rc) [], box FT L117 (f2 6 qa), box TC L114 (ccl 0 z32 (.slice sa sn sc)), ownt (.slice sa sn sc) [], box FT L103 (f2 0 0), box TC L100 (ccl ht h (.slice pa pn pc)), ownt (.slice pa pn pc) vs, own (.slice da cn dc) Z, box FT L80 (f2 E1 E2), box TC L77 (ccl 0 z32 (.slice ma 0 mc)), ownt (.slice ma 0 mc) [], box TC X (ccl ht h (.slice a n c))] from ((List.perm_middle (l₁ := [box FT L133 (f2 0 0)])).trans (.cons _ ((List.perm_middle (l₁ := [])).trans (.cons _ ((List.perm_middle (l₁ := [])).trans (.cons _ ((List.perm_middle (l₁ := [])).trans (.cons _ ((List.perm_middle (l₁ := [])).trans (.cons _ ((List.perm_middle (l₁ := [])).trans (.cons _ ((List.perm_middle (l₁ := [])).trans (.cons _ ((List.perm_middle (l₁ := [])).trans (.cons _ ((List.perm_middle (l₁ := [])).trans (.cons _ ((List.perm_middle (l₁ := [])).trans (.cons _ ((List.perm_middle (l₁ := [])).trans (.cons _ ((List.perm_middle (l₁ := [])).trans (.cons _ ((List.perm_middle (l₁ := [])).trans (.cons _ ((List.perm_middle (l₁ := [])).trans (.cons _ (.refl _)))))))))))))))))))))))))))))))
  clear H135
  refine stepStore (by rfl) _ _ _ (by rfl) L130 (ccl 0 z32 (.slice ra rn rc)) (by kernel_rfl) (by kernel_rfl) H136.out.head 34 (by kernel_rfl) (by rfl) (ccl_len _ _ _ rfl) (one_ccl _ _ _ _ _) ?_
  simp only [Act.put]
  have H138 := WirS.hide (bag_row H136.out (ccl 0 z32 (.slice ra rn rc)))
  clear H136
  generalize World.setRow u134 L130 _ = u137 at *
  have H139 := WirS.hide (H138.out.perm (show [box TC L130 (ccl 0 z32 (.slice ra rn rc)), box FT L133 (f2 0 0), ownt (.slice ra rn rc) [], box FT L117 (f2 6 qa), box TC L114 (ccl 0 z32 (.slice sa sn sc)), ownt (.slice sa sn sc) [], box FT L103 (f2 0 0), box TC L100 (ccl ht h (.slice pa pn pc)), ownt (.slice pa pn pc) vs, own (.slice da cn dc) Z, box FT L80 (f2 E1 E2), box TC L77 (ccl 0 z32 (.slice ma 0 mc)), ownt (.slice ma 0 mc) [], box TC X (ccl ht h (.slice a n c))].Perm [box FT L133 (f2 0 0), box TC L130 (ccl 0 z32 (.slice ra rn rc)), ownt (.slice ra rn rc) [], box FT L117 (f2 6 qa), box TC L114 (ccl 0 z32 (.slice sa sn sc)), ownt (.slice sa sn sc) [], box FT L103 (f2 0 0), box TC L100 (ccl ht h (.slice pa pn pc)), ownt (.slice pa pn pc) vs, own (.slice da cn dc) Z, box FT L80 (f2 E1 E2), box TC L77 (ccl 0 z32 (.slice ma 0 mc)), ownt (.slice ma 0 mc) [], box TC X (ccl ht h (.slice a n c))] from ((List.perm_middle (l₁ := [box TC L130 (ccl 0 z32 (.slice ra rn rc))])).trans (.cons _ ((List.perm_middle (l₁ := [])).trans (.cons _ ((List.perm_middle (l₁ := [])).trans (.cons _ ((List.perm_middle (l₁ := [])).trans (.cons _ ((List.perm_middle (l₁ := [])).trans (.cons _ ((List.perm_middle (l₁ := [])).trans (.cons _ ((List.perm_middle (l₁ := [])).trans (.cons _ ((List.perm_middle (l₁ := [])).trans (.cons _ ((List.perm_middle (l₁ := [])).trans (.cons _ ((List.perm_middle (l₁ := [])).trans (.cons _ ((List.perm_middle (l₁ := [])).trans (.cons _ ((List.perm_middle (l₁ := [])).trans (.cons _ ((List.perm_middle (l₁ := [])).trans (.cons _ ((List.perm_middle (l₁ := [])).trans (.cons _ (.refl _)))))))))))))))))))))))))))))))
  clear H138
  refine stepStore (by rfl) _ _ _ (by rfl) L133 (f2 4 (cn : Int)) (by kernel_rfl) (by kernel_rfl) H139.out.head 2 (by kernel_rfl) (by rfl) (by rfl) (by kernel_rfl) ?_
  simp only [Act.put]
  have H141 := WirS.hide (bag_row H139.out (f2 4 (cn : Int)))
  clear H139
  generalize World.setRow u137 L133 _ = u140 at *
  go_upto_region 14 with fail
  refine wp_region_lit ?_
  refine sV (.bool true) (u140) (by kernel_rfl) (by kernel_rfl) ?_
  simp only [Act.put, List.setIfInBounds_toArray, List.set_cons_succ, List.set_cons_zero]
  refine sV (.bool true) (u140) (by kernel_rfl) (by kernel_rfl) ?_
  simp only [Act.put, List.setIfInBounds_toArray, List.set_cons_succ, List.set_cons_zero]
  refine sV (.int .i64 0) (u140) (by kernel_rfl) (by kernel_rfl) ?_
  simp only [Act.put, List.setIfInBounds_toArray, List.set_cons_succ, List.set_cons_zero]
  refine sV (.bool true) (u140) (by kernel_rfl) (by kernel_rfl) ?_
  simp only [Act.put, List.setIfInBounds_toArray, List.set_cons_succ, List.set_cons_zero]
  refine sV (.bool true) (u140) (by kernel_rfl) (by kernel_rfl) ?_
  simp only [Act.put, List.setIfInBounds_toArray, List.set_cons_succ, List.set_cons_zero]
  refine sV (.bool true) (u140) (by kernel_rfl) (by kernel_rfl) ?_
  simp only [Act.put, List.setIfInBounds_toArray, List.set_cons_succ, List.set_cons_zero]
  refine sL (by kernel_rfl) _ _ (by rfl) _ (by kernel_rfl) (H141.out.all (box FT L103 (f2 0 0)) (by simp)).1 _ _ Try.underlying55 rfl (by kernel_rfl) rfl ?_
  simp only [Act.put, List.setIfInBounds_toArray, List.set_cons_succ, List.set_cons_zero]
  refine sV (.agg (f2 0 0).toArray) (u140) (by kernel_rfl) (by kernel_rfl) ?_
  simp only [Act.put, List.setIfInBounds_toArray, List.set_cons_succ, List.set_cons_zero]
  refine sB (by kernel_rfl) .eql 55 _ _ _ (by rfl) (.agg #[.int .i64 0, .int .i64 0]) (.agg #[.int .i64 0, .int .i64 0]) (by kernel_rfl) (by kernel_rfl) (.bool true) (WirX.fault_eq 0 0 0 0 u140) (by kernel_rfl) ?_
  simp only [Act.put, List.setIfInBounds_toArray, List.set_cons_succ, List.set_cons_zero]
  refine sV (.bool true) (u140) (by kernel_rfl) (by kernel_rfl) ?_
  simp only [Act.put, List.setIfInBounds_toArray, List.set_cons_succ, List.set_cons_zero]
  refine sV (.bool true) (u140) (by kernel_rfl) (by kernel_rfl) ?_
  simp only [Act.put, List.setIfInBounds_toArray, List.set_cons_succ, List.set_cons_zero]
  refine sL (by kernel_rfl) _ _ (by rfl) _ (by kernel_rfl) (H141.out.all (box TC L100 (ccl ht h (.slice pa pn pc))) (by simp)).1 _ _ UC rfl (by kernel_rfl) (by rw [ccl_len _ _ _ HL.out]) ?_
  simp only [Act.put, List.setIfInBounds_toArray, List.set_cons_succ, List.set_cons_zero]
  refine sL (by kernel_rfl) _ _ (by rfl) _ (by kernel_rfl) (H141.out.all (box TC X (ccl ht h (.slice a n c))) (by simp)).1 _ _ UC rfl (by kernel_rfl) (by rw [ccl_len _ _ _ HL.out]) ?_
  simp only [Act.put, List.setIfInBounds_toArray, List.set_cons_succ, List.set_cons_zero]
  obtain rfl : n = pn := by obtain ⟨xa, xc, e⟩ := (show OwnT u140 (.slice pa pn pc) vs from (H141.out.all (ownt (.slice pa pn pc) vs) (by simp)).1).len_of; cases e; exact HVL.out.symm
  refine sC (R := fun w' => Below u140.heap.size u140 w') (v := .bool true) (by kernel_rfl) (by kernel_rfl) (CmN.sc_any u140 ht h pa a n pc c vs HL.out ((show OwnT u140 (.slice pa n pc) vs from (H141.out.all (ownt (.slice pa n pc) vs) (by simp)).1).vin) (HV.out.below H141.out.low)) ?_
  rintro u142 hb
  simp only [Act.put, List.setIfInBounds_toArray, List.set_cons_succ, List.set_cons_zero]
  have H143 := WirS.hide (H141.out.more hb)
  clear H141
  clear hb
  refine sV (.bool true) (u142) (by kernel_rfl) (by kernel_rfl) ?_
  simp only [Act.put, List.setIfInBounds_toArray, List.set_cons_succ, List.set_cons_zero]
  refine sV (.bool true) (u142) (by kernel_rfl) (by kernel_rfl) ?_
  simp only [Act.put, List.setIfInBounds_toArray, List.set_cons_succ, List.set_cons_zero]
  refine sV (.pointer (some ⟨L117, 0, none⟩)) (u142) (by kernel_rfl) (by kernel_rfl) ?_
  simp only [Act.put, List.setIfInBounds_toArray, List.set_cons_succ, List.set_cons_zero]
  refine sP (by kernel_rfl) _ _ (by rfl) ⟨L117, 0, none⟩ (by kernel_rfl) (.int .i64 6) ((show At u142 L117 FT (f2 6 qa) from (H143.out.all (box FT L117 (f2 6 qa)) (by simp)).1).cell 0) (by kernel_rfl) ?_
  simp only [Act.put, List.setIfInBounds_toArray, List.set_cons_succ, List.set_cons_zero]
  refine sV (.bool true) (u142) (by kernel_rfl) (by kernel_rfl) ?_
  simp only [Act.put, List.setIfInBounds_toArray, List.set_cons_succ, List.set_cons_zero]
  refine sV (.bool true) (u142) (by kernel_rfl) (by kernel_rfl) ?_
  simp only [Act.put, List.setIfInBounds_toArray, List.set_cons_succ, List.set_cons_zero]
  refine sV (.bool true) (u142) (by kernel_rfl) (by kernel_rfl) ?_
  simp only [Act.put, List.setIfInBounds_toArray, List.set_cons_succ, List.set_cons_zero]
  refine sL (by kernel_rfl) _ _ (by rfl) _ (by kernel_rfl) (H143.out.all (box FT L133 (f2 4 (cn : Int))) (by simp)).1 _ _ Try.underlying55 rfl (by kernel_rfl) rfl ?_
  simp only [Act.put, List.setIfInBounds_toArray, List.set_cons_succ, List.set_cons_zero]
  refine sV (.slice da cn dc) (u142) (by kernel_rfl) (by kernel_rfl) ?_
  simp only [Act.put, List.setIfInBounds_toArray, List.set_cons_succ, List.set_cons_zero]
  refine sV (.int .i64 (cn : Int)) (u142) (by kernel_rfl) (by kernel_rfl) ?_
  simp only [Act.put, List.setIfInBounds_toArray, List.set_cons_succ, List.set_cons_zero]
  refine sV (.agg (f2 4 (cn : Int)).toArray) (u142) (by kernel_rfl) (by kernel_rfl) ?_
  simp only [Act.put, List.setIfInBounds_toArray, List.set_cons_succ, List.set_cons_zero]
  refine sB (by kernel_rfl) .eql 55 _ _ _ (by rfl) (.agg #[.int .i64 4, .int .i64 (cn : Int)]) (.agg #[.int .i64 4, .int .i64 (cn : Int)]) (by kernel_rfl) (by kernel_rfl) (.bool true) ((fun W => by rw [WirX.fault_eq]; simp) u142) (by kernel_rfl) ?_
  simp only [Act.put, List.setIfInBounds_toArray, List.set_cons_succ, List.set_cons_zero]
  refine sV (.bool true) (u142) (by kernel_rfl) (by kernel_rfl) ?_
  simp only [Act.put, List.setIfInBounds_toArray, List.set_cons_succ, List.set_cons_zero]
  go_wp2_with fail
  go_ret
  exact ⟨rfl, H143.out.low⟩
set_option maxRecDepth 20000 in
set_option maxHeartbeats 16000000 in
theorem back_f (w : World) (ht : Int) (h : List Int) (a : Option Addr) (n c : Nat) (vs : List Vt) (q : Int) (b : Option Addr) (bn bc : Nat) (bs : List Int) (hl : h.length = 32) (hv : VtIn w a n c vs) (hh : rng h) (hb : BIn w (.slice b bn bc) bs) (hr : rng bs) (hc : ¬ 70 < n) (hm0 : ¬ 1000 < bn) (hf : (cE bs).1 = 0) (hk : chk ht vs = 0) : Calls Try.prog 14 #[.agg (ccl ht h (.slice a n c)).toArray, .int .i64 q, .slice b bn bc] w fun e w' => e = .returned (.bool true) ∧ Below w.heap.size w w' := by
  have HVL := WirS.hide hv.len
  have HL := WirS.hide hl
  have HV := WirS.hide hv
  have HLA := WirS.hide (fun U => CmD.long_any U ht h a n c hl)
  rw [decide_eq_false hc] at HLA
  have hdb : decide ((1000 : Int) < (bn : Int)) = false := by simp; omega
  have HDB := WirS.hide hdb
  have HBI := WirS.hide hb
  have HRB := WirS.hide hr
  have HBN := WirS.hide (show bn ≤ 1000 by omega)
  have HCK := WirS.hide (fun U (hU : Below w.heap.size w U) => check_any U ht h a n c vs hl (hv.below hU))
  obtain ⟨e1, e2, e3⟩ := d_ok hf
  obtain ⟨hcz, hform⟩ := enc_dec hr hf
  have he4 := (cE_zero hf).2.2.2
  have hdok := itC_ok hr (q3 bs) (cnum bs).toNat
  change ∀ x ∈ cvs bs, x.ok at hdok
  have hdl : (chh bs).length = 32 := rH_len _ _
  obtain ⟨dt, hdt⟩ : ∃ x, cht bs = x := ⟨_, rfl⟩
  obtain ⟨dh, hdh⟩ : ∃ x, chh bs = x := ⟨_, rfl⟩
  obtain ⟨dv, hdv⟩ : ∃ x, cvs bs = x := ⟨_, rfl⟩
  rw [hdt, hdv] at hcz
  rw [hdt, hdh, hdv] at hform
  rw [hdt] at e1
  rw [hdh] at e2 hdl
  rw [hdv] at e3 hdok
  have HD0 := WirS.hide (fun (U : World) (hU : Below w.heap.size w U) => dec_at (w := U) e1 e2 e3 he4 (hb.below hU) hr (by omega))
  have HDL := WirS.hide hdl
  have HEN := WirS.hide (fun (U : World) (ma : Option Addr) (mn mc : Nat) (hU : VtIn U ma mn mc dv) => encode_ok U dt dh ma mn mc dv hdl hU hcz)
  rw [hform] at HEN
  clear e1 e2 e3 hcz hform he4 hdok hdl hdt hdh hdv
  rw [hk] at HCK
  have hok := hv.ok
  have HHL := WirS.hide (form_len hl hk hok)
  have HRG := WirS.hide (form_rng hh hk)
  have HE2 := WirS.hide (fun (U : World) (hU : Below w.heap.size w U) => encode_ok U ht h a n c vs hl (hv.below hU) hk)
  obtain ⟨w1, w2, w3, w4⟩ := dec_whole hl hk hok
  have hw0 : (cE (cform ht h vs)).1 = 0 := by rw [w1]
  obtain ⟨y1, y2, y3⟩ := d_ok hw0
  have HT1 := WirS.hide (fun (U : World) (da : Option Addr) (dn dc : Nat) (hU : BIn U (.slice da dn dc) (cform ht h vs)) (hn : dn ≤ 1099511627776) => dec_at (w := U) (y1.trans w2) (y2.trans w3) (y3.trans w4) w1 hU (form_rng hh hk) hn)
  have hpos : 0 < (cform ht h vs).length := by unfold cform chead; simp only [List.length_append, hl]; omega
  have hT3 := fun (cut : Nat) (hcut : cut < (cform ht h vs).length) => dec_cut hl hk hok hcut
  have hT2 := dec_more hl hk hok 0
  obtain ⟨Z, hZ⟩ : ∃ z, cform ht h vs = z := ⟨_, rfl⟩
  rw [hZ] at HHL HRG HE2 HT1 hpos hT3 hT2
  obtain ⟨m, hm⟩ : ∃ m, Z.length = m := ⟨_, rfl⟩
  rw [hm] at HHL hpos hT3 hT2
  have HM := WirS.hide hm
  have HPOS := WirS.hide hpos
  have h20 : (cE (Z ++ [0])).1 ≠ 0 := by rw [hT2]; show ¬ (4 : Int) = 0; decide
  obtain ⟨z1, z2, z3⟩ := d_no h20
  have HT2 := WirS.hide (fun (U : World) (da : Option Addr) (dn dc : Nat) (hU : BIn U (.slice da dn dc) (Z ++ [0])) (hn : dn ≤ 1099511627776) => dec_at (w := U) z1 z2 z3 hT2 hU (fun y hy => by rcases List.mem_append.1 hy with hy | hy; exact HRG.out y hy; simp at hy; omega) hn)
  have HT3 := WirS.hide (fun (cut : Nat) (hcut : cut < m) => show ∃ qa, ∀ (U : World) (da : Option Addr) (dn dc : Nat) (_ : BIn U (.slice da dn dc) (Z.take cut)) (_ : dn ≤ 1099511627776), Calls Try.prog 75 #[.slice da dn dc] U (DP U 0 z32 [] 6 qa) from by
    have e6 := hT3 cut hcut
    obtain ⟨g1, g2, g3⟩ := d_no (bs := Z.take cut) (by rw [e6]; decide)
    exact ⟨(cE (Z.take cut)).2, fun U da dn dc hU hn => dec_at g1 g2 g3 (by rw [← e6]) hU (fun y hy => HRG.out y (List.mem_of_mem_take hy)) hn⟩)
  clear hok w1 w2 w3 w4 hw0 y1 y2 y3 hpos hT3 hT2 hZ hm h20 z1 z2 z3
  clear hl hv hh hb hr hc hm0 hf hk hdb
  have H144 := WirS.hide (Bag.nil (Below.refl w.heap.size w))
  go_enter Try.func14, Try.ntmps14
  go_upto_region 0 with fail
  refine wp_region_lit ?_
  refine sV (.pointer (some ⟨w.heap.size, 0, none⟩)) (w.alloc (.cells (ccl ht h (.slice a n c)).toArray TC)) (by kernel_rfl) (by kernel_rfl) ?_
  simp only [Act.put, List.setIfInBounds_toArray, List.set_cons_succ, List.set_cons_zero]
  obtain ⟨X, eX⟩ : ∃ A, w.heap.size = A := ⟨_, rfl⟩
  have hbX := bag_box (T := TC) (cs := (ccl ht h (.slice a n c))) (X := X) H144.out eX.symm (w' := w.alloc (.cells (ccl ht h (.slice a n c)).toArray TC)) (by rw [← eX]; exact At.new _ _ _) (Below.alloc (Below.refl _ _) (Nat.le_refl _) _)
  rw [eX]
  clear eX
  generalize World.alloc w _ = u145 at *
  have H146 := WirS.hide (hbX)
  clear H144
  clear hbX
  go_upto_region 1 with fail
  refine wp_region_lit ?_
  refine sC (R := fun w' => Below u145.heap.size u145 w') (v := .bool true) (by kernel_rfl) (by kernel_rfl) (CmR.known_any u145) ?_
  rintro u147 hb
  simp only [Act.put, List.setIfInBounds_toArray, List.set_cons_succ, List.set_cons_zero]
  have H148 := WirS.hide (H146.out.more hb)
  clear H146
  clear hb
  go_upto_region 2 with fail
  refine wp_region_lit ?_
  refine sL (by kernel_rfl) _ _ (by rfl) _ (by kernel_rfl) (H148.out.all (box TC X (ccl ht h (.slice a n c))) (by simp)).1 _ _ UC rfl (by kernel_rfl) (by rw [ccl_len _ _ _ HL.out]) ?_
  simp only [Act.put, List.setIfInBounds_toArray, List.set_cons_succ, List.set_cons_zero]
  refine sC (R := fun w' => Below u147.heap.size u147 w') (v := .bool false) (by kernel_rfl) (by kernel_rfl) (HLA.out u147) ?_
  rintro u149 hb
  simp only [Act.put, List.setIfInBounds_toArray, List.set_cons_succ, List.set_cons_zero]
  have H150 := WirS.hide (H148.out.more hb)
  clear H148
  clear hb
  refine sV (.bool false) (u149) (by kernel_rfl) (by kernel_rfl) ?_
  simp only [Act.put, List.setIfInBounds_toArray, List.set_cons_succ, List.set_cons_zero]
  refine sV (.slice b bn bc) (u149) (by kernel_rfl) (by kernel_rfl) ?_
  simp only [Act.put, List.setIfInBounds_toArray, List.set_cons_succ, List.set_cons_zero]
  refine sV (.int .i64 (bn : Int)) (u149) (by kernel_rfl) (by kernel_rfl) ?_
  simp only [Act.put, List.setIfInBounds_toArray, List.set_cons_succ, List.set_cons_zero]
  refine sV (.bool (decide ((1000 : Int) < (bn : Int)))) (u149) (by kernel_rfl) (by kernel_rfl) ?_
  simp only [Act.put, List.setIfInBounds_toArray, List.set_cons_succ, List.set_cons_zero]
  rw [HDB.out]
  refine sV (.bool false) (u149) (by kernel_rfl) (by kernel_rfl) ?_
  simp only [Act.put, List.setIfInBounds_toArray, List.set_cons_succ, List.set_cons_zero]
  go_upto_region 4 with fail
  refine wp_region_lit ?_
  refine sV (.slice b bn bc) (u149) (by kernel_rfl) (by kernel_rfl) ?_
  simp only [Act.put, List.setIfInBounds_toArray, List.set_cons_succ, List.set_cons_zero]
  refine sCx (by kernel_rfl) (by kernel_rfl) (HD0.out u149 H150.out.low) ?_
  rintro e u151 ⟨ma, mn, mc, rfl, ho, hnb, hb⟩
  refine ⟨_, rfl, ?_⟩
  simp only [Act.put, List.setIfInBounds_toArray, List.set_cons_succ, List.set_cons_zero]
  have H152 := WirS.hide (bag_ownt H150.out ho hnb hb)
  clear H150
  clear ho hnb hb
  refine sV (.tuple #[.agg (ccl dt dh (.slice ma mn mc)).toArray, .agg #[.int .i64 0, .int .i64 0]]) (u151) (by kernel_rfl) (by kernel_rfl) ?_
  simp only [Act.put, List.setIfInBounds_toArray, List.set_cons_succ, List.set_cons_zero]
  refine sV (.agg (ccl dt dh (.slice ma mn mc)).toArray) (u151) (by kernel_rfl) (by kernel_rfl) ?_
  simp only [Act.put, List.setIfInBounds_toArray, List.set_cons_succ, List.set_cons_zero]
  refine sV (.agg #[.int .i64 0, .int .i64 0]) (u151) (by kernel_rfl) (by kernel_rfl) ?_
  simp only [Act.put, List.setIfInBounds_toArray, List.set_cons_succ, List.set_cons_zero]
  refine sV (.pointer (some ⟨u151.heap.size, 0, none⟩)) (u151.alloc (.cells zcm.toArray TC)) (by kernel_rfl) (by kernel_rfl) ?_
  simp only [Act.put, List.setIfInBounds_toArray, List.set_cons_succ, List.set_cons_zero]
  obtain ⟨L153, eL153⟩ : ∃ A, u151.heap.size = A := ⟨_, rfl⟩
  have hbL153 := bag_box (T := TC) (cs := zcm) (X := L153) H152.out eL153.symm (w' := u151.alloc (.cells zcm.toArray TC)) (by rw [← eL153]; exact At.new _ _ _) (Below.alloc (Below.refl _ _) (Nat.le_refl _) _)
  rw [eL153]
  clear eL153
  generalize World.alloc u151 _ = u154 at *
  have H155 := WirS.hide (hbL153)
  clear H152
  clear hbL153
  refine sV (.pointer (some ⟨u154.heap.size, 0, none⟩)) (u154.alloc (.cells (f2 0 0).toArray FT)) (by kernel_rfl) (by kernel_rfl) ?_
  simp only [Act.put, List.setIfInBounds_toArray, List.set_cons_succ, List.set_cons_zero]
  obtain ⟨L156, eL156⟩ : ∃ A, u154.heap.size = A := ⟨_, rfl⟩
  have hbL156 := bag_box (T := FT) (cs := (f2 0 0)) (X := L156) H155.out eL156.symm (w' := u154.alloc (.cells (f2 0 0).toArray FT)) (by rw [← eL156]; exact At.new _ _ _) (Below.alloc (Below.refl _ _) (Nat.le_refl _) _)
  rw [eL156]
  clear eL156
  generalize World.alloc u154 _ = u157 at *
  have H158 := WirS.hide (hbL156)
  clear H155
  clear hbL156
  have H159 := WirS.hide (H158.out.perm (show [box FT L156 (f2 0 0), box TC L153 zcm, ownt (.slice ma mn mc) dv, box TC X (ccl ht h (.slice a n c))].Perm [box TC L153 zcm, box FT L156 (f2 0 0), ownt (.slice ma mn mc) dv, box TC X (ccl ht h (.slice a n c))] from ((List.perm_middle (l₁ := [box FT L156 (f2 0 0)])).trans (.cons _ ((List.perm_middle (l₁ := [])).trans (.cons _ ((List.perm_middle (l₁ := [])).trans (.cons _ ((List.perm_middle (l₁ := [])).trans (.cons _ (.refl _)))))))))))
  clear H158
  refine stepStore (by rfl) _ _ _ (by rfl) L153 (ccl dt dh (.slice ma mn mc)) (by kernel_rfl) (by kernel_rfl) H159.out.head 34 (by kernel_rfl) (by rfl) (ccl_len _ _ _ HDL.out) (one_ccl _ _ _ _ _) ?_
  simp only [Act.put]
  have H161 := WirS.hide (bag_row H159.out (ccl dt dh (.slice ma mn mc)))
  clear H159
  generalize World.setRow u157 L153 _ = u160 at *
  have H162 := WirS.hide (H161.out.perm (show [box TC L153 (ccl dt dh (.slice ma mn mc)), box FT L156 (f2 0 0), ownt (.slice ma mn mc) dv, box TC X (ccl ht h (.slice a n c))].Perm [box FT L156 (f2 0 0), box TC L153 (ccl dt dh (.slice ma mn mc)), ownt (.slice ma mn mc) dv, box TC X (ccl ht h (.slice a n c))] from ((List.perm_middle (l₁ := [box TC L153 (ccl dt dh (.slice ma mn mc))])).trans (.cons _ ((List.perm_middle (l₁ := [])).trans (.cons _ ((List.perm_middle (l₁ := [])).trans (.cons _ ((List.perm_middle (l₁ := [])).trans (.cons _ (.refl _)))))))))))
  clear H161
  refine stepStore (by rfl) _ _ _ (by rfl) L156 (f2 0 0) (by kernel_rfl) (by kernel_rfl) H162.out.head 2 (by kernel_rfl) (by rfl) (by rfl) (by kernel_rfl) ?_
  simp only [Act.put]
  have H164 := WirS.hide (bag_row H162.out (f2 0 0))
  clear H162
  generalize World.setRow u160 L156 _ = u163 at *
  go_upto_region 5 with fail
  refine wp_region_lit ?_
  refine sL (by kernel_rfl) _ _ (by rfl) _ (by kernel_rfl) (H164.out.all (box TC L153 (ccl dt dh (.slice ma mn mc))) (by simp)).1 _ _ UC rfl (by kernel_rfl) (by rw [ccl_len _ _ _ HDL.out]) ?_
  simp only [Act.put, List.setIfInBounds_toArray, List.set_cons_succ, List.set_cons_zero]
  refine sCx (by kernel_rfl) (by kernel_rfl) (HEN.out u163 ma mn mc ((show OwnT u163 (.slice ma mn mc) dv from (H164.out.all (ownt (.slice ma mn mc) dv) (by simp)).1).vin)) ?_
  rintro e u165 ⟨ea, en, ec, rfl, ho, hnb, hb⟩
  refine ⟨_, rfl, ?_⟩
  simp only [Act.put, List.setIfInBounds_toArray, List.set_cons_succ, List.set_cons_zero]
  have H166 := WirS.hide (bag_own H164.out ho hnb hb)
  clear H164
  clear ho hnb hb
  refine sV (.tuple #[.slice ea en ec, .int .i64 0]) (u165) (by kernel_rfl) (by kernel_rfl) ?_
  simp only [Act.put, List.setIfInBounds_toArray, List.set_cons_succ, List.set_cons_zero]
  refine sV (.slice ea en ec) (u165) (by kernel_rfl) (by kernel_rfl) ?_
  simp only [Act.put, List.setIfInBounds_toArray, List.set_cons_succ, List.set_cons_zero]
  refine sV (.int .i64 0) (u165) (by kernel_rfl) (by kernel_rfl) ?_
  simp only [Act.put, List.setIfInBounds_toArray, List.set_cons_succ, List.set_cons_zero]
  go_upto_region 6 with fail
  refine wp_region_lit ?_
  refine sL (by kernel_rfl) _ _ (by rfl) _ (by kernel_rfl) (H166.out.all (box FT L156 (f2 0 0)) (by simp)).1 _ _ Try.underlying55 rfl (by kernel_rfl) rfl ?_
  simp only [Act.put, List.setIfInBounds_toArray, List.set_cons_succ, List.set_cons_zero]
  refine sV (.agg (f2 0 0).toArray) (u165) (by kernel_rfl) (by kernel_rfl) ?_
  simp only [Act.put, List.setIfInBounds_toArray, List.set_cons_succ, List.set_cons_zero]
  refine sB (by kernel_rfl) .eql 55 _ _ _ (by rfl) (.agg #[.int .i64 0, .int .i64 0]) (.agg #[.int .i64 0, .int .i64 0]) (by kernel_rfl) (by kernel_rfl) (.bool true) (WirX.fault_eq 0 0 0 0 u165) (by kernel_rfl) ?_
  simp only [Act.put, List.setIfInBounds_toArray, List.set_cons_succ, List.set_cons_zero]
  refine sV (.bool true) (u165) (by kernel_rfl) (by kernel_rfl) ?_
  simp only [Act.put, List.setIfInBounds_toArray, List.set_cons_succ, List.set_cons_zero]
  refine sV (.int .i64 0) (u165) (by kernel_rfl) (by kernel_rfl) ?_
  simp only [Act.put, List.setIfInBounds_toArray, List.set_cons_succ, List.set_cons_zero]
  refine sV (.bool false) (u165) (by kernel_rfl) (by kernel_rfl) ?_
  simp only [Act.put, List.setIfInBounds_toArray, List.set_cons_succ, List.set_cons_zero]
  refine sV (.bool false) (u165) (by kernel_rfl) (by kernel_rfl) ?_
  simp only [Act.put, List.setIfInBounds_toArray, List.set_cons_succ, List.set_cons_zero]
  refine sV (.slice ea en ec) (u165) (by kernel_rfl) (by kernel_rfl) ?_
  simp only [Act.put, List.setIfInBounds_toArray, List.set_cons_succ, List.set_cons_zero]
  refine sV (.slice b bn bc) (u165) (by kernel_rfl) (by kernel_rfl) ?_
  simp only [Act.put, List.setIfInBounds_toArray, List.set_cons_succ, List.set_cons_zero]
  have HSB := WirS.hide (WirU.same_any u165 ea b en ec bn bc bs bs ((show WirM.Own u165 5 (.slice ea en ec) bs from (H166.out.all (own (.slice ea en ec) bs) (by simp)).1).bin) (HBI.out.below H166.out.low) HRB.out HRB.out)
  rw [decide_eq_true rfl] at HSB
  refine sC (R := fun w' => u165 = w') (v := .bool true) (by kernel_rfl) (by kernel_rfl) (HSB.out) ?_
  rintro _ rfl
  simp only [Act.put, List.setIfInBounds_toArray, List.set_cons_succ, List.set_cons_zero]
  clear HSB
  refine sV (.bool false) (u165) (by kernel_rfl) (by kernel_rfl) ?_
  simp only [Act.put, List.setIfInBounds_toArray, List.set_cons_succ, List.set_cons_zero]
  refine sV (.bool false) (u165) (by kernel_rfl) (by kernel_rfl) ?_
  simp only [Act.put, List.setIfInBounds_toArray, List.set_cons_succ, List.set_cons_zero]
  refine sV (.bool false) (u165) (by kernel_rfl) (by kernel_rfl) ?_
  simp only [Act.put, List.setIfInBounds_toArray, List.set_cons_succ, List.set_cons_zero]
  refine sV (.bool false) (u165) (by kernel_rfl) (by kernel_rfl) ?_
  simp only [Act.put, List.setIfInBounds_toArray, List.set_cons_succ, List.set_cons_zero]
  refine sL (by kernel_rfl) _ _ (by rfl) _ (by kernel_rfl) (H166.out.all (box FT L156 (f2 0 0)) (by simp)).1 _ _ Try.underlying55 rfl (by kernel_rfl) rfl ?_
  simp only [Act.put, List.setIfInBounds_toArray, List.set_cons_succ, List.set_cons_zero]
  refine sV (.agg (f2 0 0).toArray) (u165) (by kernel_rfl) (by kernel_rfl) ?_
  simp only [Act.put, List.setIfInBounds_toArray, List.set_cons_succ, List.set_cons_zero]
  refine sB (by kernel_rfl) .neq 55 _ _ _ (by rfl) (.agg #[.int .i64 0, .int .i64 0]) (.agg #[.int .i64 0, .int .i64 0]) (by kernel_rfl) (by kernel_rfl) (.bool false) (fault_neq 0 0 0 0 u165) (by kernel_rfl) ?_
  simp only [Act.put, List.setIfInBounds_toArray, List.set_cons_succ, List.set_cons_zero]
  refine sV (.bool false) (u165) (by kernel_rfl) (by kernel_rfl) ?_
  simp only [Act.put, List.setIfInBounds_toArray, List.set_cons_succ, List.set_cons_zero]
  with_reducible refine sS (by kernel_rfl) ?_
  simp only [Act.put, List.setIfInBounds_toArray, List.set_cons_succ, List.set_cons_zero]
  with_reducible refine sS (by kernel_rfl) ?_
  simp only [Act.put, List.setIfInBounds_toArray, List.set_cons_succ, List.set_cons_zero]
  with_reducible refine sS (by kernel_rfl) ?_
  simp only [Act.put, List.setIfInBounds_toArray, List.set_cons_succ, List.set_cons_zero]
  with_reducible refine sS (by kernel_rfl) ?_
  simp only [Act.put, List.setIfInBounds_toArray, List.set_cons_succ, List.set_cons_zero]
  with_reducible refine sS (by kernel_rfl) ?_
  simp only [Act.put, List.setIfInBounds_toArray, List.set_cons_succ, List.set_cons_zero]
  with_reducible refine sS (by kernel_rfl) ?_
  simp only [Act.put, List.setIfInBounds_toArray, List.set_cons_succ, List.set_cons_zero]
  with_reducible refine sS (by kernel_rfl) ?_
  simp only [Act.put, List.setIfInBounds_toArray, List.set_cons_succ, List.set_cons_zero]
  with_reducible refine sS (by kernel_rfl) ?_
  simp only [Act.put, List.setIfInBounds_toArray, List.set_cons_succ, List.set_cons_zero]
  with_reducible refine sS (by kernel_rfl) ?_
  simp only [Act.put, List.setIfInBounds_toArray, List.set_cons_succ, List.set_cons_zero]
  with_reducible refine sS (by kernel_rfl) ?_
  simp only [Act.put, List.setIfInBounds_toArray, List.set_cons_succ, List.set_cons_zero]
  with_reducible refine sS (by kernel_rfl) ?_
  simp only [Act.put, List.setIfInBounds_toArray, List.set_cons_succ, List.set_cons_zero]
  with_reducible refine sS (by kernel_rfl) ?_
  simp only [Act.put, List.setIfInBounds_toArray, List.set_cons_succ, List.set_cons_zero]
  with_reducible refine sS (by kernel_rfl) ?_
  simp only [Act.put, List.setIfInBounds_toArray, List.set_cons_succ, List.set_cons_zero]
  with_reducible refine sS (by kernel_rfl) ?_
  simp only [Act.put, List.setIfInBounds_toArray, List.set_cons_succ, List.set_cons_zero]
  with_reducible refine sS (by kernel_rfl) ?_
  simp only [Act.put, List.setIfInBounds_toArray, List.set_cons_succ, List.set_cons_zero]
  with_reducible refine sS (by kernel_rfl) ?_
  simp only [Act.put, List.setIfInBounds_toArray, List.set_cons_succ, List.set_cons_zero]
  refine sV (.bool false) (u165) (by kernel_rfl) (by kernel_rfl) ?_
  simp only [Act.put, List.setIfInBounds_toArray, List.set_cons_succ, List.set_cons_zero]
  refine sV (.bool false) (u165) (by kernel_rfl) (by kernel_rfl) ?_
  simp only [Act.put, List.setIfInBounds_toArray, List.set_cons_succ, List.set_cons_zero]
  go_upto_region 8 with fail
  refine wp_region_lit ?_
  refine sL (by kernel_rfl) _ _ (by rfl) _ (by kernel_rfl) (H166.out.all (box TC X (ccl ht h (.slice a n c))) (by simp)).1 _ _ UC rfl (by kernel_rfl) (by rw [ccl_len _ _ _ HL.out]) ?_
  simp only [Act.put, List.setIfInBounds_toArray, List.set_cons_succ, List.set_cons_zero]
  refine sC (R := fun w' => Below u165.heap.size u165 w') (v := .int .i64 0) (by kernel_rfl) (by kernel_rfl) (HCK.out u165 H166.out.low) ?_
  rintro u167 hb
  simp only [Act.put, List.setIfInBounds_toArray, List.set_cons_succ, List.set_cons_zero]
  have H168 := WirS.hide (H166.out.more hb)
  clear H166
  clear hb
  go_upto_region 10 with fail
  refine wp_region_lit ?_
  refine sL (by kernel_rfl) _ _ (by rfl) _ (by kernel_rfl) (H168.out.all (box TC X (ccl ht h (.slice a n c))) (by simp)).1 _ _ UC rfl (by kernel_rfl) (by rw [ccl_len _ _ _ HL.out]) ?_
  simp only [Act.put, List.setIfInBounds_toArray, List.set_cons_succ, List.set_cons_zero]
  refine sCx (by kernel_rfl) (by kernel_rfl) (HE2.out u167 H168.out.low) ?_
  rintro e u169 ⟨da, dn, dc, rfl, ho, hnb, hb⟩
  refine ⟨_, rfl, ?_⟩
  simp only [Act.put, List.setIfInBounds_toArray, List.set_cons_succ, List.set_cons_zero]
  obtain ⟨rfl, hdc⟩ : dn = m ∧ m ≤ dc := by
    obtain ⟨_, _, e, hc, _⟩ := ho.bin
    rw [HM.out] at hc
    cases e
    exact ⟨HM.out, hc⟩
  have HDC := WirS.hide hdc
  clear hdc
  have H170 := WirS.hide (bag_own H168.out ho hnb hb)
  clear H168
  clear ho hnb hb
  refine sV (.tuple #[.slice da dn dc, .int .i64 0]) (u169) (by kernel_rfl) (by kernel_rfl) ?_
  simp only [Act.put, List.setIfInBounds_toArray, List.set_cons_succ, List.set_cons_zero]
  refine sV (.slice da dn dc) (u169) (by kernel_rfl) (by kernel_rfl) ?_
  simp only [Act.put, List.setIfInBounds_toArray, List.set_cons_succ, List.set_cons_zero]
  refine sV (.int .i64 0) (u169) (by kernel_rfl) (by kernel_rfl) ?_
  simp only [Act.put, List.setIfInBounds_toArray, List.set_cons_succ, List.set_cons_zero]
  go_upto_region 11 with fail
  refine wp_region_lit ?_
  refine sV (.slice da dn dc) (u169) (by kernel_rfl) (by kernel_rfl) ?_
  simp only [Act.put, List.setIfInBounds_toArray, List.set_cons_succ, List.set_cons_zero]
  refine sCx (by kernel_rfl) (by kernel_rfl) (HT1.out u169 da dn dc ((show WirM.Own u169 5 (.slice da dn dc) Z from (H170.out.all (own (.slice da dn dc) Z) (by simp)).1).bin) (by have h1 := HHL.out; omega)) ?_
  rintro e u171 ⟨pa, pn, pc, rfl, ho, hnb, hb⟩
  refine ⟨_, rfl, ?_⟩
  simp only [Act.put, List.setIfInBounds_toArray, List.set_cons_succ, List.set_cons_zero]
  have H172 := WirS.hide (bag_ownt H170.out ho hnb hb)
  clear H170
  clear ho hnb hb
  refine sV (.tuple #[.agg (ccl ht h (.slice pa pn pc)).toArray, .agg #[.int .i64 0, .int .i64 0]]) (u171) (by kernel_rfl) (by kernel_rfl) ?_
  simp only [Act.put, List.setIfInBounds_toArray, List.set_cons_succ, List.set_cons_zero]
  refine sV (.agg (ccl ht h (.slice pa pn pc)).toArray) (u171) (by kernel_rfl) (by kernel_rfl) ?_
  simp only [Act.put, List.setIfInBounds_toArray, List.set_cons_succ, List.set_cons_zero]
  refine sV (.agg #[.int .i64 0, .int .i64 0]) (u171) (by kernel_rfl) (by kernel_rfl) ?_
  simp only [Act.put, List.setIfInBounds_toArray, List.set_cons_succ, List.set_cons_zero]
  refine sV (.pointer (some ⟨u171.heap.size, 0, none⟩)) (u171.alloc (.cells zcm.toArray TC)) (by kernel_rfl) (by kernel_rfl) ?_
  simp only [Act.put, List.setIfInBounds_toArray, List.set_cons_succ, List.set_cons_zero]
  obtain ⟨L173, eL173⟩ : ∃ A, u171.heap.size = A := ⟨_, rfl⟩
  have hbL173 := bag_box (T := TC) (cs := zcm) (X := L173) H172.out eL173.symm (w' := u171.alloc (.cells zcm.toArray TC)) (by rw [← eL173]; exact At.new _ _ _) (Below.alloc (Below.refl _ _) (Nat.le_refl _) _)
  rw [eL173]
  clear eL173
  generalize World.alloc u171 _ = u174 at *
  have H175 := WirS.hide (hbL173)
  clear H172
  clear hbL173
  refine sV (.pointer (some ⟨u174.heap.size, 0, none⟩)) (u174.alloc (.cells (f2 0 0).toArray FT)) (by kernel_rfl) (by kernel_rfl) ?_
  simp only [Act.put, List.setIfInBounds_toArray, List.set_cons_succ, List.set_cons_zero]
  obtain ⟨L176, eL176⟩ : ∃ A, u174.heap.size = A := ⟨_, rfl⟩
  have hbL176 := bag_box (T := FT) (cs := (f2 0 0)) (X := L176) H175.out eL176.symm (w' := u174.alloc (.cells (f2 0 0).toArray FT)) (by rw [← eL176]; exact At.new _ _ _) (Below.alloc (Below.refl _ _) (Nat.le_refl _) _)
  rw [eL176]
  clear eL176
  generalize World.alloc u174 _ = u177 at *
  have H178 := WirS.hide (hbL176)
  clear H175
  clear hbL176
  have H179 := WirS.hide (H178.out.perm (show [box FT L176 (f2 0 0), box TC L173 zcm, ownt (.slice pa pn pc) vs, own (.slice da dn dc) Z, own (.slice ea en ec) bs, box FT L156 (f2 0 0), box TC L153 (ccl dt dh (.slice ma mn mc)), ownt (.slice ma mn mc) dv, box TC X (ccl ht h (.slice a n c))].Perm [box TC L173 zcm, box FT L176 (f2 0 0), ownt (.slice pa pn pc) vs, own (.slice da dn dc) Z, own (.slice ea en ec) bs, box FT L156 (f2 0 0), box TC L153 (ccl dt dh (.slice ma mn mc)), ownt (.slice ma mn mc) dv, box TC X (ccl ht h (.slice a n c))] from ((List.perm_middle (l₁ := [box FT L176 (f2 0 0)])).trans (.cons _ ((List.perm_middle (l₁ := [])).trans (.cons _ ((List.perm_middle (l₁ := [])).trans (.cons _ ((List.perm_middle (l₁ := [])).trans (.cons _ ((List.perm_middle (l₁ := [])).trans (.cons _ ((List.perm_middle (l₁ := [])).trans (.cons _ ((List.perm_middle (l₁ := [])).trans (.cons _ ((List.perm_middle (l₁ := [])).trans (.cons _ ((List.perm_middle (l₁ := [])).trans (.cons _ (.refl _)))))))))))))))))))))
  clear H178
  refine stepStore (by rfl) _ _ _ (by rfl) L173 (ccl ht h (.slice pa pn pc)) (by kernel_rfl) (by kernel_rfl) H179.out.head 34 (by kernel_rfl) (by rfl) (ccl_len _ _ _ HL.out) (one_ccl _ _ _ _ _) ?_
  simp only [Act.put]
  have H181 := WirS.hide (bag_row H179.out (ccl ht h (.slice pa pn pc)))
  clear H179
  generalize World.setRow u177 L173 _ = u180 at *
  have H182 := WirS.hide (H181.out.perm (show [box TC L173 (ccl ht h (.slice pa pn pc)), box FT L176 (f2 0 0), ownt (.slice pa pn pc) vs, own (.slice da dn dc) Z, own (.slice ea en ec) bs, box FT L156 (f2 0 0), box TC L153 (ccl dt dh (.slice ma mn mc)), ownt (.slice ma mn mc) dv, box TC X (ccl ht h (.slice a n c))].Perm [box FT L176 (f2 0 0), box TC L173 (ccl ht h (.slice pa pn pc)), ownt (.slice pa pn pc) vs, own (.slice da dn dc) Z, own (.slice ea en ec) bs, box FT L156 (f2 0 0), box TC L153 (ccl dt dh (.slice ma mn mc)), ownt (.slice ma mn mc) dv, box TC X (ccl ht h (.slice a n c))] from ((List.perm_middle (l₁ := [box TC L173 (ccl ht h (.slice pa pn pc))])).trans (.cons _ ((List.perm_middle (l₁ := [])).trans (.cons _ ((List.perm_middle (l₁ := [])).trans (.cons _ ((List.perm_middle (l₁ := [])).trans (.cons _ ((List.perm_middle (l₁ := [])).trans (.cons _ ((List.perm_middle (l₁ := [])).trans (.cons _ ((List.perm_middle (l₁ := [])).trans (.cons _ ((List.perm_middle (l₁ := [])).trans (.cons _ ((List.perm_middle (l₁ := [])).trans (.cons _ (.refl _)))))))))))))))))))))
  clear H181
  refine stepStore (by rfl) _ _ _ (by rfl) L176 (f2 0 0) (by kernel_rfl) (by kernel_rfl) H182.out.head 2 (by kernel_rfl) (by rfl) (by rfl) (by kernel_rfl) ?_
  simp only [Act.put]
  have H184 := WirS.hide (bag_row H182.out (f2 0 0))
  clear H182
  generalize World.setRow u180 L176 _ = u183 at *
  have hp := KitB.pick_range q (dn : Int) (by have h1 := HPOS.out; omega)
  have HPK := WirS.hide (KitB.pick_any u183 q (dn : Int) (by have h1 := HPOS.out; omega) (by have h1 := HHL.out; omega))
  generalize KitB.pick q (dn : Int) = g at HPK hp
  obtain ⟨cut, rfl⟩ := Int.eq_ofNat_of_zero_le hp.1
  have hcut : cut < dn := by omega
  obtain ⟨qa, hT3⟩ := HT3.out cut hcut
  have hbc : BIn u183 (.slice (sa da dc 0) cut (dc - 0)) (Z.take cut) := by
    have hown := ((show WirM.Own u183 5 (.slice da dn dc) Z from (H184.out.all (own (.slice da dn dc) Z) (by simp)).1).bin)
    have h := bin_sub (at' := 0) (n := cut) (bs := Z) (by rw [HM.out]; exact hown) (by rw [HM.out]; omega)
    rwa [List.drop_zero] at h
  have HDQ := WirS.hide (hT3 u183 _ _ _ hbc (by have h1 := HHL.out; omega))
  have HCUT := WirS.hide hcut
  clear hp hT3 hbc hcut
  go_upto_region 12 with fail
  refine wp_region_lit ?_
  refine sV (.slice da dn dc) (u183) (by kernel_rfl) (by kernel_rfl) ?_
  simp only [Act.put, List.setIfInBounds_toArray, List.set_cons_succ, List.set_cons_zero]
  refine sV (.int .i64 q) (u183) (by kernel_rfl) (by kernel_rfl) ?_
  simp only [Act.put, List.setIfInBounds_toArray, List.set_cons_succ, List.set_cons_zero]
  refine sV (.slice da dn dc) (u183) (by kernel_rfl) (by kernel_rfl) ?_
  simp only [Act.put, List.setIfInBounds_toArray, List.set_cons_succ, List.set_cons_zero]
  refine sV (.int .i64 (dn : Int)) (u183) (by kernel_rfl) (by kernel_rfl) ?_
  simp only [Act.put, List.setIfInBounds_toArray, List.set_cons_succ, List.set_cons_zero]
  refine sC (R := fun w' => u183 = w') (v := .int .i64 (cut : Int)) (by kernel_rfl) (by kernel_rfl) (HPK.out) ?_
  rintro _ rfl
  simp only [Act.put, List.setIfInBounds_toArray, List.set_cons_succ, List.set_cons_zero]
  refine sSh (by kernel_rfl) _ _ _ (by rfl) (.slice da dn dc) (.int .i64 (cut : Int)) (.slice (sa da dc 0) cut (dc - 0)) (by kernel_rfl) (by kernel_rfl) (slB da dn dc cut (by have h1 := HDC.out; have h2 := HCUT.out; omega) u183) ?_
  simp only [Act.put, List.setIfInBounds_toArray, List.set_cons_succ, List.set_cons_zero]
  refine sCx (by kernel_rfl) (by kernel_rfl) (HDQ.out) ?_
  rintro e u185 ⟨sa, sn, sc, rfl, ho, hnb, hb⟩
  refine ⟨_, rfl, ?_⟩
  simp only [Act.put, List.setIfInBounds_toArray, List.set_cons_succ, List.set_cons_zero]
  have H186 := WirS.hide (bag_ownt H184.out ho hnb hb)
  clear H184
  clear ho hnb hb
  refine sV (.tuple #[.agg (ccl 0 z32 (.slice sa sn sc)).toArray, .agg #[.int .i64 6, .int .i64 qa]]) (u185) (by kernel_rfl) (by kernel_rfl) ?_
  simp only [Act.put, List.setIfInBounds_toArray, List.set_cons_succ, List.set_cons_zero]
  refine sV (.agg (ccl 0 z32 (.slice sa sn sc)).toArray) (u185) (by kernel_rfl) (by kernel_rfl) ?_
  simp only [Act.put, List.setIfInBounds_toArray, List.set_cons_succ, List.set_cons_zero]
  refine sV (.agg #[.int .i64 6, .int .i64 qa]) (u185) (by kernel_rfl) (by kernel_rfl) ?_
  simp only [Act.put, List.setIfInBounds_toArray, List.set_cons_succ, List.set_cons_zero]
  refine sV (.pointer (some ⟨u185.heap.size, 0, none⟩)) (u185.alloc (.cells zcm.toArray TC)) (by kernel_rfl) (by kernel_rfl) ?_
  simp only [Act.put, List.setIfInBounds_toArray, List.set_cons_succ, List.set_cons_zero]
  obtain ⟨L187, eL187⟩ : ∃ A, u185.heap.size = A := ⟨_, rfl⟩
  have hbL187 := bag_box (T := TC) (cs := zcm) (X := L187) H186.out eL187.symm (w' := u185.alloc (.cells zcm.toArray TC)) (by rw [← eL187]; exact At.new _ _ _) (Below.alloc (Below.refl _ _) (Nat.le_refl _) _)
  rw [eL187]
  clear eL187
  generalize World.alloc u185 _ = u188 at *
  have H189 := WirS.hide (hbL187)
  clear H186
  clear hbL187
  refine sV (.pointer (some ⟨u188.heap.size, 0, none⟩)) (u188.alloc (.cells (f2 0 0).toArray FT)) (by kernel_rfl) (by kernel_rfl) ?_
  simp only [Act.put, List.setIfInBounds_toArray, List.set_cons_succ, List.set_cons_zero]
  obtain ⟨L190, eL190⟩ : ∃ A, u188.heap.size = A := ⟨_, rfl⟩
  have hbL190 := bag_box (T := FT) (cs := (f2 0 0)) (X := L190) H189.out eL190.symm (w' := u188.alloc (.cells (f2 0 0).toArray FT)) (by rw [← eL190]; exact At.new _ _ _) (Below.alloc (Below.refl _ _) (Nat.le_refl _) _)
  rw [eL190]
  clear eL190
  generalize World.alloc u188 _ = u191 at *
  have H192 := WirS.hide (hbL190)
  clear H189
  clear hbL190
  have H193 := WirS.hide (H192.out.perm (show [box FT L190 (f2 0 0), box TC L187 zcm, ownt (.slice sa sn sc) [], box FT L176 (f2 0 0), box TC L173 (ccl ht h (.slice pa pn pc)), ownt (.slice pa pn pc) vs, own (.slice da dn dc) Z, own (.slice ea en ec) bs, box FT L156 (f2 0 0), box TC L153 (ccl dt dh (.slice ma mn mc)), ownt (.slice ma mn mc) dv, box TC X (ccl ht h (.slice a n c))].Perm [box TC L187 zcm, box FT L190 (f2 0 0), ownt (.slice sa sn sc) [], box FT L176 (f2 0 0), box TC L173 (ccl ht h (.slice pa pn pc)), ownt (.slice pa pn pc) vs, own (.slice da dn dc) Z, own (.slice ea en ec) bs, box FT L156 (f2 0 0), box TC L153 (ccl dt dh (.slice ma mn mc)), ownt (.slice ma mn mc) dv, box TC X (ccl ht h (.slice a n c))] from ((List.perm_middle (l₁ := [box FT L190 (f2 0 0)])).trans (.cons _ ((List.perm_middle (l₁ := [])).trans (.cons _ ((List.perm_middle (l₁ := [])).trans (.cons _ ((List.perm_middle (l₁ := [])).trans (.cons _ ((List.perm_middle (l₁ := [])).trans (.cons _ ((List.perm_middle (l₁ := [])).trans (.cons _ ((List.perm_middle (l₁ := [])).trans (.cons _ ((List.perm_middle (l₁ := [])).trans (.cons _ ((List.perm_middle (l₁ := [])).trans (.cons _ ((List.perm_middle (l₁ := [])).trans (.cons _ ((List.perm_middle (l₁ := [])).trans (.cons _ ((List.perm_middle (l₁ := [])).trans (.cons _ (.refl _)))))))))))))))))))))))))))
  clear H192
  refine stepStore (by rfl) _ _ _ (by rfl) L187 (ccl 0 z32 (.slice sa sn sc)) (by kernel_rfl) (by kernel_rfl) H193.out.head 34 (by kernel_rfl) (by rfl) (ccl_len _ _ _ rfl) (one_ccl _ _ _ _ _) ?_
  simp only [Act.put]
  have H195 := WirS.hide (bag_row H193.out (ccl 0 z32 (.slice sa sn sc)))
  clear H193
  generalize World.setRow u191 L187 _ = u194 at *
  have H196 := WirS.hide (H195.out.perm (show [box TC L187 (ccl 0 z32 (.slice sa sn sc)), box FT L190 (f2 0 0), ownt (.slice sa sn sc) [], box FT L176 (f2 0 0), box TC L173 (ccl ht h (.slice pa pn pc)), ownt (.slice pa pn pc) vs, own (.slice da dn dc) Z, own (.slice ea en ec) bs, box FT L156 (f2 0 0), box TC L153 (ccl dt dh (.slice ma mn mc)), ownt (.slice ma mn mc) dv, box TC X (ccl ht h (.slice a n c))].Perm [box FT L190 (f2 0 0), box TC L187 (ccl 0 z32 (.slice sa sn sc)), ownt (.slice sa sn sc) [], box FT L176 (f2 0 0), box TC L173 (ccl ht h (.slice pa pn pc)), ownt (.slice pa pn pc) vs, own (.slice da dn dc) Z, own (.slice ea en ec) bs, box FT L156 (f2 0 0), box TC L153 (ccl dt dh (.slice ma mn mc)), ownt (.slice ma mn mc) dv, box TC X (ccl ht h (.slice a n c))] from ((List.perm_middle (l₁ := [box TC L187 (ccl 0 z32 (.slice sa sn sc))])).trans (.cons _ ((List.perm_middle (l₁ := [])).trans (.cons _ ((List.perm_middle (l₁ := [])).trans (.cons _ ((List.perm_middle (l₁ := [])).trans (.cons _ ((List.perm_middle (l₁ := [])).trans (.cons _ ((List.perm_middle (l₁ := [])).trans (.cons _ ((List.perm_middle (l₁ := [])).trans (.cons _ ((List.perm_middle (l₁ := [])).trans (.cons _ ((List.perm_middle (l₁ := [])).trans (.cons _ ((List.perm_middle (l₁ := [])).trans (.cons _ ((List.perm_middle (l₁ := [])).trans (.cons _ ((List.perm_middle (l₁ := [])).trans (.cons _ (.refl _)))))))))))))))))))))))))))
  clear H195
  refine stepStore (by rfl) _ _ _ (by rfl) L190 (f2 6 qa) (by kernel_rfl) (by kernel_rfl) H196.out.head 2 (by kernel_rfl) (by rfl) (by rfl) (by kernel_rfl) ?_
  simp only [Act.put]
  have H198 := WirS.hide (bag_row H196.out (f2 6 qa))
  clear H196
  generalize World.setRow u194 L190 _ = u197 at *
  go_upto_region 13 with fail
  refine wp_region_lit ?_
  have HC := WirS.hide (KitC.copy_any u197 da dn dc Z ((show WirM.Own u197 5 (.slice da dn dc) Z from (H198.out.all (own (.slice da dn dc) Z) (by simp)).1).bin) (by have h1 := HHL.out; omega))
  refine sV (.slice da dn dc) (u197) (by kernel_rfl) (by kernel_rfl) ?_
  simp only [Act.put, List.setIfInBounds_toArray, List.set_cons_succ, List.set_cons_zero]
  refine sCx (by kernel_rfl) (by kernel_rfl) HC.out ?_
  rintro e u199 ⟨ca, cn, cc, rfl, ho, hnw, hb⟩
  refine ⟨_, rfl, ?_⟩
  simp only [Act.put, List.setIfInBounds_toArray, List.set_cons_succ, List.set_cons_zero]
  obtain rfl : cn = dn := by
    obtain ⟨_, _, e, hc, _⟩ := ho.bin
    cases e
    exact HM.out
  refine sV (.slice (some ⟨u199.heap.size, 0, none⟩) 1 1) (u199.alloc (.cells (b8 [0]).toArray 5)) (by kernel_rfl) (by kernel_rfl) ?_
  simp only [Act.put, List.setIfInBounds_toArray, List.set_cons_succ, List.set_cons_zero]
  have hal : Below u199.heap.size u199 (u199.alloc (.cells (b8 [0]).toArray 5)) := Below.alloc (Below.refl _ _) (Nat.le_refl _) _
  obtain ⟨i0, hi, hz0, hz1, hz2⟩ := info_parts (show (Try.prog.info? 5).map (fun i => (i.zero, i.size, i.bytes)) = some (some (.int .u8 0), 1, 1) by kernel_rfl)
  obtain ⟨v1, q1, r1, o1, f1, nn1⟩ := app_any (P := Try.prog) (u199.alloc (.cells (b8 [0]).toArray 5)) 32 32 32 5 i0 _ Try.underlying32 hi hz0 hz1 hz2 rfl (.slice ca cn cc) (.slice (some ⟨u199.heap.size, 0, none⟩) 1 1) Z [0] (ho.fr (X := fun _ => False) (Fr.of_below hal) (fun _ _ h => h)) ((BIn.new u199 5 [0] 1 1 (0, 0) (by simp) (Nat.le_refl _)).src Try.underlying32) (by have h1 := HHL.out; have h2 := HM.out; simp; omega)
  have hB1 : Below u197.heap.size u197 q1 := (hb.trans (hal.mono hb.size)).trans (f1.below (B := u197.heap.size) (by have := hb.size; simp; omega) (fun k hk hx => by have := hnw k hx; omega))
  have H200 := WirS.hide (H198.out.more hB1)
  clear H198
  obtain ⟨xa, xc, rfl⟩ : ∃ xa xc, v1 = .slice xa (cn + 1) xc := by
    obtain ⟨xa, xc, e, _⟩ := o1.bin
    rw [List.length_append, HM.out] at e
    exact ⟨xa, xc, e⟩
  have HDR := WirS.hide (HT2.out q1 xa (cn + 1) xc o1.bin (by have h1 := HHL.out; omega))
  refine sA (by kernel_rfl) 32 32 _ _ (by rfl) (.slice ca cn cc) (.slice (some ⟨u199.heap.size, 0, none⟩) 1 1) (by kernel_rfl) (by kernel_rfl) (.slice xa (cn + 1) xc) (q1) r1 ?_
  simp only [Act.put, List.setIfInBounds_toArray, List.set_cons_succ, List.set_cons_zero]
  clear ho hnw hb hal o1 f1 nn1 r1 hB1 hi hz0 hz1 hz2 HC
  refine sCx (by kernel_rfl) (by kernel_rfl) (HDR.out) ?_
  rintro e u201 ⟨ra, rn, rc, rfl, ho, hnb, hb⟩
  refine ⟨_, rfl, ?_⟩
  simp only [Act.put, List.setIfInBounds_toArray, List.set_cons_succ, List.set_cons_zero]
  have H202 := WirS.hide (bag_ownt H200.out ho hnb hb)
  clear H200
  clear ho hnb hb
  refine sV (.tuple #[.agg (ccl 0 z32 (.slice ra rn rc)).toArray, .agg #[.int .i64 4, .int .i64 (cn : Int)]]) (u201) (by kernel_rfl) (by kernel_rfl) ?_
  simp only [Act.put, List.setIfInBounds_toArray, List.set_cons_succ, List.set_cons_zero]
  refine sV (.agg (ccl 0 z32 (.slice ra rn rc)).toArray) (u201) (by kernel_rfl) (by kernel_rfl) ?_
  simp only [Act.put, List.setIfInBounds_toArray, List.set_cons_succ, List.set_cons_zero]
  refine sV (.agg #[.int .i64 4, .int .i64 (cn : Int)]) (u201) (by kernel_rfl) (by kernel_rfl) ?_
  simp only [Act.put, List.setIfInBounds_toArray, List.set_cons_succ, List.set_cons_zero]
  refine sV (.pointer (some ⟨u201.heap.size, 0, none⟩)) (u201.alloc (.cells zcm.toArray TC)) (by kernel_rfl) (by kernel_rfl) ?_
  simp only [Act.put, List.setIfInBounds_toArray, List.set_cons_succ, List.set_cons_zero]
  obtain ⟨L203, eL203⟩ : ∃ A, u201.heap.size = A := ⟨_, rfl⟩
  have hbL203 := bag_box (T := TC) (cs := zcm) (X := L203) H202.out eL203.symm (w' := u201.alloc (.cells zcm.toArray TC)) (by rw [← eL203]; exact At.new _ _ _) (Below.alloc (Below.refl _ _) (Nat.le_refl _) _)
  rw [eL203]
  clear eL203
  generalize World.alloc u201 _ = u204 at *
  have H205 := WirS.hide (hbL203)
  clear H202
  clear hbL203
  refine sV (.pointer (some ⟨u204.heap.size, 0, none⟩)) (u204.alloc (.cells (f2 0 0).toArray FT)) (by kernel_rfl) (by kernel_rfl) ?_
  simp only [Act.put, List.setIfInBounds_toArray, List.set_cons_succ, List.set_cons_zero]
  obtain ⟨L206, eL206⟩ : ∃ A, u204.heap.size = A := ⟨_, rfl⟩
  have hbL206 := bag_box (T := FT) (cs := (f2 0 0)) (X := L206) H205.out eL206.symm (w' := u204.alloc (.cells (f2 0 0).toArray FT)) (by rw [← eL206]; exact At.new _ _ _) (Below.alloc (Below.refl _ _) (Nat.le_refl _) _)
  rw [eL206]
  clear eL206
  generalize World.alloc u204 _ = u207 at *
  have H208 := WirS.hide (hbL206)
  clear H205
  clear hbL206
  have H209 := WirS.hide (H208.out.perm (show [box FT L206 (f2 0 0), box TC L203 zcm, ownt (.slice ra rn rc) [], box FT L190 (f2 6 qa), box TC L187 (ccl 0 z32 (.slice sa sn sc)), ownt (.slice sa sn sc) [], box FT L176 (f2 0 0), box TC L173 (ccl ht h (.slice pa pn pc)), ownt (.slice pa pn pc) vs, own (.slice da cn dc) Z, own (.slice ea en ec) bs, box FT L156 (f2 0 0), box TC L153 (ccl dt dh (.slice ma mn mc)), ownt (.slice ma mn mc) dv, box TC X (ccl ht h (.slice a n c))].Perm [box TC L203 zcm, box FT L206 (f2 0 0), ownt (.slice ra rn rc) [], box FT L190 (f2 6 qa), box TC L187 (ccl 0 z32 (.slice sa sn sc)), ownt (.slice sa sn sc) [], box FT L176 (f2 0 0), box TC L173 (ccl ht h (.slice pa pn pc)), ownt (.slice pa pn pc) vs, own (.slice da cn dc) Z, own (.slice ea en ec) bs, box FT L156 (f2 0 0), box TC L153 (ccl dt dh (.slice ma mn mc)), ownt (.slice ma mn mc) dv, box TC X (ccl ht h (.slice a n c))] from ((List.perm_middle (l₁ := [box FT L206 (f2 0 0)])).trans (.cons _ ((List.perm_middle (l₁ := [])).trans (.cons _ ((List.perm_middle (l₁ := [])).trans (.cons _ ((List.perm_middle (l₁ := [])).trans (.cons _ ((List.perm_middle (l₁ := [])).trans (.cons _ ((List.perm_middle (l₁ := [])).trans (.cons _ ((List.perm_middle (l₁ := [])).trans (.cons _ ((List.perm_middle (l₁ := [])).trans (.cons _ ((List.perm_middle (l₁ := [])).trans (.cons _ ((List.perm_middle (l₁ := [])).trans (.cons _ ((List.perm_middle (l₁ := [])).trans (.cons _ ((List.perm_middle (l₁ := [])).trans (.cons _ ((List.perm_middle (l₁ := [])).trans (.cons _ ((List.perm_middle (l₁ := [])).trans (.cons _ ((List.perm_middle (l₁ := [])).trans (.cons _ (.refl _)))))))))))))))))))))))))))))))))
  clear H208
  refine stepStore (by rfl) _ _ _ (by rfl) L203 (ccl 0 z32 (.slice ra rn rc)) (by kernel_rfl) (by kernel_rfl) H209.out.head 34 (by kernel_rfl) (by rfl) (ccl_len _ _ _ rfl) (one_ccl _ _ _ _ _) ?_
  simp only [Act.put]
  have H211 := WirS.hide (bag_row H209.out (ccl 0 z32 (.slice ra rn rc)))
  clear H209
  generalize World.setRow u207 L203 _ = u210 at *
  have H212 := WirS.hide (H211.out.perm (show [box TC L203 (ccl 0 z32 (.slice ra rn rc)), box FT L206 (f2 0 0), ownt (.slice ra rn rc) [], box FT L190 (f2 6 qa), box TC L187 (ccl 0 z32 (.slice sa sn sc)), ownt (.slice sa sn sc) [], box FT L176 (f2 0 0), box TC L173 (ccl ht h (.slice pa pn pc)), ownt (.slice pa pn pc) vs, own (.slice da cn dc) Z, own (.slice ea en ec) bs, box FT L156 (f2 0 0), box TC L153 (ccl dt dh (.slice ma mn mc)), ownt (.slice ma mn mc) dv, box TC X (ccl ht h (.slice a n c))].Perm [box FT L206 (f2 0 0), box TC L203 (ccl 0 z32 (.slice ra rn rc)), ownt (.slice ra rn rc) [], box FT L190 (f2 6 qa), box TC L187 (ccl 0 z32 (.slice sa sn sc)), ownt (.slice sa sn sc) [], box FT L176 (f2 0 0), box TC L173 (ccl ht h (.slice pa pn pc)), ownt (.slice pa pn pc) vs, own (.slice da cn dc) Z, own (.slice ea en ec) bs, box FT L156 (f2 0 0), box TC L153 (ccl dt dh (.slice ma mn mc)), ownt (.slice ma mn mc) dv, box TC X (ccl ht h (.slice a n c))] from ((List.perm_middle (l₁ := [box TC L203 (ccl 0 z32 (.slice ra rn rc))])).trans (.cons _ ((List.perm_middle (l₁ := [])).trans (.cons _ ((List.perm_middle (l₁ := [])).trans (.cons _ ((List.perm_middle (l₁ := [])).trans (.cons _ ((List.perm_middle (l₁ := [])).trans (.cons _ ((List.perm_middle (l₁ := [])).trans (.cons _ ((List.perm_middle (l₁ := [])).trans (.cons _ ((List.perm_middle (l₁ := [])).trans (.cons _ ((List.perm_middle (l₁ := [])).trans (.cons _ ((List.perm_middle (l₁ := [])).trans (.cons _ ((List.perm_middle (l₁ := [])).trans (.cons _ ((List.perm_middle (l₁ := [])).trans (.cons _ ((List.perm_middle (l₁ := [])).trans (.cons _ ((List.perm_middle (l₁ := [])).trans (.cons _ ((List.perm_middle (l₁ := [])).trans (.cons _ (.refl _)))))))))))))))))))))))))))))))))
  clear H211
  refine stepStore (by rfl) _ _ _ (by rfl) L206 (f2 4 (cn : Int)) (by kernel_rfl) (by kernel_rfl) H212.out.head 2 (by kernel_rfl) (by rfl) (by rfl) (by kernel_rfl) ?_
  simp only [Act.put]
  have H214 := WirS.hide (bag_row H212.out (f2 4 (cn : Int)))
  clear H212
  generalize World.setRow u210 L206 _ = u213 at *
  go_upto_region 14 with fail
  refine wp_region_lit ?_
  refine sV (.bool true) (u213) (by kernel_rfl) (by kernel_rfl) ?_
  simp only [Act.put, List.setIfInBounds_toArray, List.set_cons_succ, List.set_cons_zero]
  refine sV (.bool true) (u213) (by kernel_rfl) (by kernel_rfl) ?_
  simp only [Act.put, List.setIfInBounds_toArray, List.set_cons_succ, List.set_cons_zero]
  refine sV (.int .i64 0) (u213) (by kernel_rfl) (by kernel_rfl) ?_
  simp only [Act.put, List.setIfInBounds_toArray, List.set_cons_succ, List.set_cons_zero]
  refine sV (.bool true) (u213) (by kernel_rfl) (by kernel_rfl) ?_
  simp only [Act.put, List.setIfInBounds_toArray, List.set_cons_succ, List.set_cons_zero]
  refine sV (.bool true) (u213) (by kernel_rfl) (by kernel_rfl) ?_
  simp only [Act.put, List.setIfInBounds_toArray, List.set_cons_succ, List.set_cons_zero]
  refine sV (.bool true) (u213) (by kernel_rfl) (by kernel_rfl) ?_
  simp only [Act.put, List.setIfInBounds_toArray, List.set_cons_succ, List.set_cons_zero]
  refine sL (by kernel_rfl) _ _ (by rfl) _ (by kernel_rfl) (H214.out.all (box FT L176 (f2 0 0)) (by simp)).1 _ _ Try.underlying55 rfl (by kernel_rfl) rfl ?_
  simp only [Act.put, List.setIfInBounds_toArray, List.set_cons_succ, List.set_cons_zero]
  refine sV (.agg (f2 0 0).toArray) (u213) (by kernel_rfl) (by kernel_rfl) ?_
  simp only [Act.put, List.setIfInBounds_toArray, List.set_cons_succ, List.set_cons_zero]
  refine sB (by kernel_rfl) .eql 55 _ _ _ (by rfl) (.agg #[.int .i64 0, .int .i64 0]) (.agg #[.int .i64 0, .int .i64 0]) (by kernel_rfl) (by kernel_rfl) (.bool true) (WirX.fault_eq 0 0 0 0 u213) (by kernel_rfl) ?_
  simp only [Act.put, List.setIfInBounds_toArray, List.set_cons_succ, List.set_cons_zero]
  refine sV (.bool true) (u213) (by kernel_rfl) (by kernel_rfl) ?_
  simp only [Act.put, List.setIfInBounds_toArray, List.set_cons_succ, List.set_cons_zero]
  refine sV (.bool true) (u213) (by kernel_rfl) (by kernel_rfl) ?_
  simp only [Act.put, List.setIfInBounds_toArray, List.set_cons_succ, List.set_cons_zero]
  refine sL (by kernel_rfl) _ _ (by rfl) _ (by kernel_rfl) (H214.out.all (box TC L173 (ccl ht h (.slice pa pn pc))) (by simp)).1 _ _ UC rfl (by kernel_rfl) (by rw [ccl_len _ _ _ HL.out]) ?_
  simp only [Act.put, List.setIfInBounds_toArray, List.set_cons_succ, List.set_cons_zero]
  refine sL (by kernel_rfl) _ _ (by rfl) _ (by kernel_rfl) (H214.out.all (box TC X (ccl ht h (.slice a n c))) (by simp)).1 _ _ UC rfl (by kernel_rfl) (by rw [ccl_len _ _ _ HL.out]) ?_
  simp only [Act.put, List.setIfInBounds_toArray, List.set_cons_succ, List.set_cons_zero]
  obtain rfl : n = pn := by obtain ⟨xa, xc, e⟩ := (show OwnT u213 (.slice pa pn pc) vs from (H214.out.all (ownt (.slice pa pn pc) vs) (by simp)).1).len_of; cases e; exact HVL.out.symm
  refine sC (R := fun w' => Below u213.heap.size u213 w') (v := .bool true) (by kernel_rfl) (by kernel_rfl) (CmN.sc_any u213 ht h pa a n pc c vs HL.out ((show OwnT u213 (.slice pa n pc) vs from (H214.out.all (ownt (.slice pa n pc) vs) (by simp)).1).vin) (HV.out.below H214.out.low)) ?_
  rintro u215 hb
  simp only [Act.put, List.setIfInBounds_toArray, List.set_cons_succ, List.set_cons_zero]
  have H216 := WirS.hide (H214.out.more hb)
  clear H214
  clear hb
  refine sV (.bool true) (u215) (by kernel_rfl) (by kernel_rfl) ?_
  simp only [Act.put, List.setIfInBounds_toArray, List.set_cons_succ, List.set_cons_zero]
  refine sV (.bool true) (u215) (by kernel_rfl) (by kernel_rfl) ?_
  simp only [Act.put, List.setIfInBounds_toArray, List.set_cons_succ, List.set_cons_zero]
  refine sV (.pointer (some ⟨L190, 0, none⟩)) (u215) (by kernel_rfl) (by kernel_rfl) ?_
  simp only [Act.put, List.setIfInBounds_toArray, List.set_cons_succ, List.set_cons_zero]
  refine sP (by kernel_rfl) _ _ (by rfl) ⟨L190, 0, none⟩ (by kernel_rfl) (.int .i64 6) ((show At u215 L190 FT (f2 6 qa) from (H216.out.all (box FT L190 (f2 6 qa)) (by simp)).1).cell 0) (by kernel_rfl) ?_
  simp only [Act.put, List.setIfInBounds_toArray, List.set_cons_succ, List.set_cons_zero]
  refine sV (.bool true) (u215) (by kernel_rfl) (by kernel_rfl) ?_
  simp only [Act.put, List.setIfInBounds_toArray, List.set_cons_succ, List.set_cons_zero]
  refine sV (.bool true) (u215) (by kernel_rfl) (by kernel_rfl) ?_
  simp only [Act.put, List.setIfInBounds_toArray, List.set_cons_succ, List.set_cons_zero]
  refine sV (.bool true) (u215) (by kernel_rfl) (by kernel_rfl) ?_
  simp only [Act.put, List.setIfInBounds_toArray, List.set_cons_succ, List.set_cons_zero]
  refine sL (by kernel_rfl) _ _ (by rfl) _ (by kernel_rfl) (H216.out.all (box FT L206 (f2 4 (cn : Int))) (by simp)).1 _ _ Try.underlying55 rfl (by kernel_rfl) rfl ?_
  simp only [Act.put, List.setIfInBounds_toArray, List.set_cons_succ, List.set_cons_zero]
  refine sV (.slice da cn dc) (u215) (by kernel_rfl) (by kernel_rfl) ?_
  simp only [Act.put, List.setIfInBounds_toArray, List.set_cons_succ, List.set_cons_zero]
  refine sV (.int .i64 (cn : Int)) (u215) (by kernel_rfl) (by kernel_rfl) ?_
  simp only [Act.put, List.setIfInBounds_toArray, List.set_cons_succ, List.set_cons_zero]
  refine sV (.agg (f2 4 (cn : Int)).toArray) (u215) (by kernel_rfl) (by kernel_rfl) ?_
  simp only [Act.put, List.setIfInBounds_toArray, List.set_cons_succ, List.set_cons_zero]
  refine sB (by kernel_rfl) .eql 55 _ _ _ (by rfl) (.agg #[.int .i64 4, .int .i64 (cn : Int)]) (.agg #[.int .i64 4, .int .i64 (cn : Int)]) (by kernel_rfl) (by kernel_rfl) (.bool true) ((fun W => by rw [WirX.fault_eq]; simp) u215) (by kernel_rfl) ?_
  simp only [Act.put, List.setIfInBounds_toArray, List.set_cons_succ, List.set_cons_zero]
  refine sV (.bool true) (u215) (by kernel_rfl) (by kernel_rfl) ?_
  simp only [Act.put, List.setIfInBounds_toArray, List.set_cons_succ, List.set_cons_zero]
  go_wp2_with fail
  go_ret
  exact ⟨rfl, H216.out.low⟩
theorem back_any (w : World) (ht : Int) (h : List Int) (a : Option Addr) (n c : Nat) (vs : List Vt) (q : Int) (b : Option Addr) (bn bc : Nat) (bs : List Int) (hl : h.length = 32) (hv : VtIn w a n c vs) (hh : rng h) (hb : BIn w (.slice b bn bc) bs) (hr : rng bs) : Calls Try.prog 14 #[.agg (ccl ht h (.slice a n c)).toArray, .int .i64 q, .slice b bn bc] w fun e w' => e = .returned (.bool true) ∧ Below w.heap.size w w' := by
  by_cases h1 : 70 < n
  · exact back_a w ht h a n c vs q b bn bc bs hl hv hh hb hr h1
  by_cases h2 : 1000 < bn
  · exact back_b w ht h a n c vs q b bn bc bs hl hv hh hb hr h1 h2
  by_cases h3 : (cE bs).1 = 0
  · by_cases h4 : chk ht vs = 0
    · exact back_f w ht h a n c vs q b bn bc bs hl hv hh hb hr h1 h2 h3 h4
    · exact back_d w ht h a n c vs q b bn bc bs hl hv hh hb hr h1 h2 h3 h4
  · by_cases h4 : chk ht vs = 0
    · exact back_e w ht h a n c vs q b bn bc bs hl hv hh hb hr h1 h2 h3 h4
    · exact back_c w ht h a n c vs q b bn bc bs hl hv hh hb hr h1 h2 h3 h4
theorem back_row (w : World) (ht : Int) (h : List Int) (a : Option Addr) (n c : Nat) (vs : List Vt) (q : Int) (b : Option Addr) (bn bc : Nat) (bs : List Int)
    (hc : h.length = 32 ∧ VtIn w a n c vs ∧ (∀ z ∈ h, 0 ≤ z ∧ z < 256) ∧ -9223372036854775808 ≤ ht ∧ ht < 9223372036854775808) (_ : -9223372036854775808 ≤ q) (_ : q ≤ 9223372036854775807) (hb : BIn w (.slice b bn bc) bs ∧ rng bs) :
    Calls Try.prog 14 #[.agg (ccl ht h (.slice a n c)).toArray, .int .i64 q, .slice b bn bc] w fun e w' => e = .returned (.bool true) ∧ Below w.heap.size w w' :=
  back_any w ht h a n c vs q b bn bc bs hc.1 hc.2.1 hc.2.2.1 hb.1 hb.2
end CmBK
end Go.Proofs.Ythcemghamdmjmaa
