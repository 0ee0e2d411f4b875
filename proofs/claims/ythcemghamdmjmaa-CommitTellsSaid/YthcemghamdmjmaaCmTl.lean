/-
  CommitTells walked.
-/
import Derived.Test.YthcemghamdmjmaaCgT
import Derived.Test.YthcemghamdmjmaaCgB
import Derived.Test.YthcemghamdmjmaaCgD
import Derived.Test.YthcemghamdmjmaaPkM
import Derived.Test.YthcemghamdmjmaaPkL
import Derived.Deep.RegionHeld3
namespace Go.Proofs.Ythcemghamdmjmaa
namespace CmTl
open Go.RowKit
open BlkM WirM WirS CmA CmP CmB CmJ CmL CmF CmH CmT CmTe
open WirE (NewB)
open WirX (Thg Bag own bag_own)
open WirAA (box bag_box)
open WirAB (sCx)
open WirRT (rng)
open ValA (Vd VIn OwnV)
open CmS (KIn OwnK whoE whoL WP who_any)

/-- A call as a step of a drawn region. -/
theorem stepCallH {P : Program} {o : Oper} {a : Act} {w : World} {K : Act → World → Prop} {Q : Exit → Act → World → Prop} {f : FuncId} {args : Array Value} {v : Value} {R : World → Prop} (hrun : (execOp a.eval o).run P w = .ok (.enter f args) w)
    (hc : Calls P f args w fun e w' => e = .returned v ∧ R w') (h : ∀ w', R w' → K (a.put o.dst v) w') : o.wp P a w K Q := by
  unfold Oper.wp
  rw [hrun, Oper.upon_enter]
  exact hc.mono (by rintro e w' ⟨rfl, hr⟩; exact h w' hr)
/-- Two values compared, as an operation. -/
theorem run_eq {P : Program} {a : Operand → Value} {o : Oper} {op : BinOp} {t t2 : TypeId} {x y : Operand} {vx vy v : Value} {w : World} (ho : o.op = .binOp op t x y t2) (hx : a x = vx) (hy : a y = vy) (hr : (binOp op t vx vy).run P w = .ok v w) (hg : (eqGuard op t x y vx vy).run P w = .ok () w) : (execOp a o).run P w = .ok (.value v) w := by
  unfold execOp
  simp only [ho, hx, hy, Sem.run_bind, hg, Result.andThen_ok, hr, Sem.run_pure]
theorem dg_rng (n : Int) : ∀ k, rng (WirRT.dg n k)
  | 0 => fun x h => by cases h
  | k + 1 => fun x h => by
    rcases List.mem_cons.1 h with rfl | h
    · omega
    · exact dg_rng n k x h
theorem numB_rng (n : Int) (h1 : n < 18446744073709551616) : rng (WirD.numB n) := fun x h => by
  rw [WirBC.numB_dg n h1] at h
  rcases List.mem_cons.1 h with rfl | h
  · have := WirD.nb_le n h1
    omega
  · exact dg_rng _ _ x h
theorem wordB_rng (n : Int) : rng (WirF.wordB n) := by rw [WirRT.wordB_dg]; exact dg_rng n 8
theorem form_rng {ht : Int} {h : List Int} {vs : List Vt} (hh : rng h) (hc : chk ht vs = 0) : rng (cform ht h vs) := by
  obtain ⟨h1, h2, h3⟩ := (chk_up ht vs).1 hc
  intro x hx
  unfold cform chead at hx
  simp only [List.mem_append] at hx
  rcases hx with ((hx | hx) | hx) | hx
  · exact numB_rng _ (by omega) x hx
  · exact hh x hx
  · exact numB_rng _ (by omega) x hx
  · unfold citems at hx
    obtain ⟨v, hv, hx⟩ := List.mem_flatMap.1 hx
    unfold citem at hx
    have := h3.rng v hv
    rcases List.mem_append.1 hx with hx | hx
    · exact numB_rng _ (by omega) x hx
    · exact wordB_rng _ x hx
theorem form_len {ht : Int} {h : List Int} {vs : List Vt} (hl : h.length = 32) (hc : chk ht vs = 0) (hok : ∀ x ∈ vs, x.ok) : (cform ht h vs).length ≤ 2000 := by
  obtain ⟨h1, h2, h3⟩ := (chk_up ht vs).1 hc
  have a := chead_len ht h vs.length hl (by omega) (by omega)
  have b := citems_len vs hok
  unfold cform
  rw [List.length_append]
  omega
/-- What Encode tells: bytes of its own and a code. -/
def EN (w : World) (zs : List Int) (cd : Int) (e : Ending) (w' : World) : Prop := ∃ va vn vc, e = .returned (.tuple #[.slice va vn vc, .int .i64 cd]) ∧ WirM.Own w' 5 (.slice va vn vc) zs ∧ NewB w (.slice va vn vc) ∧ Below w.heap.size w w'
def encZ (ht : Int) (h : List Int) (vs : List Vt) : List Int := if chk ht vs = 0 then cform ht h vs else []
theorem enc_all (w : World) (ht : Int) (h : List Int) (a : Option Addr) (n c : Nat) (vs : List Vt) (hl : h.length = 32) (hv : VtIn w a n c vs) :
    Calls Try.prog 66 #[.agg (ccl ht h (.slice a n c)).toArray] w (EN w (encZ ht h vs) (chk ht vs)) := by
  unfold encZ
  by_cases hc : chk ht vs = 0
  · rw [if_pos hc, hc]
    exact encode_ok w ht h a n c vs hl hv hc
  · rw [if_neg hc]
    exact (encode_bad w ht h a n c vs hl hv hc).mono fun e w' ⟨h1, h2⟩ => ⟨none, 0, 0, h1, WirM.Own.nil w' _, fun k hk => by simp [Value.ownBlock] at hk, h2⟩
theorem renc_all (w : World) (ht : Int) (h : List Int) (a : Option Addr) (n c : Nat) (vs : List Vt) (hl : h.length = 32) (hv : VtIn w a n c vs) :
    Calls Try.prog 67 #[.agg (ccl ht h (.slice a n c)).toArray] w (EN w (encZ ht h vs) (chk ht vs)) := by
  unfold encZ
  by_cases hc : chk ht vs = 0
  · rw [if_pos hc, hc]
    exact rencode_ok w ht h a n c vs hl hv hc
  · rw [if_neg hc]
    exact (rencode_bad w ht h a n c vs hl hv hc).mono fun e w' ⟨h1, h2⟩ => ⟨none, 0, 0, h1, WirM.Own.nil w' _, fun k hk => by simp [Value.ownBlock] at hk, h2⟩
theorem enc_rng {ht : Int} {h : List Int} {vs : List Vt} (hh : rng h) : rng (encZ ht h vs) := by
  unfold encZ
  split
  · exact form_rng hh (by assumption)
  · intro x hx; cases hx
theorem enc_len {ht : Int} {h : List Int} {vs : List Vt} (hl : h.length = 32) (hok : ∀ x ∈ vs, x.ok) : (encZ ht h vs).length ≤ 2000 := by
  unfold encZ
  split
  · exact form_len hl (by assumption) hok
  · exact Nat.zero_le _
theorem who_len {ht : Int} {vs : List Vt} {ls : List Vd} {n : Nat} (hn : vs.length = n) (h70 : n ≤ 70) : (whoL ht vs ls).length ≤ 70 := by
  unfold whoL
  split
  · rw [List.length_map]; omega
  · exact Nat.zero_le _
def ownv (v : Value) (vs : List Vd) : Thg where
  ok w := OwnV w v vs
  foot k := v.ownBlock = some k
  stable h hf hX := h.fr hf hX
  inside h k hk := h.lt k hk
def ownk (v : Value) (ks : List (List Int)) : Thg where
  ok w := OwnK w v ks
  foot k := v.ownBlock = some k
  stable h hf hX := h.fr hf hX
  inside h k hk := h.lt k hk
def gone : Thg where
  ok _ := True
  foot _ := False
  stable _ _ _ := trivial
  inside _ _ h := h.elim
theorem eqU (x : Int) (W : World) : (binOp .eql 37 (.int .u64 x) (.int .u64 x)).run Try.prog W = .ok (.bool true) W := by
  simp [binOp, go_sem]
theorem eqB (x : Bool) (W : World) : (binOp .eql 4 (.bool x) (.bool x)).run Try.prog W = .ok (.bool true) W := by
  cases x <;> kernel_rfl
theorem eqE (x : Int) (W : World) : (binOp .eql 26 (.int .i64 x) (.int .i64 x)).run Try.prog W = .ok (.bool true) W := by
  simp [binOp, go_sem]
theorem range_from {w : World} {X : Nat} {T : TypeId} {cs : List Value} (h : At w X T cs) : w.rangeAt X 0 cs := fun j v hj => by
  rw [Nat.zero_add, h.cell]
  exact hj
set_option maxRecDepth 20000 in
set_option maxHeartbeats 16000000 in
theorem tells_a (w : World) (ht : Int) (h : List Int) (a : Option Addr) (n c : Nat) (vs : List Vt) (at0 : Int) (la : Option Addr) (m d : Nat) (ls : List Vd) (hl : h.length = 32) (_hv : VtIn w a n c vs) (_hh : rng h) (_hw : VIn w la m d ls) (hc : 70 < n) : Calls Try.prog 11 #[.agg (ccl ht h (.slice a n c)).toArray, .int .i64 at0, .slice la m d] w fun e w' => e = .returned (.bool true) ∧ Below w.heap.size w w' := by
  have HL := WirS.hide hl
  have HLA := WirS.hide (fun U => CmD.long_any U ht h a n c hl)
  rw [decide_eq_true hc] at HLA
  clear hl _hv _hh _hw hc
  have H1 := WirS.hide (Bag.nil (Below.refl w.heap.size w))
  go_enter Try.func11, Try.ntmps11
  go_upto_region 0 with fail
  refine wp_region_lit ?_
  refine sV (.pointer (some ⟨w.heap.size, 0, none⟩)) (w.alloc (.cells (ccl ht h (.slice a n c)).toArray TC)) (by kernel_rfl) (by kernel_rfl) ?_
  simp only [Act.put, List.setIfInBounds_toArray, List.set_cons_succ, List.set_cons_zero]
  obtain ⟨X, eX⟩ : ∃ A, w.heap.size = A := ⟨_, rfl⟩
  have hbX := bag_box (T := TC) (cs := (ccl ht h (.slice a n c))) (X := X) H1.out eX.symm (w' := w.alloc (.cells (ccl ht h (.slice a n c)).toArray TC)) (by rw [← eX]; exact At.new _ _ _) (Below.alloc (Below.refl _ _) (Nat.le_refl _) _)
  rw [eX]
  clear eX
  generalize World.alloc w _ = u2 at *
  have H3 := WirS.hide (hbX)
  clear H1
  clear hbX
  go_upto_region 1 with fail
  refine wp_region_lit ?_
  refine sL (by kernel_rfl) _ _ (by rfl) _ (by kernel_rfl) (H3.out.all (box TC X (ccl ht h (.slice a n c))) (by simp)).1 _ _ UC rfl (by kernel_rfl) (by rw [ccl_len _ _ _ HL.out]) ?_
  simp only [Act.put, List.setIfInBounds_toArray, List.set_cons_succ, List.set_cons_zero]
  refine sC (R := fun w' => Below u2.heap.size u2 w') (v := .bool true) (by kernel_rfl) (by kernel_rfl) (HLA.out u2) ?_
  rintro u4 hb
  simp only [Act.put, List.setIfInBounds_toArray, List.set_cons_succ, List.set_cons_zero]
  have H5 := WirS.hide (H3.out.more hb)
  clear H3
  clear hb
  refine sV (.bool true) (u4) (by kernel_rfl) (by kernel_rfl) ?_
  simp only [Act.put, List.setIfInBounds_toArray, List.set_cons_succ, List.set_cons_zero]
  with_reducible refine sS (by kernel_rfl) ?_
  simp only [Act.put, List.setIfInBounds_toArray, List.set_cons_succ, List.set_cons_zero]
  with_reducible refine sS (by kernel_rfl) ?_
  simp only [Act.put, List.setIfInBounds_toArray, List.set_cons_succ, List.set_cons_zero]
  with_reducible refine sS (by kernel_rfl) ?_
  simp only [Act.put, List.setIfInBounds_toArray, List.set_cons_succ, List.set_cons_zero]
  refine sV (.bool true) (u4) (by kernel_rfl) (by kernel_rfl) ?_
  simp only [Act.put, List.setIfInBounds_toArray, List.set_cons_succ, List.set_cons_zero]
  have HAW := WirS.hide (fun U => CmQ.awake_any U)
  go_wp2_with (go_at_call 61; refine (HAW.out _).mono ?_; rintro e uz ⟨rfl, hb⟩; have HBZ := WirS.hide (H5.out.more hb); clear hb)
  go_ret
  exact ⟨rfl, HBZ.out.low⟩
set_option maxRecDepth 20000 in
set_option maxHeartbeats 16000000 in
theorem tells_b (w : World) (ht : Int) (h : List Int) (a : Option Addr) (n c : Nat) (vs : List Vt) (at0 : Int) (la : Option Addr) (m d : Nat) (ls : List Vd) (hl : h.length = 32) (_hv : VtIn w a n c vs) (_hh : rng h) (_hw : VIn w la m d ls) (hc : ¬ 70 < n) (hc2 : 80 < m) : Calls Try.prog 11 #[.agg (ccl ht h (.slice a n c)).toArray, .int .i64 at0, .slice la m d] w fun e w' => e = .returned (.bool true) ∧ Below w.heap.size w w' := by
  have HL := WirS.hide hl
  have HLA := WirS.hide (fun U => CmD.long_any U ht h a n c hl)
  rw [decide_eq_false hc] at HLA
  have HD1 := WirS.hide (show decide ((80 : Int) < (m : Int)) = true by simp; omega)
  clear hl _hv _hh _hw hc hc2
  have H6 := WirS.hide (Bag.nil (Below.refl w.heap.size w))
  go_enter Try.func11, Try.ntmps11
  go_upto_region 0 with fail
  refine wp_region_lit ?_
  refine sV (.pointer (some ⟨w.heap.size, 0, none⟩)) (w.alloc (.cells (ccl ht h (.slice a n c)).toArray TC)) (by kernel_rfl) (by kernel_rfl) ?_
  simp only [Act.put, List.setIfInBounds_toArray, List.set_cons_succ, List.set_cons_zero]
  obtain ⟨X, eX⟩ : ∃ A, w.heap.size = A := ⟨_, rfl⟩
  have hbX := bag_box (T := TC) (cs := (ccl ht h (.slice a n c))) (X := X) H6.out eX.symm (w' := w.alloc (.cells (ccl ht h (.slice a n c)).toArray TC)) (by rw [← eX]; exact At.new _ _ _) (Below.alloc (Below.refl _ _) (Nat.le_refl _) _)
  rw [eX]
  clear eX
  generalize World.alloc w _ = u7 at *
  have H8 := WirS.hide (hbX)
  clear H6
  clear hbX
  go_upto_region 1 with fail
  refine wp_region_lit ?_
  refine sL (by kernel_rfl) _ _ (by rfl) _ (by kernel_rfl) (H8.out.all (box TC X (ccl ht h (.slice a n c))) (by simp)).1 _ _ UC rfl (by kernel_rfl) (by rw [ccl_len _ _ _ HL.out]) ?_
  simp only [Act.put, List.setIfInBounds_toArray, List.set_cons_succ, List.set_cons_zero]
  refine sC (R := fun w' => Below u7.heap.size u7 w') (v := .bool false) (by kernel_rfl) (by kernel_rfl) (HLA.out u7) ?_
  rintro u9 hb
  simp only [Act.put, List.setIfInBounds_toArray, List.set_cons_succ, List.set_cons_zero]
  have H10 := WirS.hide (H8.out.more hb)
  clear H8
  clear hb
  refine sV (.bool false) (u9) (by kernel_rfl) (by kernel_rfl) ?_
  simp only [Act.put, List.setIfInBounds_toArray, List.set_cons_succ, List.set_cons_zero]
  refine sV (.slice la m d) (u9) (by kernel_rfl) (by kernel_rfl) ?_
  simp only [Act.put, List.setIfInBounds_toArray, List.set_cons_succ, List.set_cons_zero]
  refine sV (.int .i64 (m : Int)) (u9) (by kernel_rfl) (by kernel_rfl) ?_
  simp only [Act.put, List.setIfInBounds_toArray, List.set_cons_succ, List.set_cons_zero]
  refine sV (.bool (decide ((80 : Int) < (m : Int)))) (u9) (by kernel_rfl) (by kernel_rfl) ?_
  simp only [Act.put, List.setIfInBounds_toArray, List.set_cons_succ, List.set_cons_zero]
  rw [HD1.out]
  refine sV (.bool true) (u9) (by kernel_rfl) (by kernel_rfl) ?_
  simp only [Act.put, List.setIfInBounds_toArray, List.set_cons_succ, List.set_cons_zero]
  have HAW := WirS.hide (fun U => CmQ.awake_any U)
  go_wp2_with (go_at_call 61; refine (HAW.out _).mono ?_; rintro e uz ⟨rfl, hb⟩; have HBZ := WirS.hide (H10.out.more hb); clear hb)
  go_ret
  exact ⟨rfl, HBZ.out.low⟩
set_option maxRecDepth 20000 in
set_option maxHeartbeats 16000000 in
theorem tells_c (w : World) (ht : Int) (h : List Int) (a : Option Addr) (n c : Nat) (vs : List Vt) (at0 : Int) (la : Option Addr) (m d : Nat) (ls : List Vd) (hl : h.length = 32) (hv : VtIn w a n c vs) (hh : rng h) (hw : VIn w la m d ls) (hc : ¬ 70 < n) (hc2 : ¬ 80 < m) : Calls Try.prog 11 #[.agg (ccl ht h (.slice a n c)).toArray, .int .i64 at0, .slice la m d] w fun e w' => e = .returned (.bool true) ∧ Below w.heap.size w w' := by
  have HL := WirS.hide hl
  have HLA := WirS.hide (fun U => CmD.long_any U ht h a n c hl)
  rw [decide_eq_false hc] at HLA
  have HD1 := WirS.hide (show decide ((80 : Int) < (m : Int)) = false by simp; omega)
  have HCP := WirS.hide (fun U (hU : Below w.heap.size w U) => CmU.copy_any U ht h a n c vs hl (hv.below hU) (by omega))
  have HCV := WirS.hide (fun U (hU : Below w.heap.size w U) => CmSv.copyv_any U la m d ls (hw.below hU) (by omega))
  have HV := WirS.hide hv
  have HW := WirS.hide hw
  have HM := WirS.hide (show m ≤ 1000 by omega)
  have HZL := WirS.hide (enc_len (ht := ht) hl hv.ok)
  have HZR := WirS.hide (enc_rng (ht := ht) (vs := vs) hh)
  have HKL := WirS.hide (who_len (ht := ht) (ls := ls) hv.len (by omega))
  have HO1 := WirS.hide (fun (U : World) (xa : Option Addr) (xc : Nat) (hU : VtIn U xa n xc vs) => of_any U ht h xa n xc vs at0 hl hU)
  have HO2 := WirS.hide (fun (U : World) (hU : Below w.heap.size w U) => rof_any U ht h a n c vs at0 hl (hv.below hU))
  have HE1 := WirS.hide (fun (U : World) (xa : Option Addr) (xc : Nat) (hU : VtIn U xa n xc vs) => enc_all U ht h xa n xc vs hl hU)
  have HE2 := WirS.hide (fun (U : World) (hU : Below w.heap.size w U) => renc_all U ht h a n c vs hl (hv.below hU))
  have HW1 := WirS.hide (fun (U : World) (xa : Option Addr) (xc : Nat) (ya : Option Addr) (yc : Nat) (hU : VtIn U xa n xc vs) (hU2 : VIn U ya m yc ls) => who_any U ht h xa ya n xc m yc vs ls hl hU hU2 (by omega))
  have HW2 := WirS.hide (fun (U : World) (hU : Below w.heap.size w U) => rwho_any U ht h a la n c m d vs ls hl (hv.below hU) (hw.below hU) (by omega))
  have HC1 := WirS.hide (fun (U : World) (xa : Option Addr) (xc : Nat) (hU : VtIn U xa n xc vs) => check_any U ht h xa n xc vs hl hU)
  have HC2 := WirS.hide (fun (U : World) (hU : Below w.heap.size w U) => rcheck_any U ht h a n c vs hl (hv.below hU))
  generalize encZ ht h vs = Z at *
  generalize whoL ht vs ls = KS at *
  generalize whoE ht vs m = WC at *
  generalize chk ht vs = EC at *
  generalize ofS at0 vs = OS at *
  generalize (ofV at0 vs).isSome = OB at *
  clear hl hv hh hw hc hc2
  have H11 := WirS.hide (Bag.nil (Below.refl w.heap.size w))
  go_enter Try.func11, Try.ntmps11
  go_upto_region 0 with fail
  refine wp_region_lit ?_
  refine sV (.pointer (some ⟨w.heap.size, 0, none⟩)) (w.alloc (.cells (ccl ht h (.slice a n c)).toArray TC)) (by kernel_rfl) (by kernel_rfl) ?_
  simp only [Act.put, List.setIfInBounds_toArray, List.set_cons_succ, List.set_cons_zero]
  obtain ⟨X, eX⟩ : ∃ A, w.heap.size = A := ⟨_, rfl⟩
  have hbX := bag_box (T := TC) (cs := (ccl ht h (.slice a n c))) (X := X) H11.out eX.symm (w' := w.alloc (.cells (ccl ht h (.slice a n c)).toArray TC)) (by rw [← eX]; exact At.new _ _ _) (Below.alloc (Below.refl _ _) (Nat.le_refl _) _)
  rw [eX]
  clear eX
  generalize World.alloc w _ = u12 at *
  have H13 := WirS.hide (hbX)
  clear H11
  clear hbX
  go_upto_region 1 with fail
  refine wp_region_lit ?_
  refine sL (by kernel_rfl) _ _ (by rfl) _ (by kernel_rfl) (H13.out.all (box TC X (ccl ht h (.slice a n c))) (by simp)).1 _ _ UC rfl (by kernel_rfl) (by rw [ccl_len _ _ _ HL.out]) ?_
  simp only [Act.put, List.setIfInBounds_toArray, List.set_cons_succ, List.set_cons_zero]
  refine sC (R := fun w' => Below u12.heap.size u12 w') (v := .bool false) (by kernel_rfl) (by kernel_rfl) (HLA.out u12) ?_
  rintro u14 hb
  simp only [Act.put, List.setIfInBounds_toArray, List.set_cons_succ, List.set_cons_zero]
  have H15 := WirS.hide (H13.out.more hb)
  clear H13
  clear hb
  refine sV (.bool false) (u14) (by kernel_rfl) (by kernel_rfl) ?_
  simp only [Act.put, List.setIfInBounds_toArray, List.set_cons_succ, List.set_cons_zero]
  refine sV (.slice la m d) (u14) (by kernel_rfl) (by kernel_rfl) ?_
  simp only [Act.put, List.setIfInBounds_toArray, List.set_cons_succ, List.set_cons_zero]
  refine sV (.int .i64 (m : Int)) (u14) (by kernel_rfl) (by kernel_rfl) ?_
  simp only [Act.put, List.setIfInBounds_toArray, List.set_cons_succ, List.set_cons_zero]
  refine sV (.bool (decide ((80 : Int) < (m : Int)))) (u14) (by kernel_rfl) (by kernel_rfl) ?_
  simp only [Act.put, List.setIfInBounds_toArray, List.set_cons_succ, List.set_cons_zero]
  rw [HD1.out]
  refine sV (.bool false) (u14) (by kernel_rfl) (by kernel_rfl) ?_
  simp only [Act.put, List.setIfInBounds_toArray, List.set_cons_succ, List.set_cons_zero]
  go_upto_region 3 with fail
  refine wp_region_lit ?_
  refine sL (by kernel_rfl) _ _ (by rfl) _ (by kernel_rfl) (H15.out.all (box TC X (ccl ht h (.slice a n c))) (by simp)).1 _ _ UC rfl (by kernel_rfl) (by rw [ccl_len _ _ _ HL.out]) ?_
  simp only [Act.put, List.setIfInBounds_toArray, List.set_cons_succ, List.set_cons_zero]
  refine sCx (by kernel_rfl) (by kernel_rfl) (HCP.out u14 H15.out.low) ?_
  rintro e u16 ⟨ca, cc, rfl, ho, hnb, hb⟩
  refine ⟨_, rfl, ?_⟩
  simp only [Act.put, List.setIfInBounds_toArray, List.set_cons_succ, List.set_cons_zero]
  have H17 := WirS.hide (bag_ownt H15.out ho hnb hb)
  clear H15
  clear ho hnb hb
  refine sV (.slice la m d) (u16) (by kernel_rfl) (by kernel_rfl) ?_
  simp only [Act.put, List.setIfInBounds_toArray, List.set_cons_succ, List.set_cons_zero]
  refine sCx (by kernel_rfl) (by kernel_rfl) (HCV.out u16 H17.out.low) ?_
  rintro e u18 ⟨va, vc, rfl, ho, hnb, hb⟩
  refine ⟨_, rfl, ?_⟩
  simp only [Act.put, List.setIfInBounds_toArray, List.set_cons_succ, List.set_cons_zero]
  have H19 := WirS.hide (Bag.new (o := ownv (.slice va m vc) ls) H17.out hb ho hnb)
  clear H17
  clear ho hnb hb
  refine sV (.pointer (some ⟨u18.heap.size, 0, none⟩)) (u18.alloc (.cells zcm.toArray TC)) (by kernel_rfl) (by kernel_rfl) ?_
  simp only [Act.put, List.setIfInBounds_toArray, List.set_cons_succ, List.set_cons_zero]
  obtain ⟨Y, eY⟩ : ∃ A, u18.heap.size = A := ⟨_, rfl⟩
  have hbY := bag_box (T := TC) (cs := zcm) (X := Y) H19.out eY.symm (w' := u18.alloc (.cells zcm.toArray TC)) (by rw [← eY]; exact At.new _ _ _) (Below.alloc (Below.refl _ _) (Nat.le_refl _) _)
  rw [eY]
  clear eY
  generalize World.alloc u18 _ = u20 at *
  have H21 := WirS.hide (hbY)
  clear H19
  clear hbY
  refine stepStore (by rfl) _ _ _ (by rfl) Y (ccl ht h (.slice ca n cc)) (by kernel_rfl) (by kernel_rfl) H21.out.head 34 (by kernel_rfl) (by rfl) (ccl_len _ _ _ HL.out) (one_ccl _ _ _ _ _) ?_
  simp only [Act.put]
  have H23 := WirS.hide (bag_row H21.out (ccl ht h (.slice ca n cc)))
  clear H21
  generalize World.setRow u20 Y _ = u22 at *
  go_upto_region 4 with fail
  refine wp_region_lit ?_
  refine sL (by kernel_rfl) _ _ (by rfl) _ (by kernel_rfl) (H23.out.all (box TC Y (ccl ht h (.slice ca n cc))) (by simp)).1 _ _ UC rfl (by kernel_rfl) (by rw [ccl_len _ _ _ HL.out]) ?_
  simp only [Act.put, List.setIfInBounds_toArray, List.set_cons_succ, List.set_cons_zero]
  refine sV (.int .i64 at0) (u22) (by kernel_rfl) (by kernel_rfl) ?_
  simp only [Act.put, List.setIfInBounds_toArray, List.set_cons_succ, List.set_cons_zero]
  refine sC (R := fun w' => Below u22.heap.size u22 w') (v := .tuple #[.int .u64 OS, .bool OB]) (by kernel_rfl) (by kernel_rfl) (HO1.out u22 ca cc ((show OwnT u22 (.slice ca n cc) vs from (H23.out.all (ownt (.slice ca n cc) vs) (by simp)).1).vin)) ?_
  rintro u24 hb
  simp only [Act.put, List.setIfInBounds_toArray, List.set_cons_succ, List.set_cons_zero]
  have H25 := WirS.hide (H23.out.more hb)
  clear H23
  clear hb
  refine sV (.tuple #[.int .u64 OS, .bool OB]) (u24) (by kernel_rfl) (by kernel_rfl) ?_
  simp only [Act.put, List.setIfInBounds_toArray, List.set_cons_succ, List.set_cons_zero]
  refine sV (.int .u64 OS) (u24) (by kernel_rfl) (by kernel_rfl) ?_
  simp only [Act.put, List.setIfInBounds_toArray, List.set_cons_succ, List.set_cons_zero]
  refine sV (.bool OB) (u24) (by kernel_rfl) (by kernel_rfl) ?_
  simp only [Act.put, List.setIfInBounds_toArray, List.set_cons_succ, List.set_cons_zero]
  go_upto_region 5 with fail
  refine wp_region_lit ?_
  refine sL (by kernel_rfl) _ _ (by rfl) _ (by kernel_rfl) (H25.out.all (box TC X (ccl ht h (.slice a n c))) (by simp)).1 _ _ UC rfl (by kernel_rfl) (by rw [ccl_len _ _ _ HL.out]) ?_
  simp only [Act.put, List.setIfInBounds_toArray, List.set_cons_succ, List.set_cons_zero]
  refine sV (.int .i64 at0) (u24) (by kernel_rfl) (by kernel_rfl) ?_
  simp only [Act.put, List.setIfInBounds_toArray, List.set_cons_succ, List.set_cons_zero]
  refine sC (R := fun w' => Below u24.heap.size u24 w') (v := .tuple #[.int .u64 OS, .bool OB]) (by kernel_rfl) (by kernel_rfl) (HO2.out u24 H25.out.low) ?_
  rintro u26 hb
  simp only [Act.put, List.setIfInBounds_toArray, List.set_cons_succ, List.set_cons_zero]
  have H27 := WirS.hide (H25.out.more hb)
  clear H25
  clear hb
  refine sV (.tuple #[.int .u64 OS, .bool OB]) (u26) (by kernel_rfl) (by kernel_rfl) ?_
  simp only [Act.put, List.setIfInBounds_toArray, List.set_cons_succ, List.set_cons_zero]
  refine sV (.int .u64 OS) (u26) (by kernel_rfl) (by kernel_rfl) ?_
  simp only [Act.put, List.setIfInBounds_toArray, List.set_cons_succ, List.set_cons_zero]
  refine sV (.bool OB) (u26) (by kernel_rfl) (by kernel_rfl) ?_
  simp only [Act.put, List.setIfInBounds_toArray, List.set_cons_succ, List.set_cons_zero]
  go_upto_region 6 with fail
  refine wp_region_lit ?_
  refine sL (by kernel_rfl) _ _ (by rfl) _ (by kernel_rfl) (H27.out.all (box TC Y (ccl ht h (.slice ca n cc))) (by simp)).1 _ _ UC rfl (by kernel_rfl) (by rw [ccl_len _ _ _ HL.out]) ?_
  simp only [Act.put, List.setIfInBounds_toArray, List.set_cons_succ, List.set_cons_zero]
  refine sCx (by kernel_rfl) (by kernel_rfl) (HE1.out u26 ca cc ((show OwnT u26 (.slice ca n cc) vs from (H27.out.all (ownt (.slice ca n cc) vs) (by simp)).1).vin)) ?_
  rintro e u28 ⟨ba, bn, bc, rfl, ho, hnb, hb⟩
  refine ⟨_, rfl, ?_⟩
  simp only [Act.put, List.setIfInBounds_toArray, List.set_cons_succ, List.set_cons_zero]
  have H29 := WirS.hide (bag_own H27.out ho hnb hb)
  clear H27
  clear ho hnb hb
  refine sV (.tuple #[.slice ba bn bc, .int .i64 EC]) (u28) (by kernel_rfl) (by kernel_rfl) ?_
  simp only [Act.put, List.setIfInBounds_toArray, List.set_cons_succ, List.set_cons_zero]
  refine sV (.slice ba bn bc) (u28) (by kernel_rfl) (by kernel_rfl) ?_
  simp only [Act.put, List.setIfInBounds_toArray, List.set_cons_succ, List.set_cons_zero]
  refine sV (.int .i64 EC) (u28) (by kernel_rfl) (by kernel_rfl) ?_
  simp only [Act.put, List.setIfInBounds_toArray, List.set_cons_succ, List.set_cons_zero]
  go_upto_region 7 with fail
  refine wp_region_lit ?_
  refine sL (by kernel_rfl) _ _ (by rfl) _ (by kernel_rfl) (H29.out.all (box TC X (ccl ht h (.slice a n c))) (by simp)).1 _ _ UC rfl (by kernel_rfl) (by rw [ccl_len _ _ _ HL.out]) ?_
  simp only [Act.put, List.setIfInBounds_toArray, List.set_cons_succ, List.set_cons_zero]
  refine sCx (by kernel_rfl) (by kernel_rfl) (HE2.out u28 H29.out.low) ?_
  rintro e u30 ⟨ea, en, ec, rfl, ho, hnb, hb⟩
  refine ⟨_, rfl, ?_⟩
  simp only [Act.put, List.setIfInBounds_toArray, List.set_cons_succ, List.set_cons_zero]
  have H31 := WirS.hide (bag_own H29.out ho hnb hb)
  clear H29
  clear ho hnb hb
  refine sV (.tuple #[.slice ea en ec, .int .i64 EC]) (u30) (by kernel_rfl) (by kernel_rfl) ?_
  simp only [Act.put, List.setIfInBounds_toArray, List.set_cons_succ, List.set_cons_zero]
  refine sV (.slice ea en ec) (u30) (by kernel_rfl) (by kernel_rfl) ?_
  simp only [Act.put, List.setIfInBounds_toArray, List.set_cons_succ, List.set_cons_zero]
  refine sV (.int .i64 EC) (u30) (by kernel_rfl) (by kernel_rfl) ?_
  simp only [Act.put, List.setIfInBounds_toArray, List.set_cons_succ, List.set_cons_zero]
  go_upto_region 8 with fail
  refine wp_region_lit ?_
  refine sL (by kernel_rfl) _ _ (by rfl) _ (by kernel_rfl) (H31.out.all (box TC Y (ccl ht h (.slice ca n cc))) (by simp)).1 _ _ UC rfl (by kernel_rfl) (by rw [ccl_len _ _ _ HL.out]) ?_
  simp only [Act.put, List.setIfInBounds_toArray, List.set_cons_succ, List.set_cons_zero]
  refine sV (.slice va m vc) (u30) (by kernel_rfl) (by kernel_rfl) ?_
  simp only [Act.put, List.setIfInBounds_toArray, List.set_cons_succ, List.set_cons_zero]
  refine sCx (by kernel_rfl) (by kernel_rfl) (HW1.out u30 ca cc va vc ((show OwnT u30 (.slice ca n cc) vs from (H31.out.all (ownt (.slice ca n cc) vs) (by simp)).1).vin) ((show OwnV u30 (.slice va m vc) ls from (H31.out.all (ownv (.slice va m vc) ls) (by simp)).1).vin)) ?_
  rintro e u32 ⟨ka, kn, kc, rfl, ho, hnb, hb⟩
  refine ⟨_, rfl, ?_⟩
  simp only [Act.put, List.setIfInBounds_toArray, List.set_cons_succ, List.set_cons_zero]
  have H33 := WirS.hide (Bag.new (o := ownk (.slice ka kn kc) KS) H31.out hb ho hnb)
  clear H31
  clear ho hnb hb
  refine sV (.tuple #[.slice ka kn kc, .int .i64 WC]) (u32) (by kernel_rfl) (by kernel_rfl) ?_
  simp only [Act.put, List.setIfInBounds_toArray, List.set_cons_succ, List.set_cons_zero]
  refine sV (.slice ka kn kc) (u32) (by kernel_rfl) (by kernel_rfl) ?_
  simp only [Act.put, List.setIfInBounds_toArray, List.set_cons_succ, List.set_cons_zero]
  refine sV (.int .i64 WC) (u32) (by kernel_rfl) (by kernel_rfl) ?_
  simp only [Act.put, List.setIfInBounds_toArray, List.set_cons_succ, List.set_cons_zero]
  go_upto_region 9 with fail
  refine wp_region_lit ?_
  refine sL (by kernel_rfl) _ _ (by rfl) _ (by kernel_rfl) (H33.out.all (box TC X (ccl ht h (.slice a n c))) (by simp)).1 _ _ UC rfl (by kernel_rfl) (by rw [ccl_len _ _ _ HL.out]) ?_
  simp only [Act.put, List.setIfInBounds_toArray, List.set_cons_succ, List.set_cons_zero]
  refine sV (.slice la m d) (u32) (by kernel_rfl) (by kernel_rfl) ?_
  simp only [Act.put, List.setIfInBounds_toArray, List.set_cons_succ, List.set_cons_zero]
  refine sCx (by kernel_rfl) (by kernel_rfl) (HW2.out u32 H33.out.low) ?_
  rintro e u34 ⟨qa, qn, qc, rfl, ho, hnb, hb⟩
  refine ⟨_, rfl, ?_⟩
  simp only [Act.put, List.setIfInBounds_toArray, List.set_cons_succ, List.set_cons_zero]
  have H35 := WirS.hide (Bag.new (o := ownk (.slice qa qn qc) KS) H33.out hb ho hnb)
  clear H33
  clear ho hnb hb
  refine sV (.tuple #[.slice qa qn qc, .int .i64 WC]) (u34) (by kernel_rfl) (by kernel_rfl) ?_
  simp only [Act.put, List.setIfInBounds_toArray, List.set_cons_succ, List.set_cons_zero]
  refine sV (.slice qa qn qc) (u34) (by kernel_rfl) (by kernel_rfl) ?_
  simp only [Act.put, List.setIfInBounds_toArray, List.set_cons_succ, List.set_cons_zero]
  refine sV (.int .i64 WC) (u34) (by kernel_rfl) (by kernel_rfl) ?_
  simp only [Act.put, List.setIfInBounds_toArray, List.set_cons_succ, List.set_cons_zero]
  have hkn : KS.length = kn := by obtain ⟨q1, q2, e⟩ := (show OwnK u34 (.slice ka kn kc) KS from (H35.out.all (ownk (.slice ka kn kc) KS) (by simp)).1).len_of; cases e; rfl
  have hqn : qn = kn := by obtain ⟨q1, q2, e⟩ := (show OwnK u34 (.slice qa qn qc) KS from (H35.out.all (ownk (.slice qa qn qc) KS) (by simp)).1).len_of; cases e; exact hkn
  have hbn : Z.length = bn := by obtain ⟨_, _, e, _⟩ := (show WirM.Own u34 5 (.slice ba bn bc) Z from (H35.out.all (own (.slice ba bn bc) Z) (by simp)).1).bin; cases e; rfl
  have HKN := WirS.hide hkn
  have HBN := WirS.hide hbn
  subst hqn
  clear hkn hbn
  go_upto_region 10 with fail
  have HZ36 : Hid (Bag w u34.drew [ownk (.slice qa qn qc) KS, ownk (.slice ka qn kc) KS, own (.slice ea en ec) Z, own (.slice ba bn bc) Z, box TC Y (ccl ht h (.slice ca n cc)), ownv (.slice va m vc) ls, ownt (.slice ca n cc) vs, box TC X (ccl ht h (.slice a n c))]) := WirS.hide (H35.out.more (below_drewN (Below.refl _ _) 1))
  clear H35
  have HK1 := WirS.hide (fun (U : World) (hU : Bag w U [ownk (.slice qa qn qc) KS, ownk (.slice ka qn kc) KS, own (.slice ea en ec) Z, own (.slice ba bn bc) Z, box TC Y (ccl ht h (.slice ca n cc)), ownv (.slice va m vc) ls, ownt (.slice ca n cc) vs, box TC X (ccl ht h (.slice a n c))]) => show Calls Try.prog 29 #[.slice ba bn bc, .slice ea en ec] U (fun e w' => e = .returned (.bool true) ∧ Bag w w' [ownk (.slice qa qn qc) KS, ownk (.slice ka qn kc) KS, own (.slice ea en ec) Z, own (.slice ba bn bc) Z, box TC Y (ccl ht h (.slice ca n cc)), ownv (.slice va m vc) ls, ownt (.slice ca n cc) vs, box TC X (ccl ht h (.slice a n c))]) from by
    have C := WirU.same_any U ba ea bn bc en ec Z Z ((show WirM.Own U 5 (.slice ba bn bc) Z from (hU.all (own (.slice ba bn bc) Z) (by simp)).1).bin) ((show WirM.Own U 5 (.slice ea en ec) Z from (hU.all (own (.slice ea en ec) Z) (by simp)).1).bin) HZR.out HZR.out
    rw [decide_eq_true rfl] at C
    exact C.mono fun e w' ⟨h1, h2⟩ => ⟨h1, by rw [← h2]; exact hU⟩)
  have HK2 := WirS.hide (fun (U : World) (hU : Bag w U [ownk (.slice qa qn qc) KS, ownk (.slice ka qn kc) KS, own (.slice ea en ec) Z, own (.slice ba bn bc) Z, box TC Y (ccl ht h (.slice ca n cc)), ownv (.slice va m vc) ls, ownt (.slice ca n cc) vs, box TC X (ccl ht h (.slice a n c))]) => show Calls Try.prog 70 #[.slice ka qn kc, .slice qa qn qc] U (fun e w' => e = .returned (.bool true) ∧ Bag w w' [ownk (.slice qa qn qc) KS, ownk (.slice ka qn kc) KS, own (.slice ea en ec) Z, own (.slice ba bn bc) Z, box TC Y (ccl ht h (.slice ca n cc)), ownv (.slice va m vc) ls, ownt (.slice ca n cc) vs, box TC X (ccl ht h (.slice a n c))]) from (CmS.sk_any U ka qa qn kc qc KS ((show OwnK U (.slice ka qn kc) KS from (hU.all (ownk (.slice ka qn kc) KS) (by simp)).1).kin) ((show OwnK U (.slice qa qn qc) KS from (hU.all (ownk (.slice qa qn qc) KS) (by simp)).1).kin)).mono fun e w' ⟨h1, h2⟩ => ⟨h1, hU.more h2⟩)
  have HK3 := WirS.hide (fun (U : World) (hU : Bag w U [ownk (.slice qa qn qc) KS, ownk (.slice ka qn kc) KS, own (.slice ea en ec) Z, own (.slice ba bn bc) Z, box TC Y (ccl ht h (.slice ca n cc)), ownv (.slice va m vc) ls, ownt (.slice ca n cc) vs, box TC X (ccl ht h (.slice a n c))]) => show Calls Try.prog 71 #[.agg (ccl ht h (.slice ca n cc)).toArray] U (fun e w' => e = .returned (.int .i64 EC) ∧ Bag w w' [ownk (.slice qa qn qc) KS, ownk (.slice ka qn kc) KS, own (.slice ea en ec) Z, own (.slice ba bn bc) Z, box TC Y (ccl ht h (.slice ca n cc)), ownv (.slice va m vc) ls, ownt (.slice ca n cc) vs, box TC X (ccl ht h (.slice a n c))]) from (HC1.out U ca cc ((show OwnT U (.slice ca n cc) vs from (hU.all (ownt (.slice ca n cc) vs) (by simp)).1).vin)).mono fun e w' ⟨h1, h2⟩ => ⟨h1, hU.more h2⟩)
  have HK4 := WirS.hide (fun (U : World) (hU : Bag w U [ownk (.slice qa qn qc) KS, ownk (.slice ka qn kc) KS, own (.slice ea en ec) Z, own (.slice ba bn bc) Z, box TC Y (ccl ht h (.slice ca n cc)), ownv (.slice va m vc) ls, ownt (.slice ca n cc) vs, box TC X (ccl ht h (.slice a n c))]) => show Calls Try.prog 72 #[.agg (ccl ht h (.slice a n c)).toArray] U (fun e w' => e = .returned (.int .i64 EC) ∧ Bag w w' [ownk (.slice qa qn qc) KS, ownk (.slice ka qn kc) KS, own (.slice ea en ec) Z, own (.slice ba bn bc) Z, box TC Y (ccl ht h (.slice ca n cc)), ownv (.slice va m vc) ls, ownt (.slice ca n cc) vs, box TC X (ccl ht h (.slice a n c))]) from (HC2.out U hU.low).mono fun e w' ⟨h1, h2⟩ => ⟨h1, hU.more h2⟩)
  refine wp_region_noPanic ?_
  refine wp_region_held_drew (S := (fun U : World => U.rangeAt Y 0 (ccl ht h (.slice ca n cc)) ∧ U.rangeAt X 0 (ccl ht h (.slice a n c)))) (by kernel_rfl) ⟨range_from (show At _ Y TC (ccl ht h (.slice ca n cc)) from (HZ36.out.all (box TC Y (ccl ht h (.slice ca n cc))) (by simp)).1), range_from (show At _ X TC (ccl ht h (.slice a n c)) from (HZ36.out.all (box TC X (ccl ht h (.slice a n c))) (by simp)).1)⟩ (fun hHeld => ?_)
  generalize World.drew u34 = z37 at *
  refine' wpAnyH_take (i := 0) (oi := _) (v := .int .u64 OS) rfl (by kernel_rfl) (by kernel_rfl) (by kernel_rfl) (fun _ _ _ h => h) (Or.inl ⟨by kernel_rfl, ?hy0⟩) (by assumption) ?rest0
  case hy0 =>
    intro W _
    kernel_rfl
  case rest0 =>
  try simp only [List.getElem_toArray, List.getElem_cons_zero, Act.put, List.setIfInBounds_toArray, List.set_cons_zero, List.set_cons_succ]
  refine' wpAnyH_take (i := 1) (oi := _) (v := .int .u64 OS) rfl (by kernel_rfl) (by kernel_rfl) (by kernel_rfl) (fun _ _ _ h => h) (Or.inl ⟨by kernel_rfl, ?hy1⟩) (by assumption) ?rest1
  case hy1 =>
    intro W _
    kernel_rfl
  case rest1 =>
  try simp only [List.getElem_toArray, List.getElem_cons_succ, List.getElem_cons_zero, Act.put, List.setIfInBounds_toArray, List.set_cons_zero, List.set_cons_succ]
  refine' wpAnyH_take (i := 2) (oi := _) (v := .bool true) rfl (by kernel_rfl) (by kernel_rfl) (by kernel_rfl) (fun _ _ _ h => h) (Or.inl ⟨by kernel_rfl, ?hy2⟩) (by assumption) ?rest2
  case hy2 =>
    intro W _
    exact run_eq (op := .eql) (t := 37) (t2 := 37) (x := (.tmp 68)) (y := (.tmp 69)) (vx := .int .u64 OS) (vy := .int .u64 OS) (by kernel_rfl) (by kernel_rfl) (by kernel_rfl) (eqU OS W) (by kernel_rfl)
  case rest2 =>
  try simp only [List.getElem_toArray, List.getElem_cons_succ, List.getElem_cons_zero, Act.put, List.setIfInBounds_toArray, List.set_cons_zero, List.set_cons_succ]
  refine' wpAnyH_take (i := 3) (oi := _) (v := .bool true) rfl (by kernel_rfl) (by kernel_rfl) (by kernel_rfl) (fun _ _ _ h => h) (Or.inl ⟨by kernel_rfl, ?hy3⟩) (by assumption) ?rest3
  case hy3 =>
    intro W _
    kernel_rfl
  case rest3 =>
  try simp only [List.getElem_toArray, List.getElem_cons_succ, List.getElem_cons_zero, Act.put, List.setIfInBounds_toArray, List.set_cons_zero, List.set_cons_succ]
  refine' wpAnyH_take (i := 4) (oi := _) (v := .bool OB) rfl (by kernel_rfl) (by kernel_rfl) (by kernel_rfl) (fun _ _ _ h => h) (Or.inl ⟨by kernel_rfl, ?hy4⟩) (by assumption) ?rest4
  case hy4 =>
    intro W _
    kernel_rfl
  case rest4 =>
  try simp only [List.getElem_toArray, List.getElem_cons_succ, List.getElem_cons_zero, Act.put, List.setIfInBounds_toArray, List.set_cons_zero, List.set_cons_succ]
  refine' wpAnyH_take (i := 5) (oi := _) (v := .bool OB) rfl (by kernel_rfl) (by kernel_rfl) (by kernel_rfl) (fun _ _ _ h => h) (Or.inl ⟨by kernel_rfl, ?hy5⟩) (by assumption) ?rest5
  case hy5 =>
    intro W _
    kernel_rfl
  case rest5 =>
  try simp only [List.getElem_toArray, List.getElem_cons_succ, List.getElem_cons_zero, Act.put, List.setIfInBounds_toArray, List.set_cons_zero, List.set_cons_succ]
  refine' wpAnyH_take (i := 6) (oi := _) (v := .bool true) rfl (by kernel_rfl) (by kernel_rfl) (by kernel_rfl) (fun _ _ _ h => h) (Or.inl ⟨by kernel_rfl, ?hy6⟩) (by assumption) ?rest6
  case hy6 =>
    intro W _
    exact run_eq (op := .eql) (t := 4) (t2 := 4) (x := (.tmp 72)) (y := (.tmp 73)) (vx := .bool OB) (vy := .bool OB) (by kernel_rfl) (by kernel_rfl) (by kernel_rfl) (eqB OB W) (by kernel_rfl)
  case rest6 =>
  try simp only [List.getElem_toArray, List.getElem_cons_succ, List.getElem_cons_zero, Act.put, List.setIfInBounds_toArray, List.set_cons_zero, List.set_cons_succ]
  refine' wpAnyH_take (i := 7) (oi := _) (v := .bool true) rfl (by kernel_rfl) (by kernel_rfl) (by kernel_rfl) (fun _ _ _ h => h) (Or.inl ⟨by kernel_rfl, ?hy7⟩) (by assumption) ?rest7
  case hy7 =>
    intro W _
    kernel_rfl
  case rest7 =>
  try simp only [List.getElem_toArray, List.getElem_cons_succ, List.getElem_cons_zero, Act.put, List.setIfInBounds_toArray, List.set_cons_zero, List.set_cons_succ]
  refine' wpAnyH_take (i := 8) (oi := _) (v := .bool true) rfl (by kernel_rfl) (by kernel_rfl) (by kernel_rfl) (fun _ _ _ h => h) (Or.inl ⟨by kernel_rfl, ?hy8⟩) (by assumption) ?rest8
  case hy8 =>
    intro W _
    kernel_rfl
  case rest8 =>
  try simp only [List.getElem_toArray, List.getElem_cons_succ, List.getElem_cons_zero, Act.put, List.setIfInBounds_toArray, List.set_cons_zero, List.set_cons_succ]
  refine' wpAnyH_take (i := 9) (oi := _) (v := .slice ba bn bc) rfl (by kernel_rfl) (by kernel_rfl) (by kernel_rfl) (fun _ _ _ h => h) (Or.inl ⟨by kernel_rfl, ?hy9⟩) (by assumption) ?rest9
  case hy9 =>
    intro W _
    kernel_rfl
  case rest9 =>
  try simp only [List.getElem_toArray, List.getElem_cons_succ, List.getElem_cons_zero, Act.put, List.setIfInBounds_toArray, List.set_cons_zero, List.set_cons_succ]
  refine' wpAnyH_take (i := 10) (oi := _) (v := .slice ea en ec) rfl (by kernel_rfl) (by kernel_rfl) (by kernel_rfl) (fun _ _ _ h => h) (Or.inl ⟨by kernel_rfl, ?hy10⟩) (by assumption) ?rest10
  case hy10 =>
    intro W _
    kernel_rfl
  case rest10 =>
  try simp only [List.getElem_toArray, List.getElem_cons_succ, List.getElem_cons_zero, Act.put, List.setIfInBounds_toArray, List.set_cons_zero, List.set_cons_succ]
  refine wpAnyH_ready (rs := [11]) (by kernel_rfl) (by simp) ?_
  refine AllReadyH.cons rfl (fun K hK => ?_) AllReadyH.nil
  rw [if_pos (by kernel_rfl)]
  refine stepCallH (v := .bool true) (R := fun w' => Bag w w' [ownk (.slice qa qn qc) KS, ownk (.slice ka qn kc) KS, own (.slice ea en ec) Z, own (.slice ba bn bc) Z, box TC Y (ccl ht h (.slice ca n cc)), ownv (.slice va m vc) ls, ownt (.slice ca n cc) vs, box TC X (ccl ht h (.slice a n c))]) (by kernel_rfl) (HK1.out _ HZ36.out) ?_
  rintro c11 hz
  try simp only [List.getElem_toArray, List.getElem_cons_succ, List.getElem_cons_zero, Act.put, List.setIfInBounds_toArray, List.set_cons_zero, List.set_cons_succ]
  have HA1 := WirS.hide hz
  clear hz HZ36
  refine hK.out _ _ ⟨range_from (show At _ Y TC (ccl ht h (.slice ca n cc)) from (HA1.out.all (box TC Y (ccl ht h (.slice ca n cc))) (by simp)).1), range_from (show At _ X TC (ccl ht h (.slice a n c)) from (HA1.out.all (box TC X (ccl ht h (.slice a n c))) (by simp)).1)⟩ (fun hHeld => ?_)
  clear hK K
  refine' wpAnyH_take (i := 12) (oi := _) (v := .bool true) rfl (by kernel_rfl) (by kernel_rfl) (by kernel_rfl) (fun _ _ _ h => h) (Or.inl ⟨by kernel_rfl, ?hy12⟩) (by assumption) ?rest12
  case hy12 =>
    intro W _
    kernel_rfl
  case rest12 =>
  try simp only [List.getElem_toArray, List.getElem_cons_succ, List.getElem_cons_zero, Act.put, List.setIfInBounds_toArray, List.set_cons_zero, List.set_cons_succ]
  refine' wpAnyH_take (i := 13) (oi := _) (v := .bool true) rfl (by kernel_rfl) (by kernel_rfl) (by kernel_rfl) (fun _ _ _ h => h) (Or.inl ⟨by kernel_rfl, ?hy13⟩) (by assumption) ?rest13
  case hy13 =>
    intro W _
    kernel_rfl
  case rest13 =>
  try simp only [List.getElem_toArray, List.getElem_cons_succ, List.getElem_cons_zero, Act.put, List.setIfInBounds_toArray, List.set_cons_zero, List.set_cons_succ]
  refine' wpAnyH_take (i := 14) (oi := _) (v := .int .i64 EC) rfl (by kernel_rfl) (by kernel_rfl) (by kernel_rfl) (fun _ _ _ h => h) (Or.inl ⟨by kernel_rfl, ?hy14⟩) (by assumption) ?rest14
  case hy14 =>
    intro W _
    kernel_rfl
  case rest14 =>
  try simp only [List.getElem_toArray, List.getElem_cons_succ, List.getElem_cons_zero, Act.put, List.setIfInBounds_toArray, List.set_cons_zero, List.set_cons_succ]
  refine' wpAnyH_take (i := 15) (oi := _) (v := .int .i64 EC) rfl (by kernel_rfl) (by kernel_rfl) (by kernel_rfl) (fun _ _ _ h => h) (Or.inl ⟨by kernel_rfl, ?hy15⟩) (by assumption) ?rest15
  case hy15 =>
    intro W _
    kernel_rfl
  case rest15 =>
  try simp only [List.getElem_toArray, List.getElem_cons_succ, List.getElem_cons_zero, Act.put, List.setIfInBounds_toArray, List.set_cons_zero, List.set_cons_succ]
  refine' wpAnyH_take (i := 16) (oi := _) (v := .bool true) rfl (by kernel_rfl) (by kernel_rfl) (by kernel_rfl) (fun _ _ _ h => h) (Or.inl ⟨by kernel_rfl, ?hy16⟩) (by assumption) ?rest16
  case hy16 =>
    intro W _
    exact run_eq (op := .eql) (t := 26) (t2 := 26) (x := (.tmp 82)) (y := (.tmp 83)) (vx := .int .i64 EC) (vy := .int .i64 EC) (by kernel_rfl) (by kernel_rfl) (by kernel_rfl) (eqE EC W) (by kernel_rfl)
  case rest16 =>
  try simp only [List.getElem_toArray, List.getElem_cons_succ, List.getElem_cons_zero, Act.put, List.setIfInBounds_toArray, List.set_cons_zero, List.set_cons_succ]
  refine' wpAnyH_take (i := 17) (oi := _) (v := .bool true) rfl (by kernel_rfl) (by kernel_rfl) (by kernel_rfl) (fun _ _ _ h => h) (Or.inl ⟨by kernel_rfl, ?hy17⟩) (by assumption) ?rest17
  case hy17 =>
    intro W _
    kernel_rfl
  case rest17 =>
  try simp only [List.getElem_toArray, List.getElem_cons_succ, List.getElem_cons_zero, Act.put, List.setIfInBounds_toArray, List.set_cons_zero, List.set_cons_succ]
  refine' wpAnyH_take (i := 18) (oi := _) (v := .bool true) rfl (by kernel_rfl) (by kernel_rfl) (by kernel_rfl) (fun _ _ _ h => h) (Or.inl ⟨by kernel_rfl, ?hy18⟩) (by assumption) ?rest18
  case hy18 =>
    intro W _
    kernel_rfl
  case rest18 =>
  try simp only [List.getElem_toArray, List.getElem_cons_succ, List.getElem_cons_zero, Act.put, List.setIfInBounds_toArray, List.set_cons_zero, List.set_cons_succ]
  refine' wpAnyH_take (i := 19) (oi := _) (v := .slice ka qn kc) rfl (by kernel_rfl) (by kernel_rfl) (by kernel_rfl) (fun _ _ _ h => h) (Or.inl ⟨by kernel_rfl, ?hy19⟩) (by assumption) ?rest19
  case hy19 =>
    intro W _
    kernel_rfl
  case rest19 =>
  try simp only [List.getElem_toArray, List.getElem_cons_succ, List.getElem_cons_zero, Act.put, List.setIfInBounds_toArray, List.set_cons_zero, List.set_cons_succ]
  refine' wpAnyH_take (i := 20) (oi := _) (v := .slice qa qn qc) rfl (by kernel_rfl) (by kernel_rfl) (by kernel_rfl) (fun _ _ _ h => h) (Or.inl ⟨by kernel_rfl, ?hy20⟩) (by assumption) ?rest20
  case hy20 =>
    intro W _
    kernel_rfl
  case rest20 =>
  try simp only [List.getElem_toArray, List.getElem_cons_succ, List.getElem_cons_zero, Act.put, List.setIfInBounds_toArray, List.set_cons_zero, List.set_cons_succ]
  refine wpAnyH_ready (rs := [21]) (by kernel_rfl) (by simp) ?_
  refine AllReadyH.cons rfl (fun K hK => ?_) AllReadyH.nil
  rw [if_pos (by kernel_rfl)]
  refine stepCallH (v := .bool true) (R := fun w' => Bag w w' [ownk (.slice qa qn qc) KS, ownk (.slice ka qn kc) KS, own (.slice ea en ec) Z, own (.slice ba bn bc) Z, box TC Y (ccl ht h (.slice ca n cc)), ownv (.slice va m vc) ls, ownt (.slice ca n cc) vs, box TC X (ccl ht h (.slice a n c))]) (by kernel_rfl) (HK2.out _ HA1.out) ?_
  rintro c21 hz
  try simp only [List.getElem_toArray, List.getElem_cons_succ, List.getElem_cons_zero, Act.put, List.setIfInBounds_toArray, List.set_cons_zero, List.set_cons_succ]
  have HA2 := WirS.hide hz
  clear hz HA1
  refine hK.out _ _ ⟨range_from (show At _ Y TC (ccl ht h (.slice ca n cc)) from (HA2.out.all (box TC Y (ccl ht h (.slice ca n cc))) (by simp)).1), range_from (show At _ X TC (ccl ht h (.slice a n c)) from (HA2.out.all (box TC X (ccl ht h (.slice a n c))) (by simp)).1)⟩ (fun hHeld => ?_)
  clear hK K
  refine' wpAnyH_take (i := 22) (oi := _) (v := .bool true) rfl (by kernel_rfl) (by kernel_rfl) (by kernel_rfl) (fun _ _ _ h => h) (Or.inl ⟨by kernel_rfl, ?hy22⟩) (by assumption) ?rest22
  case hy22 =>
    intro W _
    kernel_rfl
  case rest22 =>
  try simp only [List.getElem_toArray, List.getElem_cons_succ, List.getElem_cons_zero, Act.put, List.setIfInBounds_toArray, List.set_cons_zero, List.set_cons_succ]
  refine' wpAnyH_take (i := 23) (oi := _) (v := .bool true) rfl (by kernel_rfl) (by kernel_rfl) (by kernel_rfl) (fun _ _ _ h => h) (Or.inl ⟨by kernel_rfl, ?hy23⟩) (by assumption) ?rest23
  case hy23 =>
    intro W _
    kernel_rfl
  case rest23 =>
  try simp only [List.getElem_toArray, List.getElem_cons_succ, List.getElem_cons_zero, Act.put, List.setIfInBounds_toArray, List.set_cons_zero, List.set_cons_succ]
  refine' wpAnyH_take (i := 24) (oi := _) (v := .int .i64 WC) rfl (by kernel_rfl) (by kernel_rfl) (by kernel_rfl) (fun _ _ _ h => h) (Or.inl ⟨by kernel_rfl, ?hy24⟩) (by assumption) ?rest24
  case hy24 =>
    intro W _
    kernel_rfl
  case rest24 =>
  try simp only [List.getElem_toArray, List.getElem_cons_succ, List.getElem_cons_zero, Act.put, List.setIfInBounds_toArray, List.set_cons_zero, List.set_cons_succ]
  refine' wpAnyH_take (i := 25) (oi := _) (v := .int .i64 WC) rfl (by kernel_rfl) (by kernel_rfl) (by kernel_rfl) (fun _ _ _ h => h) (Or.inl ⟨by kernel_rfl, ?hy25⟩) (by assumption) ?rest25
  case hy25 =>
    intro W _
    kernel_rfl
  case rest25 =>
  try simp only [List.getElem_toArray, List.getElem_cons_succ, List.getElem_cons_zero, Act.put, List.setIfInBounds_toArray, List.set_cons_zero, List.set_cons_succ]
  refine' wpAnyH_take (i := 26) (oi := _) (v := .bool true) rfl (by kernel_rfl) (by kernel_rfl) (by kernel_rfl) (fun _ _ _ h => h) (Or.inl ⟨by kernel_rfl, ?hy26⟩) (by assumption) ?rest26
  case hy26 =>
    intro W _
    exact run_eq (op := .eql) (t := 26) (t2 := 26) (x := (.tmp 92)) (y := (.tmp 93)) (vx := .int .i64 WC) (vy := .int .i64 WC) (by kernel_rfl) (by kernel_rfl) (by kernel_rfl) (eqE WC W) (by kernel_rfl)
  case rest26 =>
  try simp only [List.getElem_toArray, List.getElem_cons_succ, List.getElem_cons_zero, Act.put, List.setIfInBounds_toArray, List.set_cons_zero, List.set_cons_succ]
  refine' wpAnyH_take (i := 27) (oi := _) (v := .bool true) rfl (by kernel_rfl) (by kernel_rfl) (by kernel_rfl) (fun _ _ _ h => h) (Or.inl ⟨by kernel_rfl, ?hy27⟩) (by assumption) ?rest27
  case hy27 =>
    intro W _
    kernel_rfl
  case rest27 =>
  try simp only [List.getElem_toArray, List.getElem_cons_succ, List.getElem_cons_zero, Act.put, List.setIfInBounds_toArray, List.set_cons_zero, List.set_cons_succ]
  refine' wpAnyH_take (i := 28) (oi := _) (v := .bool true) rfl (by kernel_rfl) (by kernel_rfl) (by kernel_rfl) (fun _ _ _ h => h) (Or.inl ⟨by kernel_rfl, ?hy28⟩) (by assumption) ?rest28
  case hy28 =>
    intro W _
    kernel_rfl
  case rest28 =>
  try simp only [List.getElem_toArray, List.getElem_cons_succ, List.getElem_cons_zero, Act.put, List.setIfInBounds_toArray, List.set_cons_zero, List.set_cons_succ]
  refine' wpAnyH_take (i := 29) (oi := _) (v := .agg ((ccl ht h (.slice ca n cc))).toArray) rfl (by kernel_rfl) (by kernel_rfl) (by kernel_rfl) (fun _ _ _ h => h) (yieldsIf_load_mid (by kernel_rfl) TC (.tmp 7) (by kernel_rfl) Y 0 (by kernel_rfl) ((ccl ht h (.slice ca n cc))) _ (fun _ h => h.1) UC (by kernel_rfl) ((by rw [ccl_len _ _ _ HL.out]; kernel_rfl))) (by assumption) ?rest29
  case rest29 =>
  try simp only [List.getElem_toArray, List.getElem_cons_succ, List.getElem_cons_zero, Act.put, List.setIfInBounds_toArray, List.set_cons_zero, List.set_cons_succ]
  refine' wpAnyH_take (i := 31) (oi := _) (v := .agg ((ccl ht h (.slice a n c))).toArray) rfl (by kernel_rfl) (by kernel_rfl) (by kernel_rfl) (fun _ _ _ h => h) (yieldsIf_load_mid (by kernel_rfl) TC (.tmp 3) (by kernel_rfl) X 0 (by kernel_rfl) ((ccl ht h (.slice a n c))) _ (fun _ h => h.2) UC (by kernel_rfl) ((by rw [ccl_len _ _ _ HL.out]; kernel_rfl))) (by assumption) ?rest31
  case rest31 =>
  try simp only [List.getElem_toArray, List.getElem_cons_succ, List.getElem_cons_zero, Act.put, List.setIfInBounds_toArray, List.set_cons_zero, List.set_cons_succ]
  refine wpAnyH_ready (rs := [30]) (by kernel_rfl) (by simp) ?_
  refine AllReadyH.cons rfl (fun K hK => ?_) AllReadyH.nil
  rw [if_pos (by kernel_rfl)]
  refine stepCallH (v := .int .i64 EC) (R := fun w' => Bag w w' [ownk (.slice qa qn qc) KS, ownk (.slice ka qn kc) KS, own (.slice ea en ec) Z, own (.slice ba bn bc) Z, box TC Y (ccl ht h (.slice ca n cc)), ownv (.slice va m vc) ls, ownt (.slice ca n cc) vs, box TC X (ccl ht h (.slice a n c))]) (by kernel_rfl) (HK3.out _ HA2.out) ?_
  rintro c30 hz
  try simp only [List.getElem_toArray, List.getElem_cons_succ, List.getElem_cons_zero, Act.put, List.setIfInBounds_toArray, List.set_cons_zero, List.set_cons_succ]
  have HA3 := WirS.hide hz
  clear hz HA2
  refine hK.out _ _ ⟨range_from (show At _ Y TC (ccl ht h (.slice ca n cc)) from (HA3.out.all (box TC Y (ccl ht h (.slice ca n cc))) (by simp)).1), range_from (show At _ X TC (ccl ht h (.slice a n c)) from (HA3.out.all (box TC X (ccl ht h (.slice a n c))) (by simp)).1)⟩ (fun hHeld => ?_)
  clear hK K
  refine wpAnyH_ready (rs := [32]) (by kernel_rfl) (by simp) ?_
  refine AllReadyH.cons rfl (fun K hK => ?_) AllReadyH.nil
  rw [if_pos (by kernel_rfl)]
  refine stepCallH (v := .int .i64 EC) (R := fun w' => Bag w w' [ownk (.slice qa qn qc) KS, ownk (.slice ka qn kc) KS, own (.slice ea en ec) Z, own (.slice ba bn bc) Z, box TC Y (ccl ht h (.slice ca n cc)), ownv (.slice va m vc) ls, ownt (.slice ca n cc) vs, box TC X (ccl ht h (.slice a n c))]) (by kernel_rfl) (HK4.out _ HA3.out) ?_
  rintro c32 hz
  try simp only [List.getElem_toArray, List.getElem_cons_succ, List.getElem_cons_zero, Act.put, List.setIfInBounds_toArray, List.set_cons_zero, List.set_cons_succ]
  have HA4 := WirS.hide hz
  clear hz HA3
  refine hK.out _ _ ⟨range_from (show At _ Y TC (ccl ht h (.slice ca n cc)) from (HA4.out.all (box TC Y (ccl ht h (.slice ca n cc))) (by simp)).1), range_from (show At _ X TC (ccl ht h (.slice a n c)) from (HA4.out.all (box TC X (ccl ht h (.slice a n c))) (by simp)).1)⟩ (fun hHeld => ?_)
  clear hK K
  refine' wpAnyH_take (i := 33) (oi := _) (v := .bool true) rfl (by kernel_rfl) (by kernel_rfl) (by kernel_rfl) (fun _ _ _ h => h) (Or.inl ⟨by kernel_rfl, ?hy33⟩) (by assumption) ?rest33
  case hy33 =>
    intro W _
    exact run_eq (op := .eql) (t := 26) (t2 := 26) (x := (.tmp 98)) (y := (.tmp 100)) (vx := .int .i64 EC) (vy := .int .i64 EC) (by kernel_rfl) (by kernel_rfl) (by kernel_rfl) (eqE EC W) (by kernel_rfl)
  case rest33 =>
  try simp only [List.getElem_toArray, List.getElem_cons_succ, List.getElem_cons_zero, Act.put, List.setIfInBounds_toArray, List.set_cons_zero, List.set_cons_succ]
  refine' wpAnyH_take (i := 34) (oi := _) (v := .bool true) rfl (by kernel_rfl) (by kernel_rfl) (by kernel_rfl) (fun _ _ _ h => h) (Or.inl ⟨by kernel_rfl, ?hy34⟩) (by assumption) ?rest34
  case hy34 =>
    intro W _
    kernel_rfl
  case rest34 =>
  try simp only [List.getElem_toArray, List.getElem_cons_succ, List.getElem_cons_zero, Act.put, List.setIfInBounds_toArray, List.set_cons_zero, List.set_cons_succ]
  refine' wpAnyH_take (i := 35) (oi := _) (v := .bool true) rfl (by kernel_rfl) (by kernel_rfl) (by kernel_rfl) (fun _ _ _ h => h) (Or.inl ⟨by kernel_rfl, ?hy35⟩) (by assumption) ?rest35
  case hy35 =>
    intro W _
    kernel_rfl
  case rest35 =>
  try simp only [List.getElem_toArray, List.getElem_cons_succ, List.getElem_cons_zero, Act.put, List.setIfInBounds_toArray, List.set_cons_zero, List.set_cons_succ]
  refine wpAnyH_done (by kernel_rfl) ?_ _
  refine NoPanic.normal ?_
  clear hHeld HK1 HK2 HK3 HK4
  go_upto_region 11 with fail
  refine wp_region_lit ?_
  refine sV (.slice ba bn bc) (c32) (by kernel_rfl) (by kernel_rfl) ?_
  simp only [Act.put, List.setIfInBounds_toArray, List.set_cons_succ, List.set_cons_zero]
  have H38 := WirS.hide (HA4.out.perm (show [ownk (.slice qa qn qc) KS, ownk (.slice ka qn kc) KS, own (.slice ea en ec) Z, own (.slice ba bn bc) Z, box TC Y (ccl ht h (.slice ca n cc)), ownv (.slice va m vc) ls, ownt (.slice ca n cc) vs, box TC X (ccl ht h (.slice a n c))].Perm [own (.slice ba bn bc) Z, ownk (.slice qa qn qc) KS, ownk (.slice ka qn kc) KS, own (.slice ea en ec) Z, box TC Y (ccl ht h (.slice ca n cc)), ownv (.slice va m vc) ls, ownt (.slice ca n cc) vs, box TC X (ccl ht h (.slice a n c))] from ((List.perm_middle (l₁ := [ownk (.slice qa qn qc) KS, ownk (.slice ka qn kc) KS, own (.slice ea en ec) Z])).trans (.cons _ ((List.perm_middle (l₁ := [])).trans (.cons _ ((List.perm_middle (l₁ := [])).trans (.cons _ ((List.perm_middle (l₁ := [])).trans (.cons _ ((List.perm_middle (l₁ := [])).trans (.cons _ ((List.perm_middle (l₁ := [])).trans (.cons _ ((List.perm_middle (l₁ := [])).trans (.cons _ ((List.perm_middle (l₁ := [])).trans (.cons _ (.refl _)))))))))))))))))))
  clear HA4
  refine sC (R := fun w' => Fr (fun k => (Value.slice ba bn bc).ownBlock = some k) c32 w') (v := .tuple #[]) (by kernel_rfl) (by kernel_rfl) ((KitB.over_any c32 ba bn bc Z H38.out.head (by have h1 := HBN.out; have h2 := HZL.out; omega)).mono fun e w' ⟨h1, h2, h3⟩ => ⟨h1, h3⟩) ?_
  rintro u39 hf
  simp only [Act.put, List.setIfInBounds_toArray, List.set_cons_succ, List.set_cons_zero]
  have H40 := WirS.hide ((H38.out.act (o' := gone) hf trivial (fun _ h => h.elim)).drop)
  clear H38
  clear hf
  go_upto_region 12 with fail
  refine wp_region_lit ?_
  refine sV (.slice ka qn kc) (u39) (by kernel_rfl) (by kernel_rfl) ?_
  simp only [Act.put, List.setIfInBounds_toArray, List.set_cons_succ, List.set_cons_zero]
  have H41 := WirS.hide (H40.out.perm (show [ownk (.slice qa qn qc) KS, ownk (.slice ka qn kc) KS, own (.slice ea en ec) Z, box TC Y (ccl ht h (.slice ca n cc)), ownv (.slice va m vc) ls, ownt (.slice ca n cc) vs, box TC X (ccl ht h (.slice a n c))].Perm [ownk (.slice ka qn kc) KS, ownk (.slice qa qn qc) KS, own (.slice ea en ec) Z, box TC Y (ccl ht h (.slice ca n cc)), ownv (.slice va m vc) ls, ownt (.slice ca n cc) vs, box TC X (ccl ht h (.slice a n c))] from ((List.perm_middle (l₁ := [ownk (.slice qa qn qc) KS])).trans (.cons _ ((List.perm_middle (l₁ := [])).trans (.cons _ ((List.perm_middle (l₁ := [])).trans (.cons _ ((List.perm_middle (l₁ := [])).trans (.cons _ ((List.perm_middle (l₁ := [])).trans (.cons _ ((List.perm_middle (l₁ := [])).trans (.cons _ ((List.perm_middle (l₁ := [])).trans (.cons _ (.refl _)))))))))))))))))
  clear H40
  refine sC (R := fun w' => Fr (fun k => (Value.slice ka qn kc).ownBlock = some k) u39 w') (v := .tuple #[]) (by kernel_rfl) (by kernel_rfl) (CmOk.over_any u39 ka qn kc KS H41.out.head (by have h1 := HKN.out; have h2 := HKL.out; omega)) ?_
  rintro u42 hf
  simp only [Act.put, List.setIfInBounds_toArray, List.set_cons_succ, List.set_cons_zero]
  have H43 := WirS.hide ((H41.out.act (o' := gone) hf trivial (fun _ h => h.elim)).drop)
  clear H41
  clear hf
  go_upto_region 13 with fail
  refine wp_region_lit ?_
  refine sV (.bool true) (u42) (by kernel_rfl) (by kernel_rfl) ?_
  simp only [Act.put, List.setIfInBounds_toArray, List.set_cons_succ, List.set_cons_zero]
  refine sV (.bool true) (u42) (by kernel_rfl) (by kernel_rfl) ?_
  simp only [Act.put, List.setIfInBounds_toArray, List.set_cons_succ, List.set_cons_zero]
  refine sL (by kernel_rfl) _ _ (by rfl) _ (by kernel_rfl) (H43.out.all (box TC Y (ccl ht h (.slice ca n cc))) (by simp)).1 _ _ UC rfl (by kernel_rfl) (by rw [ccl_len _ _ _ HL.out]) ?_
  simp only [Act.put, List.setIfInBounds_toArray, List.set_cons_succ, List.set_cons_zero]
  refine sL (by kernel_rfl) _ _ (by rfl) _ (by kernel_rfl) (H43.out.all (box TC X (ccl ht h (.slice a n c))) (by simp)).1 _ _ UC rfl (by kernel_rfl) (by rw [ccl_len _ _ _ HL.out]) ?_
  simp only [Act.put, List.setIfInBounds_toArray, List.set_cons_succ, List.set_cons_zero]
  refine sC (R := fun w' => Below u42.heap.size u42 w') (v := .bool true) (by kernel_rfl) (by kernel_rfl) (CmN.sc_any u42 ht h ca a n cc c vs HL.out ((show OwnT u42 (.slice ca n cc) vs from (H43.out.all (ownt (.slice ca n cc) vs) (by simp)).1).vin) (HV.out.below H43.out.low)) ?_
  rintro u44 hb
  simp only [Act.put, List.setIfInBounds_toArray, List.set_cons_succ, List.set_cons_zero]
  have H45 := WirS.hide (H43.out.more hb)
  clear H43
  clear hb
  refine sV (.bool true) (u44) (by kernel_rfl) (by kernel_rfl) ?_
  simp only [Act.put, List.setIfInBounds_toArray, List.set_cons_succ, List.set_cons_zero]
  refine sV (.bool true) (u44) (by kernel_rfl) (by kernel_rfl) ?_
  simp only [Act.put, List.setIfInBounds_toArray, List.set_cons_succ, List.set_cons_zero]
  refine sV (.slice va m vc) (u44) (by kernel_rfl) (by kernel_rfl) ?_
  simp only [Act.put, List.setIfInBounds_toArray, List.set_cons_succ, List.set_cons_zero]
  refine sV (.slice la m d) (u44) (by kernel_rfl) (by kernel_rfl) ?_
  simp only [Act.put, List.setIfInBounds_toArray, List.set_cons_succ, List.set_cons_zero]
  refine sC (R := fun w' => Below u44.heap.size u44 w') (v := .bool true) (by kernel_rfl) (by kernel_rfl) (CmSv.same_any u44 va la m vc d ls ((show OwnV u44 (.slice va m vc) ls from (H45.out.all (ownv (.slice va m vc) ls) (by simp)).1).vin) (HW.out.below H45.out.low)) ?_
  rintro u46 hb
  simp only [Act.put, List.setIfInBounds_toArray, List.set_cons_succ, List.set_cons_zero]
  have H47 := WirS.hide (H45.out.more hb)
  clear H45
  clear hb
  refine sV (.bool true) (u46) (by kernel_rfl) (by kernel_rfl) ?_
  simp only [Act.put, List.setIfInBounds_toArray, List.set_cons_succ, List.set_cons_zero]
  refine sV (.bool true) (u46) (by kernel_rfl) (by kernel_rfl) ?_
  simp only [Act.put, List.setIfInBounds_toArray, List.set_cons_succ, List.set_cons_zero]
  refine sC (R := fun w' => Below u46.heap.size u46 w') (v := .bool true) (by kernel_rfl) (by kernel_rfl) (CmQ.awake_any u46) ?_
  rintro u48 hb
  simp only [Act.put, List.setIfInBounds_toArray, List.set_cons_succ, List.set_cons_zero]
  have H49 := WirS.hide (H47.out.more hb)
  clear H47
  clear hb
  refine sV (.bool true) (u48) (by kernel_rfl) (by kernel_rfl) ?_
  simp only [Act.put, List.setIfInBounds_toArray, List.set_cons_succ, List.set_cons_zero]
  go_wp2_with fail
  go_ret
  exact ⟨rfl, H49.out.low⟩
theorem tells_any (w : World) (ht : Int) (h : List Int) (a : Option Addr) (n c : Nat) (vs : List Vt) (at0 : Int) (la : Option Addr) (m d : Nat) (ls : List Vd) (hl : h.length = 32) (hv : VtIn w a n c vs) (hh : rng h) (hw : VIn w la m d ls) : Calls Try.prog 11 #[.agg (ccl ht h (.slice a n c)).toArray, .int .i64 at0, .slice la m d] w fun e w' => e = .returned (.bool true) ∧ Below w.heap.size w w' := by
  by_cases h1 : 70 < n
  · exact tells_a w ht h a n c vs at0 la m d ls hl hv hh hw h1
  by_cases h2 : 80 < m
  · exact tells_b w ht h a n c vs at0 la m d ls hl hv hh hw h1 h2
  · exact tells_c w ht h a n c vs at0 la m d ls hl hv hh hw h1 h2
theorem tells_row (w : World) (ht : Int) (h : List Int) (a : Option Addr) (n c : Nat) (vs : List Vt) (at0 : Int) (la : Option Addr) (m d : Nat) (ls : List Vd)
    (hc : h.length = 32 ∧ VtIn w a n c vs ∧ (∀ z ∈ h, 0 ≤ z ∧ z < 256) ∧ -9223372036854775808 ≤ ht ∧ ht < 9223372036854775808) (_ : -9223372036854775808 ≤ at0) (_ : at0 ≤ 9223372036854775807) (hw : VIn w la m d ls) : Calls Try.prog 11 #[.agg (ccl ht h (.slice a n c)).toArray, .int .i64 at0, .slice la m d] w fun e w' => e = .returned (.bool true) ∧ Below w.heap.size w w' :=
  tells_any w ht h a n c vs at0 la m d ls hc.1 hc.2.1 hc.2.2.1 hw
end CmTl
end Go.Proofs.Ythcemghamdmjmaa
