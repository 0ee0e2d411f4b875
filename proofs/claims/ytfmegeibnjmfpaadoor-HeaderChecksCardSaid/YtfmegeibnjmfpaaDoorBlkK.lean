/-
  Sum, New and a state's methods, of package blake.
-/
import Derived.Test.YtfmegeibnjmfpaaDoorBlkJ
import Derived.LaidEqlPtr
namespace Go.Proofs.YtfmegeibnjmfpaaDoor
namespace BlkK
open Go.RowKit
open BlkM BlkA BlkG BlkH BlkI BlkJ

theorem stepCall {P : Program} {ops : Array Oper} {rest : List Oper} {o : Oper} {a : Act} {w : World} {Q : Exit → Act → World → Prop} {f : FuncId} {args : Array Value} {v : Value} {R : World → Prop} (hgd : o.guard = none) (hrun : (execOp a.eval o).run P w = .ok (.enter f args) w)
    (hc : Calls P f args w fun e w' => e = .returned v ∧ R w') (h : ∀ w', R w' → wpList P ops Q rest (a.put o.dst v) w') : wpList P ops Q (o :: rest) a w :=
  wpList_plain hgd fun _ hK => by
    unfold Oper.wp
    rw [hrun, Oper.upon_enter]
    exact hc.mono (by rintro e w' ⟨rfl, hr⟩; exact hK _ _ (h w' hr))
theorem c_len {l : List Int} {c : List Value} (h : Dg l c) : c.length = 74 := by
  obtain ⟨k, e, blk, hDm, _, rfl⟩ := h
  exact dig_len _ _ _ _ (hs_len _ _) hDm.1
/-- Bytes handed in. -/
def BIn (w : World) (v : Value) (zs : List Int) : Prop := ∃ a cap, v = .slice a zs.length cap ∧ zs.length ≤ cap ∧ (zs ≠ [] → ∃ B o, a = some ⟨B, o, none⟩ ∧ B < w.heap.size ∧ ∀ i, i < zs.length → w.cell? ⟨B, o + i, none⟩ = some (.int .u8 (zs.getD i 0)))
theorem BIn.nil (w : World) : BIn w (.slice none 0 0) [] := ⟨none, 0, rfl, Nat.le_refl _, fun h => absurd rfl h⟩
theorem BIn.below {w w' : World} {v : Value} {zs : List Int} (h : BIn w v zs) (hb : Below w.heap.size w w') : BIn w' v zs := by
  obtain ⟨a, cap, e, hc, hn⟩ := h
  refine ⟨a, cap, e, hc, fun hz => ?_⟩
  obtain ⟨B, o, e2, hB, hcell⟩ := hn hz
  exact ⟨B, o, e2, Nat.lt_of_lt_of_le hB hb.size, fun i hi => (hb.cell (p := ⟨B, o + i, none⟩) hB).trans (hcell i hi)⟩
theorem BIn.at {w w' : World} {D : Nat} {v : Value} {zs : List Int} (h : BIn w v zs) (hb : Below w.heap.size w w') (hD : w.heap.size ≤ D) : BAt w' D v zs := by
  obtain ⟨a, cap, e, hc, hn⟩ := h
  refine ⟨a, cap, e, hc, fun hz => ?_⟩
  obtain ⟨B, o, e2, hB, hcell⟩ := hn hz
  exact ⟨B, o, e2, by omega, Nat.lt_of_lt_of_le hB hb.size, fun i hi => (hb.cell (p := ⟨B, o + i, none⟩) hB).trans (hcell i hi)⟩

set_option maxRecDepth 10000 in
set_option maxHeartbeats 1000000 in
theorem sumP_any (w : World) (v : Value) (zs : List Int) (hb : BIn w v zs) (hr : rng zs) (hg : Glob w) (hlen : zs.length < 4611686018427387904) :
    Calls Tryd.prog 13 #[v] w fun e w' => e = .returned (.agg (b8 (sumL zs)).toArray) ∧ Below w.heap.size w w' := by
  obtain ⟨W0, eW0⟩ : ∃ X, X = w.alloc (.cells #[Value.int .u8 0, Value.int .u8 0, Value.int .u8 0, Value.int .u8 0, Value.int .u8 0, Value.int .u8 0, Value.int .u8 0, Value.int .u8 0, Value.int .u8 0, Value.int .u8 0, Value.int .u8 0, Value.int .u8 0, Value.int .u8 0, Value.int .u8 0, Value.int .u8 0, Value.int .u8 0, Value.int .u8 0, Value.int .u8 0, Value.int .u8 0, Value.int .u8 0, Value.int .u8 0, Value.int .u8 0, Value.int .u8 0, Value.int .u8 0, Value.int .u8 0, Value.int .u8 0, Value.int .u8 0, Value.int .u8 0, Value.int .u8 0, Value.int .u8 0, Value.int .u8 0, Value.int .u8 0] 26) := ⟨_, rfl⟩
  have hB0 : Below w.heap.size w W0 := by rw [eW0]; exact (by repeat (first | assumption | exact Below.refl _ _ | refine Below.setCell ?_ (by first | omega | (simp; done) | (simp; omega)) _ | refine below_drewN ?_ _ | refine Below.drew ?_ | refine Below.alloc ?_ (by first | omega | (simp; done) | (simp; omega)) _ | refine Below.trans ?_ (Below.mono (by assumption) (by first | omega | (simp; done) | (simp; omega)))))
  have hz0 : At W0 w.heap.size 26 (b8 (List.replicate 32 0)) := by rw [eW0]; exact At.new w 26 (b8 (List.replicate 32 0))
  have hs0 : W0.heap.size = w.heap.size + 1 := by rw [eW0]; simp
  have hg0 : Glob W0 := hg.below hB0 hg.1
  have E0 := hide eW0
  have HB0 := hide hB0
  have HZ0 := hide hz0
  have HS0 := hide hs0
  have HG0 := hide hg0
  have HG := hide hg
  have HR := hide hr
  have HBI := hide hb
  have HLEN := hide hlen
  obtain ⟨a0, cap0, rfl, _, _⟩ := hb
  clear eW0 hB0 hz0 hs0 hg0 hr hlen hg
  go_enter Tryd.func13, Tryd.ntmps13
  go_upto_region 1 with (fail)
  rw [← E0.out]
  refine wp_region_lit ?_
  refine stepCall (by rfl) (by kernel_rfl) (start_any W0 HG0.out) ?_
  intro w1 hb1
  have hB1 : Below w.heap.size w w1 := HB0.out.trans (hb1.mono (by have := HS0.out; omega))
  refine stepVal (v := .pointer (some ⟨w1.heap.size, 0, none⟩)) (w' := w1.alloc (.cells BlkG.z0.toArray 44)) (by rfl) (al _ _ rfl w1) ?_
  refine stepStore (by rfl) _ _ _ (by rfl) _ BlkG.d0 (by rfl) (by rfl) (At.new w1 44 BlkG.z0) 74 (by kernel_rfl) (by rfl) (by rfl) (by kernel_rfl) ?_
  obtain ⟨W2, eW2⟩ : ∃ X, X = (w1.alloc (.cells BlkG.z0.toArray 44)).setRow w1.heap.size BlkG.d0.toArray := ⟨_, rfl⟩
  rw [← eW2]
  have hA2 : At W2 w1.heap.size 44 BlkG.d0 := by rw [eW2]; exact (At.new w1 44 BlkG.z0).put BlkG.d0
  have hB2 : Below w1.heap.size w1 W2 := by rw [eW2]; exact Below.setRowOwn (Below.alloc (Below.refl _ _) (Nat.le_refl _) _) (Nat.le_refl _) _
  have hB2w : Below w.heap.size w W2 := hB1.trans (hB2.mono hB1.size)
  have hz2 : At W2 w.heap.size 26 (b8 (List.replicate 32 0)) := (HZ0.out.below hb1 HZ0.out.lt).below hB2 (by have := HZ0.out.lt; have := hb1.size; omega)
  have hDw : w.heap.size < w1.heap.size := by have := HS0.out; have := hb1.size; omega
  have HA2 := hide hA2
  have HB2 := hide hB2w
  have HZ2 := hide hz2
  clear hb1 hB1 eW2 hA2 hB2 hB2w hz2
  go_upto_region 3 with ((go_at_call 42; refine (write_any W2 w1.heap.size 0 44 [] [] zs BlkG.d0 _ (by exact HA2.out) Dg_nil rfl (HBI.out.at HB2.out (Nat.le_of_lt hDw)) HR.out (HG.out.below HB2.out HG.out.1) (by omega) (by have := HLEN.out; simp; omega)).mono ?_; rintro e w3 ⟨rfl, c', hDg, hC⟩))
  have hA3 : At w3 w1.heap.size 44 c' := hC.at HA2.out
  have hB3 : Below w.heap.size w w3 := HB2.out.trans (hC.below_of (Nat.le_of_lt hDw) HB2.out.size)
  have hz3 := hC.other HZ2.out (by omega)
  refine wp_region_lit ?_
  refine stepLoad (by rfl) _ _ (by rfl) _ (by rfl) hA3 _ 74 Tryd.underlying44 rfl (by kernel_rfl) (c_len hDg) ?_
  refine stepCall (by rfl) (by kernel_rfl) (sum_any w3 zs c' hDg (HG.out.below hB3 HG.out.1)) ?_
  intro w4 hb4
  have hz4 := hz3.below hb4 hz3.lt
  have hB4 : Below w.heap.size w w4 := hB3.trans (hb4.mono hB3.size)
  refine stepStore (by rfl) _ _ _ (by rfl) _ (b8 (sumL zs)) (by rfl) (by rfl) hz4 32 (by kernel_rfl) (by rw [b8_len]; rfl) (by rw [b8_len, sumL_len]) (oneCells_b8 _) ?_
  have HZ5 := hide (hz4.put (b8 (sumL zs)))
  have HB5 := hide (Below.setRowOwn hB4 (Nat.le_refl w.heap.size) (b8 (sumL zs)).toArray)
  clear hz4 hB4 hb4 hA3 hB3 hz3 hC hDg
  go_wp2_with fail
  exact bodyPost_ret (retRow HZ5.out Tryd.results13 _ (by rfl) (.array 32 5) 32 Tryd.underlying26 rfl (by kernel_rfl) (by rw [b8_len, sumL_len])) rfl ⟨rfl, HB5.out⟩

/-! ### States -/
def me (S : Nat) : List Value := [.pointer (some ⟨S, 0, none⟩)]
/-- A state that New made, with what was written. -/
def St (w : World) (S : Nat) (l : List Int) : Prop := S ≠ 0 ∧ ∃ c, Dg l c ∧ At w S 46 (me S ++ c)
theorem St.below {w w' : World} {S B : Nat} {l : List Int} (h : St w S l) (hb : Below B w w') (hB : S < B) : St w' S l := by
  obtain ⟨h0, c, h1, h2⟩ := h
  exact ⟨h0, c, h1, h2.below hb hB⟩
theorem St.lt {w : World} {S : Nat} {l : List Int} (h : St w S l) : S < w.heap.size := by
  obtain ⟨_, c, _, h2⟩ := h
  exact h2.lt
def ns : List Value := .pointer none :: BlkG.d0
set_option maxRecDepth 10000 in
set_option maxHeartbeats 1000000 in
theorem new_any (w : World) (hg : Glob w) : Calls Tryd.prog 25 #[] w fun e w' => ∃ S, e = .returned (.pointer (some ⟨S, 0, none⟩)) ∧ w.heap.size ≤ S ∧ St w' S [] ∧ Below w.heap.size w w' := by
  have HG := hide hg
  clear hg
  go_enter Tryd.func25, Tryd.ntmps25
  go_upto_region 1 with (fail)
  refine wp_region_lit ?_
  refine stepCall (by rfl) (by kernel_rfl) (start_any w HG.out) ?_
  intro w1 hb1
  refine stepVal (v := .agg ns.toArray) (w' := w1) (by rfl) (by kernel_rfl) ?_
  refine stepVal (v := .pointer (some ⟨w1.heap.size, 0, none⟩)) (w' := w1.alloc (.cells ns.toArray 46)) (by rfl) (by kernel_rfl) ?_
  have hA := At.new w1 46 ns
  have hB : Below w.heap.size w (w1.alloc (.cells ns.toArray 46)) := hb1.alloc hb1.size _
  obtain ⟨W2, eW2⟩ : ∃ X, X = w1.alloc (.cells ns.toArray 46) := ⟨_, rfl⟩
  rw [← eW2] at hA hB ⊢
  have c0 := hA.cell 0
  have f0 := hA.frozen 0
  have hA2 : At (W2.setCell ⟨w1.heap.size, 0, none⟩ (.pointer (some ⟨w1.heap.size, 0, none⟩))) w1.heap.size 46 (me w1.heap.size ++ BlkG.d0) := hA.setCell 0 _
  have hB2 := hB.setCell (p := ⟨w1.heap.size, 0, none⟩) hb1.size (.pointer (some ⟨w1.heap.size, 0, none⟩))
  have HA2 := hide hA2
  have HB2 := hide hB2
  have HSZ := hide hb1.size
  have c0' : W2.cell? ⟨w1.heap.size, 0, none⟩ = some (.pointer none) := c0
  clear hA hB c0 hA2 hB2 eW2 hb1
  go_wp2_with fail
  go_ret
  exact ⟨w1.heap.size, rfl, HSZ.out, ⟨by have := HSZ.out; have := HG.out.1; omega, _, Dg_nil, HA2.out⟩, HB2.out⟩

theorem ptr_same (S : Nat) (W : World) : (binOp .eql 36 (.pointer (some ⟨S, 0, none⟩)) (.pointer (some ⟨S, 0, none⟩))).run Tryd.prog W = .ok (.bool true) W := by
  have h : (Tryd.prog.info? 46).isSome = true := by kernel_rfl
  obtain ⟨j, hj⟩ := Option.isSome_iff_exists.1 h
  exact run_eql_ptr_same W ⟨S, 0, none⟩ Tryd.underlying36 hj
theorem ptr_none (S : Nat) (W : World) : (binOp .eql 36 (.pointer none) (.pointer (some ⟨S, 0, none⟩))).run Tryd.prog W = .ok (.bool false) W := by
  have h : ∀ d : Nat, (Op.equalIn (d + 1) 36 (.pointer none) (.pointer (some ⟨S, 0, none⟩))).run Tryd.prog W = .ok false W := fun d => by
    simp [Op.equalIn, run_underlying Tryd.underlying36]
  simp only [binOp]
  simp [Op.equal, Op.maxDepth, h 9999]
set_option maxHeartbeats 400000 in
theorem valid_yes (w : World) (S : Nat) (l : List Int) (h : St w S l) : Calls Tryd.prog 49 #[.pointer (some ⟨S, 0, none⟩)] w fun e w' => e = .returned (.bool true) ∧ w = w' := by
  obtain ⟨_, c, _, hA⟩ := h
  have c0 : w.cell? ⟨S, 0, none⟩ = some (.pointer (some ⟨S, 0, none⟩)) := by rw [hA.cell]; rfl
  clear hA
  have hq := ptr_same S
  go_enter Tryd.func49, Tryd.ntmps49
  go_wp2
  go_ret
  exact ⟨rfl, rfl⟩
set_option maxHeartbeats 400000 in
theorem valid_nil (w : World) : Calls Tryd.prog 49 #[.pointer none] w fun e w' => e = .returned (.bool false) ∧ w = w' := by
  go_enter Tryd.func49, Tryd.ntmps49
  go_wp2
  go_ret
  exact ⟨rfl, rfl⟩
set_option maxHeartbeats 400000 in
theorem valid_no (w : World) (S : Nat) (c0 : w.cell? ⟨S, 0, none⟩ = some (.pointer none)) : Calls Tryd.prog 49 #[.pointer (some ⟨S, 0, none⟩)] w fun e w' => e = .returned (.bool false) ∧ w = w' := by
  have hq := ptr_none S
  go_enter Tryd.func49, Tryd.ntmps49
  go_wp2
  go_ret
  exact ⟨rfl, rfl⟩
/-- No state. -/
def NoSt (w : World) (p : Option Addr) : Prop := p = none ∨ ∃ S, p = some ⟨S, 0, none⟩ ∧ w.cell? ⟨S, 0, none⟩ = some (.pointer none)
theorem valid_none (w : World) (p : Option Addr) (h : NoSt w p) : Calls Tryd.prog 49 #[.pointer p] w fun e w' => e = .returned (.bool false) ∧ w = w' := by
  rcases h with rfl | ⟨S, rfl, hc⟩
  · exact valid_nil w
  · exact valid_no w S hc
set_option maxHeartbeats 400000 in
theorem swrite_none (w : World) (p : Option Addr) (h : NoSt w p) (a : Option Addr) (n c : Nat) : Calls Tryd.prog 23 #[.pointer p, .slice a n c] w fun e w' => e = .returned (.int .i64 1) ∧ w = w' := by
  have H := hide (fun W (k : NoSt W p) => valid_none W p k)
  have HN := hide h
  clear h
  go_enter Tryd.func23, Tryd.ntmps23
  go_wp2_with ((go_at_call 49; refine (H.out _ HN.out).mono ?_; rintro e w1 ⟨rfl, rfl⟩))
  go_ret
  exact ⟨rfl, rfl⟩
set_option maxHeartbeats 400000 in
theorem slen_none (w : World) (p : Option Addr) (h : NoSt w p) : Calls Tryd.prog 24 #[.pointer p] w fun e w' => e = .returned (.int .i64 0) ∧ w = w' := by
  have H := hide (fun W (k : NoSt W p) => valid_none W p k)
  have HN := hide h
  clear h
  go_enter Tryd.func24, Tryd.ntmps24
  go_wp2_with ((go_at_call 49; refine (H.out _ HN.out).mono ?_; rintro e w1 ⟨rfl, rfl⟩))
  go_ret
  exact ⟨rfl, rfl⟩
set_option maxRecDepth 10000 in
set_option maxHeartbeats 1000000 in
theorem swrite_any (w : World) (S : Nat) (l zs : List Int) (v : Value) (h : St w S l) (hb : BAt w S v zs) (hr : rng zs) (hg : Glob w) (hlen : l.length + zs.length < 4611686018427387904) :
    Calls Tryd.prog 23 #[.pointer (some ⟨S, 0, none⟩), v] w fun e w' => e = .returned (.int .i64 0) ∧ ∃ c', Dg (l ++ zs) c' ∧ Chg w S (me S ++ c') w' := by
  have H := hide (valid_yes w S l h)
  obtain ⟨h0, c, hDg, hA⟩ := h
  have HW := hide (write_any w S 1 46 (me S) l zs c v hA hDg rfl hb hr hg h0 hlen)
  obtain ⟨a0, cap0, rfl, _, _⟩ := hb
  clear hA hDg hr hg hlen
  go_enter Tryd.func23, Tryd.ntmps23
  go_wp2_with (first
    | (go_at_call 49; refine H.out.mono ?_; rintro e w1 ⟨rfl, rfl⟩)
    | (go_at_call 42; refine HW.out.mono ?_; rintro e w1 ⟨rfl, hw⟩; have HX := hide hw; clear hw))
  go_ret
  exact ⟨rfl, HX.out⟩
set_option maxHeartbeats 400000 in
theorem slen_any (w : World) (S : Nat) (l : List Int) (h : St w S l) (hl : l.length < 4611686018427387904) : Calls Tryd.prog 24 #[.pointer (some ⟨S, 0, none⟩)] w fun e w' => e = .returned (.int .i64 (l.length : Int)) ∧ w = w' := by
  have H := hide (valid_yes w S l h)
  obtain ⟨h0, c, hDg, hA⟩ := h
  have c1 : w.cell? ⟨S, 1, none⟩ = some (.int .u64 (l.length : Int)) := by
    obtain ⟨k, e, blk, _, _, rfl⟩ := hDg
    rw [hA.cell]
    rfl
  clear hA hDg
  go_enter Tryd.func24, Tryd.ntmps24
  go_wp2_with ((go_at_call 49; refine H.out.mono ?_; rintro e w1 ⟨rfl, rfl⟩))
  go_ret
  exact ⟨rfl, rfl⟩
end BlkK
end Go.Proofs.YtfmegeibnjmfpaaDoor
