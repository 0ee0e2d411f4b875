/-
  ValS, ValT, in one text.
-/
import Derived.Test.YtackcnncjeajpaaVal1
import Derived.Test.YtackcnncjeajpaaVal3
import Derived.Test.YtackcnncjeajpaaVal2
namespace Go.Proofs.Ytackcnncjeajpaa
namespace ValS
open Go.RowKit
open BlkM WirM WirS ValA ValB ValC ValD ValE ValF ValG ValH ValP ValI ValJ ValK ValL ValM ValN ValQ ValR ValZ
open WirRT (rng)

theorem sCx {P : Program} {ops : Array Oper} {rest : List Oper} {o : Oper} {a : Act} {w : World} {Q : Exit → Act → World → Prop} {f : FuncId} {args : Array Value} {R : Ending → World → Prop} (hw : Region.wanted o (yielded ops a.tmps) = true) (hrun : (execOp a.eval o).run P w = .ok (.enter f args) w)
    (hc : Calls P f args w R) (h : ∀ e w', R e w' → ∃ v, e = .returned v ∧ wpList P ops Q rest (a.put o.dst v) w') : wpList P ops Q (o :: rest) a w :=
  stepW hw fun _ hK => by
    unfold Oper.wp
    rw [hrun, Oper.upon_enter]
    exact hc.mono (by
      intro e w' hq
      obtain ⟨v, rfl, hh⟩ := h e w' hq
      exact hK _ _ hh)
/-- Pairs as they lie. -/
def pcells (ps : List (Int × Int)) : List Value := ps.flatMap fun x => [.int .i64 x.1, .int .i64 x.2]
theorem pcells_get : ∀ (ps : List (Int × Int)) (j : Nat) (x : Int × Int), ps[j]? = some x → (pcells ps)[2 * j]? = some (.int .i64 x.1) ∧ (pcells ps)[2 * j + 1]? = some (.int .i64 x.2)
  | [], j, x, h => by simp at h
  | y :: l, 0, x, h => by
    simp at h
    subst h
    simp [pcells]
  | y :: l, j + 1, x, h => by
    have ih := pcells_get l j x (by simpa using h)
    have e : pcells (y :: l) = .int .i64 y.1 :: .int .i64 y.2 :: pcells l := by simp [pcells]
    rw [e, show 2 * (j + 1) = 2 * j + 1 + 1 by omega]
    simpa using ih
def okP (ps : List (Int × Int)) : Bool := ps.all fun x => decide (0 ≤ x.1 ∧ x.1 < 256 ∧ -9223372036854775808 ≤ x.2 ∧ x.2 < 9223372036854775808)
theorem k_of (U : World) (ps : List (Int × Int)) (hok : okP ps = true) (h30 : ps.length ≤ 30) :
    Calls Try.prog 56 #[.slice (some ⟨U.heap.size, 0, none⟩) (2 * ps.length) (2 * ps.length)] (U.alloc (.cells (pcells ps).toArray 3)) fun e w' => ∃ va vc, e = .returned (.slice va ps.length vc) ∧ VIn w' va ps.length vc (vof ps) ∧ Below U.heap.size U w' := by
  have hA := At.new U 3 (pcells ps)
  have hB : Below U.heap.size U (U.alloc (.cells (pcells ps).toArray 3)) := Below.alloc (Below.refl _ _) (Nat.le_refl _) _
  refine (of_any _ U.heap.size (2 * ps.length) (2 * ps.length) ps ⟨rfl, hA.lt, fun j x hx => ?_, fun x hx => ?_⟩ h30).mono ?_
  · rw [hA.cell, hA.cell]
    exact pcells_get ps j x hx
  · have := List.all_eq_true.1 hok x hx
    simpa using this
  · rintro e w' ⟨va, vn, vc, rfl, ho, _, hb⟩
    have hv := ho.vin
    have hl := hv.len
    rw [show (vof ps).length = ps.length by simp [vof]] at hl
    subst hl
    exact ⟨va, vc, rfl, hv, hB.trans (hb.mono hB.size)⟩
theorem k_chk (U : World) (va : Option Addr) (n vc : Nat) (vs : List Vd) (c : Int) (h : VIn U va n vc vs) (hc : chk vs = c) : Calls Try.prog 58 #[.slice va n vc] U fun e w' => e = .returned (.int .i64 c) ∧ Below U.heap.size U w' := by
  subst hc
  exact check_any U va n vc vs h
theorem k_total (U : World) (va : Option Addr) (n vc : Nat) (vs : List Vd) (t : Int) (h : VIn U va n vc vs) (hc : chk vs = 0) (ht : sumP vs = t) (h0 : 0 ≤ t) (h1 : t < 18446744073709551616) : Calls Try.prog 65 #[.slice va n vc] U fun e w' => e = .returned (.tuple #[.agg #[.int .u64 0, .int .u64 t], .int .i64 0]) ∧ Below U.heap.size U w' := by
  have := total_ok U va n vc vs h hc
  unfold tell at this
  rw [ht, show t / 18446744073709551616 = 0 by omega, show t % 18446744073709551616 = t by omega] at this
  exact this
theorem k_find (U : World) (va : Option Addr) (n vc : Nat) (vs : List Vd) (kv : Vd) (at' : Int) (h : VIn U va n vc vs) (hk : ixK kv.key vs 0 = at') (h0 : 0 ≤ at') : Calls Try.prog 55 #[.slice va n vc, .agg #[.int .u8 kv.a, .int .u8 kv.b, .int .u8 kv.c, .int .u8 kv.d]] U fun e w' => e = .returned (.tuple #[.int .i64 at', .bool true]) ∧ Below U.heap.size U w' := by
  have := find_any U va n vc vs kv h
  rw [hk, if_pos h0, decide_eq_true h0] at this
  exact this
theorem k_enc (U : World) (va : Option Addr) (n vc : Nat) (vs : List Vd) (bs : List Int) (m : Nat) (h : VIn U va n vc vs) (hc : chk vs = 0) (he : enc vs = bs) (hm : bs.length = m) : Calls Try.prog 61 #[.slice va n vc] U fun e w' => ∃ ba bc, e = .returned (.tuple #[.slice ba m bc, .int .i64 0]) ∧ BIn w' (.slice ba m bc) bs ∧ Below U.heap.size U w' := by
  subst he
  refine (encode_ok U va n vc vs h hc).mono ?_
  rintro e w' ⟨ba, bn, bc, rfl, ho, _, hb⟩
  have hbin := ho.bin
  obtain ⟨_, _, e2, _⟩ := id hbin
  cases e2
  rw [hm] at hbin ⊢
  exact ⟨_, _, rfl, hbin, hb⟩
theorem k_dec (U : World) (va : Option Addr) (n vc : Nat) (bs : List Int) (vs : List Vd) (m : Nat) (h : BIn U (.slice va n vc) bs) (hr : rng bs) (hn : n ≤ 1099511627776) (hd : dec bs = ((0, 0), vs)) (hm : vs.length = m) : Calls Try.prog 48 #[.slice va n vc] U fun e w' => ∃ la lc, e = .returned (.tuple #[.slice la m lc, .agg #[.int .i64 0, .int .i64 0]]) ∧ VIn w' la m lc vs ∧ Below U.heap.size U w' := by
  refine (decode_any U va n vc bs h hr hn).mono ?_
  rintro e w' ⟨la, ln, lc, rfl, ho, _, hb⟩
  rw [hd] at ho ⊢
  have hv := ho.vin
  have hl := hv.len
  rw [hm] at hl
  subst hl
  exact ⟨_, _, rfl, hv, hb⟩
theorem k_sb (w : World) (a b : Option Addr) (n c m d : Nat) (zs : List Int) (hx : BIn w (.slice a n c) zs) (hy : BIn w (.slice b m d) zs) (rz : rng zs) :
    Calls Try.prog 26 #[.slice a n c, .slice b m d] w fun e w' => e = .returned (.bool true) ∧ w = w' :=
  (WirU.same_any w a b n c m d zs zs hx hy rz rz).mono fun _ _ ⟨h1, h2⟩ => ⟨by rw [h1]; simp, h2⟩
set_option maxRecDepth 10000 in
theorem changes_any (w : World) (a a2 a3 : Option Addr) (n c n2 c2 n3 c3 : Nat) (vs ch ws : List Vd) (er : Int) (h : VIn w a n c vs) (h2 : VIn w a2 n2 c2 ch) (h3 : VIn w a3 n3 c3 ws) (hn2 : n2 ≤ 1000000) (he : chgd vs ch = (er, ws)) :
    Calls Try.prog 60 #[.slice a n c, .slice a2 n2 c2, .slice a3 n3 c3, .int .i64 er] w fun e w' => e = .returned (.bool true) ∧ Below w.heap.size w w' := by
  have hC : Calls Try.prog 53 #[.slice a n c, .slice a2 n2 c2] w fun e w' => ∃ va vc, e = .returned (.tuple #[.slice va n3 vc, .int .i64 er]) ∧ VIn w' va n3 vc ws ∧ Below w.heap.size w w' := by
    refine (change_any w a a2 n c n2 c2 vs ch h h2 hn2).mono ?_
    rintro e w' ⟨va, vn, vc, rfl, ho, _, hb⟩
    rw [he] at ho ⊢
    have hv := ho.vin
    have hl := hv.len
    rw [h3.len] at hl
    subst hl
    exact ⟨_, _, rfl, hv, hb⟩
  have HC := WirS.hide hC
  have H3 := WirS.hide h3
  have hq : (er == er) = true := by simp
  clear hC h h2 h3 he
  go_enter Try.func60, Try.ntmps60
  go_wp2_with (first | (go_at_call 53; refine (HC.out).mono ?_; rintro e u ⟨va, vc, rfl, hv, hb⟩; have HV := WirS.hide hv; have HB := WirS.hide hb; clear hv hb) | (go_at_call 50; refine (same_any _ _ _ _ _ _ _ HV.out (H3.out.below HB.out)).mono ?_; rintro e u2 ⟨rfl, hb⟩; have HB2 := WirS.hide hb; clear hb))
  go_ret
  exact ⟨rfl, HB.out.trans (HB2.out.mono HB.out.size)⟩
theorem chgd_ok {vs ch : List Vd} (h1 : chk vs = 0) (h2 : chgE vs none ch = 0) : chgd vs ch = if (flt (mrg vs ch)).length = 0 then (6, []) else if 64 < (flt (mrg vs ch)).length then (7, []) else (0, flt (mrg vs ch)) := by
  unfold chgd
  rw [if_neg (by simp [h1]), if_neg (by simp [h2])]
theorem chgd_e {vs ch : List Vd} {c : Int} (h1 : chk vs = 0) (h2 : chgE vs none ch = c) (hc : c ≠ 0) : chgd vs ch = (c, []) := by
  unfold chgd
  rw [if_neg (by simp [h1]), if_pos (by rw [h2]; exact hc), h2]
theorem ch_1 : chgd (vof [(1, 5), (2, 7)]) (vof [(1, 0), (3, 2)]) = (0, vof [(2, 7), (3, 2)]) := by
  rw [chgd_ok (by kernel_rfl) (by kernel_rfl)]
  simp [mrg, vof, Vd.rk, flt]
theorem ch_2 : chgd (vof [(1, 5)]) (vof [(1, 0)]) = (6, []) := by
  rw [chgd_ok (by kernel_rfl) (by kernel_rfl)]
  simp [mrg, vof, Vd.rk, flt]
theorem ch_3 : chgd (vof [(1, 5)]) (vof [(2, 0)]) = (10, []) := chgd_e (by kernel_rfl) (by kernel_rfl) (by decide)
theorem ch_4 : chgd (vof [(1, 5)]) (vof [(1, 9)]) = (0, vof [(1, 9)]) := by
  rw [chgd_ok (by kernel_rfl) (by kernel_rfl)]
  simp [mrg, vof, Vd.rk, flt]
theorem ch_5 : chgd (vof [(1, 5)]) (vof [(3, 1), (2, 1)]) = (9, []) := chgd_e (by kernel_rfl) (by kernel_rfl) (by decide)
theorem enc_10 : enc (vof [(10, 5)]) = [1, 1, 0, 0, 0, 10, 1, 5] := by kernel_rfl
theorem dec_10 : dec [1, 1, 0, 0, 0, 10, 1, 5] = ((0, 0), vof [(10, 5)]) := by
  have := dec_whole (vs := vof [(10, 5)]) (by kernel_rfl) (fun x hx => by simp [vof] at hx; subst hx; exact ⟨by simp, by simp, by simp, by simp, by simp⟩) []
  rw [List.append_nil, enc_10, if_pos rfl] at this
  exact this
set_option maxRecDepth 10000 in
set_option maxHeartbeats 4000000 in
theorem awake_any (w : World) : Calls Try.prog 47 #[] w fun e w' => e = .returned (.bool true) ∧ Below w.heap.size w w' := by
  go_enter Try.func47, Try.ntmps47
  go_upto_region 1 with fail
  refine wp_region_lit ?_
  refine sV (.slice (some ⟨w.heap.size, 0, none⟩) 4 4) (w.alloc (.cells #[.int .i64 1, .int .i64 5, .int .i64 2, .int .i64 7] 3)) (by kernel_rfl) (by kernel_rfl) ?_
  simp only [Act.put, List.setIfInBounds_toArray, List.set_cons_succ, List.set_cons_zero]
  refine sCx (by kernel_rfl) (by kernel_rfl) (k_of w [(1, 5), (2, 7)] (by decide) (by decide)) ?_
  rintro e u1 ⟨va1, vc1, rfl, hv1, hb1⟩
  refine ⟨_, rfl, ?_⟩
  simp only [Act.put, List.setIfInBounds_toArray, List.set_cons_succ, List.set_cons_zero]
  refine sC (by kernel_rfl) (by kernel_rfl) (k_total u1 va1 2 vc1 _ 12 hv1 (by kernel_rfl) (by kernel_rfl) (by decide) (by decide)) ?_
  rintro u2 hb2
  simp only [Act.put, List.setIfInBounds_toArray, List.set_cons_succ, List.set_cons_zero]
  have hv1 := VIn.below hv1 hb2
  refine sV (.tuple #[.agg #[.int .u64 0, .int .u64 12], .int .i64 0]) (u2) (by kernel_rfl) (by kernel_rfl) ?_
  simp only [Act.put, List.setIfInBounds_toArray, List.set_cons_succ, List.set_cons_zero]
  have HBa := WirS.hide (hb1.trans (hb2.mono hb1.size))
  clear hb1 hb2 hv1
  go_upto_region 2 with fail
  obtain ⟨u3, e3⟩ : ∃ Y, Y = u2.alloc (.cells #[.int .u64 0, .int .u64 12] 98) := ⟨_, rfl⟩
  have hT1 : At u3 u2.heap.size 98 [.int .u64 0, .int .u64 12] := by rw [e3]; exact At.new u2 _ _
  have HBb := WirS.hide (show Below w.heap.size w u3 by rw [e3]; exact HBa.out.alloc HBa.out.size _)
  rw [← e3]
  clear e3
  generalize u2.heap.size = T1 at *
  refine wp_region_lit ?_
  refine sV (.slice (some ⟨u3.heap.size, 0, none⟩) 2 2) (u3.alloc (.cells #[.int .i64 10, .int .i64 5] 3)) (by kernel_rfl) (by kernel_rfl) ?_
  simp only [Act.put, List.setIfInBounds_toArray, List.set_cons_succ, List.set_cons_zero]
  refine sCx (by kernel_rfl) (by kernel_rfl) (k_of u3 [(10, 5)] (by decide) (by decide)) ?_
  rintro e u4 ⟨va4, vc4, rfl, hv4, hb4⟩
  refine ⟨_, rfl, ?_⟩
  simp only [Act.put, List.setIfInBounds_toArray, List.set_cons_succ, List.set_cons_zero]
  have hT1 := at_new hT1 hb4
  refine sCx (by kernel_rfl) (by kernel_rfl) (k_enc u4 va4 1 vc4 _ _ 8 hv4 (by kernel_rfl) enc_10 rfl) ?_
  rintro e u5 ⟨ba5, bc5, rfl, hn5, hb5⟩
  refine ⟨_, rfl, ?_⟩
  simp only [Act.put, List.setIfInBounds_toArray, List.set_cons_succ, List.set_cons_zero]
  have hT1 := at_new hT1 hb5
  have hv4 := VIn.below hv4 hb5
  refine sV (.tuple #[.slice ba5 8 bc5, .int .i64 0]) (u5) (by kernel_rfl) (by kernel_rfl) ?_
  simp only [Act.put, List.setIfInBounds_toArray, List.set_cons_succ, List.set_cons_zero]
  have HBc := WirS.hide (HBb.out.trans ((hb4.trans (hb5.mono hb4.size)).mono HBb.out.size))
  clear hb4 hb5 hv4
  go_upto_region 3 with fail
  refine wp_region_lit ?_
  refine sV (.slice ba5 8 bc5) (u5) (by kernel_rfl) (by kernel_rfl) ?_
  simp only [Act.put, List.setIfInBounds_toArray, List.set_cons_succ, List.set_cons_zero]
  refine sCx (by kernel_rfl) (by kernel_rfl) (k_dec u5 ba5 8 bc5 _ _ 1 hn5 (by decide) (by decide) dec_10 rfl) ?_
  rintro e u6 ⟨la6, lc6, rfl, hv6, hb6⟩
  refine ⟨_, rfl, ?_⟩
  simp only [Act.put, List.setIfInBounds_toArray, List.set_cons_succ, List.set_cons_zero]
  have hT1 := at_new hT1 hb6
  have hn5 := BIn.below hn5 hb6
  refine sV (.tuple #[.slice la6 1 lc6, .agg #[.int .i64 0, .int .i64 0]]) (u6) (by kernel_rfl) (by kernel_rfl) ?_
  simp only [Act.put, List.setIfInBounds_toArray, List.set_cons_succ, List.set_cons_zero]
  have HBd := WirS.hide (HBc.out.trans (hb6.mono HBc.out.size))
  have HBIN := WirS.hide hn5
  have HT1 := WirS.hide hT1
  have HV6 := WirS.hide hv6
  clear hb6 hn5 hT1 hv6
  go_upto_region 4 with fail
  obtain ⟨u7, e7⟩ : ∃ Y, Y = u6.alloc (.cells #[.int .i64 0, .int .i64 0] 55) := ⟨_, rfl⟩
  have h67 : Below u6.heap.size u6 u7 := by rw [e7]; exact Below.alloc (Below.refl _ _) (Nat.le_refl _) _
  have hT6 : At u7 u6.heap.size 55 [.int .i64 0, .int .i64 0] := by rw [e7]; exact At.new u6 _ _
  have HBe := WirS.hide (HBd.out.trans (h67.mono HBd.out.size))
  have hT1 := at_new HT1.out h67
  have hn5 := BIn.below HBIN.out h67
  have hv6 := VIn.below HV6.out h67
  rw [← e7]
  clear e7 h67
  generalize u6.heap.size = T6 at *
  refine wp_region_lit ?_
  refine sV (.slice (some ⟨u7.heap.size, 0, none⟩) 4 4) (u7.alloc (.cells #[.int .i64 1, .int .i64 5, .int .i64 2, .int .i64 7] 3)) (by kernel_rfl) (by kernel_rfl) ?_
  simp only [Act.put, List.setIfInBounds_toArray, List.set_cons_succ, List.set_cons_zero]
  refine sCx (by kernel_rfl) (by kernel_rfl) (k_of u7 [(1, 5), (2, 7)] (by decide) (by decide)) ?_
  rintro e u8 ⟨va8, vc8, rfl, hv8, hb8⟩
  refine ⟨_, rfl, ?_⟩
  simp only [Act.put, List.setIfInBounds_toArray, List.set_cons_succ, List.set_cons_zero]
  have hT1 := at_new hT1 hb8
  have hT6 := at_new hT6 hb8
  have hn5 := BIn.below hn5 hb8
  have hv6 := VIn.below hv6 hb8
  refine sC (by kernel_rfl) (by kernel_rfl) (k_chk u8 va8 2 vc8 _ 0 hv8 (by kernel_rfl)) ?_
  rintro u9 hb9
  simp only [Act.put, List.setIfInBounds_toArray, List.set_cons_succ, List.set_cons_zero]
  have hT1 := at_new hT1 hb9
  have hT6 := at_new hT6 hb9
  have hn5 := BIn.below hn5 hb9
  have hv6 := VIn.below hv6 hb9
  have hv8 := VIn.below hv8 hb9
  refine sV (.bool true) (u9) (by kernel_rfl) (by kernel_rfl) ?_
  simp only [Act.put, List.setIfInBounds_toArray, List.set_cons_succ, List.set_cons_zero]
  refine sV (.bool true) (u9) (by kernel_rfl) (by kernel_rfl) ?_
  simp only [Act.put, List.setIfInBounds_toArray, List.set_cons_succ, List.set_cons_zero]
  refine sL (by kernel_rfl) _ _ (by rfl) _ (by kernel_rfl) hT1 _ 2 Try.underlying98 rfl (by kernel_rfl) rfl ?_
  simp only [Act.put, List.setIfInBounds_toArray, List.set_cons_succ, List.set_cons_zero]
  refine sV (.agg #[.int .u64 0, .int .u64 12]) (u9) (by kernel_rfl) (by kernel_rfl) ?_
  simp only [Act.put, List.setIfInBounds_toArray, List.set_cons_succ, List.set_cons_zero]
  refine sV (.bool true) (u9) (by kernel_rfl) (by kernel_rfl) ?_
  simp only [Act.put, List.setIfInBounds_toArray, List.set_cons_succ, List.set_cons_zero]
  refine sV (.bool true) (u9) (by kernel_rfl) (by kernel_rfl) ?_
  simp only [Act.put, List.setIfInBounds_toArray, List.set_cons_succ, List.set_cons_zero]
  refine sV (.bool true) (u9) (by kernel_rfl) (by kernel_rfl) ?_
  simp only [Act.put, List.setIfInBounds_toArray, List.set_cons_succ, List.set_cons_zero]
  refine sV (.int .i64 0) (u9) (by kernel_rfl) (by kernel_rfl) ?_
  simp only [Act.put, List.setIfInBounds_toArray, List.set_cons_succ, List.set_cons_zero]
  refine sV (.bool true) (u9) (by kernel_rfl) (by kernel_rfl) ?_
  simp only [Act.put, List.setIfInBounds_toArray, List.set_cons_succ, List.set_cons_zero]
  refine sV (.bool true) (u9) (by kernel_rfl) (by kernel_rfl) ?_
  simp only [Act.put, List.setIfInBounds_toArray, List.set_cons_succ, List.set_cons_zero]
  refine sV (.bool true) (u9) (by kernel_rfl) (by kernel_rfl) ?_
  simp only [Act.put, List.setIfInBounds_toArray, List.set_cons_succ, List.set_cons_zero]
  refine sV (.int .i64 0) (u9) (by kernel_rfl) (by kernel_rfl) ?_
  simp only [Act.put, List.setIfInBounds_toArray, List.set_cons_succ, List.set_cons_zero]
  refine sV (.bool true) (u9) (by kernel_rfl) (by kernel_rfl) ?_
  simp only [Act.put, List.setIfInBounds_toArray, List.set_cons_succ, List.set_cons_zero]
  refine sV (.bool true) (u9) (by kernel_rfl) (by kernel_rfl) ?_
  simp only [Act.put, List.setIfInBounds_toArray, List.set_cons_succ, List.set_cons_zero]
  refine sV (.bool true) (u9) (by kernel_rfl) (by kernel_rfl) ?_
  simp only [Act.put, List.setIfInBounds_toArray, List.set_cons_succ, List.set_cons_zero]
  refine sV (.slice ba5 8 bc5) (u9) (by kernel_rfl) (by kernel_rfl) ?_
  simp only [Act.put, List.setIfInBounds_toArray, List.set_cons_succ, List.set_cons_zero]
  refine sV (.slice (some ⟨u9.heap.size, 0, none⟩) 8 8) (u9.alloc (.cells #[.int .u8 1, .int .u8 1, .int .u8 0, .int .u8 0, .int .u8 0, .int .u8 10, .int .u8 1, .int .u8 5] 5)) (by kernel_rfl) (by kernel_rfl) ?_
  simp only [Act.put, List.setIfInBounds_toArray, List.set_cons_succ, List.set_cons_zero]
  have hbl : Below u9.heap.size u9 (u9.alloc (.cells #[.int .u8 1, .int .u8 1, .int .u8 0, .int .u8 0, .int .u8 0, .int .u8 10, .int .u8 1, .int .u8 5] 5)) := Below.alloc (Below.refl _ _) (Nat.le_refl _) _
  have hSB := k_sb (u9.alloc (.cells #[.int .u8 1, .int .u8 1, .int .u8 0, .int .u8 0, .int .u8 0, .int .u8 10, .int .u8 1, .int .u8 5] 5)) ba5 (some ⟨u9.heap.size, 0, none⟩) 8 bc5 8 8 [1, 1, 0, 0, 0, 10, 1, 5] (BIn.below hn5 hbl) (BIn.new u9 5 [1, 1, 0, 0, 0, 10, 1, 5] 8 8 (0, 0) (by decide) (by decide)) (by decide)
  refine sC (by kernel_rfl) (by kernel_rfl) hSB ?_
  rintro u10 es10
  simp only [Act.put, List.setIfInBounds_toArray, List.set_cons_succ, List.set_cons_zero]
  have hb10 : Below u9.heap.size u9 u10 := by rw [← es10]; exact hbl
  have hT6 := at_new hT6 hb10
  have hv6 := VIn.below hv6 hb10
  clear es10 hbl hSB
  refine sV (.bool true) (u10) (by kernel_rfl) (by kernel_rfl) ?_
  simp only [Act.put, List.setIfInBounds_toArray, List.set_cons_succ, List.set_cons_zero]
  refine sV (.bool true) (u10) (by kernel_rfl) (by kernel_rfl) ?_
  simp only [Act.put, List.setIfInBounds_toArray, List.set_cons_succ, List.set_cons_zero]
  refine sL (by kernel_rfl) _ _ (by rfl) _ (by kernel_rfl) hT6 _ 2 Try.underlying55 rfl (by kernel_rfl) rfl ?_
  simp only [Act.put, List.setIfInBounds_toArray, List.set_cons_succ, List.set_cons_zero]
  refine sV (.agg #[.int .i64 0, .int .i64 0]) (u10) (by kernel_rfl) (by kernel_rfl) ?_
  simp only [Act.put, List.setIfInBounds_toArray, List.set_cons_succ, List.set_cons_zero]
  refine sV (.bool true) (u10) (by kernel_rfl) (by kernel_rfl) ?_
  simp only [Act.put, List.setIfInBounds_toArray, List.set_cons_succ, List.set_cons_zero]
  refine sV (.bool true) (u10) (by kernel_rfl) (by kernel_rfl) ?_
  simp only [Act.put, List.setIfInBounds_toArray, List.set_cons_succ, List.set_cons_zero]
  refine sV (.bool true) (u10) (by kernel_rfl) (by kernel_rfl) ?_
  simp only [Act.put, List.setIfInBounds_toArray, List.set_cons_succ, List.set_cons_zero]
  refine sV (.slice la6 1 lc6) (u10) (by kernel_rfl) (by kernel_rfl) ?_
  simp only [Act.put, List.setIfInBounds_toArray, List.set_cons_succ, List.set_cons_zero]
  refine sV (.slice (some ⟨u10.heap.size, 0, none⟩) 2 2) (u10.alloc (.cells #[.int .i64 10, .int .i64 5] 3)) (by kernel_rfl) (by kernel_rfl) ?_
  simp only [Act.put, List.setIfInBounds_toArray, List.set_cons_succ, List.set_cons_zero]
  refine sCx (by kernel_rfl) (by kernel_rfl) (k_of u10 [(10, 5)] (by decide) (by decide)) ?_
  rintro e u11 ⟨va11, vc11, rfl, hv11, hb11⟩
  refine ⟨_, rfl, ?_⟩
  simp only [Act.put, List.setIfInBounds_toArray, List.set_cons_succ, List.set_cons_zero]
  have hv6 := VIn.below hv6 hb11
  refine sC (by kernel_rfl) (by kernel_rfl) (same_any u11 la6 va11 1 lc6 vc11 _ hv6 hv11) ?_
  rintro u12 hb12
  simp only [Act.put, List.setIfInBounds_toArray, List.set_cons_succ, List.set_cons_zero]
  have hv6 := VIn.below hv6 hb12
  have hv11 := VIn.below hv11 hb12
  refine sV (.bool true) (u12) (by kernel_rfl) (by kernel_rfl) ?_
  simp only [Act.put, List.setIfInBounds_toArray, List.set_cons_succ, List.set_cons_zero]
  refine sV (.bool true) (u12) (by kernel_rfl) (by kernel_rfl) ?_
  simp only [Act.put, List.setIfInBounds_toArray, List.set_cons_succ, List.set_cons_zero]
  refine sV (.slice (some ⟨u12.heap.size, 0, none⟩) 4 4) (u12.alloc (.cells #[.int .i64 1, .int .i64 5, .int .i64 2, .int .i64 7] 3)) (by kernel_rfl) (by kernel_rfl) ?_
  simp only [Act.put, List.setIfInBounds_toArray, List.set_cons_succ, List.set_cons_zero]
  refine sCx (by kernel_rfl) (by kernel_rfl) (k_of u12 [(1, 5), (2, 7)] (by decide) (by decide)) ?_
  rintro e u13 ⟨va13, vc13, rfl, hv13, hb13⟩
  refine ⟨_, rfl, ?_⟩
  simp only [Act.put, List.setIfInBounds_toArray, List.set_cons_succ, List.set_cons_zero]
  refine sV (.slice (some ⟨u13.heap.size, 0, none⟩) 4 4) (u13.alloc (.cells #[.int .i64 1, .int .i64 0, .int .i64 3, .int .i64 2] 3)) (by kernel_rfl) (by kernel_rfl) ?_
  simp only [Act.put, List.setIfInBounds_toArray, List.set_cons_succ, List.set_cons_zero]
  refine sCx (by kernel_rfl) (by kernel_rfl) (k_of u13 [(1, 0), (3, 2)] (by decide) (by decide)) ?_
  rintro e u14 ⟨va14, vc14, rfl, hv14, hb14⟩
  refine ⟨_, rfl, ?_⟩
  simp only [Act.put, List.setIfInBounds_toArray, List.set_cons_succ, List.set_cons_zero]
  have hv13 := VIn.below hv13 hb14
  refine sV (.slice (some ⟨u14.heap.size, 0, none⟩) 4 4) (u14.alloc (.cells #[.int .i64 2, .int .i64 7, .int .i64 3, .int .i64 2] 3)) (by kernel_rfl) (by kernel_rfl) ?_
  simp only [Act.put, List.setIfInBounds_toArray, List.set_cons_succ, List.set_cons_zero]
  refine sCx (by kernel_rfl) (by kernel_rfl) (k_of u14 [(2, 7), (3, 2)] (by decide) (by decide)) ?_
  rintro e u15 ⟨va15, vc15, rfl, hv15, hb15⟩
  refine ⟨_, rfl, ?_⟩
  simp only [Act.put, List.setIfInBounds_toArray, List.set_cons_succ, List.set_cons_zero]
  have hv13 := VIn.below hv13 hb15
  have hv14 := VIn.below hv14 hb15
  refine sC (by kernel_rfl) (by kernel_rfl) (changes_any u15 va13 va14 va15 2 vc13 2 vc14 2 vc15 _ _ _ 0 hv13 hv14 hv15 (by decide) ch_1) ?_
  rintro u16 hb16
  simp only [Act.put, List.setIfInBounds_toArray, List.set_cons_succ, List.set_cons_zero]
  have hv13 := VIn.below hv13 hb16
  have hv14 := VIn.below hv14 hb16
  have hv15 := VIn.below hv15 hb16
  have HC8 := WirS.hide (HBe.out.trans (hb8.mono HBe.out.size))
  have HC9 := WirS.hide (HC8.out.trans (hb9.mono HC8.out.size))
  have HC10 := WirS.hide (HC9.out.trans (hb10.mono HC9.out.size))
  have HC11 := WirS.hide (HC10.out.trans (hb11.mono HC10.out.size))
  have HC12 := WirS.hide (HC11.out.trans (hb12.mono HC11.out.size))
  have HC13 := WirS.hide (HC12.out.trans (hb13.mono HC12.out.size))
  have HC14 := WirS.hide (HC13.out.trans (hb14.mono HC13.out.size))
  have HC15 := WirS.hide (HC14.out.trans (hb15.mono HC14.out.size))
  have HC16 := WirS.hide (HC15.out.trans (hb16.mono HC15.out.size))
  clear hb8 hb9 hb10 hb11 hb12 hb13 hb14 hb15 hb16
  go_wp2_with fail
  go_ret
  exact ⟨rfl, HC16.out⟩
end ValS
end Go.Proofs.Ytackcnncjeajpaa

namespace Go.Proofs.Ytackcnncjeajpaa
namespace ValT
open Go.RowKit
open BlkM WirM WirS ValA ValB ValC ValD ValE ValF ValG ValH ValP ValI ValJ ValK ValL ValM ValN ValQ ValR ValZ ValS
theorem many65 : chk (vmany 65) = 4 := by
  unfold chk
  rw [vmany_len]
  rfl
theorem k_many (U : World) (n : Nat) (hn : n ≤ 200) : Calls Try.prog 59 #[.int .i64 (n : Int)] U fun e w' => ∃ va vc, e = .returned (.slice va n vc) ∧ VIn w' va n vc (vmany n) ∧ Below U.heap.size U w' := by
  refine (many_any U n hn).mono ?_
  rintro e w' ⟨va, vn, vc, rfl, ho, _, hb⟩
  have hv := ho.vin
  have hl := hv.len
  rw [vmany_len] at hl
  subst hl
  exact ⟨_, _, rfl, hv, hb⟩
set_option maxRecDepth 10000 in
set_option maxHeartbeats 4000000 in
theorem known_any (w : World) : Calls Try.prog 11 #[] w fun e w' => e = .returned (.bool true) ∧ Below w.heap.size w w' := by
  go_enter Try.func11, Try.ntmps11
  go_upto_region 1 with fail
  refine wp_region_lit ?_
  refine sV (.slice (some ⟨w.heap.size, 0, none⟩) 4 4) (w.alloc (.cells #[.int .i64 1, .int .i64 5, .int .i64 2, .int .i64 7] 3)) (by kernel_rfl) (by kernel_rfl) ?_
  simp only [Act.put, List.setIfInBounds_toArray, List.set_cons_succ, List.set_cons_zero]
  refine sCx (by kernel_rfl) (by kernel_rfl) (k_of w [(1, 5), (2, 7)] (by decide) (by decide)) ?_
  rintro e u1 ⟨va1, vc1, rfl, hv1, hb1⟩
  refine ⟨_, rfl, ?_⟩
  simp only [Act.put, List.setIfInBounds_toArray, List.set_cons_succ, List.set_cons_zero]
  refine sC (by kernel_rfl) (by kernel_rfl) (key_any u1 2) ?_
  rintro u2 hb2
  simp only [Act.put, List.setIfInBounds_toArray, List.set_cons_succ, List.set_cons_zero]
  have hv1 := VIn.below hv1 hb2
  refine sC (by kernel_rfl) (by kernel_rfl) (k_find u2 va1 2 vc1 _ ⟨0, 0, 0, 2, 0⟩ 1 hv1 (by kernel_rfl) (by decide)) ?_
  rintro u3 hb3
  simp only [Act.put, List.setIfInBounds_toArray, List.set_cons_succ, List.set_cons_zero]
  have hv1 := VIn.below hv1 hb3
  refine sV (.tuple #[.int .i64 1, .bool true]) (u3) (by kernel_rfl) (by kernel_rfl) ?_
  simp only [Act.put, List.setIfInBounds_toArray, List.set_cons_succ, List.set_cons_zero]
  have HB0 := WirS.hide (Below.refl w.heap.size w)
  have HC1 := WirS.hide (HB0.out.trans (hb1.mono HB0.out.size))
  have HC2 := WirS.hide (HC1.out.trans (hb2.mono HC1.out.size))
  have HC3 := WirS.hide (HC2.out.trans (hb3.mono HC2.out.size))
  clear hb1 hb2 hb3
  clear hv1
  go_upto_region 2 with fail
  refine wp_region_lit ?_
  refine sC (by kernel_rfl) (by kernel_rfl) (k_chk u3 none 0 0 [] 6 (VIn.nil u3 none 0 (by decide)) (by kernel_rfl)) ?_
  rintro u4 hb4
  simp only [Act.put, List.setIfInBounds_toArray, List.set_cons_succ, List.set_cons_zero]
  refine sV (.bool true) (u4) (by kernel_rfl) (by kernel_rfl) ?_
  simp only [Act.put, List.setIfInBounds_toArray, List.set_cons_succ, List.set_cons_zero]
  refine sV (.bool true) (u4) (by kernel_rfl) (by kernel_rfl) ?_
  simp only [Act.put, List.setIfInBounds_toArray, List.set_cons_succ, List.set_cons_zero]
  refine sV (.slice (some ⟨u4.heap.size, 0, none⟩) 4 4) (u4.alloc (.cells #[.int .i64 2, .int .i64 1, .int .i64 1, .int .i64 1] 3)) (by kernel_rfl) (by kernel_rfl) ?_
  simp only [Act.put, List.setIfInBounds_toArray, List.set_cons_succ, List.set_cons_zero]
  refine sCx (by kernel_rfl) (by kernel_rfl) (k_of u4 [(2, 1), (1, 1)] (by decide) (by decide)) ?_
  rintro e u5 ⟨va5, vc5, rfl, hv5, hb5⟩
  refine ⟨_, rfl, ?_⟩
  simp only [Act.put, List.setIfInBounds_toArray, List.set_cons_succ, List.set_cons_zero]
  refine sC (by kernel_rfl) (by kernel_rfl) (k_chk u5 va5 2 vc5 _ 9 hv5 (by kernel_rfl)) ?_
  rintro u6 hb6
  simp only [Act.put, List.setIfInBounds_toArray, List.set_cons_succ, List.set_cons_zero]
  have hv5 := VIn.below hv5 hb6
  refine sV (.bool true) (u6) (by kernel_rfl) (by kernel_rfl) ?_
  simp only [Act.put, List.setIfInBounds_toArray, List.set_cons_succ, List.set_cons_zero]
  refine sV (.bool true) (u6) (by kernel_rfl) (by kernel_rfl) ?_
  simp only [Act.put, List.setIfInBounds_toArray, List.set_cons_succ, List.set_cons_zero]
  refine sV (.bool true) (u6) (by kernel_rfl) (by kernel_rfl) ?_
  simp only [Act.put, List.setIfInBounds_toArray, List.set_cons_succ, List.set_cons_zero]
  refine sV (.slice (some ⟨u6.heap.size, 0, none⟩) 4 4) (u6.alloc (.cells #[.int .i64 1, .int .i64 1, .int .i64 1, .int .i64 1] 3)) (by kernel_rfl) (by kernel_rfl) ?_
  simp only [Act.put, List.setIfInBounds_toArray, List.set_cons_succ, List.set_cons_zero]
  refine sCx (by kernel_rfl) (by kernel_rfl) (k_of u6 [(1, 1), (1, 1)] (by decide) (by decide)) ?_
  rintro e u7 ⟨va7, vc7, rfl, hv7, hb7⟩
  refine ⟨_, rfl, ?_⟩
  simp only [Act.put, List.setIfInBounds_toArray, List.set_cons_succ, List.set_cons_zero]
  refine sC (by kernel_rfl) (by kernel_rfl) (k_chk u7 va7 2 vc7 _ 9 hv7 (by kernel_rfl)) ?_
  rintro u8 hb8
  simp only [Act.put, List.setIfInBounds_toArray, List.set_cons_succ, List.set_cons_zero]
  have hv7 := VIn.below hv7 hb8
  refine sV (.bool true) (u8) (by kernel_rfl) (by kernel_rfl) ?_
  simp only [Act.put, List.setIfInBounds_toArray, List.set_cons_succ, List.set_cons_zero]
  refine sV (.bool true) (u8) (by kernel_rfl) (by kernel_rfl) ?_
  simp only [Act.put, List.setIfInBounds_toArray, List.set_cons_succ, List.set_cons_zero]
  refine sV (.bool true) (u8) (by kernel_rfl) (by kernel_rfl) ?_
  simp only [Act.put, List.setIfInBounds_toArray, List.set_cons_succ, List.set_cons_zero]
  refine sV (.slice (some ⟨u8.heap.size, 0, none⟩) 2 2) (u8.alloc (.cells #[.int .i64 1, .int .i64 0] 3)) (by kernel_rfl) (by kernel_rfl) ?_
  simp only [Act.put, List.setIfInBounds_toArray, List.set_cons_succ, List.set_cons_zero]
  refine sCx (by kernel_rfl) (by kernel_rfl) (k_of u8 [(1, 0)] (by decide) (by decide)) ?_
  rintro e u9 ⟨va9, vc9, rfl, hv9, hb9⟩
  refine ⟨_, rfl, ?_⟩
  simp only [Act.put, List.setIfInBounds_toArray, List.set_cons_succ, List.set_cons_zero]
  refine sC (by kernel_rfl) (by kernel_rfl) (k_chk u9 va9 1 vc9 _ 3 hv9 (by kernel_rfl)) ?_
  rintro u10 hb10
  simp only [Act.put, List.setIfInBounds_toArray, List.set_cons_succ, List.set_cons_zero]
  have hv9 := VIn.below hv9 hb10
  refine sV (.bool true) (u10) (by kernel_rfl) (by kernel_rfl) ?_
  simp only [Act.put, List.setIfInBounds_toArray, List.set_cons_succ, List.set_cons_zero]
  refine sV (.bool true) (u10) (by kernel_rfl) (by kernel_rfl) ?_
  simp only [Act.put, List.setIfInBounds_toArray, List.set_cons_succ, List.set_cons_zero]
  refine sV (.bool true) (u10) (by kernel_rfl) (by kernel_rfl) ?_
  simp only [Act.put, List.setIfInBounds_toArray, List.set_cons_succ, List.set_cons_zero]
  refine sCx (by kernel_rfl) (by kernel_rfl) (k_many u10 65 (by decide)) ?_
  rintro e u11 ⟨va11, vc11, rfl, hv11, hb11⟩
  refine ⟨_, rfl, ?_⟩
  simp only [Act.put, List.setIfInBounds_toArray, List.set_cons_succ, List.set_cons_zero]
  refine sC (by kernel_rfl) (by kernel_rfl) (k_chk u11 va11 65 vc11 _ 4 hv11 many65) ?_
  rintro u12 hb12
  simp only [Act.put, List.setIfInBounds_toArray, List.set_cons_succ, List.set_cons_zero]
  have hv11 := VIn.below hv11 hb12
  refine sV (.bool true) (u12) (by kernel_rfl) (by kernel_rfl) ?_
  simp only [Act.put, List.setIfInBounds_toArray, List.set_cons_succ, List.set_cons_zero]
  refine sV (.bool true) (u12) (by kernel_rfl) (by kernel_rfl) ?_
  simp only [Act.put, List.setIfInBounds_toArray, List.set_cons_succ, List.set_cons_zero]
  refine sV (.bool true) (u12) (by kernel_rfl) (by kernel_rfl) ?_
  simp only [Act.put, List.setIfInBounds_toArray, List.set_cons_succ, List.set_cons_zero]
  refine sV (.int .i64 1) (u12) (by kernel_rfl) (by kernel_rfl) ?_
  simp only [Act.put, List.setIfInBounds_toArray, List.set_cons_succ, List.set_cons_zero]
  refine sV (.bool true) (u12) (by kernel_rfl) (by kernel_rfl) ?_
  simp only [Act.put, List.setIfInBounds_toArray, List.set_cons_succ, List.set_cons_zero]
  refine sV (.bool true) (u12) (by kernel_rfl) (by kernel_rfl) ?_
  simp only [Act.put, List.setIfInBounds_toArray, List.set_cons_succ, List.set_cons_zero]
  refine sV (.bool true) (u12) (by kernel_rfl) (by kernel_rfl) ?_
  simp only [Act.put, List.setIfInBounds_toArray, List.set_cons_succ, List.set_cons_zero]
  refine sV (.bool true) (u12) (by kernel_rfl) (by kernel_rfl) ?_
  simp only [Act.put, List.setIfInBounds_toArray, List.set_cons_succ, List.set_cons_zero]
  refine sV (.bool true) (u12) (by kernel_rfl) (by kernel_rfl) ?_
  simp only [Act.put, List.setIfInBounds_toArray, List.set_cons_succ, List.set_cons_zero]
  have HC4 := WirS.hide (HC3.out.trans (hb4.mono HC3.out.size))
  have HC5 := WirS.hide (HC4.out.trans (hb5.mono HC4.out.size))
  have HC6 := WirS.hide (HC5.out.trans (hb6.mono HC5.out.size))
  have HC7 := WirS.hide (HC6.out.trans (hb7.mono HC6.out.size))
  have HC8 := WirS.hide (HC7.out.trans (hb8.mono HC7.out.size))
  have HC9 := WirS.hide (HC8.out.trans (hb9.mono HC8.out.size))
  have HC10 := WirS.hide (HC9.out.trans (hb10.mono HC9.out.size))
  have HC11 := WirS.hide (HC10.out.trans (hb11.mono HC10.out.size))
  have HC12 := WirS.hide (HC11.out.trans (hb12.mono HC11.out.size))
  clear hb4 hb5 hb6 hb7 hb8 hb9 hb10 hb11 hb12
  go_upto_region 3 with fail
  refine wp_region_lit ?_
  refine sV (.slice (some ⟨u12.heap.size, 0, none⟩) 2 2) (u12.alloc (.cells #[.int .i64 1, .int .i64 5] 3)) (by kernel_rfl) (by kernel_rfl) ?_
  simp only [Act.put, List.setIfInBounds_toArray, List.set_cons_succ, List.set_cons_zero]
  refine sCx (by kernel_rfl) (by kernel_rfl) (k_of u12 [(1, 5)] (by decide) (by decide)) ?_
  rintro e u13 ⟨va13, vc13, rfl, hv13, hb13⟩
  refine ⟨_, rfl, ?_⟩
  simp only [Act.put, List.setIfInBounds_toArray, List.set_cons_succ, List.set_cons_zero]
  refine sV (.slice (some ⟨u13.heap.size, 0, none⟩) 2 2) (u13.alloc (.cells #[.int .i64 1, .int .i64 0] 3)) (by kernel_rfl) (by kernel_rfl) ?_
  simp only [Act.put, List.setIfInBounds_toArray, List.set_cons_succ, List.set_cons_zero]
  refine sCx (by kernel_rfl) (by kernel_rfl) (k_of u13 [(1, 0)] (by decide) (by decide)) ?_
  rintro e u14 ⟨va14, vc14, rfl, hv14, hb14⟩
  refine ⟨_, rfl, ?_⟩
  simp only [Act.put, List.setIfInBounds_toArray, List.set_cons_succ, List.set_cons_zero]
  have hv13 := VIn.below hv13 hb14
  refine sC (by kernel_rfl) (by kernel_rfl) (changes_any u14 va13 va14 none 1 vc13 1 vc14 0 0 _ _ _ 6 hv13 hv14 (VIn.nil u14 none 0 (by decide)) (by decide) ch_2) ?_
  rintro u15 hb15
  simp only [Act.put, List.setIfInBounds_toArray, List.set_cons_succ, List.set_cons_zero]
  have hv13 := VIn.below hv13 hb15
  have hv14 := VIn.below hv14 hb15
  refine sV (.bool true) (u15) (by kernel_rfl) (by kernel_rfl) ?_
  simp only [Act.put, List.setIfInBounds_toArray, List.set_cons_succ, List.set_cons_zero]
  refine sV (.slice (some ⟨u15.heap.size, 0, none⟩) 2 2) (u15.alloc (.cells #[.int .i64 1, .int .i64 5] 3)) (by kernel_rfl) (by kernel_rfl) ?_
  simp only [Act.put, List.setIfInBounds_toArray, List.set_cons_succ, List.set_cons_zero]
  refine sCx (by kernel_rfl) (by kernel_rfl) (k_of u15 [(1, 5)] (by decide) (by decide)) ?_
  rintro e u16 ⟨va16, vc16, rfl, hv16, hb16⟩
  refine ⟨_, rfl, ?_⟩
  simp only [Act.put, List.setIfInBounds_toArray, List.set_cons_succ, List.set_cons_zero]
  refine sV (.slice (some ⟨u16.heap.size, 0, none⟩) 2 2) (u16.alloc (.cells #[.int .i64 2, .int .i64 0] 3)) (by kernel_rfl) (by kernel_rfl) ?_
  simp only [Act.put, List.setIfInBounds_toArray, List.set_cons_succ, List.set_cons_zero]
  refine sCx (by kernel_rfl) (by kernel_rfl) (k_of u16 [(2, 0)] (by decide) (by decide)) ?_
  rintro e u17 ⟨va17, vc17, rfl, hv17, hb17⟩
  refine ⟨_, rfl, ?_⟩
  simp only [Act.put, List.setIfInBounds_toArray, List.set_cons_succ, List.set_cons_zero]
  have hv16 := VIn.below hv16 hb17
  refine sC (by kernel_rfl) (by kernel_rfl) (changes_any u17 va16 va17 none 1 vc16 1 vc17 0 0 _ _ _ 10 hv16 hv17 (VIn.nil u17 none 0 (by decide)) (by decide) ch_3) ?_
  rintro u18 hb18
  simp only [Act.put, List.setIfInBounds_toArray, List.set_cons_succ, List.set_cons_zero]
  have hv16 := VIn.below hv16 hb18
  have hv17 := VIn.below hv17 hb18
  refine sV (.bool true) (u18) (by kernel_rfl) (by kernel_rfl) ?_
  simp only [Act.put, List.setIfInBounds_toArray, List.set_cons_succ, List.set_cons_zero]
  refine sV (.bool true) (u18) (by kernel_rfl) (by kernel_rfl) ?_
  simp only [Act.put, List.setIfInBounds_toArray, List.set_cons_succ, List.set_cons_zero]
  refine sV (.slice (some ⟨u18.heap.size, 0, none⟩) 2 2) (u18.alloc (.cells #[.int .i64 1, .int .i64 5] 3)) (by kernel_rfl) (by kernel_rfl) ?_
  simp only [Act.put, List.setIfInBounds_toArray, List.set_cons_succ, List.set_cons_zero]
  refine sCx (by kernel_rfl) (by kernel_rfl) (k_of u18 [(1, 5)] (by decide) (by decide)) ?_
  rintro e u19 ⟨va19, vc19, rfl, hv19, hb19⟩
  refine ⟨_, rfl, ?_⟩
  simp only [Act.put, List.setIfInBounds_toArray, List.set_cons_succ, List.set_cons_zero]
  refine sV (.slice (some ⟨u19.heap.size, 0, none⟩) 2 2) (u19.alloc (.cells #[.int .i64 1, .int .i64 9] 3)) (by kernel_rfl) (by kernel_rfl) ?_
  simp only [Act.put, List.setIfInBounds_toArray, List.set_cons_succ, List.set_cons_zero]
  refine sCx (by kernel_rfl) (by kernel_rfl) (k_of u19 [(1, 9)] (by decide) (by decide)) ?_
  rintro e u20 ⟨va20, vc20, rfl, hv20, hb20⟩
  refine ⟨_, rfl, ?_⟩
  simp only [Act.put, List.setIfInBounds_toArray, List.set_cons_succ, List.set_cons_zero]
  have hv19 := VIn.below hv19 hb20
  refine sV (.slice (some ⟨u20.heap.size, 0, none⟩) 2 2) (u20.alloc (.cells #[.int .i64 1, .int .i64 9] 3)) (by kernel_rfl) (by kernel_rfl) ?_
  simp only [Act.put, List.setIfInBounds_toArray, List.set_cons_succ, List.set_cons_zero]
  refine sCx (by kernel_rfl) (by kernel_rfl) (k_of u20 [(1, 9)] (by decide) (by decide)) ?_
  rintro e u21 ⟨va21, vc21, rfl, hv21, hb21⟩
  refine ⟨_, rfl, ?_⟩
  simp only [Act.put, List.setIfInBounds_toArray, List.set_cons_succ, List.set_cons_zero]
  have hv19 := VIn.below hv19 hb21
  have hv20 := VIn.below hv20 hb21
  refine sC (by kernel_rfl) (by kernel_rfl) (changes_any u21 va19 va20 va21 1 vc19 1 vc20 1 vc21 _ _ _ 0 hv19 hv20 hv21 (by decide) ch_4) ?_
  rintro u22 hb22
  simp only [Act.put, List.setIfInBounds_toArray, List.set_cons_succ, List.set_cons_zero]
  have hv19 := VIn.below hv19 hb22
  have hv20 := VIn.below hv20 hb22
  have hv21 := VIn.below hv21 hb22
  refine sV (.bool true) (u22) (by kernel_rfl) (by kernel_rfl) ?_
  simp only [Act.put, List.setIfInBounds_toArray, List.set_cons_succ, List.set_cons_zero]
  refine sV (.bool true) (u22) (by kernel_rfl) (by kernel_rfl) ?_
  simp only [Act.put, List.setIfInBounds_toArray, List.set_cons_succ, List.set_cons_zero]
  refine sV (.slice (some ⟨u22.heap.size, 0, none⟩) 2 2) (u22.alloc (.cells #[.int .i64 1, .int .i64 5] 3)) (by kernel_rfl) (by kernel_rfl) ?_
  simp only [Act.put, List.setIfInBounds_toArray, List.set_cons_succ, List.set_cons_zero]
  refine sCx (by kernel_rfl) (by kernel_rfl) (k_of u22 [(1, 5)] (by decide) (by decide)) ?_
  rintro e u23 ⟨va23, vc23, rfl, hv23, hb23⟩
  refine ⟨_, rfl, ?_⟩
  simp only [Act.put, List.setIfInBounds_toArray, List.set_cons_succ, List.set_cons_zero]
  refine sV (.slice (some ⟨u23.heap.size, 0, none⟩) 4 4) (u23.alloc (.cells #[.int .i64 3, .int .i64 1, .int .i64 2, .int .i64 1] 3)) (by kernel_rfl) (by kernel_rfl) ?_
  simp only [Act.put, List.setIfInBounds_toArray, List.set_cons_succ, List.set_cons_zero]
  refine sCx (by kernel_rfl) (by kernel_rfl) (k_of u23 [(3, 1), (2, 1)] (by decide) (by decide)) ?_
  rintro e u24 ⟨va24, vc24, rfl, hv24, hb24⟩
  refine ⟨_, rfl, ?_⟩
  simp only [Act.put, List.setIfInBounds_toArray, List.set_cons_succ, List.set_cons_zero]
  have hv23 := VIn.below hv23 hb24
  refine sC (by kernel_rfl) (by kernel_rfl) (changes_any u24 va23 va24 none 1 vc23 2 vc24 0 0 _ _ _ 9 hv23 hv24 (VIn.nil u24 none 0 (by decide)) (by decide) ch_5) ?_
  rintro u25 hb25
  simp only [Act.put, List.setIfInBounds_toArray, List.set_cons_succ, List.set_cons_zero]
  have hv23 := VIn.below hv23 hb25
  have hv24 := VIn.below hv24 hb25
  refine sV (.bool true) (u25) (by kernel_rfl) (by kernel_rfl) ?_
  simp only [Act.put, List.setIfInBounds_toArray, List.set_cons_succ, List.set_cons_zero]
  have HC13 := WirS.hide (HC12.out.trans (hb13.mono HC12.out.size))
  have HC14 := WirS.hide (HC13.out.trans (hb14.mono HC13.out.size))
  have HC15 := WirS.hide (HC14.out.trans (hb15.mono HC14.out.size))
  have HC16 := WirS.hide (HC15.out.trans (hb16.mono HC15.out.size))
  have HC17 := WirS.hide (HC16.out.trans (hb17.mono HC16.out.size))
  have HC18 := WirS.hide (HC17.out.trans (hb18.mono HC17.out.size))
  have HC19 := WirS.hide (HC18.out.trans (hb19.mono HC18.out.size))
  have HC20 := WirS.hide (HC19.out.trans (hb20.mono HC19.out.size))
  have HC21 := WirS.hide (HC20.out.trans (hb21.mono HC20.out.size))
  have HC22 := WirS.hide (HC21.out.trans (hb22.mono HC21.out.size))
  have HC23 := WirS.hide (HC22.out.trans (hb23.mono HC22.out.size))
  have HC24 := WirS.hide (HC23.out.trans (hb24.mono HC23.out.size))
  have HC25 := WirS.hide (HC24.out.trans (hb25.mono HC24.out.size))
  clear hb13 hb14 hb15 hb16 hb17 hb18 hb19 hb20 hb21 hb22 hb23 hb24 hb25
  go_wp2_with (go_at_call 47; refine (awake_any _).mono ?_; rintro e uz ⟨rfl, hb⟩; have HZ := WirS.hide hb; clear hb)
  go_ret
  exact ⟨rfl, HC25.out.trans (HZ.out.mono HC25.out.size)⟩
end ValT
end Go.Proofs.Ytackcnncjeajpaa

