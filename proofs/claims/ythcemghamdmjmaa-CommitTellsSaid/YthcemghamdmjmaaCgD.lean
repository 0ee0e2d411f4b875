/-
  CmN, CmO, CmQ, in one text.
-/
import Derived.Test.YthcemghamdmjmaaCgC
namespace Go.Proofs.Ythcemghamdmjmaa
namespace CmN
open Go.RowKit
open BlkM WirM WirS CmA CmP CmB CmE CmI CmJ CmK CmL
open WirX (Thg Bag)
open WirAA (box bag_box bag_set)
open WirAB (sCx)

def MidS (w : World) (n : Nat) (s i : Value) (U : World) : Prop := ∃ k : Nat, k ≤ n ∧ s = .bool true ∧ i = .int .i64 (k : Int) ∧ Below w.heap.size w U
set_option maxRecDepth 10000 in
set_option maxHeartbeats 2000000 in
theorem sv_any (w : World) (a b : Option Addr) (n c d : Nat) (vs : List Vt) (h : VtIn w a n c vs) (h' : VtIn w b n d vs) :
    Calls Try.prog 170 #[.slice a n c, .slice b n d] w fun e w' => e = .returned (.bool true) ∧ Below w.heap.size w w' := by
  have hns : n ≤ 9223372036854775807 := Nat.le_trans h.cap h.small
  have H := WirS.hide h
  have H' := WirS.hide h'
  clear h h'
  go_enter Try.func170, Try.ntmps170
  go_wp2_with fail
  go_loopw [5, 6] (fun s i wr => MidS w n s i wr) (fun _ i _ => n - (intOf i).toNat)
  case atStart => exact ⟨0, Nat.zero_le _, by simp, rfl, Below.refl _ _⟩
  case round =>
    obtain ⟨k, hk, rfl, rfl, hB⟩ := hrel
    by_cases hlt : k < n
    · obtain ⟨x, B, o, hx, hmem, rfl, hBl, hr⟩ := (H.out.below hB).cell hlt
      obtain ⟨y, B', o', hy, hmem', rfl, hBl', hr'⟩ := (H'.out.below hB).cell hlt
      obtain rfl : x = y := by rw [hx] at hy; exact Option.some.inj hy
      have r0 : wr.cell? ⟨B, o + k * 2, none⟩ = some (.int .i64 x.at') := hr 0 _ rfl
      have r1 : wr.cell? ⟨B, o + k * 2 + 1, none⟩ = some (.int .u64 x.sg) := hr 1 _ rfl
      have s0 : wr.cell? ⟨B', o' + k * 2, none⟩ = some (.int .i64 x.at') := hr' 0 _ rfl
      have s1 : wr.cell? ⟨B', o' + k * 2 + 1, none⟩ = some (.int .u64 x.sg) := hr' 1 _ rfl
      have hkl : (k : Int) < (n : Int) := by omega
      have HB := WirS.hide hB
      have hq : ∀ W, (binOp .eql TV (.agg #[.int .i64 x.at', .int .u64 x.sg]) (.agg #[.int .i64 x.at', .int .u64 x.sg])).run Try.prog W = .ok (.bool true) W := fun W => by rw [eq_vote]; simp
      clear hr hx hB hmem hr' hmem' hy
      go_upto_region 5 with fail
      go_quiet (fail)
      go_wp2_with fail
      go_roundw
      case rel => exact ⟨k + 1, by omega, rfl, by go_num, by first | exact below_drewN (below_drewN HB.out _) _ | exact below_drewN HB.out _⟩
      case measure => simp [intOf]; omega
    · have HB := WirS.hide hB
      clear hB
      go_wp2_with fail
      go_ret
      exact ⟨rfl, HB.out⟩
theorem eqI64 (a : Int) (W : World) : (binOp .eql 3 (.int .i64 a) (.int .i64 a)).run Try.prog W = .ok (.bool true) W := by
  simp [binOp, go_sem]
theorem eqE (a : Int) (W : World) : (binOp .eql 26 (.int .i64 a) (.int .i64 a)).run Try.prog W = .ok (.bool true) W := by
  simp [binOp, go_sem]
set_option maxRecDepth 10000 in
set_option maxHeartbeats 4000000 in
theorem sc_any (w : World) (ht : Int) (h : List Int) (a b : Option Addr) (n c d : Nat) (vs : List Vt) (hl : h.length = 32) (h1 : VtIn w a n c vs) (h2 : VtIn w b n d vs) :
    Calls Try.prog 74 #[.agg (ccl ht h (.slice a n c)).toArray, .agg (ccl ht h (.slice b n d)).toArray] w fun e w' => e = .returned (.bool true) ∧ Below w.heap.size w w' := by
  have HL := WirS.hide hl
  have HSV := WirS.hide (fun U (hU : Below w.heap.size w U) => sv_any U a b n c d vs (h1.below hU) (h2.below hU))
  have HQ := WirS.hide (fun W => show (binOp .eql 34 (.agg (b8 h).toArray) (.agg (b8 h).toArray)).run Try.prog W = .ok (.bool true) W from by rw [WirBE.eqHg h h hl hl W]; simp)
  have hbX := bag_box (w0 := w) (T := TC) (cs := ccl ht h (.slice a n c)) (X := w.heap.size) (Bag.nil (Below.refl _ _)) rfl (w' := w.alloc (.cells (ccl ht h (.slice a n c)).toArray TC)) (At.new _ _ _) (Below.alloc (Below.refl _ _) (Nat.le_refl _) _)
  clear hl h1 h2
  go_enter Try.func74, Try.ntmps74
  go_upto_region 0 with fail
  refine wp_region_lit ?_
  refine sV (.pointer (some ⟨w.heap.size, 0, none⟩)) (w.alloc (.cells (ccl ht h (.slice a n c)).toArray TC)) (by kernel_rfl) (by kernel_rfl) ?_
  simp only [Act.put, List.setIfInBounds_toArray, List.set_cons_succ, List.set_cons_zero]
  obtain ⟨X, eX⟩ : ∃ A, w.heap.size = A := ⟨_, rfl⟩
  rw [eX] at hbX ⊢
  clear eX
  generalize World.alloc w _ = x0 at *
  refine sV (.pointer (some ⟨x0.heap.size, 0, none⟩)) (x0.alloc (.cells (ccl ht h (.slice b n d)).toArray TC)) (by kernel_rfl) (by kernel_rfl) ?_
  simp only [Act.put, List.setIfInBounds_toArray, List.set_cons_succ, List.set_cons_zero]
  obtain ⟨Y, eY⟩ : ∃ A, x0.heap.size = A := ⟨_, rfl⟩
  have hbY := bag_box (T := TC) (cs := ccl ht h (.slice b n d)) (X := Y) hbX eY.symm (w' := x0.alloc (.cells (ccl ht h (.slice b n d)).toArray TC)) (by rw [← eY]; exact At.new _ _ _) (Below.alloc (Below.refl _ _) (Nat.le_refl _) _)
  rw [eY]
  clear eY hbX
  generalize World.alloc x0 _ = x1 at *
  have H1 := WirS.hide hbY
  clear hbY
  go_upto_region 1 with fail
  refine wp_region_lit ?_
  refine sV (.pointer (some ⟨X, 0, none⟩)) (x1) (by kernel_rfl) (by kernel_rfl) ?_
  simp only [Act.put, List.setIfInBounds_toArray, List.set_cons_succ, List.set_cons_zero]
  refine sP (by kernel_rfl) _ _ (by rfl) ⟨X, 0, none⟩ (by kernel_rfl) (.int .i64 ht) (H1.out.drop.head.cell 0) (by kernel_rfl) ?_
  simp only [Act.put, List.setIfInBounds_toArray, List.set_cons_succ, List.set_cons_zero]
  refine sV (.pointer (some ⟨Y, 0, none⟩)) (x1) (by kernel_rfl) (by kernel_rfl) ?_
  simp only [Act.put, List.setIfInBounds_toArray, List.set_cons_succ, List.set_cons_zero]
  refine sP (by kernel_rfl) _ _ (by rfl) ⟨Y, 0, none⟩ (by kernel_rfl) (.int .i64 ht) (H1.out.head.cell 0) (by kernel_rfl) ?_
  simp only [Act.put, List.setIfInBounds_toArray, List.set_cons_succ, List.set_cons_zero]
  refine sB (by kernel_rfl) .eql _ _ _ _ (by rfl) (.int .i64 ht) (.int .i64 ht) (by kernel_rfl) (by kernel_rfl) (.bool true) (eqI64 ht x1) (by kernel_rfl) ?_
  simp only [Act.put, List.setIfInBounds_toArray, List.set_cons_succ, List.set_cons_zero]
  refine sV (.bool true) (x1) (by kernel_rfl) (by kernel_rfl) ?_
  simp only [Act.put, List.setIfInBounds_toArray, List.set_cons_succ, List.set_cons_zero]
  refine sV (.pointer (some ⟨X, 1, none⟩)) (x1) (by kernel_rfl) (by kernel_rfl) ?_
  simp only [Act.put, List.setIfInBounds_toArray, List.set_cons_succ, List.set_cons_zero]
  refine wpList_load_mid' (by kernel_rfl) _ _ (by rfl) X 1 (by kernel_rfl) (b8 h) _ (range_hash H1.out.drop.head) Try.underlying34 (by rfl) (by rw [b8_len, HL.out]; kernel_rfl) ?_
  simp only [Act.put, List.setIfInBounds_toArray, List.set_cons_succ, List.set_cons_zero]
  refine sV (.pointer (some ⟨Y, 1, none⟩)) (x1) (by kernel_rfl) (by kernel_rfl) ?_
  simp only [Act.put, List.setIfInBounds_toArray, List.set_cons_succ, List.set_cons_zero]
  refine wpList_load_mid' (by kernel_rfl) _ _ (by rfl) Y 1 (by kernel_rfl) (b8 h) _ (range_hash H1.out.head) Try.underlying34 (by rfl) (by rw [b8_len, HL.out]; kernel_rfl) ?_
  simp only [Act.put, List.setIfInBounds_toArray, List.set_cons_succ, List.set_cons_zero]
  refine sB (by kernel_rfl) .eql _ _ _ _ (by rfl) (.agg (b8 h).toArray) (.agg (b8 h).toArray) (by kernel_rfl) (by kernel_rfl) (.bool true) (HQ.out x1) (by kernel_rfl) ?_
  simp only [Act.put, List.setIfInBounds_toArray, List.set_cons_succ, List.set_cons_zero]
  refine sV (.bool true) (x1) (by kernel_rfl) (by kernel_rfl) ?_
  simp only [Act.put, List.setIfInBounds_toArray, List.set_cons_succ, List.set_cons_zero]
  refine sV (.bool true) (x1) (by kernel_rfl) (by kernel_rfl) ?_
  simp only [Act.put, List.setIfInBounds_toArray, List.set_cons_succ, List.set_cons_zero]
  refine sV (.pointer (some ⟨X, 33, none⟩)) (x1) (by kernel_rfl) (by kernel_rfl) ?_
  simp only [Act.put, List.setIfInBounds_toArray, List.set_cons_succ, List.set_cons_zero]
  refine sP (by kernel_rfl) _ _ (by rfl) ⟨X, 33, none⟩ (by kernel_rfl) (.slice a n c) ((H1.out.drop.head.cell 33).trans (ccl_33 _ _ _ HL.out)) (by kernel_rfl) ?_
  simp only [Act.put, List.setIfInBounds_toArray, List.set_cons_succ, List.set_cons_zero]
  refine sV (.pointer (some ⟨Y, 33, none⟩)) (x1) (by kernel_rfl) (by kernel_rfl) ?_
  simp only [Act.put, List.setIfInBounds_toArray, List.set_cons_succ, List.set_cons_zero]
  refine sP (by kernel_rfl) _ _ (by rfl) ⟨Y, 33, none⟩ (by kernel_rfl) (.slice b n d) ((H1.out.head.cell 33).trans (ccl_33 _ _ _ HL.out)) (by kernel_rfl) ?_
  simp only [Act.put, List.setIfInBounds_toArray, List.set_cons_succ, List.set_cons_zero]
  refine sC (R := fun w' => Below x1.heap.size x1 w') (by kernel_rfl) (by kernel_rfl) (HSV.out x1 H1.out.low) ?_
  rintro x2 hb
  simp only [Act.put, List.setIfInBounds_toArray, List.set_cons_succ, List.set_cons_zero]
  have HB := WirS.hide (H1.out.low.trans (hb.mono H1.out.low.size))
  clear hb H1
  refine sV (.bool true) (x2) (by kernel_rfl) (by kernel_rfl) ?_
  simp only [Act.put, List.setIfInBounds_toArray, List.set_cons_succ, List.set_cons_zero]
  go_wp2_with fail
  go_ret
  exact ⟨rfl, HB.out⟩
/-- The chapter's hash. -/
abbrev hh1 : List Int := 1 :: List.replicate 31 0
/-- Numbers in turns: a vote's place and signature. -/
def nums (ps : List Vt) : List Value := ps.flatMap fun p => [.int .i64 p.at', .int .i64 p.sg]
theorem nums_len : ∀ ps : List Vt, (nums ps).length = ps.length * 2
  | [] => rfl
  | x :: l => by
    have : nums (x :: l) = [.int .i64 x.at', .int .i64 x.sg] ++ nums l := by simp [nums]
    rw [this, List.length_append, nums_len l, List.length_cons]
    simp
    omega
theorem nums_get : ∀ (ps : List Vt) (k : Nat) (x : Vt), ps[k]? = some x → (nums ps)[2 * k]? = some (.int .i64 x.at') ∧ (nums ps)[2 * k + 1]? = some (.int .i64 x.sg)
  | [], k, x, h => by simp at h
  | y :: l, 0, x, h => by
    simp at h
    subst h
    exact ⟨rfl, rfl⟩
  | y :: l, k + 1, x, h => by
    have h' : l[k]? = some x := by simpa using h
    have e : nums (y :: l) = .int .i64 y.at' :: .int .i64 y.sg :: nums l := by simp [nums]
    obtain ⟨h1, h2⟩ := nums_get l k x h'
    rw [e, show 2 * (k + 1) = 2 * k + 1 + 1 by omega]
    exact ⟨h1, h2⟩
/-- What of makes. -/
def OfP (w : World) (ht : Int) (ps : List Vt) (e : Ending) (w' : World) : Prop := ∃ a n c, e = .returned (.agg (ccl ht hh1 (.slice a n c)).toArray) ∧ OwnT w' (.slice a n c) ps ∧ NewB w (.slice a n c) ∧ Below w.heap.size w w'
abbrev TI : TypeId := 77
theorem ixI (B n c j : Nat) (hj : j < n) (W : World) : (Instr.indexAt TI (.slice (some ⟨B, 0, none⟩) n c) (.int .i64 (j : Int))).run Try.prog W = .ok (.pointer (some ⟨B, j, none⟩)) W := by
  have hs : (sizeOf (Try.prog.elem TI)).run Try.prog W = .ok 1 W := by kernel_rfl
  simp [Instr.indexAt, run_underlying Try.underlying77, asIntOf, go_sem]
  intro h
  omega
theorem opI (a : Operand → Value) (ob : Oper) (x y : Operand) (B n c j : Nat) (ho : ob.op = Op.indexAddr TI x y) (hx : a x = .slice (some ⟨B, 0, none⟩) n c) (hy : a y = .int .i64 (j : Int)) (hj : j < n) (W : World) :
    (execOp a ob).run Try.prog W = .ok (.value (.pointer (some ⟨B, j, none⟩))) W := by
  unfold execOp
  rw [ho]
  simp only [hx, hy]
  simp only [Sem.run_bind, ixI B n c j hj W, Result.andThen_ok, Sem.run_pure]
theorem conv_u (a : Operand → Value) (ob : Oper) (x : Operand) (n : Int) (h0 : 0 ≤ n) (h1 : n < 18446744073709551616) (ho : ob.op = Op.convert 3 37 x) (hx : a x = .int .i64 n) (W : World) : (execOp a ob).run Try.prog W = .ok (.value (.int .u64 n)) W := by
  have e : n = IntKind.u64.wrap n := by rw [IntKind.wrap_u64]; omega
  unfold execOp
  rw [ho]
  simp only [hx]
  conv => rhs; rw [e]
  kernel_rfl
/-- append, as a step. -/
theorem wp_append {P : Program} {o : Oper} {a : Act} {w : World} {K : Act → World → Prop} {Q : Exit → Act → World → Prop} (t tx : TypeId) (x y : Operand) (ho : o.op = .call { callee := .builtin .append, args := #[x, y], argTypes := #[t, tx] }) (v s : Value) (hx : a.eval x = v) (hy : a.eval y = s)
    (v' : Value) (w' : World) (hr : (Builtin.append_ #[t, tx] o.type #[v, s]).run P w = .ok v' w') (h : K (a.put o.dst v') w') : o.wp P a w K Q := by
  unfold Oper.wp execOp
  simp only [ho, resolve, invoke, builtin, Sem.run_bind, Sem.run_pure, Result.andThen_ok, List.map_toArray, List.map_cons, List.map_nil, hx, hy, hr]
  exact h
def MidO (w : World) (_B R X : Nat) (ht : Int) (ps : List Vt) (_c0 : Nat) (i : Value) (U : World) : Prop :=
  ∃ (k : Nat) (a : Option Addr) (n c : Nat), k ≤ ps.length ∧ i = .int .i64 ((2 * k : Nat) : Int) ∧ Bag w U [ownt (.slice a n c) (ps.take k), box TC X (ccl ht hh1 (.slice a n c)), box TC R zcm]
set_option maxRecDepth 10000 in
set_option maxHeartbeats 8000000 in
theorem of_any (w : World) (B c0 : Nat) (ht : Int) (ps : List Vt) (hB : At w B 3 (nums ps)) (hlen : ps.length ≤ 10) (hok : ∀ x ∈ ps, x.ok) :
    Calls Try.prog 78 #[.int .i64 ht, .slice (some ⟨B, 0, none⟩) (2 * ps.length) c0] w (OfP w ht ps) := by
  have HB := WirS.hide hB
  have hBl := hB.lt
  have HOK := WirS.hide hok
  have hbR := bag_box (w0 := w) (T := TC) (cs := zcm) (X := w.heap.size) (Bag.nil (Below.refl _ _)) rfl (w' := w.alloc (.cells zcm.toArray TC)) (At.new _ _ _) (Below.alloc (Below.refl _ _) (Nat.le_refl _) _)
  obtain ⟨L, hL⟩ : ∃ L, 2 * ps.length = L := ⟨_, rfl⟩
  rw [hL]
  have HLE := WirS.hide hL
  have HL20 := WirS.hide (show L ≤ 20 by omega)
  have HLN := WirS.hide hlen
  clear hB hok hL hlen
  go_enter Try.func78, Try.ntmps78
  go_upto_region 0 with fail
  refine wp_region_lit ?_
  refine sV (.pointer (some ⟨w.heap.size, 0, none⟩)) (w.alloc (.cells zcm.toArray TC)) (by kernel_rfl) (by kernel_rfl) ?_
  simp only [Act.put, List.setIfInBounds_toArray, List.set_cons_succ, List.set_cons_zero]
  obtain ⟨R, eR⟩ : ∃ A, w.heap.size = A := ⟨_, rfl⟩
  rw [eR] at hbR ⊢
  clear eR
  generalize World.alloc w _ = x0 at *
  go_upto_region 1 with fail
  refine wp_region_lit ?_
  refine sV (.int .i64 ht) (x0) (by kernel_rfl) (by kernel_rfl) ?_
  simp only [Act.put, List.setIfInBounds_toArray, List.set_cons_succ, List.set_cons_zero]
  refine sV (.agg (b8 hh1).toArray) (x0) (by kernel_rfl) (by kernel_rfl) ?_
  simp only [Act.put, List.setIfInBounds_toArray, List.set_cons_succ, List.set_cons_zero]
  refine sV (.agg (ccl ht hh1 (.slice none 0 0)).toArray) (x0) (by kernel_rfl) (by kernel_rfl) ?_
  simp only [Act.put, List.setIfInBounds_toArray, List.set_cons_succ, List.set_cons_zero]
  refine sV (.pointer (some ⟨x0.heap.size, 0, none⟩)) (x0.alloc (.cells zcm.toArray TC)) (by kernel_rfl) (by kernel_rfl) ?_
  simp only [Act.put, List.setIfInBounds_toArray, List.set_cons_succ, List.set_cons_zero]
  obtain ⟨X, eX⟩ : ∃ A, x0.heap.size = A := ⟨_, rfl⟩
  have hbX := bag_box (T := TC) (cs := zcm) (X := X) hbR eX.symm (w' := x0.alloc (.cells zcm.toArray TC)) (by rw [← eX]; exact At.new _ _ _) (Below.alloc (Below.refl _ _) (Nat.le_refl _) _)
  rw [eX]
  clear eX hbR
  generalize World.alloc x0 _ = x1 at *
  refine stepStore (by rfl) _ _ _ (by rfl) X (ccl ht hh1 (.slice none 0 0)) (by kernel_rfl) (by kernel_rfl) hbX.head 34 (by kernel_rfl) (by rfl) (by rfl) (one_ccl _ _ _ _ _) ?_
  simp only [Act.put]
  have hb2 := bag_row hbX (ccl ht hh1 (.slice none 0 0))
  clear hbX
  generalize World.setRow x1 X _ = x2 at *
  have HST := WirS.hide (show MidO w B R X ht ps c0 (.int .i64 0) x2 from ⟨0, none, 0, 0, Nat.zero_le _, rfl, by rw [List.take_zero]; exact bag_ownt hb2 (OwnT.nil x2) (fun k hk => by simp [Value.ownBlock] at hk) (Below.refl _ _)⟩)
  clear hb2
  go_wp2_with fail
  go_loopw [6] (fun i wr => MidO w B R X ht ps c0 i wr) (fun i _ => L - (intOf i).toNat)
  case atStart => exact HST.out
  case round =>
    clear HST
    obtain ⟨k, a, n, c, hk, rfl, hbag⟩ := hrel
    have HBG := WirS.hide hbag
    have HK := WirS.hide hk
    clear hbag hk
    obtain ⟨j, hj⟩ : ∃ j, 2 * k = j := ⟨_, rfl⟩
    rw [hj]
    obtain ⟨j1, hj1⟩ : ∃ m, j + 1 = m := ⟨_, rfl⟩
    have hL20 := HL20.out
    have hkk : j ≤ L := by have := HK.out; have := HLE.out; omega
    have f1 : IntKind.i64.wrap ((j : Int) + 1) = (j1 : Int) := by rw [IntWalk.i64_in _ (by omega)]; omega
    by_cases hlt : j1 < L
    · have hlt2 : (j1 : Int) < (L : Int) := by omega
      have hkp : k < ps.length := by have := HLE.out; omega
      obtain ⟨x, hx⟩ : ∃ x, ps[k]? = some x := ⟨_, List.getElem?_eq_getElem hkp⟩
      obtain ⟨g1, g2⟩ := nums_get ps k x hx
      rw [hj] at g1 g2
      rw [hj1] at g2
      have hxo := HOK.out x (List.mem_of_getElem? hx)
      have hnl : n = (ps.take k).length := by obtain ⟨va, vc, e⟩ := HBG.out.head.len_of; cases e; rfl
      have hn10 : n ≤ 10 := by rw [hnl, List.length_take]; have := HLN.out; omega
      have htk : ps.take k ++ [x] = ps.take (k + 1) := by rw [List.take_add_one, hx]; rfl
      have HTK := WirS.hide htk
      have HSH : Hid (∀ (U : World), Below w.heap.size w U → (U.cell? ⟨B, j, none⟩ = some (.int .i64 x.at') ∧ U.cell? ⟨B, j1, none⟩ = some (.int .i64 x.sg))) := WirS.hide (fun U hU => ⟨(hU.cell (p := ⟨B, j, none⟩) hBl).trans ((HB.out.cell j).trans g1), (hU.cell (p := ⟨B, j1, none⟩) hBl).trans ((HB.out.cell j1).trans g2)⟩)
      have hsx : 0 ≤ x.sg ∧ x.sg < 18446744073709551616 := hxo.s
      have HXO := WirS.hide hxo
      have HZ : Hid (Bag w wr.drew [ownt (.slice a n c) (ps.take k), box TC X (ccl ht hh1 (.slice a n c)), box TC R zcm]) := WirS.hide (HBG.out.more (below_drewN (Below.refl _ _) 1))
      have HJ := WirS.hide (And.intro hj hj1)
      have HNL := WirS.hide hnl
      have hjl : j < L := by omega
      clear HBG hx g1 g2 hxo htk hnl hkp hj hj1
      go_upto_region 5 with fail
      refine wp_region_noPanic ?_
      refine wp_region_held_drew (S := fun w' => w'.cell? ⟨B, j, none⟩ = some (.int .i64 x.at') ∧ w'.cell? ⟨B, j1, none⟩ = some (.int .i64 x.sg)) (by kernel_rfl) (HSH.out _ HZ.out.low) (fun hHeld => ?_)
      generalize World.drew wr = z0 at *
      refine' wpAnyH_take (i := 0) (oi := _) (v := .pointer (some ⟨X, 33, none⟩)) rfl (by kernel_rfl) (by kernel_rfl) (by kernel_rfl) (fun _ _ _ h => h) (Or.inl ⟨by kernel_rfl, ?hy0⟩) (by assumption) ?rest0
      case hy0 =>
        intro W _
        kernel_rfl
      case rest0 =>
      try simp only [List.getElem_toArray, List.getElem_cons_zero, Act.put, List.setIfInBounds_toArray, List.set_cons_zero, List.set_cons_succ]
      refine' wpAnyH_take (i := 2) (oi := _) (v := .slice (some ⟨B, 0, none⟩) L c0) rfl (by kernel_rfl) (by kernel_rfl) (by kernel_rfl) (fun _ _ _ h => h) (Or.inl ⟨by kernel_rfl, ?hy2⟩) (by assumption) ?rest2
      case hy2 =>
        intro W _
        kernel_rfl
      case rest2 =>
      try simp only [List.getElem_toArray, List.getElem_cons_succ, List.getElem_cons_zero, Act.put, List.setIfInBounds_toArray, List.set_cons_zero, List.set_cons_succ]
      refine' wpAnyH_take (i := 3) (oi := _) (v := .int .i64 (j : Int)) rfl (by kernel_rfl) (by kernel_rfl) (by kernel_rfl) (fun _ _ _ h => h) (Or.inl ⟨by kernel_rfl, ?hy3⟩) (by assumption) ?rest3
      case hy3 =>
        intro W _
        kernel_rfl
      case rest3 =>
      try simp only [List.getElem_toArray, List.getElem_cons_succ, List.getElem_cons_zero, Act.put, List.setIfInBounds_toArray, List.set_cons_zero, List.set_cons_succ]
      refine' wpAnyH_take (i := 4) (oi := _) (v := .pointer (some ⟨B, j, none⟩)) rfl (by kernel_rfl) (by kernel_rfl) (by kernel_rfl) (fun _ _ _ h => h) (Or.inl ⟨by kernel_rfl, ?hy4⟩) (by assumption) ?rest4
      case hy4 =>
        intro W _
        exact (fun W => opI _ _ _ _ B L c0 j rfl (by kernel_rfl) (by kernel_rfl) hjl W) W
      case rest4 =>
      try simp only [List.getElem_toArray, List.getElem_cons_succ, List.getElem_cons_zero, Act.put, List.setIfInBounds_toArray, List.set_cons_zero, List.set_cons_succ]
      refine' wpAnyH_take (i := 5) (oi := _) (v := _) rfl (by kernel_rfl) (by kernel_rfl) (by kernel_rfl) (fun _ _ _ h => h) (Or.inl ⟨by kernel_rfl, ?hy5⟩) (by assumption) ?rest5
      case hy5 =>
        intro w hSw
        try dsimp only at hSw
        go_simp
        try with_reducible rfl
      case rest5 =>
      try simp only [List.getElem_toArray, List.getElem_cons_succ, List.getElem_cons_zero, Act.put, List.setIfInBounds_toArray, List.set_cons_zero, List.set_cons_succ]
      refine' wpAnyH_take (i := 6) (oi := _) (v := .slice (some ⟨B, 0, none⟩) L c0) rfl (by kernel_rfl) (by kernel_rfl) (by kernel_rfl) (fun _ _ _ h => h) (Or.inl ⟨by kernel_rfl, ?hy6⟩) (by assumption) ?rest6
      case hy6 =>
        intro W _
        kernel_rfl
      case rest6 =>
      try simp only [List.getElem_toArray, List.getElem_cons_succ, List.getElem_cons_zero, Act.put, List.setIfInBounds_toArray, List.set_cons_zero, List.set_cons_succ]
      refine' wpAnyH_take (i := 7) (oi := _) (v := .int .i64 (j : Int)) rfl (by kernel_rfl) (by kernel_rfl) (by kernel_rfl) (fun _ _ _ h => h) (Or.inl ⟨by kernel_rfl, ?hy7⟩) (by assumption) ?rest7
      case hy7 =>
        intro W _
        kernel_rfl
      case rest7 =>
      try simp only [List.getElem_toArray, List.getElem_cons_succ, List.getElem_cons_zero, Act.put, List.setIfInBounds_toArray, List.set_cons_zero, List.set_cons_succ]
      refine' wpAnyH_take (i := 8) (oi := _) (v := .int .i64 (j1 : Int)) rfl (by kernel_rfl) (by kernel_rfl) (by kernel_rfl) (fun _ _ _ h => h) (Or.inl ⟨by kernel_rfl, ?hy8⟩) (by assumption) ?rest8
      case hy8 =>
        intro W _
        exact (fun W => by rw [← f1]; kernel_rfl) W
      case rest8 =>
      try simp only [List.getElem_toArray, List.getElem_cons_succ, List.getElem_cons_zero, Act.put, List.setIfInBounds_toArray, List.set_cons_zero, List.set_cons_succ]
      refine' wpAnyH_take (i := 9) (oi := _) (v := .pointer (some ⟨B, j1, none⟩)) rfl (by kernel_rfl) (by kernel_rfl) (by kernel_rfl) (fun _ _ _ h => h) (Or.inl ⟨by kernel_rfl, ?hy9⟩) (by assumption) ?rest9
      case hy9 =>
        intro W _
        exact (fun W => opI _ _ _ _ B L c0 j1 rfl (by kernel_rfl) (by kernel_rfl) hlt W) W
      case rest9 =>
      try simp only [List.getElem_toArray, List.getElem_cons_succ, List.getElem_cons_zero, Act.put, List.setIfInBounds_toArray, List.set_cons_zero, List.set_cons_succ]
      refine' wpAnyH_take (i := 10) (oi := _) (v := _) rfl (by kernel_rfl) (by kernel_rfl) (by kernel_rfl) (fun _ _ _ h => h) (Or.inl ⟨by kernel_rfl, ?hy10⟩) (by assumption) ?rest10
      case hy10 =>
        intro w hSw
        try dsimp only at hSw
        go_simp
        try with_reducible rfl
      case rest10 =>
      try simp only [List.getElem_toArray, List.getElem_cons_succ, List.getElem_cons_zero, Act.put, List.setIfInBounds_toArray, List.set_cons_zero, List.set_cons_succ]
      refine' wpAnyH_take (i := 11) (oi := _) (v := .int .u64 x.sg) rfl (by kernel_rfl) (by kernel_rfl) (by kernel_rfl) (fun _ _ _ h => h) (Or.inl ⟨by kernel_rfl, ?hy11⟩) (by assumption) ?rest11
      case hy11 =>
        intro W _
        exact (fun W => conv_u _ _ _ x.sg hsx.1 hsx.2 rfl (by kernel_rfl) W) W
      case rest11 =>
      try simp only [List.getElem_toArray, List.getElem_cons_succ, List.getElem_cons_zero, Act.put, List.setIfInBounds_toArray, List.set_cons_zero, List.set_cons_succ]
      refine' wpAnyH_take (i := 12) (oi := _) (v := .agg x.cells.toArray) rfl (by kernel_rfl) (by kernel_rfl) (by kernel_rfl) (fun _ _ _ h => h) (Or.inl ⟨by kernel_rfl, ?hy12⟩) (by assumption) ?rest12
      case hy12 =>
        intro W _
        kernel_rfl
      case rest12 =>
      try simp only [List.getElem_toArray, List.getElem_cons_succ, List.getElem_cons_zero, Act.put, List.setIfInBounds_toArray, List.set_cons_zero, List.set_cons_succ]
      refine wpAnyH_ready (rs := [1, 13]) (by kernel_rfl) (by simp) ?_
      refine AllReadyH.cons rfl (fun K hK => ?_) (AllReadyH.cons rfl (fun K hK => ?_) AllReadyH.nil)
      · rw [if_pos (by kernel_rfl)]
        refine wp_load_cell TL (.tmp 17) (by kernel_rfl) ⟨X, 33, none⟩ (.slice a n c) (by kernel_rfl) (((show At _ X TC (ccl ht hh1 (.slice a n c)) from (HZ.out.all (box TC X (ccl ht hh1 (.slice a n c))) (by simp)).1).cell 33).trans (ccl_33 _ _ _ rfl)) (by kernel_rfl) ?_
        try simp only [List.getElem_toArray, List.getElem_cons_succ, List.getElem_cons_zero, Act.put, List.setIfInBounds_toArray, List.set_cons_zero, List.set_cons_succ]
        refine hK.out _ _ (HSH.out _ HZ.out.low) (fun hHeld => ?_)
        clear hK K
        refine wpAnyH_ready (rs := [13]) (by kernel_rfl) (by simp) ?_
        refine AllReadyH.cons rfl (fun K hK => ?_) AllReadyH.nil
        rw [if_pos (by kernel_rfl)]
        refine wp_value (w' := z0.alloc (.cells x.cells.toArray TV)) (.slice (some ⟨z0.heap.size, 0, none⟩) 1 1) (by kernel_rfl) ?_
        try simp only [List.getElem_toArray, List.getElem_cons_succ, List.getElem_cons_zero, Act.put, List.setIfInBounds_toArray, List.set_cons_zero, List.set_cons_succ]
        obtain ⟨V, eV⟩ : ∃ A, z0.heap.size = A := ⟨_, rfl⟩
        have hbV := (bag_box (T := TV) (cs := x.cells) (X := V) HZ.out eV.symm (w' := z0.alloc (.cells x.cells.toArray TV)) (by rw [← eV]; exact At.new _ _ _) (Below.alloc (Below.refl _ _) (Nat.le_refl _) _)).last
        rw [eV]
        clear eV
        generalize World.alloc z0 _ = u1 at *
        have HV := WirS.hide hbV
        clear hbV HZ
        refine hK.out _ _ (HSH.out _ HV.out.low) (fun hHeld => ?_)
        clear hK K
        refine wpAnyH_ready (rs := [14]) (by kernel_rfl) (by simp) ?_
        refine AllReadyH.cons rfl (fun K hK => ?_) AllReadyH.nil
        rw [if_pos (by kernel_rfl)]
        obtain ⟨v', u9, hrun, ho, hf, hnw⟩ := app_votes u1 TL TL (.slice a n c) (.slice (some ⟨V, 0, none⟩) 1 1) (ps.take k) [x] HV.out.head (src_1 (HV.out.all (box TV V x.cells) (by simp)).1) (fun y hy => by rw [List.mem_singleton.1 hy]; exact HXO.out) (by have := HNL.out; simp only [List.length_singleton]; omega)
        obtain ⟨ia, ic, rfl⟩ := ho.len_of
        rw [HTK.out] at ho hrun hnw
        obtain ⟨im, him⟩ : ∃ m, (ps.take (k + 1)).length = m := ⟨_, rfl⟩
        rw [him] at ho hrun hnw
        have HB9 := WirS.hide (HV.out.act (o' := ownt (.slice ia im ic) (ps.take (k + 1))) hf ho hnw)
        clear ho hf hnw HV him
        refine wp_append TL TL (.tmp 18) (.tmp 30) (by kernel_rfl) (.slice a n c) (.slice (some ⟨V, 0, none⟩) 1 1) (by kernel_rfl) (by kernel_rfl) _ _ hrun ?_
        try simp only [List.getElem_toArray, List.getElem_cons_succ, List.getElem_cons_zero, Act.put, List.setIfInBounds_toArray, List.set_cons_zero, List.set_cons_succ]
        clear hrun
        refine hK.out _ _ (HSH.out _ HB9.out.low) (fun hHeld => ?_)
        clear hK K
        refine' wpAnyH_take (i := 15) (oi := _) (v := .pointer (some ⟨X, 33, none⟩)) rfl (by kernel_rfl) (by kernel_rfl) (by kernel_rfl) (fun _ _ _ h => h) (Or.inl ⟨by kernel_rfl, ?hy15⟩) (by assumption) ?rest15
        case hy15 =>
          intro W _
          kernel_rfl
        case rest15 =>
        try simp only [List.getElem_toArray, List.getElem_cons_succ, List.getElem_cons_zero, Act.put, List.setIfInBounds_toArray, List.set_cons_zero, List.set_cons_succ]
        refine wpAnyH_ready (rs := [16]) (by kernel_rfl) (by simp) ?_
        refine AllReadyH.cons rfl (fun K hK => ?_) AllReadyH.nil
        rw [if_pos (by kernel_rfl)]
        have HB8 := WirS.hide HB9.out.swap
        clear HB9
        refine store_sl (x := .tmp 32) (y := .tmp 31) (by kernel_rfl) X 33 ia im ic _ (by kernel_rfl) (by kernel_rfl) (HB8.out.head.cell 33) (by rw [ccl_33 _ _ _ rfl]; rfl) (HB8.out.head.frozen 33) ?_
        have hb9 := bag_set HB8.out 33 (.slice ia im ic)
        rw [ccl_set _ _ _ _ rfl] at hb9
        have HBE := WirS.hide (show Bag w _ [ownt (.slice ia im ic) (ps.take (k + 1)), box TC X (ccl ht hh1 (.slice ia im ic)), box TC R zcm] from ⟨hb9.low, fun o ho => hb9.all o (by simp at ho; rcases ho with rfl | rfl | rfl <;> simp), (by have h := hb9.swap.apart; exact h.sublist (by simp))⟩)
        clear hb9 HB8
        refine hK.out _ _ (HSH.out _ HBE.out.low) (fun hHeld => ?_)
        clear hK K
        try simp only [Act.put]
        refine wpAnyH_done (by kernel_rfl) ?_ _
        refine NoPanic.normal ?_
        clear hHeld
        generalize World.setCell u9 _ _ = y1 at *
        clear f1
        go_wp2_with fail
        go_roundw
        case rel => exact ⟨k + 1, ia, im, ic, by have := HLE.out; have := HJ.out; omega, by have := HJ.out; go_num, HBE.out⟩
        case measure => simp [intOf]; omega
      · rw [if_pos (by kernel_rfl)]
        refine wp_value (w' := z0.alloc (.cells x.cells.toArray TV)) (.slice (some ⟨z0.heap.size, 0, none⟩) 1 1) (by kernel_rfl) ?_
        try simp only [List.getElem_toArray, List.getElem_cons_succ, List.getElem_cons_zero, Act.put, List.setIfInBounds_toArray, List.set_cons_zero, List.set_cons_succ]
        obtain ⟨V, eV⟩ : ∃ A, z0.heap.size = A := ⟨_, rfl⟩
        have hbV := (bag_box (T := TV) (cs := x.cells) (X := V) HZ.out eV.symm (w' := z0.alloc (.cells x.cells.toArray TV)) (by rw [← eV]; exact At.new _ _ _) (Below.alloc (Below.refl _ _) (Nat.le_refl _) _)).last
        rw [eV]
        clear eV
        generalize World.alloc z0 _ = u1 at *
        have HV := WirS.hide hbV
        clear hbV HZ
        refine hK.out _ _ (HSH.out _ HV.out.low) (fun hHeld => ?_)
        clear hK K
        refine wpAnyH_ready (rs := [1]) (by kernel_rfl) (by simp) ?_
        refine AllReadyH.cons rfl (fun K hK => ?_) AllReadyH.nil
        rw [if_pos (by kernel_rfl)]
        refine wp_load_cell TL (.tmp 17) (by kernel_rfl) ⟨X, 33, none⟩ (.slice a n c) (by kernel_rfl) (((show At _ X TC (ccl ht hh1 (.slice a n c)) from (HV.out.all (box TC X (ccl ht hh1 (.slice a n c))) (by simp)).1).cell 33).trans (ccl_33 _ _ _ rfl)) (by kernel_rfl) ?_
        try simp only [List.getElem_toArray, List.getElem_cons_succ, List.getElem_cons_zero, Act.put, List.setIfInBounds_toArray, List.set_cons_zero, List.set_cons_succ]
        refine hK.out _ _ (HSH.out _ HV.out.low) (fun hHeld => ?_)
        clear hK K
        refine wpAnyH_ready (rs := [14]) (by kernel_rfl) (by simp) ?_
        refine AllReadyH.cons rfl (fun K hK => ?_) AllReadyH.nil
        rw [if_pos (by kernel_rfl)]
        obtain ⟨v', u9, hrun, ho, hf, hnw⟩ := app_votes u1 TL TL (.slice a n c) (.slice (some ⟨V, 0, none⟩) 1 1) (ps.take k) [x] HV.out.head (src_1 (HV.out.all (box TV V x.cells) (by simp)).1) (fun y hy => by rw [List.mem_singleton.1 hy]; exact HXO.out) (by have := HNL.out; simp only [List.length_singleton]; omega)
        obtain ⟨ia, ic, rfl⟩ := ho.len_of
        rw [HTK.out] at ho hrun hnw
        obtain ⟨im, him⟩ : ∃ m, (ps.take (k + 1)).length = m := ⟨_, rfl⟩
        rw [him] at ho hrun hnw
        have HB9 := WirS.hide (HV.out.act (o' := ownt (.slice ia im ic) (ps.take (k + 1))) hf ho hnw)
        clear ho hf hnw HV him
        refine wp_append TL TL (.tmp 18) (.tmp 30) (by kernel_rfl) (.slice a n c) (.slice (some ⟨V, 0, none⟩) 1 1) (by kernel_rfl) (by kernel_rfl) _ _ hrun ?_
        try simp only [List.getElem_toArray, List.getElem_cons_succ, List.getElem_cons_zero, Act.put, List.setIfInBounds_toArray, List.set_cons_zero, List.set_cons_succ]
        clear hrun
        refine hK.out _ _ (HSH.out _ HB9.out.low) (fun hHeld => ?_)
        clear hK K
        refine' wpAnyH_take (i := 15) (oi := _) (v := .pointer (some ⟨X, 33, none⟩)) rfl (by kernel_rfl) (by kernel_rfl) (by kernel_rfl) (fun _ _ _ h => h) (Or.inl ⟨by kernel_rfl, ?hy15⟩) (by assumption) ?rest15
        case hy15 =>
          intro W _
          kernel_rfl
        case rest15 =>
        try simp only [List.getElem_toArray, List.getElem_cons_succ, List.getElem_cons_zero, Act.put, List.setIfInBounds_toArray, List.set_cons_zero, List.set_cons_succ]
        refine wpAnyH_ready (rs := [16]) (by kernel_rfl) (by simp) ?_
        refine AllReadyH.cons rfl (fun K hK => ?_) AllReadyH.nil
        rw [if_pos (by kernel_rfl)]
        have HB8 := WirS.hide HB9.out.swap
        clear HB9
        refine store_sl (x := .tmp 32) (y := .tmp 31) (by kernel_rfl) X 33 ia im ic _ (by kernel_rfl) (by kernel_rfl) (HB8.out.head.cell 33) (by rw [ccl_33 _ _ _ rfl]; rfl) (HB8.out.head.frozen 33) ?_
        have hb9 := bag_set HB8.out 33 (.slice ia im ic)
        rw [ccl_set _ _ _ _ rfl] at hb9
        have HBE := WirS.hide (show Bag w _ [ownt (.slice ia im ic) (ps.take (k + 1)), box TC X (ccl ht hh1 (.slice ia im ic)), box TC R zcm] from ⟨hb9.low, fun o ho => hb9.all o (by simp at ho; rcases ho with rfl | rfl | rfl <;> simp), (by have h := hb9.swap.apart; exact h.sublist (by simp))⟩)
        clear hb9 HB8
        refine hK.out _ _ (HSH.out _ HBE.out.low) (fun hHeld => ?_)
        clear hK K
        try simp only [Act.put]
        refine wpAnyH_done (by kernel_rfl) ?_ _
        refine NoPanic.normal ?_
        clear hHeld
        generalize World.setCell u9 _ _ = y1 at *
        clear f1
        go_wp2_with fail
        go_roundw
        case rel => exact ⟨k + 1, ia, im, ic, by have := HLE.out; have := HJ.out; omega, by have := HJ.out; go_num, HBE.out⟩
        case measure => simp [intOf]; omega
    · have hke : k = ps.length := by have := HK.out; have := HLE.out; omega
      have HBF : Hid (Bag w wr [ownt (.slice a n c) ps, box TC X (ccl ht hh1 (.slice a n c)), box TC R zcm]) := by
        have h := HBG.out
        rw [hke, List.take_length] at h
        exact h
      have hlt2 : ¬ (j1 : Int) < (L : Int) := by omega
      clear HBG hke
      go_upto_region 6 with fail
      refine wp_region_lit ?_
      refine sL (by kernel_rfl) _ _ (by rfl) _ (by kernel_rfl) HBF.out.swap.head _ _ UC rfl (by kernel_rfl) (by rw [ccl_len _ _ _ rfl]) ?_
      simp only [Act.put, List.setIfInBounds_toArray, List.set_cons_succ, List.set_cons_zero]
      have HS := WirS.hide (HBF.out.perm (show [ownt (.slice a n c) ps, box TC X (ccl ht hh1 (.slice a n c)), box TC R zcm].Perm [box TC R zcm, ownt (.slice a n c) ps, box TC X (ccl ht hh1 (.slice a n c))] from List.perm_append_comm (l₁ := [ownt (.slice a n c) ps, box TC X (ccl ht hh1 (.slice a n c))]) (l₂ := [box TC R zcm])))
      clear HBF
      refine stepStore (by rfl) _ _ _ (by rfl) R (ccl ht hh1 (.slice a n c)) (by kernel_rfl) (by kernel_rfl) HS.out.head 34 (by kernel_rfl) (by rfl) (ccl_len _ _ _ rfl) (one_ccl _ _ _ _ _) ?_
      simp only [Act.put]
      have HF := WirS.hide (bag_row HS.out (ccl ht hh1 (.slice a n c)))
      clear HS
      generalize World.setRow wr R _ = xf at *
      go_wp2_with fail
      refine bodyPost_ret (retRow HF.out.head Try.results78 _ (by rfl) _ 34 UC rfl (by kernel_rfl) (ccl_len _ _ _ rfl)) rfl ?_
      exact ⟨a, n, c, rfl, HF.out.drop.head, fun q hq => (HF.out.all (ownt (.slice a n c) ps) (by simp)).2 q hq, HF.out.low⟩
end CmN
end Go.Proofs.Ythcemghamdmjmaa

namespace Go.Proofs.Ythcemghamdmjmaa
namespace CmO
open Go.RowKit
open BlkM WirM WirS CmA CmP CmB CmE CmI CmJ CmK CmL CmN
open WirX (Thg Bag)
open WirAA (box bag_box bag_set)
open WirAB (sCx)

set_option maxRecDepth 10000 in
set_option maxHeartbeats 8000000 in
theorem of_nil (w : World) (ht : Int) : Calls Try.prog 78 #[.int .i64 ht, .slice none 0 0] w (OfP w ht []) := by
  have hbR := bag_box (w0 := w) (T := TC) (cs := zcm) (X := w.heap.size) (Bag.nil (Below.refl _ _)) rfl (w' := w.alloc (.cells zcm.toArray TC)) (At.new _ _ _) (Below.alloc (Below.refl _ _) (Nat.le_refl _) _)
  go_enter Try.func78, Try.ntmps78
  go_upto_region 0 with fail
  refine wp_region_lit ?_
  refine sV (.pointer (some ⟨w.heap.size, 0, none⟩)) (w.alloc (.cells zcm.toArray TC)) (by kernel_rfl) (by kernel_rfl) ?_
  simp only [Act.put, List.setIfInBounds_toArray, List.set_cons_succ, List.set_cons_zero]
  obtain ⟨R, eR⟩ : ∃ A, w.heap.size = A := ⟨_, rfl⟩
  rw [eR] at hbR ⊢
  clear eR
  generalize World.alloc w _ = x0 at *
  go_upto_region 1 with fail
  refine wp_region_lit ?_
  refine sV (.int .i64 ht) (x0) (by kernel_rfl) (by kernel_rfl) ?_
  simp only [Act.put, List.setIfInBounds_toArray, List.set_cons_succ, List.set_cons_zero]
  refine sV (.agg (b8 hh1).toArray) (x0) (by kernel_rfl) (by kernel_rfl) ?_
  simp only [Act.put, List.setIfInBounds_toArray, List.set_cons_succ, List.set_cons_zero]
  refine sV (.agg (ccl ht hh1 (.slice none 0 0)).toArray) (x0) (by kernel_rfl) (by kernel_rfl) ?_
  simp only [Act.put, List.setIfInBounds_toArray, List.set_cons_succ, List.set_cons_zero]
  refine sV (.pointer (some ⟨x0.heap.size, 0, none⟩)) (x0.alloc (.cells zcm.toArray TC)) (by kernel_rfl) (by kernel_rfl) ?_
  simp only [Act.put, List.setIfInBounds_toArray, List.set_cons_succ, List.set_cons_zero]
  obtain ⟨X, eX⟩ : ∃ A, x0.heap.size = A := ⟨_, rfl⟩
  have hbX := bag_box (T := TC) (cs := zcm) (X := X) hbR eX.symm (w' := x0.alloc (.cells zcm.toArray TC)) (by rw [← eX]; exact At.new _ _ _) (Below.alloc (Below.refl _ _) (Nat.le_refl _) _)
  rw [eX]
  clear eX hbR
  generalize World.alloc x0 _ = x1 at *
  refine stepStore (by rfl) _ _ _ (by rfl) X (ccl ht hh1 (.slice none 0 0)) (by kernel_rfl) (by kernel_rfl) hbX.head 34 (by kernel_rfl) (by rfl) (by rfl) (one_ccl _ _ _ _ _) ?_
  simp only [Act.put]
  have HB2 := WirS.hide (bag_row hbX (ccl ht hh1 (.slice none 0 0)))
  clear hbX
  generalize World.setRow x1 X _ = x2 at *
  go_wp2_with fail
  refine wp_loop_rounds 1 ?_
  rw [rounds_succ]
  go_upto_region 6 with fail
  refine wp_region_lit ?_
  refine sL (by kernel_rfl) _ _ (by rfl) _ (by kernel_rfl) HB2.out.head _ _ UC rfl (by kernel_rfl) (by rw [ccl_len _ _ _ rfl]) ?_
  simp only [Act.put, List.setIfInBounds_toArray, List.set_cons_succ, List.set_cons_zero]
  have HS := WirS.hide HB2.out.swap
  clear HB2
  refine stepStore (by rfl) _ _ _ (by rfl) R (ccl ht hh1 (.slice none 0 0)) (by kernel_rfl) (by kernel_rfl) HS.out.head 34 (by kernel_rfl) (by rfl) (ccl_len _ _ _ rfl) (one_ccl _ _ _ _ _) ?_
  simp only [Act.put]
  have HF := WirS.hide (bag_row HS.out (ccl ht hh1 (.slice none 0 0)))
  clear HS
  generalize World.setRow x2 R _ = xf at *
  go_wp2_with fail
  refine bodyPost_ret (retRow HF.out.head Try.results78 _ (by rfl) _ 34 UC rfl (by kernel_rfl) (ccl_len _ _ _ rfl)) rfl ?_
  exact ⟨none, 0, 0, rfl, OwnT.nil _, fun q hq => by simp [Value.ownBlock] at hq, HF.out.low⟩
set_option maxRecDepth 10000 in
set_option maxHeartbeats 8000000 in
theorem adds_any (w : World) (ht ht2 : Int) (h h2 : List Int) (a b : Option Addr) (n c m d : Nat) (us : List Vt) (at0 sg err : Int) (hl : h.length = 32) (hl2 : h2.length = 32) (hw : VtIn w b m d us) (h0 : 0 ≤ sg) (h1 : sg < 18446744073709551616)
    (HA : ∀ U, Below w.heap.size w U → Calls Try.prog 83 #[.agg (ccl ht h (.slice a n c)).toArray, .agg #[.int .i64 at0, .int .u64 sg]] U (CP U err ht2 h2 us)) :
    Calls Try.prog 80 #[.agg (ccl ht h (.slice a n c)).toArray, .int .i64 at0, .int .i64 sg, .agg (ccl ht2 h2 (.slice b m d)).toArray, .int .i64 err] w fun e w' => e = .returned (.bool true) ∧ Below w.heap.size w w' := by
  have HL := WirS.hide hl
  have HL2 := WirS.hide hl2
  have HWT := WirS.hide hw
  have HUS := WirS.hide hw.len
  have HAD := WirS.hide HA
  have HSG := WirS.hide (And.intro h0 h1)
  clear hl hl2 hw HA h0 h1
  go_enter Try.func80, Try.ntmps80
  go_upto_region 0 with fail
  refine wp_region_lit ?_
  refine sV (.pointer (some ⟨w.heap.size, 0, none⟩)) (w.alloc (.cells (ccl ht h (.slice a n c)).toArray TC)) (by kernel_rfl) (by kernel_rfl) ?_
  simp only [Act.put, List.setIfInBounds_toArray, List.set_cons_succ, List.set_cons_zero]
  obtain ⟨X, eX⟩ : ∃ A, w.heap.size = A := ⟨_, rfl⟩
  have hbX := bag_box (w0 := w) (T := TC) (cs := (ccl ht h (.slice a n c))) (X := X) (Bag.nil (Below.refl _ _)) eX.symm (w' := w.alloc (.cells (ccl ht h (.slice a n c)).toArray TC)) (by rw [← eX]; exact At.new _ _ _) (Below.alloc (Below.refl _ _) (Nat.le_refl _) _)
  rw [eX]
  clear eX
  generalize World.alloc w _ = x0 at *
  refine sV (.pointer (some ⟨x0.heap.size, 0, none⟩)) (x0.alloc (.cells (ccl ht2 h2 (.slice b m d)).toArray TC)) (by kernel_rfl) (by kernel_rfl) ?_
  simp only [Act.put, List.setIfInBounds_toArray, List.set_cons_succ, List.set_cons_zero]
  obtain ⟨Y, eY⟩ : ∃ A, x0.heap.size = A := ⟨_, rfl⟩
  have hbY := bag_box (T := TC) (cs := (ccl ht2 h2 (.slice b m d))) (X := Y) hbX eY.symm (w' := x0.alloc (.cells (ccl ht2 h2 (.slice b m d)).toArray TC)) (by rw [← eY]; exact At.new _ _ _) (Below.alloc (Below.refl _ _) (Nat.le_refl _) _)
  rw [eY]
  clear eY hbX
  generalize World.alloc x0 _ = x1 at *
  have H2 := WirS.hide hbY
  clear hbY
  go_upto_region 1 with fail
  refine wp_region_lit ?_
  refine sL (by kernel_rfl) _ _ (by rfl) _ (by kernel_rfl) H2.out.drop.head _ _ UC rfl (by kernel_rfl) (by rw [ccl_len _ _ _ HL.out]) ?_
  simp only [Act.put, List.setIfInBounds_toArray, List.set_cons_succ, List.set_cons_zero]
  refine sV (.int .i64 at0) (x1) (by kernel_rfl) (by kernel_rfl) ?_
  simp only [Act.put, List.setIfInBounds_toArray, List.set_cons_succ, List.set_cons_zero]
  refine sV (.int .i64 sg) (x1) (by kernel_rfl) (by kernel_rfl) ?_
  simp only [Act.put, List.setIfInBounds_toArray, List.set_cons_succ, List.set_cons_zero]
  refine sV (.int .u64 sg) x1 (by kernel_rfl) (conv_u _ _ (.tmp 16) sg HSG.out.1 HSG.out.2 (by kernel_rfl) (by kernel_rfl) x1) ?_
  simp only [Act.put, List.setIfInBounds_toArray, List.set_cons_succ, List.set_cons_zero]
  refine sV (.agg #[.int .i64 at0, .int .u64 sg]) (x1) (by kernel_rfl) (by kernel_rfl) ?_
  simp only [Act.put, List.setIfInBounds_toArray, List.set_cons_succ, List.set_cons_zero]
  refine sCx (by kernel_rfl) (by kernel_rfl) (HAD.out x1 H2.out.low) ?_
  rintro e y0 ⟨ra, rn, rc, rfl, hro, hrn, hb⟩
  refine ⟨_, rfl, ?_⟩
  simp only [Act.put, List.setIfInBounds_toArray, List.set_cons_succ, List.set_cons_zero]
  have H3 := WirS.hide (bag_ownt H2.out hro hrn hb)
  clear hb H2 hro hrn
  refine sV (.tuple #[.agg (ccl ht2 h2 (.slice ra rn rc)).toArray, .int .i64 err]) (y0) (by kernel_rfl) (by kernel_rfl) ?_
  simp only [Act.put, List.setIfInBounds_toArray, List.set_cons_succ, List.set_cons_zero]
  refine sV (.agg (ccl ht2 h2 (.slice ra rn rc)).toArray) (y0) (by kernel_rfl) (by kernel_rfl) ?_
  simp only [Act.put, List.setIfInBounds_toArray, List.set_cons_succ, List.set_cons_zero]
  refine sV (.int .i64 err) (y0) (by kernel_rfl) (by kernel_rfl) ?_
  simp only [Act.put, List.setIfInBounds_toArray, List.set_cons_succ, List.set_cons_zero]
  refine sV (.pointer (some ⟨y0.heap.size, 0, none⟩)) (y0.alloc (.cells zcm.toArray TC)) (by kernel_rfl) (by kernel_rfl) ?_
  simp only [Act.put, List.setIfInBounds_toArray, List.set_cons_succ, List.set_cons_zero]
  obtain ⟨T, eT⟩ : ∃ A, y0.heap.size = A := ⟨_, rfl⟩
  have hbT := bag_box (T := TC) (cs := zcm) (X := T) H3.out eT.symm (w' := y0.alloc (.cells zcm.toArray TC)) (by rw [← eT]; exact At.new _ _ _) (Below.alloc (Below.refl _ _) (Nat.le_refl _) _)
  rw [eT]
  clear eT H3
  generalize World.alloc y0 _ = y1 at *
  refine stepStore (by rfl) _ _ _ (by rfl) T (ccl ht2 h2 (.slice ra rn rc)) (by kernel_rfl) (by kernel_rfl) hbT.head 34 (by kernel_rfl) (by rfl) (ccl_len _ _ _ HL2.out) (one_ccl _ _ _ _ _) ?_
  simp only [Act.put]
  have H4 := WirS.hide (bag_row hbT (ccl ht2 h2 (.slice ra rn rc)))
  clear hbT
  generalize World.setRow y1 T _ = y2 at *
  have hrm : rn = m := by
    have h1 := HUS.out
    obtain ⟨va, vc, e⟩ := H4.out.drop.head.len_of
    cases e
    exact h1
  have HSC := WirS.hide (sc_any y2 ht2 h2 ra b rn rc d us HL2.out H4.out.drop.head.vin (by rw [hrm]; exact HWT.out.below H4.out.low))
  have HRM := WirS.hide hrm
  clear hrm
  go_upto_region 2 with fail
  refine wp_region_lit ?_
  refine sV (.int .i64 err) (y2) (by kernel_rfl) (by kernel_rfl) ?_
  simp only [Act.put, List.setIfInBounds_toArray, List.set_cons_succ, List.set_cons_zero]
  refine sV (.int .i64 err) (y2) (by kernel_rfl) (by kernel_rfl) ?_
  simp only [Act.put, List.setIfInBounds_toArray, List.set_cons_succ, List.set_cons_zero]
  refine sB (by kernel_rfl) .eql _ _ _ _ (by rfl) (.int .i64 err) (.int .i64 err) (by kernel_rfl) (by kernel_rfl) (.bool true) (eqE err y2) (by kernel_rfl) ?_
  simp only [Act.put, List.setIfInBounds_toArray, List.set_cons_succ, List.set_cons_zero]
  refine sV (.bool true) (y2) (by kernel_rfl) (by kernel_rfl) ?_
  simp only [Act.put, List.setIfInBounds_toArray, List.set_cons_succ, List.set_cons_zero]
  refine sL (by kernel_rfl) _ _ (by rfl) _ (by kernel_rfl) H4.out.head _ _ UC rfl (by kernel_rfl) (by rw [ccl_len _ _ _ HL2.out]) ?_
  simp only [Act.put, List.setIfInBounds_toArray, List.set_cons_succ, List.set_cons_zero]
  refine sL (by kernel_rfl) _ _ (by rfl) _ (by kernel_rfl) H4.out.drop.drop.head _ _ UC rfl (by kernel_rfl) (by rw [ccl_len _ _ _ HL2.out]) ?_
  simp only [Act.put, List.setIfInBounds_toArray, List.set_cons_succ, List.set_cons_zero]
  rw [HRM.out] at HSC
  have HRN := WirS.hide HRM.out
  rw [HRN.out]
  refine sC (R := fun w' => Below y2.heap.size y2 w') (by kernel_rfl) (by kernel_rfl) HSC.out ?_
  rintro y3 hb
  simp only [Act.put, List.setIfInBounds_toArray, List.set_cons_succ, List.set_cons_zero]
  have HBF := WirS.hide (H4.out.low.trans (hb.mono H4.out.low.size))
  clear hb H4
  refine sV (.bool true) (y3) (by kernel_rfl) (by kernel_rfl) ?_
  simp only [Act.put, List.setIfInBounds_toArray, List.set_cons_succ, List.set_cons_zero]
  go_wp2_with fail
  go_ret
  exact ⟨rfl, HBF.out⟩
set_option maxRecDepth 10000 in
set_option maxHeartbeats 8000000 in
theorem joins_any (w : World) (ht hu ht2 : Int) (h k h2 : List Int) (a a2 b : Option Addr) (n c n2 c2 m d : Nat) (us : List Vt) (err : Int) (hl : h.length = 32) (kl : k.length = 32) (hl2 : h2.length = 32) (hw : VtIn w b m d us)
    (HA : ∀ U, Below w.heap.size w U → Calls Try.prog 171 #[.agg (ccl ht h (.slice a n c)).toArray, .agg (ccl hu k (.slice a2 n2 c2)).toArray] U (CP U err ht2 h2 us)) :
    Calls Try.prog 81 #[.agg (ccl ht h (.slice a n c)).toArray, .agg (ccl hu k (.slice a2 n2 c2)).toArray, .agg (ccl ht2 h2 (.slice b m d)).toArray, .int .i64 err] w fun e w' => e = .returned (.bool true) ∧ Below w.heap.size w w' := by
  have HL := WirS.hide hl
  have HK := WirS.hide kl
  have HL2 := WirS.hide hl2
  have HWT := WirS.hide hw
  have HUS := WirS.hide hw.len
  have HAD := WirS.hide HA
  clear hl kl hl2 hw HA
  go_enter Try.func81, Try.ntmps81
  go_upto_region 0 with fail
  refine wp_region_lit ?_
  refine sV (.pointer (some ⟨w.heap.size, 0, none⟩)) (w.alloc (.cells (ccl ht h (.slice a n c)).toArray TC)) (by kernel_rfl) (by kernel_rfl) ?_
  simp only [Act.put, List.setIfInBounds_toArray, List.set_cons_succ, List.set_cons_zero]
  obtain ⟨X, eX⟩ : ∃ A, w.heap.size = A := ⟨_, rfl⟩
  have hbX := bag_box (w0 := w) (T := TC) (cs := (ccl ht h (.slice a n c))) (X := X) (Bag.nil (Below.refl _ _)) eX.symm (w' := w.alloc (.cells (ccl ht h (.slice a n c)).toArray TC)) (by rw [← eX]; exact At.new _ _ _) (Below.alloc (Below.refl _ _) (Nat.le_refl _) _)
  rw [eX]
  clear eX
  generalize World.alloc w _ = x0 at *
  refine sV (.pointer (some ⟨x0.heap.size, 0, none⟩)) (x0.alloc (.cells (ccl hu k (.slice a2 n2 c2)).toArray TC)) (by kernel_rfl) (by kernel_rfl) ?_
  simp only [Act.put, List.setIfInBounds_toArray, List.set_cons_succ, List.set_cons_zero]
  obtain ⟨Y, eY⟩ : ∃ A, x0.heap.size = A := ⟨_, rfl⟩
  have hbY := bag_box (T := TC) (cs := (ccl hu k (.slice a2 n2 c2))) (X := Y) hbX eY.symm (w' := x0.alloc (.cells (ccl hu k (.slice a2 n2 c2)).toArray TC)) (by rw [← eY]; exact At.new _ _ _) (Below.alloc (Below.refl _ _) (Nat.le_refl _) _)
  rw [eY]
  clear eY hbX
  generalize World.alloc x0 _ = x1 at *
  refine sV (.pointer (some ⟨x1.heap.size, 0, none⟩)) (x1.alloc (.cells (ccl ht2 h2 (.slice b m d)).toArray TC)) (by kernel_rfl) (by kernel_rfl) ?_
  simp only [Act.put, List.setIfInBounds_toArray, List.set_cons_succ, List.set_cons_zero]
  obtain ⟨Z, eZ⟩ : ∃ A, x1.heap.size = A := ⟨_, rfl⟩
  have hbZ := bag_box (T := TC) (cs := (ccl ht2 h2 (.slice b m d))) (X := Z) hbY eZ.symm (w' := x1.alloc (.cells (ccl ht2 h2 (.slice b m d)).toArray TC)) (by rw [← eZ]; exact At.new _ _ _) (Below.alloc (Below.refl _ _) (Nat.le_refl _) _)
  rw [eZ]
  clear eZ hbY
  generalize World.alloc x1 _ = x2 at *
  have H2 := WirS.hide hbZ
  clear hbZ
  go_upto_region 1 with fail
  refine wp_region_lit ?_
  refine sL (by kernel_rfl) _ _ (by rfl) _ (by kernel_rfl) H2.out.drop.drop.head _ _ UC rfl (by kernel_rfl) (by rw [ccl_len _ _ _ HL.out]) ?_
  simp only [Act.put, List.setIfInBounds_toArray, List.set_cons_succ, List.set_cons_zero]
  refine sL (by kernel_rfl) _ _ (by rfl) _ (by kernel_rfl) H2.out.drop.head _ _ UC rfl (by kernel_rfl) (by rw [ccl_len _ _ _ HK.out]) ?_
  simp only [Act.put, List.setIfInBounds_toArray, List.set_cons_succ, List.set_cons_zero]
  refine sCx (by kernel_rfl) (by kernel_rfl) (HAD.out x2 H2.out.low) ?_
  rintro e y0 ⟨ra, rn, rc, rfl, hro, hrn, hb⟩
  refine ⟨_, rfl, ?_⟩
  simp only [Act.put, List.setIfInBounds_toArray, List.set_cons_succ, List.set_cons_zero]
  have H3 := WirS.hide (bag_ownt H2.out hro hrn hb)
  clear hb H2 hro hrn
  refine sV (.tuple #[.agg (ccl ht2 h2 (.slice ra rn rc)).toArray, .int .i64 err]) (y0) (by kernel_rfl) (by kernel_rfl) ?_
  simp only [Act.put, List.setIfInBounds_toArray, List.set_cons_succ, List.set_cons_zero]
  refine sV (.agg (ccl ht2 h2 (.slice ra rn rc)).toArray) (y0) (by kernel_rfl) (by kernel_rfl) ?_
  simp only [Act.put, List.setIfInBounds_toArray, List.set_cons_succ, List.set_cons_zero]
  refine sV (.int .i64 err) (y0) (by kernel_rfl) (by kernel_rfl) ?_
  simp only [Act.put, List.setIfInBounds_toArray, List.set_cons_succ, List.set_cons_zero]
  refine sV (.pointer (some ⟨y0.heap.size, 0, none⟩)) (y0.alloc (.cells zcm.toArray TC)) (by kernel_rfl) (by kernel_rfl) ?_
  simp only [Act.put, List.setIfInBounds_toArray, List.set_cons_succ, List.set_cons_zero]
  obtain ⟨T, eT⟩ : ∃ A, y0.heap.size = A := ⟨_, rfl⟩
  have hbT := bag_box (T := TC) (cs := zcm) (X := T) H3.out eT.symm (w' := y0.alloc (.cells zcm.toArray TC)) (by rw [← eT]; exact At.new _ _ _) (Below.alloc (Below.refl _ _) (Nat.le_refl _) _)
  rw [eT]
  clear eT H3
  generalize World.alloc y0 _ = y1 at *
  refine stepStore (by rfl) _ _ _ (by rfl) T (ccl ht2 h2 (.slice ra rn rc)) (by kernel_rfl) (by kernel_rfl) hbT.head 34 (by kernel_rfl) (by rfl) (ccl_len _ _ _ HL2.out) (one_ccl _ _ _ _ _) ?_
  simp only [Act.put]
  have H4 := WirS.hide (bag_row hbT (ccl ht2 h2 (.slice ra rn rc)))
  clear hbT
  generalize World.setRow y1 T _ = y2 at *
  have hrm : rn = m := by
    have h1 := HUS.out
    obtain ⟨va, vc, e⟩ := H4.out.drop.head.len_of
    cases e
    exact h1
  have HSC := WirS.hide (sc_any y2 ht2 h2 ra b rn rc d us HL2.out H4.out.drop.head.vin (by rw [hrm]; exact HWT.out.below H4.out.low))
  have HRM := WirS.hide hrm
  clear hrm
  go_upto_region 2 with fail
  refine wp_region_lit ?_
  refine sV (.int .i64 err) (y2) (by kernel_rfl) (by kernel_rfl) ?_
  simp only [Act.put, List.setIfInBounds_toArray, List.set_cons_succ, List.set_cons_zero]
  refine sV (.int .i64 err) (y2) (by kernel_rfl) (by kernel_rfl) ?_
  simp only [Act.put, List.setIfInBounds_toArray, List.set_cons_succ, List.set_cons_zero]
  refine sB (by kernel_rfl) .eql _ _ _ _ (by rfl) (.int .i64 err) (.int .i64 err) (by kernel_rfl) (by kernel_rfl) (.bool true) (eqE err y2) (by kernel_rfl) ?_
  simp only [Act.put, List.setIfInBounds_toArray, List.set_cons_succ, List.set_cons_zero]
  refine sV (.bool true) (y2) (by kernel_rfl) (by kernel_rfl) ?_
  simp only [Act.put, List.setIfInBounds_toArray, List.set_cons_succ, List.set_cons_zero]
  refine sL (by kernel_rfl) _ _ (by rfl) _ (by kernel_rfl) H4.out.head _ _ UC rfl (by kernel_rfl) (by rw [ccl_len _ _ _ HL2.out]) ?_
  simp only [Act.put, List.setIfInBounds_toArray, List.set_cons_succ, List.set_cons_zero]
  refine sL (by kernel_rfl) _ _ (by rfl) _ (by kernel_rfl) H4.out.drop.drop.head _ _ UC rfl (by kernel_rfl) (by rw [ccl_len _ _ _ HL2.out]) ?_
  simp only [Act.put, List.setIfInBounds_toArray, List.set_cons_succ, List.set_cons_zero]
  rw [HRM.out] at HSC
  have HRN := WirS.hide HRM.out
  rw [HRN.out]
  refine sC (R := fun w' => Below y2.heap.size y2 w') (by kernel_rfl) (by kernel_rfl) HSC.out ?_
  rintro y3 hb
  simp only [Act.put, List.setIfInBounds_toArray, List.set_cons_succ, List.set_cons_zero]
  have HBF := WirS.hide (H4.out.low.trans (hb.mono H4.out.low.size))
  clear hb H4
  refine sV (.bool true) (y3) (by kernel_rfl) (by kernel_rfl) ?_
  simp only [Act.put, List.setIfInBounds_toArray, List.set_cons_succ, List.set_cons_zero]
  go_wp2_with fail
  go_ret
  exact ⟨rfl, HBF.out⟩
end CmO
end Go.Proofs.Ythcemghamdmjmaa

namespace Go.Proofs.Ythcemghamdmjmaa
namespace CmQ
open Go.RowKit
open BlkM WirM WirS CmA CmP CmI CmJ CmL CmO
open CmB (TV TC ccl ofS)
open CmN (nums hh1)
open WirAB (sCx)

set_option maxRecDepth 20000 in
set_option maxHeartbeats 16000000 in
theorem awake_any (w : World) : Calls Try.prog 61 #[] w fun e w' => e = .returned (.bool true) ∧ Below w.heap.size w w' := by
  have HW := WirS.hide (Below.refl w.heap.size w)
  go_enter Try.func61, Try.ntmps61
  go_upto_region 1 with fail
  refine wp_region_lit ?_
  refine sV (.slice (some ⟨w.heap.size, 0, none⟩) 4 4) (w.alloc (.cells (nums ([⟨0, 7⟩, ⟨3, 9⟩] : List Vt)).toArray 3)) (by kernel_rfl) (by kernel_rfl) ?_
  simp only [Act.put, List.setIfInBounds_toArray, List.set_cons_succ, List.set_cons_zero]
  obtain ⟨B1, eB1⟩ : ∃ A, w.heap.size = A := ⟨_, rfl⟩
  have HA1 := WirS.hide (show At (w.alloc (.cells (nums ([⟨0, 7⟩, ⟨3, 9⟩] : List Vt)).toArray 3)) B1 3 _ from by rw [← eB1]; exact At.new _ _ _)
  have hb : Below w.heap.size w (w.alloc (.cells (nums ([⟨0, 7⟩, ⟨3, 9⟩] : List Vt)).toArray 3)) := Below.alloc (Below.refl _ _) (Nat.le_refl _) _
  rw [eB1]
  clear eB1
  generalize World.alloc w _ = u1 at *
  replace HW := WirS.hide (HW.out.trans (hb.mono HW.out.size))
  clear hb
  refine sCx (by kernel_rfl) (by kernel_rfl) (CmN.of_any u1 B1 4 5 ([⟨0, 7⟩, ⟨3, 9⟩] : List Vt) HA1.out (by decide) (by intro x hx; simp at hx; rcases hx with rfl | rfl <;> exact ⟨by decide, by decide⟩)) ?_
  rintro e u2 ⟨a2, n2, c2, rfl, ho, _, hb⟩
  refine ⟨_, rfl, ?_⟩
  simp only [Act.put, List.setIfInBounds_toArray, List.set_cons_succ, List.set_cons_zero]
  have HV2 := WirS.hide ho.vin
  clear ho HA1
  replace HW := WirS.hide (HW.out.trans (hb.mono HW.out.size))
  clear hb
  refine sC (R := fun w' => Below u2.heap.size u2 w') (by kernel_rfl) (by kernel_rfl) (by have C := CmB.of_any u2 5 hh1 a2 n2 c2 ([⟨0, 7⟩, ⟨3, 9⟩] : List Vt) 3 rfl HV2.out; rw [show ofS 3 ([⟨0, 7⟩, ⟨3, 9⟩] : List Vt) = 9 from by kernel_rfl, show (ofV 3 ([⟨0, 7⟩, ⟨3, 9⟩] : List Vt)).isSome = true from by kernel_rfl] at C; exact C) ?_
  rintro u3 hb
  simp only [Act.put, List.setIfInBounds_toArray, List.set_cons_succ, List.set_cons_zero]
  replace HW := WirS.hide (HW.out.trans (hb.mono HW.out.size))
  replace HV2 := WirS.hide (HV2.out.below hb)
  clear hb
  refine sV (.tuple #[.int .u64 9, .bool true]) (u3) (by kernel_rfl) (by kernel_rfl) ?_
  simp only [Act.put, List.setIfInBounds_toArray, List.set_cons_succ, List.set_cons_zero]
  refine sV (.int .u64 9) (u3) (by kernel_rfl) (by kernel_rfl) ?_
  simp only [Act.put, List.setIfInBounds_toArray, List.set_cons_succ, List.set_cons_zero]
  refine sV (.bool true) (u3) (by kernel_rfl) (by kernel_rfl) ?_
  simp only [Act.put, List.setIfInBounds_toArray, List.set_cons_succ, List.set_cons_zero]
  go_upto_region 2 with fail
  refine wp_region_lit ?_
  refine sV (.int .u64 9) (u3) (by kernel_rfl) (by kernel_rfl) ?_
  simp only [Act.put, List.setIfInBounds_toArray, List.set_cons_succ, List.set_cons_zero]
  refine sV (.bool true) (u3) (by kernel_rfl) (by kernel_rfl) ?_
  simp only [Act.put, List.setIfInBounds_toArray, List.set_cons_succ, List.set_cons_zero]
  refine sV (.bool true) (u3) (by kernel_rfl) (by kernel_rfl) ?_
  simp only [Act.put, List.setIfInBounds_toArray, List.set_cons_succ, List.set_cons_zero]
  refine sV (.bool true) (u3) (by kernel_rfl) (by kernel_rfl) ?_
  simp only [Act.put, List.setIfInBounds_toArray, List.set_cons_succ, List.set_cons_zero]
  refine sV (.bool true) (u3) (by kernel_rfl) (by kernel_rfl) ?_
  simp only [Act.put, List.setIfInBounds_toArray, List.set_cons_succ, List.set_cons_zero]
  refine sV (.bool true) (u3) (by kernel_rfl) (by kernel_rfl) ?_
  simp only [Act.put, List.setIfInBounds_toArray, List.set_cons_succ, List.set_cons_zero]
  refine sV (.slice (some ⟨u3.heap.size, 0, none⟩) 2 2) (u3.alloc (.cells (nums ([⟨3, 9⟩] : List Vt)).toArray 3)) (by kernel_rfl) (by kernel_rfl) ?_
  simp only [Act.put, List.setIfInBounds_toArray, List.set_cons_succ, List.set_cons_zero]
  obtain ⟨B4, eB4⟩ : ∃ A, u3.heap.size = A := ⟨_, rfl⟩
  have HA4 := WirS.hide (show At (u3.alloc (.cells (nums ([⟨3, 9⟩] : List Vt)).toArray 3)) B4 3 _ from by rw [← eB4]; exact At.new _ _ _)
  have hb : Below u3.heap.size u3 (u3.alloc (.cells (nums ([⟨3, 9⟩] : List Vt)).toArray 3)) := Below.alloc (Below.refl _ _) (Nat.le_refl _) _
  rw [eB4]
  clear eB4
  generalize World.alloc u3 _ = u4 at *
  replace HW := WirS.hide (HW.out.trans (hb.mono HW.out.size))
  replace HV2 := WirS.hide (HV2.out.below hb)
  clear hb
  refine sCx (by kernel_rfl) (by kernel_rfl) (CmN.of_any u4 B4 2 5 ([⟨3, 9⟩] : List Vt) HA4.out (by decide) (by intro x hx; simp at hx; rcases hx with rfl <;> exact ⟨by decide, by decide⟩)) ?_
  rintro e u5 ⟨a5, n5, c5, rfl, ho, _, hb⟩
  refine ⟨_, rfl, ?_⟩
  simp only [Act.put, List.setIfInBounds_toArray, List.set_cons_succ, List.set_cons_zero]
  have HV5 := WirS.hide ho.vin
  clear ho HA4
  replace HW := WirS.hide (HW.out.trans (hb.mono HW.out.size))
  replace HV2 := WirS.hide (HV2.out.below hb)
  clear hb
  refine sV (.slice (some ⟨u5.heap.size, 0, none⟩) 4 4) (u5.alloc (.cells (nums ([⟨0, 7⟩, ⟨3, 9⟩] : List Vt)).toArray 3)) (by kernel_rfl) (by kernel_rfl) ?_
  simp only [Act.put, List.setIfInBounds_toArray, List.set_cons_succ, List.set_cons_zero]
  obtain ⟨B6, eB6⟩ : ∃ A, u5.heap.size = A := ⟨_, rfl⟩
  have HA6 := WirS.hide (show At (u5.alloc (.cells (nums ([⟨0, 7⟩, ⟨3, 9⟩] : List Vt)).toArray 3)) B6 3 _ from by rw [← eB6]; exact At.new _ _ _)
  have hb : Below u5.heap.size u5 (u5.alloc (.cells (nums ([⟨0, 7⟩, ⟨3, 9⟩] : List Vt)).toArray 3)) := Below.alloc (Below.refl _ _) (Nat.le_refl _) _
  rw [eB6]
  clear eB6
  generalize World.alloc u5 _ = u6 at *
  replace HW := WirS.hide (HW.out.trans (hb.mono HW.out.size))
  replace HV2 := WirS.hide (HV2.out.below hb)
  replace HV5 := WirS.hide (HV5.out.below hb)
  clear hb
  refine sCx (by kernel_rfl) (by kernel_rfl) (CmN.of_any u6 B6 4 5 ([⟨0, 7⟩, ⟨3, 9⟩] : List Vt) HA6.out (by decide) (by intro x hx; simp at hx; rcases hx with rfl | rfl <;> exact ⟨by decide, by decide⟩)) ?_
  rintro e u7 ⟨a7, n7, c7, rfl, ho, _, hb⟩
  refine ⟨_, rfl, ?_⟩
  simp only [Act.put, List.setIfInBounds_toArray, List.set_cons_succ, List.set_cons_zero]
  have HV7 := WirS.hide ho.vin
  clear ho HA6
  replace HW := WirS.hide (HW.out.trans (hb.mono HW.out.size))
  replace HV2 := WirS.hide (HV2.out.below hb)
  replace HV5 := WirS.hide (HV5.out.below hb)
  clear hb
  refine sC (R := fun w' => Below u7.heap.size u7 w') (by kernel_rfl) (by kernel_rfl) (adds_any u7 5 5 hh1 hh1 a5 a7 n5 c5 n7 c7 ([⟨0, 7⟩, ⟨3, 9⟩] : List Vt) 0 7 0 rfl rfl HV7.out (by decide) (by decide) (fun U hU => by have C := CmJ.add_any U 5 hh1 a5 n5 c5 ([⟨3, 9⟩] : List Vt) ⟨0, 7⟩ rfl (HV5.out.below hU) (by have := HV5.out.len; simp at this; omega) ⟨by decide, by decide⟩; rw [show addE 5 ([⟨3, 9⟩] : List Vt) ⟨0, 7⟩ = 0 from by kernel_rfl] at C; exact C)) ?_
  rintro u8 hb
  simp only [Act.put, List.setIfInBounds_toArray, List.set_cons_succ, List.set_cons_zero]
  replace HW := WirS.hide (HW.out.trans (hb.mono HW.out.size))
  replace HV2 := WirS.hide (HV2.out.below hb)
  replace HV5 := WirS.hide (HV5.out.below hb)
  replace HV7 := WirS.hide (HV7.out.below hb)
  clear hb
  refine sV (.bool true) (u8) (by kernel_rfl) (by kernel_rfl) ?_
  simp only [Act.put, List.setIfInBounds_toArray, List.set_cons_succ, List.set_cons_zero]
  refine sV (.bool true) (u8) (by kernel_rfl) (by kernel_rfl) ?_
  simp only [Act.put, List.setIfInBounds_toArray, List.set_cons_succ, List.set_cons_zero]
  refine sCx (by kernel_rfl) (by kernel_rfl) (of_nil u8 0) ?_
  rintro e u9 ⟨a9, n9, c9, rfl, ho, _, hb⟩
  refine ⟨_, rfl, ?_⟩
  simp only [Act.put, List.setIfInBounds_toArray, List.set_cons_succ, List.set_cons_zero]
  have HV9 := WirS.hide ho.vin
  clear ho
  replace HW := WirS.hide (HW.out.trans (hb.mono HW.out.size))
  replace HV2 := WirS.hide (HV2.out.below hb)
  replace HV5 := WirS.hide (HV5.out.below hb)
  replace HV7 := WirS.hide (HV7.out.below hb)
  clear hb
  refine sC (R := fun w' => Below u9.heap.size u9 w') (by kernel_rfl) (by kernel_rfl) (by have C := CmB.check_any u9 0 hh1 a9 n9 c9 ([] : List Vt) rfl HV9.out; rw [show chk 0 ([] : List Vt) = 3 from by kernel_rfl] at C; exact C) ?_
  rintro u10 hb
  simp only [Act.put, List.setIfInBounds_toArray, List.set_cons_succ, List.set_cons_zero]
  replace HW := WirS.hide (HW.out.trans (hb.mono HW.out.size))
  replace HV2 := WirS.hide (HV2.out.below hb)
  replace HV5 := WirS.hide (HV5.out.below hb)
  replace HV7 := WirS.hide (HV7.out.below hb)
  replace HV9 := WirS.hide (HV9.out.below hb)
  clear hb
  refine sV (.bool true) (u10) (by kernel_rfl) (by kernel_rfl) ?_
  simp only [Act.put, List.setIfInBounds_toArray, List.set_cons_succ, List.set_cons_zero]
  refine sV (.bool true) (u10) (by kernel_rfl) (by kernel_rfl) ?_
  simp only [Act.put, List.setIfInBounds_toArray, List.set_cons_succ, List.set_cons_zero]
  refine sV (.bool true) (u10) (by kernel_rfl) (by kernel_rfl) ?_
  simp only [Act.put, List.setIfInBounds_toArray, List.set_cons_succ, List.set_cons_zero]
  refine sV (.slice (some ⟨u10.heap.size, 0, none⟩) 2 2) (u10.alloc (.cells (nums ([⟨0, 7⟩] : List Vt)).toArray 3)) (by kernel_rfl) (by kernel_rfl) ?_
  simp only [Act.put, List.setIfInBounds_toArray, List.set_cons_succ, List.set_cons_zero]
  obtain ⟨B11, eB11⟩ : ∃ A, u10.heap.size = A := ⟨_, rfl⟩
  have HA11 := WirS.hide (show At (u10.alloc (.cells (nums ([⟨0, 7⟩] : List Vt)).toArray 3)) B11 3 _ from by rw [← eB11]; exact At.new _ _ _)
  have hb : Below u10.heap.size u10 (u10.alloc (.cells (nums ([⟨0, 7⟩] : List Vt)).toArray 3)) := Below.alloc (Below.refl _ _) (Nat.le_refl _) _
  rw [eB11]
  clear eB11
  generalize World.alloc u10 _ = u11 at *
  replace HW := WirS.hide (HW.out.trans (hb.mono HW.out.size))
  replace HV2 := WirS.hide (HV2.out.below hb)
  replace HV5 := WirS.hide (HV5.out.below hb)
  replace HV7 := WirS.hide (HV7.out.below hb)
  replace HV9 := WirS.hide (HV9.out.below hb)
  clear hb
  refine sCx (by kernel_rfl) (by kernel_rfl) (CmN.of_any u11 B11 2 5 ([⟨0, 7⟩] : List Vt) HA11.out (by decide) (by intro x hx; simp at hx; rcases hx with rfl <;> exact ⟨by decide, by decide⟩)) ?_
  rintro e u12 ⟨a12, n12, c12, rfl, ho, _, hb⟩
  refine ⟨_, rfl, ?_⟩
  simp only [Act.put, List.setIfInBounds_toArray, List.set_cons_succ, List.set_cons_zero]
  have HV12 := WirS.hide ho.vin
  clear ho HA11
  replace HW := WirS.hide (HW.out.trans (hb.mono HW.out.size))
  replace HV2 := WirS.hide (HV2.out.below hb)
  replace HV5 := WirS.hide (HV5.out.below hb)
  replace HV7 := WirS.hide (HV7.out.below hb)
  replace HV9 := WirS.hide (HV9.out.below hb)
  clear hb
  refine sV (.slice (some ⟨u12.heap.size, 0, none⟩) 4 4) (u12.alloc (.cells (nums ([⟨0, 7⟩, ⟨3, 9⟩] : List Vt)).toArray 3)) (by kernel_rfl) (by kernel_rfl) ?_
  simp only [Act.put, List.setIfInBounds_toArray, List.set_cons_succ, List.set_cons_zero]
  obtain ⟨B13, eB13⟩ : ∃ A, u12.heap.size = A := ⟨_, rfl⟩
  have HA13 := WirS.hide (show At (u12.alloc (.cells (nums ([⟨0, 7⟩, ⟨3, 9⟩] : List Vt)).toArray 3)) B13 3 _ from by rw [← eB13]; exact At.new _ _ _)
  have hb : Below u12.heap.size u12 (u12.alloc (.cells (nums ([⟨0, 7⟩, ⟨3, 9⟩] : List Vt)).toArray 3)) := Below.alloc (Below.refl _ _) (Nat.le_refl _) _
  rw [eB13]
  clear eB13
  generalize World.alloc u12 _ = u13 at *
  replace HW := WirS.hide (HW.out.trans (hb.mono HW.out.size))
  replace HV2 := WirS.hide (HV2.out.below hb)
  replace HV5 := WirS.hide (HV5.out.below hb)
  replace HV7 := WirS.hide (HV7.out.below hb)
  replace HV9 := WirS.hide (HV9.out.below hb)
  replace HV12 := WirS.hide (HV12.out.below hb)
  clear hb
  refine sCx (by kernel_rfl) (by kernel_rfl) (CmN.of_any u13 B13 4 5 ([⟨0, 7⟩, ⟨3, 9⟩] : List Vt) HA13.out (by decide) (by intro x hx; simp at hx; rcases hx with rfl | rfl <;> exact ⟨by decide, by decide⟩)) ?_
  rintro e u14 ⟨a14, n14, c14, rfl, ho, _, hb⟩
  refine ⟨_, rfl, ?_⟩
  simp only [Act.put, List.setIfInBounds_toArray, List.set_cons_succ, List.set_cons_zero]
  have HV14 := WirS.hide ho.vin
  clear ho HA13
  replace HW := WirS.hide (HW.out.trans (hb.mono HW.out.size))
  replace HV2 := WirS.hide (HV2.out.below hb)
  replace HV5 := WirS.hide (HV5.out.below hb)
  replace HV7 := WirS.hide (HV7.out.below hb)
  replace HV9 := WirS.hide (HV9.out.below hb)
  replace HV12 := WirS.hide (HV12.out.below hb)
  clear hb
  refine sV (.slice (some ⟨u14.heap.size, 0, none⟩) 4 4) (u14.alloc (.cells (nums ([⟨0, 7⟩, ⟨3, 9⟩] : List Vt)).toArray 3)) (by kernel_rfl) (by kernel_rfl) ?_
  simp only [Act.put, List.setIfInBounds_toArray, List.set_cons_succ, List.set_cons_zero]
  obtain ⟨B15, eB15⟩ : ∃ A, u14.heap.size = A := ⟨_, rfl⟩
  have HA15 := WirS.hide (show At (u14.alloc (.cells (nums ([⟨0, 7⟩, ⟨3, 9⟩] : List Vt)).toArray 3)) B15 3 _ from by rw [← eB15]; exact At.new _ _ _)
  have hb : Below u14.heap.size u14 (u14.alloc (.cells (nums ([⟨0, 7⟩, ⟨3, 9⟩] : List Vt)).toArray 3)) := Below.alloc (Below.refl _ _) (Nat.le_refl _) _
  rw [eB15]
  clear eB15
  generalize World.alloc u14 _ = u15 at *
  replace HW := WirS.hide (HW.out.trans (hb.mono HW.out.size))
  replace HV2 := WirS.hide (HV2.out.below hb)
  replace HV5 := WirS.hide (HV5.out.below hb)
  replace HV7 := WirS.hide (HV7.out.below hb)
  replace HV9 := WirS.hide (HV9.out.below hb)
  replace HV12 := WirS.hide (HV12.out.below hb)
  replace HV14 := WirS.hide (HV14.out.below hb)
  clear hb
  refine sCx (by kernel_rfl) (by kernel_rfl) (CmN.of_any u15 B15 4 5 ([⟨0, 7⟩, ⟨3, 9⟩] : List Vt) HA15.out (by decide) (by intro x hx; simp at hx; rcases hx with rfl | rfl <;> exact ⟨by decide, by decide⟩)) ?_
  rintro e u16 ⟨a16, n16, c16, rfl, ho, _, hb⟩
  refine ⟨_, rfl, ?_⟩
  simp only [Act.put, List.setIfInBounds_toArray, List.set_cons_succ, List.set_cons_zero]
  have HV16 := WirS.hide ho.vin
  clear ho HA15
  replace HW := WirS.hide (HW.out.trans (hb.mono HW.out.size))
  replace HV2 := WirS.hide (HV2.out.below hb)
  replace HV5 := WirS.hide (HV5.out.below hb)
  replace HV7 := WirS.hide (HV7.out.below hb)
  replace HV9 := WirS.hide (HV9.out.below hb)
  replace HV12 := WirS.hide (HV12.out.below hb)
  replace HV14 := WirS.hide (HV14.out.below hb)
  clear hb
  refine sC (R := fun w' => Below u16.heap.size u16 w') (by kernel_rfl) (by kernel_rfl) (joins_any u16 5 5 5 hh1 hh1 hh1 a12 a14 a16 n12 c12 n14 c14 n16 c16 ([⟨0, 7⟩, ⟨3, 9⟩] : List Vt) 0 rfl rfl rfl HV16.out (fun U hU => by have C := CmL.join_any U 5 5 hh1 hh1 a12 a14 n12 c12 n14 c14 ([⟨0, 7⟩] : List Vt) ([⟨0, 7⟩, ⟨3, 9⟩] : List Vt) rfl rfl (HV12.out.below hU) (HV14.out.below hU) (by have := HV12.out.len; simp at this; omega) (by have := HV14.out.len; simp at this; omega); rw [show joinO 5 hh1 ([⟨0, 7⟩] : List Vt) 5 hh1 ([⟨0, 7⟩, ⟨3, 9⟩] : List Vt) = (0, some ([⟨0, 7⟩, ⟨3, 9⟩] : List Vt)) from by kernel_rfl] at C; exact C)) ?_
  rintro u17 hb
  simp only [Act.put, List.setIfInBounds_toArray, List.set_cons_succ, List.set_cons_zero]
  replace HW := WirS.hide (HW.out.trans (hb.mono HW.out.size))
  replace HV2 := WirS.hide (HV2.out.below hb)
  replace HV5 := WirS.hide (HV5.out.below hb)
  replace HV7 := WirS.hide (HV7.out.below hb)
  replace HV9 := WirS.hide (HV9.out.below hb)
  replace HV12 := WirS.hide (HV12.out.below hb)
  replace HV14 := WirS.hide (HV14.out.below hb)
  replace HV16 := WirS.hide (HV16.out.below hb)
  clear hb
  refine sV (.bool true) (u17) (by kernel_rfl) (by kernel_rfl) ?_
  simp only [Act.put, List.setIfInBounds_toArray, List.set_cons_succ, List.set_cons_zero]
  go_wp2_with fail
  go_ret
  exact ⟨rfl, HW.out⟩
end CmQ
end Go.Proofs.Ythcemghamdmjmaa

